/-
  The exact law of UidsOf out of what the two functions answer (made by tools/lawc.py).
-/
import Derived.Test.YtboinphhpfggnaaBoxA
import Derived.Test.YtboinphhpfggnaaLgB
import Derived.Test.YtboinphhpfggnaaGa
namespace Go.Proofs.Ytboinphhpfggnaa
open Go.RowKit

def CtrUidsOf (f : FuncId) (G : World → Prop) : Prop := ∀ (x_B : BoxD) (r_B_3 : Value) (W : World), G W → LfRd W (msgsLf x_B.msgs) r_B_3 → szLs x_B.lf ≤ 1048576 → LsBnd x_B.lf → 
  Calls Try.prog f #[.agg #[sv x_B.name, .int .i64 x_B.validity, .int .i64 x_B.next, r_B_3]] W fun e w' => ∃ z0 f0, e = .returned (z0) ∧ LfIn w' (intsLf (bxUids x_B)) z0 f0 ∧ f0.Nodup ∧ (∀ q ∈ f0, W.heap.size ≤ q) ∧ Below W.heap.size W w'

set_option maxRecDepth 20000 in
set_option maxHeartbeats 12800000 in
theorem FnExactUidsOf_of {G : World → Prop} (hK : Keeps G) (SP : CtrUidsOf 26 (fun _ => True)) (IM : CtrUidsOf 19 G) (x_B : BoxD) (r_B_3 : Value) (w : World) (hG : G w) (h_r_B_3 : LfRd w (msgsLf x_B.msgs) r_B_3) (hb_B : LsBnd x_B.lf) (hr_0 : szLs x_B.lf ≤ 1048576 → szLf (intsLf (bxUids x_B)) ≤ 1000000000) :
    Calls Try.prog 5 #[.agg #[sv x_B.name, .int .i64 x_B.validity, .int .i64 x_B.next, r_B_3]] w fun e w' => e = .returned (.bool true) ∧ Below w.heap.size w w' := by
  have H_r_B_3 := Lib.hid h_r_B_3
  obtain ⟨p_B_3, c_B_3, rfl⟩ := LfRd.slice h_r_B_3
  clear h_r_B_3
  by_cases k0 : szLs x_B.lf ≤ 1048576
  case neg =>
    have q0 := fun (ll : Int) (W : World) (hl : ll = ((1048576 : Nat) : Int)) (g0 : LfRd W (msgsLf x_B.msgs) (.slice p_B_3 x_B.msgs.length c_B_3)) => szBox_g x_B (.slice p_B_3 x_B.msgs.length c_B_3) ll 1048576 hl W g0 hb_B (by omega)
    simp only [show szN 1048576 (szLs x_B.lf) = -1 from szN_no k0] at q0
    have C_sz0 := Lib.hid q0
    clear q0 SP IM hr_0
    have hb : Below w.heap.size w (w.alloc (.cells #[sv x_B.name, .int .i64 x_B.validity, .int .i64 x_B.next, (.slice p_B_3 x_B.msgs.length c_B_3)] 39)) := ((Below.refl _ _).alloc (Nat.le_refl _) _)
    have HB1 := Lib.hid (show (w.alloc (.cells #[sv x_B.name, .int .i64 x_B.validity, .int .i64 x_B.next, (.slice p_B_3 x_B.msgs.length c_B_3)] 39)).heap[w.heap.size]? = some (.cells #[sv x_B.name, .int .i64 x_B.validity, .int .i64 x_B.next, (.slice p_B_3 x_B.msgs.length c_B_3)] 39 (0, 0)) from by
      have h := heap_alloc_new w (.cells #[sv x_B.name, .int .i64 x_B.validity, .int .i64 x_B.next, (.slice p_B_3 x_B.msgs.length c_B_3)] 39)
      exact h)
    have hz0 : w.heap.size + 1 ≤ (w.alloc (.cells #[sv x_B.name, .int .i64 x_B.validity, .int .i64 x_B.next, (.slice p_B_3 x_B.msgs.length c_B_3)] 39)).heap.size := by simp
    generalize hW0 : (w.alloc (.cells #[sv x_B.name, .int .i64 x_B.validity, .int .i64 x_B.next, (.slice p_B_3 x_B.msgs.length c_B_3)] 39)) = W0 at *
    go_enter Try.func5, Try.ntmps5
    have hbz := Lib.hid hb.size
    have y2 := (Lib.cell_of_heap HB1.out 0).trans (show _ = some (sv x_B.name) from rfl)
    have y3 := (Lib.cell_of_heap HB1.out 1).trans (show _ = some (.int .i64 x_B.validity) from rfl)
    have y4 := (Lib.cell_of_heap HB1.out 2).trans (show _ = some (.int .i64 x_B.next) from rfl)
    have y5 := (Lib.cell_of_heap HB1.out 3).trans (show _ = some ((.slice p_B_3 x_B.msgs.length c_B_3)) from rfl)
    go_wp2_with fail
    refine (C_sz0.out _ _ (by first | rfl | omega) (LfRd.below hb _ _ H_r_B_3.out)).mono ?_
    rintro e w6 ⟨rfl, b7⟩
    clear y2 y3 y4 y5
    have F8 := Lib.hid ((b7.block (w.heap.size) (Array.getElem?_eq_some_iff.1 HB1.out).1).trans HB1.out)
    clear HB1
    have hz9 : W0.heap.size ≤ w6.heap.size := b7.size
    replace hb := hb.trans (b7.mono hb.size)
    clear b7
    go_wp2
    go_ret
    exact ⟨rfl, hb⟩
  obtain ⟨L1, hL1⟩ : ∃ L, L + szLs x_B.lf = 1048576 := ⟨1048576 - szLs x_B.lf, by omega⟩
  have bL1 : L1 ≤ 1048576 := by omega
  have nL1 : ¬ (L1 : Int) < 0 := by omega
  have q0 := fun (ll : Int) (W : World) (hl : ll = ((1048576 : Nat) : Int)) (g0 : LfRd W (msgsLf x_B.msgs) (.slice p_B_3 x_B.msgs.length c_B_3)) => szBox_g x_B (.slice p_B_3 x_B.msgs.length c_B_3) ll 1048576 hl W g0 hb_B (by omega)
  simp only [show szN 1048576 (szLs x_B.lf) = (L1 : Int) from by rw [szN_yes k0]; omega] at q0
  have C_sz0 := Lib.hid q0
  clear q0
  have HL1 := Lib.hid hL1
  have hsz_0 : szLs x_B.lf ≤ 1048576 := by omega
  clear hL1
  have hsm_B : szLs x_B.lf ≤ 1048576 := by omega
  have SZ_B := Lib.hid hsm_B
  have CN_B := Lib.hid (show 1 + cntLf (msgsLf x_B.msgs) ≤ 1000000000 from by have hs := BoxD.sz x_B; have h3 := cntRow_le (msgsLf_fit x_B.msgs); simp only [msgsLf] at hs ⊢; omega)
  have C_to_B := Lib.hid (fun (W : World) (g0 : LfRd W (msgsLf x_B.msgs) (.slice p_B_3 x_B.msgs.length c_B_3)) => toBox_g x_B (.slice p_B_3 x_B.msgs.length c_B_3) W g0 (by omega))
  have C_spec := Lib.hid (fun (u_B_0 : Value) (W : World) (k_B_0 : LfRd W (msgsLf x_B.msgs) u_B_0) => SP x_B u_B_0 W trivial k_B_0 hsm_B hb_B)
  have C_impl := Lib.hid (fun (u_B_0 : Value) (W : World) (hg : G W) (k_B_0 : LfRd W (msgsLf x_B.msgs) u_B_0) => IM x_B u_B_0 W hg k_B_0 hsm_B hb_B)
  have hq_0 := hr_0 hsm_B
  have SZ_r0 := Lib.hid hq_0
  have CN_r0 := Lib.hid (show 1 + cntLf (intsLf (bxUids x_B)) ≤ 100000000000 from by have h := cntRow_le (intsLf_fit (bxUids x_B)); simp only [intsLf] at h hq_0 ⊢; omega)
  clear hq_0
  clear SP IM hr_0 hb_B hsm_B
  have hb : Below w.heap.size w (w.alloc (.cells #[sv x_B.name, .int .i64 x_B.validity, .int .i64 x_B.next, (.slice p_B_3 x_B.msgs.length c_B_3)] 39)) := ((Below.refl _ _).alloc (Nat.le_refl _) _)
  have HB1 := Lib.hid (show (w.alloc (.cells #[sv x_B.name, .int .i64 x_B.validity, .int .i64 x_B.next, (.slice p_B_3 x_B.msgs.length c_B_3)] 39)).heap[w.heap.size]? = some (.cells #[sv x_B.name, .int .i64 x_B.validity, .int .i64 x_B.next, (.slice p_B_3 x_B.msgs.length c_B_3)] 39 (0, 0)) from by
    have h := heap_alloc_new w (.cells #[sv x_B.name, .int .i64 x_B.validity, .int .i64 x_B.next, (.slice p_B_3 x_B.msgs.length c_B_3)] 39)
    exact h)
  have hz0 : w.heap.size + 1 ≤ (w.alloc (.cells #[sv x_B.name, .int .i64 x_B.validity, .int .i64 x_B.next, (.slice p_B_3 x_B.msgs.length c_B_3)] 39)).heap.size := by simp
  generalize hW0 : (w.alloc (.cells #[sv x_B.name, .int .i64 x_B.validity, .int .i64 x_B.next, (.slice p_B_3 x_B.msgs.length c_B_3)] 39)) = W0 at *
  go_enter Try.func5, Try.ntmps5
  have hbz := Lib.hid hb.size
  have y2 := (Lib.cell_of_heap HB1.out 0).trans (show _ = some (sv x_B.name) from rfl)
  have y3 := (Lib.cell_of_heap HB1.out 1).trans (show _ = some (.int .i64 x_B.validity) from rfl)
  have y4 := (Lib.cell_of_heap HB1.out 2).trans (show _ = some (.int .i64 x_B.next) from rfl)
  have y5 := (Lib.cell_of_heap HB1.out 3).trans (show _ = some ((.slice p_B_3 x_B.msgs.length c_B_3)) from rfl)
  go_wp2_with fail
  refine (C_sz0.out _ _ (by first | rfl | omega) (LfRd.below hb _ _ H_r_B_3.out)).mono ?_
  rintro e w6 ⟨rfl, b7⟩
  clear y2 y3 y4 y5
  have F8 := Lib.hid ((b7.block (w.heap.size) (Array.getElem?_eq_some_iff.1 HB1.out).1).trans HB1.out)
  clear HB1
  have hz9 : W0.heap.size ≤ w6.heap.size := b7.size
  replace hb := hb.trans (b7.mono hb.size)
  clear b7
  have y10 := (Lib.cell_of_heap F8.out 0).trans (show _ = some (sv x_B.name) from rfl)
  have y11 := (Lib.cell_of_heap F8.out 1).trans (show _ = some (.int .i64 x_B.validity) from rfl)
  have y12 := (Lib.cell_of_heap F8.out 2).trans (show _ = some (.int .i64 x_B.next) from rfl)
  have y13 := (Lib.cell_of_heap F8.out 3).trans (show _ = some ((.slice p_B_3 x_B.msgs.length c_B_3)) from rfl)
  go_wp2_with fail
  refine (C_to_B.out _ (LfRd.below hb _ _ H_r_B_3.out)).mono ?_
  rintro e w14 ⟨z17, f18, rfl, i19, nd20, lo21, b15⟩
  clear y10 y11 y12 y13
  have F22 := Lib.hid ((b15.block (w.heap.size) (Array.getElem?_eq_some_iff.1 F8.out).1).trans F8.out)
  clear F8
  have hz23 : w6.heap.size ≤ w14.heap.size := b15.size
  replace hb := hb.trans (b15.mono hb.size)
  have LO24 := Lib.hid (show ∀ q ∈ f18, w6.heap.size ≤ q from lo21)
  have HI25 := Lib.hid (show ∀ q ∈ f18, q < w14.heap.size from fun q hq => LfIn.lt _ _ _ i19 q hq)
  have ND26 := Lib.hid nd20
  have F27 := Lib.hid i19
  obtain ⟨pz17, cz17, rfl⟩ := LfIn.slice i19
  clear i19
  clear nd20 lo21
  clear b15
  go_wp2_with fail
  refine (C_spec.out _ _ (LfIn.rd _ _ _ F27.out)).mono ?_
  rintro e w28 ⟨z30, f31, rfl, i32, nd33, lo34, b29⟩
  have F35 := Lib.hid ((b29.block (w.heap.size) (Array.getElem?_eq_some_iff.1 F22.out).1).trans F22.out)
  clear F22
  have F36 := Lib.hid (LfIn.below F27.out b29)
  clear F27
  have hz37 : w14.heap.size ≤ w28.heap.size := b29.size
  replace hb := hb.trans (b29.mono hb.size)
  have LO38 := Lib.hid (show ∀ q ∈ f31, w14.heap.size ≤ q from lo34)
  have HI39 := Lib.hid (show ∀ q ∈ f31, q < w28.heap.size from fun q hq => LfIn.lt _ _ _ i32 q hq)
  have ND40 := Lib.hid nd33
  have F41 := Lib.hid i32
  obtain ⟨pz30, cz30, rfl⟩ := LfIn.slice i32
  clear i32
  clear nd33 lo34
  clear b29
  have y42 := (Lib.cell_of_heap F35.out 0).trans (show _ = some (sv x_B.name) from rfl)
  have y43 := (Lib.cell_of_heap F35.out 1).trans (show _ = some (.int .i64 x_B.validity) from rfl)
  have y44 := (Lib.cell_of_heap F35.out 2).trans (show _ = some (.int .i64 x_B.next) from rfl)
  have y45 := (Lib.cell_of_heap F35.out 3).trans (show _ = some ((.slice p_B_3 x_B.msgs.length c_B_3)) from rfl)
  go_wp2_with fail
  refine (C_to_B.out _ (LfRd.below hb _ _ H_r_B_3.out)).mono ?_
  rintro e w46 ⟨z49, f50, rfl, i51, nd52, lo53, b47⟩
  clear y42 y43 y44 y45
  have F54 := Lib.hid ((b47.block (w.heap.size) (Array.getElem?_eq_some_iff.1 F35.out).1).trans F35.out)
  clear F35
  have F55 := Lib.hid (LfIn.below F36.out b47)
  clear F36
  have F56 := Lib.hid (LfIn.below F41.out b47)
  clear F41
  have hz57 : w28.heap.size ≤ w46.heap.size := b47.size
  replace hb := hb.trans (b47.mono hb.size)
  have LO58 := Lib.hid (show ∀ q ∈ f50, w28.heap.size ≤ q from lo53)
  have HI59 := Lib.hid (show ∀ q ∈ f50, q < w46.heap.size from fun q hq => LfIn.lt _ _ _ i51 q hq)
  have ND60 := Lib.hid nd52
  have F61 := Lib.hid i51
  obtain ⟨pz49, cz49, rfl⟩ := LfIn.slice i51
  clear i51
  clear nd52 lo53
  clear b47
  have b63 : Below w46.heap.size w46 (w46.alloc (.cells #[sv x_B.name, .int .i64 x_B.validity, .int .i64 x_B.next, (.slice pz49 x_B.msgs.length cz49)] 30)) := (Below.refl _ _).alloc (Nat.le_refl _) _
  have F64 := Lib.hid (heap_alloc_new w46 (.cells #[sv x_B.name, .int .i64 x_B.validity, .int .i64 x_B.next, (.slice pz49 x_B.msgs.length cz49)] 30))
  have hz65 : w46.heap.size < (w46.alloc (.cells #[sv x_B.name, .int .i64 x_B.validity, .int .i64 x_B.next, (.slice pz49 x_B.msgs.length cz49)] 30)).heap.size := by simp
  generalize hX62 : w46.alloc (.cells #[sv x_B.name, .int .i64 x_B.validity, .int .i64 x_B.next, (.slice pz49 x_B.msgs.length cz49)] 30) = X62 at *
  have F66 := Lib.hid ((b63.block (w.heap.size) (Array.getElem?_eq_some_iff.1 F54.out).1).trans F54.out)
  clear F54
  have F67 := Lib.hid (LfIn.below F55.out b63)
  clear F55
  have F68 := Lib.hid (LfIn.below F56.out b63)
  clear F56
  have F69 := Lib.hid (LfIn.below F61.out b63)
  clear F61
  have hz70 : w46.heap.size ≤ X62.heap.size := b63.size
  replace hb := hb.trans (b63.mono hb.size)
  clear b63
  have y71 := (Lib.cell_of_heap F64.out 0).trans (show _ = some (sv x_B.name) from rfl)
  have y72 := (Lib.cell_of_heap F64.out 1).trans (show _ = some (.int .i64 x_B.validity) from rfl)
  have y73 := (Lib.cell_of_heap F64.out 2).trans (show _ = some (.int .i64 x_B.next) from rfl)
  have y74 := (Lib.cell_of_heap F64.out 3).trans (show _ = some ((.slice pz49 x_B.msgs.length cz49)) from rfl)
  go_wp2_with fail
  refine (C_impl.out _ _ (hK _ _ hG hb) (LfIn.rd _ _ _ F69.out)).mono ?_
  rintro e w75 ⟨z77, f78, rfl, i79, nd80, lo81, b76⟩
  clear y71 y72 y73 y74
  have F82 := Lib.hid ((b76.block (w.heap.size) (Array.getElem?_eq_some_iff.1 F66.out).1).trans F66.out)
  clear F66
  have F83 := Lib.hid (LfIn.below F67.out b76)
  clear F67
  have F84 := Lib.hid (LfIn.below F68.out b76)
  clear F68
  have F85 := Lib.hid (LfIn.below F69.out b76)
  clear F69
  have F86 := Lib.hid ((b76.block (w46.heap.size) (Array.getElem?_eq_some_iff.1 F64.out).1).trans F64.out)
  clear F64
  have hz87 : X62.heap.size ≤ w75.heap.size := b76.size
  replace hb := hb.trans (b76.mono hb.size)
  have LO88 := Lib.hid (show ∀ q ∈ f78, X62.heap.size ≤ q from lo81)
  have HI89 := Lib.hid (show ∀ q ∈ f78, q < w75.heap.size from fun q hq => LfIn.lt _ _ _ i79 q hq)
  have ND90 := Lib.hid nd80
  have F91 := Lib.hid i79
  obtain ⟨pz77, cz77, rfl⟩ := LfIn.slice i79
  clear i79
  clear nd80 lo81
  clear b76
  go_wp2_with fail
  refine (eqIntS_g _ _ (bxUids x_B) _ (LfIn.rd _ _ _ F91.out) (LfIn.rd _ _ _ F84.out) (by have := SZ_r0.out; omega)).mono ?_
  rintro e w92 ⟨rfl, b93⟩
  have F94 := Lib.hid ((b93.block (w.heap.size) (Array.getElem?_eq_some_iff.1 F82.out).1).trans F82.out)
  clear F82
  have F95 := Lib.hid (LfIn.below F83.out b93)
  clear F83
  have F96 := Lib.hid (LfIn.below F84.out b93)
  clear F84
  have F97 := Lib.hid (LfIn.below F85.out b93)
  clear F85
  have F98 := Lib.hid ((b93.block (w46.heap.size) (Array.getElem?_eq_some_iff.1 F86.out).1).trans F86.out)
  clear F86
  have F99 := Lib.hid (LfIn.below F91.out b93)
  clear F91
  have hz100 : w75.heap.size ≤ w92.heap.size := b93.size
  replace hb := hb.trans (b93.mono hb.size)
  clear b93
  go_wp2
  refine ord_start [(0, true), (1, true), (2, false), (3, false), (4, true)] (fun W => W.heap[w46.heap.size]? = some (.cells #[sv x_B.name, .int .i64 x_B.validity, .int .i64 x_B.next, (.slice pz49 x_B.msgs.length cz49)] 30 (0, 0)) ∧ W.heap[w.heap.size]? = some (.cells #[sv x_B.name, .int .i64 x_B.validity, .int .i64 x_B.next, (.slice p_B_3 x_B.msgs.length c_B_3)] 39 (0, 0))) (by kernel_rfl) (by kernel_rfl) rfl (by kernel_rfl) ?_
  intro ops' hops
  clear hops
  simp only [List.map_cons, List.map_nil, pickOp_zero, pickOp_succ]
  have b102 : Below w92.heap.size w92 w92.drew := (Below.refl _ _).drew
  have hz103 : w92.drew.heap.size = w92.heap.size := rfl
  generalize w92.drew = D101 at *
  have F104 := Lib.hid ((b102.block (w.heap.size) (Array.getElem?_eq_some_iff.1 F94.out).1).trans F94.out)
  clear F94
  have F105 := Lib.hid (LfIn.below F95.out b102)
  clear F95
  have F106 := Lib.hid (LfIn.below F96.out b102)
  clear F96
  have F107 := Lib.hid (LfIn.below F97.out b102)
  clear F97
  have F108 := Lib.hid ((b102.block (w46.heap.size) (Array.getElem?_eq_some_iff.1 F98.out).1).trans F98.out)
  clear F98
  have F109 := Lib.hid (LfIn.below F99.out b102)
  clear F99
  have hz110 : w92.heap.size ≤ D101.heap.size := b102.size
  replace hb := hb.trans (b102.mono hb.size)
  clear b102
  refine ord_flo (.agg #[sv x_B.name, .int .i64 x_B.validity, .int .i64 x_B.next, (.slice pz49 x_B.msgs.length cz49)]) (fun _ _ _ h => h) rfl ?_ ⟨F108.out, F104.out⟩ ?_
  · intro W hS
    have y0 := (Lib.cell_of_heap hS.1 0).trans (show _ = some (sv x_B.name) from rfl)
    have y1 := (Lib.cell_of_heap hS.1 1).trans (show _ = some (.int .i64 x_B.validity) from rfl)
    have y2 := (Lib.cell_of_heap hS.1 2).trans (show _ = some (.int .i64 x_B.next) from rfl)
    have y3 := (Lib.cell_of_heap hS.1 3).trans (show _ = some ((.slice pz49 x_B.msgs.length cz49)) from rfl)
    clear hS
    go_simp
  refine ord_flo (.agg #[sv x_B.name, .int .i64 x_B.validity, .int .i64 x_B.next, (.slice p_B_3 x_B.msgs.length c_B_3)]) (fun _ _ _ h => h) rfl ?_ ⟨F108.out, F104.out⟩ ?_
  · intro W hS
    have y0 := (Lib.cell_of_heap hS.2 0).trans (show _ = some (sv x_B.name) from rfl)
    have y1 := (Lib.cell_of_heap hS.2 1).trans (show _ = some (.int .i64 x_B.validity) from rfl)
    have y2 := (Lib.cell_of_heap hS.2 2).trans (show _ = some (.int .i64 x_B.next) from rfl)
    have y3 := (Lib.cell_of_heap hS.2 3).trans (show _ = some ((.slice p_B_3 x_B.msgs.length c_B_3)) from rfl)
    clear hS
    go_simp
  refine ord_ev rfl ?_
  go_simp
  refine (C_to_B.out _ (LfRd.below hb _ _ H_r_B_3.out)).mono ?_
  rintro e w111 ⟨z114, f115, rfl, i116, nd117, lo118, b112⟩
  have F119 := Lib.hid ((b112.block (w.heap.size) (Array.getElem?_eq_some_iff.1 F104.out).1).trans F104.out)
  clear F104
  have F120 := Lib.hid (LfIn.below F105.out b112)
  clear F105
  have F121 := Lib.hid (LfIn.below F106.out b112)
  clear F106
  have F122 := Lib.hid (LfIn.below F107.out b112)
  clear F107
  have F123 := Lib.hid ((b112.block (w46.heap.size) (Array.getElem?_eq_some_iff.1 F108.out).1).trans F108.out)
  clear F108
  have F124 := Lib.hid (LfIn.below F109.out b112)
  clear F109
  have hz125 : D101.heap.size ≤ w111.heap.size := b112.size
  replace hb := hb.trans (b112.mono hb.size)
  have LO126 := Lib.hid (show ∀ q ∈ f115, D101.heap.size ≤ q from lo118)
  have HI127 := Lib.hid (show ∀ q ∈ f115, q < w111.heap.size from fun q hq => LfIn.lt _ _ _ i116 q hq)
  have ND128 := Lib.hid nd117
  have F129 := Lib.hid i116
  obtain ⟨pz114, cz114, rfl⟩ := LfIn.slice i116
  clear i116
  clear nd117 lo118
  clear b112
  refine ⟨⟨F123.out, F119.out⟩, ?_⟩
  refine ord_ev rfl ?_
  go_simp
  refine (eqBox_g x_B _ _ _ (LfIn.rd _ _ _ F122.out) (LfIn.rd _ _ _ F129.out) (by have := SZ_B.out; omega)).mono ?_
  rintro e w130 ⟨rfl, b131⟩
  have F132 := Lib.hid ((b131.block (w.heap.size) (Array.getElem?_eq_some_iff.1 F119.out).1).trans F119.out)
  clear F119
  have F133 := Lib.hid (LfIn.below F120.out b131)
  clear F120
  have F134 := Lib.hid (LfIn.below F121.out b131)
  clear F121
  have F135 := Lib.hid (LfIn.below F122.out b131)
  clear F122
  have F136 := Lib.hid ((b131.block (w46.heap.size) (Array.getElem?_eq_some_iff.1 F123.out).1).trans F123.out)
  clear F123
  have F137 := Lib.hid (LfIn.below F124.out b131)
  clear F124
  have F138 := Lib.hid (LfIn.below F129.out b131)
  clear F129
  have hz139 : w111.heap.size ≤ w130.heap.size := b131.size
  replace hb := hb.trans (b131.mono hb.size)
  clear b131
  refine ⟨⟨F136.out, F132.out⟩, ?_⟩
  iterate 1 (refine ord_flo ?_ (fun _ _ _ h => h) rfl ?_ ⟨F136.out, F132.out⟩ ?_; rotate_left; focus (intro W hS; obtain ⟨s0, s1⟩ := hS; go_simp; rfl))
  refine ord_done ?_
  go_simp
  have y140 := (Lib.cell_of_heap F136.out 0).trans (show _ = some (sv x_B.name) from rfl)
  have y141 := (Lib.cell_of_heap F136.out 1).trans (show _ = some (.int .i64 x_B.validity) from rfl)
  have y142 := (Lib.cell_of_heap F136.out 2).trans (show _ = some (.int .i64 x_B.next) from rfl)
  have y143 := (Lib.cell_of_heap F136.out 3).trans (show _ = some ((.slice pz49 x_B.msgs.length cz49)) from rfl)
  go_wp2_with fail
  refine (markBox_g x_B _ _ 1 rfl f50 _ F135.out ND60.out (by have := CN_B.out; omega) (by have := SZ_B.out; omega)).mono ?_
  rintro e w144 ⟨rfl, i147, g146⟩
  clear y140 y141 y142 y143
  clear F135
  have F148 := Lib.hid (LfIn.rd _ _ _ i147)
  have F149 := Lib.hid ((g146.block (w.heap.size) (Array.getElem?_eq_some_iff.1 F132.out).1 (fun hm => by have h3 := LO58.out _ hm; have h4 := HI59.out _ hm; omega)).trans F132.out)
  clear F132
  have F150 := Lib.hid (LfIn.away F133.out g146 (fun q hq hm => by have h1 := LO24.out q hq; have h2 := HI25.out q hq; have h3 := LO58.out q hm; have h4 := HI59.out q hm; omega))
  clear F133
  have F151 := Lib.hid (LfIn.away F134.out g146 (fun q hq hm => by have h1 := LO38.out q hq; have h2 := HI39.out q hq; have h3 := LO58.out q hm; have h4 := HI59.out q hm; omega))
  clear F134
  have F152 := Lib.hid ((g146.block (w46.heap.size) (Array.getElem?_eq_some_iff.1 F136.out).1 (fun hm => by have h3 := LO58.out _ hm; have h4 := HI59.out _ hm; omega)).trans F136.out)
  clear F136
  have F153 := Lib.hid (LfIn.away F137.out g146 (fun q hq hm => by have h1 := LO88.out q hq; have h2 := HI89.out q hq; have h3 := LO58.out q hm; have h4 := HI59.out q hm; omega))
  clear F137
  have F154 := Lib.hid (LfIn.away F138.out g146 (fun q hq hm => by have h1 := LO126.out q hq; have h2 := HI127.out q hq; have h3 := LO58.out q hm; have h4 := HI59.out q hm; omega))
  clear F138
  have hz155 : w130.heap.size ≤ w144.heap.size := g146.size
  replace hb := GrownIn.below hb g146 hb.size (fun q hq => by have h3 := LO58.out q hq; have h9 := hbz.out; omega)
  clear F148
  clear g146 i147
  obtain ⟨K156, hK156⟩ : ∃ K : Nat, K = 1 + cntLf (msgsLf x_B.msgs) := ⟨_, rfl⟩
  rw [← hK156]
  have hnK156 : ¬ (K156 : Int) < 0 := by omega
  have hdK156 : decide ((K156 : Int) < 0) = false := decide_eq_false hnK156
  have HK156 := Lib.hid hK156
  clear hK156
  go_wp2_with fail
  refine (eqIntS_g _ _ (bxUids x_B) _ (LfIn.rd _ _ _ F153.out) (LfIn.rd _ _ _ F151.out) (by have := SZ_r0.out; omega)).mono ?_
  rintro e w157 ⟨rfl, b158⟩
  have F159 := Lib.hid ((b158.block (w.heap.size) (Array.getElem?_eq_some_iff.1 F149.out).1).trans F149.out)
  clear F149
  have F160 := Lib.hid (LfIn.below F150.out b158)
  clear F150
  have F161 := Lib.hid (LfIn.below F151.out b158)
  clear F151
  have F162 := Lib.hid ((b158.block (w46.heap.size) (Array.getElem?_eq_some_iff.1 F152.out).1).trans F152.out)
  clear F152
  have F163 := Lib.hid (LfIn.below F153.out b158)
  clear F153
  have F164 := Lib.hid (LfIn.below F154.out b158)
  clear F154
  have hz165 : w144.heap.size ≤ w157.heap.size := b158.size
  replace hb := hb.trans (b158.mono hb.size)
  clear b158
  go_wp2_with fail
  refine (markIntS_g _ (bxUids x_B) _ 1 rfl f78 _ F163.out ND90.out (by have := CN_r0.out; omega) (by have := SZ_r0.out; omega)).mono ?_
  rintro e w166 ⟨rfl, i169, g168⟩
  clear F163
  have F170 := Lib.hid (LfIn.rd _ _ _ i169)
  have F171 := Lib.hid ((g168.block (w.heap.size) (Array.getElem?_eq_some_iff.1 F159.out).1 (fun hm => by have h3 := LO88.out _ hm; have h4 := HI89.out _ hm; omega)).trans F159.out)
  clear F159
  have F172 := Lib.hid (LfIn.away F160.out g168 (fun q hq hm => by have h1 := LO24.out q hq; have h2 := HI25.out q hq; have h3 := LO88.out q hm; have h4 := HI89.out q hm; omega))
  clear F160
  have F173 := Lib.hid (LfIn.away F161.out g168 (fun q hq hm => by have h1 := LO38.out q hq; have h2 := HI39.out q hq; have h3 := LO88.out q hm; have h4 := HI89.out q hm; omega))
  clear F161
  have F174 := Lib.hid ((g168.block (w46.heap.size) (Array.getElem?_eq_some_iff.1 F162.out).1 (fun hm => by have h3 := LO88.out _ hm; have h4 := HI89.out _ hm; omega)).trans F162.out)
  clear F162
  have F175 := Lib.hid (LfIn.away F164.out g168 (fun q hq hm => by have h1 := LO126.out q hq; have h2 := HI127.out q hq; have h3 := LO88.out q hm; have h4 := HI89.out q hm; omega))
  clear F164
  have hz176 : w157.heap.size ≤ w166.heap.size := g168.size
  replace hb := GrownIn.below hb g168 hb.size (fun q hq => by have h3 := LO88.out q hq; have h9 := hbz.out; omega)
  clear g168 i169
  obtain ⟨K177, hK177⟩ : ∃ K : Nat, K = 1 + cntLf (intsLf (bxUids x_B)) := ⟨_, rfl⟩
  rw [← hK177]
  have hnK177 : ¬ (K177 : Int) < 0 := by omega
  have hdK177 : decide ((K177 : Int) < 0) = false := decide_eq_false hnK177
  have HK177 := Lib.hid hK177
  clear hK177
  go_wp2_with fail
  refine (heldIntS_g _ (bxUids x_B) _ 1 rfl _ F170.out (by have := CN_r0.out; omega) (by have := SZ_r0.out; omega)).mono ?_
  rintro e w178 ⟨rfl, b179⟩
  rw [← HK177.out]
  have F180 := Lib.hid ((b179.block (w.heap.size) (Array.getElem?_eq_some_iff.1 F171.out).1).trans F171.out)
  clear F171
  have F181 := Lib.hid (LfIn.below F172.out b179)
  clear F172
  have F182 := Lib.hid (LfIn.below F173.out b179)
  clear F173
  have F183 := Lib.hid ((b179.block (w46.heap.size) (Array.getElem?_eq_some_iff.1 F174.out).1).trans F174.out)
  clear F174
  have F184 := Lib.hid (LfIn.below F175.out b179)
  clear F175
  have F185 := Lib.hid (LfRd.below b179 _ _ F170.out)
  clear F170
  have hz186 : w166.heap.size ≤ w178.heap.size := b179.size
  replace hb := hb.trans (b179.mono hb.size)
  clear b179
  have y187 := (Lib.cell_of_heap F180.out 0).trans (show _ = some (sv x_B.name) from rfl)
  have y188 := (Lib.cell_of_heap F180.out 1).trans (show _ = some (.int .i64 x_B.validity) from rfl)
  have y189 := (Lib.cell_of_heap F180.out 2).trans (show _ = some (.int .i64 x_B.next) from rfl)
  have y190 := (Lib.cell_of_heap F180.out 3).trans (show _ = some ((.slice p_B_3 x_B.msgs.length c_B_3)) from rfl)
  go_wp2_with fail
  refine (C_to_B.out _ (LfRd.below hb _ _ H_r_B_3.out)).mono ?_
  rintro e w191 ⟨z194, f195, rfl, i196, nd197, lo198, b192⟩
  clear y187 y188 y189 y190
  have F199 := Lib.hid ((b192.block (w.heap.size) (Array.getElem?_eq_some_iff.1 F180.out).1).trans F180.out)
  clear F180
  have F200 := Lib.hid (LfIn.below F181.out b192)
  clear F181
  have F201 := Lib.hid (LfIn.below F182.out b192)
  clear F182
  have F202 := Lib.hid ((b192.block (w46.heap.size) (Array.getElem?_eq_some_iff.1 F183.out).1).trans F183.out)
  clear F183
  have F203 := Lib.hid (LfIn.below F184.out b192)
  clear F184
  have F204 := Lib.hid (LfRd.below b192 _ _ F185.out)
  clear F185
  have hz205 : w178.heap.size ≤ w191.heap.size := b192.size
  replace hb := hb.trans (b192.mono hb.size)
  have LO206 := Lib.hid (show ∀ q ∈ f195, w178.heap.size ≤ q from lo198)
  have HI207 := Lib.hid (show ∀ q ∈ f195, q < w191.heap.size from fun q hq => LfIn.lt _ _ _ i196 q hq)
  have ND208 := Lib.hid nd197
  have F209 := Lib.hid i196
  obtain ⟨pz194, cz194, rfl⟩ := LfIn.slice i196
  clear i196
  clear nd197 lo198
  clear b192
  go_wp2_with fail
  refine (C_impl.out _ _ (hK _ _ hG hb) (LfIn.rd _ _ _ F209.out)).mono ?_
  rintro e w210 ⟨z212, f213, rfl, i214, nd215, lo216, b211⟩
  have F217 := Lib.hid ((b211.block (w.heap.size) (Array.getElem?_eq_some_iff.1 F199.out).1).trans F199.out)
  clear F199
  have F218 := Lib.hid (LfIn.below F200.out b211)
  clear F200
  have F219 := Lib.hid (LfIn.below F201.out b211)
  clear F201
  have F220 := Lib.hid ((b211.block (w46.heap.size) (Array.getElem?_eq_some_iff.1 F202.out).1).trans F202.out)
  clear F202
  have F221 := Lib.hid (LfIn.below F203.out b211)
  clear F203
  have F222 := Lib.hid (LfRd.below b211 _ _ F204.out)
  clear F204
  have F223 := Lib.hid (LfIn.below F209.out b211)
  clear F209
  have hz224 : w191.heap.size ≤ w210.heap.size := b211.size
  replace hb := hb.trans (b211.mono hb.size)
  have LO225 := Lib.hid (show ∀ q ∈ f213, w191.heap.size ≤ q from lo216)
  have HI226 := Lib.hid (show ∀ q ∈ f213, q < w210.heap.size from fun q hq => LfIn.lt _ _ _ i214 q hq)
  have ND227 := Lib.hid nd215
  have F228 := Lib.hid i214
  obtain ⟨pz212, cz212, rfl⟩ := LfIn.slice i214
  clear i214
  clear nd215 lo216
  clear b211
  go_wp2_with fail
  refine (eqIntS_g _ _ (bxUids x_B) _ (LfIn.rd _ _ _ F228.out) (LfIn.rd _ _ _ F219.out) (by have := SZ_r0.out; omega)).mono ?_
  rintro e w229 ⟨rfl, b230⟩
  have F231 := Lib.hid ((b230.block (w.heap.size) (Array.getElem?_eq_some_iff.1 F217.out).1).trans F217.out)
  clear F217
  have F232 := Lib.hid (LfIn.below F218.out b230)
  clear F218
  have F233 := Lib.hid (LfIn.below F219.out b230)
  clear F219
  have F234 := Lib.hid ((b230.block (w46.heap.size) (Array.getElem?_eq_some_iff.1 F220.out).1).trans F220.out)
  clear F220
  have F235 := Lib.hid (LfIn.below F221.out b230)
  clear F221
  have F236 := Lib.hid (LfRd.below b230 _ _ F222.out)
  clear F222
  have F237 := Lib.hid (LfIn.below F223.out b230)
  clear F223
  have F238 := Lib.hid (LfIn.below F228.out b230)
  clear F228
  have hz239 : w210.heap.size ≤ w229.heap.size := b230.size
  replace hb := hb.trans (b230.mono hb.size)
  clear b230
  go_wp2_with fail
  refine (heldIntS_g _ (bxUids x_B) _ 1 rfl _ F236.out (by have := CN_r0.out; omega) (by have := SZ_r0.out; omega)).mono ?_
  rintro e w240 ⟨rfl, b241⟩
  rw [← HK177.out]
  have F242 := Lib.hid ((b241.block (w.heap.size) (Array.getElem?_eq_some_iff.1 F231.out).1).trans F231.out)
  clear F231
  have F243 := Lib.hid (LfIn.below F232.out b241)
  clear F232
  have F244 := Lib.hid (LfIn.below F233.out b241)
  clear F233
  have F245 := Lib.hid ((b241.block (w46.heap.size) (Array.getElem?_eq_some_iff.1 F234.out).1).trans F234.out)
  clear F234
  have F246 := Lib.hid (LfIn.below F235.out b241)
  clear F235
  have F247 := Lib.hid (LfRd.below b241 _ _ F236.out)
  clear F236
  have F248 := Lib.hid (LfIn.below F237.out b241)
  clear F237
  have F249 := Lib.hid (LfIn.below F238.out b241)
  clear F238
  have hz250 : w229.heap.size ≤ w240.heap.size := b241.size
  replace hb := hb.trans (b241.mono hb.size)
  clear b241
  go_wp2
  go_ret
  exact ⟨rfl, hb⟩

end Go.Proofs.Ytboinphhpfggnaa
