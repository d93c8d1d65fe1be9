/-
  The exact law of PlaceOf out of what the two functions answer (made by tools/lawc.py).
-/
import Derived.Test.YtboinphhpfggnaaBoxA
import Derived.Test.YtboinphhpfggnaaLgB
import Derived.Test.YtboinphhpfggnaaGa
namespace Go.Proofs.Ytboinphhpfggnaa
open Go.RowKit

def CtrPlaceOf (f : FuncId) (G : World → Prop) : Prop := ∀ (x_B : BoxD) (r_B_3 : Value) (n_Uid : Int) (W : World), G W → LfRd W (msgsLf x_B.msgs) r_B_3 → szLs x_B.lf ≤ 1048576 → LsBnd x_B.lf → in64 n_Uid → 
  Calls Try.prog f #[.agg #[sv x_B.name, .int .i64 x_B.validity, .int .i64 x_B.next, r_B_3], .int .i64 n_Uid] W fun e w' => e = .returned (.int .i64 (bxPlace x_B n_Uid)) ∧ Below W.heap.size W w'

set_option maxRecDepth 20000 in
set_option maxHeartbeats 12800000 in
theorem FnExactPlaceOf_of {G : World → Prop} (hK : Keeps G) (SP : CtrPlaceOf 31 (fun _ => True)) (IM : CtrPlaceOf 20 G) (x_B : BoxD) (r_B_3 : Value) (n_Uid : Int) (w : World) (hG : G w) (h_r_B_3 : LfRd w (msgsLf x_B.msgs) r_B_3) (hb_B : LsBnd x_B.lf) (hb_Uid : in64 n_Uid) :
    Calls Try.prog 6 #[.agg #[sv x_B.name, .int .i64 x_B.validity, .int .i64 x_B.next, r_B_3], .int .i64 n_Uid] w fun e w' => e = .returned (.bool true) ∧ Below w.heap.size w w' := by
  have H_r_B_3 := Lib.hid h_r_B_3
  obtain ⟨p_B_3, c_B_3, rfl⟩ := LfRd.slice h_r_B_3
  clear h_r_B_3
  by_cases k0 : szLs x_B.lf ≤ 1048576
  case neg =>
    have q0 := fun (ll : Int) (W : World) (hl : ll = ((1048576 : Nat) : Int)) (g0 : LfRd W (msgsLf x_B.msgs) (.slice p_B_3 x_B.msgs.length c_B_3)) => szBox_g x_B (.slice p_B_3 x_B.msgs.length c_B_3) ll 1048576 hl W g0 hb_B (by omega)
    simp only [show szN 1048576 (szLs x_B.lf) = -1 from szN_no k0] at q0
    have C_sz0 := Lib.hid q0
    clear q0 SP IM
    have hb : Below w.heap.size w (w.alloc (.cells #[sv x_B.name, .int .i64 x_B.validity, .int .i64 x_B.next, (.slice p_B_3 x_B.msgs.length c_B_3)] 39)) := ((Below.refl _ _).alloc (Nat.le_refl _) _)
    have HB1 := Lib.hid (show (w.alloc (.cells #[sv x_B.name, .int .i64 x_B.validity, .int .i64 x_B.next, (.slice p_B_3 x_B.msgs.length c_B_3)] 39)).heap[w.heap.size]? = some (.cells #[sv x_B.name, .int .i64 x_B.validity, .int .i64 x_B.next, (.slice p_B_3 x_B.msgs.length c_B_3)] 39 (0, 0)) from by
      have h := heap_alloc_new w (.cells #[sv x_B.name, .int .i64 x_B.validity, .int .i64 x_B.next, (.slice p_B_3 x_B.msgs.length c_B_3)] 39)
      exact h)
    have hz0 : w.heap.size + 1 ≤ (w.alloc (.cells #[sv x_B.name, .int .i64 x_B.validity, .int .i64 x_B.next, (.slice p_B_3 x_B.msgs.length c_B_3)] 39)).heap.size := by simp
    generalize hW0 : (w.alloc (.cells #[sv x_B.name, .int .i64 x_B.validity, .int .i64 x_B.next, (.slice p_B_3 x_B.msgs.length c_B_3)] 39)) = W0 at *
    go_enter Try.func6, Try.ntmps6
    have hbz := Lib.hid hb.size
    have y2 := (Lib.cell_of_heap HB1.out 0).trans (show _ = some (sv x_B.name) from rfl)
    have y3 := (Lib.cell_of_heap HB1.out 1).trans (show _ = some (.int .i64 x_B.validity) from rfl)
    have y4 := (Lib.cell_of_heap HB1.out 2).trans (show _ = some (.int .i64 x_B.next) from rfl)
    have y5 := (Lib.cell_of_heap HB1.out 3).trans (show _ = some ((.slice p_B_3 x_B.msgs.length c_B_3)) from rfl)
    go_wp2_with fail
    refine (C_sz0.out _ _ (by first | rfl | omega) (LfRd.below hb _ _ H_r_B_3.out)).mono ?_
    rintro e w6 ⟨rfl, b7⟩
    clear y2 y3 y4 y5
    have F8 := Lib.hid ((b7.block (w.heap.size) (Array.getElem?_eq_some_iff.1 HB1.out).1).trans HB1.out)
    clear HB1
    have hz9 : W0.heap.size ≤ w6.heap.size := b7.size
    replace hb := hb.trans (b7.mono hb.size)
    clear b7
    go_wp2
    go_ret
    exact ⟨rfl, hb⟩
  obtain ⟨L1, hL1⟩ : ∃ L, L + szLs x_B.lf = 1048576 := ⟨1048576 - szLs x_B.lf, by omega⟩
  have bL1 : L1 ≤ 1048576 := by omega
  have nL1 : ¬ (L1 : Int) < 0 := by omega
  have q0 := fun (ll : Int) (W : World) (hl : ll = ((1048576 : Nat) : Int)) (g0 : LfRd W (msgsLf x_B.msgs) (.slice p_B_3 x_B.msgs.length c_B_3)) => szBox_g x_B (.slice p_B_3 x_B.msgs.length c_B_3) ll 1048576 hl W g0 hb_B (by omega)
  simp only [show szN 1048576 (szLs x_B.lf) = (L1 : Int) from by rw [szN_yes k0]; omega] at q0
  have C_sz0 := Lib.hid q0
  clear q0
  have HL1 := Lib.hid hL1
  have hsz_0 : szLs x_B.lf ≤ 1048576 := by omega
  clear hL1
  have hsm_B : szLs x_B.lf ≤ 1048576 := by omega
  have SZ_B := Lib.hid hsm_B
  have CN_B := Lib.hid (show 1 + cntLf (msgsLf x_B.msgs) ≤ 1000000000 from by have hs := BoxD.sz x_B; have h3 := cntRow_le (msgsLf_fit x_B.msgs); simp only [msgsLf] at hs ⊢; omega)
  have C_to_B := Lib.hid (fun (W : World) (g0 : LfRd W (msgsLf x_B.msgs) (.slice p_B_3 x_B.msgs.length c_B_3)) => toBox_g x_B (.slice p_B_3 x_B.msgs.length c_B_3) W g0 (by omega))
  have C_spec := Lib.hid (fun (u_B_0 : Value) (W : World) (k_B_0 : LfRd W (msgsLf x_B.msgs) u_B_0) => SP x_B u_B_0 n_Uid W trivial k_B_0 hsm_B hb_B hb_Uid)
  have C_impl := Lib.hid (fun (u_B_0 : Value) (W : World) (hg : G W) (k_B_0 : LfRd W (msgsLf x_B.msgs) u_B_0) => IM x_B u_B_0 n_Uid W hg k_B_0 hsm_B hb_B hb_Uid)
  clear SP IM hb_B hsm_B
  generalize (bxPlace x_B n_Uid) = R0 at *
  have ne0 : (R0 != R0) = false := by simp
  have hb : Below w.heap.size w (w.alloc (.cells #[sv x_B.name, .int .i64 x_B.validity, .int .i64 x_B.next, (.slice p_B_3 x_B.msgs.length c_B_3)] 39)) := ((Below.refl _ _).alloc (Nat.le_refl _) _)
  have HB1 := Lib.hid (show (w.alloc (.cells #[sv x_B.name, .int .i64 x_B.validity, .int .i64 x_B.next, (.slice p_B_3 x_B.msgs.length c_B_3)] 39)).heap[w.heap.size]? = some (.cells #[sv x_B.name, .int .i64 x_B.validity, .int .i64 x_B.next, (.slice p_B_3 x_B.msgs.length c_B_3)] 39 (0, 0)) from by
    have h := heap_alloc_new w (.cells #[sv x_B.name, .int .i64 x_B.validity, .int .i64 x_B.next, (.slice p_B_3 x_B.msgs.length c_B_3)] 39)
    exact h)
  have hz0 : w.heap.size + 1 ≤ (w.alloc (.cells #[sv x_B.name, .int .i64 x_B.validity, .int .i64 x_B.next, (.slice p_B_3 x_B.msgs.length c_B_3)] 39)).heap.size := by simp
  generalize hW0 : (w.alloc (.cells #[sv x_B.name, .int .i64 x_B.validity, .int .i64 x_B.next, (.slice p_B_3 x_B.msgs.length c_B_3)] 39)) = W0 at *
  go_enter Try.func6, Try.ntmps6
  have hbz := Lib.hid hb.size
  have y2 := (Lib.cell_of_heap HB1.out 0).trans (show _ = some (sv x_B.name) from rfl)
  have y3 := (Lib.cell_of_heap HB1.out 1).trans (show _ = some (.int .i64 x_B.validity) from rfl)
  have y4 := (Lib.cell_of_heap HB1.out 2).trans (show _ = some (.int .i64 x_B.next) from rfl)
  have y5 := (Lib.cell_of_heap HB1.out 3).trans (show _ = some ((.slice p_B_3 x_B.msgs.length c_B_3)) from rfl)
  go_wp2_with fail
  refine (C_sz0.out _ _ (by first | rfl | omega) (LfRd.below hb _ _ H_r_B_3.out)).mono ?_
  rintro e w6 ⟨rfl, b7⟩
  clear y2 y3 y4 y5
  have F8 := Lib.hid ((b7.block (w.heap.size) (Array.getElem?_eq_some_iff.1 HB1.out).1).trans HB1.out)
  clear HB1
  have hz9 : W0.heap.size ≤ w6.heap.size := b7.size
  replace hb := hb.trans (b7.mono hb.size)
  clear b7
  have y10 := (Lib.cell_of_heap F8.out 0).trans (show _ = some (sv x_B.name) from rfl)
  have y11 := (Lib.cell_of_heap F8.out 1).trans (show _ = some (.int .i64 x_B.validity) from rfl)
  have y12 := (Lib.cell_of_heap F8.out 2).trans (show _ = some (.int .i64 x_B.next) from rfl)
  have y13 := (Lib.cell_of_heap F8.out 3).trans (show _ = some ((.slice p_B_3 x_B.msgs.length c_B_3)) from rfl)
  go_wp2_with fail
  refine (C_to_B.out _ (LfRd.below hb _ _ H_r_B_3.out)).mono ?_
  rintro e w14 ⟨z17, f18, rfl, i19, nd20, lo21, b15⟩
  clear y10 y11 y12 y13
  have F22 := Lib.hid ((b15.block (w.heap.size) (Array.getElem?_eq_some_iff.1 F8.out).1).trans F8.out)
  clear F8
  have hz23 : w6.heap.size ≤ w14.heap.size := b15.size
  replace hb := hb.trans (b15.mono hb.size)
  have LO24 := Lib.hid (show ∀ q ∈ f18, w6.heap.size ≤ q from lo21)
  have HI25 := Lib.hid (show ∀ q ∈ f18, q < w14.heap.size from fun q hq => LfIn.lt _ _ _ i19 q hq)
  have ND26 := Lib.hid nd20
  have F27 := Lib.hid i19
  obtain ⟨pz17, cz17, rfl⟩ := LfIn.slice i19
  clear i19
  clear nd20 lo21
  clear b15
  go_wp2_with fail
  refine (C_spec.out _ _ (LfIn.rd _ _ _ F27.out)).mono ?_
  rintro e w28 ⟨rfl, b29⟩
  have F30 := Lib.hid ((b29.block (w.heap.size) (Array.getElem?_eq_some_iff.1 F22.out).1).trans F22.out)
  clear F22
  have F31 := Lib.hid (LfIn.below F27.out b29)
  clear F27
  have hz32 : w14.heap.size ≤ w28.heap.size := b29.size
  replace hb := hb.trans (b29.mono hb.size)
  clear b29
  have y33 := (Lib.cell_of_heap F30.out 0).trans (show _ = some (sv x_B.name) from rfl)
  have y34 := (Lib.cell_of_heap F30.out 1).trans (show _ = some (.int .i64 x_B.validity) from rfl)
  have y35 := (Lib.cell_of_heap F30.out 2).trans (show _ = some (.int .i64 x_B.next) from rfl)
  have y36 := (Lib.cell_of_heap F30.out 3).trans (show _ = some ((.slice p_B_3 x_B.msgs.length c_B_3)) from rfl)
  go_wp2_with fail
  refine (C_to_B.out _ (LfRd.below hb _ _ H_r_B_3.out)).mono ?_
  rintro e w37 ⟨z40, f41, rfl, i42, nd43, lo44, b38⟩
  clear y33 y34 y35 y36
  have F45 := Lib.hid ((b38.block (w.heap.size) (Array.getElem?_eq_some_iff.1 F30.out).1).trans F30.out)
  clear F30
  have F46 := Lib.hid (LfIn.below F31.out b38)
  clear F31
  have hz47 : w28.heap.size ≤ w37.heap.size := b38.size
  replace hb := hb.trans (b38.mono hb.size)
  have LO48 := Lib.hid (show ∀ q ∈ f41, w28.heap.size ≤ q from lo44)
  have HI49 := Lib.hid (show ∀ q ∈ f41, q < w37.heap.size from fun q hq => LfIn.lt _ _ _ i42 q hq)
  have ND50 := Lib.hid nd43
  have F51 := Lib.hid i42
  obtain ⟨pz40, cz40, rfl⟩ := LfIn.slice i42
  clear i42
  clear nd43 lo44
  clear b38
  have b53 : Below w37.heap.size w37 (w37.alloc (.cells #[sv x_B.name, .int .i64 x_B.validity, .int .i64 x_B.next, (.slice pz40 x_B.msgs.length cz40)] 30)) := (Below.refl _ _).alloc (Nat.le_refl _) _
  have F54 := Lib.hid (heap_alloc_new w37 (.cells #[sv x_B.name, .int .i64 x_B.validity, .int .i64 x_B.next, (.slice pz40 x_B.msgs.length cz40)] 30))
  have hz55 : w37.heap.size < (w37.alloc (.cells #[sv x_B.name, .int .i64 x_B.validity, .int .i64 x_B.next, (.slice pz40 x_B.msgs.length cz40)] 30)).heap.size := by simp
  generalize hX52 : w37.alloc (.cells #[sv x_B.name, .int .i64 x_B.validity, .int .i64 x_B.next, (.slice pz40 x_B.msgs.length cz40)] 30) = X52 at *
  have F56 := Lib.hid ((b53.block (w.heap.size) (Array.getElem?_eq_some_iff.1 F45.out).1).trans F45.out)
  clear F45
  have F57 := Lib.hid (LfIn.below F46.out b53)
  clear F46
  have F58 := Lib.hid (LfIn.below F51.out b53)
  clear F51
  have hz59 : w37.heap.size ≤ X52.heap.size := b53.size
  replace hb := hb.trans (b53.mono hb.size)
  clear b53
  have y60 := (Lib.cell_of_heap F54.out 0).trans (show _ = some (sv x_B.name) from rfl)
  have y61 := (Lib.cell_of_heap F54.out 1).trans (show _ = some (.int .i64 x_B.validity) from rfl)
  have y62 := (Lib.cell_of_heap F54.out 2).trans (show _ = some (.int .i64 x_B.next) from rfl)
  have y63 := (Lib.cell_of_heap F54.out 3).trans (show _ = some ((.slice pz40 x_B.msgs.length cz40)) from rfl)
  go_wp2_with fail
  refine (C_impl.out _ _ (hK _ _ hG hb) (LfIn.rd _ _ _ F58.out)).mono ?_
  rintro e w64 ⟨rfl, b65⟩
  clear y60 y61 y62 y63
  have F66 := Lib.hid ((b65.block (w.heap.size) (Array.getElem?_eq_some_iff.1 F56.out).1).trans F56.out)
  clear F56
  have F67 := Lib.hid (LfIn.below F57.out b65)
  clear F57
  have F68 := Lib.hid (LfIn.below F58.out b65)
  clear F58
  have F69 := Lib.hid ((b65.block (w37.heap.size) (Array.getElem?_eq_some_iff.1 F54.out).1).trans F54.out)
  clear F54
  have hz70 : X52.heap.size ≤ w64.heap.size := b65.size
  replace hb := hb.trans (b65.mono hb.size)
  clear b65
  go_wp2
  refine ord_start [(0, true), (1, true), (2, false), (3, false), (4, true)] (fun W => W.heap[w37.heap.size]? = some (.cells #[sv x_B.name, .int .i64 x_B.validity, .int .i64 x_B.next, (.slice pz40 x_B.msgs.length cz40)] 30 (0, 0)) ∧ W.heap[w.heap.size]? = some (.cells #[sv x_B.name, .int .i64 x_B.validity, .int .i64 x_B.next, (.slice p_B_3 x_B.msgs.length c_B_3)] 39 (0, 0))) (by kernel_rfl) (by kernel_rfl) rfl (by kernel_rfl) ?_
  intro ops' hops
  clear hops
  simp only [List.map_cons, List.map_nil, pickOp_zero, pickOp_succ]
  have b72 : Below w64.heap.size w64 w64.drew := (Below.refl _ _).drew
  have hz73 : w64.drew.heap.size = w64.heap.size := rfl
  generalize w64.drew = D71 at *
  have F74 := Lib.hid ((b72.block (w.heap.size) (Array.getElem?_eq_some_iff.1 F66.out).1).trans F66.out)
  clear F66
  have F75 := Lib.hid (LfIn.below F67.out b72)
  clear F67
  have F76 := Lib.hid (LfIn.below F68.out b72)
  clear F68
  have F77 := Lib.hid ((b72.block (w37.heap.size) (Array.getElem?_eq_some_iff.1 F69.out).1).trans F69.out)
  clear F69
  have hz78 : w64.heap.size ≤ D71.heap.size := b72.size
  replace hb := hb.trans (b72.mono hb.size)
  clear b72
  refine ord_flo (.agg #[sv x_B.name, .int .i64 x_B.validity, .int .i64 x_B.next, (.slice pz40 x_B.msgs.length cz40)]) (fun _ _ _ h => h) rfl ?_ ⟨F77.out, F74.out⟩ ?_
  · intro W hS
    have y0 := (Lib.cell_of_heap hS.1 0).trans (show _ = some (sv x_B.name) from rfl)
    have y1 := (Lib.cell_of_heap hS.1 1).trans (show _ = some (.int .i64 x_B.validity) from rfl)
    have y2 := (Lib.cell_of_heap hS.1 2).trans (show _ = some (.int .i64 x_B.next) from rfl)
    have y3 := (Lib.cell_of_heap hS.1 3).trans (show _ = some ((.slice pz40 x_B.msgs.length cz40)) from rfl)
    clear hS
    go_simp
  refine ord_flo (.agg #[sv x_B.name, .int .i64 x_B.validity, .int .i64 x_B.next, (.slice p_B_3 x_B.msgs.length c_B_3)]) (fun _ _ _ h => h) rfl ?_ ⟨F77.out, F74.out⟩ ?_
  · intro W hS
    have y0 := (Lib.cell_of_heap hS.2 0).trans (show _ = some (sv x_B.name) from rfl)
    have y1 := (Lib.cell_of_heap hS.2 1).trans (show _ = some (.int .i64 x_B.validity) from rfl)
    have y2 := (Lib.cell_of_heap hS.2 2).trans (show _ = some (.int .i64 x_B.next) from rfl)
    have y3 := (Lib.cell_of_heap hS.2 3).trans (show _ = some ((.slice p_B_3 x_B.msgs.length c_B_3)) from rfl)
    clear hS
    go_simp
  refine ord_ev rfl ?_
  go_simp
  refine (C_to_B.out _ (LfRd.below hb _ _ H_r_B_3.out)).mono ?_
  rintro e w79 ⟨z82, f83, rfl, i84, nd85, lo86, b80⟩
  have F87 := Lib.hid ((b80.block (w.heap.size) (Array.getElem?_eq_some_iff.1 F74.out).1).trans F74.out)
  clear F74
  have F88 := Lib.hid (LfIn.below F75.out b80)
  clear F75
  have F89 := Lib.hid (LfIn.below F76.out b80)
  clear F76
  have F90 := Lib.hid ((b80.block (w37.heap.size) (Array.getElem?_eq_some_iff.1 F77.out).1).trans F77.out)
  clear F77
  have hz91 : D71.heap.size ≤ w79.heap.size := b80.size
  replace hb := hb.trans (b80.mono hb.size)
  have LO92 := Lib.hid (show ∀ q ∈ f83, D71.heap.size ≤ q from lo86)
  have HI93 := Lib.hid (show ∀ q ∈ f83, q < w79.heap.size from fun q hq => LfIn.lt _ _ _ i84 q hq)
  have ND94 := Lib.hid nd85
  have F95 := Lib.hid i84
  obtain ⟨pz82, cz82, rfl⟩ := LfIn.slice i84
  clear i84
  clear nd85 lo86
  clear b80
  refine ⟨⟨F90.out, F87.out⟩, ?_⟩
  refine ord_ev rfl ?_
  go_simp
  refine (eqBox_g x_B _ _ _ (LfIn.rd _ _ _ F89.out) (LfIn.rd _ _ _ F95.out) (by have := SZ_B.out; omega)).mono ?_
  rintro e w96 ⟨rfl, b97⟩
  have F98 := Lib.hid ((b97.block (w.heap.size) (Array.getElem?_eq_some_iff.1 F87.out).1).trans F87.out)
  clear F87
  have F99 := Lib.hid (LfIn.below F88.out b97)
  clear F88
  have F100 := Lib.hid (LfIn.below F89.out b97)
  clear F89
  have F101 := Lib.hid ((b97.block (w37.heap.size) (Array.getElem?_eq_some_iff.1 F90.out).1).trans F90.out)
  clear F90
  have F102 := Lib.hid (LfIn.below F95.out b97)
  clear F95
  have hz103 : w79.heap.size ≤ w96.heap.size := b97.size
  replace hb := hb.trans (b97.mono hb.size)
  clear b97
  refine ⟨⟨F101.out, F98.out⟩, ?_⟩
  iterate 1 (refine ord_flo ?_ (fun _ _ _ h => h) rfl ?_ ⟨F101.out, F98.out⟩ ?_; rotate_left; focus (intro W hS; obtain ⟨s0, s1⟩ := hS; go_simp; rfl))
  refine ord_done ?_
  go_simp
  go_wp2
  go_ret
  exact ⟨rfl, hb⟩

end Go.Proofs.Ytboinphhpfggnaa
