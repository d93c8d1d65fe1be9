/-
  The exact law of SameBox out of what the two functions answer (made by tools/lawc.py).
-/
import Derived.Test.YtboinphhpfggnaaBoxA
import Derived.Test.YtboinphhpfggnaaLgB
import Derived.Test.YtboinphhpfggnaaGa
namespace Go.Proofs.Ytboinphhpfggnaa
open Go.RowKit

def CtrSameBox (f : FuncId) (G : World → Prop) : Prop := ∀ (x_A : BoxD) (r_A_3 : Value) (x_B : BoxD) (r_B_3 : Value) (W : World), G W → LfRd W (msgsLf x_A.msgs) r_A_3 → szLs x_A.lf ≤ 1048576 → LsBnd x_A.lf → LfRd W (msgsLf x_B.msgs) r_B_3 → szLs x_B.lf ≤ 1048576 → LsBnd x_B.lf → 
  Calls Try.prog f #[.agg #[sv x_A.name, .int .i64 x_A.validity, .int .i64 x_A.next, r_A_3], .agg #[sv x_B.name, .int .i64 x_B.validity, .int .i64 x_B.next, r_B_3]] W fun e w' => e = .returned (.bool (decide (x_A = x_B))) ∧ Below W.heap.size W w'

set_option maxRecDepth 20000 in
set_option maxHeartbeats 12800000 in
theorem FnExactSameBox_of {G : World → Prop} (hK : Keeps G) (SP : CtrSameBox 37 (fun _ => True)) (IM : CtrSameBox 38 G) (x_A : BoxD) (r_A_3 : Value) (x_B : BoxD) (r_B_3 : Value) (w : World) (hG : G w) (h_r_A_3 : LfRd w (msgsLf x_A.msgs) r_A_3) (hb_A : LsBnd x_A.lf) (h_r_B_3 : LfRd w (msgsLf x_B.msgs) r_B_3) (hb_B : LsBnd x_B.lf) :
    Calls Try.prog 10 #[.agg #[sv x_A.name, .int .i64 x_A.validity, .int .i64 x_A.next, r_A_3], .agg #[sv x_B.name, .int .i64 x_B.validity, .int .i64 x_B.next, r_B_3]] w fun e w' => e = .returned (.bool true) ∧ Below w.heap.size w w' := by
  have H_r_A_3 := Lib.hid h_r_A_3
  obtain ⟨p_A_3, c_A_3, rfl⟩ := LfRd.slice h_r_A_3
  clear h_r_A_3
  have H_r_B_3 := Lib.hid h_r_B_3
  obtain ⟨p_B_3, c_B_3, rfl⟩ := LfRd.slice h_r_B_3
  clear h_r_B_3
  by_cases k0 : szLs x_A.lf ≤ 1048576
  case neg =>
    have q0 := fun (ll : Int) (W : World) (hl : ll = ((1048576 : Nat) : Int)) (g0 : LfRd W (msgsLf x_A.msgs) (.slice p_A_3 x_A.msgs.length c_A_3)) => szBox_g x_A (.slice p_A_3 x_A.msgs.length c_A_3) ll 1048576 hl W g0 hb_A (by omega)
    simp only [show szN 1048576 (szLs x_A.lf) = -1 from szN_no k0] at q0
    have C_sz0 := Lib.hid q0
    clear q0 SP IM
    have hb : Below w.heap.size w ((w.alloc (.cells #[sv x_A.name, .int .i64 x_A.validity, .int .i64 x_A.next, (.slice p_A_3 x_A.msgs.length c_A_3)] 39)).alloc (.cells #[sv x_B.name, .int .i64 x_B.validity, .int .i64 x_B.next, (.slice p_B_3 x_B.msgs.length c_B_3)] 39)) := (((Below.refl _ _).alloc (Nat.le_refl _) _).alloc (by simp) _)
    have HB1 := Lib.hid (show ((w.alloc (.cells #[sv x_A.name, .int .i64 x_A.validity, .int .i64 x_A.next, (.slice p_A_3 x_A.msgs.length c_A_3)] 39)).alloc (.cells #[sv x_B.name, .int .i64 x_B.validity, .int .i64 x_B.next, (.slice p_B_3 x_B.msgs.length c_B_3)] 39)).heap[w.heap.size]? = some (.cells #[sv x_A.name, .int .i64 x_A.validity, .int .i64 x_A.next, (.slice p_A_3 x_A.msgs.length c_A_3)] 39 (0, 0)) from by
      have h := heap_alloc_new w (.cells #[sv x_A.name, .int .i64 x_A.validity, .int .i64 x_A.next, (.slice p_A_3 x_A.msgs.length c_A_3)] 39)
      have h := (Below.heap_alloc (w.alloc (.cells #[sv x_A.name, .int .i64 x_A.validity, .int .i64 x_A.next, (.slice p_A_3 x_A.msgs.length c_A_3)] 39)) (.cells #[sv x_B.name, .int .i64 x_B.validity, .int .i64 x_B.next, (.slice p_B_3 x_B.msgs.length c_B_3)] 39) _ (by simp)).trans h
      exact h)
    have HB2 := Lib.hid (show ((w.alloc (.cells #[sv x_A.name, .int .i64 x_A.validity, .int .i64 x_A.next, (.slice p_A_3 x_A.msgs.length c_A_3)] 39)).alloc (.cells #[sv x_B.name, .int .i64 x_B.validity, .int .i64 x_B.next, (.slice p_B_3 x_B.msgs.length c_B_3)] 39)).heap[w.heap.size + 1]? = some (.cells #[sv x_B.name, .int .i64 x_B.validity, .int .i64 x_B.next, (.slice p_B_3 x_B.msgs.length c_B_3)] 39 (0, 0)) from by
      have h := heap_alloc_new (w.alloc (.cells #[sv x_A.name, .int .i64 x_A.validity, .int .i64 x_A.next, (.slice p_A_3 x_A.msgs.length c_A_3)] 39)) (.cells #[sv x_B.name, .int .i64 x_B.validity, .int .i64 x_B.next, (.slice p_B_3 x_B.msgs.length c_B_3)] 39)
      simp only [World.size_alloc] at h
      exact h)
    have hz0 : w.heap.size + 2 ≤ ((w.alloc (.cells #[sv x_A.name, .int .i64 x_A.validity, .int .i64 x_A.next, (.slice p_A_3 x_A.msgs.length c_A_3)] 39)).alloc (.cells #[sv x_B.name, .int .i64 x_B.validity, .int .i64 x_B.next, (.slice p_B_3 x_B.msgs.length c_B_3)] 39)).heap.size := by simp
    generalize hW0 : ((w.alloc (.cells #[sv x_A.name, .int .i64 x_A.validity, .int .i64 x_A.next, (.slice p_A_3 x_A.msgs.length c_A_3)] 39)).alloc (.cells #[sv x_B.name, .int .i64 x_B.validity, .int .i64 x_B.next, (.slice p_B_3 x_B.msgs.length c_B_3)] 39)) = W0 at *
    go_enter Try.func10, Try.ntmps10
    have hbz := Lib.hid hb.size
    have y3 := (Lib.cell_of_heap HB1.out 0).trans (show _ = some (sv x_A.name) from rfl)
    have y4 := (Lib.cell_of_heap HB1.out 1).trans (show _ = some (.int .i64 x_A.validity) from rfl)
    have y5 := (Lib.cell_of_heap HB1.out 2).trans (show _ = some (.int .i64 x_A.next) from rfl)
    have y6 := (Lib.cell_of_heap HB1.out 3).trans (show _ = some ((.slice p_A_3 x_A.msgs.length c_A_3)) from rfl)
    go_wp2_with fail
    refine (C_sz0.out _ _ (by first | rfl | omega) (LfRd.below hb _ _ H_r_A_3.out)).mono ?_
    rintro e w7 ⟨rfl, b8⟩
    clear y3 y4 y5 y6
    have F9 := Lib.hid ((b8.block (w.heap.size) (Array.getElem?_eq_some_iff.1 HB1.out).1).trans HB1.out)
    clear HB1
    have F10 := Lib.hid ((b8.block (w.heap.size + 1) (Array.getElem?_eq_some_iff.1 HB2.out).1).trans HB2.out)
    clear HB2
    have hz11 : W0.heap.size ≤ w7.heap.size := b8.size
    replace hb := hb.trans (b8.mono hb.size)
    clear b8
    go_wp2
    go_ret
    exact ⟨rfl, hb⟩
  obtain ⟨L1, hL1⟩ : ∃ L, L + szLs x_A.lf = 1048576 := ⟨1048576 - szLs x_A.lf, by omega⟩
  have bL1 : L1 ≤ 1048576 := by omega
  have nL1 : ¬ (L1 : Int) < 0 := by omega
  have q0 := fun (ll : Int) (W : World) (hl : ll = ((1048576 : Nat) : Int)) (g0 : LfRd W (msgsLf x_A.msgs) (.slice p_A_3 x_A.msgs.length c_A_3)) => szBox_g x_A (.slice p_A_3 x_A.msgs.length c_A_3) ll 1048576 hl W g0 hb_A (by omega)
  simp only [show szN 1048576 (szLs x_A.lf) = (L1 : Int) from by rw [szN_yes k0]; omega] at q0
  have C_sz0 := Lib.hid q0
  clear q0
  have HL1 := Lib.hid hL1
  have hsz_0 : szLs x_A.lf ≤ 1048576 := by omega
  clear hL1
  by_cases k1 : szLs x_B.lf ≤ L1
  case neg =>
    have q1 := fun (ll : Int) (W : World) (hl : ll = ((L1 : Nat) : Int)) (g0 : LfRd W (msgsLf x_B.msgs) (.slice p_B_3 x_B.msgs.length c_B_3)) => szBox_g x_B (.slice p_B_3 x_B.msgs.length c_B_3) ll L1 hl W g0 hb_B (by omega)
    simp only [show szN L1 (szLs x_B.lf) = -1 from szN_no k1] at q1
    have C_sz1 := Lib.hid q1
    clear q1 SP IM
    have hb : Below w.heap.size w ((w.alloc (.cells #[sv x_A.name, .int .i64 x_A.validity, .int .i64 x_A.next, (.slice p_A_3 x_A.msgs.length c_A_3)] 39)).alloc (.cells #[sv x_B.name, .int .i64 x_B.validity, .int .i64 x_B.next, (.slice p_B_3 x_B.msgs.length c_B_3)] 39)) := (((Below.refl _ _).alloc (Nat.le_refl _) _).alloc (by simp) _)
    have HB1 := Lib.hid (show ((w.alloc (.cells #[sv x_A.name, .int .i64 x_A.validity, .int .i64 x_A.next, (.slice p_A_3 x_A.msgs.length c_A_3)] 39)).alloc (.cells #[sv x_B.name, .int .i64 x_B.validity, .int .i64 x_B.next, (.slice p_B_3 x_B.msgs.length c_B_3)] 39)).heap[w.heap.size]? = some (.cells #[sv x_A.name, .int .i64 x_A.validity, .int .i64 x_A.next, (.slice p_A_3 x_A.msgs.length c_A_3)] 39 (0, 0)) from by
      have h := heap_alloc_new w (.cells #[sv x_A.name, .int .i64 x_A.validity, .int .i64 x_A.next, (.slice p_A_3 x_A.msgs.length c_A_3)] 39)
      have h := (Below.heap_alloc (w.alloc (.cells #[sv x_A.name, .int .i64 x_A.validity, .int .i64 x_A.next, (.slice p_A_3 x_A.msgs.length c_A_3)] 39)) (.cells #[sv x_B.name, .int .i64 x_B.validity, .int .i64 x_B.next, (.slice p_B_3 x_B.msgs.length c_B_3)] 39) _ (by simp)).trans h
      exact h)
    have HB2 := Lib.hid (show ((w.alloc (.cells #[sv x_A.name, .int .i64 x_A.validity, .int .i64 x_A.next, (.slice p_A_3 x_A.msgs.length c_A_3)] 39)).alloc (.cells #[sv x_B.name, .int .i64 x_B.validity, .int .i64 x_B.next, (.slice p_B_3 x_B.msgs.length c_B_3)] 39)).heap[w.heap.size + 1]? = some (.cells #[sv x_B.name, .int .i64 x_B.validity, .int .i64 x_B.next, (.slice p_B_3 x_B.msgs.length c_B_3)] 39 (0, 0)) from by
      have h := heap_alloc_new (w.alloc (.cells #[sv x_A.name, .int .i64 x_A.validity, .int .i64 x_A.next, (.slice p_A_3 x_A.msgs.length c_A_3)] 39)) (.cells #[sv x_B.name, .int .i64 x_B.validity, .int .i64 x_B.next, (.slice p_B_3 x_B.msgs.length c_B_3)] 39)
      simp only [World.size_alloc] at h
      exact h)
    have hz0 : w.heap.size + 2 ≤ ((w.alloc (.cells #[sv x_A.name, .int .i64 x_A.validity, .int .i64 x_A.next, (.slice p_A_3 x_A.msgs.length c_A_3)] 39)).alloc (.cells #[sv x_B.name, .int .i64 x_B.validity, .int .i64 x_B.next, (.slice p_B_3 x_B.msgs.length c_B_3)] 39)).heap.size := by simp
    generalize hW0 : ((w.alloc (.cells #[sv x_A.name, .int .i64 x_A.validity, .int .i64 x_A.next, (.slice p_A_3 x_A.msgs.length c_A_3)] 39)).alloc (.cells #[sv x_B.name, .int .i64 x_B.validity, .int .i64 x_B.next, (.slice p_B_3 x_B.msgs.length c_B_3)] 39)) = W0 at *
    go_enter Try.func10, Try.ntmps10
    have hbz := Lib.hid hb.size
    have y3 := (Lib.cell_of_heap HB1.out 0).trans (show _ = some (sv x_A.name) from rfl)
    have y4 := (Lib.cell_of_heap HB1.out 1).trans (show _ = some (.int .i64 x_A.validity) from rfl)
    have y5 := (Lib.cell_of_heap HB1.out 2).trans (show _ = some (.int .i64 x_A.next) from rfl)
    have y6 := (Lib.cell_of_heap HB1.out 3).trans (show _ = some ((.slice p_A_3 x_A.msgs.length c_A_3)) from rfl)
    go_wp2_with fail
    refine (C_sz0.out _ _ (by first | rfl | omega) (LfRd.below hb _ _ H_r_A_3.out)).mono ?_
    rintro e w7 ⟨rfl, b8⟩
    clear y3 y4 y5 y6
    have F9 := Lib.hid ((b8.block (w.heap.size) (Array.getElem?_eq_some_iff.1 HB1.out).1).trans HB1.out)
    clear HB1
    have F10 := Lib.hid ((b8.block (w.heap.size + 1) (Array.getElem?_eq_some_iff.1 HB2.out).1).trans HB2.out)
    clear HB2
    have hz11 : W0.heap.size ≤ w7.heap.size := b8.size
    replace hb := hb.trans (b8.mono hb.size)
    clear b8
    have y12 := (Lib.cell_of_heap F10.out 0).trans (show _ = some (sv x_B.name) from rfl)
    have y13 := (Lib.cell_of_heap F10.out 1).trans (show _ = some (.int .i64 x_B.validity) from rfl)
    have y14 := (Lib.cell_of_heap F10.out 2).trans (show _ = some (.int .i64 x_B.next) from rfl)
    have y15 := (Lib.cell_of_heap F10.out 3).trans (show _ = some ((.slice p_B_3 x_B.msgs.length c_B_3)) from rfl)
    go_wp2_with fail
    refine (C_sz1.out _ _ (by first | rfl | omega) (LfRd.below hb _ _ H_r_B_3.out)).mono ?_
    rintro e w16 ⟨rfl, b17⟩
    clear y12 y13 y14 y15
    have F18 := Lib.hid ((b17.block (w.heap.size) (Array.getElem?_eq_some_iff.1 F9.out).1).trans F9.out)
    clear F9
    have F19 := Lib.hid ((b17.block (w.heap.size + 1) (Array.getElem?_eq_some_iff.1 F10.out).1).trans F10.out)
    clear F10
    have hz20 : w7.heap.size ≤ w16.heap.size := b17.size
    replace hb := hb.trans (b17.mono hb.size)
    clear b17
    go_wp2
    go_ret
    exact ⟨rfl, hb⟩
  obtain ⟨L2, hL2⟩ : ∃ L, L + szLs x_B.lf = L1 := ⟨L1 - szLs x_B.lf, by omega⟩
  have bL2 : L2 ≤ 1048576 := by omega
  have nL2 : ¬ (L2 : Int) < 0 := by omega
  have q1 := fun (ll : Int) (W : World) (hl : ll = ((L1 : Nat) : Int)) (g0 : LfRd W (msgsLf x_B.msgs) (.slice p_B_3 x_B.msgs.length c_B_3)) => szBox_g x_B (.slice p_B_3 x_B.msgs.length c_B_3) ll L1 hl W g0 hb_B (by omega)
  simp only [show szN L1 (szLs x_B.lf) = (L2 : Int) from by rw [szN_yes k1]; omega] at q1
  have C_sz1 := Lib.hid q1
  clear q1
  have HL2 := Lib.hid hL2
  have hsz_1 : szLs x_B.lf ≤ 1048576 := by omega
  clear hL2
  have hsm_A : szLs x_A.lf ≤ 1048576 := by omega
  have SZ_A := Lib.hid hsm_A
  have CN_A := Lib.hid (show 1 + cntLf (msgsLf x_A.msgs) ≤ 1000000000 from by have hs := BoxD.sz x_A; have h3 := cntRow_le (msgsLf_fit x_A.msgs); simp only [msgsLf] at hs ⊢; omega)
  have C_to_A := Lib.hid (fun (W : World) (g0 : LfRd W (msgsLf x_A.msgs) (.slice p_A_3 x_A.msgs.length c_A_3)) => toBox_g x_A (.slice p_A_3 x_A.msgs.length c_A_3) W g0 (by omega))
  have hsm_B : szLs x_B.lf ≤ 1048576 := by omega
  have SZ_B := Lib.hid hsm_B
  have CN_B := Lib.hid (show 1 + cntLf (msgsLf x_B.msgs) ≤ 1000000000 from by have hs := BoxD.sz x_B; have h3 := cntRow_le (msgsLf_fit x_B.msgs); simp only [msgsLf] at hs ⊢; omega)
  have C_to_B := Lib.hid (fun (W : World) (g0 : LfRd W (msgsLf x_B.msgs) (.slice p_B_3 x_B.msgs.length c_B_3)) => toBox_g x_B (.slice p_B_3 x_B.msgs.length c_B_3) W g0 (by omega))
  have C_spec := Lib.hid (fun (u_A_0 : Value) (u_B_0 : Value) (W : World) (k_A_0 : LfRd W (msgsLf x_A.msgs) u_A_0) (k_B_0 : LfRd W (msgsLf x_B.msgs) u_B_0) => SP x_A u_A_0 x_B u_B_0 W trivial k_A_0 hsm_A hb_A k_B_0 hsm_B hb_B)
  have C_impl := Lib.hid (fun (u_A_0 : Value) (u_B_0 : Value) (W : World) (hg : G W) (k_A_0 : LfRd W (msgsLf x_A.msgs) u_A_0) (k_B_0 : LfRd W (msgsLf x_B.msgs) u_B_0) => IM x_A u_A_0 x_B u_B_0 W hg k_A_0 hsm_A hb_A k_B_0 hsm_B hb_B)
  clear SP IM hb_A hsm_A hb_B hsm_B
  generalize (decide (x_A = x_B)) = R0 at *
  have ne0 : (R0 != R0) = false := by simp
  have hb : Below w.heap.size w ((w.alloc (.cells #[sv x_A.name, .int .i64 x_A.validity, .int .i64 x_A.next, (.slice p_A_3 x_A.msgs.length c_A_3)] 39)).alloc (.cells #[sv x_B.name, .int .i64 x_B.validity, .int .i64 x_B.next, (.slice p_B_3 x_B.msgs.length c_B_3)] 39)) := (((Below.refl _ _).alloc (Nat.le_refl _) _).alloc (by simp) _)
  have HB1 := Lib.hid (show ((w.alloc (.cells #[sv x_A.name, .int .i64 x_A.validity, .int .i64 x_A.next, (.slice p_A_3 x_A.msgs.length c_A_3)] 39)).alloc (.cells #[sv x_B.name, .int .i64 x_B.validity, .int .i64 x_B.next, (.slice p_B_3 x_B.msgs.length c_B_3)] 39)).heap[w.heap.size]? = some (.cells #[sv x_A.name, .int .i64 x_A.validity, .int .i64 x_A.next, (.slice p_A_3 x_A.msgs.length c_A_3)] 39 (0, 0)) from by
    have h := heap_alloc_new w (.cells #[sv x_A.name, .int .i64 x_A.validity, .int .i64 x_A.next, (.slice p_A_3 x_A.msgs.length c_A_3)] 39)
    have h := (Below.heap_alloc (w.alloc (.cells #[sv x_A.name, .int .i64 x_A.validity, .int .i64 x_A.next, (.slice p_A_3 x_A.msgs.length c_A_3)] 39)) (.cells #[sv x_B.name, .int .i64 x_B.validity, .int .i64 x_B.next, (.slice p_B_3 x_B.msgs.length c_B_3)] 39) _ (by simp)).trans h
    exact h)
  have HB2 := Lib.hid (show ((w.alloc (.cells #[sv x_A.name, .int .i64 x_A.validity, .int .i64 x_A.next, (.slice p_A_3 x_A.msgs.length c_A_3)] 39)).alloc (.cells #[sv x_B.name, .int .i64 x_B.validity, .int .i64 x_B.next, (.slice p_B_3 x_B.msgs.length c_B_3)] 39)).heap[w.heap.size + 1]? = some (.cells #[sv x_B.name, .int .i64 x_B.validity, .int .i64 x_B.next, (.slice p_B_3 x_B.msgs.length c_B_3)] 39 (0, 0)) from by
    have h := heap_alloc_new (w.alloc (.cells #[sv x_A.name, .int .i64 x_A.validity, .int .i64 x_A.next, (.slice p_A_3 x_A.msgs.length c_A_3)] 39)) (.cells #[sv x_B.name, .int .i64 x_B.validity, .int .i64 x_B.next, (.slice p_B_3 x_B.msgs.length c_B_3)] 39)
    simp only [World.size_alloc] at h
    exact h)
  have hz0 : w.heap.size + 2 ≤ ((w.alloc (.cells #[sv x_A.name, .int .i64 x_A.validity, .int .i64 x_A.next, (.slice p_A_3 x_A.msgs.length c_A_3)] 39)).alloc (.cells #[sv x_B.name, .int .i64 x_B.validity, .int .i64 x_B.next, (.slice p_B_3 x_B.msgs.length c_B_3)] 39)).heap.size := by simp
  generalize hW0 : ((w.alloc (.cells #[sv x_A.name, .int .i64 x_A.validity, .int .i64 x_A.next, (.slice p_A_3 x_A.msgs.length c_A_3)] 39)).alloc (.cells #[sv x_B.name, .int .i64 x_B.validity, .int .i64 x_B.next, (.slice p_B_3 x_B.msgs.length c_B_3)] 39)) = W0 at *
  go_enter Try.func10, Try.ntmps10
  have hbz := Lib.hid hb.size
  have y3 := (Lib.cell_of_heap HB1.out 0).trans (show _ = some (sv x_A.name) from rfl)
  have y4 := (Lib.cell_of_heap HB1.out 1).trans (show _ = some (.int .i64 x_A.validity) from rfl)
  have y5 := (Lib.cell_of_heap HB1.out 2).trans (show _ = some (.int .i64 x_A.next) from rfl)
  have y6 := (Lib.cell_of_heap HB1.out 3).trans (show _ = some ((.slice p_A_3 x_A.msgs.length c_A_3)) from rfl)
  go_wp2_with fail
  refine (C_sz0.out _ _ (by first | rfl | omega) (LfRd.below hb _ _ H_r_A_3.out)).mono ?_
  rintro e w7 ⟨rfl, b8⟩
  clear y3 y4 y5 y6
  have F9 := Lib.hid ((b8.block (w.heap.size) (Array.getElem?_eq_some_iff.1 HB1.out).1).trans HB1.out)
  clear HB1
  have F10 := Lib.hid ((b8.block (w.heap.size + 1) (Array.getElem?_eq_some_iff.1 HB2.out).1).trans HB2.out)
  clear HB2
  have hz11 : W0.heap.size ≤ w7.heap.size := b8.size
  replace hb := hb.trans (b8.mono hb.size)
  clear b8
  have y12 := (Lib.cell_of_heap F10.out 0).trans (show _ = some (sv x_B.name) from rfl)
  have y13 := (Lib.cell_of_heap F10.out 1).trans (show _ = some (.int .i64 x_B.validity) from rfl)
  have y14 := (Lib.cell_of_heap F10.out 2).trans (show _ = some (.int .i64 x_B.next) from rfl)
  have y15 := (Lib.cell_of_heap F10.out 3).trans (show _ = some ((.slice p_B_3 x_B.msgs.length c_B_3)) from rfl)
  go_wp2_with fail
  refine (C_sz1.out _ _ (by first | rfl | omega) (LfRd.below hb _ _ H_r_B_3.out)).mono ?_
  rintro e w16 ⟨rfl, b17⟩
  clear y12 y13 y14 y15
  have F18 := Lib.hid ((b17.block (w.heap.size) (Array.getElem?_eq_some_iff.1 F9.out).1).trans F9.out)
  clear F9
  have F19 := Lib.hid ((b17.block (w.heap.size + 1) (Array.getElem?_eq_some_iff.1 F10.out).1).trans F10.out)
  clear F10
  have hz20 : w7.heap.size ≤ w16.heap.size := b17.size
  replace hb := hb.trans (b17.mono hb.size)
  clear b17
  go_wp2
  refine ord_start [(0, true), (2, true), (1, false), (3, false), (4, false), (5, true)] (fun W => W.heap[w.heap.size]? = some (.cells #[sv x_A.name, .int .i64 x_A.validity, .int .i64 x_A.next, (.slice p_A_3 x_A.msgs.length c_A_3)] 39 (0, 0)) ∧ W.heap[w.heap.size + 1]? = some (.cells #[sv x_B.name, .int .i64 x_B.validity, .int .i64 x_B.next, (.slice p_B_3 x_B.msgs.length c_B_3)] 39 (0, 0))) (by kernel_rfl) (by kernel_rfl) rfl (by kernel_rfl) ?_
  intro ops' hops
  clear hops
  simp only [List.map_cons, List.map_nil, pickOp_zero, pickOp_succ]
  have b22 : Below w16.heap.size w16 w16.drew := (Below.refl _ _).drew
  have hz23 : w16.drew.heap.size = w16.heap.size := rfl
  generalize w16.drew = D21 at *
  have F24 := Lib.hid ((b22.block (w.heap.size) (Array.getElem?_eq_some_iff.1 F18.out).1).trans F18.out)
  clear F18
  have F25 := Lib.hid ((b22.block (w.heap.size + 1) (Array.getElem?_eq_some_iff.1 F19.out).1).trans F19.out)
  clear F19
  have hz26 : w16.heap.size ≤ D21.heap.size := b22.size
  replace hb := hb.trans (b22.mono hb.size)
  clear b22
  refine ord_flo (.agg #[sv x_A.name, .int .i64 x_A.validity, .int .i64 x_A.next, (.slice p_A_3 x_A.msgs.length c_A_3)]) (fun _ _ _ h => h) rfl ?_ ⟨F24.out, F25.out⟩ ?_
  · intro W hS
    have y0 := (Lib.cell_of_heap hS.1 0).trans (show _ = some (sv x_A.name) from rfl)
    have y1 := (Lib.cell_of_heap hS.1 1).trans (show _ = some (.int .i64 x_A.validity) from rfl)
    have y2 := (Lib.cell_of_heap hS.1 2).trans (show _ = some (.int .i64 x_A.next) from rfl)
    have y3 := (Lib.cell_of_heap hS.1 3).trans (show _ = some ((.slice p_A_3 x_A.msgs.length c_A_3)) from rfl)
    clear hS
    go_simp
  refine ord_flo (.agg #[sv x_B.name, .int .i64 x_B.validity, .int .i64 x_B.next, (.slice p_B_3 x_B.msgs.length c_B_3)]) (fun _ _ _ h => h) rfl ?_ ⟨F24.out, F25.out⟩ ?_
  · intro W hS
    have y0 := (Lib.cell_of_heap hS.2 0).trans (show _ = some (sv x_B.name) from rfl)
    have y1 := (Lib.cell_of_heap hS.2 1).trans (show _ = some (.int .i64 x_B.validity) from rfl)
    have y2 := (Lib.cell_of_heap hS.2 2).trans (show _ = some (.int .i64 x_B.next) from rfl)
    have y3 := (Lib.cell_of_heap hS.2 3).trans (show _ = some ((.slice p_B_3 x_B.msgs.length c_B_3)) from rfl)
    clear hS
    go_simp
  refine ord_ev rfl ?_
  go_simp
  refine (C_to_A.out _ (LfRd.below hb _ _ H_r_A_3.out)).mono ?_
  rintro e w27 ⟨z30, f31, rfl, i32, nd33, lo34, b28⟩
  have F35 := Lib.hid ((b28.block (w.heap.size) (Array.getElem?_eq_some_iff.1 F24.out).1).trans F24.out)
  clear F24
  have F36 := Lib.hid ((b28.block (w.heap.size + 1) (Array.getElem?_eq_some_iff.1 F25.out).1).trans F25.out)
  clear F25
  have hz37 : D21.heap.size ≤ w27.heap.size := b28.size
  replace hb := hb.trans (b28.mono hb.size)
  have LO38 := Lib.hid (show ∀ q ∈ f31, D21.heap.size ≤ q from lo34)
  have HI39 := Lib.hid (show ∀ q ∈ f31, q < w27.heap.size from fun q hq => LfIn.lt _ _ _ i32 q hq)
  have ND40 := Lib.hid nd33
  have F41 := Lib.hid i32
  obtain ⟨pz30, cz30, rfl⟩ := LfIn.slice i32
  clear i32
  clear nd33 lo34
  clear b28
  refine ⟨⟨F35.out, F36.out⟩, ?_⟩
  refine ord_ev rfl ?_
  go_simp
  refine (C_to_B.out _ (LfRd.below hb _ _ H_r_B_3.out)).mono ?_
  rintro e w42 ⟨z45, f46, rfl, i47, nd48, lo49, b43⟩
  have F50 := Lib.hid ((b43.block (w.heap.size) (Array.getElem?_eq_some_iff.1 F35.out).1).trans F35.out)
  clear F35
  have F51 := Lib.hid ((b43.block (w.heap.size + 1) (Array.getElem?_eq_some_iff.1 F36.out).1).trans F36.out)
  clear F36
  have F52 := Lib.hid (LfIn.below F41.out b43)
  clear F41
  have hz53 : w27.heap.size ≤ w42.heap.size := b43.size
  replace hb := hb.trans (b43.mono hb.size)
  have LO54 := Lib.hid (show ∀ q ∈ f46, w27.heap.size ≤ q from lo49)
  have HI55 := Lib.hid (show ∀ q ∈ f46, q < w42.heap.size from fun q hq => LfIn.lt _ _ _ i47 q hq)
  have ND56 := Lib.hid nd48
  have F57 := Lib.hid i47
  obtain ⟨pz45, cz45, rfl⟩ := LfIn.slice i47
  clear i47
  clear nd48 lo49
  clear b43
  refine ⟨⟨F50.out, F51.out⟩, ?_⟩
  refine ord_ev rfl ?_
  go_simp
  refine (C_spec.out _ _ _ (LfIn.rd _ _ _ F52.out) (LfIn.rd _ _ _ F57.out)).mono ?_
  rintro e w58 ⟨rfl, b59⟩
  have F60 := Lib.hid ((b59.block (w.heap.size) (Array.getElem?_eq_some_iff.1 F50.out).1).trans F50.out)
  clear F50
  have F61 := Lib.hid ((b59.block (w.heap.size + 1) (Array.getElem?_eq_some_iff.1 F51.out).1).trans F51.out)
  clear F51
  have F62 := Lib.hid (LfIn.below F52.out b59)
  clear F52
  have F63 := Lib.hid (LfIn.below F57.out b59)
  clear F57
  have hz64 : w42.heap.size ≤ w58.heap.size := b59.size
  replace hb := hb.trans (b59.mono hb.size)
  clear b59
  refine ⟨⟨F60.out, F61.out⟩, ?_⟩
  iterate 1 (refine ord_flo ?_ (fun _ _ _ h => h) rfl ?_ ⟨F60.out, F61.out⟩ ?_; rotate_left; focus (intro W hS; obtain ⟨s0, s1⟩ := hS; go_simp; rfl))
  refine ord_done ?_
  go_simp
  have y65 := (Lib.cell_of_heap F60.out 0).trans (show _ = some (sv x_A.name) from rfl)
  have y66 := (Lib.cell_of_heap F60.out 1).trans (show _ = some (.int .i64 x_A.validity) from rfl)
  have y67 := (Lib.cell_of_heap F60.out 2).trans (show _ = some (.int .i64 x_A.next) from rfl)
  have y68 := (Lib.cell_of_heap F60.out 3).trans (show _ = some ((.slice p_A_3 x_A.msgs.length c_A_3)) from rfl)
  go_wp2_with fail
  refine (C_to_A.out _ (LfRd.below hb _ _ H_r_A_3.out)).mono ?_
  rintro e w69 ⟨z72, f73, rfl, i74, nd75, lo76, b70⟩
  clear y65 y66 y67 y68
  have F77 := Lib.hid ((b70.block (w.heap.size) (Array.getElem?_eq_some_iff.1 F60.out).1).trans F60.out)
  clear F60
  have F78 := Lib.hid ((b70.block (w.heap.size + 1) (Array.getElem?_eq_some_iff.1 F61.out).1).trans F61.out)
  clear F61
  have F79 := Lib.hid (LfIn.below F62.out b70)
  clear F62
  have F80 := Lib.hid (LfIn.below F63.out b70)
  clear F63
  have hz81 : w58.heap.size ≤ w69.heap.size := b70.size
  replace hb := hb.trans (b70.mono hb.size)
  have LO82 := Lib.hid (show ∀ q ∈ f73, w58.heap.size ≤ q from lo76)
  have HI83 := Lib.hid (show ∀ q ∈ f73, q < w69.heap.size from fun q hq => LfIn.lt _ _ _ i74 q hq)
  have ND84 := Lib.hid nd75
  have F85 := Lib.hid i74
  obtain ⟨pz72, cz72, rfl⟩ := LfIn.slice i74
  clear i74
  clear nd75 lo76
  clear b70
  have b87 : Below w69.heap.size w69 (w69.alloc (.cells #[sv x_A.name, .int .i64 x_A.validity, .int .i64 x_A.next, (.slice pz72 x_A.msgs.length cz72)] 30)) := (Below.refl _ _).alloc (Nat.le_refl _) _
  have F88 := Lib.hid (heap_alloc_new w69 (.cells #[sv x_A.name, .int .i64 x_A.validity, .int .i64 x_A.next, (.slice pz72 x_A.msgs.length cz72)] 30))
  have hz89 : w69.heap.size < (w69.alloc (.cells #[sv x_A.name, .int .i64 x_A.validity, .int .i64 x_A.next, (.slice pz72 x_A.msgs.length cz72)] 30)).heap.size := by simp
  generalize hX86 : w69.alloc (.cells #[sv x_A.name, .int .i64 x_A.validity, .int .i64 x_A.next, (.slice pz72 x_A.msgs.length cz72)] 30) = X86 at *
  have F90 := Lib.hid ((b87.block (w.heap.size) (Array.getElem?_eq_some_iff.1 F77.out).1).trans F77.out)
  clear F77
  have F91 := Lib.hid ((b87.block (w.heap.size + 1) (Array.getElem?_eq_some_iff.1 F78.out).1).trans F78.out)
  clear F78
  have F92 := Lib.hid (LfIn.below F79.out b87)
  clear F79
  have F93 := Lib.hid (LfIn.below F80.out b87)
  clear F80
  have F94 := Lib.hid (LfIn.below F85.out b87)
  clear F85
  have hz95 : w69.heap.size ≤ X86.heap.size := b87.size
  replace hb := hb.trans (b87.mono hb.size)
  clear b87
  have y96 := (Lib.cell_of_heap F91.out 0).trans (show _ = some (sv x_B.name) from rfl)
  have y97 := (Lib.cell_of_heap F91.out 1).trans (show _ = some (.int .i64 x_B.validity) from rfl)
  have y98 := (Lib.cell_of_heap F91.out 2).trans (show _ = some (.int .i64 x_B.next) from rfl)
  have y99 := (Lib.cell_of_heap F91.out 3).trans (show _ = some ((.slice p_B_3 x_B.msgs.length c_B_3)) from rfl)
  go_wp2_with fail
  refine (C_to_B.out _ (LfRd.below hb _ _ H_r_B_3.out)).mono ?_
  rintro e w100 ⟨z103, f104, rfl, i105, nd106, lo107, b101⟩
  clear y96 y97 y98 y99
  have F108 := Lib.hid ((b101.block (w.heap.size) (Array.getElem?_eq_some_iff.1 F90.out).1).trans F90.out)
  clear F90
  have F109 := Lib.hid ((b101.block (w.heap.size + 1) (Array.getElem?_eq_some_iff.1 F91.out).1).trans F91.out)
  clear F91
  have F110 := Lib.hid (LfIn.below F92.out b101)
  clear F92
  have F111 := Lib.hid (LfIn.below F93.out b101)
  clear F93
  have F112 := Lib.hid (LfIn.below F94.out b101)
  clear F94
  have F113 := Lib.hid ((b101.block (w69.heap.size) (Array.getElem?_eq_some_iff.1 F88.out).1).trans F88.out)
  clear F88
  have hz114 : X86.heap.size ≤ w100.heap.size := b101.size
  replace hb := hb.trans (b101.mono hb.size)
  have LO115 := Lib.hid (show ∀ q ∈ f104, X86.heap.size ≤ q from lo107)
  have HI116 := Lib.hid (show ∀ q ∈ f104, q < w100.heap.size from fun q hq => LfIn.lt _ _ _ i105 q hq)
  have ND117 := Lib.hid nd106
  have F118 := Lib.hid i105
  obtain ⟨pz103, cz103, rfl⟩ := LfIn.slice i105
  clear i105
  clear nd106 lo107
  clear b101
  have b120 : Below w100.heap.size w100 (w100.alloc (.cells #[sv x_B.name, .int .i64 x_B.validity, .int .i64 x_B.next, (.slice pz103 x_B.msgs.length cz103)] 30)) := (Below.refl _ _).alloc (Nat.le_refl _) _
  have F121 := Lib.hid (heap_alloc_new w100 (.cells #[sv x_B.name, .int .i64 x_B.validity, .int .i64 x_B.next, (.slice pz103 x_B.msgs.length cz103)] 30))
  have hz122 : w100.heap.size < (w100.alloc (.cells #[sv x_B.name, .int .i64 x_B.validity, .int .i64 x_B.next, (.slice pz103 x_B.msgs.length cz103)] 30)).heap.size := by simp
  generalize hX119 : w100.alloc (.cells #[sv x_B.name, .int .i64 x_B.validity, .int .i64 x_B.next, (.slice pz103 x_B.msgs.length cz103)] 30) = X119 at *
  have F123 := Lib.hid ((b120.block (w.heap.size) (Array.getElem?_eq_some_iff.1 F108.out).1).trans F108.out)
  clear F108
  have F124 := Lib.hid ((b120.block (w.heap.size + 1) (Array.getElem?_eq_some_iff.1 F109.out).1).trans F109.out)
  clear F109
  have F125 := Lib.hid (LfIn.below F110.out b120)
  clear F110
  have F126 := Lib.hid (LfIn.below F111.out b120)
  clear F111
  have F127 := Lib.hid (LfIn.below F112.out b120)
  clear F112
  have F128 := Lib.hid ((b120.block (w69.heap.size) (Array.getElem?_eq_some_iff.1 F113.out).1).trans F113.out)
  clear F113
  have F129 := Lib.hid (LfIn.below F118.out b120)
  clear F118
  have hz130 : w100.heap.size ≤ X119.heap.size := b120.size
  replace hb := hb.trans (b120.mono hb.size)
  clear b120
  have y131 := (Lib.cell_of_heap F128.out 0).trans (show _ = some (sv x_A.name) from rfl)
  have y132 := (Lib.cell_of_heap F128.out 1).trans (show _ = some (.int .i64 x_A.validity) from rfl)
  have y133 := (Lib.cell_of_heap F128.out 2).trans (show _ = some (.int .i64 x_A.next) from rfl)
  have y134 := (Lib.cell_of_heap F128.out 3).trans (show _ = some ((.slice pz72 x_A.msgs.length cz72)) from rfl)
  have y135 := (Lib.cell_of_heap F121.out 0).trans (show _ = some (sv x_B.name) from rfl)
  have y136 := (Lib.cell_of_heap F121.out 1).trans (show _ = some (.int .i64 x_B.validity) from rfl)
  have y137 := (Lib.cell_of_heap F121.out 2).trans (show _ = some (.int .i64 x_B.next) from rfl)
  have y138 := (Lib.cell_of_heap F121.out 3).trans (show _ = some ((.slice pz103 x_B.msgs.length cz103)) from rfl)
  go_wp2_with fail
  refine (C_impl.out _ _ _ (hK _ _ hG hb) (LfIn.rd _ _ _ F127.out) (LfIn.rd _ _ _ F129.out)).mono ?_
  rintro e w139 ⟨rfl, b140⟩
  clear y131 y132 y133 y134 y135 y136 y137 y138
  have F141 := Lib.hid ((b140.block (w.heap.size) (Array.getElem?_eq_some_iff.1 F123.out).1).trans F123.out)
  clear F123
  have F142 := Lib.hid ((b140.block (w.heap.size + 1) (Array.getElem?_eq_some_iff.1 F124.out).1).trans F124.out)
  clear F124
  have F143 := Lib.hid (LfIn.below F125.out b140)
  clear F125
  have F144 := Lib.hid (LfIn.below F126.out b140)
  clear F126
  have F145 := Lib.hid (LfIn.below F127.out b140)
  clear F127
  have F146 := Lib.hid ((b140.block (w69.heap.size) (Array.getElem?_eq_some_iff.1 F128.out).1).trans F128.out)
  clear F128
  have F147 := Lib.hid (LfIn.below F129.out b140)
  clear F129
  have F148 := Lib.hid ((b140.block (w100.heap.size) (Array.getElem?_eq_some_iff.1 F121.out).1).trans F121.out)
  clear F121
  have hz149 : X119.heap.size ≤ w139.heap.size := b140.size
  replace hb := hb.trans (b140.mono hb.size)
  clear b140
  go_wp2
  refine ord_start [(0, true), (1, true), (2, false), (3, false), (4, true)] (fun W => W.heap[w69.heap.size]? = some (.cells #[sv x_A.name, .int .i64 x_A.validity, .int .i64 x_A.next, (.slice pz72 x_A.msgs.length cz72)] 30 (0, 0)) ∧ W.heap[w.heap.size]? = some (.cells #[sv x_A.name, .int .i64 x_A.validity, .int .i64 x_A.next, (.slice p_A_3 x_A.msgs.length c_A_3)] 39 (0, 0))) (by kernel_rfl) (by kernel_rfl) rfl (by kernel_rfl) ?_
  intro ops' hops
  clear hops
  simp only [List.map_cons, List.map_nil, pickOp_zero, pickOp_succ]
  have b151 : Below w139.heap.size w139 w139.drew := (Below.refl _ _).drew
  have hz152 : w139.drew.heap.size = w139.heap.size := rfl
  generalize w139.drew = D150 at *
  have F153 := Lib.hid ((b151.block (w.heap.size) (Array.getElem?_eq_some_iff.1 F141.out).1).trans F141.out)
  clear F141
  have F154 := Lib.hid ((b151.block (w.heap.size + 1) (Array.getElem?_eq_some_iff.1 F142.out).1).trans F142.out)
  clear F142
  have F155 := Lib.hid (LfIn.below F143.out b151)
  clear F143
  have F156 := Lib.hid (LfIn.below F144.out b151)
  clear F144
  have F157 := Lib.hid (LfIn.below F145.out b151)
  clear F145
  have F158 := Lib.hid ((b151.block (w69.heap.size) (Array.getElem?_eq_some_iff.1 F146.out).1).trans F146.out)
  clear F146
  have F159 := Lib.hid (LfIn.below F147.out b151)
  clear F147
  have F160 := Lib.hid ((b151.block (w100.heap.size) (Array.getElem?_eq_some_iff.1 F148.out).1).trans F148.out)
  clear F148
  have hz161 : w139.heap.size ≤ D150.heap.size := b151.size
  replace hb := hb.trans (b151.mono hb.size)
  clear b151
  refine ord_flo (.agg #[sv x_A.name, .int .i64 x_A.validity, .int .i64 x_A.next, (.slice pz72 x_A.msgs.length cz72)]) (fun _ _ _ h => h) rfl ?_ ⟨F158.out, F153.out⟩ ?_
  · intro W hS
    have y0 := (Lib.cell_of_heap hS.1 0).trans (show _ = some (sv x_A.name) from rfl)
    have y1 := (Lib.cell_of_heap hS.1 1).trans (show _ = some (.int .i64 x_A.validity) from rfl)
    have y2 := (Lib.cell_of_heap hS.1 2).trans (show _ = some (.int .i64 x_A.next) from rfl)
    have y3 := (Lib.cell_of_heap hS.1 3).trans (show _ = some ((.slice pz72 x_A.msgs.length cz72)) from rfl)
    clear hS
    go_simp
  refine ord_flo (.agg #[sv x_A.name, .int .i64 x_A.validity, .int .i64 x_A.next, (.slice p_A_3 x_A.msgs.length c_A_3)]) (fun _ _ _ h => h) rfl ?_ ⟨F158.out, F153.out⟩ ?_
  · intro W hS
    have y0 := (Lib.cell_of_heap hS.2 0).trans (show _ = some (sv x_A.name) from rfl)
    have y1 := (Lib.cell_of_heap hS.2 1).trans (show _ = some (.int .i64 x_A.validity) from rfl)
    have y2 := (Lib.cell_of_heap hS.2 2).trans (show _ = some (.int .i64 x_A.next) from rfl)
    have y3 := (Lib.cell_of_heap hS.2 3).trans (show _ = some ((.slice p_A_3 x_A.msgs.length c_A_3)) from rfl)
    clear hS
    go_simp
  refine ord_ev rfl ?_
  go_simp
  refine (C_to_A.out _ (LfRd.below hb _ _ H_r_A_3.out)).mono ?_
  rintro e w162 ⟨z165, f166, rfl, i167, nd168, lo169, b163⟩
  have F170 := Lib.hid ((b163.block (w.heap.size) (Array.getElem?_eq_some_iff.1 F153.out).1).trans F153.out)
  clear F153
  have F171 := Lib.hid ((b163.block (w.heap.size + 1) (Array.getElem?_eq_some_iff.1 F154.out).1).trans F154.out)
  clear F154
  have F172 := Lib.hid (LfIn.below F155.out b163)
  clear F155
  have F173 := Lib.hid (LfIn.below F156.out b163)
  clear F156
  have F174 := Lib.hid (LfIn.below F157.out b163)
  clear F157
  have F175 := Lib.hid ((b163.block (w69.heap.size) (Array.getElem?_eq_some_iff.1 F158.out).1).trans F158.out)
  clear F158
  have F176 := Lib.hid (LfIn.below F159.out b163)
  clear F159
  have F177 := Lib.hid ((b163.block (w100.heap.size) (Array.getElem?_eq_some_iff.1 F160.out).1).trans F160.out)
  clear F160
  have hz178 : D150.heap.size ≤ w162.heap.size := b163.size
  replace hb := hb.trans (b163.mono hb.size)
  have LO179 := Lib.hid (show ∀ q ∈ f166, D150.heap.size ≤ q from lo169)
  have HI180 := Lib.hid (show ∀ q ∈ f166, q < w162.heap.size from fun q hq => LfIn.lt _ _ _ i167 q hq)
  have ND181 := Lib.hid nd168
  have F182 := Lib.hid i167
  obtain ⟨pz165, cz165, rfl⟩ := LfIn.slice i167
  clear i167
  clear nd168 lo169
  clear b163
  refine ⟨⟨F175.out, F170.out⟩, ?_⟩
  refine ord_ev rfl ?_
  go_simp
  refine (eqBox_g x_A _ _ _ (LfIn.rd _ _ _ F174.out) (LfIn.rd _ _ _ F182.out) (by have := SZ_A.out; omega)).mono ?_
  rintro e w183 ⟨rfl, b184⟩
  have F185 := Lib.hid ((b184.block (w.heap.size) (Array.getElem?_eq_some_iff.1 F170.out).1).trans F170.out)
  clear F170
  have F186 := Lib.hid ((b184.block (w.heap.size + 1) (Array.getElem?_eq_some_iff.1 F171.out).1).trans F171.out)
  clear F171
  have F187 := Lib.hid (LfIn.below F172.out b184)
  clear F172
  have F188 := Lib.hid (LfIn.below F173.out b184)
  clear F173
  have F189 := Lib.hid (LfIn.below F174.out b184)
  clear F174
  have F190 := Lib.hid ((b184.block (w69.heap.size) (Array.getElem?_eq_some_iff.1 F175.out).1).trans F175.out)
  clear F175
  have F191 := Lib.hid (LfIn.below F176.out b184)
  clear F176
  have F192 := Lib.hid ((b184.block (w100.heap.size) (Array.getElem?_eq_some_iff.1 F177.out).1).trans F177.out)
  clear F177
  have F193 := Lib.hid (LfIn.below F182.out b184)
  clear F182
  have hz194 : w162.heap.size ≤ w183.heap.size := b184.size
  replace hb := hb.trans (b184.mono hb.size)
  clear b184
  refine ⟨⟨F190.out, F185.out⟩, ?_⟩
  iterate 1 (refine ord_flo ?_ (fun _ _ _ h => h) rfl ?_ ⟨F190.out, F185.out⟩ ?_; rotate_left; focus (intro W hS; obtain ⟨s0, s1⟩ := hS; go_simp; rfl))
  refine ord_done ?_
  go_simp
  go_wp2
  refine ord_start [(0, true), (1, true), (2, false), (3, false), (4, true)] (fun W => W.heap[w100.heap.size]? = some (.cells #[sv x_B.name, .int .i64 x_B.validity, .int .i64 x_B.next, (.slice pz103 x_B.msgs.length cz103)] 30 (0, 0)) ∧ W.heap[w.heap.size + 1]? = some (.cells #[sv x_B.name, .int .i64 x_B.validity, .int .i64 x_B.next, (.slice p_B_3 x_B.msgs.length c_B_3)] 39 (0, 0))) (by kernel_rfl) (by kernel_rfl) rfl (by kernel_rfl) ?_
  intro ops' hops
  clear hops
  simp only [List.map_cons, List.map_nil, pickOp_zero, pickOp_succ]
  have b196 : Below w183.heap.size w183 w183.drew := (Below.refl _ _).drew
  have hz197 : w183.drew.heap.size = w183.heap.size := rfl
  generalize w183.drew = D195 at *
  have F198 := Lib.hid ((b196.block (w.heap.size) (Array.getElem?_eq_some_iff.1 F185.out).1).trans F185.out)
  clear F185
  have F199 := Lib.hid ((b196.block (w.heap.size + 1) (Array.getElem?_eq_some_iff.1 F186.out).1).trans F186.out)
  clear F186
  have F200 := Lib.hid (LfIn.below F187.out b196)
  clear F187
  have F201 := Lib.hid (LfIn.below F188.out b196)
  clear F188
  have F202 := Lib.hid (LfIn.below F189.out b196)
  clear F189
  have F203 := Lib.hid ((b196.block (w69.heap.size) (Array.getElem?_eq_some_iff.1 F190.out).1).trans F190.out)
  clear F190
  have F204 := Lib.hid (LfIn.below F191.out b196)
  clear F191
  have F205 := Lib.hid ((b196.block (w100.heap.size) (Array.getElem?_eq_some_iff.1 F192.out).1).trans F192.out)
  clear F192
  have F206 := Lib.hid (LfIn.below F193.out b196)
  clear F193
  have hz207 : w183.heap.size ≤ D195.heap.size := b196.size
  replace hb := hb.trans (b196.mono hb.size)
  clear b196
  refine ord_flo (.agg #[sv x_B.name, .int .i64 x_B.validity, .int .i64 x_B.next, (.slice pz103 x_B.msgs.length cz103)]) (fun _ _ _ h => h) rfl ?_ ⟨F205.out, F199.out⟩ ?_
  · intro W hS
    have y0 := (Lib.cell_of_heap hS.1 0).trans (show _ = some (sv x_B.name) from rfl)
    have y1 := (Lib.cell_of_heap hS.1 1).trans (show _ = some (.int .i64 x_B.validity) from rfl)
    have y2 := (Lib.cell_of_heap hS.1 2).trans (show _ = some (.int .i64 x_B.next) from rfl)
    have y3 := (Lib.cell_of_heap hS.1 3).trans (show _ = some ((.slice pz103 x_B.msgs.length cz103)) from rfl)
    clear hS
    go_simp
  refine ord_flo (.agg #[sv x_B.name, .int .i64 x_B.validity, .int .i64 x_B.next, (.slice p_B_3 x_B.msgs.length c_B_3)]) (fun _ _ _ h => h) rfl ?_ ⟨F205.out, F199.out⟩ ?_
  · intro W hS
    have y0 := (Lib.cell_of_heap hS.2 0).trans (show _ = some (sv x_B.name) from rfl)
    have y1 := (Lib.cell_of_heap hS.2 1).trans (show _ = some (.int .i64 x_B.validity) from rfl)
    have y2 := (Lib.cell_of_heap hS.2 2).trans (show _ = some (.int .i64 x_B.next) from rfl)
    have y3 := (Lib.cell_of_heap hS.2 3).trans (show _ = some ((.slice p_B_3 x_B.msgs.length c_B_3)) from rfl)
    clear hS
    go_simp
  refine ord_ev rfl ?_
  go_simp
  refine (C_to_B.out _ (LfRd.below hb _ _ H_r_B_3.out)).mono ?_
  rintro e w208 ⟨z211, f212, rfl, i213, nd214, lo215, b209⟩
  have F216 := Lib.hid ((b209.block (w.heap.size) (Array.getElem?_eq_some_iff.1 F198.out).1).trans F198.out)
  clear F198
  have F217 := Lib.hid ((b209.block (w.heap.size + 1) (Array.getElem?_eq_some_iff.1 F199.out).1).trans F199.out)
  clear F199
  have F218 := Lib.hid (LfIn.below F200.out b209)
  clear F200
  have F219 := Lib.hid (LfIn.below F201.out b209)
  clear F201
  have F220 := Lib.hid (LfIn.below F202.out b209)
  clear F202
  have F221 := Lib.hid ((b209.block (w69.heap.size) (Array.getElem?_eq_some_iff.1 F203.out).1).trans F203.out)
  clear F203
  have F222 := Lib.hid (LfIn.below F204.out b209)
  clear F204
  have F223 := Lib.hid ((b209.block (w100.heap.size) (Array.getElem?_eq_some_iff.1 F205.out).1).trans F205.out)
  clear F205
  have F224 := Lib.hid (LfIn.below F206.out b209)
  clear F206
  have hz225 : D195.heap.size ≤ w208.heap.size := b209.size
  replace hb := hb.trans (b209.mono hb.size)
  have LO226 := Lib.hid (show ∀ q ∈ f212, D195.heap.size ≤ q from lo215)
  have HI227 := Lib.hid (show ∀ q ∈ f212, q < w208.heap.size from fun q hq => LfIn.lt _ _ _ i213 q hq)
  have ND228 := Lib.hid nd214
  have F229 := Lib.hid i213
  obtain ⟨pz211, cz211, rfl⟩ := LfIn.slice i213
  clear i213
  clear nd214 lo215
  clear b209
  refine ⟨⟨F223.out, F217.out⟩, ?_⟩
  refine ord_ev rfl ?_
  go_simp
  refine (eqBox_g x_B _ _ _ (LfIn.rd _ _ _ F222.out) (LfIn.rd _ _ _ F229.out) (by have := SZ_B.out; omega)).mono ?_
  rintro e w230 ⟨rfl, b231⟩
  have F232 := Lib.hid ((b231.block (w.heap.size) (Array.getElem?_eq_some_iff.1 F216.out).1).trans F216.out)
  clear F216
  have F233 := Lib.hid ((b231.block (w.heap.size + 1) (Array.getElem?_eq_some_iff.1 F217.out).1).trans F217.out)
  clear F217
  have F234 := Lib.hid (LfIn.below F218.out b231)
  clear F218
  have F235 := Lib.hid (LfIn.below F219.out b231)
  clear F219
  have F236 := Lib.hid (LfIn.below F220.out b231)
  clear F220
  have F237 := Lib.hid ((b231.block (w69.heap.size) (Array.getElem?_eq_some_iff.1 F221.out).1).trans F221.out)
  clear F221
  have F238 := Lib.hid (LfIn.below F222.out b231)
  clear F222
  have F239 := Lib.hid ((b231.block (w100.heap.size) (Array.getElem?_eq_some_iff.1 F223.out).1).trans F223.out)
  clear F223
  have F240 := Lib.hid (LfIn.below F224.out b231)
  clear F224
  have F241 := Lib.hid (LfIn.below F229.out b231)
  clear F229
  have hz242 : w208.heap.size ≤ w230.heap.size := b231.size
  replace hb := hb.trans (b231.mono hb.size)
  clear b231
  refine ⟨⟨F239.out, F233.out⟩, ?_⟩
  iterate 1 (refine ord_flo ?_ (fun _ _ _ h => h) rfl ?_ ⟨F239.out, F233.out⟩ ?_; rotate_left; focus (intro W hS; obtain ⟨s0, s1⟩ := hS; go_simp; rfl))
  refine ord_done ?_
  go_simp
  go_wp2
  go_ret
  exact ⟨rfl, hb⟩

end Go.Proofs.Ytboinphhpfggnaa
