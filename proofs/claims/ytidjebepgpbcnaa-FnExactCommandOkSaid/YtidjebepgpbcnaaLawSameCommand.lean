/-
  The exact law of SameCommand out of what the two functions answer (made by tools/lawc.py).
-/
import Derived.Test.YtidjebepgpbcnaaCmdB
import Derived.Test.YtidjebepgpbcnaaLgB
import Derived.Test.YtidjebepgpbcnaaGa
namespace Go.Proofs.Ytidjebepgpbcnaa
open Go.RowKit

def CtrSameCommand (f : FuncId) (G : World → Prop) : Prop := ∀ (x_A : CmdD) (r_A_5 : Value) (r_A_10 : Value) (x_B : CmdD) (r_B_5 : Value) (r_B_10 : Value) (W : World), G W → LfRd W (spnsLf x_A.sset) r_A_5 → LfRd W (scpsLf x_A.filter.scopes) r_A_10 → szLs x_A.lf ≤ 1048576 → LsBnd x_A.lf → LfRd W (spnsLf x_B.sset) r_B_5 → LfRd W (scpsLf x_B.filter.scopes) r_B_10 → szLs x_B.lf ≤ 1048576 → LsBnd x_B.lf → 
  Calls Try.prog f #[.agg #[sv x_A.tag, .int .i64 x_A.kind, sv x_A.box, sv x_A.to, .bool x_A.uid, r_A_5, .int .i64 x_A.op, .int .i64 x_A.flags, sv x_A.text, .bool x_A.filter.on, r_A_10], .agg #[sv x_B.tag, .int .i64 x_B.kind, sv x_B.box, sv x_B.to, .bool x_B.uid, r_B_5, .int .i64 x_B.op, .int .i64 x_B.flags, sv x_B.text, .bool x_B.filter.on, r_B_10]] W fun e w' => e = .returned (.bool (decide (x_A = x_B))) ∧ Below W.heap.size W w'

set_option maxRecDepth 20000 in
set_option maxHeartbeats 12800000 in
theorem FnExactSameCommand_of {G : World → Prop} (hK : Keeps G) (SP : CtrSameCommand 14 (fun _ => True)) (IM : CtrSameCommand 15 G) (x_A : CmdD) (r_A_5 : Value) (r_A_10 : Value) (x_B : CmdD) (r_B_5 : Value) (r_B_10 : Value) (w : World) (hG : G w) (h_r_A_5 : LfRd w (spnsLf x_A.sset) r_A_5) (h_r_A_10 : LfRd w (scpsLf x_A.filter.scopes) r_A_10) (hb_A : LsBnd x_A.lf) (h_r_B_5 : LfRd w (spnsLf x_B.sset) r_B_5) (h_r_B_10 : LfRd w (scpsLf x_B.filter.scopes) r_B_10) (hb_B : LsBnd x_B.lf) :
    Calls Try.prog 5 #[.agg #[sv x_A.tag, .int .i64 x_A.kind, sv x_A.box, sv x_A.to, .bool x_A.uid, r_A_5, .int .i64 x_A.op, .int .i64 x_A.flags, sv x_A.text, .bool x_A.filter.on, r_A_10], .agg #[sv x_B.tag, .int .i64 x_B.kind, sv x_B.box, sv x_B.to, .bool x_B.uid, r_B_5, .int .i64 x_B.op, .int .i64 x_B.flags, sv x_B.text, .bool x_B.filter.on, r_B_10]] w fun e w' => e = .returned (.bool true) ∧ Below w.heap.size w w' := by
  have H_r_A_5 := Lib.hid h_r_A_5
  have H_r_A_10 := Lib.hid h_r_A_10
  obtain ⟨p_A_5, c_A_5, rfl⟩ := LfRd.slice h_r_A_5
  obtain ⟨p_A_10, c_A_10, rfl⟩ := LfRd.slice h_r_A_10
  clear h_r_A_5
  clear h_r_A_10
  have H_r_B_5 := Lib.hid h_r_B_5
  have H_r_B_10 := Lib.hid h_r_B_10
  obtain ⟨p_B_5, c_B_5, rfl⟩ := LfRd.slice h_r_B_5
  obtain ⟨p_B_10, c_B_10, rfl⟩ := LfRd.slice h_r_B_10
  clear h_r_B_5
  clear h_r_B_10
  by_cases k0 : szLs x_A.lf ≤ 1048576
  case neg =>
    have q0 := fun (ll : Int) (W : World) (hl : ll = ((1048576 : Nat) : Int)) (g0 : LfRd W (spnsLf x_A.sset) (.slice p_A_5 x_A.sset.length c_A_5)) (g1 : LfRd W (scpsLf x_A.filter.scopes) (.slice p_A_10 x_A.filter.scopes.length c_A_10)) => szCommand_g x_A (.slice p_A_5 x_A.sset.length c_A_5) (.slice p_A_10 x_A.filter.scopes.length c_A_10) ll 1048576 hl W g0 g1 hb_A (by omega)
    simp only [show szN 1048576 (szLs x_A.lf) = -1 from szN_no k0] at q0
    have C_sz0 := Lib.hid q0
    clear q0 SP IM
    have hb : Below w.heap.size w ((w.alloc (.cells #[sv x_A.tag, .int .i64 x_A.kind, sv x_A.box, sv x_A.to, .bool x_A.uid, (.slice p_A_5 x_A.sset.length c_A_5), .int .i64 x_A.op, .int .i64 x_A.flags, sv x_A.text, .bool x_A.filter.on, (.slice p_A_10 x_A.filter.scopes.length c_A_10)] 28)).alloc (.cells #[sv x_B.tag, .int .i64 x_B.kind, sv x_B.box, sv x_B.to, .bool x_B.uid, (.slice p_B_5 x_B.sset.length c_B_5), .int .i64 x_B.op, .int .i64 x_B.flags, sv x_B.text, .bool x_B.filter.on, (.slice p_B_10 x_B.filter.scopes.length c_B_10)] 28)) := (((Below.refl _ _).alloc (Nat.le_refl _) _).alloc (by simp) _)
    have HB1 := Lib.hid (show ((w.alloc (.cells #[sv x_A.tag, .int .i64 x_A.kind, sv x_A.box, sv x_A.to, .bool x_A.uid, (.slice p_A_5 x_A.sset.length c_A_5), .int .i64 x_A.op, .int .i64 x_A.flags, sv x_A.text, .bool x_A.filter.on, (.slice p_A_10 x_A.filter.scopes.length c_A_10)] 28)).alloc (.cells #[sv x_B.tag, .int .i64 x_B.kind, sv x_B.box, sv x_B.to, .bool x_B.uid, (.slice p_B_5 x_B.sset.length c_B_5), .int .i64 x_B.op, .int .i64 x_B.flags, sv x_B.text, .bool x_B.filter.on, (.slice p_B_10 x_B.filter.scopes.length c_B_10)] 28)).heap[w.heap.size]? = some (.cells #[sv x_A.tag, .int .i64 x_A.kind, sv x_A.box, sv x_A.to, .bool x_A.uid, (.slice p_A_5 x_A.sset.length c_A_5), .int .i64 x_A.op, .int .i64 x_A.flags, sv x_A.text, .bool x_A.filter.on, (.slice p_A_10 x_A.filter.scopes.length c_A_10)] 28 (0, 0)) from by
      have h := heap_alloc_new w (.cells #[sv x_A.tag, .int .i64 x_A.kind, sv x_A.box, sv x_A.to, .bool x_A.uid, (.slice p_A_5 x_A.sset.length c_A_5), .int .i64 x_A.op, .int .i64 x_A.flags, sv x_A.text, .bool x_A.filter.on, (.slice p_A_10 x_A.filter.scopes.length c_A_10)] 28)
      have h := (Below.heap_alloc (w.alloc (.cells #[sv x_A.tag, .int .i64 x_A.kind, sv x_A.box, sv x_A.to, .bool x_A.uid, (.slice p_A_5 x_A.sset.length c_A_5), .int .i64 x_A.op, .int .i64 x_A.flags, sv x_A.text, .bool x_A.filter.on, (.slice p_A_10 x_A.filter.scopes.length c_A_10)] 28)) (.cells #[sv x_B.tag, .int .i64 x_B.kind, sv x_B.box, sv x_B.to, .bool x_B.uid, (.slice p_B_5 x_B.sset.length c_B_5), .int .i64 x_B.op, .int .i64 x_B.flags, sv x_B.text, .bool x_B.filter.on, (.slice p_B_10 x_B.filter.scopes.length c_B_10)] 28) _ (by simp)).trans h
      exact h)
    have HB2 := Lib.hid (show ((w.alloc (.cells #[sv x_A.tag, .int .i64 x_A.kind, sv x_A.box, sv x_A.to, .bool x_A.uid, (.slice p_A_5 x_A.sset.length c_A_5), .int .i64 x_A.op, .int .i64 x_A.flags, sv x_A.text, .bool x_A.filter.on, (.slice p_A_10 x_A.filter.scopes.length c_A_10)] 28)).alloc (.cells #[sv x_B.tag, .int .i64 x_B.kind, sv x_B.box, sv x_B.to, .bool x_B.uid, (.slice p_B_5 x_B.sset.length c_B_5), .int .i64 x_B.op, .int .i64 x_B.flags, sv x_B.text, .bool x_B.filter.on, (.slice p_B_10 x_B.filter.scopes.length c_B_10)] 28)).heap[w.heap.size + 1]? = some (.cells #[sv x_B.tag, .int .i64 x_B.kind, sv x_B.box, sv x_B.to, .bool x_B.uid, (.slice p_B_5 x_B.sset.length c_B_5), .int .i64 x_B.op, .int .i64 x_B.flags, sv x_B.text, .bool x_B.filter.on, (.slice p_B_10 x_B.filter.scopes.length c_B_10)] 28 (0, 0)) from by
      have h := heap_alloc_new (w.alloc (.cells #[sv x_A.tag, .int .i64 x_A.kind, sv x_A.box, sv x_A.to, .bool x_A.uid, (.slice p_A_5 x_A.sset.length c_A_5), .int .i64 x_A.op, .int .i64 x_A.flags, sv x_A.text, .bool x_A.filter.on, (.slice p_A_10 x_A.filter.scopes.length c_A_10)] 28)) (.cells #[sv x_B.tag, .int .i64 x_B.kind, sv x_B.box, sv x_B.to, .bool x_B.uid, (.slice p_B_5 x_B.sset.length c_B_5), .int .i64 x_B.op, .int .i64 x_B.flags, sv x_B.text, .bool x_B.filter.on, (.slice p_B_10 x_B.filter.scopes.length c_B_10)] 28)
      simp only [World.size_alloc] at h
      exact h)
    have hz0 : w.heap.size + 2 ≤ ((w.alloc (.cells #[sv x_A.tag, .int .i64 x_A.kind, sv x_A.box, sv x_A.to, .bool x_A.uid, (.slice p_A_5 x_A.sset.length c_A_5), .int .i64 x_A.op, .int .i64 x_A.flags, sv x_A.text, .bool x_A.filter.on, (.slice p_A_10 x_A.filter.scopes.length c_A_10)] 28)).alloc (.cells #[sv x_B.tag, .int .i64 x_B.kind, sv x_B.box, sv x_B.to, .bool x_B.uid, (.slice p_B_5 x_B.sset.length c_B_5), .int .i64 x_B.op, .int .i64 x_B.flags, sv x_B.text, .bool x_B.filter.on, (.slice p_B_10 x_B.filter.scopes.length c_B_10)] 28)).heap.size := by simp
    generalize hW0 : ((w.alloc (.cells #[sv x_A.tag, .int .i64 x_A.kind, sv x_A.box, sv x_A.to, .bool x_A.uid, (.slice p_A_5 x_A.sset.length c_A_5), .int .i64 x_A.op, .int .i64 x_A.flags, sv x_A.text, .bool x_A.filter.on, (.slice p_A_10 x_A.filter.scopes.length c_A_10)] 28)).alloc (.cells #[sv x_B.tag, .int .i64 x_B.kind, sv x_B.box, sv x_B.to, .bool x_B.uid, (.slice p_B_5 x_B.sset.length c_B_5), .int .i64 x_B.op, .int .i64 x_B.flags, sv x_B.text, .bool x_B.filter.on, (.slice p_B_10 x_B.filter.scopes.length c_B_10)] 28)) = W0 at *
    go_enter Try.func5, Try.ntmps5
    have hbz := Lib.hid hb.size
    have y3 := (Lib.cell_of_heap HB1.out 0).trans (show _ = some (sv x_A.tag) from rfl)
    have y4 := (Lib.cell_of_heap HB1.out 1).trans (show _ = some (.int .i64 x_A.kind) from rfl)
    have y5 := (Lib.cell_of_heap HB1.out 2).trans (show _ = some (sv x_A.box) from rfl)
    have y6 := (Lib.cell_of_heap HB1.out 3).trans (show _ = some (sv x_A.to) from rfl)
    have y7 := (Lib.cell_of_heap HB1.out 4).trans (show _ = some (.bool x_A.uid) from rfl)
    have y8 := (Lib.cell_of_heap HB1.out 5).trans (show _ = some ((.slice p_A_5 x_A.sset.length c_A_5)) from rfl)
    have y9 := (Lib.cell_of_heap HB1.out 6).trans (show _ = some (.int .i64 x_A.op) from rfl)
    have y10 := (Lib.cell_of_heap HB1.out 7).trans (show _ = some (.int .i64 x_A.flags) from rfl)
    have y11 := (Lib.cell_of_heap HB1.out 8).trans (show _ = some (sv x_A.text) from rfl)
    have y12 := (Lib.cell_of_heap HB1.out 9).trans (show _ = some (.bool x_A.filter.on) from rfl)
    have y13 := (Lib.cell_of_heap HB1.out 10).trans (show _ = some ((.slice p_A_10 x_A.filter.scopes.length c_A_10)) from rfl)
    go_wp2_with fail
    refine (C_sz0.out _ _ (by first | rfl | omega) (LfRd.below hb _ _ H_r_A_5.out) (LfRd.below hb _ _ H_r_A_10.out)).mono ?_
    rintro e w14 ⟨rfl, b15⟩
    clear y3 y4 y5 y6 y7 y8 y9 y10 y11 y12 y13
    have F16 := Lib.hid ((b15.block (w.heap.size) (Array.getElem?_eq_some_iff.1 HB1.out).1).trans HB1.out)
    clear HB1
    have F17 := Lib.hid ((b15.block (w.heap.size + 1) (Array.getElem?_eq_some_iff.1 HB2.out).1).trans HB2.out)
    clear HB2
    have hz18 : W0.heap.size ≤ w14.heap.size := b15.size
    replace hb := hb.trans (b15.mono hb.size)
    clear b15
    go_wp2
    go_ret
    exact ⟨rfl, hb⟩
  obtain ⟨L1, hL1⟩ : ∃ L, L + szLs x_A.lf = 1048576 := ⟨1048576 - szLs x_A.lf, by omega⟩
  have bL1 : L1 ≤ 1048576 := by omega
  have nL1 : ¬ (L1 : Int) < 0 := by omega
  have q0 := fun (ll : Int) (W : World) (hl : ll = ((1048576 : Nat) : Int)) (g0 : LfRd W (spnsLf x_A.sset) (.slice p_A_5 x_A.sset.length c_A_5)) (g1 : LfRd W (scpsLf x_A.filter.scopes) (.slice p_A_10 x_A.filter.scopes.length c_A_10)) => szCommand_g x_A (.slice p_A_5 x_A.sset.length c_A_5) (.slice p_A_10 x_A.filter.scopes.length c_A_10) ll 1048576 hl W g0 g1 hb_A (by omega)
  simp only [show szN 1048576 (szLs x_A.lf) = (L1 : Int) from by rw [szN_yes k0]; omega] at q0
  have C_sz0 := Lib.hid q0
  clear q0
  have HL1 := Lib.hid hL1
  have hsz_0 : szLs x_A.lf ≤ 1048576 := by omega
  clear hL1
  by_cases k1 : szLs x_B.lf ≤ L1
  case neg =>
    have q1 := fun (ll : Int) (W : World) (hl : ll = ((L1 : Nat) : Int)) (g0 : LfRd W (spnsLf x_B.sset) (.slice p_B_5 x_B.sset.length c_B_5)) (g1 : LfRd W (scpsLf x_B.filter.scopes) (.slice p_B_10 x_B.filter.scopes.length c_B_10)) => szCommand_g x_B (.slice p_B_5 x_B.sset.length c_B_5) (.slice p_B_10 x_B.filter.scopes.length c_B_10) ll L1 hl W g0 g1 hb_B (by omega)
    simp only [show szN L1 (szLs x_B.lf) = -1 from szN_no k1] at q1
    have C_sz1 := Lib.hid q1
    clear q1 SP IM
    have hb : Below w.heap.size w ((w.alloc (.cells #[sv x_A.tag, .int .i64 x_A.kind, sv x_A.box, sv x_A.to, .bool x_A.uid, (.slice p_A_5 x_A.sset.length c_A_5), .int .i64 x_A.op, .int .i64 x_A.flags, sv x_A.text, .bool x_A.filter.on, (.slice p_A_10 x_A.filter.scopes.length c_A_10)] 28)).alloc (.cells #[sv x_B.tag, .int .i64 x_B.kind, sv x_B.box, sv x_B.to, .bool x_B.uid, (.slice p_B_5 x_B.sset.length c_B_5), .int .i64 x_B.op, .int .i64 x_B.flags, sv x_B.text, .bool x_B.filter.on, (.slice p_B_10 x_B.filter.scopes.length c_B_10)] 28)) := (((Below.refl _ _).alloc (Nat.le_refl _) _).alloc (by simp) _)
    have HB1 := Lib.hid (show ((w.alloc (.cells #[sv x_A.tag, .int .i64 x_A.kind, sv x_A.box, sv x_A.to, .bool x_A.uid, (.slice p_A_5 x_A.sset.length c_A_5), .int .i64 x_A.op, .int .i64 x_A.flags, sv x_A.text, .bool x_A.filter.on, (.slice p_A_10 x_A.filter.scopes.length c_A_10)] 28)).alloc (.cells #[sv x_B.tag, .int .i64 x_B.kind, sv x_B.box, sv x_B.to, .bool x_B.uid, (.slice p_B_5 x_B.sset.length c_B_5), .int .i64 x_B.op, .int .i64 x_B.flags, sv x_B.text, .bool x_B.filter.on, (.slice p_B_10 x_B.filter.scopes.length c_B_10)] 28)).heap[w.heap.size]? = some (.cells #[sv x_A.tag, .int .i64 x_A.kind, sv x_A.box, sv x_A.to, .bool x_A.uid, (.slice p_A_5 x_A.sset.length c_A_5), .int .i64 x_A.op, .int .i64 x_A.flags, sv x_A.text, .bool x_A.filter.on, (.slice p_A_10 x_A.filter.scopes.length c_A_10)] 28 (0, 0)) from by
      have h := heap_alloc_new w (.cells #[sv x_A.tag, .int .i64 x_A.kind, sv x_A.box, sv x_A.to, .bool x_A.uid, (.slice p_A_5 x_A.sset.length c_A_5), .int .i64 x_A.op, .int .i64 x_A.flags, sv x_A.text, .bool x_A.filter.on, (.slice p_A_10 x_A.filter.scopes.length c_A_10)] 28)
      have h := (Below.heap_alloc (w.alloc (.cells #[sv x_A.tag, .int .i64 x_A.kind, sv x_A.box, sv x_A.to, .bool x_A.uid, (.slice p_A_5 x_A.sset.length c_A_5), .int .i64 x_A.op, .int .i64 x_A.flags, sv x_A.text, .bool x_A.filter.on, (.slice p_A_10 x_A.filter.scopes.length c_A_10)] 28)) (.cells #[sv x_B.tag, .int .i64 x_B.kind, sv x_B.box, sv x_B.to, .bool x_B.uid, (.slice p_B_5 x_B.sset.length c_B_5), .int .i64 x_B.op, .int .i64 x_B.flags, sv x_B.text, .bool x_B.filter.on, (.slice p_B_10 x_B.filter.scopes.length c_B_10)] 28) _ (by simp)).trans h
      exact h)
    have HB2 := Lib.hid (show ((w.alloc (.cells #[sv x_A.tag, .int .i64 x_A.kind, sv x_A.box, sv x_A.to, .bool x_A.uid, (.slice p_A_5 x_A.sset.length c_A_5), .int .i64 x_A.op, .int .i64 x_A.flags, sv x_A.text, .bool x_A.filter.on, (.slice p_A_10 x_A.filter.scopes.length c_A_10)] 28)).alloc (.cells #[sv x_B.tag, .int .i64 x_B.kind, sv x_B.box, sv x_B.to, .bool x_B.uid, (.slice p_B_5 x_B.sset.length c_B_5), .int .i64 x_B.op, .int .i64 x_B.flags, sv x_B.text, .bool x_B.filter.on, (.slice p_B_10 x_B.filter.scopes.length c_B_10)] 28)).heap[w.heap.size + 1]? = some (.cells #[sv x_B.tag, .int .i64 x_B.kind, sv x_B.box, sv x_B.to, .bool x_B.uid, (.slice p_B_5 x_B.sset.length c_B_5), .int .i64 x_B.op, .int .i64 x_B.flags, sv x_B.text, .bool x_B.filter.on, (.slice p_B_10 x_B.filter.scopes.length c_B_10)] 28 (0, 0)) from by
      have h := heap_alloc_new (w.alloc (.cells #[sv x_A.tag, .int .i64 x_A.kind, sv x_A.box, sv x_A.to, .bool x_A.uid, (.slice p_A_5 x_A.sset.length c_A_5), .int .i64 x_A.op, .int .i64 x_A.flags, sv x_A.text, .bool x_A.filter.on, (.slice p_A_10 x_A.filter.scopes.length c_A_10)] 28)) (.cells #[sv x_B.tag, .int .i64 x_B.kind, sv x_B.box, sv x_B.to, .bool x_B.uid, (.slice p_B_5 x_B.sset.length c_B_5), .int .i64 x_B.op, .int .i64 x_B.flags, sv x_B.text, .bool x_B.filter.on, (.slice p_B_10 x_B.filter.scopes.length c_B_10)] 28)
      simp only [World.size_alloc] at h
      exact h)
    have hz0 : w.heap.size + 2 ≤ ((w.alloc (.cells #[sv x_A.tag, .int .i64 x_A.kind, sv x_A.box, sv x_A.to, .bool x_A.uid, (.slice p_A_5 x_A.sset.length c_A_5), .int .i64 x_A.op, .int .i64 x_A.flags, sv x_A.text, .bool x_A.filter.on, (.slice p_A_10 x_A.filter.scopes.length c_A_10)] 28)).alloc (.cells #[sv x_B.tag, .int .i64 x_B.kind, sv x_B.box, sv x_B.to, .bool x_B.uid, (.slice p_B_5 x_B.sset.length c_B_5), .int .i64 x_B.op, .int .i64 x_B.flags, sv x_B.text, .bool x_B.filter.on, (.slice p_B_10 x_B.filter.scopes.length c_B_10)] 28)).heap.size := by simp
    generalize hW0 : ((w.alloc (.cells #[sv x_A.tag, .int .i64 x_A.kind, sv x_A.box, sv x_A.to, .bool x_A.uid, (.slice p_A_5 x_A.sset.length c_A_5), .int .i64 x_A.op, .int .i64 x_A.flags, sv x_A.text, .bool x_A.filter.on, (.slice p_A_10 x_A.filter.scopes.length c_A_10)] 28)).alloc (.cells #[sv x_B.tag, .int .i64 x_B.kind, sv x_B.box, sv x_B.to, .bool x_B.uid, (.slice p_B_5 x_B.sset.length c_B_5), .int .i64 x_B.op, .int .i64 x_B.flags, sv x_B.text, .bool x_B.filter.on, (.slice p_B_10 x_B.filter.scopes.length c_B_10)] 28)) = W0 at *
    go_enter Try.func5, Try.ntmps5
    have hbz := Lib.hid hb.size
    have y3 := (Lib.cell_of_heap HB1.out 0).trans (show _ = some (sv x_A.tag) from rfl)
    have y4 := (Lib.cell_of_heap HB1.out 1).trans (show _ = some (.int .i64 x_A.kind) from rfl)
    have y5 := (Lib.cell_of_heap HB1.out 2).trans (show _ = some (sv x_A.box) from rfl)
    have y6 := (Lib.cell_of_heap HB1.out 3).trans (show _ = some (sv x_A.to) from rfl)
    have y7 := (Lib.cell_of_heap HB1.out 4).trans (show _ = some (.bool x_A.uid) from rfl)
    have y8 := (Lib.cell_of_heap HB1.out 5).trans (show _ = some ((.slice p_A_5 x_A.sset.length c_A_5)) from rfl)
    have y9 := (Lib.cell_of_heap HB1.out 6).trans (show _ = some (.int .i64 x_A.op) from rfl)
    have y10 := (Lib.cell_of_heap HB1.out 7).trans (show _ = some (.int .i64 x_A.flags) from rfl)
    have y11 := (Lib.cell_of_heap HB1.out 8).trans (show _ = some (sv x_A.text) from rfl)
    have y12 := (Lib.cell_of_heap HB1.out 9).trans (show _ = some (.bool x_A.filter.on) from rfl)
    have y13 := (Lib.cell_of_heap HB1.out 10).trans (show _ = some ((.slice p_A_10 x_A.filter.scopes.length c_A_10)) from rfl)
    go_wp2_with fail
    refine (C_sz0.out _ _ (by first | rfl | omega) (LfRd.below hb _ _ H_r_A_5.out) (LfRd.below hb _ _ H_r_A_10.out)).mono ?_
    rintro e w14 ⟨rfl, b15⟩
    clear y3 y4 y5 y6 y7 y8 y9 y10 y11 y12 y13
    have F16 := Lib.hid ((b15.block (w.heap.size) (Array.getElem?_eq_some_iff.1 HB1.out).1).trans HB1.out)
    clear HB1
    have F17 := Lib.hid ((b15.block (w.heap.size + 1) (Array.getElem?_eq_some_iff.1 HB2.out).1).trans HB2.out)
    clear HB2
    have hz18 : W0.heap.size ≤ w14.heap.size := b15.size
    replace hb := hb.trans (b15.mono hb.size)
    clear b15
    have y19 := (Lib.cell_of_heap F17.out 0).trans (show _ = some (sv x_B.tag) from rfl)
    have y20 := (Lib.cell_of_heap F17.out 1).trans (show _ = some (.int .i64 x_B.kind) from rfl)
    have y21 := (Lib.cell_of_heap F17.out 2).trans (show _ = some (sv x_B.box) from rfl)
    have y22 := (Lib.cell_of_heap F17.out 3).trans (show _ = some (sv x_B.to) from rfl)
    have y23 := (Lib.cell_of_heap F17.out 4).trans (show _ = some (.bool x_B.uid) from rfl)
    have y24 := (Lib.cell_of_heap F17.out 5).trans (show _ = some ((.slice p_B_5 x_B.sset.length c_B_5)) from rfl)
    have y25 := (Lib.cell_of_heap F17.out 6).trans (show _ = some (.int .i64 x_B.op) from rfl)
    have y26 := (Lib.cell_of_heap F17.out 7).trans (show _ = some (.int .i64 x_B.flags) from rfl)
    have y27 := (Lib.cell_of_heap F17.out 8).trans (show _ = some (sv x_B.text) from rfl)
    have y28 := (Lib.cell_of_heap F17.out 9).trans (show _ = some (.bool x_B.filter.on) from rfl)
    have y29 := (Lib.cell_of_heap F17.out 10).trans (show _ = some ((.slice p_B_10 x_B.filter.scopes.length c_B_10)) from rfl)
    go_wp2_with fail
    refine (C_sz1.out _ _ (by first | rfl | omega) (LfRd.below hb _ _ H_r_B_5.out) (LfRd.below hb _ _ H_r_B_10.out)).mono ?_
    rintro e w30 ⟨rfl, b31⟩
    clear y19 y20 y21 y22 y23 y24 y25 y26 y27 y28 y29
    have F32 := Lib.hid ((b31.block (w.heap.size) (Array.getElem?_eq_some_iff.1 F16.out).1).trans F16.out)
    clear F16
    have F33 := Lib.hid ((b31.block (w.heap.size + 1) (Array.getElem?_eq_some_iff.1 F17.out).1).trans F17.out)
    clear F17
    have hz34 : w14.heap.size ≤ w30.heap.size := b31.size
    replace hb := hb.trans (b31.mono hb.size)
    clear b31
    go_wp2
    go_ret
    exact ⟨rfl, hb⟩
  obtain ⟨L2, hL2⟩ : ∃ L, L + szLs x_B.lf = L1 := ⟨L1 - szLs x_B.lf, by omega⟩
  have bL2 : L2 ≤ 1048576 := by omega
  have nL2 : ¬ (L2 : Int) < 0 := by omega
  have q1 := fun (ll : Int) (W : World) (hl : ll = ((L1 : Nat) : Int)) (g0 : LfRd W (spnsLf x_B.sset) (.slice p_B_5 x_B.sset.length c_B_5)) (g1 : LfRd W (scpsLf x_B.filter.scopes) (.slice p_B_10 x_B.filter.scopes.length c_B_10)) => szCommand_g x_B (.slice p_B_5 x_B.sset.length c_B_5) (.slice p_B_10 x_B.filter.scopes.length c_B_10) ll L1 hl W g0 g1 hb_B (by omega)
  simp only [show szN L1 (szLs x_B.lf) = (L2 : Int) from by rw [szN_yes k1]; omega] at q1
  have C_sz1 := Lib.hid q1
  clear q1
  have HL2 := Lib.hid hL2
  have hsz_1 : szLs x_B.lf ≤ 1048576 := by omega
  clear hL2
  have hsm_A : szLs x_A.lf ≤ 1048576 := by omega
  have SZ_A := Lib.hid hsm_A
  have CN_A := Lib.hid (show 1 + cntLf (spnsLf x_A.sset) + cntLf (scpsLf x_A.filter.scopes) ≤ 1000000000 from by have hs := CmdD.sz x_A; have h5 := cntRow_le (spnsLf_fit x_A.sset); have h10 := cntRow_le (scpsLf_fit x_A.filter.scopes); simp only [scpsLf, spnsLf] at hs ⊢; omega)
  have C_to_A := Lib.hid (fun (W : World) (g0 : LfRd W (spnsLf x_A.sset) (.slice p_A_5 x_A.sset.length c_A_5)) (g1 : LfRd W (scpsLf x_A.filter.scopes) (.slice p_A_10 x_A.filter.scopes.length c_A_10)) => toCommand_g x_A (.slice p_A_5 x_A.sset.length c_A_5) (.slice p_A_10 x_A.filter.scopes.length c_A_10) W g0 g1 (by omega))
  have hsm_B : szLs x_B.lf ≤ 1048576 := by omega
  have SZ_B := Lib.hid hsm_B
  have CN_B := Lib.hid (show 1 + cntLf (spnsLf x_B.sset) + cntLf (scpsLf x_B.filter.scopes) ≤ 1000000000 from by have hs := CmdD.sz x_B; have h5 := cntRow_le (spnsLf_fit x_B.sset); have h10 := cntRow_le (scpsLf_fit x_B.filter.scopes); simp only [scpsLf, spnsLf] at hs ⊢; omega)
  have C_to_B := Lib.hid (fun (W : World) (g0 : LfRd W (spnsLf x_B.sset) (.slice p_B_5 x_B.sset.length c_B_5)) (g1 : LfRd W (scpsLf x_B.filter.scopes) (.slice p_B_10 x_B.filter.scopes.length c_B_10)) => toCommand_g x_B (.slice p_B_5 x_B.sset.length c_B_5) (.slice p_B_10 x_B.filter.scopes.length c_B_10) W g0 g1 (by omega))
  have C_spec := Lib.hid (fun (u_A_0 : Value) (u_A_1 : Value) (u_B_0 : Value) (u_B_1 : Value) (W : World) (k_A_0 : LfRd W (spnsLf x_A.sset) u_A_0) (k_A_1 : LfRd W (scpsLf x_A.filter.scopes) u_A_1) (k_B_0 : LfRd W (spnsLf x_B.sset) u_B_0) (k_B_1 : LfRd W (scpsLf x_B.filter.scopes) u_B_1) => SP x_A u_A_0 u_A_1 x_B u_B_0 u_B_1 W trivial k_A_0 k_A_1 hsm_A hb_A k_B_0 k_B_1 hsm_B hb_B)
  have C_impl := Lib.hid (fun (u_A_0 : Value) (u_A_1 : Value) (u_B_0 : Value) (u_B_1 : Value) (W : World) (hg : G W) (k_A_0 : LfRd W (spnsLf x_A.sset) u_A_0) (k_A_1 : LfRd W (scpsLf x_A.filter.scopes) u_A_1) (k_B_0 : LfRd W (spnsLf x_B.sset) u_B_0) (k_B_1 : LfRd W (scpsLf x_B.filter.scopes) u_B_1) => IM x_A u_A_0 u_A_1 x_B u_B_0 u_B_1 W hg k_A_0 k_A_1 hsm_A hb_A k_B_0 k_B_1 hsm_B hb_B)
  clear SP IM hb_A hsm_A hb_B hsm_B
  generalize (decide (x_A = x_B)) = R0 at *
  have ne0 : (R0 != R0) = false := by simp
  have hb : Below w.heap.size w ((w.alloc (.cells #[sv x_A.tag, .int .i64 x_A.kind, sv x_A.box, sv x_A.to, .bool x_A.uid, (.slice p_A_5 x_A.sset.length c_A_5), .int .i64 x_A.op, .int .i64 x_A.flags, sv x_A.text, .bool x_A.filter.on, (.slice p_A_10 x_A.filter.scopes.length c_A_10)] 28)).alloc (.cells #[sv x_B.tag, .int .i64 x_B.kind, sv x_B.box, sv x_B.to, .bool x_B.uid, (.slice p_B_5 x_B.sset.length c_B_5), .int .i64 x_B.op, .int .i64 x_B.flags, sv x_B.text, .bool x_B.filter.on, (.slice p_B_10 x_B.filter.scopes.length c_B_10)] 28)) := (((Below.refl _ _).alloc (Nat.le_refl _) _).alloc (by simp) _)
  have HB1 := Lib.hid (show ((w.alloc (.cells #[sv x_A.tag, .int .i64 x_A.kind, sv x_A.box, sv x_A.to, .bool x_A.uid, (.slice p_A_5 x_A.sset.length c_A_5), .int .i64 x_A.op, .int .i64 x_A.flags, sv x_A.text, .bool x_A.filter.on, (.slice p_A_10 x_A.filter.scopes.length c_A_10)] 28)).alloc (.cells #[sv x_B.tag, .int .i64 x_B.kind, sv x_B.box, sv x_B.to, .bool x_B.uid, (.slice p_B_5 x_B.sset.length c_B_5), .int .i64 x_B.op, .int .i64 x_B.flags, sv x_B.text, .bool x_B.filter.on, (.slice p_B_10 x_B.filter.scopes.length c_B_10)] 28)).heap[w.heap.size]? = some (.cells #[sv x_A.tag, .int .i64 x_A.kind, sv x_A.box, sv x_A.to, .bool x_A.uid, (.slice p_A_5 x_A.sset.length c_A_5), .int .i64 x_A.op, .int .i64 x_A.flags, sv x_A.text, .bool x_A.filter.on, (.slice p_A_10 x_A.filter.scopes.length c_A_10)] 28 (0, 0)) from by
    have h := heap_alloc_new w (.cells #[sv x_A.tag, .int .i64 x_A.kind, sv x_A.box, sv x_A.to, .bool x_A.uid, (.slice p_A_5 x_A.sset.length c_A_5), .int .i64 x_A.op, .int .i64 x_A.flags, sv x_A.text, .bool x_A.filter.on, (.slice p_A_10 x_A.filter.scopes.length c_A_10)] 28)
    have h := (Below.heap_alloc (w.alloc (.cells #[sv x_A.tag, .int .i64 x_A.kind, sv x_A.box, sv x_A.to, .bool x_A.uid, (.slice p_A_5 x_A.sset.length c_A_5), .int .i64 x_A.op, .int .i64 x_A.flags, sv x_A.text, .bool x_A.filter.on, (.slice p_A_10 x_A.filter.scopes.length c_A_10)] 28)) (.cells #[sv x_B.tag, .int .i64 x_B.kind, sv x_B.box, sv x_B.to, .bool x_B.uid, (.slice p_B_5 x_B.sset.length c_B_5), .int .i64 x_B.op, .int .i64 x_B.flags, sv x_B.text, .bool x_B.filter.on, (.slice p_B_10 x_B.filter.scopes.length c_B_10)] 28) _ (by simp)).trans h
    exact h)
  have HB2 := Lib.hid (show ((w.alloc (.cells #[sv x_A.tag, .int .i64 x_A.kind, sv x_A.box, sv x_A.to, .bool x_A.uid, (.slice p_A_5 x_A.sset.length c_A_5), .int .i64 x_A.op, .int .i64 x_A.flags, sv x_A.text, .bool x_A.filter.on, (.slice p_A_10 x_A.filter.scopes.length c_A_10)] 28)).alloc (.cells #[sv x_B.tag, .int .i64 x_B.kind, sv x_B.box, sv x_B.to, .bool x_B.uid, (.slice p_B_5 x_B.sset.length c_B_5), .int .i64 x_B.op, .int .i64 x_B.flags, sv x_B.text, .bool x_B.filter.on, (.slice p_B_10 x_B.filter.scopes.length c_B_10)] 28)).heap[w.heap.size + 1]? = some (.cells #[sv x_B.tag, .int .i64 x_B.kind, sv x_B.box, sv x_B.to, .bool x_B.uid, (.slice p_B_5 x_B.sset.length c_B_5), .int .i64 x_B.op, .int .i64 x_B.flags, sv x_B.text, .bool x_B.filter.on, (.slice p_B_10 x_B.filter.scopes.length c_B_10)] 28 (0, 0)) from by
    have h := heap_alloc_new (w.alloc (.cells #[sv x_A.tag, .int .i64 x_A.kind, sv x_A.box, sv x_A.to, .bool x_A.uid, (.slice p_A_5 x_A.sset.length c_A_5), .int .i64 x_A.op, .int .i64 x_A.flags, sv x_A.text, .bool x_A.filter.on, (.slice p_A_10 x_A.filter.scopes.length c_A_10)] 28)) (.cells #[sv x_B.tag, .int .i64 x_B.kind, sv x_B.box, sv x_B.to, .bool x_B.uid, (.slice p_B_5 x_B.sset.length c_B_5), .int .i64 x_B.op, .int .i64 x_B.flags, sv x_B.text, .bool x_B.filter.on, (.slice p_B_10 x_B.filter.scopes.length c_B_10)] 28)
    simp only [World.size_alloc] at h
    exact h)
  have hz0 : w.heap.size + 2 ≤ ((w.alloc (.cells #[sv x_A.tag, .int .i64 x_A.kind, sv x_A.box, sv x_A.to, .bool x_A.uid, (.slice p_A_5 x_A.sset.length c_A_5), .int .i64 x_A.op, .int .i64 x_A.flags, sv x_A.text, .bool x_A.filter.on, (.slice p_A_10 x_A.filter.scopes.length c_A_10)] 28)).alloc (.cells #[sv x_B.tag, .int .i64 x_B.kind, sv x_B.box, sv x_B.to, .bool x_B.uid, (.slice p_B_5 x_B.sset.length c_B_5), .int .i64 x_B.op, .int .i64 x_B.flags, sv x_B.text, .bool x_B.filter.on, (.slice p_B_10 x_B.filter.scopes.length c_B_10)] 28)).heap.size := by simp
  generalize hW0 : ((w.alloc (.cells #[sv x_A.tag, .int .i64 x_A.kind, sv x_A.box, sv x_A.to, .bool x_A.uid, (.slice p_A_5 x_A.sset.length c_A_5), .int .i64 x_A.op, .int .i64 x_A.flags, sv x_A.text, .bool x_A.filter.on, (.slice p_A_10 x_A.filter.scopes.length c_A_10)] 28)).alloc (.cells #[sv x_B.tag, .int .i64 x_B.kind, sv x_B.box, sv x_B.to, .bool x_B.uid, (.slice p_B_5 x_B.sset.length c_B_5), .int .i64 x_B.op, .int .i64 x_B.flags, sv x_B.text, .bool x_B.filter.on, (.slice p_B_10 x_B.filter.scopes.length c_B_10)] 28)) = W0 at *
  go_enter Try.func5, Try.ntmps5
  have hbz := Lib.hid hb.size
  have y3 := (Lib.cell_of_heap HB1.out 0).trans (show _ = some (sv x_A.tag) from rfl)
  have y4 := (Lib.cell_of_heap HB1.out 1).trans (show _ = some (.int .i64 x_A.kind) from rfl)
  have y5 := (Lib.cell_of_heap HB1.out 2).trans (show _ = some (sv x_A.box) from rfl)
  have y6 := (Lib.cell_of_heap HB1.out 3).trans (show _ = some (sv x_A.to) from rfl)
  have y7 := (Lib.cell_of_heap HB1.out 4).trans (show _ = some (.bool x_A.uid) from rfl)
  have y8 := (Lib.cell_of_heap HB1.out 5).trans (show _ = some ((.slice p_A_5 x_A.sset.length c_A_5)) from rfl)
  have y9 := (Lib.cell_of_heap HB1.out 6).trans (show _ = some (.int .i64 x_A.op) from rfl)
  have y10 := (Lib.cell_of_heap HB1.out 7).trans (show _ = some (.int .i64 x_A.flags) from rfl)
  have y11 := (Lib.cell_of_heap HB1.out 8).trans (show _ = some (sv x_A.text) from rfl)
  have y12 := (Lib.cell_of_heap HB1.out 9).trans (show _ = some (.bool x_A.filter.on) from rfl)
  have y13 := (Lib.cell_of_heap HB1.out 10).trans (show _ = some ((.slice p_A_10 x_A.filter.scopes.length c_A_10)) from rfl)
  go_wp2_with fail
  refine (C_sz0.out _ _ (by first | rfl | omega) (LfRd.below hb _ _ H_r_A_5.out) (LfRd.below hb _ _ H_r_A_10.out)).mono ?_
  rintro e w14 ⟨rfl, b15⟩
  clear y3 y4 y5 y6 y7 y8 y9 y10 y11 y12 y13
  have F16 := Lib.hid ((b15.block (w.heap.size) (Array.getElem?_eq_some_iff.1 HB1.out).1).trans HB1.out)
  clear HB1
  have F17 := Lib.hid ((b15.block (w.heap.size + 1) (Array.getElem?_eq_some_iff.1 HB2.out).1).trans HB2.out)
  clear HB2
  have hz18 : W0.heap.size ≤ w14.heap.size := b15.size
  replace hb := hb.trans (b15.mono hb.size)
  clear b15
  have y19 := (Lib.cell_of_heap F17.out 0).trans (show _ = some (sv x_B.tag) from rfl)
  have y20 := (Lib.cell_of_heap F17.out 1).trans (show _ = some (.int .i64 x_B.kind) from rfl)
  have y21 := (Lib.cell_of_heap F17.out 2).trans (show _ = some (sv x_B.box) from rfl)
  have y22 := (Lib.cell_of_heap F17.out 3).trans (show _ = some (sv x_B.to) from rfl)
  have y23 := (Lib.cell_of_heap F17.out 4).trans (show _ = some (.bool x_B.uid) from rfl)
  have y24 := (Lib.cell_of_heap F17.out 5).trans (show _ = some ((.slice p_B_5 x_B.sset.length c_B_5)) from rfl)
  have y25 := (Lib.cell_of_heap F17.out 6).trans (show _ = some (.int .i64 x_B.op) from rfl)
  have y26 := (Lib.cell_of_heap F17.out 7).trans (show _ = some (.int .i64 x_B.flags) from rfl)
  have y27 := (Lib.cell_of_heap F17.out 8).trans (show _ = some (sv x_B.text) from rfl)
  have y28 := (Lib.cell_of_heap F17.out 9).trans (show _ = some (.bool x_B.filter.on) from rfl)
  have y29 := (Lib.cell_of_heap F17.out 10).trans (show _ = some ((.slice p_B_10 x_B.filter.scopes.length c_B_10)) from rfl)
  go_wp2_with fail
  refine (C_sz1.out _ _ (by first | rfl | omega) (LfRd.below hb _ _ H_r_B_5.out) (LfRd.below hb _ _ H_r_B_10.out)).mono ?_
  rintro e w30 ⟨rfl, b31⟩
  clear y19 y20 y21 y22 y23 y24 y25 y26 y27 y28 y29
  have F32 := Lib.hid ((b31.block (w.heap.size) (Array.getElem?_eq_some_iff.1 F16.out).1).trans F16.out)
  clear F16
  have F33 := Lib.hid ((b31.block (w.heap.size + 1) (Array.getElem?_eq_some_iff.1 F17.out).1).trans F17.out)
  clear F17
  have hz34 : w14.heap.size ≤ w30.heap.size := b31.size
  replace hb := hb.trans (b31.mono hb.size)
  clear b31
  go_wp2
  refine ord_start [(0, true), (2, true), (1, false), (3, false), (4, false), (5, true)] (fun W => W.heap[w.heap.size]? = some (.cells #[sv x_A.tag, .int .i64 x_A.kind, sv x_A.box, sv x_A.to, .bool x_A.uid, (.slice p_A_5 x_A.sset.length c_A_5), .int .i64 x_A.op, .int .i64 x_A.flags, sv x_A.text, .bool x_A.filter.on, (.slice p_A_10 x_A.filter.scopes.length c_A_10)] 28 (0, 0)) ∧ W.heap[w.heap.size + 1]? = some (.cells #[sv x_B.tag, .int .i64 x_B.kind, sv x_B.box, sv x_B.to, .bool x_B.uid, (.slice p_B_5 x_B.sset.length c_B_5), .int .i64 x_B.op, .int .i64 x_B.flags, sv x_B.text, .bool x_B.filter.on, (.slice p_B_10 x_B.filter.scopes.length c_B_10)] 28 (0, 0))) (by kernel_rfl) (by kernel_rfl) rfl (by kernel_rfl) ?_
  intro ops' hops
  clear hops
  simp only [List.map_cons, List.map_nil, pickOp_zero, pickOp_succ]
  have b36 : Below w30.heap.size w30 w30.drew := (Below.refl _ _).drew
  have hz37 : w30.drew.heap.size = w30.heap.size := rfl
  generalize w30.drew = D35 at *
  have F38 := Lib.hid ((b36.block (w.heap.size) (Array.getElem?_eq_some_iff.1 F32.out).1).trans F32.out)
  clear F32
  have F39 := Lib.hid ((b36.block (w.heap.size + 1) (Array.getElem?_eq_some_iff.1 F33.out).1).trans F33.out)
  clear F33
  have hz40 : w30.heap.size ≤ D35.heap.size := b36.size
  replace hb := hb.trans (b36.mono hb.size)
  clear b36
  refine ord_flo (.agg #[sv x_A.tag, .int .i64 x_A.kind, sv x_A.box, sv x_A.to, .bool x_A.uid, (.slice p_A_5 x_A.sset.length c_A_5), .int .i64 x_A.op, .int .i64 x_A.flags, sv x_A.text, .bool x_A.filter.on, (.slice p_A_10 x_A.filter.scopes.length c_A_10)]) (fun _ _ _ h => h) rfl ?_ ⟨F38.out, F39.out⟩ ?_
  · intro W hS
    have y0 := (Lib.cell_of_heap hS.1 0).trans (show _ = some (sv x_A.tag) from rfl)
    have y1 := (Lib.cell_of_heap hS.1 1).trans (show _ = some (.int .i64 x_A.kind) from rfl)
    have y2 := (Lib.cell_of_heap hS.1 2).trans (show _ = some (sv x_A.box) from rfl)
    have y3 := (Lib.cell_of_heap hS.1 3).trans (show _ = some (sv x_A.to) from rfl)
    have y4 := (Lib.cell_of_heap hS.1 4).trans (show _ = some (.bool x_A.uid) from rfl)
    have y5 := (Lib.cell_of_heap hS.1 5).trans (show _ = some ((.slice p_A_5 x_A.sset.length c_A_5)) from rfl)
    have y6 := (Lib.cell_of_heap hS.1 6).trans (show _ = some (.int .i64 x_A.op) from rfl)
    have y7 := (Lib.cell_of_heap hS.1 7).trans (show _ = some (.int .i64 x_A.flags) from rfl)
    have y8 := (Lib.cell_of_heap hS.1 8).trans (show _ = some (sv x_A.text) from rfl)
    have y9 := (Lib.cell_of_heap hS.1 9).trans (show _ = some (.bool x_A.filter.on) from rfl)
    have y10 := (Lib.cell_of_heap hS.1 10).trans (show _ = some ((.slice p_A_10 x_A.filter.scopes.length c_A_10)) from rfl)
    clear hS
    go_simp
  refine ord_flo (.agg #[sv x_B.tag, .int .i64 x_B.kind, sv x_B.box, sv x_B.to, .bool x_B.uid, (.slice p_B_5 x_B.sset.length c_B_5), .int .i64 x_B.op, .int .i64 x_B.flags, sv x_B.text, .bool x_B.filter.on, (.slice p_B_10 x_B.filter.scopes.length c_B_10)]) (fun _ _ _ h => h) rfl ?_ ⟨F38.out, F39.out⟩ ?_
  · intro W hS
    have y0 := (Lib.cell_of_heap hS.2 0).trans (show _ = some (sv x_B.tag) from rfl)
    have y1 := (Lib.cell_of_heap hS.2 1).trans (show _ = some (.int .i64 x_B.kind) from rfl)
    have y2 := (Lib.cell_of_heap hS.2 2).trans (show _ = some (sv x_B.box) from rfl)
    have y3 := (Lib.cell_of_heap hS.2 3).trans (show _ = some (sv x_B.to) from rfl)
    have y4 := (Lib.cell_of_heap hS.2 4).trans (show _ = some (.bool x_B.uid) from rfl)
    have y5 := (Lib.cell_of_heap hS.2 5).trans (show _ = some ((.slice p_B_5 x_B.sset.length c_B_5)) from rfl)
    have y6 := (Lib.cell_of_heap hS.2 6).trans (show _ = some (.int .i64 x_B.op) from rfl)
    have y7 := (Lib.cell_of_heap hS.2 7).trans (show _ = some (.int .i64 x_B.flags) from rfl)
    have y8 := (Lib.cell_of_heap hS.2 8).trans (show _ = some (sv x_B.text) from rfl)
    have y9 := (Lib.cell_of_heap hS.2 9).trans (show _ = some (.bool x_B.filter.on) from rfl)
    have y10 := (Lib.cell_of_heap hS.2 10).trans (show _ = some ((.slice p_B_10 x_B.filter.scopes.length c_B_10)) from rfl)
    clear hS
    go_simp
  refine ord_ev rfl ?_
  go_simp
  refine (C_to_A.out _ (LfRd.below hb _ _ H_r_A_5.out) (LfRd.below hb _ _ H_r_A_10.out)).mono ?_
  rintro e w41 ⟨z44, f46, z45, f47, rfl, i48, i49, nd50, lo51, b42⟩
  have F52 := Lib.hid ((b42.block (w.heap.size) (Array.getElem?_eq_some_iff.1 F38.out).1).trans F38.out)
  clear F38
  have F53 := Lib.hid ((b42.block (w.heap.size + 1) (Array.getElem?_eq_some_iff.1 F39.out).1).trans F39.out)
  clear F39
  have hz54 : D35.heap.size ≤ w41.heap.size := b42.size
  replace hb := hb.trans (b42.mono hb.size)
  have LO55 := Lib.hid (show ∀ q ∈ f46 ++ f47, D35.heap.size ≤ q from lo51)
  have HI56 := Lib.hid (show ∀ q ∈ f46 ++ f47, q < w41.heap.size from fun q hq => by simp only [List.mem_append] at hq; rcases hq with hq | hq <;> first | exact LfIn.lt _ _ _ i48 q hq | exact LfIn.lt _ _ _ i49 q hq)
  have ND57 := Lib.hid nd50
  have F58 := Lib.hid i48
  have LO59 := Lib.hid (show ∀ q ∈ f46, D35.heap.size ≤ q from fun q hq => LO55.out q (by simp [hq]))
  have HI60 := Lib.hid (show ∀ q ∈ f46, q < w41.heap.size from fun q hq => HI56.out q (by simp [hq]))
  obtain ⟨pz44, cz44, rfl⟩ := LfIn.slice i48
  have F61 := Lib.hid i49
  have LO62 := Lib.hid (show ∀ q ∈ f47, D35.heap.size ≤ q from fun q hq => LO55.out q (by simp [hq]))
  have HI63 := Lib.hid (show ∀ q ∈ f47, q < w41.heap.size from fun q hq => HI56.out q (by simp [hq]))
  obtain ⟨pz45, cz45, rfl⟩ := LfIn.slice i49
  clear i48
  clear i49
  clear nd50 lo51
  clear b42
  refine ⟨⟨F52.out, F53.out⟩, ?_⟩
  refine ord_ev rfl ?_
  go_simp
  refine (C_to_B.out _ (LfRd.below hb _ _ H_r_B_5.out) (LfRd.below hb _ _ H_r_B_10.out)).mono ?_
  rintro e w64 ⟨z67, f69, z68, f70, rfl, i71, i72, nd73, lo74, b65⟩
  have F75 := Lib.hid ((b65.block (w.heap.size) (Array.getElem?_eq_some_iff.1 F52.out).1).trans F52.out)
  clear F52
  have F76 := Lib.hid ((b65.block (w.heap.size + 1) (Array.getElem?_eq_some_iff.1 F53.out).1).trans F53.out)
  clear F53
  have F77 := Lib.hid (LfIn.below F58.out b65)
  clear F58
  have F78 := Lib.hid (LfIn.below F61.out b65)
  clear F61
  have hz79 : w41.heap.size ≤ w64.heap.size := b65.size
  replace hb := hb.trans (b65.mono hb.size)
  have LO80 := Lib.hid (show ∀ q ∈ f69 ++ f70, w41.heap.size ≤ q from lo74)
  have HI81 := Lib.hid (show ∀ q ∈ f69 ++ f70, q < w64.heap.size from fun q hq => by simp only [List.mem_append] at hq; rcases hq with hq | hq <;> first | exact LfIn.lt _ _ _ i71 q hq | exact LfIn.lt _ _ _ i72 q hq)
  have ND82 := Lib.hid nd73
  have F83 := Lib.hid i71
  have LO84 := Lib.hid (show ∀ q ∈ f69, w41.heap.size ≤ q from fun q hq => LO80.out q (by simp [hq]))
  have HI85 := Lib.hid (show ∀ q ∈ f69, q < w64.heap.size from fun q hq => HI81.out q (by simp [hq]))
  obtain ⟨pz67, cz67, rfl⟩ := LfIn.slice i71
  have F86 := Lib.hid i72
  have LO87 := Lib.hid (show ∀ q ∈ f70, w41.heap.size ≤ q from fun q hq => LO80.out q (by simp [hq]))
  have HI88 := Lib.hid (show ∀ q ∈ f70, q < w64.heap.size from fun q hq => HI81.out q (by simp [hq]))
  obtain ⟨pz68, cz68, rfl⟩ := LfIn.slice i72
  clear i71
  clear i72
  clear nd73 lo74
  clear b65
  refine ⟨⟨F75.out, F76.out⟩, ?_⟩
  refine ord_ev rfl ?_
  go_simp
  refine (C_spec.out _ _ _ _ _ (LfIn.rd _ _ _ F77.out) (LfIn.rd _ _ _ F78.out) (LfIn.rd _ _ _ F83.out) (LfIn.rd _ _ _ F86.out)).mono ?_
  rintro e w89 ⟨rfl, b90⟩
  have F91 := Lib.hid ((b90.block (w.heap.size) (Array.getElem?_eq_some_iff.1 F75.out).1).trans F75.out)
  clear F75
  have F92 := Lib.hid ((b90.block (w.heap.size + 1) (Array.getElem?_eq_some_iff.1 F76.out).1).trans F76.out)
  clear F76
  have F93 := Lib.hid (LfIn.below F77.out b90)
  clear F77
  have F94 := Lib.hid (LfIn.below F78.out b90)
  clear F78
  have F95 := Lib.hid (LfIn.below F83.out b90)
  clear F83
  have F96 := Lib.hid (LfIn.below F86.out b90)
  clear F86
  have hz97 : w64.heap.size ≤ w89.heap.size := b90.size
  replace hb := hb.trans (b90.mono hb.size)
  clear b90
  refine ⟨⟨F91.out, F92.out⟩, ?_⟩
  iterate 1 (refine ord_flo ?_ (fun _ _ _ h => h) rfl ?_ ⟨F91.out, F92.out⟩ ?_; rotate_left; focus (intro W hS; obtain ⟨s0, s1⟩ := hS; go_simp; rfl))
  refine ord_done ?_
  go_simp
  have y98 := (Lib.cell_of_heap F91.out 0).trans (show _ = some (sv x_A.tag) from rfl)
  have y99 := (Lib.cell_of_heap F91.out 1).trans (show _ = some (.int .i64 x_A.kind) from rfl)
  have y100 := (Lib.cell_of_heap F91.out 2).trans (show _ = some (sv x_A.box) from rfl)
  have y101 := (Lib.cell_of_heap F91.out 3).trans (show _ = some (sv x_A.to) from rfl)
  have y102 := (Lib.cell_of_heap F91.out 4).trans (show _ = some (.bool x_A.uid) from rfl)
  have y103 := (Lib.cell_of_heap F91.out 5).trans (show _ = some ((.slice p_A_5 x_A.sset.length c_A_5)) from rfl)
  have y104 := (Lib.cell_of_heap F91.out 6).trans (show _ = some (.int .i64 x_A.op) from rfl)
  have y105 := (Lib.cell_of_heap F91.out 7).trans (show _ = some (.int .i64 x_A.flags) from rfl)
  have y106 := (Lib.cell_of_heap F91.out 8).trans (show _ = some (sv x_A.text) from rfl)
  have y107 := (Lib.cell_of_heap F91.out 9).trans (show _ = some (.bool x_A.filter.on) from rfl)
  have y108 := (Lib.cell_of_heap F91.out 10).trans (show _ = some ((.slice p_A_10 x_A.filter.scopes.length c_A_10)) from rfl)
  go_wp2_with fail
  refine (C_to_A.out _ (LfRd.below hb _ _ H_r_A_5.out) (LfRd.below hb _ _ H_r_A_10.out)).mono ?_
  rintro e w109 ⟨z112, f114, z113, f115, rfl, i116, i117, nd118, lo119, b110⟩
  clear y98 y99 y100 y101 y102 y103 y104 y105 y106 y107 y108
  have F120 := Lib.hid ((b110.block (w.heap.size) (Array.getElem?_eq_some_iff.1 F91.out).1).trans F91.out)
  clear F91
  have F121 := Lib.hid ((b110.block (w.heap.size + 1) (Array.getElem?_eq_some_iff.1 F92.out).1).trans F92.out)
  clear F92
  have F122 := Lib.hid (LfIn.below F93.out b110)
  clear F93
  have F123 := Lib.hid (LfIn.below F94.out b110)
  clear F94
  have F124 := Lib.hid (LfIn.below F95.out b110)
  clear F95
  have F125 := Lib.hid (LfIn.below F96.out b110)
  clear F96
  have hz126 : w89.heap.size ≤ w109.heap.size := b110.size
  replace hb := hb.trans (b110.mono hb.size)
  have LO127 := Lib.hid (show ∀ q ∈ f114 ++ f115, w89.heap.size ≤ q from lo119)
  have HI128 := Lib.hid (show ∀ q ∈ f114 ++ f115, q < w109.heap.size from fun q hq => by simp only [List.mem_append] at hq; rcases hq with hq | hq <;> first | exact LfIn.lt _ _ _ i116 q hq | exact LfIn.lt _ _ _ i117 q hq)
  have ND129 := Lib.hid nd118
  have F130 := Lib.hid i116
  have LO131 := Lib.hid (show ∀ q ∈ f114, w89.heap.size ≤ q from fun q hq => LO127.out q (by simp [hq]))
  have HI132 := Lib.hid (show ∀ q ∈ f114, q < w109.heap.size from fun q hq => HI128.out q (by simp [hq]))
  obtain ⟨pz112, cz112, rfl⟩ := LfIn.slice i116
  have F133 := Lib.hid i117
  have LO134 := Lib.hid (show ∀ q ∈ f115, w89.heap.size ≤ q from fun q hq => LO127.out q (by simp [hq]))
  have HI135 := Lib.hid (show ∀ q ∈ f115, q < w109.heap.size from fun q hq => HI128.out q (by simp [hq]))
  obtain ⟨pz113, cz113, rfl⟩ := LfIn.slice i117
  clear i116
  clear i117
  clear nd118 lo119
  clear b110
  have b137 : Below w109.heap.size w109 (w109.alloc (.cells #[sv x_A.tag, .int .i64 x_A.kind, sv x_A.box, sv x_A.to, .bool x_A.uid, (.slice pz112 x_A.sset.length cz112), .int .i64 x_A.op, .int .i64 x_A.flags, sv x_A.text, .bool x_A.filter.on, (.slice pz113 x_A.filter.scopes.length cz113)] 36)) := (Below.refl _ _).alloc (Nat.le_refl _) _
  have F138 := Lib.hid (heap_alloc_new w109 (.cells #[sv x_A.tag, .int .i64 x_A.kind, sv x_A.box, sv x_A.to, .bool x_A.uid, (.slice pz112 x_A.sset.length cz112), .int .i64 x_A.op, .int .i64 x_A.flags, sv x_A.text, .bool x_A.filter.on, (.slice pz113 x_A.filter.scopes.length cz113)] 36))
  have hz139 : w109.heap.size < (w109.alloc (.cells #[sv x_A.tag, .int .i64 x_A.kind, sv x_A.box, sv x_A.to, .bool x_A.uid, (.slice pz112 x_A.sset.length cz112), .int .i64 x_A.op, .int .i64 x_A.flags, sv x_A.text, .bool x_A.filter.on, (.slice pz113 x_A.filter.scopes.length cz113)] 36)).heap.size := by simp
  generalize hX136 : w109.alloc (.cells #[sv x_A.tag, .int .i64 x_A.kind, sv x_A.box, sv x_A.to, .bool x_A.uid, (.slice pz112 x_A.sset.length cz112), .int .i64 x_A.op, .int .i64 x_A.flags, sv x_A.text, .bool x_A.filter.on, (.slice pz113 x_A.filter.scopes.length cz113)] 36) = X136 at *
  have F140 := Lib.hid ((b137.block (w.heap.size) (Array.getElem?_eq_some_iff.1 F120.out).1).trans F120.out)
  clear F120
  have F141 := Lib.hid ((b137.block (w.heap.size + 1) (Array.getElem?_eq_some_iff.1 F121.out).1).trans F121.out)
  clear F121
  have F142 := Lib.hid (LfIn.below F122.out b137)
  clear F122
  have F143 := Lib.hid (LfIn.below F123.out b137)
  clear F123
  have F144 := Lib.hid (LfIn.below F124.out b137)
  clear F124
  have F145 := Lib.hid (LfIn.below F125.out b137)
  clear F125
  have F146 := Lib.hid (LfIn.below F130.out b137)
  clear F130
  have F147 := Lib.hid (LfIn.below F133.out b137)
  clear F133
  have hz148 : w109.heap.size ≤ X136.heap.size := b137.size
  replace hb := hb.trans (b137.mono hb.size)
  clear b137
  have y149 := (Lib.cell_of_heap F141.out 0).trans (show _ = some (sv x_B.tag) from rfl)
  have y150 := (Lib.cell_of_heap F141.out 1).trans (show _ = some (.int .i64 x_B.kind) from rfl)
  have y151 := (Lib.cell_of_heap F141.out 2).trans (show _ = some (sv x_B.box) from rfl)
  have y152 := (Lib.cell_of_heap F141.out 3).trans (show _ = some (sv x_B.to) from rfl)
  have y153 := (Lib.cell_of_heap F141.out 4).trans (show _ = some (.bool x_B.uid) from rfl)
  have y154 := (Lib.cell_of_heap F141.out 5).trans (show _ = some ((.slice p_B_5 x_B.sset.length c_B_5)) from rfl)
  have y155 := (Lib.cell_of_heap F141.out 6).trans (show _ = some (.int .i64 x_B.op) from rfl)
  have y156 := (Lib.cell_of_heap F141.out 7).trans (show _ = some (.int .i64 x_B.flags) from rfl)
  have y157 := (Lib.cell_of_heap F141.out 8).trans (show _ = some (sv x_B.text) from rfl)
  have y158 := (Lib.cell_of_heap F141.out 9).trans (show _ = some (.bool x_B.filter.on) from rfl)
  have y159 := (Lib.cell_of_heap F141.out 10).trans (show _ = some ((.slice p_B_10 x_B.filter.scopes.length c_B_10)) from rfl)
  go_wp2_with fail
  refine (C_to_B.out _ (LfRd.below hb _ _ H_r_B_5.out) (LfRd.below hb _ _ H_r_B_10.out)).mono ?_
  rintro e w160 ⟨z163, f165, z164, f166, rfl, i167, i168, nd169, lo170, b161⟩
  clear y149 y150 y151 y152 y153 y154 y155 y156 y157 y158 y159
  have F171 := Lib.hid ((b161.block (w.heap.size) (Array.getElem?_eq_some_iff.1 F140.out).1).trans F140.out)
  clear F140
  have F172 := Lib.hid ((b161.block (w.heap.size + 1) (Array.getElem?_eq_some_iff.1 F141.out).1).trans F141.out)
  clear F141
  have F173 := Lib.hid (LfIn.below F142.out b161)
  clear F142
  have F174 := Lib.hid (LfIn.below F143.out b161)
  clear F143
  have F175 := Lib.hid (LfIn.below F144.out b161)
  clear F144
  have F176 := Lib.hid (LfIn.below F145.out b161)
  clear F145
  have F177 := Lib.hid (LfIn.below F146.out b161)
  clear F146
  have F178 := Lib.hid (LfIn.below F147.out b161)
  clear F147
  have F179 := Lib.hid ((b161.block (w109.heap.size) (Array.getElem?_eq_some_iff.1 F138.out).1).trans F138.out)
  clear F138
  have hz180 : X136.heap.size ≤ w160.heap.size := b161.size
  replace hb := hb.trans (b161.mono hb.size)
  have LO181 := Lib.hid (show ∀ q ∈ f165 ++ f166, X136.heap.size ≤ q from lo170)
  have HI182 := Lib.hid (show ∀ q ∈ f165 ++ f166, q < w160.heap.size from fun q hq => by simp only [List.mem_append] at hq; rcases hq with hq | hq <;> first | exact LfIn.lt _ _ _ i167 q hq | exact LfIn.lt _ _ _ i168 q hq)
  have ND183 := Lib.hid nd169
  have F184 := Lib.hid i167
  have LO185 := Lib.hid (show ∀ q ∈ f165, X136.heap.size ≤ q from fun q hq => LO181.out q (by simp [hq]))
  have HI186 := Lib.hid (show ∀ q ∈ f165, q < w160.heap.size from fun q hq => HI182.out q (by simp [hq]))
  obtain ⟨pz163, cz163, rfl⟩ := LfIn.slice i167
  have F187 := Lib.hid i168
  have LO188 := Lib.hid (show ∀ q ∈ f166, X136.heap.size ≤ q from fun q hq => LO181.out q (by simp [hq]))
  have HI189 := Lib.hid (show ∀ q ∈ f166, q < w160.heap.size from fun q hq => HI182.out q (by simp [hq]))
  obtain ⟨pz164, cz164, rfl⟩ := LfIn.slice i168
  clear i167
  clear i168
  clear nd169 lo170
  clear b161
  have b191 : Below w160.heap.size w160 (w160.alloc (.cells #[sv x_B.tag, .int .i64 x_B.kind, sv x_B.box, sv x_B.to, .bool x_B.uid, (.slice pz163 x_B.sset.length cz163), .int .i64 x_B.op, .int .i64 x_B.flags, sv x_B.text, .bool x_B.filter.on, (.slice pz164 x_B.filter.scopes.length cz164)] 36)) := (Below.refl _ _).alloc (Nat.le_refl _) _
  have F192 := Lib.hid (heap_alloc_new w160 (.cells #[sv x_B.tag, .int .i64 x_B.kind, sv x_B.box, sv x_B.to, .bool x_B.uid, (.slice pz163 x_B.sset.length cz163), .int .i64 x_B.op, .int .i64 x_B.flags, sv x_B.text, .bool x_B.filter.on, (.slice pz164 x_B.filter.scopes.length cz164)] 36))
  have hz193 : w160.heap.size < (w160.alloc (.cells #[sv x_B.tag, .int .i64 x_B.kind, sv x_B.box, sv x_B.to, .bool x_B.uid, (.slice pz163 x_B.sset.length cz163), .int .i64 x_B.op, .int .i64 x_B.flags, sv x_B.text, .bool x_B.filter.on, (.slice pz164 x_B.filter.scopes.length cz164)] 36)).heap.size := by simp
  generalize hX190 : w160.alloc (.cells #[sv x_B.tag, .int .i64 x_B.kind, sv x_B.box, sv x_B.to, .bool x_B.uid, (.slice pz163 x_B.sset.length cz163), .int .i64 x_B.op, .int .i64 x_B.flags, sv x_B.text, .bool x_B.filter.on, (.slice pz164 x_B.filter.scopes.length cz164)] 36) = X190 at *
  have F194 := Lib.hid ((b191.block (w.heap.size) (Array.getElem?_eq_some_iff.1 F171.out).1).trans F171.out)
  clear F171
  have F195 := Lib.hid ((b191.block (w.heap.size + 1) (Array.getElem?_eq_some_iff.1 F172.out).1).trans F172.out)
  clear F172
  have F196 := Lib.hid (LfIn.below F173.out b191)
  clear F173
  have F197 := Lib.hid (LfIn.below F174.out b191)
  clear F174
  have F198 := Lib.hid (LfIn.below F175.out b191)
  clear F175
  have F199 := Lib.hid (LfIn.below F176.out b191)
  clear F176
  have F200 := Lib.hid (LfIn.below F177.out b191)
  clear F177
  have F201 := Lib.hid (LfIn.below F178.out b191)
  clear F178
  have F202 := Lib.hid ((b191.block (w109.heap.size) (Array.getElem?_eq_some_iff.1 F179.out).1).trans F179.out)
  clear F179
  have F203 := Lib.hid (LfIn.below F184.out b191)
  clear F184
  have F204 := Lib.hid (LfIn.below F187.out b191)
  clear F187
  have hz205 : w160.heap.size ≤ X190.heap.size := b191.size
  replace hb := hb.trans (b191.mono hb.size)
  clear b191
  have y206 := (Lib.cell_of_heap F202.out 0).trans (show _ = some (sv x_A.tag) from rfl)
  have y207 := (Lib.cell_of_heap F202.out 1).trans (show _ = some (.int .i64 x_A.kind) from rfl)
  have y208 := (Lib.cell_of_heap F202.out 2).trans (show _ = some (sv x_A.box) from rfl)
  have y209 := (Lib.cell_of_heap F202.out 3).trans (show _ = some (sv x_A.to) from rfl)
  have y210 := (Lib.cell_of_heap F202.out 4).trans (show _ = some (.bool x_A.uid) from rfl)
  have y211 := (Lib.cell_of_heap F202.out 5).trans (show _ = some ((.slice pz112 x_A.sset.length cz112)) from rfl)
  have y212 := (Lib.cell_of_heap F202.out 6).trans (show _ = some (.int .i64 x_A.op) from rfl)
  have y213 := (Lib.cell_of_heap F202.out 7).trans (show _ = some (.int .i64 x_A.flags) from rfl)
  have y214 := (Lib.cell_of_heap F202.out 8).trans (show _ = some (sv x_A.text) from rfl)
  have y215 := (Lib.cell_of_heap F202.out 9).trans (show _ = some (.bool x_A.filter.on) from rfl)
  have y216 := (Lib.cell_of_heap F202.out 10).trans (show _ = some ((.slice pz113 x_A.filter.scopes.length cz113)) from rfl)
  have y217 := (Lib.cell_of_heap F192.out 0).trans (show _ = some (sv x_B.tag) from rfl)
  have y218 := (Lib.cell_of_heap F192.out 1).trans (show _ = some (.int .i64 x_B.kind) from rfl)
  have y219 := (Lib.cell_of_heap F192.out 2).trans (show _ = some (sv x_B.box) from rfl)
  have y220 := (Lib.cell_of_heap F192.out 3).trans (show _ = some (sv x_B.to) from rfl)
  have y221 := (Lib.cell_of_heap F192.out 4).trans (show _ = some (.bool x_B.uid) from rfl)
  have y222 := (Lib.cell_of_heap F192.out 5).trans (show _ = some ((.slice pz163 x_B.sset.length cz163)) from rfl)
  have y223 := (Lib.cell_of_heap F192.out 6).trans (show _ = some (.int .i64 x_B.op) from rfl)
  have y224 := (Lib.cell_of_heap F192.out 7).trans (show _ = some (.int .i64 x_B.flags) from rfl)
  have y225 := (Lib.cell_of_heap F192.out 8).trans (show _ = some (sv x_B.text) from rfl)
  have y226 := (Lib.cell_of_heap F192.out 9).trans (show _ = some (.bool x_B.filter.on) from rfl)
  have y227 := (Lib.cell_of_heap F192.out 10).trans (show _ = some ((.slice pz164 x_B.filter.scopes.length cz164)) from rfl)
  go_wp2_with fail
  refine (C_impl.out _ _ _ _ _ (hK _ _ hG hb) (LfIn.rd _ _ _ F200.out) (LfIn.rd _ _ _ F201.out) (LfIn.rd _ _ _ F203.out) (LfIn.rd _ _ _ F204.out)).mono ?_
  rintro e w228 ⟨rfl, b229⟩
  clear y206 y207 y208 y209 y210 y211 y212 y213 y214 y215 y216 y217 y218 y219 y220 y221 y222 y223 y224 y225 y226 y227
  have F230 := Lib.hid ((b229.block (w.heap.size) (Array.getElem?_eq_some_iff.1 F194.out).1).trans F194.out)
  clear F194
  have F231 := Lib.hid ((b229.block (w.heap.size + 1) (Array.getElem?_eq_some_iff.1 F195.out).1).trans F195.out)
  clear F195
  have F232 := Lib.hid (LfIn.below F196.out b229)
  clear F196
  have F233 := Lib.hid (LfIn.below F197.out b229)
  clear F197
  have F234 := Lib.hid (LfIn.below F198.out b229)
  clear F198
  have F235 := Lib.hid (LfIn.below F199.out b229)
  clear F199
  have F236 := Lib.hid (LfIn.below F200.out b229)
  clear F200
  have F237 := Lib.hid (LfIn.below F201.out b229)
  clear F201
  have F238 := Lib.hid ((b229.block (w109.heap.size) (Array.getElem?_eq_some_iff.1 F202.out).1).trans F202.out)
  clear F202
  have F239 := Lib.hid (LfIn.below F203.out b229)
  clear F203
  have F240 := Lib.hid (LfIn.below F204.out b229)
  clear F204
  have F241 := Lib.hid ((b229.block (w160.heap.size) (Array.getElem?_eq_some_iff.1 F192.out).1).trans F192.out)
  clear F192
  have hz242 : X190.heap.size ≤ w228.heap.size := b229.size
  replace hb := hb.trans (b229.mono hb.size)
  clear b229
  go_wp2
  refine ord_start [(0, true), (1, true), (2, false), (3, false), (4, true)] (fun W => W.heap[w109.heap.size]? = some (.cells #[sv x_A.tag, .int .i64 x_A.kind, sv x_A.box, sv x_A.to, .bool x_A.uid, (.slice pz112 x_A.sset.length cz112), .int .i64 x_A.op, .int .i64 x_A.flags, sv x_A.text, .bool x_A.filter.on, (.slice pz113 x_A.filter.scopes.length cz113)] 36 (0, 0)) ∧ W.heap[w.heap.size]? = some (.cells #[sv x_A.tag, .int .i64 x_A.kind, sv x_A.box, sv x_A.to, .bool x_A.uid, (.slice p_A_5 x_A.sset.length c_A_5), .int .i64 x_A.op, .int .i64 x_A.flags, sv x_A.text, .bool x_A.filter.on, (.slice p_A_10 x_A.filter.scopes.length c_A_10)] 28 (0, 0))) (by kernel_rfl) (by kernel_rfl) rfl (by kernel_rfl) ?_
  intro ops' hops
  clear hops
  simp only [List.map_cons, List.map_nil, pickOp_zero, pickOp_succ]
  have b244 : Below w228.heap.size w228 w228.drew := (Below.refl _ _).drew
  have hz245 : w228.drew.heap.size = w228.heap.size := rfl
  generalize w228.drew = D243 at *
  have F246 := Lib.hid ((b244.block (w.heap.size) (Array.getElem?_eq_some_iff.1 F230.out).1).trans F230.out)
  clear F230
  have F247 := Lib.hid ((b244.block (w.heap.size + 1) (Array.getElem?_eq_some_iff.1 F231.out).1).trans F231.out)
  clear F231
  have F248 := Lib.hid (LfIn.below F232.out b244)
  clear F232
  have F249 := Lib.hid (LfIn.below F233.out b244)
  clear F233
  have F250 := Lib.hid (LfIn.below F234.out b244)
  clear F234
  have F251 := Lib.hid (LfIn.below F235.out b244)
  clear F235
  have F252 := Lib.hid (LfIn.below F236.out b244)
  clear F236
  have F253 := Lib.hid (LfIn.below F237.out b244)
  clear F237
  have F254 := Lib.hid ((b244.block (w109.heap.size) (Array.getElem?_eq_some_iff.1 F238.out).1).trans F238.out)
  clear F238
  have F255 := Lib.hid (LfIn.below F239.out b244)
  clear F239
  have F256 := Lib.hid (LfIn.below F240.out b244)
  clear F240
  have F257 := Lib.hid ((b244.block (w160.heap.size) (Array.getElem?_eq_some_iff.1 F241.out).1).trans F241.out)
  clear F241
  have hz258 : w228.heap.size ≤ D243.heap.size := b244.size
  replace hb := hb.trans (b244.mono hb.size)
  clear b244
  refine ord_flo (.agg #[sv x_A.tag, .int .i64 x_A.kind, sv x_A.box, sv x_A.to, .bool x_A.uid, (.slice pz112 x_A.sset.length cz112), .int .i64 x_A.op, .int .i64 x_A.flags, sv x_A.text, .bool x_A.filter.on, (.slice pz113 x_A.filter.scopes.length cz113)]) (fun _ _ _ h => h) rfl ?_ ⟨F254.out, F246.out⟩ ?_
  · intro W hS
    have y0 := (Lib.cell_of_heap hS.1 0).trans (show _ = some (sv x_A.tag) from rfl)
    have y1 := (Lib.cell_of_heap hS.1 1).trans (show _ = some (.int .i64 x_A.kind) from rfl)
    have y2 := (Lib.cell_of_heap hS.1 2).trans (show _ = some (sv x_A.box) from rfl)
    have y3 := (Lib.cell_of_heap hS.1 3).trans (show _ = some (sv x_A.to) from rfl)
    have y4 := (Lib.cell_of_heap hS.1 4).trans (show _ = some (.bool x_A.uid) from rfl)
    have y5 := (Lib.cell_of_heap hS.1 5).trans (show _ = some ((.slice pz112 x_A.sset.length cz112)) from rfl)
    have y6 := (Lib.cell_of_heap hS.1 6).trans (show _ = some (.int .i64 x_A.op) from rfl)
    have y7 := (Lib.cell_of_heap hS.1 7).trans (show _ = some (.int .i64 x_A.flags) from rfl)
    have y8 := (Lib.cell_of_heap hS.1 8).trans (show _ = some (sv x_A.text) from rfl)
    have y9 := (Lib.cell_of_heap hS.1 9).trans (show _ = some (.bool x_A.filter.on) from rfl)
    have y10 := (Lib.cell_of_heap hS.1 10).trans (show _ = some ((.slice pz113 x_A.filter.scopes.length cz113)) from rfl)
    clear hS
    go_simp
  refine ord_flo (.agg #[sv x_A.tag, .int .i64 x_A.kind, sv x_A.box, sv x_A.to, .bool x_A.uid, (.slice p_A_5 x_A.sset.length c_A_5), .int .i64 x_A.op, .int .i64 x_A.flags, sv x_A.text, .bool x_A.filter.on, (.slice p_A_10 x_A.filter.scopes.length c_A_10)]) (fun _ _ _ h => h) rfl ?_ ⟨F254.out, F246.out⟩ ?_
  · intro W hS
    have y0 := (Lib.cell_of_heap hS.2 0).trans (show _ = some (sv x_A.tag) from rfl)
    have y1 := (Lib.cell_of_heap hS.2 1).trans (show _ = some (.int .i64 x_A.kind) from rfl)
    have y2 := (Lib.cell_of_heap hS.2 2).trans (show _ = some (sv x_A.box) from rfl)
    have y3 := (Lib.cell_of_heap hS.2 3).trans (show _ = some (sv x_A.to) from rfl)
    have y4 := (Lib.cell_of_heap hS.2 4).trans (show _ = some (.bool x_A.uid) from rfl)
    have y5 := (Lib.cell_of_heap hS.2 5).trans (show _ = some ((.slice p_A_5 x_A.sset.length c_A_5)) from rfl)
    have y6 := (Lib.cell_of_heap hS.2 6).trans (show _ = some (.int .i64 x_A.op) from rfl)
    have y7 := (Lib.cell_of_heap hS.2 7).trans (show _ = some (.int .i64 x_A.flags) from rfl)
    have y8 := (Lib.cell_of_heap hS.2 8).trans (show _ = some (sv x_A.text) from rfl)
    have y9 := (Lib.cell_of_heap hS.2 9).trans (show _ = some (.bool x_A.filter.on) from rfl)
    have y10 := (Lib.cell_of_heap hS.2 10).trans (show _ = some ((.slice p_A_10 x_A.filter.scopes.length c_A_10)) from rfl)
    clear hS
    go_simp
  refine ord_ev rfl ?_
  go_simp
  refine (C_to_A.out _ (LfRd.below hb _ _ H_r_A_5.out) (LfRd.below hb _ _ H_r_A_10.out)).mono ?_
  rintro e w259 ⟨z262, f264, z263, f265, rfl, i266, i267, nd268, lo269, b260⟩
  have F270 := Lib.hid ((b260.block (w.heap.size) (Array.getElem?_eq_some_iff.1 F246.out).1).trans F246.out)
  clear F246
  have F271 := Lib.hid ((b260.block (w.heap.size + 1) (Array.getElem?_eq_some_iff.1 F247.out).1).trans F247.out)
  clear F247
  have F272 := Lib.hid (LfIn.below F248.out b260)
  clear F248
  have F273 := Lib.hid (LfIn.below F249.out b260)
  clear F249
  have F274 := Lib.hid (LfIn.below F250.out b260)
  clear F250
  have F275 := Lib.hid (LfIn.below F251.out b260)
  clear F251
  have F276 := Lib.hid (LfIn.below F252.out b260)
  clear F252
  have F277 := Lib.hid (LfIn.below F253.out b260)
  clear F253
  have F278 := Lib.hid ((b260.block (w109.heap.size) (Array.getElem?_eq_some_iff.1 F254.out).1).trans F254.out)
  clear F254
  have F279 := Lib.hid (LfIn.below F255.out b260)
  clear F255
  have F280 := Lib.hid (LfIn.below F256.out b260)
  clear F256
  have F281 := Lib.hid ((b260.block (w160.heap.size) (Array.getElem?_eq_some_iff.1 F257.out).1).trans F257.out)
  clear F257
  have hz282 : D243.heap.size ≤ w259.heap.size := b260.size
  replace hb := hb.trans (b260.mono hb.size)
  have LO283 := Lib.hid (show ∀ q ∈ f264 ++ f265, D243.heap.size ≤ q from lo269)
  have HI284 := Lib.hid (show ∀ q ∈ f264 ++ f265, q < w259.heap.size from fun q hq => by simp only [List.mem_append] at hq; rcases hq with hq | hq <;> first | exact LfIn.lt _ _ _ i266 q hq | exact LfIn.lt _ _ _ i267 q hq)
  have ND285 := Lib.hid nd268
  have F286 := Lib.hid i266
  have LO287 := Lib.hid (show ∀ q ∈ f264, D243.heap.size ≤ q from fun q hq => LO283.out q (by simp [hq]))
  have HI288 := Lib.hid (show ∀ q ∈ f264, q < w259.heap.size from fun q hq => HI284.out q (by simp [hq]))
  obtain ⟨pz262, cz262, rfl⟩ := LfIn.slice i266
  have F289 := Lib.hid i267
  have LO290 := Lib.hid (show ∀ q ∈ f265, D243.heap.size ≤ q from fun q hq => LO283.out q (by simp [hq]))
  have HI291 := Lib.hid (show ∀ q ∈ f265, q < w259.heap.size from fun q hq => HI284.out q (by simp [hq]))
  obtain ⟨pz263, cz263, rfl⟩ := LfIn.slice i267
  clear i266
  clear i267
  clear nd268 lo269
  clear b260
  refine ⟨⟨F278.out, F270.out⟩, ?_⟩
  refine ord_ev rfl ?_
  go_simp
  refine (eqCommand_g x_A _ _ _ _ _ (LfIn.rd _ _ _ F276.out) (LfIn.rd _ _ _ F286.out) (LfIn.rd _ _ _ F277.out) (LfIn.rd _ _ _ F289.out) (by have := SZ_A.out; omega)).mono ?_
  rintro e w292 ⟨rfl, b293⟩
  have F294 := Lib.hid ((b293.block (w.heap.size) (Array.getElem?_eq_some_iff.1 F270.out).1).trans F270.out)
  clear F270
  have F295 := Lib.hid ((b293.block (w.heap.size + 1) (Array.getElem?_eq_some_iff.1 F271.out).1).trans F271.out)
  clear F271
  have F296 := Lib.hid (LfIn.below F272.out b293)
  clear F272
  have F297 := Lib.hid (LfIn.below F273.out b293)
  clear F273
  have F298 := Lib.hid (LfIn.below F274.out b293)
  clear F274
  have F299 := Lib.hid (LfIn.below F275.out b293)
  clear F275
  have F300 := Lib.hid (LfIn.below F276.out b293)
  clear F276
  have F301 := Lib.hid (LfIn.below F277.out b293)
  clear F277
  have F302 := Lib.hid ((b293.block (w109.heap.size) (Array.getElem?_eq_some_iff.1 F278.out).1).trans F278.out)
  clear F278
  have F303 := Lib.hid (LfIn.below F279.out b293)
  clear F279
  have F304 := Lib.hid (LfIn.below F280.out b293)
  clear F280
  have F305 := Lib.hid ((b293.block (w160.heap.size) (Array.getElem?_eq_some_iff.1 F281.out).1).trans F281.out)
  clear F281
  have F306 := Lib.hid (LfIn.below F286.out b293)
  clear F286
  have F307 := Lib.hid (LfIn.below F289.out b293)
  clear F289
  have hz308 : w259.heap.size ≤ w292.heap.size := b293.size
  replace hb := hb.trans (b293.mono hb.size)
  clear b293
  refine ⟨⟨F302.out, F294.out⟩, ?_⟩
  iterate 1 (refine ord_flo ?_ (fun _ _ _ h => h) rfl ?_ ⟨F302.out, F294.out⟩ ?_; rotate_left; focus (intro W hS; obtain ⟨s0, s1⟩ := hS; go_simp; rfl))
  refine ord_done ?_
  go_simp
  go_wp2
  refine ord_start [(0, true), (1, true), (2, false), (3, false), (4, true)] (fun W => W.heap[w160.heap.size]? = some (.cells #[sv x_B.tag, .int .i64 x_B.kind, sv x_B.box, sv x_B.to, .bool x_B.uid, (.slice pz163 x_B.sset.length cz163), .int .i64 x_B.op, .int .i64 x_B.flags, sv x_B.text, .bool x_B.filter.on, (.slice pz164 x_B.filter.scopes.length cz164)] 36 (0, 0)) ∧ W.heap[w.heap.size + 1]? = some (.cells #[sv x_B.tag, .int .i64 x_B.kind, sv x_B.box, sv x_B.to, .bool x_B.uid, (.slice p_B_5 x_B.sset.length c_B_5), .int .i64 x_B.op, .int .i64 x_B.flags, sv x_B.text, .bool x_B.filter.on, (.slice p_B_10 x_B.filter.scopes.length c_B_10)] 28 (0, 0))) (by kernel_rfl) (by kernel_rfl) rfl (by kernel_rfl) ?_
  intro ops' hops
  clear hops
  simp only [List.map_cons, List.map_nil, pickOp_zero, pickOp_succ]
  have b310 : Below w292.heap.size w292 w292.drew := (Below.refl _ _).drew
  have hz311 : w292.drew.heap.size = w292.heap.size := rfl
  generalize w292.drew = D309 at *
  have F312 := Lib.hid ((b310.block (w.heap.size) (Array.getElem?_eq_some_iff.1 F294.out).1).trans F294.out)
  clear F294
  have F313 := Lib.hid ((b310.block (w.heap.size + 1) (Array.getElem?_eq_some_iff.1 F295.out).1).trans F295.out)
  clear F295
  have F314 := Lib.hid (LfIn.below F296.out b310)
  clear F296
  have F315 := Lib.hid (LfIn.below F297.out b310)
  clear F297
  have F316 := Lib.hid (LfIn.below F298.out b310)
  clear F298
  have F317 := Lib.hid (LfIn.below F299.out b310)
  clear F299
  have F318 := Lib.hid (LfIn.below F300.out b310)
  clear F300
  have F319 := Lib.hid (LfIn.below F301.out b310)
  clear F301
  have F320 := Lib.hid ((b310.block (w109.heap.size) (Array.getElem?_eq_some_iff.1 F302.out).1).trans F302.out)
  clear F302
  have F321 := Lib.hid (LfIn.below F303.out b310)
  clear F303
  have F322 := Lib.hid (LfIn.below F304.out b310)
  clear F304
  have F323 := Lib.hid ((b310.block (w160.heap.size) (Array.getElem?_eq_some_iff.1 F305.out).1).trans F305.out)
  clear F305
  have F324 := Lib.hid (LfIn.below F306.out b310)
  clear F306
  have F325 := Lib.hid (LfIn.below F307.out b310)
  clear F307
  have hz326 : w292.heap.size ≤ D309.heap.size := b310.size
  replace hb := hb.trans (b310.mono hb.size)
  clear b310
  refine ord_flo (.agg #[sv x_B.tag, .int .i64 x_B.kind, sv x_B.box, sv x_B.to, .bool x_B.uid, (.slice pz163 x_B.sset.length cz163), .int .i64 x_B.op, .int .i64 x_B.flags, sv x_B.text, .bool x_B.filter.on, (.slice pz164 x_B.filter.scopes.length cz164)]) (fun _ _ _ h => h) rfl ?_ ⟨F323.out, F313.out⟩ ?_
  · intro W hS
    have y0 := (Lib.cell_of_heap hS.1 0).trans (show _ = some (sv x_B.tag) from rfl)
    have y1 := (Lib.cell_of_heap hS.1 1).trans (show _ = some (.int .i64 x_B.kind) from rfl)
    have y2 := (Lib.cell_of_heap hS.1 2).trans (show _ = some (sv x_B.box) from rfl)
    have y3 := (Lib.cell_of_heap hS.1 3).trans (show _ = some (sv x_B.to) from rfl)
    have y4 := (Lib.cell_of_heap hS.1 4).trans (show _ = some (.bool x_B.uid) from rfl)
    have y5 := (Lib.cell_of_heap hS.1 5).trans (show _ = some ((.slice pz163 x_B.sset.length cz163)) from rfl)
    have y6 := (Lib.cell_of_heap hS.1 6).trans (show _ = some (.int .i64 x_B.op) from rfl)
    have y7 := (Lib.cell_of_heap hS.1 7).trans (show _ = some (.int .i64 x_B.flags) from rfl)
    have y8 := (Lib.cell_of_heap hS.1 8).trans (show _ = some (sv x_B.text) from rfl)
    have y9 := (Lib.cell_of_heap hS.1 9).trans (show _ = some (.bool x_B.filter.on) from rfl)
    have y10 := (Lib.cell_of_heap hS.1 10).trans (show _ = some ((.slice pz164 x_B.filter.scopes.length cz164)) from rfl)
    clear hS
    go_simp
  refine ord_flo (.agg #[sv x_B.tag, .int .i64 x_B.kind, sv x_B.box, sv x_B.to, .bool x_B.uid, (.slice p_B_5 x_B.sset.length c_B_5), .int .i64 x_B.op, .int .i64 x_B.flags, sv x_B.text, .bool x_B.filter.on, (.slice p_B_10 x_B.filter.scopes.length c_B_10)]) (fun _ _ _ h => h) rfl ?_ ⟨F323.out, F313.out⟩ ?_
  · intro W hS
    have y0 := (Lib.cell_of_heap hS.2 0).trans (show _ = some (sv x_B.tag) from rfl)
    have y1 := (Lib.cell_of_heap hS.2 1).trans (show _ = some (.int .i64 x_B.kind) from rfl)
    have y2 := (Lib.cell_of_heap hS.2 2).trans (show _ = some (sv x_B.box) from rfl)
    have y3 := (Lib.cell_of_heap hS.2 3).trans (show _ = some (sv x_B.to) from rfl)
    have y4 := (Lib.cell_of_heap hS.2 4).trans (show _ = some (.bool x_B.uid) from rfl)
    have y5 := (Lib.cell_of_heap hS.2 5).trans (show _ = some ((.slice p_B_5 x_B.sset.length c_B_5)) from rfl)
    have y6 := (Lib.cell_of_heap hS.2 6).trans (show _ = some (.int .i64 x_B.op) from rfl)
    have y7 := (Lib.cell_of_heap hS.2 7).trans (show _ = some (.int .i64 x_B.flags) from rfl)
    have y8 := (Lib.cell_of_heap hS.2 8).trans (show _ = some (sv x_B.text) from rfl)
    have y9 := (Lib.cell_of_heap hS.2 9).trans (show _ = some (.bool x_B.filter.on) from rfl)
    have y10 := (Lib.cell_of_heap hS.2 10).trans (show _ = some ((.slice p_B_10 x_B.filter.scopes.length c_B_10)) from rfl)
    clear hS
    go_simp
  refine ord_ev rfl ?_
  go_simp
  refine (C_to_B.out _ (LfRd.below hb _ _ H_r_B_5.out) (LfRd.below hb _ _ H_r_B_10.out)).mono ?_
  rintro e w327 ⟨z330, f332, z331, f333, rfl, i334, i335, nd336, lo337, b328⟩
  have F338 := Lib.hid ((b328.block (w.heap.size) (Array.getElem?_eq_some_iff.1 F312.out).1).trans F312.out)
  clear F312
  have F339 := Lib.hid ((b328.block (w.heap.size + 1) (Array.getElem?_eq_some_iff.1 F313.out).1).trans F313.out)
  clear F313
  have F340 := Lib.hid (LfIn.below F314.out b328)
  clear F314
  have F341 := Lib.hid (LfIn.below F315.out b328)
  clear F315
  have F342 := Lib.hid (LfIn.below F316.out b328)
  clear F316
  have F343 := Lib.hid (LfIn.below F317.out b328)
  clear F317
  have F344 := Lib.hid (LfIn.below F318.out b328)
  clear F318
  have F345 := Lib.hid (LfIn.below F319.out b328)
  clear F319
  have F346 := Lib.hid ((b328.block (w109.heap.size) (Array.getElem?_eq_some_iff.1 F320.out).1).trans F320.out)
  clear F320
  have F347 := Lib.hid (LfIn.below F321.out b328)
  clear F321
  have F348 := Lib.hid (LfIn.below F322.out b328)
  clear F322
  have F349 := Lib.hid ((b328.block (w160.heap.size) (Array.getElem?_eq_some_iff.1 F323.out).1).trans F323.out)
  clear F323
  have F350 := Lib.hid (LfIn.below F324.out b328)
  clear F324
  have F351 := Lib.hid (LfIn.below F325.out b328)
  clear F325
  have hz352 : D309.heap.size ≤ w327.heap.size := b328.size
  replace hb := hb.trans (b328.mono hb.size)
  have LO353 := Lib.hid (show ∀ q ∈ f332 ++ f333, D309.heap.size ≤ q from lo337)
  have HI354 := Lib.hid (show ∀ q ∈ f332 ++ f333, q < w327.heap.size from fun q hq => by simp only [List.mem_append] at hq; rcases hq with hq | hq <;> first | exact LfIn.lt _ _ _ i334 q hq | exact LfIn.lt _ _ _ i335 q hq)
  have ND355 := Lib.hid nd336
  have F356 := Lib.hid i334
  have LO357 := Lib.hid (show ∀ q ∈ f332, D309.heap.size ≤ q from fun q hq => LO353.out q (by simp [hq]))
  have HI358 := Lib.hid (show ∀ q ∈ f332, q < w327.heap.size from fun q hq => HI354.out q (by simp [hq]))
  obtain ⟨pz330, cz330, rfl⟩ := LfIn.slice i334
  have F359 := Lib.hid i335
  have LO360 := Lib.hid (show ∀ q ∈ f333, D309.heap.size ≤ q from fun q hq => LO353.out q (by simp [hq]))
  have HI361 := Lib.hid (show ∀ q ∈ f333, q < w327.heap.size from fun q hq => HI354.out q (by simp [hq]))
  obtain ⟨pz331, cz331, rfl⟩ := LfIn.slice i335
  clear i334
  clear i335
  clear nd336 lo337
  clear b328
  refine ⟨⟨F349.out, F339.out⟩, ?_⟩
  refine ord_ev rfl ?_
  go_simp
  refine (eqCommand_g x_B _ _ _ _ _ (LfIn.rd _ _ _ F347.out) (LfIn.rd _ _ _ F356.out) (LfIn.rd _ _ _ F348.out) (LfIn.rd _ _ _ F359.out) (by have := SZ_B.out; omega)).mono ?_
  rintro e w362 ⟨rfl, b363⟩
  have F364 := Lib.hid ((b363.block (w.heap.size) (Array.getElem?_eq_some_iff.1 F338.out).1).trans F338.out)
  clear F338
  have F365 := Lib.hid ((b363.block (w.heap.size + 1) (Array.getElem?_eq_some_iff.1 F339.out).1).trans F339.out)
  clear F339
  have F366 := Lib.hid (LfIn.below F340.out b363)
  clear F340
  have F367 := Lib.hid (LfIn.below F341.out b363)
  clear F341
  have F368 := Lib.hid (LfIn.below F342.out b363)
  clear F342
  have F369 := Lib.hid (LfIn.below F343.out b363)
  clear F343
  have F370 := Lib.hid (LfIn.below F344.out b363)
  clear F344
  have F371 := Lib.hid (LfIn.below F345.out b363)
  clear F345
  have F372 := Lib.hid ((b363.block (w109.heap.size) (Array.getElem?_eq_some_iff.1 F346.out).1).trans F346.out)
  clear F346
  have F373 := Lib.hid (LfIn.below F347.out b363)
  clear F347
  have F374 := Lib.hid (LfIn.below F348.out b363)
  clear F348
  have F375 := Lib.hid ((b363.block (w160.heap.size) (Array.getElem?_eq_some_iff.1 F349.out).1).trans F349.out)
  clear F349
  have F376 := Lib.hid (LfIn.below F350.out b363)
  clear F350
  have F377 := Lib.hid (LfIn.below F351.out b363)
  clear F351
  have F378 := Lib.hid (LfIn.below F356.out b363)
  clear F356
  have F379 := Lib.hid (LfIn.below F359.out b363)
  clear F359
  have hz380 : w327.heap.size ≤ w362.heap.size := b363.size
  replace hb := hb.trans (b363.mono hb.size)
  clear b363
  refine ⟨⟨F375.out, F365.out⟩, ?_⟩
  iterate 1 (refine ord_flo ?_ (fun _ _ _ h => h) rfl ?_ ⟨F375.out, F365.out⟩ ?_; rotate_left; focus (intro W hS; obtain ⟨s0, s1⟩ := hS; go_simp; rfl))
  refine ord_done ?_
  go_simp
  go_wp2
  go_ret
  exact ⟨rfl, hb⟩

end Go.Proofs.Ytidjebepgpbcnaa
