/-
  The exact law of EventOf out of what the two functions answer (made by tools/lawc.py).
-/
import Derived.Test.YthjeeggejkpjgaaComA
import Derived.Test.YthjeeggejkpjgaaLgB
import Derived.Test.YthjeeggejkpjgaaGa
namespace Go.Proofs.Ythjeeggejkpjgaa
open Go.RowKit

def CtrEventOf (f : FuncId) (G : World → Prop) : Prop := ∀ (x_M : ComD) (W : World), G W → szLs x_M.lf ≤ 1048576 → LsBnd x_M.lf → 
  Calls Try.prog f #[.agg #[.int .i64 x_M.kind, .int .i64 x_M.validity, .int .i64 x_M.uid, .int .i64 x_M.flags, sv x_M.name, sv x_M.text]] W fun e w' => e = .returned (.int .i64 (evOf x_M.kind)) ∧ Below W.heap.size W w'

set_option maxRecDepth 20000 in
set_option maxHeartbeats 12800000 in
theorem FnExactEventOf_of {G : World → Prop} (hK : Keeps G) (SP : CtrEventOf 9 (fun _ => True)) (IM : CtrEventOf 10 G) (x_M : ComD) (w : World) (hG : G w) (hb_M : LsBnd x_M.lf) :
    Calls Try.prog 4 #[.agg #[.int .i64 x_M.kind, .int .i64 x_M.validity, .int .i64 x_M.uid, .int .i64 x_M.flags, sv x_M.name, sv x_M.text]] w fun e w' => e = .returned (.bool true) ∧ Below w.heap.size w w' := by
  by_cases k0 : szLs x_M.lf ≤ 1048576
  case neg =>
    have q0 := fun (ll : Int) (W : World) (hl : ll = ((1048576 : Nat) : Int)) => szCommit_g x_M ll 1048576 hl W hb_M (by omega)
    simp only [show szN 1048576 (szLs x_M.lf) = -1 from szN_no k0] at q0
    have C_sz0 := Lib.hid q0
    clear q0 SP IM
    have hb : Below w.heap.size w (w.alloc (.cells #[.int .i64 x_M.kind, .int .i64 x_M.validity, .int .i64 x_M.uid, .int .i64 x_M.flags, sv x_M.name, sv x_M.text] 23)) := ((Below.refl _ _).alloc (Nat.le_refl _) _)
    have HB1 := Lib.hid (show (w.alloc (.cells #[.int .i64 x_M.kind, .int .i64 x_M.validity, .int .i64 x_M.uid, .int .i64 x_M.flags, sv x_M.name, sv x_M.text] 23)).heap[w.heap.size]? = some (.cells #[.int .i64 x_M.kind, .int .i64 x_M.validity, .int .i64 x_M.uid, .int .i64 x_M.flags, sv x_M.name, sv x_M.text] 23 (0, 0)) from by
      have h := heap_alloc_new w (.cells #[.int .i64 x_M.kind, .int .i64 x_M.validity, .int .i64 x_M.uid, .int .i64 x_M.flags, sv x_M.name, sv x_M.text] 23)
      exact h)
    have hz0 : w.heap.size + 1 ≤ (w.alloc (.cells #[.int .i64 x_M.kind, .int .i64 x_M.validity, .int .i64 x_M.uid, .int .i64 x_M.flags, sv x_M.name, sv x_M.text] 23)).heap.size := by simp
    generalize hW0 : (w.alloc (.cells #[.int .i64 x_M.kind, .int .i64 x_M.validity, .int .i64 x_M.uid, .int .i64 x_M.flags, sv x_M.name, sv x_M.text] 23)) = W0 at *
    go_enter Try.func4, Try.ntmps4
    have hbz := Lib.hid hb.size
    have y2 := (Lib.cell_of_heap HB1.out 0).trans (show _ = some (.int .i64 x_M.kind) from rfl)
    have y3 := (Lib.cell_of_heap HB1.out 1).trans (show _ = some (.int .i64 x_M.validity) from rfl)
    have y4 := (Lib.cell_of_heap HB1.out 2).trans (show _ = some (.int .i64 x_M.uid) from rfl)
    have y5 := (Lib.cell_of_heap HB1.out 3).trans (show _ = some (.int .i64 x_M.flags) from rfl)
    have y6 := (Lib.cell_of_heap HB1.out 4).trans (show _ = some (sv x_M.name) from rfl)
    have y7 := (Lib.cell_of_heap HB1.out 5).trans (show _ = some (sv x_M.text) from rfl)
    go_wp2_with fail
    refine (C_sz0.out _ _ (by first | rfl | omega) ).mono ?_
    rintro e w8 ⟨rfl, b9⟩
    clear y2 y3 y4 y5 y6 y7
    have F10 := Lib.hid ((b9.block (w.heap.size) (Array.getElem?_eq_some_iff.1 HB1.out).1).trans HB1.out)
    clear HB1
    have hz11 : W0.heap.size ≤ w8.heap.size := b9.size
    replace hb := hb.trans (b9.mono hb.size)
    clear b9
    go_wp2
    go_ret
    exact ⟨rfl, hb⟩
  obtain ⟨L1, hL1⟩ : ∃ L, L + szLs x_M.lf = 1048576 := ⟨1048576 - szLs x_M.lf, by omega⟩
  have bL1 : L1 ≤ 1048576 := by omega
  have nL1 : ¬ (L1 : Int) < 0 := by omega
  have q0 := fun (ll : Int) (W : World) (hl : ll = ((1048576 : Nat) : Int)) => szCommit_g x_M ll 1048576 hl W hb_M (by omega)
  simp only [show szN 1048576 (szLs x_M.lf) = (L1 : Int) from by rw [szN_yes k0]; omega] at q0
  have C_sz0 := Lib.hid q0
  clear q0
  have HL1 := Lib.hid hL1
  have hsz_0 : szLs x_M.lf ≤ 1048576 := by omega
  clear hL1
  have hsm_M : szLs x_M.lf ≤ 1048576 := by omega
  have SZ_M := Lib.hid hsm_M
  have C_to_M := Lib.hid (fun (W : World) => toCommit_g x_M W (by omega))
  have C_spec := Lib.hid (fun  (W : World)  => SP x_M W trivial hsm_M hb_M)
  have C_impl := Lib.hid (fun  (W : World) (hg : G W)  => IM x_M W hg hsm_M hb_M)
  clear SP IM hb_M hsm_M
  generalize (evOf x_M.kind) = R0 at *
  have ne0 : (R0 != R0) = false := by simp
  have hb : Below w.heap.size w (w.alloc (.cells #[.int .i64 x_M.kind, .int .i64 x_M.validity, .int .i64 x_M.uid, .int .i64 x_M.flags, sv x_M.name, sv x_M.text] 23)) := ((Below.refl _ _).alloc (Nat.le_refl _) _)
  have HB1 := Lib.hid (show (w.alloc (.cells #[.int .i64 x_M.kind, .int .i64 x_M.validity, .int .i64 x_M.uid, .int .i64 x_M.flags, sv x_M.name, sv x_M.text] 23)).heap[w.heap.size]? = some (.cells #[.int .i64 x_M.kind, .int .i64 x_M.validity, .int .i64 x_M.uid, .int .i64 x_M.flags, sv x_M.name, sv x_M.text] 23 (0, 0)) from by
    have h := heap_alloc_new w (.cells #[.int .i64 x_M.kind, .int .i64 x_M.validity, .int .i64 x_M.uid, .int .i64 x_M.flags, sv x_M.name, sv x_M.text] 23)
    exact h)
  have hz0 : w.heap.size + 1 ≤ (w.alloc (.cells #[.int .i64 x_M.kind, .int .i64 x_M.validity, .int .i64 x_M.uid, .int .i64 x_M.flags, sv x_M.name, sv x_M.text] 23)).heap.size := by simp
  generalize hW0 : (w.alloc (.cells #[.int .i64 x_M.kind, .int .i64 x_M.validity, .int .i64 x_M.uid, .int .i64 x_M.flags, sv x_M.name, sv x_M.text] 23)) = W0 at *
  go_enter Try.func4, Try.ntmps4
  have hbz := Lib.hid hb.size
  have y2 := (Lib.cell_of_heap HB1.out 0).trans (show _ = some (.int .i64 x_M.kind) from rfl)
  have y3 := (Lib.cell_of_heap HB1.out 1).trans (show _ = some (.int .i64 x_M.validity) from rfl)
  have y4 := (Lib.cell_of_heap HB1.out 2).trans (show _ = some (.int .i64 x_M.uid) from rfl)
  have y5 := (Lib.cell_of_heap HB1.out 3).trans (show _ = some (.int .i64 x_M.flags) from rfl)
  have y6 := (Lib.cell_of_heap HB1.out 4).trans (show _ = some (sv x_M.name) from rfl)
  have y7 := (Lib.cell_of_heap HB1.out 5).trans (show _ = some (sv x_M.text) from rfl)
  go_wp2_with fail
  refine (C_sz0.out _ _ (by first | rfl | omega) ).mono ?_
  rintro e w8 ⟨rfl, b9⟩
  clear y2 y3 y4 y5 y6 y7
  have F10 := Lib.hid ((b9.block (w.heap.size) (Array.getElem?_eq_some_iff.1 HB1.out).1).trans HB1.out)
  clear HB1
  have hz11 : W0.heap.size ≤ w8.heap.size := b9.size
  replace hb := hb.trans (b9.mono hb.size)
  clear b9
  have y12 := (Lib.cell_of_heap F10.out 0).trans (show _ = some (.int .i64 x_M.kind) from rfl)
  have y13 := (Lib.cell_of_heap F10.out 1).trans (show _ = some (.int .i64 x_M.validity) from rfl)
  have y14 := (Lib.cell_of_heap F10.out 2).trans (show _ = some (.int .i64 x_M.uid) from rfl)
  have y15 := (Lib.cell_of_heap F10.out 3).trans (show _ = some (.int .i64 x_M.flags) from rfl)
  have y16 := (Lib.cell_of_heap F10.out 4).trans (show _ = some (sv x_M.name) from rfl)
  have y17 := (Lib.cell_of_heap F10.out 5).trans (show _ = some (sv x_M.text) from rfl)
  go_wp2_with fail
  refine (C_to_M.out _ ).mono ?_
  rintro e w18 ⟨rfl, b19⟩
  clear y12 y13 y14 y15 y16 y17
  have F21 := Lib.hid ((b19.block (w.heap.size) (Array.getElem?_eq_some_iff.1 F10.out).1).trans F10.out)
  clear F10
  have hz22 : w8.heap.size ≤ w18.heap.size := b19.size
  replace hb := hb.trans (b19.mono hb.size)
  clear b19
  go_wp2_with fail
  refine (C_spec.out _ ).mono ?_
  rintro e w23 ⟨rfl, b24⟩
  have F25 := Lib.hid ((b24.block (w.heap.size) (Array.getElem?_eq_some_iff.1 F21.out).1).trans F21.out)
  clear F21
  have hz26 : w18.heap.size ≤ w23.heap.size := b24.size
  replace hb := hb.trans (b24.mono hb.size)
  clear b24
  have y27 := (Lib.cell_of_heap F25.out 0).trans (show _ = some (.int .i64 x_M.kind) from rfl)
  have y28 := (Lib.cell_of_heap F25.out 1).trans (show _ = some (.int .i64 x_M.validity) from rfl)
  have y29 := (Lib.cell_of_heap F25.out 2).trans (show _ = some (.int .i64 x_M.uid) from rfl)
  have y30 := (Lib.cell_of_heap F25.out 3).trans (show _ = some (.int .i64 x_M.flags) from rfl)
  have y31 := (Lib.cell_of_heap F25.out 4).trans (show _ = some (sv x_M.name) from rfl)
  have y32 := (Lib.cell_of_heap F25.out 5).trans (show _ = some (sv x_M.text) from rfl)
  go_wp2_with fail
  refine (C_to_M.out _ ).mono ?_
  rintro e w33 ⟨rfl, b34⟩
  clear y27 y28 y29 y30 y31 y32
  have F36 := Lib.hid ((b34.block (w.heap.size) (Array.getElem?_eq_some_iff.1 F25.out).1).trans F25.out)
  clear F25
  have hz37 : w23.heap.size ≤ w33.heap.size := b34.size
  replace hb := hb.trans (b34.mono hb.size)
  clear b34
  go_wp2_with fail
  refine (C_impl.out _ (hK _ _ hG hb) ).mono ?_
  rintro e w38 ⟨rfl, b39⟩
  have F40 := Lib.hid ((b39.block (w.heap.size) (Array.getElem?_eq_some_iff.1 F36.out).1).trans F36.out)
  clear F36
  have hz41 : w33.heap.size ≤ w38.heap.size := b39.size
  replace hb := hb.trans (b39.mono hb.size)
  clear b39
  go_wp2
  go_ret
  exact ⟨rfl, hb⟩

end Go.Proofs.Ythjeeggejkpjgaa
