/-
  A whole number is drawn.
-/
import Derived.Test.YtkajjkjimpdbbaaDoorDraw2
namespace Go.Proofs.YtkajjkjimpdbbaaDoor
open Go.RowKit

theorem grown_trans {w a b : World} {row : Option Nat} (h : w.grownBy a row) (k : a.grownBy b row) : w.grownBy b row :=
  ⟨k.os.trans h.os, k.tape.trans h.tape, k.output.trans h.output, Nat.le_trans h.size k.size, fun i hi hne => (k.block i (Nat.lt_of_lt_of_le hi h.size) hne).trans (h.block i hi hne)⟩
def in64 (n : Int) : Prop := -9223372036854775808 ≤ n ∧ n ≤ 9223372036854775807
/-- Some int was drawn. -/
def WholeG (g : Nat) (code : List UInt8) (w : World) (e : Ending) (w' : World) : Prop := ∃ n : Int, e = .returned (.int .i64 n) ∧ in64 n ∧ Cur w' g code ∧ w.grownBy w' (some g)
theorem drawnWhole : ∀ x ∈ ([0, 1, -1, 9, 10, 999999999, 1000000000, 9223372036854775807, -9223372036854775808] : List Int), -9223372036854775808 ≤ x ∧ x ≤ 9223372036854775807 := by decide

set_option maxRecDepth 20000 in
set_option maxHeartbeats 800000 in
theorem l1Whole_grown (g : Nat) (code : List UInt8) (w : World) (hc : Cur w g code) :
    Calls Tryd.prog 27 #[.pointer (some ⟨g, 0, none⟩)] w fun e w' => WholeG g code w e w' := by
  go_enter Tryd.func27, Tryd.ntmps27
  go_wp2_with fail
  refine (l1Below_any g code _ 3 (by omega) _ hc (by omega) (by omega)).mono ?_
  rintro e w1 ⟨x, rfl, hx, hc1, hg1⟩
  have hlt1 := hc1.lt
  by_cases hx0 : x = 0
  · subst hx0
    clear hx
    go_wp2_with fail
    refine (l1PickInt_any g code _ [0, 1, -1, 9, 10, 999999999, 1000000000, 9223372036854775807, -9223372036854775808] _ (hc1.below ((Below.refl _ _).alloc (Nat.le_refl _) _)) (Rd1_lit (b := w1.heap.size) _ (heap_alloc_new w1 _) rfl rfl) (Apart_new hlt1) (by simp) (by simp)).mono ?_
    rintro e w2 ⟨y, rfl, hy, hc2, hg2⟩
    have hy2 := drawnWhole y hy
    have hF : w.grownBy w2 (some g) := grown_trans hg1 (grown_trans (World.grownBy_alloc w1 _ (some g)) hg2)
    clear hy hc1 hg1 hg2 hc
    go_wp2
    go_ret
    exact ⟨y, rfl, hy2, hc2, hF⟩
  · have hx0' : ((x : Int) == 0) = false := by simp; omega
    by_cases hx1 : x = 1
    · subst hx1
      clear hx
      go_wp2_with fail
      refine (l1Below_any g code _ 1000000 (by omega) _ hc1 (by omega) (by omega)).mono ?_
      rintro e w2 ⟨y, rfl, hy, hc2, hg2⟩
      have hF : w.grownBy w2 (some g) := grown_trans hg1 hg2
      clear hc1 hg1 hg2 hc
      go_wp2
      go_ret
      exact ⟨_, rfl, ⟨by omega, by omega⟩, hc2, hF⟩
    · have hx1' : ((x : Int) == 1) = false := by simp; omega
      go_wp2_with fail
      refine (l1Below_any g code _ 20 (by omega) _ hc1 (by omega) (by omega)).mono ?_
      rintro e w2 ⟨y, rfl, hy, hc2, hg2⟩
      have hF : w.grownBy w2 (some g) := grown_trans hg1 hg2
      clear hc1 hg1 hg2 hc
      go_wp2
      go_ret
      exact ⟨_, rfl, ⟨by omega, by omega⟩, hc2, hF⟩

end Go.Proofs.YtkajjkjimpdbbaaDoor
