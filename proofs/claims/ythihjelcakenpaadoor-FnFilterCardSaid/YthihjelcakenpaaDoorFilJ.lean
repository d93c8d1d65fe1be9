/-
  Chapter 6: the words of scopes and events; tokens made.
-/
import Derived.Test.YthihjelcakenpaaDoorFilI
import Derived.Test.YthihjelcakenpaaDoorGd
namespace Go.Proofs.YthihjelcakenpaaDoor
open Go.RowKit

def scWords : List (List UInt8) := [[], [115, 101, 108, 101, 99, 116, 101, 100], [112, 101, 114, 115, 111, 110, 97, 108], [115, 117, 98, 116, 114, 101, 101], [98, 111, 120, 101, 115]]
def evWords : List (List UInt8) := [[110, 101, 119], [103, 111, 110, 101], [102, 108, 97, 103, 115], [110, 97, 109, 101, 115]]

set_option maxHeartbeats 800000 in
theorem l6Words_any (w : World) :
    Calls Tryd.prog 38 #[] w fun e w' => e = .returned (.slice (some ⟨w.heap.size, 0, none⟩) 5 5) ∧ (∀ j x, scWords[j]? = some x → w'.cell? ⟨w.heap.size, j, none⟩ = some (sv x)) ∧ w.heap.size < w'.heap.size ∧ Below w.heap.size w w' := by
  go_enter Tryd.func38, Tryd.ntmps38
  go_wp2
  go_ret
  have h := heap_alloc_new w (.cells #[sv [], sv [115, 101, 108, 101, 99, 116, 101, 100], sv [112, 101, 114, 115, 111, 110, 97, 108], sv [115, 117, 98, 116, 114, 101, 101], sv [98, 111, 120, 101, 115]] 9)
  refine ⟨rfl, fun j x hx => ?_, by simp, (Below.refl _ _).alloc (Nat.le_refl _) _⟩
  refine (Lib.cell_of_heap h j).trans ?_
  match j with
  | 0 => simp [scWords] at hx; subst hx; rfl
  | 1 => simp [scWords] at hx; subst hx; rfl
  | 2 => simp [scWords] at hx; subst hx; rfl
  | 3 => simp [scWords] at hx; subst hx; rfl
  | 4 => simp [scWords] at hx; subst hx; rfl
  | n + 5 => simp [scWords] at hx

set_option maxHeartbeats 800000 in
theorem l6Events_any (w : World) :
    Calls Tryd.prog 46 #[] w fun e w' => e = .returned (.slice (some ⟨w.heap.size, 0, none⟩) 4 4) ∧ (∀ j x, evWords[j]? = some x → w'.cell? ⟨w.heap.size, j, none⟩ = some (sv x)) ∧ w.heap.size < w'.heap.size ∧ Below w.heap.size w w' := by
  go_enter Tryd.func46, Tryd.ntmps46
  go_wp2
  go_ret
  have h := heap_alloc_new w (.cells #[sv [110, 101, 119], sv [103, 111, 110, 101], sv [102, 108, 97, 103, 115], sv [110, 97, 109, 101, 115]] 9)
  refine ⟨rfl, fun j x hx => ?_, by simp, (Below.refl _ _).alloc (Nat.le_refl _) _⟩
  refine (Lib.cell_of_heap h j).trans ?_
  match j with
  | 0 => simp [evWords] at hx; subst hx; rfl
  | 1 => simp [evWords] at hx; subst hx; rfl
  | 2 => simp [evWords] at hx; subst hx; rfl
  | 3 => simp [evWords] at hx; subst hx; rfl
  | n + 4 => simp [evWords] at hx

theorem l6Atom_any (x : List UInt8) (w : World) :
    Calls Tryd.prog 43 #[sv x] w fun e w' => e = .returned (.agg #[.int .i64 1, sv x]) ∧ Below w.heap.size w w' := by
  go_enter Tryd.func43, Tryd.ntmps43
  go_wp2
  go_returns
  exact ⟨rfl, (Below.refl _ _).alloc (Nat.le_refl _) _⟩

theorem l6Open_any (w : World) :
    Calls Tryd.prog 44 #[] w fun e w' => e = .returned (.agg #[.int .i64 3, sv []]) ∧ Below w.heap.size w w' := by
  go_enter Tryd.func44, Tryd.ntmps44
  go_wp2
  go_returns
  exact ⟨rfl, (Below.refl _ _).alloc (Nat.le_refl _) _⟩

theorem l6Close_any (w : World) :
    Calls Tryd.prog 45 #[] w fun e w' => e = .returned (.agg #[.int .i64 4, sv []]) ∧ Below w.heap.size w w' := by
  go_enter Tryd.func45, Tryd.ntmps45
  go_wp2
  go_returns
  exact ⟨rfl, (Below.refl _ _).alloc (Nat.le_refl _) _⟩

end Go.Proofs.YthihjelcakenpaaDoor
