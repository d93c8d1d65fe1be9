/-
  Chapter 5: flags; plain facts, and the model's FlagsOk, FlagsText.
-/
import Derived.Test.YthjeeggejkpjgaaGc
import Derived.Test.YthjeeggejkpjgaaGb
import Derived.Test.YthjeeggejkpjgaaJoined
import Derived.Test.YthjeeggejkpjgaaGa
namespace Go.Proofs.Ythjeeggejkpjgaa
open Go.RowKit

def flB (n : Int) : Bool := decide (0 ≤ n) && decide (n ≤ 31)
def flW : List (List UInt8) := [[115, 101, 101, 110], [97, 110, 115, 119, 101, 114, 101, 100], [102, 108, 97, 103, 103, 101, 100], [100, 101, 108, 101, 116, 101, 100], [100, 114, 97, 102, 116]]
def flAt (i : Nat) : List UInt8 := flW.getD i []
/-- The words of the first k flags that are set. -/
def flTo (n k : Nat) : List (List UInt8) := ((List.range k).filter fun i => n.testBit i).map flAt
def flT (n : Int) : List UInt8 := if flB n = true then Lib.join (flTo n.toNat 5) [32] else []
theorem flTo_yes {n k : Nat} (h : n.testBit k = true) : flTo n (k + 1) = flTo n k ++ [flAt k] := by unfold flTo; rw [List.range_succ, List.filter_append, List.map_append]; simp [h]
theorem flTo_no {n k : Nat} (h : n.testBit k = false) : flTo n (k + 1) = flTo n k := by unfold flTo; rw [List.range_succ, List.filter_append, List.map_append]; simp [h]
theorem flTo_len (n k : Nat) : (flTo n k).length ≤ k := by unfold flTo; rw [List.length_map]; have := List.length_filter_le (fun i => n.testBit i) (List.range k); simpa using this
theorem flB_nat {n : Int} (h : flB n = true) : ∃ m : Nat, n = (m : Int) ∧ m ≤ 31 := by
  unfold flB at h
  simp only [Bool.and_eq_true, decide_eq_true_eq] at h
  exact ⟨n.toNat, by omega, by omega⟩

theorem specFlagsOk_any (n : Int) (w : World) :
    Calls Try.prog 14 #[.int .i64 n] w fun e w' => e = .returned (.bool (flB n)) ∧ w = w' := by
  have C1 := Lib.hid (fun W => l1In_any n 0 31 W)
  go_enter Try.func14, Try.ntmps14
  go_wp2_with fail
  refine (C1.out _).mono ?_
  rintro e w1 ⟨rfl, rfl⟩
  go_wp2
  go_ret
  exact ⟨rfl, rfl⟩

theorem flAt_cell {w w' : World} {e : TypeId} (hw : w' = w.alloc (.cells #[sv (flAt 0), sv (flAt 1), sv (flAt 2), sv (flAt 3), sv (flAt 4)] e)) (k : Nat) (h : k < 5) : w'.cell? ⟨w.heap.size, k, none⟩ = some (sv (flAt k)) := by
  subst hw
  have hk : k = 0 ∨ k = 1 ∨ k = 2 ∨ k = 3 ∨ k = 4 := by omega
  rcases hk with rfl | rfl | rfl | rfl | rfl <;> simp [go_sem]

theorem bit_eq (m k : Nat) (hm : m ≤ 31) (hk : k < 5) : (bits .and .i64 ((m : Int) / 2 ^ k) 1 == 1) = m.testBit k := by
  have h : ∀ m : Fin 32, ∀ k : Fin 5, (bits .and .i64 ((m.val : Int) / 2 ^ k.val) 1 == 1) = m.val.testBit k.val := by decide +kernel
  exact h ⟨m, by omega⟩ ⟨k, hk⟩
theorem flAt_len (k : Nat) : (flAt k).length ≤ 8 := by
  match k with
  | 0 => decide
  | 1 => decide
  | 2 => decide
  | 3 => decide
  | 4 => decide
  | k + 5 => simp [flAt, flW]
theorem flTo_szl (n k : Nat) : szl (flTo n k) ≤ 8 * k := by
  induction k with
  | zero => simp [flTo, szl]
  | succ k ih =>
    cases h : n.testBit k with
    | false => rw [flTo_no h]; omega
    | true => rw [flTo_yes h, szl_snoc]; have := flAt_len k; omega

end Go.Proofs.Ythjeeggejkpjgaa
