/-
  Chapter 2's walks: NameOk, Under, the model's and the program's.
-/
import Derived.Test.YtldfakcjimaaaaaDoorWordC
namespace Go.Proofs.YtldfakcjimaaaaaDoor
open Go.RowKit

/-- What the model's loop knows at place k. -/
def NmSt (s : ByteArray) (k : Nat) (a : Bool) (U : Bool) : Prop :=
  nameRun (s.data.toList.drop k) a = U ∧ (k = 0 → a = true) ∧ (∀ j, k = j + 1 → ∀ h : j < s.size, a = decide (s[j].toNat = 47)) ∧ (k = s.size → 0 < k → a = false)
theorem nameB_of {l : List UInt8} {U : Bool} (h : nameRun l true = U) : nameB l = (U && decide (l.length ≤ 12)) := by unfold nameB; rw [h]
theorem nameB_size {s : ByteArray} {U : Bool} (h : nameRun s.data.toList true = U) : nameB s.data.toList = (U && decide ((s.size : Int) ≤ 12)) := by
  rw [nameB_of h, str_len]
  have e2 : (s.size ≤ 12) = ((s.size : Int) ≤ 12) := by rw [eq_iff_iff]; omega
  simp only [e2]
theorem n_slash (s : ByteArray) (k : Nat) (h : k < s.size) (hb : ((s[k].toNat : Int) == 47) = true) : nameRun (s.data.toList.drop k) false = nameRun (s.data.toList.drop (k + 1)) true ∧ nameRun (s.data.toList.drop k) true = false := by
  rw [drop_str s k h]
  exact nameRun_slash _ (by have := beq_iff_eq.1 hb; omega)
theorem n_letter (s : ByteArray) (k : Nat) (h : k < s.size) (a : Bool) (h0 : ¬ (s[k].toNat : Int) < 97) (h1 : ¬ 122 < (s[k].toNat : Int)) : nameRun (s.data.toList.drop k) a = nameRun (s.data.toList.drop (k + 1)) false := by
  rw [drop_str s k h]
  exact nameRun_letter _ a (by omega) (by omega)
theorem n_bad (s : ByteArray) (k : Nat) (h : k < s.size) (a : Bool) (hb : ((s[k].toNat : Int) == 47) = false) (h1 : (s[k].toNat : Int) < 97 ∨ 122 < (s[k].toNat : Int)) : nameRun (s.data.toList.drop k) a = false := by
  rw [drop_str s k h]
  exact nameRun_bad _ a (by have := beq_eq_false_iff_ne.1 hb; omega) (by omega)
theorem n_end (s : ByteArray) (k : Nat) (h : ¬ k < s.size) (a : Bool) : nameRun (s.data.toList.drop k) a = !a := by rw [drop_str_end s k h]; rfl

end Go.Proofs.YtldfakcjimaaaaaDoor
