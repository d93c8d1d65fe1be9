/-
  Chapter 1's walks: the model's Digits, both Numbers.
-/
import Derived.Test.YthihjelcakenpaaSlc
import Derived.Test.YthihjelcakenpaaNumM
import Derived.Lib.ItoaLen
namespace Go.Proofs.Ythihjelcakenpaa
open Go.RowKit
open Go.Lib (decDigits itoa)

theorem decDigits_length_le (n : Nat) (h : n ≤ 9223372036854775807) : (decDigits n).length ≤ 21 := by
  have := Lib.itoa_length_le (n : Int) (by omega) (by omega)
  rwa [Lib.itoa_nonneg] at this

/-- One digit more in front. -/
theorem dec_step {m n : Nat} {l : List UInt8} (_hm0 : ¬ m = 0) (h : decDigits m ++ l = decDigits n) :
    (m / 10 = 0 → UInt8.ofNat (48 + m % 10) :: l = decDigits n) ∧ (0 < m / 10 → decDigits (m / 10) ++ UInt8.ofNat (48 + m % 10) :: l = decDigits n) := by
  constructor
  · intro hz
    have : m < 10 := by omega
    rw [decDigits_small this] at h
    rw [Nat.mod_eq_of_lt this]
    exact h
  · intro hz
    rw [decDigits_big (by omega), List.append_assoc] at h
    exact h


theorem toList_data (s : ByteArray) : s.toList = s.data.toList := ByteArray.toList_eq s

/-- What Number hands back. -/
def numV (l : List UInt8) : Value := match numl l with | some n => .tuple #[.int .i64 (n : Int), .bool true] | none => .tuple #[.int .i64 0, .bool false]
theorem numV_none {l : List UInt8} (h : numl l = none) : numV l = .tuple #[.int .i64 0, .bool false] := by unfold numV; rw [h]
theorem numV_some {l : List UInt8} {n : Nat} (h : numl l = some n) : numV l = .tuple #[.int .i64 (n : Int), .bool true] := by unfold numV; rw [h]

theorem all_take_step (s : ByteArray) (k : Nat) (h : k < s.size) : (s.data.toList.take (k + 1)).all isd = ((s.data.toList.take k).all isd && isd s[k]) := by
  rw [take_str s k h, List.all_append]; simp
theorem dv_take_step (s : ByteArray) (k : Nat) (h : k < s.size) : dv (s.data.toList.take (k + 1)) = 10 * dv (s.data.toList.take k) + (s[k].toNat - 48) := by
  rw [take_str s k h, dv_snoc]
theorem not_canon_at (s : ByteArray) (k : Nat) (h : k < s.size) (hn : isd s[k] = false) : numl s.data.toList = none := by
  unfold numl
  rw [if_neg]
  rintro ⟨hc, _⟩
  simp only [canon, Bool.and_eq_true] at hc
  have h1 := hc.1.1
  rw [List.all_eq_true] at h1
  have := h1 s[k] (by
    have : s.data.toList[k]? = some s[k] := by simp [List.getElem?_eq_getElem (show k < s.data.toList.length by simpa using h)]; rfl
    exact List.mem_of_getElem? this)
  rw [hn] at this
  cases this
theorem isd_int (b : UInt8) : isd b = (decide (48 ≤ (b.toNat : Int)) && decide ((b.toNat : Int) ≤ 57)) := by
  unfold isd
  congr 1
  · have : (48 ≤ b.toNat) = (48 ≤ (b.toNat : Int)) := by rw [eq_iff_iff]; omega
    simp only [this]
  · have : (b.toNat ≤ 57) = ((b.toNat : Int) ≤ 57) := by rw [eq_iff_iff]; omega
    simp only [this]


def numPan : Value := .iface 9 (.string ⟨#[110, 111, 116, 32, 97, 32, 110, 117, 109, 98, 101, 114]⟩)

/-- numberOf: the number, or a panic. -/
def numPost (l : List UInt8) (w : World) (e : Ending) (w' : World) : Prop := (match numl l with | some n => e = .returned (.int .i64 (n : Int)) | none => e = .panicked [{ v := numPan, recovered := false }]) ∧ Below w.heap.size w w'
theorem numPost_none {l : List UInt8} {w w' : World} {e : Ending} (h : numl l = none) (he : e = .panicked [{ v := numPan, recovered := false }]) (hb : Below w.heap.size w w') : numPost l w e w' := by
  unfold numPost; rw [h]; exact ⟨he, hb⟩
theorem numPost_some {l : List UInt8} {n : Nat} {w w' : World} {e : Ending} (h : numl l = some n) (he : e = .returned (.int .i64 (n : Int))) (hb : Below w.heap.size w w') : numPost l w e w' := by
  unfold numPost; rw [h]; exact ⟨he, hb⟩
theorem dv_mono (p q : List UInt8) : dv p ≤ dv (p ++ q) := by
  induction q using rev_ind with
  | nil => simp
  | snoc q b ih => rw [← List.append_assoc, dv_snoc]; omega
theorem dv_take_le (l : List UInt8) (k : Nat) : dv (l.take k) ≤ dv l := by
  have := dv_mono (l.take k) (l.drop k)
  rwa [List.take_append_drop] at this
theorem numl_great (l : List UInt8) (k : Nat) (h : 999999999 < dv (l.take k)) : numl l = none := by
  unfold numl
  rw [if_neg]
  rintro ⟨_, hv⟩
  have := dv_take_le l k
  omega
theorem numl_zero (s : ByteArray) (h0 : 0 < s.size) (h : (s[0].toNat : Int) = 48) (h1 : 1 < s.size) : numl s.data.toList = none := by
  unfold numl
  rw [if_neg]
  rintro ⟨hc, _⟩
  simp only [canon, Bool.and_eq_true, Bool.or_eq_true, decide_eq_true_eq] at hc
  rcases hc.2 with h2 | h2
  · simp at h2; omega
  · have e : s.data.toList.head? = some s[0] := by
      rw [List.head?_eq_getElem?, List.getElem?_eq_getElem (by simpa using h0)]
      rfl
    rw [e] at h2
    have : s[0] = 48 := by apply UInt8.toNat_inj.1; show s[0].toNat = 48; omega
    rw [this] at h2
    simp at h2
theorem data_ne (s : ByteArray) (h : 0 < s.size) : s.data.toList.isEmpty = false := by
  have h2 : s.data.toList.length = s.size := by simp
  cases hd : s.data.toList with
  | nil => rw [hd] at h2; simp only [List.length_nil] at h2; omega
  | cons a r => rfl
theorem numl_ok (s : ByteArray) (h0 : 0 < s.size) (hall : s.data.toList.all isd = true) (hv : dv s.data.toList ≤ 999999999) (h : ¬ (s[0].toNat : Int) = 48 ∨ s.size = 1) : numl s.data.toList = some (dv s.data.toList) := by
  unfold numl
  rw [if_pos]
  refine ⟨?_, hv⟩
  simp only [canon, hall, Bool.true_and, Bool.and_eq_true, Bool.or_eq_true, decide_eq_true_eq]
  refine ⟨?_, ?_⟩
  · rw [data_ne s h0]; rfl
  · rcases h with h | h
    · right
      have e : s.data.toList.head? = some s[0] := by
        rw [List.head?_eq_getElem?, List.getElem?_eq_getElem (by simpa using h0)]
        rfl
      rw [e]
      simp only [bne_iff_ne, ne_eq, Option.some.injEq]
      intro e2
      rw [e2] at h
      exact h rfl
    · left; simpa using h

theorem numV_cases (l : List UInt8) : ∃ (n : Int) (b : Bool), numV l = .tuple #[.int .i64 n, .bool b] := by
  unfold numV
  cases numl l with
  | none => exact ⟨_, _, rfl⟩
  | some r => exact ⟨_, _, rfl⟩

end Go.Proofs.Ythihjelcakenpaa
