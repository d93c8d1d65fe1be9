/-
  Plain facts on decimal numerals. No program is read here.
-/
import Derived.Test.YthihjelcakenpaaPlain
import Derived.Lib.ItoaNum
import Derived.Lib.ItoaMem
namespace Go.Proofs.Ythihjelcakenpaa
open Go.RowKit
open Go.Lib (decDigits itoa)

theorem rev_ind {α : Type} {P : List α → Prop} (nil : P []) (snoc : ∀ (l : List α) (b : α), P l → P (l ++ [b])) (l : List α) : P l := by
  have h : ∀ r : List α, P r.reverse := by
    intro r
    induction r with
    | nil => exact nil
    | cons b r ih => rw [List.reverse_cons]; exact snoc _ _ ih
  have := h l.reverse
  rwa [List.reverse_reverse] at this

def isd (b : UInt8) : Bool := decide (48 ≤ b.toNat) && decide (b.toNat ≤ 57)
def dv (l : List UInt8) : Nat := l.foldl (fun n b => 10 * n + (b.toNat - 48)) 0
def canon (l : List UInt8) : Bool := l.all isd && !l.isEmpty && (decide (l.length = 1) || l.head? != some 48)
def numl (l : List UInt8) : Option Nat := if canon l = true ∧ dv l ≤ 999999999 then some (dv l) else none

theorem dv_nil : dv [] = 0 := rfl
theorem dv_snoc (l : List UInt8) (b : UInt8) : dv (l ++ [b]) = 10 * dv l + (b.toNat - 48) := by simp [dv]
theorem digit_byte (b : UInt8) (h : isd b = true) : UInt8.ofNat (48 + (b.toNat - 48)) = b := by
  simp only [isd, Bool.and_eq_true, decide_eq_true_eq] at h
  rw [show 48 + (b.toNat - 48) = b.toNat from by omega]
  simp
theorem digit_lt (b : UInt8) (h : isd b = true) : b.toNat - 48 < 10 := by
  simp only [isd, Bool.and_eq_true, decide_eq_true_eq] at h; omega
theorem isd_ofNat (k : Nat) (h : k < 10) : isd (UInt8.ofNat (48 + k)) = true ∧ (UInt8.ofNat (48 + k)).toNat = 48 + k := by
  have e : (UInt8.ofNat (48 + k)).toNat = 48 + k := UInt8.toNat_ofNat_of_lt' (by show 48 + k < 256; omega)
  refine ⟨?_, e⟩
  simp only [isd, e, Bool.and_eq_true, decide_eq_true_eq]; omega

theorem decDigits_small {u : Nat} (h : u < 10) : decDigits u = [UInt8.ofNat (48 + u)] := by rw [decDigits, dif_pos h]
theorem decDigits_big {u : Nat} (h : ¬ u < 10) : decDigits u = decDigits (u / 10) ++ [UInt8.ofNat (48 + u % 10)] := by rw [decDigits, dif_neg h]

theorem decDigits_facts (u : Nat) : dv (decDigits u) = u ∧ (decDigits u).all isd = true ∧ decDigits u ≠ [] ∧ (0 < u → (decDigits u).head? ≠ some 48) := by
  induction u using Nat.strongRecOn with
  | _ u ih =>
    by_cases h : u < 10
    · obtain ⟨h1, h2⟩ := isd_ofNat u h
      rw [decDigits_small h]
      generalize UInt8.ofNat (48 + u) = c at h1 h2 ⊢
      refine ⟨by simp [dv, h2], by simp [h1], by simp, fun hp hh => ?_⟩
      simp only [List.head?_cons, Option.some.injEq] at hh
      have := congrArg UInt8.toNat hh
      rw [h2] at this
      have e48 : (48 : UInt8).toNat = 48 := rfl
      omega
    · obtain ⟨i1, i2, i3, i4⟩ := ih (u / 10) (by omega)
      obtain ⟨h1, h2⟩ := isd_ofNat (u % 10) (by omega)
      rw [decDigits_big h]
      generalize UInt8.ofNat (48 + u % 10) = c at h1 h2 ⊢
      refine ⟨by rw [dv_snoc, i1, h2]; omega, by simp [List.all_append, i2, h1], by simp, fun _ => ?_⟩
      have := i4 (by omega)
      cases hd : decDigits (u / 10) with
      | nil => exact absurd hd i3
      | cons a r => rw [hd] at this; simpa using this

theorem dv_pow : ∀ (l : List UInt8) (a : UInt8), isd a = true → a ≠ 48 → l.all isd = true → 10 ^ l.length ≤ dv (a :: l) := by
  intro l
  induction l using rev_ind with
  | nil =>
    intro a ha h48 _
    simp only [isd, Bool.and_eq_true, decide_eq_true_eq] at ha
    have : a.toNat ≠ 48 := fun e => h48 (UInt8.toNat_inj.1 e)
    simp [dv]; omega
  | snoc l b ih =>
    intro a ha h48 hl
    rw [List.all_append, Bool.and_eq_true] at hl
    have := ih a ha h48 hl.1
    rw [← List.cons_append, dv_snoc, List.length_append, Nat.pow_add]
    simp only [List.length_singleton, Nat.pow_one]
    omega

theorem decDigits_dv : ∀ (l : List UInt8), canon l = true → decDigits (dv l) = l := by
  intro l
  induction l using rev_ind with
  | nil => intro h; simp [canon] at h
  | snoc l b ih =>
    intro h
    simp only [canon, Bool.and_eq_true, List.all_append] at h
    obtain ⟨⟨⟨h1, h2⟩, _⟩, h4⟩ := h
    have hb : isd b = true := by simpa using h2
    rw [dv_snoc]
    cases l with
    | nil =>
      have := digit_lt b hb
      rw [dv_nil, Nat.mul_zero, Nat.zero_add, decDigits_small this, digit_byte b hb]
      rfl
    | cons a r =>
      have ha : a ≠ 48 := by simpa using h4
      simp only [List.all_cons, Bool.and_eq_true] at h1
      have hp := dv_pow r a h1.1 ha h1.2
      have hp1 : 1 ≤ 10 ^ r.length := Nat.one_le_pow _ _ (by omega)
      have hd := digit_lt b hb
      rw [decDigits_big (by omega)]
      have e1 : (10 * dv (a :: r) + (b.toNat - 48)) / 10 = dv (a :: r) := by omega
      have e2 : (10 * dv (a :: r) + (b.toNat - 48)) % 10 = b.toNat - 48 := by omega
      rw [e1, e2, digit_byte b hb, ih]
      simp only [canon, List.all_cons, h1.1, h1.2, Bool.and_eq_true]
      simp [ha]

theorem canon_dec (u : Nat) : canon (decDigits u) = true := by
  obtain ⟨_, h2, h3, h4⟩ := decDigits_facts u
  simp only [canon, h2, Bool.true_and, Bool.and_eq_true]
  refine ⟨by cases hd : decDigits u <;> simp_all, ?_⟩
  by_cases hu : 0 < u
  · simp [h4 hu]
  · have : u = 0 := by omega
    subst this
    rw [decDigits_small (by omega)]; rfl

/-- Of digits alone, not empty: canonical is what the digits of the value give back. -/
theorem canon_iff (l : List UInt8) : canon l = true ↔ decDigits (dv l) = l := by
  constructor
  · exact decDigits_dv l
  · intro h; rw [← h]; exact canon_dec _

theorem numl_long (l : List UInt8) (h : 9 < l.length) : numl l = none := by
  unfold numl
  rw [if_neg]
  rintro ⟨hc, hv⟩
  simp only [canon, Bool.and_eq_true] at hc
  obtain ⟨⟨h1, _⟩, h4⟩ := hc
  cases l with
  | nil => simp at h
  | cons a r =>
    simp only [List.length_cons] at h
    have ha : a ≠ 48 := by
      intro e; subst e
      simp at h4
      subst h4
      simp at h
    simp only [List.all_cons, Bool.and_eq_true] at h1
    have hp := dv_pow r a h1.1 ha h1.2
    have : 10 ^ 9 ≤ 10 ^ r.length := Nat.pow_le_pow_right (by omega) (by omega)
    omega
theorem numl_nil : numl [] = none := rfl
theorem dv_lt_pow : ∀ (l : List UInt8), l.all isd = true → dv l < 10 ^ l.length := by
  intro l
  induction l using rev_ind with
  | nil => intro _; simp [dv]
  | snoc l b ih =>
    intro h
    rw [List.all_append, Bool.and_eq_true] at h
    have := ih h.1
    have hb := digit_lt b (by simpa using h.2)
    rw [dv_snoc, List.length_append, Nat.pow_add]
    simp only [List.length_singleton, Nat.pow_one]
    omega

end Go.Proofs.Ythihjelcakenpaa
