/-
  Chapter 1's walks: Parts.
-/
import Derived.Test.YthihjelcakenpaaStr
import Derived.Lib.Strings
namespace Go.Proofs.Ythihjelcakenpaa
open Go.RowKit

def partsl (c : UInt8) : List UInt8 → List (List UInt8)
  | [] => [[]]
  | b :: r => if b = c then [] :: partsl c r else match partsl c r with
    | [] => [[b]]
    | x :: xs => (b :: x) :: xs

theorem partsl_ne (c : UInt8) (l : List UInt8) : partsl c l ≠ [] := by
  cases l with
  | nil => simp [partsl]
  | cons b r =>
    unfold partsl
    split
    · simp
    · split <;> simp
theorem partsl_none (c : UInt8) : ∀ l : List UInt8, (∀ b ∈ l, b ≠ c) → partsl c l = [l]
  | [], _ => rfl
  | b :: r, h => by
    unfold partsl
    rw [if_neg (h b (by simp)), partsl_none c r (fun x hx => h x (by simp [hx]))]
theorem partsl_hit (c : UInt8) : ∀ (m r : List UInt8), (∀ b ∈ m, b ≠ c) → partsl c (m ++ c :: r) = m :: partsl c r
  | [], r, _ => by simp [partsl]
  | b :: m, r, h => by
    rw [List.cons_append, partsl, if_neg (h b (by simp)), partsl_hit c m r (fun x hx => h x (by simp [hx]))]
theorem partsl_length (c : UInt8) (l : List UInt8) : (partsl c l).length ≤ l.length + 1 := by
  induction l with
  | nil => simp [partsl]
  | cons b r ih =>
    unfold partsl
    split
    · simp only [List.length_cons]; omega
    · split
      · simp
      · rename_i x xs h
        rw [h] at ih
        simp only [List.length_cons] at ih ⊢
        omega

/-- What has been cut off so far: acc, the rest begins at f, and from f to i no separator stands. -/
structure Cut (c : UInt8) (l : List UInt8) (f i : Nat) (acc : List (List UInt8)) : Prop where
  le : f ≤ i
  le' : i ≤ l.length
  all : acc ++ partsl c (l.drop f) = partsl c l
  none : ∀ b ∈ (l.drop f).take (i - f), b ≠ c
  few : acc.length ≤ f

theorem Cut.start (c : UInt8) (l : List UInt8) : Cut c l 0 0 [] := ⟨Nat.le_refl _, Nat.zero_le _, by simp, by simp, by simp⟩
theorem cut_take (l : List UInt8) (f i : Nat) (h1 : f ≤ i) (h2 : i < l.length) : (l.drop f).take (i + 1 - f) = (l.drop f).take (i - f) ++ [l[i]] := by
  rw [show i + 1 - f = (i - f) + 1 from by omega, List.take_succ_eq_append_getElem (by simp; omega)]
  simp [Nat.add_sub_cancel' h1]
theorem cut_split (l : List UInt8) (f i : Nat) (h1 : f ≤ i) (h2 : i < l.length) : l.drop f = (l.drop f).take (i - f) ++ l[i] :: l.drop (i + 1) := by
  have := (List.take_append_drop (i - f) (l.drop f)).symm
  rw [List.drop_drop, show f + (i - f) = i from by omega, List.drop_eq_getElem_cons h2] at this
  exact this
theorem Cut.miss {c : UInt8} {l : List UInt8} {f i : Nat} {acc : List (List UInt8)} (h : Cut c l f i acc) (hi : i < l.length) (hb : l[i] ≠ c) : Cut c l f (i + 1) acc := by
  refine ⟨by have := h.le; omega, hi, h.all, ?_, h.few⟩
  rw [cut_take l f i h.le hi]
  intro b hb'
  rw [List.mem_append, List.mem_singleton] at hb'
  rcases hb' with h1 | h1
  · exact h.none b h1
  · rw [h1]; exact hb
theorem Cut.hit {c : UInt8} {l : List UInt8} {f i : Nat} {acc : List (List UInt8)} (h : Cut c l f i acc) (hi : i < l.length) (hb : l[i] = c) : Cut c l (i + 1) (i + 1) (acc ++ [(l.drop f).take (i - f)]) := by
  refine ⟨Nat.le_refl _, hi, ?_, by simp, by have := h.few; have := h.le; simp; omega⟩
  have h1 := h.all
  rw [cut_split l f i h.le hi, hb, partsl_hit c _ _ h.none] at h1
  rw [← h1]
  simp
theorem Cut.fin {c : UInt8} {l : List UInt8} {f : Nat} {acc : List (List UInt8)} (h : Cut c l f l.length acc) : acc ++ [(l.drop f).take (l.length - f)] = partsl c l := by
  have h1 := h.all
  have e : (l.drop f).take (l.length - f) = l.drop f := List.take_of_length_le (by simp)
  have h2 := h.none
  rw [e] at h2 ⊢
  rw [partsl_none c _ h2] at h1
  exact h1
theorem sv_extract (s : ByteArray) (f i : Nat) : Value.string (s.extract f i) = sv ((s.data.toList.drop f).take (i - f)) := by
  rw [← sv_data (s.extract f i), Lib.extract_data]

theorem u8_of (b : Int) (h : (Lit.int .u8 b).wf = true) : ∃ c : UInt8, b = (c.toNat : Int) := by
  have hx : 0 ≤ b ∧ b ≤ 255 := by simpa [Lit.wf, IntKind.min, IntKind.max, IntKind.signed, IntKind.bits] using h
  refine ⟨UInt8.ofNat b.toNat, ?_⟩
  rw [UInt8.toNat_ofNat_of_lt' (by show b.toNat < 256; omega)]
  omega

end Go.Proofs.Ythihjelcakenpaa
