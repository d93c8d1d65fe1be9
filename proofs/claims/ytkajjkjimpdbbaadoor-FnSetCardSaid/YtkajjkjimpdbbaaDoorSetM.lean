/-
  Plain facts on sets and their texts: a set is read as it was written. No program is read here.
-/
import Derived.Test.YtkajjkjimpdbbaaDoorSetA
import Derived.Test.YtkajjkjimpdbbaaDoorParts
import Derived.Test.YtkajjkjimpdbbaaDoorDigits
import Derived.Lib.Join
namespace Go.Proofs.YtkajjkjimpdbbaaDoor
open Go.RowKit
open Go.Lib (decDigits itoa)

def numT (n : Int) : List UInt8 := if n = 0 then [42] else itoa n
def spnT (s : Spn) : List UInt8 := if s.high = s.low then numT s.low else numT s.low ++ 58 :: numT s.high
def setT (l : List Spn) : List UInt8 := if setB l = true then Lib.join (l.map spnT) [44] else []
def l4n (w : List UInt8) : Int := match numl w with | some n => (n : Int) | none => 0
def wordS (w : List UInt8) : Spn := ⟨l4n ((partsl 58 w).headD []), l4n ((partsl 58 w).getLastD [])⟩
/-- What is read of a text, before it is held against it. -/
def rawS (s : List UInt8) : List Spn := if (partsl 44 s).length ≤ 5 then (partsl 44 s).map wordS else []
def readS (s : List UInt8) : Option (List Spn) := if s = [] ∨ setT (rawS s) ≠ s then none else some (rawS s)

theorem readS_some {s : List UInt8} {l : List Spn} (h : readS s = some l) : setB l = true ∧ setT l = s := by
  unfold readS at h
  split at h
  · cases h
  · rename_i hn
    injection h with h
    subst h
    have hs : ¬ s = [] := fun e => hn (.inl e)
    have ht : setT (rawS s) = s := Decidable.byContradiction fun e => hn (.inr e)
    refine ⟨?_, ht⟩
    cases hb : setB (rawS s) with
    | true => rfl
    | false =>
      unfold setT at ht
      rw [hb] at ht
      exact absurd ht.symm hs

theorem partsl_join (c : UInt8) : ∀ (ws : List (List UInt8)), ws ≠ [] → (∀ w ∈ ws, ∀ b ∈ w, b ≠ c) → partsl c (Lib.join ws [c]) = ws
  | [], h, _ => absurd rfl h
  | [w], _, h => by rw [Lib.join_one]; exact partsl_none c w (h w (by simp))
  | w :: x :: r, _, h => by
    have e : Lib.join (w :: x :: r) [c] = w ++ c :: Lib.join (x :: r) [c] := by
      rw [Lib.join_cons, Lib.join_cons]
      simp [Lib.joinTail]
    rw [e, partsl_hit c w _ (h w (by simp)), partsl_join c (x :: r) (by simp) (fun y hy => h y (by simp [hy]))]

theorem itoa_nat (n : Nat) : itoa (n : Int) = decDigits n := by rw [itoa_cases, if_neg (by omega)]; rfl
theorem num_nat {n : Int} (h : numB n = true) : ∃ k : Nat, n = (k : Int) ∧ k ≤ 999999999 := by
  unfold numB at h
  simp only [Bool.and_eq_true, decide_eq_true_eq] at h
  exact ⟨n.toNat, by omega, by omega⟩
theorem l4n_num {n : Int} (h : numB n = true) : l4n (numT n) = n := by
  obtain ⟨k, rfl, hk⟩ := num_nat h
  unfold numT
  by_cases h0 : (k : Int) = 0
  · rw [if_pos h0, h0]; rfl
  · rw [if_neg h0, itoa_nat]
    have : numl (decDigits k) = some k := by
      unfold numl
      rw [if_pos ⟨(canon_iff _).2 (by rw [(decDigits_facts k).1]), by rw [(decDigits_facts k).1]; exact hk⟩, (decDigits_facts k).1]
    unfold l4n
    rw [this]
theorem numT_bytes {n : Int} (h : numB n = true) : ∀ b ∈ numT n, b ≠ 58 ∧ b ≠ 44 := by
  obtain ⟨k, rfl, hk⟩ := num_nat h
  unfold numT
  by_cases h0 : (k : Int) = 0
  · rw [if_pos h0]
    intro b hb
    rw [List.mem_singleton.1 hb]
    exact ⟨by decide, by decide⟩
  · rw [if_neg h0, itoa_nat]
    intro b hb
    have := List.all_eq_true.1 (decDigits_facts k).2.1 b hb
    unfold isd at this
    simp only [Bool.and_eq_true, decide_eq_true_eq] at this
    constructor
    · rintro rfl; exact absurd this.2 (by decide)
    · rintro rfl; exact absurd this.1 (by decide)
theorem numT_len {n : Int} (h : numB n = true) : 1 ≤ (numT n).length ∧ (numT n).length ≤ 21 := by
  obtain ⟨k, rfl, hk⟩ := num_nat h
  unfold numT
  by_cases h0 : (k : Int) = 0
  · rw [if_pos h0]; simp
  · rw [if_neg h0, itoa_nat]
    have h1 := decDigits_length_le k (by omega)
    have h2 : decDigits k ≠ [] := by
      intro e
      have h3 := (decDigits_facts k).1
      rw [e] at h3
      rw [dv_nil] at h3
      omega
    have := List.length_pos_iff.2 h2
    omega
theorem spnT_bytes {s : Spn} (h : spnB s = true) : ∀ b ∈ spnT s, b ≠ 44 := by
  unfold spnB at h
  simp only [Bool.and_eq_true] at h
  unfold spnT
  split
  · exact fun b hb => (numT_bytes h.1 b hb).2
  · intro b hb
    rcases List.mem_append.1 hb with hb | hb
    · exact (numT_bytes h.1 b hb).2
    · rcases List.mem_cons.1 hb with rfl | hb
      · decide
      · exact (numT_bytes h.2 b hb).2
theorem wordS_spn {s : Spn} (h : spnB s = true) : wordS (spnT s) = s := by
  unfold spnB at h
  simp only [Bool.and_eq_true] at h
  unfold wordS spnT
  by_cases he : s.high = s.low
  · rw [if_pos he, partsl_none 58 _ (fun b hb => (numT_bytes h.1 b hb).1)]
    show (⟨l4n (numT s.low), l4n (numT s.low)⟩ : Spn) = s
    rw [l4n_num h.1]
    cases s
    simp only at he
    rw [he]
  · rw [if_neg he, partsl_hit 58 _ _ (fun b hb => (numT_bytes h.1 b hb).1), partsl_none 58 _ (fun b hb => (numT_bytes h.2 b hb).1)]
    show (⟨l4n (numT s.low), l4n (numT s.high)⟩ : Spn) = s
    rw [l4n_num h.1, l4n_num h.2]
theorem spnT_len {s : Spn} (h : spnB s = true) : 1 ≤ (spnT s).length ∧ (spnT s).length ≤ 43 := by
  unfold spnB at h
  simp only [Bool.and_eq_true] at h
  have h1 := numT_len h.1
  have h2 := numT_len h.2
  unfold spnT
  split
  · omega
  · simp; omega
theorem setB_parts {l : List Spn} (h : setB l = true) : (∀ s ∈ l, spnB s = true) ∧ 1 ≤ l.length ∧ l.length ≤ 5 := by
  unfold setB at h
  simp only [Bool.and_eq_true, decide_eq_true_eq, List.all_eq_true] at h
  exact ⟨h.1, h.2.1, h.2.2⟩
theorem setT_parts {l : List Spn} (h : setB l = true) : partsl 44 (setT l) = l.map spnT := by
  obtain ⟨h1, h2, h3⟩ := setB_parts h
  unfold setT
  rw [if_pos h]
  refine partsl_join 44 _ (by cases l with | nil => simp at h2 | cons a r => simp) ?_
  intro w hw
  obtain ⟨s, hs, rfl⟩ := List.mem_map.1 hw
  exact spnT_bytes (h1 s hs)
theorem rawS_setT {l : List Spn} (h : setB l = true) : rawS (setT l) = l := by
  obtain ⟨h1, h2, h3⟩ := setB_parts h
  unfold rawS
  rw [setT_parts h, if_pos (by simpa using h3), List.map_map]
  conv => rhs; rw [← List.map_id l]
  exact List.map_congr_left fun s hs => wordS_spn (h1 s hs)
theorem setT_ne {l : List Spn} (h : setB l = true) : ¬ setT l = [] := by
  obtain ⟨h1, h2, h3⟩ := setB_parts h
  intro e
  have hp := setT_parts h
  rw [e] at hp
  cases l with
  | nil => simp at h2
  | cons a r =>
    have hp2 : partsl 44 [] = [[]] := partsl_none 44 [] (by simp)
    rw [hp2] at hp
    simp only [List.map_cons, List.cons.injEq] at hp
    have := (spnT_len (h1 a (by simp))).1
    rw [← hp.1] at this
    simp at this
theorem readS_setT {l : List Spn} (h : setB l = true) : readS (setT l) = some l := by
  unfold readS
  rw [rawS_setT h, if_neg]
  rintro (e | e)
  · exact setT_ne h e
  · exact e rfl
/-- The set of a text is the one whose text it is. -/
theorem readS_iff (s : List UInt8) (l : List Spn) : readS s = some l ↔ setB l = true ∧ setT l = s :=
  ⟨readS_some, fun h => by rw [← h.2]; exact readS_setT h.1⟩
theorem readS_none {s : List UInt8} (h : ∀ l, setB l = true → setT l ≠ s) : readS s = none := by
  cases hr : readS s with
  | none => rfl
  | some l => exact absurd (readS_some hr).2 (h l (readS_some hr).1)

end Go.Proofs.YtkajjkjimpdbbaaDoor
