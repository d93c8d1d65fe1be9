/-
  Chapter 6's draws: what the laws FnFilter and FnAdmits draw.
-/
import Derived.Test.YthihjelcakenpaaFilZ
import Derived.Test.YthihjelcakenpaaFilM
import Derived.Test.YthihjelcakenpaaFilP
import Derived.Test.YthihjelcakenpaaGa
import Derived.Test.YthihjelcakenpaaSetF
namespace Go.Proofs.Ythihjelcakenpaa
open Go.RowKit

theorem scWord_len (i : Nat) : (scWords.getD i []).length ≤ 8 := by
  match i with
  | 0 => decide
  | 1 => decide
  | 2 => decide
  | 3 => decide
  | 4 => decide
  | n + 5 => simp [scWords]
theorem evWord_len (i : Nat) : (evWords.getD i []).length ≤ 5 := by
  match i with
  | 0 => decide
  | 1 => decide
  | 2 => decide
  | 3 => decide
  | n + 4 => simp [evWords]
theorem fTks_text {f : Flt} {n : Nat} (hn : 8 ≤ n) (h : ∀ s ∈ f.scopes, ∀ x ∈ s.names, x.length ≤ n) : ∀ t ∈ fTks f, t.text.length ≤ n := by
  intro t ht
  have he : ∀ ev k, ∀ t ∈ evTks ev k, t.text.length ≤ n := by
    intro ev k t ht
    obtain ⟨i, _, hi⟩ := List.mem_flatMap.1 ht
    unfold evTk at hi
    split at hi
    · rw [List.mem_singleton.1 hi]
      have := evWord_len i
      show (evWords.getD i []).length ≤ n
      omega
    · cases hi
  have hsc : ∀ s ∈ f.scopes, ∀ t ∈ scTks s, t.text.length ≤ n := by
    intro s hs t ht
    unfold scTks at ht
    rcases List.mem_cons.1 ht with rfl | ht
    · exact Nat.zero_le _
    rcases List.mem_cons.1 ht with rfl | ht
    · have := scWord_len s.kind.toNat
      show (scWords.getD s.kind.toNat []).length ≤ n
      omega
    rcases List.mem_append.1 ht with ht | ht
    · unfold nmTks at ht
      split at ht
      · rcases List.mem_cons.1 ht with rfl | ht
        · exact Nat.zero_le _
        rcases List.mem_append.1 ht with ht | ht
        · obtain ⟨x, hx, rfl⟩ := List.mem_map.1 ht
          exact h s hs x hx
        · rw [List.mem_singleton.1 ht]; exact Nat.zero_le _
      · cases ht
    rcases List.mem_cons.1 ht with rfl | ht
    · exact Nat.zero_le _
    rcases List.mem_append.1 ht with ht | ht
    · exact he _ _ t ht
    · rcases List.mem_cons.1 ht with rfl | ht
      · exact Nat.zero_le _
      · rw [List.mem_singleton.1 ht]; exact Nat.zero_le _
  unfold fTks at ht
  split at ht
  · split at ht
    · rcases List.mem_cons.1 ht with rfl | ht
      · show 3 ≤ n; omega
      · obtain ⟨s, hs, ht⟩ := List.mem_flatMap.1 ht
        exact hsc s hs t ht
    · rw [List.mem_singleton.1 ht]; show 4 ≤ n; omega
  · cases ht

/-- A filter that a law draws. -/
def FltMade (w : World) (e : Ending) (w' : World) : Prop :=
  ∃ (f : Flt) (vs : Value) (fp : List Nat), e = .returned (.agg #[.bool f.on, vs]) ∧ f.scopes.length ≤ 4 ∧ (∀ s ∈ f.scopes, ScB 3 s) ∧ Tree w' w.heap.size (scpsLf f.scopes) vs fp ∧ Below w.heap.size w w'

/-- Tokens that a law draws. -/
def TksMade (w : World) (e : Ending) (w' : World) : Prop := ∃ (v : Value) (l : List Tok), e = .returned v ∧ Rd 2 tokc w' v l ∧ CapOk v ∧ l.length ≤ 100 ∧ (∀ t ∈ l, t.text.length ≤ 60) ∧ Below w.heap.size w w'

theorem flat_set {l : List Tok} {k : Nat} {t : Tok} (h : l[k]? = some t) (y : List UInt8) : (l.flatMap tokc).set (k * 2 + 1) (sv y) = (l.set k ⟨t.kind, y⟩).flatMap tokc := by
  induction l generalizing k with
  | nil => simp at h
  | cons a l ih =>
    cases k with
    | zero =>
      simp only [List.getElem?_cons_zero, Option.some.injEq] at h
      subst h
      rfl
    | succ k =>
      simp only [List.getElem?_cons_succ] at h
      rw [List.flatMap_cons, List.set_cons_succ, List.flatMap_cons, ← ih h, List.set_append_right _ _ (by simp [tokc]; omega)]
      congr 1
      simp [tokc, show (k + 1) * 2 + 1 - 2 = k * 2 + 1 by omega]

theorem own_cap {W : World} {B c n m : Nat} {e : TypeId} {p : Option Addr} {xs : List Value} (h : W.ownsRow B e m (.slice p n c) n xs) : n ≤ c := by
  rcases h.2 with ⟨hv, h0⟩ | ⟨b, cap, cur, hv, _, _, hcap, _⟩
  · omega
  · injection hv with _ _ hc; omega
theorem own_take {W : World} {B c k m : Nat} {e : TypeId} {p : Option Addr} {α : Type} {enc : α → List Value} {L : List α} (hm : ∀ x, (enc x).length = m) (h : W.ownsRow B e m (.slice p L.length c) L.length (L.flatMap enc)) (hk : k ≤ L.length) : Rd m enc W (.slice p k c) (L.take k) := by
  rcases h.2 with ⟨hv, h0⟩ | ⟨b, cap, cur, hv, _, _, hcap, _⟩
  · injection hv with hp _ hc
    subst hp hc
    obtain rfl : L = [] := List.eq_nil_of_length_eq_zero h0
    obtain rfl : k = 0 := by simp at hk; exact hk
    exact ⟨none, 0, rfl, .inl rfl⟩
  · injection hv with hp _ hc
    subst hp hc
    exact (Rd.of_own hm rfl h).takeS hk c
theorem own_drop {W : World} {B c k m : Nat} {e : TypeId} {p : Option Addr} {α : Type} {enc : α → List Value} {L : List α} (hm : ∀ x, (enc x).length = m) (h : W.ownsRow B e m (.slice p L.length c) L.length (L.flatMap enc)) (_hk : k ≤ L.length) :
    Rd m enc W (.slice (if c = k then p else Option.map (fun x => x.add (k * m)) p) (L.length - k) (c - k)) (L.drop k) := by
  have hcap := own_cap h
  by_cases hc : c = k
  · rw [if_pos hc]
    exact ⟨p, c - k, by rw [List.length_drop], .inl (List.drop_of_length_le (by omega))⟩
  · rw [if_neg hc]
    rcases h.2 with ⟨hv, h0⟩ | ⟨b, cap, cur, hv, _, _, hcap, _⟩
    · injection hv with hp _ hcc
      subst hp hcc
      obtain rfl : L = [] := List.eq_nil_of_length_eq_zero h0
      exact ⟨none, 0 - k, by simp, .inl (by simp)⟩
    · injection hv with hp _ hcc
      subst hp hcc
      simp only [Option.map_some, Addr.add_lit]
      exact (Rd.of_own hm rfl h).dropS (k := k) (c - k)

end Go.Proofs.Ythihjelcakenpaa
