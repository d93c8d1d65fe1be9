/-
  Chapter 6: the tokens of a filter (the model's FilterTokens).
-/
import Derived.Test.YthihjelcakenpaaFilK
import Derived.Test.YthihjelcakenpaaGe
import Derived.Deep.DeepCutAuto
import Derived.Deep.Cut
import Derived.Deep.CutRange
import Derived.Deep.LoopGhost
import Derived.Lib.OwnKind
namespace Go.Proofs.Ythihjelcakenpaa
open Go.RowKit

def atT (x : List UInt8) : Tok := ⟨1, x⟩
def opT3 : Tok := ⟨3, []⟩
def clT4 : Tok := ⟨4, []⟩
def evB (ev : Int) (k : Nat) : Bool := bits .and .i64 (ev / (2 ^ k : Nat)) 1 == 1
def evTk (ev : Int) (k : Nat) : List Tok := if evB ev k = true then [atT (evWords.getD k [])] else []
def evTks (ev : Int) (k : Nat) : List Tok := (List.range k).flatMap (evTk ev)
def nmTks (s : Scp) : List Tok := if 3 ≤ s.kind then opT3 :: (s.names.map atT ++ [clT4]) else []
def scTks (s : Scp) : List Tok := opT3 :: atT (scWords.getD s.kind.toNat []) :: (nmTks s ++ (opT3 :: (evTks s.events 4 ++ [clT4, clT4])))
def fTks (f : Flt) : List Tok := if filterB f = true then (if f.on = true then atT [115, 101, 116] :: f.scopes.flatMap scTks else [atT [110, 111, 110, 101]]) else []

theorem own_lower {w : World} {B B' n s : Nat} {e : TypeId} {v : Value} {xs : List Value} (h : w.ownsRow B e s v n xs) (hb : B' ≤ B) : w.ownsRow B' e s v n xs := by
  refine ⟨h.1, ?_⟩
  rcases h.2 with h0 | ⟨g, cap, cur, hv, h1, h2⟩
  · exact .inl h0
  · exact .inr ⟨g, cap, cur, hv, Nat.le_trans hb h1, h2⟩

theorem scope_parts {s : Scp} (h : scopeB s = true) : 1 ≤ s.kind ∧ s.kind ≤ 4 ∧ 1 ≤ s.events ∧ s.events ≤ 15 ∧ s.names.length ≤ 3 := by
  unfold scopeB at h
  simp only [Bool.and_eq_true, decide_eq_true_eq] at h
  obtain ⟨⟨⟨h1, h2⟩, h3, h4⟩, h5⟩ := h
  refine ⟨h1, h2, h3, h4, ?_⟩
  split at h5
  · simp at h5; simp [h5]
  · simp only [Bool.and_eq_true, decide_eq_true_eq] at h5; omega
theorem filter_parts {f : Flt} (h : filterB f = true) : (∀ s ∈ f.scopes, scopeB s = true) ∧ f.scopes.length ≤ 3 := by
  unfold filterB at h
  simp only [Bool.and_eq_true, List.all_eq_true] at h
  refine ⟨h.1, ?_⟩
  have h2 := h.2
  split at h2
  · simp only [Bool.and_eq_true, decide_eq_true_eq] at h2; omega
  · simp at h2; simp [h2]
theorem evTks_len (ev : Int) : ∀ k, (evTks ev k).length ≤ k
  | 0 => by simp [evTks]
  | k + 1 => by
    have ih := evTks_len ev k
    unfold evTks at *
    rw [List.range_succ, List.flatMap_append, List.length_append]
    have : (List.flatMap (evTk ev) [k]).length ≤ 1 := by simp only [List.flatMap_cons, List.flatMap_nil, List.append_nil]; unfold evTk; split <;> simp
    omega
theorem scTks_len {s : Scp} (h : scopeB s = true) : (scTks s).length ≤ 14 := by
  have h1 := (scope_parts h).2.2.2.2
  have h2 := evTks_len s.events 4
  have h3 : (nmTks s).length ≤ 5 := by unfold nmTks; split <;> simp <;> omega
  unfold scTks
  simp only [List.length_cons, List.length_append, List.length_nil]
  omega
theorem scTks_take {l : List Scp} (h : ∀ s ∈ l, scopeB s = true) (k : Nat) : ((l.take k).flatMap scTks).length ≤ 14 * k := by
  induction k with
  | zero => simp
  | succ k ih =>
    by_cases hlt : k < l.length
    · obtain ⟨s, hs⟩ : ∃ s, l[k]? = some s := ⟨_, List.getElem?_eq_getElem hlt⟩
      rw [take_sc hs, List.flatMap_append, List.length_append]
      have := scTks_len (h s (List.mem_of_getElem? hs))
      simp only [List.flatMap_cons, List.flatMap_nil, List.append_nil]
      omega
    · rw [List.take_of_length_le (by omega)]
      rw [List.take_of_length_le (by omega)] at ih
      omega

end Go.Proofs.Ythihjelcakenpaa
