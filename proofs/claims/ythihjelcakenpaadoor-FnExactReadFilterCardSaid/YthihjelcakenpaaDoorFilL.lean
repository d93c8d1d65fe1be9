/-
  Chapter 6: the tokens of a filter (the model's FilterTokens).
-/
import Derived.Test.YthihjelcakenpaaDoorFilK
import Derived.Test.YthihjelcakenpaaDoorGe
import Derived.Deep.DeepCutAuto
import Derived.Deep.Cut
import Derived.Deep.CutRange
import Derived.Deep.LoopGhost
import Derived.Lib.OwnKind
namespace Go.Proofs.YthihjelcakenpaaDoor
open Go.RowKit

def atT (x : List UInt8) : Tok := ⟨1, x⟩
def opT3 : Tok := ⟨3, []⟩
def clT4 : Tok := ⟨4, []⟩
def evB (ev : Int) (k : Nat) : Bool := bits .and .i64 (ev / (2 ^ k : Nat)) 1 == 1
def evTk (ev : Int) (k : Nat) : List Tok := if evB ev k = true then [atT (evWords.getD k [])] else []
def evTks (ev : Int) (k : Nat) : List Tok := (List.range k).flatMap (evTk ev)
def nmTks (s : Scp) : List Tok := if 3 ≤ s.kind then opT3 :: (s.names.map atT ++ [clT4]) else []
def scTks (s : Scp) : List Tok := opT3 :: atT (scWords.getD s.kind.toNat []) :: (nmTks s ++ (opT3 :: (evTks s.events 4 ++ [clT4, clT4])))
def fTks (f : Flt) : List Tok := if filterB f = true then (if f.on = true then atT [115, 101, 116] :: f.scopes.flatMap scTks else [atT [110, 111, 110, 101]]) else []

theorem own_lower {w : World} {B B' n s : Nat} {e : TypeId} {v : Value} {xs : List Value} (h : w.ownsRow B e s v n xs) (hb : B' ≤ B) : w.ownsRow B' e s v n xs := by
  refine ⟨h.1, ?_⟩
  rcases h.2 with h0 | ⟨g, cap, cur, hv, h1, h2⟩
  · exact .inl h0
  · exact .inr ⟨g, cap, cur, hv, Nat.le_trans hb h1, h2⟩

/-- Tokens that the call made, and a block of its own beside them. -/
structure TkB (W0 : World) (c : Nat) (cs : Array Value) (u : Value) (toks : List Tok) (wr : World) : Prop where
  own : wr.ownsRow W0.heap.size 52 2 u toks.length (toks.flatMap tokc)
  below : Below W0.heap.size W0 wr
  blk : wr.heap[c]? = some (.cells cs 55 (0, 0))
theorem TkB.lt {W0 wr : World} {c : Nat} {cs : Array Value} {u : Value} {toks : List Tok} (h : TkB W0 c cs u toks wr) : c < wr.heap.size := (Array.getElem?_eq_some_iff.1 h.blk).1
theorem TkB.call {W0 wr w' : World} {c : Nat} {cs : Array Value} {u : Value} {toks : List Tok} (h : TkB W0 c cs u toks wr) (hb : Below wr.heap.size wr w') : TkB W0 c cs u toks w' :=
  ⟨ownsRow_below h.own hb, h.below.trans (hb.mono h.below.size), (hb.block c h.lt).trans h.blk⟩
theorem TkB.drew {W0 wr : World} {c : Nat} {cs : Array Value} {u : Value} {toks : List Tok} (h : TkB W0 c cs u toks wr) : TkB W0 c cs u toks wr.drew := ⟨h.own.drew, h.below.drew, h.blk⟩

section
variable {P : Program} {w w0 W0 : World} {ops : Array Oper} {rest : List Oper} {o : Oper} {a : Act} {c : Nat} {cs : Array Value} {u : Value} {toks : List Tok}
theorem wp_tks {K : Act → World → Prop} {Q : Exit → Act → World → Prop} (h : TkB W0 c cs u toks w0) (xs : List Tok) (n : Nat) (s x : Operand) (ho : o.op = .call { callee := .builtin .append, args := #[s, x], argTypes := #[28, 28] })
    (hs : a.eval s = u) (cs2 : Array Value) (hw : w = (w0.alloc (.cells cs2 52)).drew ∨ w = w0.alloc (.cells cs2 52)) (hcs : cs2.toList = xs.flatMap tokc) (hx : a.eval x = .slice (some ⟨w0.heap.size, 0, none⟩) n n) (hn : xs.length = n) (hp : 0 < n) (hl : toks.length + n ≤ 1000000)
    (hK : ∀ u' w', TkB W0 c cs u' (toks ++ xs) w' → K (a.put o.dst u') w') : o.wp Tryd.prog a w K Q := by
  have hc2 : cs2.size = n * 2 := by have := congrArg List.length hcs; rw [flat_len2 (enc := tokc) (fun _ => rfl), hn] at this; simpa using this
  refine wp_app1 Tryd.el_tok s x ho W0 w0 u toks.length _ hs h.own h.below h.below.size cs2 hw n n hx hc2 ?_ hp (by omega) (by omega) ?_
  · rw [Array.all_eq_true']
    intro v hv
    have : v ∈ xs.flatMap tokc := by rw [← hcs]; simpa using hv
    obtain ⟨t, _, ht⟩ := List.mem_flatMap.1 this
    have : v = .int .i64 t.kind ∨ v = sv t.text := by simpa [tokc] using ht
    rcases this with rfl | rfl <;> rfl
  · intro g cap w' h1 h2 h3 h4 _
    refine hK _ _ ⟨?_, h2, ?_⟩
    · rw [List.length_append, hn, List.flatMap_append, ← hcs]; exact h1
    · refine (h3.block c h.lt ?_).trans h.blk
      intro e
      obtain ⟨cz, fz, hk⟩ := Lib.ownsRow_kind h.own c e.symm
      rw [h.blk] at hk
      injection hk with hk
      injection hk with _ hk _
      exact absurd hk (by decide)
theorem wpList_tks {Q : Exit → Act → World → Prop} (hgd : o.guard = none) (h : TkB W0 c cs u toks w0) (xs : List Tok) (n : Nat) (s x : Operand) (ho : o.op = .call { callee := .builtin .append, args := #[s, x], argTypes := #[28, 28] })
    (hs : a.eval s = u) (cs2 : Array Value) (hw : w = (w0.alloc (.cells cs2 52)).drew ∨ w = w0.alloc (.cells cs2 52)) (hcs : cs2.toList = xs.flatMap tokc) (hx : a.eval x = .slice (some ⟨w0.heap.size, 0, none⟩) n n) (hn : xs.length = n) (hp : 0 < n) (hl : toks.length + n ≤ 1000000)
    (hK : ∀ u' w', TkB W0 c cs u' (toks ++ xs) w' → wpList Tryd.prog ops Q rest (a.put o.dst u') w') : wpList Tryd.prog ops Q (o :: rest) a w :=
  wpList_plain hgd fun _ hKK => wp_tks h xs n s x ho hs cs2 hw hcs hx hn hp hl fun u' w' h' => hKK _ _ (hK u' w' h')
end

theorem scope_parts {s : Scp} (h : scopeB s = true) : 1 ≤ s.kind ∧ s.kind ≤ 4 ∧ 1 ≤ s.events ∧ s.events ≤ 15 ∧ s.names.length ≤ 3 := by
  unfold scopeB at h
  simp only [Bool.and_eq_true, decide_eq_true_eq] at h
  obtain ⟨⟨⟨h1, h2⟩, h3, h4⟩, h5⟩ := h
  refine ⟨h1, h2, h3, h4, ?_⟩
  split at h5
  · simp at h5; simp [h5]
  · simp only [Bool.and_eq_true, decide_eq_true_eq] at h5; omega
theorem filter_parts {f : Flt} (h : filterB f = true) : (∀ s ∈ f.scopes, scopeB s = true) ∧ f.scopes.length ≤ 3 := by
  unfold filterB at h
  simp only [Bool.and_eq_true, List.all_eq_true] at h
  refine ⟨h.1, ?_⟩
  have h2 := h.2
  split at h2
  · simp only [Bool.and_eq_true, decide_eq_true_eq] at h2; omega
  · simp at h2; simp [h2]
theorem evTks_len (ev : Int) : ∀ k, (evTks ev k).length ≤ k
  | 0 => by simp [evTks]
  | k + 1 => by
    have ih := evTks_len ev k
    unfold evTks at *
    rw [List.range_succ, List.flatMap_append, List.length_append]
    have : (List.flatMap (evTk ev) [k]).length ≤ 1 := by simp only [List.flatMap_cons, List.flatMap_nil, List.append_nil]; unfold evTk; split <;> simp
    omega
theorem scTks_len {s : Scp} (h : scopeB s = true) : (scTks s).length ≤ 14 := by
  have h1 := (scope_parts h).2.2.2.2
  have h2 := evTks_len s.events 4
  have h3 : (nmTks s).length ≤ 5 := by unfold nmTks; split <;> simp <;> omega
  unfold scTks
  simp only [List.length_cons, List.length_append, List.length_nil]
  omega
theorem scTks_take {l : List Scp} (h : ∀ s ∈ l, scopeB s = true) (k : Nat) : ((l.take k).flatMap scTks).length ≤ 14 * k := by
  induction k with
  | zero => simp
  | succ k ih =>
    by_cases hlt : k < l.length
    · obtain ⟨s, hs⟩ : ∃ s, l[k]? = some s := ⟨_, List.getElem?_eq_getElem hlt⟩
      rw [take_sc hs, List.flatMap_append, List.length_append]
      have := scTks_len (h s (List.mem_of_getElem? hs))
      simp only [List.flatMap_cons, List.flatMap_nil, List.append_nil]
      omega
    · rw [List.take_of_length_le (by omega)]
      rw [List.take_of_length_le (by omega)] at ih
      omega

end Go.Proofs.YthihjelcakenpaaDoor
