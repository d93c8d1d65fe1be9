/-
  Us: Law LawN LawL LgO OpMsg OpCommit OpBox OpStore LawS (what the claim needs of them).
-/
import Derived.Test.YtbfgdbpfecffcaaRows
import Derived.ProofKit
import Derived.WalkKit
import Derived.WalkSpells
import Derived.WalkLawsBesides
import Derived.Laws.IdiomStrings
import Derived.Lib.Hide
import Derived.Deep.AppendLies
import Derived.OrdersHeld
import Derived.Lib.ItoaNum
import Derived.Lib.ItoaMem
import Derived.Lib.AppendStr
import Derived.Lib.ItoaLen
import Derived.Lib.Strings
import Derived.Lib.Bytealg
import Derived.Lib.OthersKept
import Derived.Laws.RangeAny
import Derived.Laws.BitsAllLaws
import Derived.Laws.BitsLemmas
import Derived.IntWalk
import Derived.Deep.Strs
import Derived.Test.YtbfgdbpfecffcaaProg
import Derived.Lib.SmallJoins
import Derived.Deep.SlicePairs
import Derived.Handy
import Derived.Lib.Join
import Derived.Test.YtbfgdbpfecffcaaUa
import Derived.Test.YtbfgdbpfecffcaaUb
import Derived.Test.YtbfgdbpfecffcaaUc
import Derived.Test.YtbfgdbpfecffcaaUd
import Derived.Test.YtbfgdbpfecffcaaUm

namespace Go.Proofs.Ytbfgdbpfecffcaa
open Go.ChangeShapes Go.WideShapes Go.ChangeAt Go.RowKit

theorem Try.own : ownKnob Try.prog.godebug = none := by kernel_rfl
theorem Try.laidOut : laidOutB Try.prog = true := by kernel_rfl

section
variable {H : Type} {enc : TypeId × Value → H} {P : Program}

theorem trodAll_below (hl : laidOutB P = true) {W W' : World} (hb : Below W.heap.size W W') : ∀ (ts : List TypeId) (vs : List Value) (ds : List (DataW H)) (ps : List MemPlace),
    (∀ t ∈ ts, P.readableRec t = true ∧ t < P.types.size) → (∀ x ∈ ps, x.block < W.heap.size) → DataW.TrodAll enc P W 0 (fun _ => true) true ts vs ds ps →
    DataW.TrodAll enc P W' 0 (fun b => decide (b < W.heap.size)) true ts vs ds ps
  | [], [], [], ps, _, _, h => h
  | t :: ts, v :: vs, d :: ds, ps, ht, hlt, h => by
    obtain ⟨p, q, h1, h2, rfl⟩ := h
    exact ⟨p, q, Below.trod hl (ht t (by simp)).1 (ht t (by simp)).2 h1 hb (fun x hx => hlt x (by simp [hx])),
      trodAll_below hl hb ts vs ds q (fun t' h' => ht t' (by simp [h'])) (fun x hx => hlt x (by simp [hx])) h2, rfl⟩

/-- The end of a law: true came back, the old memory is as it was: so the arguments read as they did. -/
theorem law_post {f : Func} {s : ChangeSpec} {W W' : World} {args : Array Value} {ds gs : List (DataW H)} {before : List MemPlace} {tb : TypeId}
    (hl : laidOutB P = true) (htb : P.underlying tb = some .bool) (hr : f.resultTypes = #[tb]) (hts : ∀ t ∈ f.params.toList, P.readableRec t = true ∧ t < P.types.size)
    (hv : s.vars = []) (hsr : (s.fn H (ds ++ gs)).results = [.lit (.bool true)]) (hsa : (s.fn H (ds ++ gs)).args = ds) (hsv : (s.fn H (ds ++ gs)).vars = [])
    (hW : DataW.Whole enc P f.params.toList s.vars false W args.toList ds gs before) (hb : Below W.heap.size W W') :
    s.post enc P f false true false false W args (.bool true) W' := by
  have hW' := hW
  have hlt := fun p hp => hW.lt p hp
  obtain ⟨p, q, hA, hV, rfl, _, _⟩ := hW
  rw [hv] at hV
  obtain ⟨rfl, rfl⟩ := trodVars_none hV
  refine ⟨ds, [], p ++ [], [], p, [], hW', ?_, ?_, ?_, hb.frame _, fun h => by cases h⟩
  · rw [hsr, hr]
    exact trodAll_mk1 (shut_bool htb true)
  · rw [hsa]
    exact trodAll_below hl hb _ _ _ _ hts (fun x hx => hlt x (by simpa using hx)) hA
  · rw [hsv, hv]
    rfl
end

end Go.Proofs.Ytbfgdbpfecffcaa

namespace Go.Proofs.Ytbfgdbpfecffcaa
open Go.RowKit

theorem in64_of {n : Int} (h : (Lit.int .i64 n).wf = true) : in64 n := by
  simpa [in64, Lit.wf, IntKind.min, IntKind.max, IntKind.signed, IntKind.bits] using h

end Go.Proofs.Ytbfgdbpfecffcaa

namespace Go.Proofs.Ytbfgdbpfecffcaa
open Go.ChangeShapes Go.WideShapes Go.ChangeAt Go.RowKit Go.Deep Go.Joins

/-- The shape of one cell. -/
inductive Sh where
  | int
  | bool
  | str
  | rows (e : TypeId) (m : Nat) (fs : List Sh)

mutual
def LfIs : Sh → Lf → Prop
  | .int, x => ∃ n, x = .int n ∧ in64 n
  | .bool, x => ∃ b, x = .bool b
  | .str, x => ∃ l, x = .str l ∧ l.length ≤ 9223372036854775807
  | .rows e m fs, x => ∃ els : List (List Lf), x = .rows e m els.length els.flatten ∧ els.length ≤ 9223372036854775807 ∧ ∀ y ∈ els, LsIs fs y
def LsIs : List Sh → List Lf → Prop
  | [], xs => xs = []
  | s :: ss, xs => ∃ y ys, xs = y :: ys ∧ LfIs s y ∧ LsIs ss ys
end
theorem LsIs.length : ∀ {ss : List Sh} {xs : List Lf}, LsIs ss xs → xs.length = ss.length
  | [], _, h => by rw [h]; rfl
  | _ :: ss, _, h => by obtain ⟨y, ys, rfl, _, h2⟩ := h; simp [LsIs.length h2]
theorem LsIs.append : ∀ {a b : List Sh} {xs ys : List Lf}, LsIs a xs → LsIs b ys → LsIs (a ++ b) (xs ++ ys)
  | [], b, xs, ys, h1, h2 => by rw [h1]; exact h2
  | s :: a, b, xs, ys, h1, h2 => by
    obtain ⟨y, zs, rfl, h3, h4⟩ := h1
    exact ⟨y, zs ++ ys, rfl, h3, LsIs.append h4 h2⟩

def shFields (P : Program) (g : TypeId → Option (List Sh)) : Nat → List Field → Option (List Sh)
  | _, [] => some []
  | acc, f :: r => (g f.type).bind fun s => if f.offset = acc ∧ P.cellsOf f.type = s.length then (shFields P g (acc + s.length) r).map fun ss => s ++ ss else none
/-- The shape of a type's cells, off the program's tables. -/
def shOf (P : Program) : Nat → TypeId → Option (List Sh)
  | 0, _ => none
  | n + 1, t => match P.underlying t with
    | some .bool => some [.bool]
    | some (.int .i64) => some [.int]
    | some .string => some [.str]
    | some (.slice e) => (shOf P n e).bind fun fs => if 0 < fs.length ∧ P.cellsOf e = fs.length then some [.rows e fs.length fs] else none
    | some (.struct fds) => (shFields P (shOf P n) 0 fds.toList).bind fun fs => if P.cellsOf t = fs.length then some fs else none
    | _ => none

theorem lsRd_flat {W : World} {L : Nat → List Lf} {C : Nat → List Value} : ∀ (k : Nat), (∀ i, i < k → LsRd W (L i) (C i)) → LsRd W ((List.range k).flatMap L) ((List.range k).flatMap C)
  | 0, _ => rfl
  | k + 1, h => by
    rw [List.range_succ, List.flatMap_append, List.flatMap_append]
    exact LsRd.append.2 ⟨_, _, rfl, lsRd_flat k (fun i hi => h i (by omega)), by simpa using h k (by omega)⟩
theorem flat_len_at {C : Nat → List Value} {m : Nat} : ∀ (k : Nat), (∀ i, i < k → (C i).length = m) → ((List.range k).flatMap C).length = k * m
  | 0, _ => by simp
  | k + 1, h => by rw [List.range_succ, List.flatMap_append, List.length_append, flat_len_at k (fun i hi => h i (by omega))]; simp [h k (by omega), Nat.succ_mul]
theorem flat_get {C : Nat → List Value} {m : Nat} (hm : 0 < m) : ∀ (k : Nat), (∀ i, i < k → (C i).length = m) → ∀ (j : Nat) (u : Value), ((List.range k).flatMap C)[j]? = some u → j / m < k ∧ (C (j / m))[j % m]? = some u
  | 0, _, j, u, h => by simp at h
  | k + 1, hC, j, u, h => by
    have hl := flat_len_at k (fun i hi => hC i (by omega))
    rw [List.range_succ, List.flatMap_append] at h
    by_cases hj : j < k * m
    · rw [List.getElem?_append_left (by rw [hl]; exact hj)] at h
      have := flat_get hm k (fun i hi => hC i (by omega)) j u h
      exact ⟨by omega, this.2⟩
    · rw [List.getElem?_append_right (by rw [hl]; omega), hl] at h
      simp only [List.flatMap_cons, List.flatMap_nil, List.append_nil] at h
      have hlt : j - k * m < m := by have h9 := (List.getElem?_eq_some_iff.1 h).1; rwa [hC k (by omega)] at h9
      obtain ⟨r, hr⟩ : ∃ r, j = m * k + r := ⟨j - k * m, by rw [Nat.mul_comm]; omega⟩
      have hrj : j - k * m = r := by rw [hr, Nat.mul_comm]; omega
      rw [hrj] at h hlt
      have e1 : j / m = k := by rw [hr, Nat.mul_add_div hm, Nat.div_eq_of_lt hlt]; omega
      have e2 : j % m = r := by rw [hr, Nat.mul_add_mod, Nat.mod_eq_of_lt hlt]
      rw [e1, e2]
      exact ⟨by omega, h⟩

section
variable {H : Type} {enc : TypeId × Value → H} {P : Program} {W : World}

theorem trod_fields (n : Nat) (ih : ∀ t shs, shOf P n t = some shs → ∀ fuel cs x, DataW.trod enc P W 0 (fun _ => true) true fuel t cs = some x → ∃ ls, LsRd W ls cs ∧ LsIs shs ls) (k : Nat) (cs : List Value) :
    ∀ (fds : List Field) (acc : Nat) (shs : List Sh), shFields P (shOf P n) acc fds = some shs → (∀ f ∈ fds, ∃ x, DataW.trod enc P W 0 (fun _ => true) true k f.type ((cs.drop f.offset).take (P.cellsOf f.type)) = some x) → cs.length = acc + shs.length →
      ∃ ls, LsRd W ls (cs.drop acc) ∧ LsIs shs ls
  | [], acc, shs, h, _, hl => by
    simp only [shFields, Option.some.injEq] at h
    subst h
    exact ⟨[], List.drop_of_length_le (by simp at hl; omega), rfl⟩
  | f :: r, acc, shs, h, ht, hl => by
    simp only [shFields, Option.bind_eq_some_iff] at h
    obtain ⟨s, h1, h2⟩ := h
    split at h2
    · rename_i hc
      simp only [Option.map_eq_some_iff] at h2
      obtain ⟨ss, h3, rfl⟩ := h2
      obtain ⟨x, hx⟩ := ht f (by simp)
      obtain ⟨l1, r1, i1⟩ := ih _ _ h1 _ _ _ hx
      obtain ⟨l2, r2, i2⟩ := trod_fields n ih k cs r (acc + s.length) ss h3 (fun g hg => ht g (by simp [hg])) (by simp at hl; omega)
      refine ⟨l1 ++ l2, ?_, i1.append i2⟩
      rw [hc.1, hc.2] at r1
      have : cs.drop acc = (cs.drop acc).take s.length ++ cs.drop (acc + s.length) := by
        rw [← List.drop_drop, List.take_append_drop]
      rw [this]
      exact LsRd.append.2 ⟨_, _, rfl, r1, r2⟩
    · cases h2

theorem trod_leaves : ∀ (n : Nat) (t : TypeId) (shs : List Sh), shOf P n t = some shs → ∀ fuel cs x, DataW.trod enc P W 0 (fun _ => true) true fuel t cs = some x → ∃ ls, LsRd W ls cs ∧ LsIs shs ls
  | 0, t, shs, h, _, _, _, _ => by simp [shOf] at h
  | n + 1, t, shs, h, fuel, cs, x, hx => by
    unfold shOf at h
    split at h
    · rename_i ht
      injection h with h
      subst h
      obtain ⟨b, rfl, _⟩ := DataW.trod_bool ht hx
      exact ⟨[.bool b], ⟨_, _, rfl, rfl, rfl⟩, ⟨_, _, rfl, ⟨b, rfl⟩, rfl⟩⟩
    · rename_i ht
      injection h with h
      subst h
      obtain ⟨k, rfl, _, hw⟩ := DataW.trod_int ht hx
      exact ⟨[.int k], ⟨_, _, rfl, rfl, rfl⟩, ⟨_, _, rfl, ⟨k, rfl, in64_of hw⟩, rfl⟩⟩
    · rename_i ht
      injection h with h
      subst h
      obtain ⟨s, rfl, _, hz⟩ := DataW.trod_string ht hx
      exact ⟨[.str s.data.toList], ⟨_, _, rfl, (sv_data s).symm, rfl⟩, ⟨_, _, rfl, ⟨_, rfl, by unfold maxLen at hz; simpa using hz⟩, rfl⟩⟩
    · rename_i e ht
      simp only [Option.bind_eq_some_iff] at h
      obtain ⟨fs, h1, h2⟩ := h
      split at h2
      · rename_i hc
        injection h2 with h2
        subst h2
        rcases open_slice ht hx with ⟨rfl, _⟩ | ⟨a, len, cap, m, k, D, Pl, rfl, _, hl, hm, hmm, _, hel⟩
        · exact ⟨[.rows e fs.length 0 []], ⟨_, _, rfl, ⟨by simp, none, 0, rfl, .inl rfl⟩, rfl⟩, ⟨_, _, rfl, ⟨[], rfl, by simp, by simp⟩, rfl⟩⟩
        · simp only [if_true] at hmm
          obtain rfl : cap = m := hmm.symm
          have hk : ∀ i, i < len → ∃ q : List Lf × List Value, W.cells? 0 (a.add (i * P.cellsOf e)) (P.cellsOf e) = some q.2 ∧ LsRd W q.1 q.2 ∧ LsIs fs q.1 := by
            intro i hi
            obtain ⟨cs', c1, c2⟩ := hel i (by omega)
            obtain ⟨ls, r1, r2⟩ := trod_leaves n e fs h1 _ _ _ c2
            exact ⟨(ls, cs'), c1, r1, r2⟩
          haveI : Inhabited (List Lf × List Value) := ⟨([], [])⟩
          obtain ⟨q, hq⟩ := choose_lt hk
          refine ⟨[.rows e fs.length len ((List.range len).flatMap fun i => (q i).1)], ⟨_, _, rfl, ?_, rfl⟩, ⟨_, _, rfl, ⟨(List.range len).map fun i => (q i).1, ?_, ?_, ?_⟩, rfl⟩⟩
          · have hlen : ∀ i, i < len → ((q i).2).length = fs.length := fun i hi => by rw [← hc.2]; exact (World.cells?_some (hq i hi).1).2.1
            have hfl : ((List.range len).flatMap fun i => (q i).1).length = len * fs.length := by
              have h1 := LsRd.length (lsRd_flat (W := W) (L := fun i => (q i).1) (C := fun i => (q i).2) len (fun i hi => (hq i hi).2.1))
              rw [← h1]
              exact flat_len_at len hlen
            refine ⟨hfl, some a, cap, rfl, ?_⟩
            by_cases h0 : len = 0
            · exact .inl h0
            · right
              have hc0 := (World.cells?_some (hq 0 (by omega)).1).2.2 0 (by rw [hc.2]; exact hc.1)
              rw [Nat.zero_mul] at hc0
              have hex : ∃ u, ((q 0).2)[0]? = some u := ⟨_, List.getElem?_eq_getElem (by rw [hlen 0 (by omega)]; exact hc.1)⟩
              obtain ⟨u0, hu0⟩ := hex
              rw [hu0] at hc0
              obtain ⟨b, off, spot⟩ := a
              have hsp : spot = none := by simpa [Addr.add] using World.cell?_spot hc0
              subst hsp
              rw [Addr.add_lit, Addr.add_lit] at hc0
              refine ⟨b, off, rfl, World.block_lt_of_cell? W _ hc0, (List.range len).flatMap fun i => (q i).2, fun j u hu => ?_, lsRd_flat (W := W) (L := fun i => (q i).1) (C := fun i => (q i).2) len (fun i hi => (hq i hi).2.1)⟩
              obtain ⟨g1, g2⟩ := flat_get (C := fun i => (q i).2) hc.1 len hlen j u hu
              have hz := (World.cells?_some (hq _ g1).1).2.2 (j % fs.length) (by rw [hc.2]; exact Nat.mod_lt _ hc.1)
              rw [Addr.add_lit, Addr.add_lit, hc.2, g2] at hz
              have hdm := Nat.div_add_mod j fs.length
              rw [Nat.mul_comm] at hdm
              rwa [show off + j / fs.length * fs.length + j % fs.length = off + j by omega] at hz
          · simp [List.flatMap]
          · simp; unfold maxLen at hm; omega
          · intro y hy
            obtain ⟨i, hi, rfl⟩ := List.mem_map.1 hy
            exact (hq i (by simpa using hi)).2.2
      · cases h2
    · rename_i fds ht
      simp only [Option.bind_eq_some_iff] at h
      obtain ⟨fs, h1, h2⟩ := h
      split at h2
      · rename_i hc
        injection h2 with h2
        subst h2
        obtain ⟨xs, k, _, _, hlen, hxl, hf⟩ := DataW.trod_struct ht hx
        have := trod_fields n (fun t shs h => trod_leaves n t shs h) k cs fds.toList 0 fs h1 (fun f hfm => by
          obtain ⟨i, hi, he⟩ := List.getElem_of_mem hfm
          have hi2 : i < xs.length := by rw [hxl]; simpa using hi
          exact ⟨xs[i], (hf i f (by rw [← he]; simp)).trans (List.getElem?_eq_getElem hi2)⟩) (by rw [hlen, hc]; simp)
        simpa using this
      · cases h2
    · cases h

/-- What came in as t reads as leaves of its shape: a struct's value is its cells. -/
theorem open_leaves {t : TypeId} {v : Value} {d : DataW H} {ps : List MemPlace} (n : Nat) (shs : List Sh) (hs : shOf P n t = some shs) (h : DataW.Trod enc P W 0 (fun _ => true) true t v d ps) :
    ∃ ls, LsRd W ls v.cells.toList ∧ LsIs shs ls := by
  obtain ⟨fuel, hf⟩ := h
  exact trod_leaves n t shs hs fuel _ _ hf
end

end Go.Proofs.Ytbfgdbpfecffcaa

namespace Go.Proofs.Ytbfgdbpfecffcaa
open Go.ChangeShapes Go.WideShapes Go.ChangeAt Go.RowKit Go.Deep Go.Joins

mutual
/-- The same leaf, but for the types of rows' elements. -/
def LfSame : Lf → Lf → Prop
  | .int a, .int b => a = b
  | .bool a, .bool b => a = b
  | .str a, .str b => a = b
  | .rows _ m n fl, .rows _ m' n' fl' => m = m' ∧ n = n' ∧ LsSame fl fl'
  | _, _ => False
def LsSame : List Lf → List Lf → Prop
  | [], [] => True
  | x :: xs, y :: ys => LfSame x y ∧ LsSame xs ys
  | _, _ => False
end
theorem LsSame.append : ∀ {a b c d : List Lf}, LsSame a b → LsSame c d → LsSame (a ++ c) (b ++ d)
  | [], [], _, _, _, h => h
  | _ :: _, _ :: _, _, _, h, h2 => ⟨h.1, LsSame.append h.2 h2⟩
  | [], _ :: _, _, _, h, _ => h.elim
  | _ :: _, [], _, _, h, _ => h.elim
theorem LsSame.length : ∀ {a b : List Lf}, LsSame a b → a.length = b.length
  | [], [], _ => rfl
  | _ :: _, _ :: _, h => by simp [LsSame.length h.2]
  | [], _ :: _, h => h.elim
  | _ :: _, [], h => h.elim
mutual
theorem LfRd.same {W : World} : ∀ {x y : Lf} {v : Value}, LfSame x y → LfRd W x v → LfRd W y v
  | .int a, .int b, v, h, hr => by rw [show b = a from h.symm]; exact hr
  | .bool a, .bool b, v, h, hr => by rw [show b = a from h.symm]; exact hr
  | .str a, .str b, v, h, hr => by rw [show b = a from h.symm]; exact hr
  | .rows _ m n fl, .rows _ m' n' fl', v, h, hr => by
    obtain ⟨rfl, rfl, hs⟩ := h
    obtain ⟨hl, p, cap, hv, hc⟩ := hr
    exact ⟨by rw [← hs.length]; exact hl, p, cap, hv, hc.imp id fun ⟨b, off, hp, hlt, xs, h1, h2⟩ => ⟨b, off, hp, hlt, xs, h1, LsRd.same hs h2⟩⟩
  | .int _, .bool _, _, h, _ => h.elim
  | .int _, .str _, _, h, _ => h.elim
  | .int _, .rows _ _ _ _, _, h, _ => h.elim
  | .bool _, .int _, _, h, _ => h.elim
  | .bool _, .str _, _, h, _ => h.elim
  | .bool _, .rows _ _ _ _, _, h, _ => h.elim
  | .str _, .int _, _, h, _ => h.elim
  | .str _, .bool _, _, h, _ => h.elim
  | .str _, .rows _ _ _ _, _, h, _ => h.elim
  | .rows _ _ _ _, .int _, _, h, _ => h.elim
  | .rows _ _ _ _, .bool _, _, h, _ => h.elim
  | .rows _ _ _ _, .str _, _, h, _ => h.elim
theorem LsRd.same {W : World} : ∀ {xs ys : List Lf} {vs : List Value}, LsSame xs ys → LsRd W xs vs → LsRd W ys vs
  | [], [], _, _, h => h
  | _ :: _, _ :: _, _, hs, h => by
    obtain ⟨v, us, hv, h1, h2⟩ := h
    exact ⟨v, us, hv, LfRd.same hs.1 h1, LsRd.same hs.2 h2⟩
  | [], _ :: _, _, h, _ => h.elim
  | _ :: _, [], _, h, _ => h.elim
end

theorem rows_is {α : Type} {enc : α → List Lf} {sh : List Sh} {e e' : TypeId} {m : Nat} (one : ∀ y, LsIs sh y → ∃ x : α, LsSame y (enc x) ∧ LsBnd (enc x)) {y : Lf} (h : LfIs (.rows e m sh) y) :
    ∃ l : List α, LfSame y (.rows e' m l.length (l.flatMap enc)) ∧ LfBnd (.rows e' m l.length (l.flatMap enc)) := by
  obtain ⟨els, rfl, hl, hel⟩ := h
  have : ∀ els : List (List Lf), (∀ y ∈ els, LsIs sh y) → ∃ l : List α, LsSame els.flatten (l.flatMap enc) ∧ LsBnd (l.flatMap enc) ∧ l.length = els.length := by
    intro els
    induction els with
    | nil => exact fun _ => ⟨[], trivial, trivial, rfl⟩
    | cons a r ih =>
      intro h
      obtain ⟨l, h1, h2, h3⟩ := ih (fun y hy => h y (by simp [hy]))
      obtain ⟨x, h4, h5⟩ := one a (h a (by simp))
      exact ⟨x :: l, by rw [List.flatten_cons, List.flatMap_cons]; exact LsSame.append h4 h1, by rw [List.flatMap_cons]; exact LsBnd.append.2 ⟨h5, h2⟩, by simp [h3]⟩
  obtain ⟨l, h1, h2, h3⟩ := this els hel
  exact ⟨l, ⟨rfl, h3.symm, h1⟩, ⟨by omega, h2⟩⟩

section
variable {H : Type} {enc : TypeId × Value → H} {P : Program} {W : World} {v : Value} {d : DataW H} {ps : List MemPlace} {t : TypeId}
/-- A record: its value is its leaves. -/
theorem open_rec {r : Reach} {b0 n : Nat} {fs : Array Field} {shs : List Sh} (hsh : shOf P n t = some shs) (hs : P.underlying t = some (.struct fs)) (hv : Value.okWide P W r b0 t v) (h : DataW.Trod enc P W 0 (fun _ => true) true t v d ps) :
    ∃ cs ls, v = .agg cs ∧ LsRd W ls cs.toList ∧ LsIs shs ls := by
  obtain ⟨cs, rfl, _⟩ := okWide_struct hs hv
  obtain ⟨ls, h1, h2⟩ := open_leaves n shs hsh h
  exact ⟨cs, ls, rfl, by simpa [Value.cells] using h1, h2⟩
/-- A slice: one leaf. -/
theorem open_row {r : Reach} {b0 n : Nat} {e : TypeId} {sh : Sh} (hsh : shOf P n t = some [sh]) (hs : P.underlying t = some (.slice e)) (hv : Value.okWide P W r b0 t v) (h : DataW.Trod enc P W 0 (fun _ => true) true t v d ps) :
    ∃ y, LfRd W y v ∧ LfIs sh y := by
  obtain ⟨ls, h1, h2⟩ := open_leaves n [sh] hsh h
  obtain ⟨y, r1, rfl, h3, rfl⟩ := h2
  obtain ⟨u, us, h4, h5, _⟩ := h1
  obtain ⟨a, len, cap, rfl⟩ := okWide_slice hs hv
  simp [Value.cells] at h4
  obtain ⟨rfl, rfl⟩ := h4
  exact ⟨y, h5, h3⟩
end

end Go.Proofs.Ytbfgdbpfecffcaa

namespace Go.Proofs.Ytbfgdbpfecffcaa
open Go.ChangeShapes Go.WideShapes Go.ChangeAt Go.RowKit Go.Deep Go.Joins

def msgSh : List Sh := [.int, .int, .str]
theorem MsgD.is {xs : List Lf} (h : LsIs msgSh xs) : ∃ x : MsgD, LsSame xs x.lf ∧ LsBnd x.lf := by
  obtain ⟨a0, s0, rfl, ⟨n0, rfl, b0⟩, a1, s1, rfl, ⟨n1, rfl, b1⟩, a2, s2, rfl, ⟨n2, rfl, b2⟩, rfl⟩ := h
  exact ⟨⟨n0, n1, n2⟩, ⟨rfl, rfl, rfl, trivial⟩, ⟨b0, b1, b2, trivial⟩⟩
theorem MsgD.row_is {y : Lf} (h : LfIs (.rows 76 3 msgSh) y) : ∃ l : List MsgD, LfSame y (msgsLf l) ∧ LfBnd (msgsLf l) := rows_is (fun _ h => MsgD.is h) h

end Go.Proofs.Ytbfgdbpfecffcaa

namespace Go.Proofs.Ytbfgdbpfecffcaa
open Go.ChangeShapes Go.WideShapes Go.ChangeAt Go.RowKit Go.Deep Go.Joins

def commitSh : List Sh := [.int, .int, .int, .int, .str, .str]
theorem ComD.is {xs : List Lf} (h : LsIs commitSh xs) : ∃ x : ComD, LsSame xs x.lf ∧ LsBnd x.lf := by
  obtain ⟨a0, s0, rfl, ⟨n0, rfl, b0⟩, a1, s1, rfl, ⟨n1, rfl, b1⟩, a2, s2, rfl, ⟨n2, rfl, b2⟩, a3, s3, rfl, ⟨n3, rfl, b3⟩, a4, s4, rfl, ⟨n4, rfl, b4⟩, a5, s5, rfl, ⟨n5, rfl, b5⟩, rfl⟩ := h
  exact ⟨⟨n0, n1, n2, n3, n4, n5⟩, ⟨rfl, rfl, rfl, rfl, rfl, rfl, trivial⟩, ⟨b0, b1, b2, b3, b4, b5, trivial⟩⟩
theorem ComD.row_is {y : Lf} (h : LfIs (.rows 58 6 commitSh) y) : ∃ l : List ComD, LfSame y (commitsLf l) ∧ LfBnd (commitsLf l) := rows_is (fun _ h => ComD.is h) h

end Go.Proofs.Ytbfgdbpfecffcaa

namespace Go.Proofs.Ytbfgdbpfecffcaa
open Go.ChangeShapes Go.WideShapes Go.ChangeAt Go.RowKit Go.Deep Go.Joins

def boxSh : List Sh := [.str, .int, .int, .rows 76 3 msgSh]
theorem BoxD.is {xs : List Lf} (h : LsIs boxSh xs) : ∃ x : BoxD, LsSame xs x.lf ∧ LsBnd x.lf := by
  obtain ⟨a0, s0, rfl, ⟨n0, rfl, b0⟩, a1, s1, rfl, ⟨n1, rfl, b1⟩, a2, s2, rfl, ⟨n2, rfl, b2⟩, a3, s3, rfl, h3, rfl⟩ := h
  obtain ⟨n3, e3, b3⟩ := MsgD.row_is h3
  exact ⟨⟨n0, n1, n2, n3⟩, ⟨rfl, rfl, rfl, e3, trivial⟩, ⟨b0, b1, b2, b3, trivial⟩⟩
theorem BoxD.row_is {y : Lf} (h : LfIs (.rows 56 4 boxSh) y) : ∃ l : List BoxD, LfSame y (boxsLf l) ∧ LfBnd (boxsLf l) := rows_is (fun _ h => BoxD.is h) h

end Go.Proofs.Ytbfgdbpfecffcaa

namespace Go.Proofs.Ytbfgdbpfecffcaa
open Go.ChangeShapes Go.WideShapes Go.ChangeAt Go.RowKit Go.Deep Go.Joins

def storeSh : List Sh := [.rows 56 4 boxSh, .rows 58 6 commitSh, .int]
theorem StoD.is {xs : List Lf} (h : LsIs storeSh xs) : ∃ x : StoD, LsSame xs x.lf ∧ LsBnd x.lf := by
  obtain ⟨a0, s0, rfl, h0, a1, s1, rfl, h1, a2, s2, rfl, ⟨n2, rfl, b2⟩, rfl⟩ := h
  obtain ⟨n0, e0, b0⟩ := BoxD.row_is h0
  obtain ⟨n1, e1, b1⟩ := ComD.row_is h1
  exact ⟨⟨n0, n1, n2⟩, ⟨e0, e1, rfl, trivial⟩, ⟨b0, b1, b2, trivial⟩⟩
theorem StoD.row_is {y : Lf} (h : LfIs (.rows 25 3 storeSh) y) : ∃ l : List StoD, LfSame y (storesLf l) ∧ LfBnd (storesLf l) := rows_is (fun _ h => StoD.is h) h

set_option maxRecDepth 100000 in
theorem sh_Store : shOf Try.prog 10 25 = some storeSh := by kernel_rfl

set_option maxRecDepth 100000 in
theorem open_Store {H : Type} {enc : TypeId × Value → H} {W : World} {v : Value} {d : DataW H} {ps : List MemPlace} {r : Reach} {b0 : Nat} (hv : Value.okWide Try.prog W r b0 25 v) (h : DataW.Trod enc Try.prog W 0 (fun _ => true) true 25 v d ps) :
    ∃ (x : StoD) (r0 r1 : Value), v = .agg #[r0, r1, .int .i64 x.given] ∧ LfRd W (boxsLf x.boxes) r0 ∧ LfRd W (commitsLf x.log) r1 ∧ LsBnd x.lf := by
  obtain ⟨cs, ls, rfl, h1, h2⟩ := open_rec sh_Store Try.underlying25 hv h
  obtain ⟨x, h3, h4⟩ := StoD.is h2
  have h5 := LsRd.same h3 h1
  obtain ⟨r0, r1, hc, k0, k1⟩ := StoD.rd.1 h5
  exact ⟨x, r0, r1, by rw [← hc], k0, k1, h4⟩

end Go.Proofs.Ytbfgdbpfecffcaa

namespace Go.Proofs.Ytbfgdbpfecffcaa
open Go.ChangeShapes Go.WideShapes Go.ChangeAt Go.RowKit Go.Deep

section
variable {H : Type} {enc : TypeId × Value → H} {P : Program} {W : World} {base : Nat} {v : Value} {d : DataW H} {ps : List MemPlace} {t e : TypeId}

/-- A []byte that came in. -/
theorem open_bytes_any {r : Reach} {b0 : Nat} (ht : P.underlying t = some (.slice e)) (he : P.underlying e = some (.int .u8)) (hc : P.cellsOf e = 1) (hval : Value.okWide P W r b0 t v) (h : DataW.Trod enc P W 0 (fun _ => true) true t v d ps) :
    ∃ l : List UInt8, Rd1 bv W v l := by
  obtain ⟨a, len, cap, rfl⟩ := okWide_slice ht hval
  obtain ⟨fuel, hf⟩ := h
  rcases open_ints ht he hc hf with ⟨hcs, _⟩ | ⟨a', len', cap', zs, hcs, _, hl, hm, hz, _, hcell, hw⟩
  · simp [Value.cells] at hcs
    obtain ⟨rfl, rfl, rfl⟩ := hcs
    exact ⟨[], Rd1.nil⟩
  · simp [Value.cells] at hcs
    obtain ⟨rfl, rfl, rfl⟩ := hcs
    simp only [if_true] at hz
    have hz2 : len ≤ zs.length := by omega
    have hlen : ((zs.take len).map fun n => UInt8.ofNat n.toNat).length = len := by simp; omega
    refine ⟨(zs.take len).map fun n => UInt8.ofNat n.toNat, ⟨some a', cap, by rw [hlen], ?_⟩⟩
    by_cases h0 : len = 0
    · left; subst h0; simp
    · right
      obtain ⟨b, off, spot⟩ := a'
      have hsp : spot = none := by
        have h2 := World.cell?_spot (hcell 0 (by omega))
        unfold Addr.add at h2
        split at h2
        · exact h2
        · rename_i hn; exact absurd rfl hn
      subst hsp
      have hc0 := hcell 0 (by omega)
      rw [Addr.add_lit] at hc0
      refine ⟨b, off, rfl, World.block_lt_of_cell? W _ hc0, fun i x hx => ?_⟩
      rw [List.getElem?_map] at hx
      have hi : i < len := by
        rcases Nat.lt_or_ge i len with h | h
        · exact h
        · rw [List.getElem?_eq_none (by simp; omega)] at hx; cases hx
      rw [List.getElem?_take_of_lt hi] at hx
      have hiz : i < zs.length := by omega
      rw [List.getElem?_eq_getElem hiz] at hx
      cases hx
      have h1 := hcell i hiz
      rw [Addr.add_lit] at h1
      rw [h1]
      have h2 := hw zs[i] (List.getElem_mem hiz)
      have hx2 : 0 ≤ zs[i] ∧ zs[i] ≤ 255 := by simpa [Lit.wf, IntKind.min, IntKind.max, IntKind.signed, IntKind.bits] using h2
      have e1 : ((UInt8.ofNat zs[i].toNat).toNat : Int) = zs[i] := by rw [UInt8.toNat_ofNat_of_lt' (by show zs[i].toNat < 256; omega)]; omega
      show _ = some (Value.int .u8 ((UInt8.ofNat zs[i].toNat).toNat : Int))
      rw [e1]
      simp [hiz]
/-- The same, and its length is at most its capacity. -/
theorem open_bytes_cap {r : Reach} {b0 : Nat} (ht : P.underlying t = some (.slice e)) (he : P.underlying e = some (.int .u8)) (hc : P.cellsOf e = 1) (hval : Value.okWide P W r b0 t v) (h : DataW.Trod enc P W 0 (fun _ => true) true t v d ps) :
    ∃ l : List UInt8, Rd1 bv W v l ∧ ∀ p n c, v = .slice p n c → n ≤ c := by
  obtain ⟨a, len, cap, rfl⟩ := okWide_slice ht hval
  obtain ⟨fuel, hf⟩ := h
  rcases open_ints ht he hc hf with ⟨hcs, _⟩ | ⟨a', len', cap', zs, hcs, _, hl, hm, hz, _, hcell, hw⟩
  · simp [Value.cells] at hcs
    obtain ⟨rfl, rfl, rfl⟩ := hcs
    exact ⟨[], Rd1.nil, fun p n c h => by injection h with _ h2 h3; omega⟩
  · simp [Value.cells] at hcs
    obtain ⟨rfl, rfl, rfl⟩ := hcs
    simp only [if_true] at hz
    have hz2 : len ≤ zs.length := by omega
    have hlen : ((zs.take len).map fun n => UInt8.ofNat n.toNat).length = len := by simp; omega
    refine ⟨(zs.take len).map fun n => UInt8.ofNat n.toNat, ⟨some a', cap, by rw [hlen], ?_⟩, fun p n c h => by injection h with _ h2 h3; omega⟩
    by_cases h0 : len = 0
    · left; subst h0; simp
    · right
      obtain ⟨b, off, spot⟩ := a'
      have hsp : spot = none := by
        have h2 := World.cell?_spot (hcell 0 (by omega))
        unfold Addr.add at h2
        split at h2
        · exact h2
        · rename_i hn; exact absurd rfl hn
      subst hsp
      have hc0 := hcell 0 (by omega)
      rw [Addr.add_lit] at hc0
      refine ⟨b, off, rfl, World.block_lt_of_cell? W _ hc0, fun i x hx => ?_⟩
      rw [List.getElem?_map] at hx
      have hi : i < len := by
        rcases Nat.lt_or_ge i len with h | h
        · exact h
        · rw [List.getElem?_eq_none (by simp; omega)] at hx; cases hx
      rw [List.getElem?_take_of_lt hi] at hx
      have hiz : i < zs.length := by omega
      rw [List.getElem?_eq_getElem hiz] at hx
      cases hx
      have h1 := hcell i hiz
      rw [Addr.add_lit] at h1
      rw [h1]
      have h2 := hw zs[i] (List.getElem_mem hiz)
      have hx2 : 0 ≤ zs[i] ∧ zs[i] ≤ 255 := by simpa [Lit.wf, IntKind.min, IntKind.max, IntKind.signed, IntKind.bits] using h2
      have e1 : ((UInt8.ofNat zs[i].toNat).toNat : Int) = zs[i] := by rw [UInt8.toNat_ofNat_of_lt' (by show zs[i].toNat < 256; omega)]; omega
      show _ = some (Value.int .u8 ((UInt8.ofNat zs[i].toNat).toNat : Int))
      rw [e1]
      simp [hiz]
end

end Go.Proofs.Ytbfgdbpfecffcaa
