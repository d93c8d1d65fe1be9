/-
  Ss: BoxF BoxH BoxI (what the claim needs of them).
-/
import Derived.Maps.OwnIn
import Derived.Sort.KeysCollected
import Derived.Test.YtbfgdbpfecffcaaGreatDoorRows
import Derived.WalkKit
import Derived.WalkSpells
import Derived.WalkLawsBesides
import Derived.Laws.IdiomStrings
import Derived.Lib.Hide
import Derived.Deep.AppendLies
import Derived.OrdersHeld
import Derived.Lib.ItoaNum
import Derived.Lib.ItoaMem
import Derived.Lib.AppendStr
import Derived.Lib.ItoaLen
import Derived.Lib.Strings
import Derived.Lib.Bytealg
import Derived.Lib.OthersKept
import Derived.Laws.RangeAny
import Derived.Laws.BitsAllLaws
import Derived.Laws.BitsLemmas
import Derived.IntWalk
import Derived.Handy
import Derived.Lib.Join
import Derived.Deep.Strs
import Derived.Test.YtbfgdbpfecffcaaGreatDoorProg
import Derived.RangeFuncNested
import Derived.RangeFuncLeaves
import Derived.RangeFuncWrites
import Derived.OwnWalkIn
import Derived.TacticsInMore
import Derived.LoopNIn
import Derived.LoopIn
import Derived.Shelf.Abstract
import Derived.Maps.OwnSet
import Derived.Test.YtbfgdbpfecffcaaGreatDoorSb
import Derived.Test.YtbfgdbpfecffcaaGreatDoorSc
import Derived.Test.YtbfgdbpfecffcaaGreatDoorSd
import Derived.Test.YtbfgdbpfecffcaaGreatDoorSe
import Derived.Test.YtbfgdbpfecffcaaGreatDoorSf
import Derived.Test.YtbfgdbpfecffcaaGreatDoorSh

namespace Go.Proofs.YtbfgdbpfecffcaaGreatDoor
open Go.RowKit

/-- The map that is filled from the list's end: at each key the place of the first box that bears it. -/
def mapOf (key : BoxD → Lit) : List BoxD → Nat → DataW Unit
  | [], _ => .map []
  | b :: r, i => (mapOf key r (i + 1)).put (key b) (.lit (.int .i64 (i : Int)))
def mapStep (key : BoxD → Lit) (l : List BoxD) (D : DataW Unit) (i : Nat) : DataW Unit :=
  match l[i]? with
  | none => D
  | some b => D.put (key b) (.lit (.int .i64 (i : Int)))
theorem mapOf_fold (key : BoxD → Lit) (l : List BoxD) : ∀ m j : Nat, j + m = l.length → (List.range' j m).reverse.foldl (mapStep key l) (.map []) = mapOf key (l.drop j) j
  | 0, j, h => by
    obtain rfl : j = l.length := by omega
    rw [List.drop_length]
    rfl
  | m + 1, j, h => by
    have hj : j < l.length := by omega
    rw [List.range'_succ, List.reverse_cons, List.foldl_append, mapOf_fold key l m (j + 1) (by omega), List.drop_eq_getElem_cons hj]
    show mapStep key l _ j = _
    unfold mapStep
    rw [List.getElem?_eq_getElem hj]
    rfl
theorem mapOf_isMap (key : BoxD → Lit) : ∀ (l : List BoxD) (i : Nat), Maps.IsMap (mapOf key l i)
  | [], _ => Maps.isMap_empty
  | _ :: r, i => (mapOf_isMap key r (i + 1)).put _ _
theorem mapOf_has {key : BoxD → Lit} (hk : ∀ b, WideAt.IsKeyLit (key b)) (k : Lit) : ∀ (l : List BoxD) (i : Nat), Maps.has (mapOf key l i) k = l.any (fun b => (key b).sameKey k)
  | [], _ => rfl
  | b :: r, i => by
    rw [List.any_cons]
    by_cases h : k = key b
    · subst h
      rw [WideAt.sameKey_self (hk b)]
      exact Maps.has_put_same (mapOf_isMap key r (i + 1)) (hk b) _
    · rw [Maps.sameKey_ne (fun e => h e.symm), Bool.false_or, ← mapOf_has hk k r (i + 1)]
      exact Maps.has_put_other h _
theorem mapOf_at {key : BoxD → Lit} (hk : ∀ b, WideAt.IsKeyLit (key b)) (k : Lit) (z : DataW Unit) : ∀ (l : List BoxD) (i : Nat), l.any (fun b => (key b).sameKey k) = true → (mapOf key l i).atKey k z = .lit (.int .i64 (firstAt (fun b => (key b).sameKey k) l i))
  | [], _, h => by cases h
  | b :: r, i, h => by
    by_cases e : k = key b
    · subst e
      simp only [firstAt, WideAt.sameKey_self (hk b), if_true]
      exact Maps.atKey_put_same (mapOf_isMap key r (i + 1)) (hk b) _ _
    · have hn := Maps.sameKey_ne (fun x => e x.symm : key b ≠ k)
      rw [List.any_cons, hn, Bool.false_or] at h
      simp only [firstAt, hn, Bool.false_eq_true, if_false]
      exact (Maps.atKey_put_other e _ _).trans (mapOf_at hk k z r (i + 1) h)
theorem firstAt_no {α : Type} {p : α → Bool} : ∀ (l : List α) (i : Nat), l.any p = false → firstAt p l i = -1
  | [], _, _ => rfl
  | b :: r, i, h => by
    rw [List.any_cons, Bool.or_eq_false_iff] at h
    simp only [firstAt, h.1, Bool.false_eq_true, if_false]
    exact firstAt_no r (i + 1) h.2

def nKey (b : BoxD) : Lit := .string b.name
def vKey (b : BoxD) : Lit := .int .i64 b.validity
theorem nKey_lit (b : BoxD) : WideAt.IsKeyLit (nKey b) := trivial
theorem vKey_lit (b : BoxD) : WideAt.IsKeyLit (vKey b) := trivial
theorem nKey_same (b : BoxD) (s : List UInt8) : (nKey b).sameKey (.string s) = (b.name == s) := rfl
theorem vKey_same (b : BoxD) (v : Int) : (vKey b).sameKey (.int .i64 v) = (b.validity == v) := by rw [Bool.eq_iff_iff]; simp [vKey, Lit.sameKey]
theorem vKey_fun (v : Int) : (fun b : BoxD => (vKey b).sameKey (.int .i64 v)) = fun b => b.validity == v := funext fun b => vKey_same b v
theorem nMap_at {l : List BoxD} {s : List UInt8} (z : DataW Unit) (h : l.any (fun b => b.name == s) = true) : (mapOf nKey l 0).atKey (.string s) z = .lit (.int .i64 (bxNamed l s)) := mapOf_at nKey_lit (.string s) z l 0 h
theorem vMap_at {l : List BoxD} {v : Int} (z : DataW Unit) (h : l.any (fun b => b.validity == v) = true) : (mapOf vKey l 0).atKey (.int .i64 v) z = .lit (.int .i64 (bxWith l v)) := by
  have := mapOf_at vKey_lit (.int .i64 v) z l 0 (by rw [vKey_fun]; exact h)
  rw [vKey_fun] at this
  exact this
theorem nMap_has (l : List BoxD) (s : List UInt8) : Maps.has (mapOf nKey l 0) (.string s) = l.any (fun b => b.name == s) := mapOf_has nKey_lit (.string s) l 0
theorem vMap_has (l : List BoxD) (v : Int) : Maps.has (mapOf vKey l 0) (.int .i64 v) = l.any (fun b => b.validity == v) := by
  have := mapOf_has vKey_lit (.int .i64 v) l 0
  rw [vKey_fun] at this
  exact this

def ascB (l : List BoxD) : Bool := decide (l.Pairwise fun x y => Op.bytesLess x.name y.name = true)
def diffB (l : List BoxD) : Bool := decide (l.Pairwise fun x y => (x.validity == y.validity) = false)
/-- Right boxes, part by part. -/
theorem boxesB_parts (l : List BoxD) : boxesB l = (l.all boxB && (decide ((l.length : Int) ≤ 4) && ascB l && diffB l)) := by
  rw [Bool.eq_iff_iff]
  constructor
  · intro h
    obtain ⟨h1, h2⟩ := boxes_each h
    simp only [Bool.and_eq_true, decide_eq_true_eq, List.all_eq_true, ascB, diffB]
    refine ⟨h2, ⟨by omega, List.pairwise_iff_getElem.2 fun i j hi hj hij => ?_⟩, List.pairwise_iff_getElem.2 fun i j hi hj hij => ?_⟩
    · exact boxes_asc h i j _ _ hij (List.getElem?_eq_getElem hi) (List.getElem?_eq_getElem hj)
    · exact boxes_diff h i j _ _ hij (List.getElem?_eq_getElem hi) (List.getElem?_eq_getElem hj)
  · intro h
    simp only [Bool.and_eq_true, decide_eq_true_eq, List.all_eq_true, ascB, diffB] at h
    obtain ⟨h1, ⟨h2, h3⟩, h4⟩ := h
    unfold boxesB
    rw [Bool.and_eq_true, decide_eq_true_eq]
    refine ⟨List.all_eq_true.2 fun i hi => ?_, h2⟩
    have hi' : i < l.length := List.mem_range.1 hi
    have hx := List.getElem?_eq_getElem hi'
    have hw : bxWith (l.take i) (l[i]).validity = -1 := firstAt_no _ _ (by
      rw [List.any_eq_false]
      intro y hy
      obtain ⟨j, hj, rfl⟩ := List.getElem_of_mem hy
      have hj' : j < i := by rw [List.length_take] at hj; omega
      have := List.pairwise_iff_getElem.1 h4 j i (by omega) hi' hj'
      rw [List.getElem_take]
      rw [this]
      simp)
    unfold boxStep
    rw [hx]
    simp only [Bool.and_eq_true, decide_eq_true_eq]
    refine ⟨⟨h1 _ (List.getElem_mem hi'), ?_⟩, by omega⟩
    cases i with
    | zero => rfl
    | succ j =>
      have hq := List.getElem?_eq_getElem (show j < l.length by omega)
      simp only [hq]
      exact List.pairwise_iff_getElem.1 h3 j (j + 1) (by omega) hi' (by omega)

theorem less_lt : ∀ (x y : List UInt8), Op.bytesLess x y = decide (x < y)
  | [], [] => by simp [Op.bytesLess]
  | [], y :: l => by simp [Op.bytesLess]
  | x :: k, [] => by simp [Op.bytesLess]
  | x :: k, y :: l => by
    have h := less_lt k l
    simp only [Op.bytesLess, h]
    rw [Bool.eq_iff_iff]
    simp only [Bool.or_eq_true, Bool.and_eq_true, decide_eq_true_eq, beq_iff_eq, List.cons_lt_cons_iff]
theorem leB_tr : ∀ a b c : List UInt8, leB a b = true → leB b c = true → leB a c = true := fun a b c h1 h2 => by simp only [leB, decide_eq_true_eq] at *; exact List.le_trans h1 h2
theorem leB_to : ∀ a b : List UInt8, (leB a b || leB b a) = true := fun a b => by simp only [leB, Bool.or_eq_true, decide_eq_true_eq]; exact List.le_total a b
theorem leB_less {a b : List UInt8} (h : leB a b = true) (hn : a ≠ b) : Op.bytesLess a b = true := by
  rw [less_lt, decide_eq_true_eq]
  simp only [leB, decide_eq_true_eq] at h
  exact Decidable.byContradiction fun hc => hn (List.le_antisymm h (List.not_lt.1 hc))
theorem less_leB {a b : List UInt8} (h : Op.bytesLess a b = true) : leB a b = true := by
  rw [less_lt, decide_eq_true_eq] at h
  simp only [leB, decide_eq_true_eq]
  exact List.le_of_lt h

/-- The names in order stand at their places. -/
def namesR (l : List BoxD) (ns : List (List UInt8)) : Bool := (List.range ns.length).all (fun i => bxNamed l ((ns[i]?).getD []) == (i : Int)) && decide (ns.length = l.length)
theorem firstAt_hit {α : Type} {p : α → Bool} : ∀ (l : List α) (n i : Nat), firstAt p l n = ((n + i : Nat) : Int) → ∃ x, l[i]? = some x ∧ p x = true
  | [], n, i, h => by simp only [firstAt] at h; omega
  | b :: r, n, i, h => by
    cases hb : p b with
    | true =>
      simp only [firstAt, hb, if_true] at h
      obtain rfl : i = 0 := by omega
      exact ⟨b, rfl, hb⟩
    | false =>
      simp only [firstAt, hb, Bool.false_eq_true, if_false] at h
      cases i with
      | zero =>
        exfalso
        have : ∀ (r : List α) (m : Nat), firstAt p r m = -1 ∨ (m : Int) ≤ firstAt p r m := by
          intro r
          induction r with
          | nil => intro m; exact .inl rfl
          | cons c r ih =>
            intro m
            simp only [firstAt]
            cases p c with
            | true => right; simp
            | false =>
              simp only [Bool.false_eq_true, if_false]
              rcases ih (m + 1) with h | h
              · exact .inl h
              · right; omega
        rcases this r (n + 1) with h1 | h1 <;> omega
      | succ j =>
        obtain ⟨x, h1, h2⟩ := firstAt_hit r (n + 1) j (by rw [h]; congr 1; omega)
        exact ⟨x, by simpa using h1, h2⟩
theorem names_asc {l : List BoxD} {ss : List (List UInt8)} (hnd : ss.Nodup) (hm : ∀ x, x ∈ ss ↔ l.any (fun b => b.name == x) = true) : namesR l (ss.mergeSort leB) = ascB l := by
  have hp : (ss.mergeSort leB).Perm ss := List.mergeSort_perm ss leB
  rw [Bool.eq_iff_iff]
  constructor
  · intro h
    unfold namesR at h
    rw [Bool.and_eq_true, decide_eq_true_eq] at h
    obtain ⟨h1, h2⟩ := h
    have hs := List.pairwise_mergeSort leB_tr leB_to ss
    have hd := hp.nodup_iff.2 hnd
    generalize ss.mergeSort leB = ns at *
    have hat : ∀ i (hi : i < l.length), (l[i]).name = ns[i]'(by omega) := fun i hi => by
      have := List.all_eq_true.1 h1 i (List.mem_range.2 (by omega))
      rw [beq_iff_eq, List.getElem?_eq_getElem (show i < ns.length by omega)] at this
      obtain ⟨x, hx, hy⟩ := firstAt_hit l 0 i (by rw [Nat.zero_add]; exact this)
      rw [List.getElem?_eq_getElem hi] at hx
      cases hx
      simpa using hy
    simp only [ascB, decide_eq_true_eq]
    refine List.pairwise_iff_getElem.2 fun i j hi hj hij => ?_
    rw [hat i hi, hat j hj]
    refine leB_less (List.pairwise_iff_getElem.1 hs i j (by omega) (by omega) hij) ?_
    exact List.pairwise_iff_getElem.1 hd i j (by omega) (by omega) hij
  · intro h
    simp only [ascB, decide_eq_true_eq] at h
    have hpw : (l.map (·.name)).Pairwise (fun x y => Op.bytesLess x y = true) := List.pairwise_map.2 h
    have hp2 : ss.Perm (l.map (·.name)) := by
      refine (List.perm_ext_iff_of_nodup hnd (hpw.imp fun hxy => less_ne hxy)).2 fun x => ?_
      rw [hm x, List.any_eq_true, List.mem_map]
      constructor
      · rintro ⟨b, hb, e⟩; exact ⟨b, hb, by simpa using e⟩
      · rintro ⟨b, hb, e⟩; exact ⟨b, hb, by simpa using e⟩
    have he : ss.mergeSort leB = l.map (·.name) := by
      rw [mergeSort_of_perm hp2]
      exact List.mergeSort_of_pairwise (hpw.imp fun hxy => less_leB hxy)
    rw [he]
    unfold namesR
    rw [Bool.and_eq_true, decide_eq_true_eq]
    refine ⟨List.all_eq_true.2 fun i hi => ?_, by simp⟩
    have hi' : i < l.length := by simpa using List.mem_range.1 hi
    rw [beq_iff_eq, List.getElem?_map, List.getElem?_eq_getElem hi']
    show bxNamed l (l[i]).name = _
    unfold bxNamed
    rw [firstAt_eq l 0 i l[i] (List.getElem?_eq_getElem hi') (by simp) (fun j y hj hy => ?_)]
    · simp
    · obtain ⟨hj', rfl⟩ := List.getElem?_eq_some_iff.1 hy
      have := less_ne (List.pairwise_iff_getElem.1 h j i hj' hi' hj)
      simpa using this

/-- One more Validity that was not there. -/
theorem diff_step {l : List BoxD} {k : Nat} {x : BoxD} (hx : l[k]? = some x) (h : (l.take k).Pairwise fun x y => (x.validity == y.validity) = false) (hn : (l.take k).any (fun b => b.validity == x.validity) = false) : (l.take (k + 1)).Pairwise fun x y => (x.validity == y.validity) = false := by
  rw [List.take_add_one, hx]
  refine List.pairwise_append.2 ⟨h, by simp, fun a ha b hb => ?_⟩
  simp only [Option.toList_some, List.mem_singleton] at hb
  subst hb
  have := List.any_eq_false.1 hn a ha
  simpa using this
theorem diff_not {l : List BoxD} {k : Nat} {x : BoxD} (hx : l[k]? = some x) (hn : (l.take k).any (fun b => b.validity == x.validity) = true) : diffB l = false := by
  unfold diffB
  rw [decide_eq_false_iff_not]
  intro h
  obtain ⟨y, hy, e⟩ := List.any_eq_true.1 hn
  obtain ⟨j, hj, rfl⟩ := List.getElem_of_mem hy
  obtain ⟨hk, rfl⟩ := List.getElem?_eq_some_iff.1 hx
  have hj' : j < k := by rw [List.length_take] at hj; omega
  have := List.pairwise_iff_getElem.1 h j k (by omega) hk hj'
  rw [List.getElem_take] at e
  rw [this] at e
  cases e
/-- What is left of the map of Validities when k boxes have been struck. -/
def vLeft (l : List BoxD) (k : Nat) (D : DataW Unit) : Prop := ∀ v : Int, Maps.has D (.int .i64 v) = (l.any (fun b => b.validity == v) && !(l.take k).any (fun b => b.validity == v))
theorem vLeft_start (l : List BoxD) : vLeft l 0 (mapOf vKey l 0) := fun v => by rw [vMap_has]; simp
theorem vLeft_step {l : List BoxD} {k : Nat} {x : BoxD} {D : DataW Unit} (hx : l[k]? = some x) (h : vLeft l k D) : vLeft l (k + 1) (D.del (.int .i64 x.validity)) := fun v => by
  rw [List.take_add_one, hx, List.any_append]
  simp only [Option.toList_some, List.any_cons, List.any_nil, Bool.or_false]
  by_cases e : v = x.validity
  · subst e
    rw [Maps.has_del_same]
    simp
  · rw [Maps.has_del_other (by intro h; injection h with _ h; exact e h), h v]
    have : (x.validity == v) = false := by rw [beq_eq_false_iff_ne]; exact fun h => e h.symm
    rw [this, Bool.or_false]
theorem vLeft_at {l : List BoxD} {k : Nat} {x : BoxD} {D : DataW Unit} (hx : l[k]? = some x) (h : vLeft l k D) : Maps.has D (.int .i64 x.validity) = !(l.take k).any (fun b => b.validity == x.validity) := by
  rw [h x.validity, List.any_eq_true.2 ⟨x, List.mem_of_getElem? hx, by simp⟩, Bool.true_and]
theorem diff_end {l : List BoxD} (h : (l.take l.length).Pairwise fun x y => (x.validity == y.validity) = false) : diffB l = true := by
  rw [List.take_length] at h
  exact decide_eq_true h

end Go.Proofs.YtbfgdbpfecffcaaGreatDoor

namespace Go.Proofs.YtbfgdbpfecffcaaGreatDoor
open Go.RowKit Go.Shelf

attribute [local go_sem] Oper.semAt_some

/-- What a round of the loop keeps: what lay ahead of the call, and the iterator's own cell. -/
def KpB (n₀ Bs : Nat) (A B : World) : Prop := Below n₀ A B ∧ ∀ v, A.cell? ⟨Bs, 0, none⟩ = some v → B.cell? ⟨Bs, 0, none⟩ = some v
theorem KpB.t {n₀ Bs : Nat} {A B C : World} (h : KpB n₀ Bs A B) (k : KpB n₀ Bs B C) : KpB n₀ Bs A C := ⟨h.1.trans k.1, fun v hv => k.2 v (h.2 v hv)⟩
theorem KpB.b {n₀ Bs : Nat} {w : World} (hn : n₀ ≤ w.heap.size) (W : World) (l : Nat) (o o' : Obj) (hl : w.heap.size ≤ l) (h : W.heap[l]? = some o) (ho : o.isCells = false) (hw : o.isWalk = false) : KpB n₀ Bs W (W.putObj l o') :=
  ⟨belowK_b hn W l o o' hl h ho hw, fun _ hv => cell_kept hv (grownBy_putObj' W l o') (fun r e => by cases e; exact ⟨o, h, ho⟩)⟩

/-- What the round at place i is handed. -/
def boxv (x : BoxD) (r : Value) : Value := .agg #[sv x.name, .int .i64 x.validity, .int .i64 x.next, r]
def rowV (l : List BoxD) (rs : Nat → Option Addr × Nat × Nat) (i : Fin l.length) : Array Value := #[.int .i64 (i.val : Int), boxv (l[i.val]'i.isLt) (.slice (rs i.val).1 (rs i.val).2.1 (rs i.val).2.2)]
/-- The boxes' cells. -/
def BoxCells (W : World) (b off : Nat) (l : List BoxD) (rs : Nat → Option Addr × Nat × Nat) : Prop := ∀ i x, l[i]? = some x → W.cell? ⟨b, off + i * 4, none⟩ = some (sv x.name) ∧ W.cell? ⟨b, off + i * 4 + 1, none⟩ = some (.int .i64 x.validity) ∧ W.cell? ⟨b, off + i * 4 + 2, none⟩ = some (.int .i64 x.next) ∧ W.cell? ⟨b, off + i * 4 + 3, none⟩ = some (.slice (rs i).1 (rs i).2.1 (rs i).2.2)
theorem BoxCells.below {n₀ b off : Nat} {A B : World} {l : List BoxD} {rs : Nat → Option Addr × Nat × Nat} (h : BoxCells A b off l rs) (hb : b < n₀) (hw : Below n₀ A B) : BoxCells B b off l rs := fun i x hx => by
  obtain ⟨h0, h1, h2, h3⟩ := h i x hx
  exact ⟨(hw.cell (p := ⟨b, off + i * 4, none⟩) hb).trans h0, (hw.cell (p := ⟨b, off + i * 4 + 1, none⟩) hb).trans h1, (hw.cell (p := ⟨b, off + i * 4 + 2, none⟩) hb).trans h2, (hw.cell (p := ⟨b, off + i * 4 + 3, none⟩) hb).trans h3⟩
/-- The places that have come when k are left. -/
def Came {n : Nat} (pre : List (Fin n)) (k : Nat) : Prop := pre.map Fin.val = (List.range' k (n - k)).reverse
theorem Came.start {n : Nat} : Came (n := n) [] n := by unfold Came; rw [Nat.sub_self]; rfl
theorem Came.step {n : Nat} {pre : List (Fin n)} {k : Nat} (h : Came pre (k + 1)) (hk : k < n) : Came (pre ++ [⟨k, hk⟩]) k := by
  unfold Came at h ⊢
  rw [List.map_append, h, show n - k = (n - (k + 1)) + 1 by omega, List.range'_succ, List.reverse_cons]
  rfl
theorem Came.length {n : Nat} {pre : List (Fin n)} {k : Nat} (h : Came pre k) : pre.length = n - k := by
  have := congrArg List.length h
  simpa using this

set_option maxRecDepth 100000 in
set_option maxHeartbeats 2000000 in
theorem back1_in (F : Fence) (n : Nat) (hf : F.fn 151) (hro : F.round = none) (hn : 1 ≤ n) (k0 Bs n₀ : Nat) (p : Option Addr) (cap : Nat) (l : List BoxD) (rs : Nat → Option Addr × Nat × Nat) (hl : l.length ≤ 1048576) (J Jx : List (Fin l.length) → World → Prop)
    (hY : ∀ pre x W, J pre W → pre.length < l.length → YieldAt F (n - 1) Tryz.prog k0 (rowV l rs x) W fun e W' =>
      (e = .returned (.bool true) ∧ J (pre ++ [x]) W' ∧ KpB n₀ Bs W W') ∨ (e = .returned (.bool false) ∧ Jx (pre ++ [x]) W'))
    (W : World) (hBs : W.cell? ⟨Bs, 0, none⟩ = some (.slice p l.length cap)) (hc : l = [] ∨ ∃ b off, p = some ⟨b, off, none⟩ ∧ b < n₀ ∧ BoxCells W b off l rs) (h0 : J [] W) :
    CallsIn F n Tryz.prog 151 #[.func (.yield k0) #[] #[], .pointer (some ⟨Bs, 0, none⟩)] W fun e W' => (∃ v, e = .returned v) ∧
      ((∃ ys, Came ys 0 ∧ J ys W') ∨ (∃ pre, True ∧ Jx pre W')) := by
  refine callsIn_of_wp Tryz.func151 rfl hf ?_ hro
  simp only [Tryz.ntmps151, List.size_toArray, List.length_cons, List.length_nil, Nat.reduceAdd, Nat.reduceSub, Array.replicate_succ, Array.replicate_zero, List.push_toArray, List.append_toArray, List.nil_append, List.cons_append]
  gi_wp2
  gi_loopw [3] (fun i wr => ∃ (k : Nat) (pre : List (Fin l.length)), k ≤ l.length ∧ i = .int .i64 ((k : Int) - 1) ∧ Came pre k ∧ J pre wr ∧ KpB n₀ Bs W wr) (fun i _ => (intOf i + 1).toNat)
  case atStart => exact ⟨l.length, [], Nat.le_refl _, by go_num, Came.start, h0, Below.refl _ _, fun _ h => h⟩
  case round =>
    obtain ⟨k, pre, hk, rfl, hcm, hJs, hkp⟩ := hrel
    cases k with
    | zero =>
      rw [show ((0 : Nat) : Int) - 1 = -1 from rfl]
      gi_wp2
      go_end0
      exact ⟨⟨_, rfl⟩, .inl ⟨pre, hcm, hJs⟩⟩
    | succ j =>
      have hj : j < l.length := by omega
      rw [show ((j + 1 : Nat) : Int) - 1 = (j : Int) by omega]
      obtain ⟨b, off, rfl, hb, hcell⟩ := hc.resolve_left (by intro h; subst h; simp at hj)
      obtain ⟨x, hx⟩ : ∃ x, l[j]? = some x := ⟨_, List.getElem?_eq_getElem hj⟩
      obtain ⟨e0, e1, e2, e3⟩ := hcell.below hb hkp.1 j x hx
      have eB := hkp.2 _ hBs
      have eR : rowV l rs ⟨j, hj⟩ = #[.int .i64 (j : Int), .agg #[sv x.name, .int .i64 x.validity, .int .i64 x.next, .slice (rs j).1 (rs j).2.1 (rs j).2.2]] := by
        have : l[j] = x := (List.getElem?_eq_some_iff.1 hx).2
        simp only [rowV, boxv, this]
      have hYj := hY pre ⟨j, hj⟩ wr hJs (by rw [hcm.length]; omega)
      rw [eR] at hYj
      have hcs := hcm.step hj
      obtain ⟨fn, tmps, assign, body, hy, hR⟩ := hYj
      clear hY hc hcell eR hx
      gi_wp2
      refine hR.mono ?_
      rintro e W3 (⟨rfl, hJ3, hk3⟩ | ⟨rfl, hJx3⟩)
      · gi_wp2
        go_roundw
        case rel => exact ⟨j, _, by omega, by go_num, hcs, hJ3, hkp.t hk3⟩
        case measure => simp [intOf] <;> omega
      · gi_wp2
        refine bodyPost_ret (results_none rfl _ _ _) rfl ?_
        exact ⟨⟨_, rfl⟩, .inr ⟨_, trivial, hJx3⟩⟩

set_option maxHeartbeats 1000000 in
theorem back_in (F : Fence) (n : Nat) (hf : F.fn 136) (hro : F.round = none) (a : Option Addr) (len cap : Nat) (w : World) :
    CallsIn F n Tryz.prog 136 #[.slice a len cap] w fun e w' => e = .returned (.func (.func 151) #[] #[.pointer (some ⟨w.heap.size, 0, none⟩)]) ∧ w' = w.alloc (.cells #[.slice a len cap] 24) := by
  refine callsIn_of_wp Tryz.func136 rfl hf ?_ hro
  simp only [Tryz.ntmps136, List.size_toArray, List.length_cons, List.length_nil, Nat.reduceAdd, Nat.reduceSub, Array.replicate_succ, Array.replicate_zero, List.push_toArray, List.append_toArray, List.nil_append, List.cons_append]
  gi_wp2
  go_ret
  exact ⟨rfl, rfl⟩
theorem back_stops (F : Fence) (n : Nat) (hf : F.fn 151) (hro : F.round = none) (hn : 1 ≤ n) (Bs n₀ : Nat) (p : Option Addr) (cap : Nat) (l : List BoxD) (rs : Nat → Option Addr × Nat × Nat) (hl : l.length ≤ 1048576) (w : World) (hBs : Bs < w.heap.size) (hn₀ : n₀ ≤ w.heap.size)
    (hv : w.cell? ⟨Bs, 0, none⟩ = some (.slice p l.length cap)) (hc : l = [] ∨ ∃ b off, p = some ⟨b, off, none⟩ ∧ b < n₀ ∧ BoxCells w b off l rs) :
    SeqStopsK F n Tryz.prog 151 #[.pointer (some ⟨Bs, 0, none⟩)] (rowV l rs) (KpB n₀ Bs) (fun ys => Came ys 0) (fun _ => True) l.length w := fun k0 J Jx W hW _ _ hY h0 =>
  back1_in F n hf hro hn k0 Bs n₀ p cap l rs hl J Jx hY W ((hW.cell (p := ⟨Bs, 0, none⟩) hBs).trans hv) (hc.imp id fun ⟨b, off, hp, hb, h⟩ => ⟨b, off, hp, hb, h.below hb (hW.mono hn₀)⟩) h0

theorem cells_own (B : Nat) (vs : Array Value) (t : TypeId) (fr : Nat × Nat) : Own (fun (_ : Unit) (W : World) => W.heap[B]? = some (.cells vs t fr)) := fun _ X Y row hs hg hrow => by
  refine (hg.block B (Array.getElem?_eq_some_iff.1 hs).1 (fun e => ?_)).trans hs
  obtain ⟨o, ho, hc⟩ := hrow B e.symm
  rw [hs] at ho
  cases ho
  cases hc
theorem place_wf {n : Nat} (h : n ≤ 1048576) : (Lit.int .i64 (n : Int)).wf = true := by
  simp [Lit.wf, IntKind.min, IntKind.max, IntKind.signed, IntKind.bits]; omega
def slOf : Option Value → Option Addr × Nat × Nat
  | some (.slice p n c) => (p, n, c)
  | _ => (none, 0, 0)
/-- The slices of the boxes' messages, as the cells hold them. -/
theorem boxes_cells {w : World} {l : List BoxD} {v : Value} (hr : LfRd w (boxsLf l) v) : ∃ p cap rs, v = .slice p l.length cap ∧ (l = [] ∨ ∃ b off, p = some ⟨b, off, none⟩ ∧ b < w.heap.size ∧ BoxCells w b off l rs) := by
  obtain ⟨p, cap, rfl, h⟩ := BoxD.at hr
  rcases h with rfl | ⟨b, off, rfl, hb, hc⟩
  · exact ⟨p, cap, fun _ => (none, 0, 0), rfl, .inl rfl⟩
  · refine ⟨_, cap, fun i => slOf (w.cell? ⟨b, off + i * 4 + 3, none⟩), rfl, .inr ⟨b, off, rfl, hb, fun i x hx => ?_⟩⟩
    obtain ⟨r3, hr3, h0, h1, h2, h3⟩ := hc i x hx
    obtain ⟨q, d, rfl⟩ := LfRd.slice hr3
    refine ⟨h0, h1, h2, ?_⟩
    dsimp only
    rw [h3]
    rfl

set_option maxRecDepth 100000 in
set_option maxHeartbeats 2000000 in
theorem placesByName_in (F : Fence) (n : Nat) (h1 : F.fn 110) (h2 : F.fn 136) (h3 : F.fn 151) (hro : F.round = none) (hn : 3 ≤ n) (l : List BoxD) (v : Value) (w : World) (hr : LfRd w (boxsLf l) v) (hl : l.length ≤ 1048576) (hk : ∀ x ∈ l, x.name.length ≤ 1048576) :
    CallsIn F n Tryz.prog 110 #[v] w fun e W' => e = .returned (.map (some w.heap.size)) ∧ W'.ownsMap Tryz.prog 9 (plainElem (H := Unit) Tryz.prog 3) w.heap.size l.length (mapOf nKey l 0) ∧ Below w.heap.size w W' := by
  obtain ⟨p, cap, rs, rfl, hcl⟩ := boxes_cells hr
  clear hr
  have hn1 : 1 ≤ n := by omega
  have hmm := @run_makeMap Tryz.prog
  refine callsIn_of_wp_marks Tryz.func110 rfl h1 ?_ hro
  simp only [Tryz.ntmps110, List.size_toArray, List.length_cons, List.length_nil, Nat.reduceAdd, Nat.reduceSub, Array.replicate_succ, Array.replicate_zero, List.push_toArray, List.append_toArray, List.nil_append, List.cons_append]
  gi_wp2_with (gi_at_call 136; refine (back_in F (n - 1) h2 hro _ _ _ _).mono ?_; rintro e w' ⟨rfl, rfl⟩)
  have hm0 := World.ownsMap_made w Tryz.prog 9 (plainElem (H := Unit) Tryz.prog 3)
  have bS := Boxed.new (w.alloc (.map #[] 0)) 124 (.map (some w.heap.size))
  have bN := Boxed.new ((w.alloc (.map #[] 0)).alloc (.cells #[.map (some w.heap.size)] 124)) 24 (.slice p l.length cap)
  simp only [World.size_alloc] at bS bN
  have hB0 : Below w.heap.size w (((w.alloc (.map #[] 0)).alloc (.cells #[.map (some w.heap.size)] 124)).alloc (.cells #[.slice p l.length cap] 24)) := (((Below.refl _ w).alloc (Nat.le_refl _) _).alloc (by simp) _).alloc (by simp; omega) _
  have bS2 := bS.alloc (.cells #[.slice p l.length cap] 24)
  have hm2 := (hm0.alloc (.cells #[.map (some w.heap.size)] 124)).alloc (.cells #[.slice p l.length cap] 24)
  have hcl2 : l = [] ∨ ∃ b off, p = some ⟨b, off, none⟩ ∧ b < w.heap.size ∧ BoxCells (((w.alloc (.map #[] 0)).alloc (.cells #[.map (some w.heap.size)] 124)).alloc (.cells #[.slice p l.length cap] 24)) b off l rs := hcl.imp id fun ⟨b, off, hp, hb, h⟩ => ⟨b, off, hp, hb, h.below hb hB0⟩
  have hsz : (((w.alloc (.map #[] 0)).alloc (.cells #[.map (some w.heap.size)] 124)).alloc (.cells #[.slice p l.length cap] 24)).heap.size = w.heap.size + 1 + 1 + 1 := by simp
  obtain ⟨W0, hW0⟩ : ∃ W0, (((w.alloc (.map #[] 0)).alloc (.cells #[.map (some w.heap.size)] 124)).alloc (.cells #[.slice p l.length cap] 24)) = W0 := ⟨_, rfl⟩
  rw [hW0] at hB0 bN bS2 hm2 hcl2 hsz ⊢
  refine wpIn_rangeFunc_ownH hro hn1 (gf := 151) (lb := #[.pointer (some ⟨w.heap.size + 1 + 1, 0, none⟩)]) rfl h3 (enters_of Tryz.func151 (by kernel_rfl) rfl)
    (back_stops F (n - 1) h3 hro (by omega) (w.heap.size + 1 + 1) w.heap.size p cap l rs hl W0 (by omega) (by omega) bN.cell hcl2) KpB.t (KpB.b (by omega)) (Below.refl _ _) (fun _ => rfl)
    (fun pre W => (Boxed W (w.heap.size + 1) 124 (.map (some w.heap.size)) ∧ W.ownsMap Tryz.prog 9 (plainElem (H := Unit) Tryz.prog 3) w.heap.size pre.length ((pre.map Fin.val).foldl (mapStep nKey l) (.map []))) ∧ Below w.heap.size w W)
    (fun _ _ _ => False)
    (OwnFrom.and (OwnFrom.and (Own.from (boxed_own _ _ _) _) (fun s X Y row hs hg hrow => hs.kept hg (fun e => by have := (hrow _ e.symm).1; omega))) (ownFrom_below (Nat.le_refl _) (by omega)))
    (fun _ _ _ _ _ hs _ _ => hs)
    ⟨⟨bS2, hm2⟩, hB0⟩
    (fun x a' W => ∃ Bx, w.heap.size + 1 < Bx ∧ W.heap[Bx]? = some (.cells #[sv (l[x.val]).name, .int .i64 (l[x.val]).validity, .int .i64 (l[x.val]).next, .slice (rs x.val).1 (rs x.val).2.1 (rs x.val).2.2] 38 (0, 0)) ∧ a' = { tmps := #[.slice p l.length cap, undef, .map none, .pointer (some ⟨w.heap.size + 1, 0, none⟩), .int .i64 (x.val : Int), .pointer (some ⟨Bx, 0, none⟩), .map (some w.heap.size), .slice p l.length cap, .func (.func 151) #[] #[.pointer (some ⟨w.heap.size + 1 + 1, 0, none⟩)], .int .i64 (x.val : Int), boxv (l[x.val]) (.slice (rs x.val).1 (rs x.val).2.1 (rs x.val).2.2), undef, undef, undef, undef, undef], defers := [] })
    (fun x a' _ X Y row hs hg hrow => by obtain ⟨Bx, k1, k2, k3⟩ := hs; exact ⟨Bx, k1, cells_own Bx _ _ _ () X Y row k2 hg (fun r e => (hrow r e).2), k3⟩)
    ?assign ?body ?done ?stop
  case assign =>
    rintro k0 pre x W K ⟨⟨bS1, hm1⟩, hB1⟩ hK
    have e0 : rowV l rs x = #[.int .i64 (x.val : Int), .agg #[sv (l[x.val]).name, .int .i64 (l[x.val]).validity, .int .i64 (l[x.val]).next, .slice (rs x.val).1 (rs x.val).2.1 (rs x.val).2.2]] := rfl
    rw [e0]
    gi_wp2
    exact hK _ _ ((KeepsOthers.alloc _ _).from _) ⟨(Below.refl _ W).alloc hB1.size _, fun _ hv => cell_kept hv (World.grownBy_alloc W _ none) (fun r e => by cases e)⟩ ⟨⟨bS1.alloc _, hm1.alloc _⟩, hB1.alloc hB1.size _⟩ ⟨W.heap.size, bS1.lt, World.alloc_heap_new W _, rfl⟩
  case body =>
    rintro k0 pre x a' W hk0 ⟨r, hrr⟩ ⟨⟨bS1, hown⟩, hB⟩ ⟨Bx, hBx, bX, rfl⟩ hlt
    have cS := bS1.cell
    have cX : W.cell? ⟨Bx, 0, none⟩ = some (sv (l[x.val]).name) := by simp [World.cell?, bX]
    have hkey : keyOf Tryz.prog 9 (sv (l[x.val]).name) = some (.string (l[x.val]).name) := Go.WideMaps.keyOf_string_mk Tryz.underlying9 (s := ⟨(l[x.val]).name.toArray⟩) (by have := hk _ (List.getElem_mem x.isLt); show (l[x.val]).name.toArray.size ≤ maxLen; unfold maxLen; simp; omega)
    have hstep : ((pre ++ [x]).map Fin.val).foldl (mapStep nKey l) (.map []) = ((pre.map Fin.val).foldl (mapStep nKey l) (.map [])).put (.string (l[x.val]).name) (.lit (.int .i64 (x.val : Int))) := by
      rw [List.map_append, List.foldl_append]
      show mapStep nKey l _ x.val = _
      unfold mapStep
      rw [List.getElem?_eq_getElem x.isLt]
      rfl
    have hval := plainElem_int (H := Unit) Tryz.underlying3 (place_wf (n := x.val) (by have := x.isLt; omega))
    obtain ⟨es, ck, hh, _⟩ := id hown
    gi_wp2_with (gi_at_mapUpdate; refine wpListIn_mapUpdate_own _ rfl _ _ _ 124 rfl 9 3 (Maps.string_keyed Tryz.underlying9) Tryz.underlying124 _ w.heap.size pre.length _ rfl hown (by unfold maxLen; omega) _ _ _ rfl rfl hkey _ [] hval ?_; intro w1 hown1 hgrow1)
    exact ⟨KeepsFrom.of_grownBy hgrow1 (fun j e => by cases e; omega), ⟨(Below.refl _ W).grown hgrow1 hB.size (fun k e => by cases e; exact Nat.le_refl _), fun _ hv => cell_kept hv hgrow1 (fun r e => by cases e; exact ⟨_, hh, rfl⟩)⟩,
      ⟨bS1.kept hgrow1 (by intro e; injection e with e; omega), by rw [hstep, List.length_append]; exact hown1⟩, hB.grown hgrow1 hB.size (fun k e => by cases e; exact Nat.le_refl _)⟩
  case done =>
    rintro D ys W hD hys ⟨⟨bS1, hown⟩, hB⟩ hK
    have cS := bS1.cell
    have hlen : ys.length = l.length := by rw [hys.length]; omega
    have hmap : (ys.map Fin.val).foldl (mapStep nKey l) (.map []) = mapOf nKey l 0 := by
      rw [show ys.map Fin.val = (List.range' 0 l.length).reverse from hys, mapOf_fold nKey l l.length 0 (by omega), List.drop_zero]
    rw [hmap, hlen] at hown
    gi_wp2
    refine ⟨by simp, .inl ⟨_, _, rfl, run_takeDeferred hK, ?_⟩⟩
    exact ⟨_, results_tmp rfl _ _ _, rfl, hown.kept (grownBy_putObj' _ D _) (fun e => by cases e; omega), hB.trans (belowK_b (w := w) (Nat.le_refl _) W D _ _ (by omega) hK rfl rfl)⟩
  case stop =>
    rintro D c pre W _ _ h _
    exact h.elim

set_option maxRecDepth 100000 in
set_option maxHeartbeats 2000000 in
theorem placesByValidity_in (F : Fence) (n : Nat) (h1 : F.fn 112) (h2 : F.fn 136) (h3 : F.fn 151) (hro : F.round = none) (hn : 3 ≤ n) (l : List BoxD) (v : Value) (w : World) (hr : LfRd w (boxsLf l) v) (hl : l.length ≤ 1048576) (hk : ∀ x ∈ l, in64 x.validity) :
    CallsIn F n Tryz.prog 112 #[v] w fun e W' => e = .returned (.map (some w.heap.size)) ∧ W'.ownsMap Tryz.prog 3 (plainElem (H := Unit) Tryz.prog 3) w.heap.size l.length (mapOf vKey l 0) ∧ Below w.heap.size w W' := by
  obtain ⟨p, cap, rs, rfl, hcl⟩ := boxes_cells hr
  clear hr
  have hn1 : 1 ≤ n := by omega
  have hmm := @run_makeMap Tryz.prog
  refine callsIn_of_wp_marks Tryz.func112 rfl h1 ?_ hro
  simp only [Tryz.ntmps112, List.size_toArray, List.length_cons, List.length_nil, Nat.reduceAdd, Nat.reduceSub, Array.replicate_succ, Array.replicate_zero, List.push_toArray, List.append_toArray, List.nil_append, List.cons_append]
  gi_wp2_with (gi_at_call 136; refine (back_in F (n - 1) h2 hro _ _ _ _).mono ?_; rintro e w' ⟨rfl, rfl⟩)
  have hm0 := World.ownsMap_made w Tryz.prog 3 (plainElem (H := Unit) Tryz.prog 3)
  have bS := Boxed.new (w.alloc (.map #[] 0)) 128 (.map (some w.heap.size))
  have bN := Boxed.new ((w.alloc (.map #[] 0)).alloc (.cells #[.map (some w.heap.size)] 128)) 24 (.slice p l.length cap)
  simp only [World.size_alloc] at bS bN
  have hB0 : Below w.heap.size w (((w.alloc (.map #[] 0)).alloc (.cells #[.map (some w.heap.size)] 128)).alloc (.cells #[.slice p l.length cap] 24)) := (((Below.refl _ w).alloc (Nat.le_refl _) _).alloc (by simp) _).alloc (by simp; omega) _
  have bS2 := bS.alloc (.cells #[.slice p l.length cap] 24)
  have hm2 := (hm0.alloc (.cells #[.map (some w.heap.size)] 128)).alloc (.cells #[.slice p l.length cap] 24)
  have hcl2 : l = [] ∨ ∃ b off, p = some ⟨b, off, none⟩ ∧ b < w.heap.size ∧ BoxCells (((w.alloc (.map #[] 0)).alloc (.cells #[.map (some w.heap.size)] 128)).alloc (.cells #[.slice p l.length cap] 24)) b off l rs := hcl.imp id fun ⟨b, off, hp, hb, h⟩ => ⟨b, off, hp, hb, h.below hb hB0⟩
  have hsz : (((w.alloc (.map #[] 0)).alloc (.cells #[.map (some w.heap.size)] 128)).alloc (.cells #[.slice p l.length cap] 24)).heap.size = w.heap.size + 1 + 1 + 1 := by simp
  obtain ⟨W0, hW0⟩ : ∃ W0, (((w.alloc (.map #[] 0)).alloc (.cells #[.map (some w.heap.size)] 128)).alloc (.cells #[.slice p l.length cap] 24)) = W0 := ⟨_, rfl⟩
  rw [hW0] at hB0 bN bS2 hm2 hcl2 hsz ⊢
  refine wpIn_rangeFunc_ownH hro hn1 (gf := 151) (lb := #[.pointer (some ⟨w.heap.size + 1 + 1, 0, none⟩)]) rfl h3 (enters_of Tryz.func151 (by kernel_rfl) rfl)
    (back_stops F (n - 1) h3 hro (by omega) (w.heap.size + 1 + 1) w.heap.size p cap l rs hl W0 (by omega) (by omega) bN.cell hcl2) KpB.t (KpB.b (by omega)) (Below.refl _ _) (fun _ => rfl)
    (fun pre W => (Boxed W (w.heap.size + 1) 128 (.map (some w.heap.size)) ∧ W.ownsMap Tryz.prog 3 (plainElem (H := Unit) Tryz.prog 3) w.heap.size pre.length ((pre.map Fin.val).foldl (mapStep vKey l) (.map []))) ∧ Below w.heap.size w W)
    (fun _ _ _ => False)
    (OwnFrom.and (OwnFrom.and (Own.from (boxed_own _ _ _) _) (fun s X Y row hs hg hrow => hs.kept hg (fun e => by have := (hrow _ e.symm).1; omega))) (ownFrom_below (Nat.le_refl _) (by omega)))
    (fun _ _ _ _ _ hs _ _ => hs)
    ⟨⟨bS2, hm2⟩, hB0⟩
    (fun x a' W => ∃ Bx, w.heap.size + 1 < Bx ∧ W.heap[Bx]? = some (.cells #[sv (l[x.val]).name, .int .i64 (l[x.val]).validity, .int .i64 (l[x.val]).next, .slice (rs x.val).1 (rs x.val).2.1 (rs x.val).2.2] 38 (0, 0)) ∧ a' = { tmps := #[.slice p l.length cap, undef, .map none, .pointer (some ⟨w.heap.size + 1, 0, none⟩), .int .i64 (x.val : Int), .pointer (some ⟨Bx, 0, none⟩), .map (some w.heap.size), .slice p l.length cap, .func (.func 151) #[] #[.pointer (some ⟨w.heap.size + 1 + 1, 0, none⟩)], .int .i64 (x.val : Int), boxv (l[x.val]) (.slice (rs x.val).1 (rs x.val).2.1 (rs x.val).2.2), undef, undef, undef, undef, undef], defers := [] })
    (fun x a' _ X Y row hs hg hrow => by obtain ⟨Bx, k1, k2, k3⟩ := hs; exact ⟨Bx, k1, cells_own Bx _ _ _ () X Y row k2 hg (fun r e => (hrow r e).2), k3⟩)
    ?assign ?body ?done ?stop
  case assign =>
    rintro k0 pre x W K ⟨⟨bS1, hm1⟩, hB1⟩ hK
    have e0 : rowV l rs x = #[.int .i64 (x.val : Int), .agg #[sv (l[x.val]).name, .int .i64 (l[x.val]).validity, .int .i64 (l[x.val]).next, .slice (rs x.val).1 (rs x.val).2.1 (rs x.val).2.2]] := rfl
    rw [e0]
    gi_wp2
    exact hK _ _ ((KeepsOthers.alloc _ _).from _) ⟨(Below.refl _ W).alloc hB1.size _, fun _ hv => cell_kept hv (World.grownBy_alloc W _ none) (fun r e => by cases e)⟩ ⟨⟨bS1.alloc _, hm1.alloc _⟩, hB1.alloc hB1.size _⟩ ⟨W.heap.size, bS1.lt, World.alloc_heap_new W _, rfl⟩
  case body =>
    rintro k0 pre x a' W hk0 ⟨r, hrr⟩ ⟨⟨bS1, hown⟩, hB⟩ ⟨Bx, hBx, bX, rfl⟩ hlt
    have cS := bS1.cell
    have cX : W.cell? ⟨Bx, 1, none⟩ = some (.int .i64 (l[x.val]).validity) := by simp [World.cell?, bX]
    have hkey : keyOf Tryz.prog 3 (.int .i64 (l[x.val]).validity) = some (.int .i64 (l[x.val]).validity) := Maps.keyOf_int_mk Tryz.underlying3 (by have := hk _ (List.getElem_mem x.isLt); simpa [in64, Lit.wf, IntKind.min, IntKind.max, IntKind.signed, IntKind.bits] using this)
    have hstep : ((pre ++ [x]).map Fin.val).foldl (mapStep vKey l) (.map []) = ((pre.map Fin.val).foldl (mapStep vKey l) (.map [])).put (.int .i64 (l[x.val]).validity) (.lit (.int .i64 (x.val : Int))) := by
      rw [List.map_append, List.foldl_append]
      show mapStep vKey l _ x.val = _
      unfold mapStep
      rw [List.getElem?_eq_getElem x.isLt]
      rfl
    have hval := plainElem_int (H := Unit) Tryz.underlying3 (place_wf (n := x.val) (by have := x.isLt; omega))
    obtain ⟨es, ck, hh, _⟩ := id hown
    gi_wp2_with (gi_at_mapUpdate; refine wpListIn_mapUpdate_own _ rfl _ _ _ 128 rfl 3 3 (Maps.int_keyed Tryz.underlying3) Tryz.underlying128 _ w.heap.size pre.length _ rfl hown (by unfold maxLen; omega) _ _ _ rfl rfl hkey _ [] hval ?_; intro w1 hown1 hgrow1)
    exact ⟨KeepsFrom.of_grownBy hgrow1 (fun j e => by cases e; omega), ⟨(Below.refl _ W).grown hgrow1 hB.size (fun k e => by cases e; exact Nat.le_refl _), fun _ hv => cell_kept hv hgrow1 (fun r e => by cases e; exact ⟨_, hh, rfl⟩)⟩,
      ⟨bS1.kept hgrow1 (by intro e; injection e with e; omega), by rw [hstep, List.length_append]; exact hown1⟩, hB.grown hgrow1 hB.size (fun k e => by cases e; exact Nat.le_refl _)⟩
  case done =>
    rintro D ys W hD hys ⟨⟨bS1, hown⟩, hB⟩ hK
    have cS := bS1.cell
    have hlen : ys.length = l.length := by rw [hys.length]; omega
    have hmap : (ys.map Fin.val).foldl (mapStep vKey l) (.map []) = mapOf vKey l 0 := by
      rw [show ys.map Fin.val = (List.range' 0 l.length).reverse from hys, mapOf_fold vKey l l.length 0 (by omega), List.drop_zero]
    rw [hmap, hlen] at hown
    gi_wp2
    refine ⟨by simp, .inl ⟨_, _, rfl, run_takeDeferred hK, ?_⟩⟩
    exact ⟨_, results_tmp rfl _ _ _, rfl, hown.kept (grownBy_putObj' _ D _) (fun e => by cases e; omega), hB.trans (belowK_b (w := w) (Nat.le_refl _) W D _ _ (by omega) hK rfl rfl)⟩
  case stop =>
    rintro D c pre W _ _ h _
    exact h.elim

end Go.Proofs.YtbfgdbpfecffcaaGreatDoor

namespace Go.Proofs.YtbfgdbpfecffcaaGreatDoor
open Go.RowKit

theorem in64_wf {n : Int} (h : in64 n) : (Lit.int .i64 n).wf = true := by
  simpa [in64, Lit.wf, IntKind.min, IntKind.max, IntKind.signed, IntKind.bits] using h
theorem lit_int {a b : Int} (h : (DataW.lit (.int .i64 a) : DataW Unit) = .lit (.int .i64 b)) : a = b := by
  injection h with h
  injection h

theorem placesByName_any (l : List BoxD) (v : Value) (W : World) (hr : LfRd W (boxsLf l) v) (hs : szLf (boxsLf l) ≤ 1048576) (hbd : LfBnd (boxsLf l)) :
    Calls Tryz.prog 110 #[v] W fun e W' => e = .returned (.map (some W.heap.size)) ∧ W'.ownsMap Tryz.prog 9 (plainElem (H := Unit) Tryz.prog 3) W.heap.size l.length (mapOf nKey l 0) ∧ Below W.heap.size W W' := by
  obtain ⟨hl, hkn, hkv, _⟩ := boxes_small hs hbd
  exact callsIn_wide.1 (placesByName_in Fence.wide 3 trivial trivial trivial rfl (by omega) l v W hr hl hkn)
set_option maxHeartbeats 1600000 in
theorem implBoxNamed_c {G : World → Prop} : CtrBoxNamed 154 G := by
  intro l v s w _ hr hs hbd hsl
  have hl : l.length ≤ 1048576 := (boxes_small hs hbd).1
  have C := Lib.hid (placesByName_any l v w hr hs hbd)
  obtain ⟨p, c, rfl⟩ := LfRd.slice hr
  have hkey : keyOf Tryz.prog 9 (sv s) = some (.string s) := Go.WideMaps.keyOf_string_mk Tryz.underlying9 (s := ⟨s.toArray⟩) (by show s.toArray.size ≤ maxLen; unfold maxLen; simp; omega)
  clear hr hs hbd hsl
  cases hh : l.any (fun b => b.name == s) with
  | true =>
    have H1 : Maps.has (mapOf nKey l 0) (.string s) = true := (nMap_has l s).trans hh
    have HA := Lib.hid (fun z => nMap_at z hh)
    clear hh
    generalize mapOf nKey l 0 = D at *
    generalize bxNamed l s = R at *
    go_enter Tryz.func154, Tryz.ntmps154
    go_wp2_with fail
    refine (C.out).mono ?_
    rintro e w1 ⟨rfl, hown, b1⟩
    go_wp2_with (at_lookup; refine wpList_lookup_own_ok_int _ rfl _ _ 124 rfl 9 3 .i64 (Maps.string_keyed Tryz.underlying9) Tryz.underlying124 Tryz.underlying3 (Tryz.zeroValue3 _) w.heap.size l.length D rfl hown _ _ rfl hkey ?_; intro c hat hwc)
    go_ret
    exact ⟨by rw [lit_int ((HA.out _).symm.trans hat)]; rfl, b1⟩
  | false =>
    have H1 : Maps.has (mapOf nKey l 0) (.string s) = false := (nMap_has l s).trans hh
    have HV := Lib.hid (show bxNamed l s = -1 from firstAt_no l 0 hh)
    clear hh
    generalize mapOf nKey l 0 = D at *
    generalize bxNamed l s = R at *
    go_enter Tryz.func154, Tryz.ntmps154
    go_wp2_with fail
    refine (C.out).mono ?_
    rintro e w1 ⟨rfl, hown, b1⟩
    go_wp2_with (at_lookup; refine wpList_lookup_own_ok_int _ rfl _ _ 124 rfl 9 3 .i64 (Maps.string_keyed Tryz.underlying9) Tryz.underlying124 Tryz.underlying3 (Tryz.zeroValue3 _) w.heap.size l.length D rfl hown _ _ rfl hkey ?_; intro c hat hwc)
    go_ret
    exact ⟨by rw [HV.out]; rfl, b1⟩

theorem placesByValidity_any (l : List BoxD) (v : Value) (W : World) (hr : LfRd W (boxsLf l) v) (hs : szLf (boxsLf l) ≤ 1048576) (hbd : LfBnd (boxsLf l)) :
    Calls Tryz.prog 112 #[v] W fun e W' => e = .returned (.map (some W.heap.size)) ∧ W'.ownsMap Tryz.prog 3 (plainElem (H := Unit) Tryz.prog 3) W.heap.size l.length (mapOf vKey l 0) ∧ Below W.heap.size W W' := by
  obtain ⟨hl, hkn, hkv, _⟩ := boxes_small hs hbd
  exact callsIn_wide.1 (placesByValidity_in Fence.wide 3 trivial trivial trivial rfl (by omega) l v W hr hl hkv)
set_option maxHeartbeats 1600000 in
theorem implBoxWith_c {G : World → Prop} : CtrBoxWith 104 G := by
  intro l v s w _ hr hs hbd hsl
  have hl : l.length ≤ 1048576 := (boxes_small hs hbd).1
  have C := Lib.hid (placesByValidity_any l v w hr hs hbd)
  obtain ⟨p, c, rfl⟩ := LfRd.slice hr
  have hkey : keyOf Tryz.prog 3 (.int .i64 s) = some (.int .i64 s) := Maps.keyOf_int_mk Tryz.underlying3 (in64_wf hsl)
  clear hr hs hbd hsl
  cases hh : l.any (fun b => b.validity == s) with
  | true =>
    have H1 : Maps.has (mapOf vKey l 0) (.int .i64 s) = true := (vMap_has l s).trans hh
    have HA := Lib.hid (fun z => vMap_at z hh)
    clear hh
    generalize mapOf vKey l 0 = D at *
    generalize bxWith l s = R at *
    go_enter Tryz.func104, Tryz.ntmps104
    go_wp2_with fail
    refine (C.out).mono ?_
    rintro e w1 ⟨rfl, hown, b1⟩
    go_wp2_with (at_lookup; refine wpList_lookup_own_ok_int _ rfl _ _ 128 rfl 3 3 .i64 (Maps.int_keyed Tryz.underlying3) Tryz.underlying128 Tryz.underlying3 (Tryz.zeroValue3 _) w.heap.size l.length D rfl hown _ _ rfl hkey ?_; intro c hat hwc)
    go_ret
    exact ⟨by rw [lit_int ((HA.out _).symm.trans hat)]; rfl, b1⟩
  | false =>
    have H1 : Maps.has (mapOf vKey l 0) (.int .i64 s) = false := (vMap_has l s).trans hh
    have HV := Lib.hid (show bxWith l s = -1 from firstAt_no l 0 hh)
    clear hh
    generalize mapOf vKey l 0 = D at *
    generalize bxWith l s = R at *
    go_enter Tryz.func104, Tryz.ntmps104
    go_wp2_with fail
    refine (C.out).mono ?_
    rintro e w1 ⟨rfl, hown, b1⟩
    go_wp2_with (at_lookup; refine wpList_lookup_own_ok_int _ rfl _ _ 128 rfl 3 3 .i64 (Maps.int_keyed Tryz.underlying3) Tryz.underlying128 Tryz.underlying3 (Tryz.zeroValue3 _) w.heap.size l.length D rfl hown _ _ rfl hkey ?_; intro c hat hwc)
    go_ret
    exact ⟨by rw [HV.out]; rfl, b1⟩

end Go.Proofs.YtbfgdbpfecffcaaGreatDoor
