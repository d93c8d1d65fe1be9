/-
  Chapter 9, the program: what its maps hold, and what follows when they are asked.
-/
import Derived.Maps.OwnIn
import Derived.Sort.KeysCollected
import Derived.Test.YtboinphhpfggnaaBoxA
namespace Go.Proofs.Ytboinphhpfggnaa
open Go.RowKit

/-- The map that is filled from the list's end: at each key the place of the first box that bears it. -/
def mapOf (key : BoxD → Lit) : List BoxD → Nat → DataW Unit
  | [], _ => .map []
  | b :: r, i => (mapOf key r (i + 1)).put (key b) (.lit (.int .i64 (i : Int)))
def mapStep (key : BoxD → Lit) (l : List BoxD) (D : DataW Unit) (i : Nat) : DataW Unit :=
  match l[i]? with
  | none => D
  | some b => D.put (key b) (.lit (.int .i64 (i : Int)))
theorem mapOf_fold (key : BoxD → Lit) (l : List BoxD) : ∀ m j : Nat, j + m = l.length → (List.range' j m).reverse.foldl (mapStep key l) (.map []) = mapOf key (l.drop j) j
  | 0, j, h => by
    obtain rfl : j = l.length := by omega
    rw [List.drop_length]
    rfl
  | m + 1, j, h => by
    have hj : j < l.length := by omega
    rw [List.range'_succ, List.reverse_cons, List.foldl_append, mapOf_fold key l m (j + 1) (by omega), List.drop_eq_getElem_cons hj]
    show mapStep key l _ j = _
    unfold mapStep
    rw [List.getElem?_eq_getElem hj]
    rfl
theorem mapOf_isMap (key : BoxD → Lit) : ∀ (l : List BoxD) (i : Nat), Maps.IsMap (mapOf key l i)
  | [], _ => Maps.isMap_empty
  | _ :: r, i => (mapOf_isMap key r (i + 1)).put _ _
theorem mapOf_has {key : BoxD → Lit} (hk : ∀ b, WideAt.IsKeyLit (key b)) (k : Lit) : ∀ (l : List BoxD) (i : Nat), Maps.has (mapOf key l i) k = l.any (fun b => (key b).sameKey k)
  | [], _ => rfl
  | b :: r, i => by
    rw [List.any_cons]
    by_cases h : k = key b
    · subst h
      rw [WideAt.sameKey_self (hk b)]
      exact Maps.has_put_same (mapOf_isMap key r (i + 1)) (hk b) _
    · rw [Maps.sameKey_ne (fun e => h e.symm), Bool.false_or, ← mapOf_has hk k r (i + 1)]
      exact Maps.has_put_other h _
theorem mapOf_at {key : BoxD → Lit} (hk : ∀ b, WideAt.IsKeyLit (key b)) (k : Lit) (z : DataW Unit) : ∀ (l : List BoxD) (i : Nat), l.any (fun b => (key b).sameKey k) = true → (mapOf key l i).atKey k z = .lit (.int .i64 (firstAt (fun b => (key b).sameKey k) l i))
  | [], _, h => by cases h
  | b :: r, i, h => by
    by_cases e : k = key b
    · subst e
      simp only [firstAt, WideAt.sameKey_self (hk b), if_true]
      exact Maps.atKey_put_same (mapOf_isMap key r (i + 1)) (hk b) _ _
    · have hn := Maps.sameKey_ne (fun x => e x.symm : key b ≠ k)
      rw [List.any_cons, hn, Bool.false_or] at h
      simp only [firstAt, hn, Bool.false_eq_true, if_false]
      exact (Maps.atKey_put_other e _ _).trans (mapOf_at hk k z r (i + 1) h)
theorem firstAt_no {α : Type} {p : α → Bool} : ∀ (l : List α) (i : Nat), l.any p = false → firstAt p l i = -1
  | [], _, _ => rfl
  | b :: r, i, h => by
    rw [List.any_cons, Bool.or_eq_false_iff] at h
    simp only [firstAt, h.1, Bool.false_eq_true, if_false]
    exact firstAt_no r (i + 1) h.2

def nKey (b : BoxD) : Lit := .string b.name
def vKey (b : BoxD) : Lit := .int .i64 b.validity
theorem nKey_lit (b : BoxD) : WideAt.IsKeyLit (nKey b) := trivial
theorem vKey_lit (b : BoxD) : WideAt.IsKeyLit (vKey b) := trivial
theorem nKey_same (b : BoxD) (s : List UInt8) : (nKey b).sameKey (.string s) = (b.name == s) := rfl
theorem vKey_same (b : BoxD) (v : Int) : (vKey b).sameKey (.int .i64 v) = (b.validity == v) := by rw [Bool.eq_iff_iff]; simp [vKey, Lit.sameKey]
theorem vKey_fun (v : Int) : (fun b : BoxD => (vKey b).sameKey (.int .i64 v)) = fun b => b.validity == v := funext fun b => vKey_same b v
theorem nMap_at {l : List BoxD} {s : List UInt8} (z : DataW Unit) (h : l.any (fun b => b.name == s) = true) : (mapOf nKey l 0).atKey (.string s) z = .lit (.int .i64 (bxNamed l s)) := mapOf_at nKey_lit (.string s) z l 0 h
theorem vMap_at {l : List BoxD} {v : Int} (z : DataW Unit) (h : l.any (fun b => b.validity == v) = true) : (mapOf vKey l 0).atKey (.int .i64 v) z = .lit (.int .i64 (bxWith l v)) := by
  have := mapOf_at vKey_lit (.int .i64 v) z l 0 (by rw [vKey_fun]; exact h)
  rw [vKey_fun] at this
  exact this
theorem nMap_has (l : List BoxD) (s : List UInt8) : Maps.has (mapOf nKey l 0) (.string s) = l.any (fun b => b.name == s) := mapOf_has nKey_lit (.string s) l 0
theorem vMap_has (l : List BoxD) (v : Int) : Maps.has (mapOf vKey l 0) (.int .i64 v) = l.any (fun b => b.validity == v) := by
  have := mapOf_has vKey_lit (.int .i64 v) l 0
  rw [vKey_fun] at this
  exact this

def ascB (l : List BoxD) : Bool := decide (l.Pairwise fun x y => Op.bytesLess x.name y.name = true)
def diffB (l : List BoxD) : Bool := decide (l.Pairwise fun x y => (x.validity == y.validity) = false)
/-- Right boxes, part by part. -/
theorem boxesB_parts (l : List BoxD) : boxesB l = (l.all boxB && (decide ((l.length : Int) ≤ 4) && ascB l && diffB l)) := by
  rw [Bool.eq_iff_iff]
  constructor
  · intro h
    obtain ⟨h1, h2⟩ := boxes_each h
    simp only [Bool.and_eq_true, decide_eq_true_eq, List.all_eq_true, ascB, diffB]
    refine ⟨h2, ⟨by omega, List.pairwise_iff_getElem.2 fun i j hi hj hij => ?_⟩, List.pairwise_iff_getElem.2 fun i j hi hj hij => ?_⟩
    · exact boxes_asc h i j _ _ hij (List.getElem?_eq_getElem hi) (List.getElem?_eq_getElem hj)
    · exact boxes_diff h i j _ _ hij (List.getElem?_eq_getElem hi) (List.getElem?_eq_getElem hj)
  · intro h
    simp only [Bool.and_eq_true, decide_eq_true_eq, List.all_eq_true, ascB, diffB] at h
    obtain ⟨h1, ⟨h2, h3⟩, h4⟩ := h
    unfold boxesB
    rw [Bool.and_eq_true, decide_eq_true_eq]
    refine ⟨List.all_eq_true.2 fun i hi => ?_, h2⟩
    have hi' : i < l.length := List.mem_range.1 hi
    have hx := List.getElem?_eq_getElem hi'
    have hw : bxWith (l.take i) (l[i]).validity = -1 := firstAt_no _ _ (by
      rw [List.any_eq_false]
      intro y hy
      obtain ⟨j, hj, rfl⟩ := List.getElem_of_mem hy
      have hj' : j < i := by rw [List.length_take] at hj; omega
      have := List.pairwise_iff_getElem.1 h4 j i (by omega) hi' hj'
      rw [List.getElem_take]
      rw [this]
      simp)
    unfold boxStep
    rw [hx]
    simp only [Bool.and_eq_true, decide_eq_true_eq]
    refine ⟨⟨h1 _ (List.getElem_mem hi'), ?_⟩, by omega⟩
    cases i with
    | zero => rfl
    | succ j =>
      have hq := List.getElem?_eq_getElem (show j < l.length by omega)
      simp only [hq]
      exact List.pairwise_iff_getElem.1 h3 j (j + 1) (by omega) hi' (by omega)

theorem less_lt : ∀ (x y : List UInt8), Op.bytesLess x y = decide (x < y)
  | [], [] => by simp [Op.bytesLess]
  | [], y :: l => by simp [Op.bytesLess]
  | x :: k, [] => by simp [Op.bytesLess]
  | x :: k, y :: l => by
    have h := less_lt k l
    simp only [Op.bytesLess, h]
    rw [Bool.eq_iff_iff]
    simp only [Bool.or_eq_true, Bool.and_eq_true, decide_eq_true_eq, beq_iff_eq, List.cons_lt_cons_iff]
theorem leB_tr : ∀ a b c : List UInt8, leB a b = true → leB b c = true → leB a c = true := fun a b c h1 h2 => by simp only [leB, decide_eq_true_eq] at *; exact List.le_trans h1 h2
theorem leB_to : ∀ a b : List UInt8, (leB a b || leB b a) = true := fun a b => by simp only [leB, Bool.or_eq_true, decide_eq_true_eq]; exact List.le_total a b
theorem leB_less {a b : List UInt8} (h : leB a b = true) (hn : a ≠ b) : Op.bytesLess a b = true := by
  rw [less_lt, decide_eq_true_eq]
  simp only [leB, decide_eq_true_eq] at h
  exact Decidable.byContradiction fun hc => hn (List.le_antisymm h (List.not_lt.1 hc))
theorem less_leB {a b : List UInt8} (h : Op.bytesLess a b = true) : leB a b = true := by
  rw [less_lt, decide_eq_true_eq] at h
  simp only [leB, decide_eq_true_eq]
  exact List.le_of_lt h

/-- The names in order stand at their places. -/
def namesR (l : List BoxD) (ns : List (List UInt8)) : Bool := (List.range ns.length).all (fun i => bxNamed l ((ns[i]?).getD []) == (i : Int)) && decide (ns.length = l.length)
theorem firstAt_hit {α : Type} {p : α → Bool} : ∀ (l : List α) (n i : Nat), firstAt p l n = ((n + i : Nat) : Int) → ∃ x, l[i]? = some x ∧ p x = true
  | [], n, i, h => by simp only [firstAt] at h; omega
  | b :: r, n, i, h => by
    cases hb : p b with
    | true =>
      simp only [firstAt, hb, if_true] at h
      obtain rfl : i = 0 := by omega
      exact ⟨b, rfl, hb⟩
    | false =>
      simp only [firstAt, hb, Bool.false_eq_true, if_false] at h
      cases i with
      | zero =>
        exfalso
        have : ∀ (r : List α) (m : Nat), firstAt p r m = -1 ∨ (m : Int) ≤ firstAt p r m := by
          intro r
          induction r with
          | nil => intro m; exact .inl rfl
          | cons c r ih =>
            intro m
            simp only [firstAt]
            cases p c with
            | true => right; simp
            | false =>
              simp only [Bool.false_eq_true, if_false]
              rcases ih (m + 1) with h | h
              · exact .inl h
              · right; omega
        rcases this r (n + 1) with h1 | h1 <;> omega
      | succ j =>
        obtain ⟨x, h1, h2⟩ := firstAt_hit r (n + 1) j (by rw [h]; congr 1; omega)
        exact ⟨x, by simpa using h1, h2⟩
theorem names_asc {l : List BoxD} {ss : List (List UInt8)} (hnd : ss.Nodup) (hm : ∀ x, x ∈ ss ↔ l.any (fun b => b.name == x) = true) : namesR l (ss.mergeSort leB) = ascB l := by
  have hp : (ss.mergeSort leB).Perm ss := List.mergeSort_perm ss leB
  rw [Bool.eq_iff_iff]
  constructor
  · intro h
    unfold namesR at h
    rw [Bool.and_eq_true, decide_eq_true_eq] at h
    obtain ⟨h1, h2⟩ := h
    have hs := List.pairwise_mergeSort leB_tr leB_to ss
    have hd := hp.nodup_iff.2 hnd
    generalize ss.mergeSort leB = ns at *
    have hat : ∀ i (hi : i < l.length), (l[i]).name = ns[i]'(by omega) := fun i hi => by
      have := List.all_eq_true.1 h1 i (List.mem_range.2 (by omega))
      rw [beq_iff_eq, List.getElem?_eq_getElem (show i < ns.length by omega)] at this
      obtain ⟨x, hx, hy⟩ := firstAt_hit l 0 i (by rw [Nat.zero_add]; exact this)
      rw [List.getElem?_eq_getElem hi] at hx
      cases hx
      simpa using hy
    simp only [ascB, decide_eq_true_eq]
    refine List.pairwise_iff_getElem.2 fun i j hi hj hij => ?_
    rw [hat i hi, hat j hj]
    refine leB_less (List.pairwise_iff_getElem.1 hs i j (by omega) (by omega) hij) ?_
    exact List.pairwise_iff_getElem.1 hd i j (by omega) (by omega) hij
  · intro h
    simp only [ascB, decide_eq_true_eq] at h
    have hpw : (l.map (·.name)).Pairwise (fun x y => Op.bytesLess x y = true) := List.pairwise_map.2 h
    have hp2 : ss.Perm (l.map (·.name)) := by
      refine (List.perm_ext_iff_of_nodup hnd (hpw.imp fun hxy => less_ne hxy)).2 fun x => ?_
      rw [hm x, List.any_eq_true, List.mem_map]
      constructor
      · rintro ⟨b, hb, e⟩; exact ⟨b, hb, by simpa using e⟩
      · rintro ⟨b, hb, e⟩; exact ⟨b, hb, by simpa using e⟩
    have he : ss.mergeSort leB = l.map (·.name) := by
      rw [mergeSort_of_perm hp2]
      exact List.mergeSort_of_pairwise (hpw.imp fun hxy => less_leB hxy)
    rw [he]
    unfold namesR
    rw [Bool.and_eq_true, decide_eq_true_eq]
    refine ⟨List.all_eq_true.2 fun i hi => ?_, by simp⟩
    have hi' : i < l.length := by simpa using List.mem_range.1 hi
    rw [beq_iff_eq, List.getElem?_map, List.getElem?_eq_getElem hi']
    show bxNamed l (l[i]).name = _
    unfold bxNamed
    rw [firstAt_eq l 0 i l[i] (List.getElem?_eq_getElem hi') (by simp) (fun j y hj hy => ?_)]
    · simp
    · obtain ⟨hj', rfl⟩ := List.getElem?_eq_some_iff.1 hy
      have := less_ne (List.pairwise_iff_getElem.1 h j i hj' hi' hj)
      simpa using this

/-- One more Validity that was not there. -/
theorem diff_step {l : List BoxD} {k : Nat} {x : BoxD} (hx : l[k]? = some x) (h : (l.take k).Pairwise fun x y => (x.validity == y.validity) = false) (hn : (l.take k).any (fun b => b.validity == x.validity) = false) : (l.take (k + 1)).Pairwise fun x y => (x.validity == y.validity) = false := by
  rw [List.take_add_one, hx]
  refine List.pairwise_append.2 ⟨h, by simp, fun a ha b hb => ?_⟩
  simp only [Option.toList_some, List.mem_singleton] at hb
  subst hb
  have := List.any_eq_false.1 hn a ha
  simpa using this
theorem diff_not {l : List BoxD} {k : Nat} {x : BoxD} (hx : l[k]? = some x) (hn : (l.take k).any (fun b => b.validity == x.validity) = true) : diffB l = false := by
  unfold diffB
  rw [decide_eq_false_iff_not]
  intro h
  obtain ⟨y, hy, e⟩ := List.any_eq_true.1 hn
  obtain ⟨j, hj, rfl⟩ := List.getElem_of_mem hy
  obtain ⟨hk, rfl⟩ := List.getElem?_eq_some_iff.1 hx
  have hj' : j < k := by rw [List.length_take] at hj; omega
  have := List.pairwise_iff_getElem.1 h j k (by omega) hk hj'
  rw [List.getElem_take] at e
  rw [this] at e
  cases e
/-- What is left of the map of Validities when k boxes have been struck. -/
def vLeft (l : List BoxD) (k : Nat) (D : DataW Unit) : Prop := ∀ v : Int, Maps.has D (.int .i64 v) = (l.any (fun b => b.validity == v) && !(l.take k).any (fun b => b.validity == v))
theorem vLeft_start (l : List BoxD) : vLeft l 0 (mapOf vKey l 0) := fun v => by rw [vMap_has]; simp
theorem vLeft_step {l : List BoxD} {k : Nat} {x : BoxD} {D : DataW Unit} (hx : l[k]? = some x) (h : vLeft l k D) : vLeft l (k + 1) (D.del (.int .i64 x.validity)) := fun v => by
  rw [List.take_add_one, hx, List.any_append]
  simp only [Option.toList_some, List.any_cons, List.any_nil, Bool.or_false]
  by_cases e : v = x.validity
  · subst e
    rw [Maps.has_del_same]
    simp
  · rw [Maps.has_del_other (by intro h; injection h with _ h; exact e h), h v]
    have : (x.validity == v) = false := by rw [beq_eq_false_iff_ne]; exact fun h => e h.symm
    rw [this, Bool.or_false]
theorem vLeft_at {l : List BoxD} {k : Nat} {x : BoxD} {D : DataW Unit} (hx : l[k]? = some x) (h : vLeft l k D) : Maps.has D (.int .i64 x.validity) = !(l.take k).any (fun b => b.validity == x.validity) := by
  rw [h x.validity, List.any_eq_true.2 ⟨x, List.mem_of_getElem? hx, by simp⟩, Bool.true_and]
theorem diff_end {l : List BoxD} (h : (l.take l.length).Pairwise fun x y => (x.validity == y.validity) = false) : diffB l = true := by
  rw [List.take_length] at h
  exact decide_eq_true h

end Go.Proofs.Ytboinphhpfggnaa
