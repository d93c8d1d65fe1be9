/-
  Chapter 10 in words: what a commit does to the boxes; what is right stays right.
-/
import Derived.Test.YthjeeggejkpjgaaComA
import Derived.Test.YthjeeggejkpjgaaGc
namespace Go.Proofs.Ythjeeggejkpjgaa
open Go.RowKit

/-- A box laid in behind those that come before it. -/
def layL (l : List BoxD) (b : BoxD) : List BoxD := (l.takeWhile fun x => Op.bytesLess x.name b.name) ++ b :: (l.dropWhile fun x => Op.bytesLess x.name b.name)
def whereB (l : List BoxD) (v : Int) : Nat := (bxWith l v).toNat
def appB (l : List BoxD) (m : ComD) : Bool :=
  boxesB l && commitB m &&
  if m.kind = 1 then decide ((l.length : Int) < 4) && decide (bxWith l m.validity < 0) && decide (bxNamed l m.name < 0)
  else !decide (bxWith l m.validity < 0) &&
    if m.kind = 3 then decide (bxNamed l m.name < 0)
    else match l[whereB l m.validity]? with
      | none => true
      | some b => if m.kind = 4 then (b.next == m.uid) && decide ((b.msgs.length : Int) < 6) else if m.kind = 5 ∨ m.kind = 6 then decide (0 ≤ bxPlace b m.uid) else true
/-- One box after a commit of its messages. -/
def boxAfter (b : BoxD) (m : ComD) : BoxD :=
  if m.kind = 4 then { b with msgs := b.msgs ++ [⟨m.uid, m.flags, m.text⟩], next := m.uid + 1 }
  else match b.msgs[(bxPlace b m.uid).toNat]? with
    | none => b
    | some q => if m.kind = 5 then { b with msgs := b.msgs.set (bxPlace b m.uid).toNat { q with flags := m.flags } } else { b with msgs := b.msgs.eraseIdx (bxPlace b m.uid).toNat }
def doneL (l : List BoxD) (m : ComD) : List BoxD :=
  if m.kind = 1 then layL l ⟨m.name, m.validity, 1, []⟩
  else match l[whereB l m.validity]? with
    | none => l
    | some b =>
      if m.kind = 2 then l.eraseIdx (whereB l m.validity)
      else if m.kind = 3 then layL (l.eraseIdx (whereB l m.validity)) { b with name := m.name }
      else l.set (whereB l m.validity) (boxAfter b m)
def appliedL (l : List BoxD) (m : ComD) : List BoxD := if appB l m then doneL l m else l
def allL : List BoxD → List ComD → List BoxD × Bool
  | l, [] => (l, true)
  | l, m :: r => if appB l m then allL (doneL l m) r else (l, false)

/-- What a right commit says. -/
theorem commit_parts {m : ComD} (h : commitB m = true) : (1 ≤ m.kind ∧ m.kind ≤ 6) ∧ (1 ≤ m.validity ∧ m.validity ≤ 999999999) ∧ wantC m = m ∧ (m.kind = 1 ∨ m.kind = 3 → nameB m.name = true) ∧ (4 ≤ m.kind → (1 ≤ m.uid ∧ m.uid ≤ 999999998) ∧ flB m.flags = true ∧ m.text.length ≤ 40) := by
  unfold commitB num9 at h
  rw [Bool.and_eq_true] at h
  obtain ⟨h1, h2⟩ := h
  simp only [Bool.and_eq_true, decide_eq_true_eq] at h1
  obtain ⟨⟨h3, h4⟩, h5⟩ := h1
  refine ⟨h3, h4, h5, fun hk => by rwa [if_pos hk] at h2, fun hk => ?_⟩
  rw [if_neg (by omega)] at h2
  simp only [Bool.or_eq_true, Bool.and_eq_true, decide_eq_true_eq, beq_iff_eq] at h2
  rcases h2 with h2 | ⟨⟨h6, h7⟩, h8⟩
  · omega
  · exact ⟨h6, h7, by omega⟩

/-- Boxes are right just if each is, they are few, their names ascend, their Validities differ. -/
theorem boxes_iff (l : List BoxD) : boxesB l = true ↔ l.length ≤ 4 ∧ (∀ b ∈ l, boxB b = true) ∧ l.Pairwise (fun x y => Op.bytesLess x.name y.name = true) ∧ l.Pairwise (fun x y => (x.validity == y.validity) = false) := by
  constructor
  · intro h
    obtain ⟨h1, h2⟩ := boxes_each h
    refine ⟨h1, h2, List.pairwise_iff_getElem.2 fun i j hi hj hij => ?_, List.pairwise_iff_getElem.2 fun i j hi hj hij => ?_⟩
    · exact boxes_asc h i j _ _ hij (List.getElem?_eq_getElem hi) (List.getElem?_eq_getElem hj)
    · exact boxes_diff h i j _ _ hij (List.getElem?_eq_getElem hi) (List.getElem?_eq_getElem hj)
  · rintro ⟨h1, h2, h3, h4⟩
    unfold boxesB
    rw [Bool.and_eq_true, decide_eq_true_eq]
    refine ⟨List.all_eq_true.2 fun i hi => ?_, by omega⟩
    have hi' : i < l.length := List.mem_range.1 hi
    have hx := List.getElem?_eq_getElem hi'
    have hw : bxWith (l.take i) (l[i]).validity < 0 := by
      refine Int.not_le.1 fun hc => ?_
      have : ∀ (r : List BoxD) (n : Nat), (∀ y ∈ r, (y.validity == (l[i]).validity) = false) → firstAt (fun b : BoxD => b.validity == (l[i]).validity) r n = -1 := by
        intro r
        induction r with
        | nil => intro n _; rfl
        | cons y r ih =>
          intro n h
          simp only [firstAt, h y (List.mem_cons_self ..), Bool.false_eq_true, if_false]
          exact ih (n + 1) fun z hz => h z (List.mem_cons_of_mem _ hz)
      have h5 := this (l.take i) 0 (fun y hy => by
        obtain ⟨j, hj, rfl⟩ := List.getElem_of_mem hy
        have hj' : j < i := by rw [List.length_take] at hj; omega
        rw [List.getElem_take]
        exact List.pairwise_iff_getElem.1 h4 j i (by omega) hi' hj')
      unfold bxWith at hc
      rw [h5] at hc
      omega
    unfold boxStep
    rw [hx]
    simp only [Bool.and_eq_true, decide_eq_true_eq]
    refine ⟨⟨h2 _ (List.getElem_mem hi'), ?_⟩, hw⟩
    cases i with
    | zero => rfl
    | succ j =>
      simp only [List.getElem?_eq_getElem (show j < l.length by omega)]
      exact List.pairwise_iff_getElem.1 h3 j (j + 1) (by omega) hi' (by omega)

theorem firstAt_ge {α : Type} {p : α → Bool} : ∀ (l : List α) (n : Nat), firstAt p l n = -1 ∨ ∃ i x, firstAt p l n = ((n + i : Nat) : Int) ∧ l[i]? = some x ∧ p x = true
  | [], _ => .inl rfl
  | b :: r, n => by
    cases hb : p b with
    | true => exact .inr ⟨0, b, by simp [firstAt, hb], rfl, hb⟩
    | false =>
      have e : firstAt p (b :: r) n = firstAt p r (n + 1) := by simp [firstAt, hb]
      rcases firstAt_ge r (n + 1) with h | ⟨i, x, h1, h2, h3⟩
      · exact .inl (e.trans h)
      · exact .inr ⟨i + 1, x, by rw [e, h1]; omega, by simpa using h2, h3⟩
theorem with_at {l : List BoxD} {v : Int} (h : ¬ bxWith l v < 0) : ∃ b, l[whereB l v]? = some b ∧ b.validity = v := by
  rcases firstAt_ge (p := fun b : BoxD => b.validity == v) l 0 with h1 | ⟨i, x, h1, h2, h3⟩
  · exact absurd (show bxWith l v < 0 by unfold bxWith; rw [h1]; omega) h
  · refine ⟨x, ?_, by simpa using h3⟩
    have : whereB l v = i := by unfold whereB bxWith; rw [h1]; omega
    rw [this]
    exact h2
theorem place_at {b : BoxD} {u : Int} (h : 0 ≤ bxPlace b u) : ∃ q, b.msgs[(bxPlace b u).toNat]? = some q ∧ q.uid = u := by
  rcases firstAt_ge (p := fun m : MsgD => m.uid == u) b.msgs 0 with h1 | ⟨i, x, h1, h2, h3⟩
  · unfold bxPlace at h; omega
  · refine ⟨x, ?_, by simpa using h3⟩
    have : (bxPlace b u).toNat = i := by unfold bxPlace; rw [h1]; omega
    rw [this]
    exact h2

theorem box_iff (b : BoxD) : boxB b = true ↔ nameB b.name = true ∧ (1 ≤ b.validity ∧ b.validity ≤ 999999999) ∧ (1 ≤ b.next ∧ b.next ≤ 999999999) ∧ b.msgs.length ≤ 6 ∧ (b.msgs.Pairwise fun x y => x.uid < y.uid) ∧ ∀ m ∈ b.msgs, (1 ≤ m.uid ∧ m.uid ≤ b.next - 1) ∧ flB m.flags = true ∧ m.text.length ≤ 40 := by
  constructor
  · intro h
    obtain ⟨h1, h2, h3, h4, h5⟩ := box_parts h
    refine ⟨h1, h2, h3, h4, List.pairwise_iff_getElem.2 fun i j hi hj hij => box_asc h i j _ _ hij (List.getElem?_eq_getElem hi) (List.getElem?_eq_getElem hj), fun m hm => ?_⟩
    obtain ⟨i, hi, rfl⟩ := List.getElem_of_mem hm
    exact h5 i _ (List.getElem?_eq_getElem hi)
  · rintro ⟨h1, h2, h3, h4, h5, h6⟩
    unfold boxB num9
    simp only [Bool.and_eq_true, decide_eq_true_eq]
    refine ⟨⟨⟨⟨h1, h2⟩, h3⟩, by omega⟩, List.all_eq_true.2 fun i hi => ?_⟩
    have hi' : i < b.msgs.length := List.mem_range.1 hi
    obtain ⟨h7, h8, h9⟩ := h6 _ (List.getElem_mem hi')
    unfold msgStep
    rw [List.getElem?_eq_getElem hi']
    simp only [Bool.and_eq_true, decide_eq_true_eq]
    refine ⟨⟨⟨h7, ?_⟩, h8⟩, by omega⟩
    cases i with
    | zero => rfl
    | succ j =>
      simp only [List.getElem?_eq_getElem (show j < b.msgs.length by omega), decide_eq_true_eq]
      exact List.pairwise_iff_getElem.1 h5 j (j + 1) (by omega) hi' (by omega)

theorem lessC_lt : ∀ (x y : List UInt8), Op.bytesLess x y = decide (x < y)
  | [], [] => by simp [Op.bytesLess]
  | [], y :: l => by simp [Op.bytesLess]
  | x :: k, [] => by simp [Op.bytesLess]
  | x :: k, y :: l => by
    have h := lessC_lt k l
    simp only [Op.bytesLess, h]
    rw [Bool.eq_iff_iff]
    simp only [Bool.or_eq_true, Bool.and_eq_true, decide_eq_true_eq, beq_iff_eq, List.cons_lt_cons_iff]
theorem less_total {a b : List UInt8} (h : ¬ Op.bytesLess a b = true) (hn : a ≠ b) : Op.bytesLess b a = true := by
  rw [lessC_lt, decide_eq_true_eq] at h ⊢
  have h1 : b ≤ a := List.not_lt.1 h
  exact Decidable.byContradiction fun hc => hn (List.le_antisymm (List.not_lt.1 hc) h1)
theorem lay_perm (l : List BoxD) (b : BoxD) : (layL l b).Perm (b :: l) := by
  unfold layL
  refine List.perm_middle.trans ?_
  rw [List.takeWhile_append_dropWhile]
theorem lay_asc {l : List BoxD} {b : BoxD} (h : l.Pairwise fun x y => Op.bytesLess x.name y.name = true) (hn : ∀ x ∈ l, x.name ≠ b.name) : (layL l b).Pairwise fun x y => Op.bytesLess x.name y.name = true := by
  unfold layL
  have ht : ∀ x ∈ l.takeWhile (fun x => Op.bytesLess x.name b.name), Op.bytesLess x.name b.name = true := fun x hx => by
    have := List.all_takeWhile (p := fun x : BoxD => Op.bytesLess x.name b.name) (l := l)
    exact List.all_eq_true.1 this x hx
  have hd : ∀ x ∈ l.dropWhile (fun x => Op.bytesLess x.name b.name), Op.bytesLess b.name x.name = true := by
    have hs : (l.dropWhile fun x => Op.bytesLess x.name b.name).Pairwise fun x y => Op.bytesLess x.name y.name = true := h.sublist (List.dropWhile_sublist _)
    cases hd : l.dropWhile (fun x => Op.bytesLess x.name b.name) with
    | nil => intro x hx; cases hx
    | cons y r =>
      have hy : ¬ Op.bytesLess y.name b.name = true := by
        have := List.head?_dropWhile_not (fun x : BoxD => Op.bytesLess x.name b.name) l
        rw [hd] at this
        simpa using this
      have hym : y ∈ l := (List.dropWhile_sublist _).subset (by rw [hd]; exact List.mem_cons_self ..)
      have hby := less_total hy (hn y hym)
      rw [hd] at hs
      intro x hx
      rcases List.mem_cons.1 hx with rfl | hx
      · exact hby
      · exact less_trans _ _ _ hby ((List.pairwise_cons.1 hs).1 x hx)
  refine List.pairwise_append.2 ⟨h.sublist (List.takeWhile_sublist _), List.pairwise_cons.2 ⟨hd, h.sublist (List.dropWhile_sublist _)⟩, fun x hx y hy => ?_⟩
  rcases List.mem_cons.1 hy with rfl | hy
  · exact ht x hx
  · exact less_trans _ _ _ (ht x hx) (hd y hy)
theorem lay_diff {l : List BoxD} {b : BoxD} (h : l.Pairwise fun x y => (x.validity == y.validity) = false) (hn : ∀ x ∈ l, x.validity ≠ b.validity) : (layL l b).Pairwise fun x y => (x.validity == y.validity) = false := by
  refine (lay_perm l b).symm.pairwise (List.pairwise_cons.2 ⟨fun x hx => ?_, h⟩) (fun {x y} hxy => ?_)
  · rw [beq_eq_false_iff_ne]
    exact fun e => hn x hx e.symm
  · rw [beq_eq_false_iff_ne] at hxy ⊢
    exact fun e => hxy e.symm
theorem lay_right {l : List BoxD} {b : BoxD} (h : boxesB l = true) (hl : l.length < 4) (hb : boxB b = true) (hn : ∀ x ∈ l, x.name ≠ b.name) (hv : ∀ x ∈ l, x.validity ≠ b.validity) : boxesB (layL l b) = true := by
  obtain ⟨_, h2, h3, h4⟩ := (boxes_iff l).1 h
  refine (boxes_iff _).2 ⟨by rw [(lay_perm l b).length_eq, List.length_cons]; omega, fun x hx => ?_, lay_asc h3 hn, lay_diff h4 hv⟩
  rcases List.mem_cons.1 ((lay_perm l b).mem_iff.1 hx) with rfl | hx
  · exact hb
  · exact h2 x hx
theorem erase_right {l : List BoxD} (h : boxesB l = true) (k : Nat) : boxesB (l.eraseIdx k) = true := by
  obtain ⟨h1, h2, h3, h4⟩ := (boxes_iff l).1 h
  have hs := List.eraseIdx_sublist l k
  exact (boxes_iff _).2 ⟨Nat.le_trans hs.length_le h1, fun x hx => h2 x (hs.subset hx), h3.sublist hs, h4.sublist hs⟩
theorem set_same {α β : Type} {l : List α} {k : Nat} {x y : α} (f : α → β) (hx : l[k]? = some x) (hf : f y = f x) : (l.set k y).map f = l.map f := by
  rw [List.map_set, hf]
  obtain ⟨h1, h2⟩ := List.getElem?_eq_some_iff.1 hx
  rw [← h2]
  apply List.ext_getElem (by simp)
  intro i h3 h4
  by_cases e : k = i
  · subst e; simp
  · rw [List.getElem_set_ne e]
theorem pair_map {α β : Type} {f : α → β} {r : β → β → Prop} {l m : List α} (e : l.map f = m.map f) (h : l.Pairwise fun x y => r (f x) (f y)) : m.Pairwise fun x y => r (f x) (f y) := by
  have h1 : (l.map f).Pairwise r := List.pairwise_map.2 h
  rw [e] at h1
  exact List.pairwise_map.1 h1
theorem set_right {l : List BoxD} (h : boxesB l = true) {k : Nat} {b b' : BoxD} (hb : l[k]? = some b) (hb' : boxB b' = true) (hn : b'.name = b.name) (hv : b'.validity = b.validity) : boxesB (l.set k b') = true := by
  obtain ⟨h1, h2, h3, h4⟩ := (boxes_iff l).1 h
  refine (boxes_iff _).2 ⟨by rw [List.length_set]; exact h1, fun x hx => ?_, pair_map (f := fun b : BoxD => b.name) (r := fun a b => Op.bytesLess a b = true) (set_same _ hb hn).symm h3, pair_map (f := fun b : BoxD => b.validity) (r := fun a b => (a == b) = false) (set_same _ hb hv).symm h4⟩
  rcases List.mem_or_eq_of_mem_set hx with hx | hx
  · exact h2 x hx
  · rw [hx]; exact hb'
theorem named_not {l : List BoxD} {s : List UInt8} (h : bxNamed l s < 0) : ∀ x ∈ l, x.name ≠ s := fun x hx => by
  have := firstAt_none l 0 h x hx
  simpa using this
theorem with_not {l : List BoxD} {v : Int} (h : bxWith l v < 0) : ∀ x ∈ l, x.validity ≠ v := fun x hx => by
  have := firstAt_none l 0 h x hx
  simpa using this
theorem after_keeps (b : BoxD) (m : ComD) : (boxAfter b m).name = b.name ∧ (boxAfter b m).validity = b.validity := by
  unfold boxAfter
  split
  · exact ⟨rfl, rfl⟩
  · split
    · exact ⟨rfl, rfl⟩
    · split <;> exact ⟨rfl, rfl⟩

/-- What 'applies' says. -/
theorem app_parts {l : List BoxD} {m : ComD} (h : appB l m = true) : boxesB l = true ∧ commitB m = true ∧ (m.kind = 1 → l.length < 4 ∧ bxWith l m.validity < 0 ∧ bxNamed l m.name < 0) ∧ (m.kind ≠ 1 → ∃ b, l[whereB l m.validity]? = some b ∧ b.validity = m.validity ∧ (m.kind = 3 → bxNamed l m.name < 0) ∧ (m.kind = 4 → b.next = m.uid ∧ b.msgs.length < 6) ∧ (m.kind = 5 ∨ m.kind = 6 → 0 ≤ bxPlace b m.uid)) := by
  unfold appB at h
  rw [Bool.and_eq_true, Bool.and_eq_true] at h
  obtain ⟨⟨h1, h2⟩, h3⟩ := h
  refine ⟨h1, h2, fun hk => ?_, fun hk => ?_⟩
  · rw [if_pos hk] at h3
    simp only [Bool.and_eq_true, decide_eq_true_eq] at h3
    obtain ⟨⟨h4, h5⟩, h6⟩ := h3
    exact ⟨by omega, h5, h6⟩
  · rw [if_neg hk, Bool.and_eq_true] at h3
    obtain ⟨h4, h5⟩ := h3
    have h4' : ¬ bxWith l m.validity < 0 := by simpa using h4
    obtain ⟨b, hb, hv⟩ := with_at h4'
    refine ⟨b, hb, hv, fun h => ?_, fun h => ?_, fun h => ?_⟩
    · rw [if_pos h] at h5
      simpa using h5
    · rw [if_neg (by omega), hb] at h5
      simp only [if_pos h, Bool.and_eq_true, decide_eq_true_eq, beq_iff_eq] at h5
      exact ⟨h5.1, by omega⟩
    · rw [if_neg (by omega), hb] at h5
      simp only [if_neg (show ¬ m.kind = 4 by omega), if_pos h, decide_eq_true_eq] at h5
      exact h5
theorem after_right {b : BoxD} {m : ComD} (hb : boxB b = true) (hm : commitB m = true) (hk : 4 ≤ m.kind) (h4 : m.kind = 4 → b.next = m.uid ∧ b.msgs.length < 6) (h5 : m.kind = 5 ∨ m.kind = 6 → 0 ≤ bxPlace b m.uid) : boxB (boxAfter b m) = true := by
  obtain ⟨b1, b2, b3, b4, b5, b6⟩ := (box_iff b).1 hb
  obtain ⟨k1, _, _, _, k5⟩ := commit_parts hm
  obtain ⟨u1, u2, u3⟩ := k5 hk
  unfold boxAfter
  by_cases e4 : m.kind = 4
  · rw [if_pos e4]
    obtain ⟨n1, n2⟩ := h4 e4
    refine (box_iff _).2 ⟨b1, b2, ⟨by simp only; omega, by simp only; omega⟩, by simp; omega, List.pairwise_append.2 ⟨b5, by simp, fun x hx y hy => ?_⟩, fun x hx => ?_⟩
    · rw [List.mem_singleton.1 hy]
      have := (b6 x hx).1
      simp only
      omega
    · rcases List.mem_append.1 hx with hx | hx
      · obtain ⟨a1, a2, a3⟩ := b6 x hx
        exact ⟨⟨a1.1, by simp only; omega⟩, a2, a3⟩
      · rw [List.mem_singleton.1 hx]
        exact ⟨⟨u1.1, by simp only; omega⟩, u2, u3⟩
  · rw [if_neg e4]
    obtain ⟨q, hq, hqu⟩ := place_at (h5 (by omega))
    rw [hq]
    simp only
    have hqm := b6 q (List.mem_of_getElem? hq)
    by_cases e5 : m.kind = 5
    · rw [if_pos e5]
      refine (box_iff _).2 ⟨b1, b2, b3, by simp; exact b4, pair_map (f := fun m : MsgD => m.uid) (r := fun a b => a < b) (set_same (y := { q with flags := m.flags }) _ hq rfl).symm b5, fun x hx => ?_⟩
      rcases List.mem_or_eq_of_mem_set hx with hx | hx
      · exact b6 x hx
      · rw [hx]; exact ⟨hqm.1, u2, hqm.2.2⟩
    · rw [if_neg e5]
      have hs := List.eraseIdx_sublist b.msgs (bxPlace b m.uid).toNat
      exact (box_iff _).2 ⟨b1, b2, b3, Nat.le_trans hs.length_le b4, b5.sublist hs, fun x hx => b6 x (hs.subset hx)⟩
/-- What is right stays right. -/
theorem done_right {l : List BoxD} {m : ComD} (h : appB l m = true) : boxesB (doneL l m) = true := by
  obtain ⟨h1, h2, h3, h4⟩ := app_parts h
  obtain ⟨k1, k2, _, k4, _⟩ := commit_parts h2
  obtain ⟨_, l2, _, l4⟩ := (boxes_iff l).1 h1
  unfold doneL
  by_cases e1 : m.kind = 1
  · rw [if_pos e1]
    obtain ⟨n1, n2, n3⟩ := h3 e1
    exact lay_right h1 n1 ((box_iff _).2 ⟨k4 (.inl e1), k2, ⟨by simp, by simp⟩, by simp, List.Pairwise.nil, by simp⟩) (named_not n3) (with_not n2)
  · rw [if_neg e1]
    obtain ⟨b, hb, hv, n3, n4, n5⟩ := h4 e1
    rw [hb]
    simp only
    have hbr := l2 b (List.mem_of_getElem? hb)
    by_cases e2 : m.kind = 2
    · rw [if_pos e2]; exact erase_right h1 _
    · rw [if_neg e2]
      by_cases e3 : m.kind = 3
      · rw [if_pos e3]
        obtain ⟨hlt, hbe⟩ := List.getElem?_eq_some_iff.1 hb
        obtain ⟨b1, b2, b3, b4, b5, b6⟩ := (box_iff b).1 hbr
        refine lay_right (erase_right h1 _) (by rw [List.length_eraseIdx_of_lt hlt]; have := ((boxes_iff l).1 h1).1; omega) ((box_iff _).2 ⟨k4 (.inr e3), b2, b3, b4, b5, b6⟩) (fun x hx => named_not (n3 e3) x ((List.eraseIdx_sublist l _).subset hx)) (fun x hx e => ?_)
        obtain ⟨j, hj, rfl⟩ := List.getElem_of_mem hx
        have hj' := hj
        rw [List.length_eraseIdx_of_lt hlt] at hj'
        rw [List.getElem_eraseIdx] at e
        have hp := List.pairwise_iff_getElem.1 l4
        split at e
        · rename_i hjk
          have := hp j (whereB l m.validity) (by omega) hlt hjk
          rw [hbe, beq_eq_false_iff_ne] at this
          exact this e
        · rename_i hjk
          have := hp (whereB l m.validity) (j + 1) hlt (by omega) (by omega)
          rw [hbe, beq_eq_false_iff_ne] at this
          exact this e.symm
      · rw [if_neg e3]
        obtain ⟨a1, a2⟩ := after_keeps b m
        exact set_right h1 hb (after_right hbr h2 (by omega) n4 n5) a1 a2
end Go.Proofs.Ythjeeggejkpjgaa
