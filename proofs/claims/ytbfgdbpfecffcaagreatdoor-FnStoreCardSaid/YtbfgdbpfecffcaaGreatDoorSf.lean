/-
  Sf: BoxA ComA ComC Row (what the claim needs of them).
-/
import Derived.Test.YtbfgdbpfecffcaaGreatDoorRows
import Derived.WalkKit
import Derived.WalkSpells
import Derived.WalkLawsBesides
import Derived.Laws.IdiomStrings
import Derived.Lib.Hide
import Derived.Deep.AppendLies
import Derived.OrdersHeld
import Derived.Lib.ItoaNum
import Derived.Lib.ItoaMem
import Derived.Lib.AppendStr
import Derived.Lib.ItoaLen
import Derived.Lib.Strings
import Derived.Lib.Bytealg
import Derived.Lib.OthersKept
import Derived.Laws.RangeAny
import Derived.Laws.BitsAllLaws
import Derived.Laws.BitsLemmas
import Derived.IntWalk
import Derived.Handy
import Derived.Lib.Join
import Derived.Deep.Strs
import Derived.Test.YtbfgdbpfecffcaaGreatDoorProg
import Derived.Test.YtbfgdbpfecffcaaGreatDoorSb
import Derived.Test.YtbfgdbpfecffcaaGreatDoorSc
import Derived.Test.YtbfgdbpfecffcaaGreatDoorSd
import Derived.Test.YtbfgdbpfecffcaaGreatDoorSe

namespace Go.Proofs.YtbfgdbpfecffcaaGreatDoor
open Go.RowKit

/-- The place of the first that is as p says, or -1; places counted from i. -/
def firstAt {α : Type} (p : α → Bool) : List α → Nat → Int
  | [], _ => -1
  | b :: r, i => if p b then (i : Int) else firstAt p r (i + 1)
def bxNamed (l : List BoxD) (s : List UInt8) : Int := firstAt (fun b => b.name == s) l 0
def bxWith (l : List BoxD) (v : Int) : Int := firstAt (fun b => b.validity == v) l 0
def bxPlace (b : BoxD) (u : Int) : Int := firstAt (fun m => m.uid == u) b.msgs 0
def bxUids (b : BoxD) : List Int := b.msgs.map (·.uid)

theorem firstAt_step {α : Type} {p : α → Bool} {l : List α} {k : Nat} {b : α} (h : l[k]? = some b) : firstAt p (l.drop k) k = if p b then (k : Int) else firstAt p (l.drop (k + 1)) (k + 1) := by
  obtain ⟨h1, h2⟩ := List.getElem?_eq_some_iff.1 h
  rw [List.drop_eq_getElem_cons h1, h2]
  rfl
theorem firstAt_end {α : Type} {p : α → Bool} (l : List α) : firstAt p (l.drop l.length) l.length = -1 := by rw [List.drop_length]; rfl

deriving instance DecidableEq for MsgD, BoxD
theorem less_irrefl : ∀ (a : List UInt8), Op.bytesLess a a = false
  | [] => rfl
  | x :: l => by
    have h := less_irrefl l
    simp [Op.bytesLess, h]
theorem less_trans : ∀ (a b c : List UInt8), Op.bytesLess a b = true → Op.bytesLess b c = true → Op.bytesLess a c = true
  | _, [], _, h, _ => by simp [Op.bytesLess] at h
  | _, _ :: _, [], _, h => by simp [Op.bytesLess] at h
  | [], _ :: _, _ :: _, _, _ => rfl
  | x :: a, y :: b, z :: c, h1, h2 => by
    simp only [Op.bytesLess, Bool.or_eq_true, Bool.and_eq_true, decide_eq_true_eq, beq_iff_eq] at h1 h2 ⊢
    rcases h1 with h1 | ⟨rfl, h1⟩
    · rcases h2 with h2 | ⟨rfl, h2⟩
      · exact .inl (UInt8.lt_trans h1 h2)
      · exact .inl h1
    · rcases h2 with h2 | ⟨rfl, h2⟩
      · exact .inl h2
      · exact .inr ⟨rfl, less_trans a b c h1 h2⟩
theorem less_ne {a b : List UInt8} (h : Op.bytesLess a b = true) : ¬ a = b := by
  rintro rfl
  rw [less_irrefl] at h
  cases h
/-- What holds of each two neighbours, and goes on, holds of any two. -/
theorem steps_any {r : Nat → Nat → Prop} (ht : ∀ a b c, r a b → r b c → r a c) {n : Nat} (h : ∀ i, i + 1 < n → r i (i + 1)) : ∀ (j i : Nat), i < j → j < n → r i j
  | 0, _, h1, _ => absurd h1 (Nat.not_lt_zero _)
  | j + 1, i, h1, h2 => by
    by_cases hij : i = j
    · subst hij; exact h i h2
    · exact ht i j (j + 1) (steps_any ht h j i (by omega) (by omega)) (h j h2)
theorem firstAt_eq {α : Type} {p : α → Bool} : ∀ (l : List α) (n i : Nat) (x : α), l[i]? = some x → p x = true → (∀ j y, j < i → l[j]? = some y → p y = false) → firstAt p l n = ((n + i : Nat) : Int)
  | [], _, _, _, h, _, _ => by simp at h
  | b :: r, n, 0, x, h, hp, _ => by
    simp only [List.getElem?_cons_zero, Option.some.injEq] at h
    subst h
    simp [firstAt, hp]
  | b :: r, n, i + 1, x, h, hp, hn => by
    have h0 := hn 0 b (by omega) rfl
    have ih := firstAt_eq r (n + 1) i x (by simpa using h) hp (fun j y hj hy => hn (j + 1) y (by omega) (by simpa using hy))
    simp only [firstAt, h0, Bool.false_eq_true, if_false, ih]
    omega
theorem firstAt_none {α : Type} {p : α → Bool} : ∀ (l : List α) (n : Nat), firstAt p l n < 0 → ∀ y ∈ l, p y = false
  | [], _, _, y, hy => by cases hy
  | b :: r, n, h, y, hy => by
    cases hb : p b with
    | true => simp only [firstAt, hb, if_true] at h; omega
    | false =>
      simp only [firstAt, hb, Bool.false_eq_true, if_false] at h
      rcases List.mem_cons.1 hy with rfl | hy
      · exact hb
      · exact firstAt_none r (n + 1) h y hy

def num9 (n : Int) : Bool := decide (1 ≤ n) && decide (n ≤ 999999999)
/-- The i-th message is right, behind the one ahead of it. -/
def msgStep (b : BoxD) (i : Nat) : Bool :=
  match b.msgs[i]? with
  | none => true
  | some m => (decide (1 ≤ m.uid) && decide (m.uid ≤ b.next - 1)) && (match i with | 0 => true | j + 1 => match b.msgs[j]? with | none => true | some q => decide (q.uid < m.uid)) && flB m.flags && decide ((m.text.length : Int) ≤ 40)
def boxB (b : BoxD) : Bool := nameB b.name && num9 b.validity && num9 b.next && decide ((b.msgs.length : Int) ≤ 6) && (List.range b.msgs.length).all (msgStep b)
def boxStep (l : List BoxD) (i : Nat) : Bool :=
  match l[i]? with
  | none => true
  | some b => boxB b && (match i with | 0 => true | j + 1 => match l[j]? with | none => true | some q => Op.bytesLess q.name b.name) && decide (bxWith (l.take i) b.validity < 0)
def boxesB (l : List BoxD) : Bool := (List.range l.length).all (boxStep l) && decide ((l.length : Int) ≤ 4)
theorem range_step {p : Nat → Bool} {k : Nat} (h : (List.range k).all p = true) (hk : p k = true) : (List.range (k + 1)).all p = true := by
  rw [List.range_succ, List.all_append, h]
  simp [hk]
theorem range_not {p : Nat → Bool} {k n : Nat} (hk : k < n) (h : p k = false) : (List.range n).all p = false := by
  rw [List.all_eq_false]
  exact ⟨k, List.mem_range.2 hk, by simp [h]⟩
theorem range_at {p : Nat → Bool} {n k : Nat} (h : (List.range n).all p = true) (hk : k < n) : p k = true := List.all_eq_true.1 h k (List.mem_range.2 hk)
/-- What a right box says. -/
theorem box_parts {b : BoxD} (h : boxB b = true) : nameB b.name = true ∧ (1 ≤ b.validity ∧ b.validity ≤ 999999999) ∧ (1 ≤ b.next ∧ b.next ≤ 999999999) ∧ b.msgs.length ≤ 6 ∧ ∀ (i : Nat) (m : MsgD), b.msgs[i]? = some m → (1 ≤ m.uid ∧ m.uid ≤ b.next - 1) ∧ flB m.flags = true ∧ m.text.length ≤ 40 := by
  unfold boxB num9 at h
  simp only [Bool.and_eq_true, decide_eq_true_eq] at h
  obtain ⟨⟨⟨⟨h1, h2⟩, h3⟩, h4⟩, h5⟩ := h
  refine ⟨h1, h2, h3, by omega, fun i m hm => ?_⟩
  have := range_at h5 (List.getElem?_eq_some_iff.1 hm).1
  unfold msgStep at this
  rw [hm] at this
  simp only [Bool.and_eq_true, decide_eq_true_eq] at this
  obtain ⟨⟨⟨h6, _⟩, h7⟩, h8⟩ := this
  exact ⟨h6, h7, by omega⟩
theorem box_asc {b : BoxD} (h : boxB b = true) : ∀ (i j : Nat) (x y : MsgD), i < j → b.msgs[i]? = some x → b.msgs[j]? = some y → x.uid < y.uid := by
  intro i j x y hij hx hy
  have hj := (List.getElem?_eq_some_iff.1 hy).1
  unfold boxB at h
  simp only [Bool.and_eq_true] at h
  have := steps_any (r := fun i j => ((b.msgs[i]?.map (·.uid)).getD 0 : Int) < (b.msgs[j]?.map (·.uid)).getD 0) (n := b.msgs.length) (fun _ _ _ h1 h2 => Int.lt_trans h1 h2) (fun k hk => ?_) j i hij hj
  · rw [hx, hy] at this
    exact this
  · have hs := range_at h.2 hk
    have e1 := List.getElem?_eq_getElem hk
    have e2 := List.getElem?_eq_getElem (show k < b.msgs.length by omega)
    unfold msgStep at hs
    rw [e1] at hs
    simp only [e2, Bool.and_eq_true, decide_eq_true_eq] at hs
    rw [e1, e2]
    exact hs.1.1.2
theorem boxes_asc {l : List BoxD} (h : boxesB l = true) : ∀ (i j : Nat) (x y : BoxD), i < j → l[i]? = some x → l[j]? = some y → Op.bytesLess x.name y.name = true := by
  intro i j x y hij hx hy
  have hj := (List.getElem?_eq_some_iff.1 hy).1
  unfold boxesB at h
  simp only [Bool.and_eq_true] at h
  have := steps_any (r := fun i j => Op.bytesLess ((l[i]?.map (·.name)).getD []) ((l[j]?.map (·.name)).getD []) = true) (n := l.length) (fun _ _ _ h1 h2 => less_trans _ _ _ h1 h2) (fun k hk => ?_) j i hij hj
  · rw [hx, hy] at this
    exact this
  · have hs := range_at h.1 hk
    have e1 := List.getElem?_eq_getElem hk
    have e2 := List.getElem?_eq_getElem (show k < l.length by omega)
    unfold boxStep at hs
    rw [e1] at hs
    simp only [e2, Bool.and_eq_true] at hs
    rw [e1, e2]
    exact hs.1.2
theorem boxes_each {l : List BoxD} (h : boxesB l = true) : l.length ≤ 4 ∧ ∀ b ∈ l, boxB b = true := by
  unfold boxesB at h
  simp only [Bool.and_eq_true, decide_eq_true_eq] at h
  refine ⟨by omega, fun b hb => ?_⟩
  obtain ⟨i, hi, rfl⟩ := List.getElem_of_mem hb
  have hs := range_at h.1 hi
  unfold boxStep at hs
  rw [List.getElem?_eq_getElem hi] at hs
  simp only [Bool.and_eq_true] at hs
  exact hs.1.1
theorem boxes_diff {l : List BoxD} (h : boxesB l = true) : ∀ (i j : Nat) (x y : BoxD), i < j → l[i]? = some x → l[j]? = some y → (x.validity == y.validity) = false := by
  intro i j x y hij hx hy
  unfold boxesB at h
  simp only [Bool.and_eq_true] at h
  have hs := range_at h.1 (List.getElem?_eq_some_iff.1 hy).1
  unfold boxStep at hs
  rw [hy] at hs
  simp only [Bool.and_eq_true, decide_eq_true_eq] at hs
  refine firstAt_none _ 0 (show firstAt (fun b : BoxD => b.validity == y.validity) (l.take j) 0 < 0 from hs.2) x (List.mem_of_getElem? (i := i) ?_)
  rw [List.getElem?_take, if_pos hij]
  exact hx
/-- A right list's boxes are found where they stand. -/
theorem boxes_named {l : List BoxD} (h : boxesB l = true) {i : Nat} {x : BoxD} (hx : l[i]? = some x) : bxNamed l x.name = (i : Int) := by
  have := firstAt_eq (p := fun b : BoxD => b.name == x.name) l 0 i x hx (by simp) (fun j y hj hy => by
    have := less_ne (boxes_asc h j i y x hj hy hx)
    simpa using this)
  simpa [bxNamed] using this
theorem boxes_with {l : List BoxD} (h : boxesB l = true) {i : Nat} {x : BoxD} (hx : l[i]? = some x) : bxWith l x.validity = (i : Int) := by
  have := firstAt_eq (p := fun b : BoxD => b.validity == x.validity) l 0 i x hx (by simp) (fun j y hj hy => boxes_diff h j i y x hj hy hx)
  simpa [bxWith] using this
theorem box_place {b : BoxD} (h : boxB b = true) {i : Nat} {m : MsgD} (hm : b.msgs[i]? = some m) : bxPlace b m.uid = (i : Int) := by
  have := firstAt_eq (p := fun q : MsgD => q.uid == m.uid) b.msgs 0 i m hm (by simp) (fun j y hj hy => by
    have := box_asc h j i y m hj hy hm
    simp; omega)
  simpa [bxPlace] using this

theorem boxes_small {l : List BoxD} (hs : szLf (boxsLf l) ≤ 1048576) (hbd : LfBnd (boxsLf l)) : l.length ≤ 1048576 ∧ (∀ x ∈ l, x.name.length ≤ 1048576) ∧ (∀ x ∈ l, in64 x.validity) ∧ ∀ x ∈ l, szLs x.lf ≤ 1048576 ∧ LsBnd x.lf := by
  have hsl : ∀ x ∈ l, szLs x.lf ≤ 1048576 ∧ LsBnd x.lf := fun x hx => ⟨by have h1 := szLs_mem BoxD.lf hx; have h2 : szLf (boxsLf l) = l.length + szLs (l.flatMap BoxD.lf) := rfl; omega, LsBnd.flat hbd.2 x hx⟩
  refine ⟨Nat.le_trans (Nat.le_add_right _ _) hs, fun x hx => ?_, fun x hx => (hsl x hx).2.2.1, hsl⟩
  have h1 := (hsl x hx).1
  rw [BoxD.sz] at h1
  omega

end Go.Proofs.YtbfgdbpfecffcaaGreatDoor

namespace Go.Proofs.YtbfgdbpfecffcaaGreatDoor
open Go.RowKit

deriving instance DecidableEq for ComD
/-- What a commit of its kind says. -/
def wantC (m : ComD) : ComD :=
  if m.kind = 1 ∨ m.kind = 3 then ⟨m.kind, m.validity, 0, 0, m.name, []⟩
  else if m.kind = 4 then ⟨m.kind, m.validity, m.uid, m.flags, [], m.text⟩
  else if m.kind = 5 then ⟨m.kind, m.validity, m.uid, m.flags, [], []⟩
  else if m.kind = 6 then ⟨m.kind, m.validity, m.uid, 0, [], []⟩
  else ⟨m.kind, m.validity, 0, 0, [], []⟩
def commitB (m : ComD) : Bool :=
  (decide (1 ≤ m.kind) && decide (m.kind ≤ 6)) && num9 m.validity && decide (wantC m = m) &&
  if m.kind = 1 ∨ m.kind = 3 then nameB m.name else m.kind == 2 || ((decide (1 ≤ m.uid) && decide (m.uid ≤ 999999998)) && flB m.flags && decide ((m.text.length : Int) ≤ 40))
def evOf (k : Int) : Int := if k = 1 ∨ k = 2 ∨ k = 3 then 8 else if k = 4 then 1 else if k = 5 then 4 else if k = 6 then 2 else 0

end Go.Proofs.YtbfgdbpfecffcaaGreatDoor

namespace Go.Proofs.YtbfgdbpfecffcaaGreatDoor
open Go.RowKit

/-- A box laid in behind those that come before it. -/
def layL (l : List BoxD) (b : BoxD) : List BoxD := (l.takeWhile fun x => Op.bytesLess x.name b.name) ++ b :: (l.dropWhile fun x => Op.bytesLess x.name b.name)
def whereB (l : List BoxD) (v : Int) : Nat := (bxWith l v).toNat
def appB (l : List BoxD) (m : ComD) : Bool :=
  boxesB l && commitB m &&
  if m.kind = 1 then decide ((l.length : Int) < 4) && decide (bxWith l m.validity < 0) && decide (bxNamed l m.name < 0)
  else !decide (bxWith l m.validity < 0) &&
    if m.kind = 3 then decide (bxNamed l m.name < 0)
    else match l[whereB l m.validity]? with
      | none => true
      | some b => if m.kind = 4 then (b.next == m.uid) && decide ((b.msgs.length : Int) < 6) else if m.kind = 5 ∨ m.kind = 6 then decide (0 ≤ bxPlace b m.uid) else true
/-- One box after a commit of its messages. -/
def boxAfter (b : BoxD) (m : ComD) : BoxD :=
  if m.kind = 4 then { b with msgs := b.msgs ++ [⟨m.uid, m.flags, m.text⟩], next := m.uid + 1 }
  else match b.msgs[(bxPlace b m.uid).toNat]? with
    | none => b
    | some q => if m.kind = 5 then { b with msgs := b.msgs.set (bxPlace b m.uid).toNat { q with flags := m.flags } } else { b with msgs := b.msgs.eraseIdx (bxPlace b m.uid).toNat }
def doneL (l : List BoxD) (m : ComD) : List BoxD :=
  if m.kind = 1 then layL l ⟨m.name, m.validity, 1, []⟩
  else match l[whereB l m.validity]? with
    | none => l
    | some b =>
      if m.kind = 2 then l.eraseIdx (whereB l m.validity)
      else if m.kind = 3 then layL (l.eraseIdx (whereB l m.validity)) { b with name := m.name }
      else l.set (whereB l m.validity) (boxAfter b m)
def appliedL (l : List BoxD) (m : ComD) : List BoxD := if appB l m then doneL l m else l
def allL : List BoxD → List ComD → List BoxD × Bool
  | l, [] => (l, true)
  | l, m :: r => if appB l m then allL (doneL l m) r else (l, false)

/-- What a right commit says. -/
theorem commit_parts {m : ComD} (h : commitB m = true) : (1 ≤ m.kind ∧ m.kind ≤ 6) ∧ (1 ≤ m.validity ∧ m.validity ≤ 999999999) ∧ wantC m = m ∧ (m.kind = 1 ∨ m.kind = 3 → nameB m.name = true) ∧ (4 ≤ m.kind → (1 ≤ m.uid ∧ m.uid ≤ 999999998) ∧ flB m.flags = true ∧ m.text.length ≤ 40) := by
  unfold commitB num9 at h
  rw [Bool.and_eq_true] at h
  obtain ⟨h1, h2⟩ := h
  simp only [Bool.and_eq_true, decide_eq_true_eq] at h1
  obtain ⟨⟨h3, h4⟩, h5⟩ := h1
  refine ⟨h3, h4, h5, fun hk => by rwa [if_pos hk] at h2, fun hk => ?_⟩
  rw [if_neg (by omega)] at h2
  simp only [Bool.or_eq_true, Bool.and_eq_true, decide_eq_true_eq, beq_iff_eq] at h2
  rcases h2 with h2 | ⟨⟨h6, h7⟩, h8⟩
  · omega
  · exact ⟨h6, h7, by omega⟩

/-- Boxes are right just if each is, they are few, their names ascend, their Validities differ. -/
theorem boxes_iff (l : List BoxD) : boxesB l = true ↔ l.length ≤ 4 ∧ (∀ b ∈ l, boxB b = true) ∧ l.Pairwise (fun x y => Op.bytesLess x.name y.name = true) ∧ l.Pairwise (fun x y => (x.validity == y.validity) = false) := by
  constructor
  · intro h
    obtain ⟨h1, h2⟩ := boxes_each h
    refine ⟨h1, h2, List.pairwise_iff_getElem.2 fun i j hi hj hij => ?_, List.pairwise_iff_getElem.2 fun i j hi hj hij => ?_⟩
    · exact boxes_asc h i j _ _ hij (List.getElem?_eq_getElem hi) (List.getElem?_eq_getElem hj)
    · exact boxes_diff h i j _ _ hij (List.getElem?_eq_getElem hi) (List.getElem?_eq_getElem hj)
  · rintro ⟨h1, h2, h3, h4⟩
    unfold boxesB
    rw [Bool.and_eq_true, decide_eq_true_eq]
    refine ⟨List.all_eq_true.2 fun i hi => ?_, by omega⟩
    have hi' : i < l.length := List.mem_range.1 hi
    have hx := List.getElem?_eq_getElem hi'
    have hw : bxWith (l.take i) (l[i]).validity < 0 := by
      refine Int.not_le.1 fun hc => ?_
      have : ∀ (r : List BoxD) (n : Nat), (∀ y ∈ r, (y.validity == (l[i]).validity) = false) → firstAt (fun b : BoxD => b.validity == (l[i]).validity) r n = -1 := by
        intro r
        induction r with
        | nil => intro n _; rfl
        | cons y r ih =>
          intro n h
          simp only [firstAt, h y (List.mem_cons_self ..), Bool.false_eq_true, if_false]
          exact ih (n + 1) fun z hz => h z (List.mem_cons_of_mem _ hz)
      have h5 := this (l.take i) 0 (fun y hy => by
        obtain ⟨j, hj, rfl⟩ := List.getElem_of_mem hy
        have hj' : j < i := by rw [List.length_take] at hj; omega
        rw [List.getElem_take]
        exact List.pairwise_iff_getElem.1 h4 j i (by omega) hi' hj')
      unfold bxWith at hc
      rw [h5] at hc
      omega
    unfold boxStep
    rw [hx]
    simp only [Bool.and_eq_true, decide_eq_true_eq]
    refine ⟨⟨h2 _ (List.getElem_mem hi'), ?_⟩, hw⟩
    cases i with
    | zero => rfl
    | succ j =>
      simp only [List.getElem?_eq_getElem (show j < l.length by omega)]
      exact List.pairwise_iff_getElem.1 h3 j (j + 1) (by omega) hi' (by omega)

theorem firstAt_ge {α : Type} {p : α → Bool} : ∀ (l : List α) (n : Nat), firstAt p l n = -1 ∨ ∃ i x, firstAt p l n = ((n + i : Nat) : Int) ∧ l[i]? = some x ∧ p x = true
  | [], _ => .inl rfl
  | b :: r, n => by
    cases hb : p b with
    | true => exact .inr ⟨0, b, by simp [firstAt, hb], rfl, hb⟩
    | false =>
      have e : firstAt p (b :: r) n = firstAt p r (n + 1) := by simp [firstAt, hb]
      rcases firstAt_ge r (n + 1) with h | ⟨i, x, h1, h2, h3⟩
      · exact .inl (e.trans h)
      · exact .inr ⟨i + 1, x, by rw [e, h1]; omega, by simpa using h2, h3⟩
theorem with_at {l : List BoxD} {v : Int} (h : ¬ bxWith l v < 0) : ∃ b, l[whereB l v]? = some b ∧ b.validity = v := by
  rcases firstAt_ge (p := fun b : BoxD => b.validity == v) l 0 with h1 | ⟨i, x, h1, h2, h3⟩
  · exact absurd (show bxWith l v < 0 by unfold bxWith; rw [h1]; omega) h
  · refine ⟨x, ?_, by simpa using h3⟩
    have : whereB l v = i := by unfold whereB bxWith; rw [h1]; omega
    rw [this]
    exact h2
theorem place_at {b : BoxD} {u : Int} (h : 0 ≤ bxPlace b u) : ∃ q, b.msgs[(bxPlace b u).toNat]? = some q ∧ q.uid = u := by
  rcases firstAt_ge (p := fun m : MsgD => m.uid == u) b.msgs 0 with h1 | ⟨i, x, h1, h2, h3⟩
  · unfold bxPlace at h; omega
  · refine ⟨x, ?_, by simpa using h3⟩
    have : (bxPlace b u).toNat = i := by unfold bxPlace; rw [h1]; omega
    rw [this]
    exact h2

theorem box_iff (b : BoxD) : boxB b = true ↔ nameB b.name = true ∧ (1 ≤ b.validity ∧ b.validity ≤ 999999999) ∧ (1 ≤ b.next ∧ b.next ≤ 999999999) ∧ b.msgs.length ≤ 6 ∧ (b.msgs.Pairwise fun x y => x.uid < y.uid) ∧ ∀ m ∈ b.msgs, (1 ≤ m.uid ∧ m.uid ≤ b.next - 1) ∧ flB m.flags = true ∧ m.text.length ≤ 40 := by
  constructor
  · intro h
    obtain ⟨h1, h2, h3, h4, h5⟩ := box_parts h
    refine ⟨h1, h2, h3, h4, List.pairwise_iff_getElem.2 fun i j hi hj hij => box_asc h i j _ _ hij (List.getElem?_eq_getElem hi) (List.getElem?_eq_getElem hj), fun m hm => ?_⟩
    obtain ⟨i, hi, rfl⟩ := List.getElem_of_mem hm
    exact h5 i _ (List.getElem?_eq_getElem hi)
  · rintro ⟨h1, h2, h3, h4, h5, h6⟩
    unfold boxB num9
    simp only [Bool.and_eq_true, decide_eq_true_eq]
    refine ⟨⟨⟨⟨h1, h2⟩, h3⟩, by omega⟩, List.all_eq_true.2 fun i hi => ?_⟩
    have hi' : i < b.msgs.length := List.mem_range.1 hi
    obtain ⟨h7, h8, h9⟩ := h6 _ (List.getElem_mem hi')
    unfold msgStep
    rw [List.getElem?_eq_getElem hi']
    simp only [Bool.and_eq_true, decide_eq_true_eq]
    refine ⟨⟨⟨h7, ?_⟩, h8⟩, by omega⟩
    cases i with
    | zero => rfl
    | succ j =>
      simp only [List.getElem?_eq_getElem (show j < b.msgs.length by omega), decide_eq_true_eq]
      exact List.pairwise_iff_getElem.1 h5 j (j + 1) (by omega) hi' (by omega)

theorem lessC_lt : ∀ (x y : List UInt8), Op.bytesLess x y = decide (x < y)
  | [], [] => by simp [Op.bytesLess]
  | [], y :: l => by simp [Op.bytesLess]
  | x :: k, [] => by simp [Op.bytesLess]
  | x :: k, y :: l => by
    have h := lessC_lt k l
    simp only [Op.bytesLess, h]
    rw [Bool.eq_iff_iff]
    simp only [Bool.or_eq_true, Bool.and_eq_true, decide_eq_true_eq, beq_iff_eq, List.cons_lt_cons_iff]
theorem less_total {a b : List UInt8} (h : ¬ Op.bytesLess a b = true) (hn : a ≠ b) : Op.bytesLess b a = true := by
  rw [lessC_lt, decide_eq_true_eq] at h ⊢
  have h1 : b ≤ a := List.not_lt.1 h
  exact Decidable.byContradiction fun hc => hn (List.le_antisymm (List.not_lt.1 hc) h1)
theorem lay_perm (l : List BoxD) (b : BoxD) : (layL l b).Perm (b :: l) := by
  unfold layL
  refine List.perm_middle.trans ?_
  rw [List.takeWhile_append_dropWhile]
theorem lay_asc {l : List BoxD} {b : BoxD} (h : l.Pairwise fun x y => Op.bytesLess x.name y.name = true) (hn : ∀ x ∈ l, x.name ≠ b.name) : (layL l b).Pairwise fun x y => Op.bytesLess x.name y.name = true := by
  unfold layL
  have ht : ∀ x ∈ l.takeWhile (fun x => Op.bytesLess x.name b.name), Op.bytesLess x.name b.name = true := fun x hx => by
    have := List.all_takeWhile (p := fun x : BoxD => Op.bytesLess x.name b.name) (l := l)
    exact List.all_eq_true.1 this x hx
  have hd : ∀ x ∈ l.dropWhile (fun x => Op.bytesLess x.name b.name), Op.bytesLess b.name x.name = true := by
    have hs : (l.dropWhile fun x => Op.bytesLess x.name b.name).Pairwise fun x y => Op.bytesLess x.name y.name = true := h.sublist (List.dropWhile_sublist _)
    cases hd : l.dropWhile (fun x => Op.bytesLess x.name b.name) with
    | nil => intro x hx; cases hx
    | cons y r =>
      have hy : ¬ Op.bytesLess y.name b.name = true := by
        have := List.head?_dropWhile_not (fun x : BoxD => Op.bytesLess x.name b.name) l
        rw [hd] at this
        simpa using this
      have hym : y ∈ l := (List.dropWhile_sublist _).subset (by rw [hd]; exact List.mem_cons_self ..)
      have hby := less_total hy (hn y hym)
      rw [hd] at hs
      intro x hx
      rcases List.mem_cons.1 hx with rfl | hx
      · exact hby
      · exact less_trans _ _ _ hby ((List.pairwise_cons.1 hs).1 x hx)
  refine List.pairwise_append.2 ⟨h.sublist (List.takeWhile_sublist _), List.pairwise_cons.2 ⟨hd, h.sublist (List.dropWhile_sublist _)⟩, fun x hx y hy => ?_⟩
  rcases List.mem_cons.1 hy with rfl | hy
  · exact ht x hx
  · exact less_trans _ _ _ (ht x hx) (hd y hy)
theorem lay_diff {l : List BoxD} {b : BoxD} (h : l.Pairwise fun x y => (x.validity == y.validity) = false) (hn : ∀ x ∈ l, x.validity ≠ b.validity) : (layL l b).Pairwise fun x y => (x.validity == y.validity) = false := by
  refine (lay_perm l b).symm.pairwise (List.pairwise_cons.2 ⟨fun x hx => ?_, h⟩) (fun {x y} hxy => ?_)
  · rw [beq_eq_false_iff_ne]
    exact fun e => hn x hx e.symm
  · rw [beq_eq_false_iff_ne] at hxy ⊢
    exact fun e => hxy e.symm
theorem lay_right {l : List BoxD} {b : BoxD} (h : boxesB l = true) (hl : l.length < 4) (hb : boxB b = true) (hn : ∀ x ∈ l, x.name ≠ b.name) (hv : ∀ x ∈ l, x.validity ≠ b.validity) : boxesB (layL l b) = true := by
  obtain ⟨_, h2, h3, h4⟩ := (boxes_iff l).1 h
  refine (boxes_iff _).2 ⟨by rw [(lay_perm l b).length_eq, List.length_cons]; omega, fun x hx => ?_, lay_asc h3 hn, lay_diff h4 hv⟩
  rcases List.mem_cons.1 ((lay_perm l b).mem_iff.1 hx) with rfl | hx
  · exact hb
  · exact h2 x hx
theorem erase_right {l : List BoxD} (h : boxesB l = true) (k : Nat) : boxesB (l.eraseIdx k) = true := by
  obtain ⟨h1, h2, h3, h4⟩ := (boxes_iff l).1 h
  have hs := List.eraseIdx_sublist l k
  exact (boxes_iff _).2 ⟨Nat.le_trans hs.length_le h1, fun x hx => h2 x (hs.subset hx), h3.sublist hs, h4.sublist hs⟩
theorem set_same {α β : Type} {l : List α} {k : Nat} {x y : α} (f : α → β) (hx : l[k]? = some x) (hf : f y = f x) : (l.set k y).map f = l.map f := by
  rw [List.map_set, hf]
  obtain ⟨h1, h2⟩ := List.getElem?_eq_some_iff.1 hx
  rw [← h2]
  apply List.ext_getElem (by simp)
  intro i h3 h4
  by_cases e : k = i
  · subst e; simp
  · rw [List.getElem_set_ne e]
theorem pair_map {α β : Type} {f : α → β} {r : β → β → Prop} {l m : List α} (e : l.map f = m.map f) (h : l.Pairwise fun x y => r (f x) (f y)) : m.Pairwise fun x y => r (f x) (f y) := by
  have h1 : (l.map f).Pairwise r := List.pairwise_map.2 h
  rw [e] at h1
  exact List.pairwise_map.1 h1
theorem set_right {l : List BoxD} (h : boxesB l = true) {k : Nat} {b b' : BoxD} (hb : l[k]? = some b) (hb' : boxB b' = true) (hn : b'.name = b.name) (hv : b'.validity = b.validity) : boxesB (l.set k b') = true := by
  obtain ⟨h1, h2, h3, h4⟩ := (boxes_iff l).1 h
  refine (boxes_iff _).2 ⟨by rw [List.length_set]; exact h1, fun x hx => ?_, pair_map (f := fun b : BoxD => b.name) (r := fun a b => Op.bytesLess a b = true) (set_same _ hb hn).symm h3, pair_map (f := fun b : BoxD => b.validity) (r := fun a b => (a == b) = false) (set_same _ hb hv).symm h4⟩
  rcases List.mem_or_eq_of_mem_set hx with hx | hx
  · exact h2 x hx
  · rw [hx]; exact hb'
theorem named_not {l : List BoxD} {s : List UInt8} (h : bxNamed l s < 0) : ∀ x ∈ l, x.name ≠ s := fun x hx => by
  have := firstAt_none l 0 h x hx
  simpa using this
theorem with_not {l : List BoxD} {v : Int} (h : bxWith l v < 0) : ∀ x ∈ l, x.validity ≠ v := fun x hx => by
  have := firstAt_none l 0 h x hx
  simpa using this
theorem after_keeps (b : BoxD) (m : ComD) : (boxAfter b m).name = b.name ∧ (boxAfter b m).validity = b.validity := by
  unfold boxAfter
  split
  · exact ⟨rfl, rfl⟩
  · split
    · exact ⟨rfl, rfl⟩
    · split <;> exact ⟨rfl, rfl⟩

/-- What 'applies' says. -/
theorem app_parts {l : List BoxD} {m : ComD} (h : appB l m = true) : boxesB l = true ∧ commitB m = true ∧ (m.kind = 1 → l.length < 4 ∧ bxWith l m.validity < 0 ∧ bxNamed l m.name < 0) ∧ (m.kind ≠ 1 → ∃ b, l[whereB l m.validity]? = some b ∧ b.validity = m.validity ∧ (m.kind = 3 → bxNamed l m.name < 0) ∧ (m.kind = 4 → b.next = m.uid ∧ b.msgs.length < 6) ∧ (m.kind = 5 ∨ m.kind = 6 → 0 ≤ bxPlace b m.uid)) := by
  unfold appB at h
  rw [Bool.and_eq_true, Bool.and_eq_true] at h
  obtain ⟨⟨h1, h2⟩, h3⟩ := h
  refine ⟨h1, h2, fun hk => ?_, fun hk => ?_⟩
  · rw [if_pos hk] at h3
    simp only [Bool.and_eq_true, decide_eq_true_eq] at h3
    obtain ⟨⟨h4, h5⟩, h6⟩ := h3
    exact ⟨by omega, h5, h6⟩
  · rw [if_neg hk, Bool.and_eq_true] at h3
    obtain ⟨h4, h5⟩ := h3
    have h4' : ¬ bxWith l m.validity < 0 := by simpa using h4
    obtain ⟨b, hb, hv⟩ := with_at h4'
    refine ⟨b, hb, hv, fun h => ?_, fun h => ?_, fun h => ?_⟩
    · rw [if_pos h] at h5
      simpa using h5
    · rw [if_neg (by omega), hb] at h5
      simp only [if_pos h, Bool.and_eq_true, decide_eq_true_eq, beq_iff_eq] at h5
      exact ⟨h5.1, by omega⟩
    · rw [if_neg (by omega), hb] at h5
      simp only [if_neg (show ¬ m.kind = 4 by omega), if_pos h, decide_eq_true_eq] at h5
      exact h5
theorem after_right {b : BoxD} {m : ComD} (hb : boxB b = true) (hm : commitB m = true) (hk : 4 ≤ m.kind) (h4 : m.kind = 4 → b.next = m.uid ∧ b.msgs.length < 6) (h5 : m.kind = 5 ∨ m.kind = 6 → 0 ≤ bxPlace b m.uid) : boxB (boxAfter b m) = true := by
  obtain ⟨b1, b2, b3, b4, b5, b6⟩ := (box_iff b).1 hb
  obtain ⟨k1, _, _, _, k5⟩ := commit_parts hm
  obtain ⟨u1, u2, u3⟩ := k5 hk
  unfold boxAfter
  by_cases e4 : m.kind = 4
  · rw [if_pos e4]
    obtain ⟨n1, n2⟩ := h4 e4
    refine (box_iff _).2 ⟨b1, b2, ⟨by simp only; omega, by simp only; omega⟩, by simp; omega, List.pairwise_append.2 ⟨b5, by simp, fun x hx y hy => ?_⟩, fun x hx => ?_⟩
    · rw [List.mem_singleton.1 hy]
      have := (b6 x hx).1
      simp only
      omega
    · rcases List.mem_append.1 hx with hx | hx
      · obtain ⟨a1, a2, a3⟩ := b6 x hx
        exact ⟨⟨a1.1, by simp only; omega⟩, a2, a3⟩
      · rw [List.mem_singleton.1 hx]
        exact ⟨⟨u1.1, by simp only; omega⟩, u2, u3⟩
  · rw [if_neg e4]
    obtain ⟨q, hq, hqu⟩ := place_at (h5 (by omega))
    rw [hq]
    simp only
    have hqm := b6 q (List.mem_of_getElem? hq)
    by_cases e5 : m.kind = 5
    · rw [if_pos e5]
      refine (box_iff _).2 ⟨b1, b2, b3, by simp; exact b4, pair_map (f := fun m : MsgD => m.uid) (r := fun a b => a < b) (set_same (y := { q with flags := m.flags }) _ hq rfl).symm b5, fun x hx => ?_⟩
      rcases List.mem_or_eq_of_mem_set hx with hx | hx
      · exact b6 x hx
      · rw [hx]; exact ⟨hqm.1, u2, hqm.2.2⟩
    · rw [if_neg e5]
      have hs := List.eraseIdx_sublist b.msgs (bxPlace b m.uid).toNat
      exact (box_iff _).2 ⟨b1, b2, b3, Nat.le_trans hs.length_le b4, b5.sublist hs, fun x hx => b6 x (hs.subset hx)⟩
/-- What is right stays right. -/
theorem done_right {l : List BoxD} {m : ComD} (h : appB l m = true) : boxesB (doneL l m) = true := by
  obtain ⟨h1, h2, h3, h4⟩ := app_parts h
  obtain ⟨k1, k2, _, k4, _⟩ := commit_parts h2
  obtain ⟨_, l2, _, l4⟩ := (boxes_iff l).1 h1
  unfold doneL
  by_cases e1 : m.kind = 1
  · rw [if_pos e1]
    obtain ⟨n1, n2, n3⟩ := h3 e1
    exact lay_right h1 n1 ((box_iff _).2 ⟨k4 (.inl e1), k2, ⟨by simp, by simp⟩, by simp, List.Pairwise.nil, by simp⟩) (named_not n3) (with_not n2)
  · rw [if_neg e1]
    obtain ⟨b, hb, hv, n3, n4, n5⟩ := h4 e1
    rw [hb]
    simp only
    have hbr := l2 b (List.mem_of_getElem? hb)
    by_cases e2 : m.kind = 2
    · rw [if_pos e2]; exact erase_right h1 _
    · rw [if_neg e2]
      by_cases e3 : m.kind = 3
      · rw [if_pos e3]
        obtain ⟨hlt, hbe⟩ := List.getElem?_eq_some_iff.1 hb
        obtain ⟨b1, b2, b3, b4, b5, b6⟩ := (box_iff b).1 hbr
        refine lay_right (erase_right h1 _) (by rw [List.length_eraseIdx_of_lt hlt]; have := ((boxes_iff l).1 h1).1; omega) ((box_iff _).2 ⟨k4 (.inr e3), b2, b3, b4, b5, b6⟩) (fun x hx => named_not (n3 e3) x ((List.eraseIdx_sublist l _).subset hx)) (fun x hx e => ?_)
        obtain ⟨j, hj, rfl⟩ := List.getElem_of_mem hx
        have hj' := hj
        rw [List.length_eraseIdx_of_lt hlt] at hj'
        rw [List.getElem_eraseIdx] at e
        have hp := List.pairwise_iff_getElem.1 l4
        split at e
        · rename_i hjk
          have := hp j (whereB l m.validity) (by omega) hlt hjk
          rw [hbe, beq_eq_false_iff_ne] at this
          exact this e
        · rename_i hjk
          have := hp (whereB l m.validity) (j + 1) hlt (by omega) (by omega)
          rw [hbe, beq_eq_false_iff_ne] at this
          exact this e.symm
      · rw [if_neg e3]
        obtain ⟨a1, a2⟩ := after_keeps b m
        exact set_right h1 hb (after_right hbr h2 (by omega) n4 n5) a1 a2

end Go.Proofs.YtbfgdbpfecffcaaGreatDoor

namespace Go.Proofs.YtbfgdbpfecffcaaGreatDoor
open Go.RowKit

theorem take_drop_at {α : Type} {l : List α} {k : Nat} {x : α} (h : l[k]? = some x) : l = l.take k ++ x :: l.drop (k + 1) := by
  obtain ⟨h1, h2⟩ := List.getElem?_eq_some_iff.1 h
  rw [← h2, List.getElem_cons_drop, List.take_append_drop]
theorem set_at {α : Type} {l : List α} {k : Nat} {x : α} (h : k < l.length) : l.set k x = l.take k ++ x :: l.drop (k + 1) := by
  rw [List.set_eq_take_append_cons_drop, if_pos h]
theorem same_take {α : Type} {l m : List α} {k : Nat} {x : α} (hx : l[k]? = some x) (hy : m[k]? = some x) (h : l.take k = m.take k) : l.take (k + 1) = m.take (k + 1) := by
  obtain ⟨h1, h2⟩ := List.getElem?_eq_some_iff.1 hx
  obtain ⟨h3, h4⟩ := List.getElem?_eq_some_iff.1 hy
  rw [List.take_succ_eq_append_getElem h1, List.take_succ_eq_append_getElem h3, h, h2, h4]
theorem same_not {α : Type} {l m : List α} {k : Nat} {x y : α} (hx : l[k]? = some x) (hy : m[k]? = some y) (h : x ≠ y) : l ≠ m := by
  intro e
  rw [e, hy] at hx
  injection hx with hx
  exact h hx.symm
theorem ne_strY {a b : List UInt8} (h : (a == b) = false) : (a != b) = true := by simp only [bne, h]; rfl
theorem ne_strN {a b : List UInt8} (h : (a == b) = true) : (a != b) = false := by simp only [bne, h]; rfl
/-- A row of records, at one of them. -/
theorem rows_split {W : World} {α : Type} {enc : α → List Lf} {m : Nat} (hm : ∀ x, (enc x).length = m) {l : List α} {xs : List Value} {fq : List Nat} (h : LsIn W (l.flatMap enc) xs fq) {k : Nat} {x : α} (hk : l[k]? = some x) :
    ∃ A us R fA fx fR, xs = A ++ us ++ R ∧ A.length = k * m ∧ us.length = m ∧ LsIn W ((l.take k).flatMap enc) A fA ∧ LsIn W (enc x) us fx ∧ LsIn W ((l.drop (k + 1)).flatMap enc) R fR ∧ fq = fA ++ fx ++ fR := by
  have hlt := (List.getElem?_eq_some_iff.1 hk).1
  rw [take_drop_at hk, List.flatMap_append, List.flatMap_cons] at h
  obtain ⟨A, r, fA, fr, rfl, hA, hr, rfl⟩ := LsIn.append.1 h
  obtain ⟨us, R, fx, fR, rfl, hu, hR, rfl⟩ := LsIn.append.1 hr
  refine ⟨A, us, R, fA, fx, fR, by rw [List.append_assoc], ?_, ?_, hA, hu, hR, by rw [List.append_assoc]⟩
  · rw [LsIn.length hA, flat_lenM hm, List.length_take, Nat.min_eq_left (by omega)]
  · rw [LsIn.length hu, hm]
theorem rows_join {W : World} {α : Type} {enc : α → List Lf} {l : List α} {k : Nat} {x : α} (hk : k < l.length) {A us R : List Value} {fA fx fR : List Nat}
    (hA : LsIn W ((l.take k).flatMap enc) A fA) (hu : LsIn W (enc x) us fx) (hR : LsIn W ((l.drop (k + 1)).flatMap enc) R fR) : LsIn W ((l.set k x).flatMap enc) (A ++ us ++ R) (fA ++ fx ++ fR) := by
  rw [set_at hk, List.flatMap_append, List.flatMap_cons, List.append_assoc, List.append_assoc]
  exact LsIn.append.2 ⟨A, us ++ R, fA, fx ++ fR, rfl, hA, LsIn.append.2 ⟨us, R, fx, fR, rfl, hu, hR, rfl⟩, rfl⟩
/-- A slice's length is not above its capacity (asked where it is cut). -/
def CapLe (v : Value) : Prop := ∀ p n c, v = .slice p n c → n ≤ c
theorem CapLe.of_in {W : World} {e : TypeId} {m n : Nat} {flat : List Lf} {v : Value} {fp : List Nat} (h : LfIn W (.rows e m n flat) v fp) : CapLe v := by
  obtain ⟨_, xs, fq, ho, _⟩ := h
  intro p k c hv
  rcases ho.2 with ⟨h1, h0⟩ | ⟨b, cap, cur, h1, _, _, hcap, _⟩
  · rw [h1] at hv; injection hv with _ h2 h3; omega
  · rw [h1] at hv; injection hv with _ h2 h3; omega
/-- The first k records of a row that is read. -/
theorem rd_take {W : World} {α : Type} {enc : α → List Lf} {m : Nat} (hm : ∀ x, (enc x).length = m) {e : TypeId} {l : List α} {p : Option Addr} {c : Nat} (h : LfRd W (.rows e m l.length (l.flatMap enc)) (.slice p l.length c)) {k : Nat} (hk : k ≤ l.length) :
    LfRd W (.rows e m (l.take k).length ((l.take k).flatMap enc)) (.slice p k c) := by
  obtain ⟨_, p', cap, hv, hd⟩ := h
  injection hv with hp _ hc
  subst hp hc
  refine ⟨flat_lenM hm _, p, c, by rw [List.length_take, Nat.min_eq_left hk], ?_⟩
  by_cases h0 : l.length = 0
  · exact .inl (by rw [List.length_take]; omega)
  · obtain ⟨b, off, hp, hb, xs, hx, hl⟩ := hd.resolve_left h0
    rw [← List.take_append_drop k l, List.flatMap_append] at hl
    obtain ⟨u1, u2, rfl, h1, _⟩ := LsRd.append.1 hl
    exact .inr ⟨b, off, hp, hb, u1, fun j u hj => hx j u (by rw [List.getElem?_append_left (List.getElem?_eq_some_iff.1 hj).1]; exact hj), h1⟩
theorem tree_row {W : World} {lo m n cap : Nat} {e : TypeId} {flat : List Lf} {p : Option Addr} {fp : List Nat} (h : Tree W lo (.rows e m n flat) (.slice p n cap) fp) (hn : 0 < n) : ∃ g, p = some ⟨g, 0, none⟩ := by
  obtain ⟨_, xs, fq, ho, _⟩ := h.is
  rcases ho.2 with ⟨_, h0⟩ | ⟨g, _, _, hv, _⟩
  · omega
  · injection hv with hp
    exact ⟨g, hp⟩
/-- What a row of one's own says at one record: where its cells lie, and what they hold. -/
theorem tree_at {W : World} {lo m cap : Nat} {α : Type} {enc : α → List Lf} (hm : ∀ x, (enc x).length = m) {e : TypeId} {l : List α} {g : Nat} {fp : List Nat} (h : Tree W lo (.rows e m l.length (l.flatMap enc)) (.slice (some ⟨g, 0, none⟩) l.length cap) fp) {k : Nat} {x : α} (hk : l[k]? = some x) :
    ∃ us fx, LsIn W (enc x) us fx ∧ (∀ q ∈ fx, q ∈ fp ∧ q ≠ g) ∧ us.length = m ∧ (∀ (j : Nat) u, us[j]? = some u → W.cell? ⟨g, k * m + j, none⟩ = some u) ∧ (∀ j, W.frozen? ⟨g, j, none⟩ = false) ∧ g ∈ fp := by
  obtain ⟨_, xs, fq, ho, hx, hf⟩ := h.is
  obtain ⟨A, us, R, fA, fx, fR, rfl, hA, hul, _, hu, _, rfl⟩ := rows_split hm hx hk
  have hnd := h.nodup
  rw [hf] at hnd
  have hg : (Value.slice (some ⟨g, 0, none⟩) l.length cap).ownBlock = some g := rfl
  rw [hg] at hnd hf
  refine ⟨us, fx, hu, fun q hq => ⟨by rw [hf]; simp [hq], ?_⟩, hul, fun j u hj => ?_, fun j => ho.frozenAt j, by rw [hf]; simp⟩
  · rintro rfl
    simp only [Option.toList_some, List.singleton_append, List.nodup_cons] at hnd
    exact hnd.1 (by simp [hq])
  · have hjl := (List.getElem?_eq_some_iff.1 hj).1
    have hxl : (A ++ us ++ R).length = l.length * m := ho.1
    rw [ho.cellAt (k * m + j) (by rw [← hxl]; simp; omega), List.append_assoc, List.getElem?_append_right (by omega), hA, Nat.add_sub_cancel_left, List.getElem?_append_left hjl]
    exact hj
/-- A plain cell of one record is written. -/
theorem tree_put {W : World} {lo m cap : Nat} {α : Type} {enc : α → List Lf} (hm : ∀ x, (enc x).length = m) {e : TypeId} {l : List α} {g : Nat} {fp : List Nat} (h : Tree W lo (.rows e m l.length (l.flatMap enc)) (.slice (some ⟨g, 0, none⟩) l.length cap) fp) {k c : Nat} {x x' : α} (hk : l[k]? = some x) (_hc : c < m) (u : Value)
    (hx : ∀ W us fx, LsIn W (enc x) us fx → LsIn W (enc x') (us.set c u) fx) :
    Tree (W.setCell ⟨g, k * m + c, none⟩ u) lo (.rows e m (l.set k x').length ((l.set k x').flatMap enc)) (.slice (some ⟨g, 0, none⟩) (l.set k x').length cap) fp := by
  have hlt := (List.getElem?_eq_some_iff.1 hk).1
  obtain ⟨hl, xs, fq, ho, hxx, hf⟩ := h.is
  obtain ⟨A, us, R, fA, fx, fR, rfl, hA, hul, hA2, hu, hR2, rfl⟩ := rows_split hm hxx hk
  have hnd := h.nodup
  have hgf : ∀ q ∈ fA ++ fx ++ fR, g ≠ q := fun q hq e => by
    rw [hf, show (Value.slice (some ⟨g, 0, none⟩) l.length cap).ownBlock = some g from rfl] at hnd
    simp only [Option.toList_some, List.singleton_append, List.nodup_cons] at hnd
    exact hnd.1 (by rw [e]; exact hq)
  have ho' := (ho.stored (k * m + c) u).1
  rw [List.append_assoc, List.set_append_right _ _ (by omega), hA, Nat.add_sub_cancel_left, List.set_append_left _ _ (by omega)] at ho'
  have hA3 := LsIn.set (i := k * m + c) (u := u) hA2 (g := g) (fun hq => hgf g (by simp [hq]) rfl)
  have hu3 := LsIn.set (i := k * m + c) (u := u) hu (g := g) (fun hq => hgf g (by simp [hq]) rfl)
  have hR3 := LsIn.set (i := k * m + c) (u := u) hR2 (g := g) (fun hq => hgf g (by simp [hq]) rfl)
  refine ⟨?_, h.nodup, h.low⟩
  rw [List.length_set]
  exact ⟨by rw [flat_lenM hm, List.length_set], A ++ us.set c u ++ R, fA ++ fx ++ fR, by rw [List.append_assoc]; exact ho', rows_join hlt hA3 (hx _ _ _ hu3) hR3, hf⟩
/-- One more record behind a row: what an append made. -/
theorem tree_snoc {W W' : World} {lo m : Nat} {α : Type} {enc : α → List Lf} (hm : ∀ x, (enc x).length = m) {e : TypeId} {l : List α} {v v' : Value} {fp fq fx : List Nat} {x : α} {us xs' : List Value} (hnd : fp.Nodup) (hlow : ∀ q ∈ fp, lo ≤ q) (hx1 : LsIn W (l.flatMap enc) xs' fq) (hf : fp = v.ownBlock.toList ++ fq)
    (hu : LsIn W (enc x) us fx) (hd : ∀ q ∈ fx, q ∉ fp) (hfx : fx.Nodup) (hlo : ∀ q ∈ fx, lo ≤ q) {g cap : Nat} (hv : v' = .slice (some ⟨g, 0, none⟩) (l.length + 1) cap)
    (ho : W'.ownsRow lo e m v' (l.length + 1) (xs' ++ us)) (hg : GrownIn W W' v.ownBlock.toList) (hor : v.ownBlock = some g ∨ W.heap.size ≤ g) :
    ∃ fq', Tree W' lo (.rows e m (l ++ [x]).length ((l ++ [x]).flatMap enc)) v' fq' ∧ ∀ q ∈ fq', q ∈ fp ∨ q ∈ fx ∨ q = g := by
  rw [hf] at hnd
  obtain ⟨hvq, _, hqn⟩ := nd_parts hnd
  have hfqw : ∀ q ∈ fq, q < W.heap.size := LsIn.lt _ _ _ hx1
  have hfxw : ∀ q ∈ fx, q < W.heap.size := LsIn.lt _ _ _ hu
  have hx2 : LsIn W' (l.flatMap enc) xs' fq := hx1.frame _ _ _ (fun k hk => hg.block k (hfqw k hk) (fun hm => hvq k hm hk))
  have hu2 : LsIn W' (enc x) us fx := hu.frame _ _ _ (fun k hk => hg.block k (hfxw k hk) (fun hm => hd k hk (by rw [hf]; exact List.mem_append_left _ hm)))
  have hgq : g ∉ fq ∧ g ∉ fx := by
    rcases hor with hor | hor
    · have hgm : g ∈ v.ownBlock.toList := by rw [hor]; simp
      exact ⟨fun hq => hvq g hgm hq, fun hq => hd g hq (by rw [hf]; exact List.mem_append_left _ hgm)⟩
    · exact ⟨fun hq => by have := hfqw g hq; omega, fun hq => by have := hfxw g hq; omega⟩
  have hv' : v'.ownBlock = some g := by rw [hv]; rfl
  refine ⟨g :: (fq ++ fx), ⟨⟨?_, xs' ++ us, fq ++ fx, ?_, ?_, by rw [hv']; rfl⟩, ?_, ?_⟩, ?_⟩
  · rw [flat_lenM hm]
  · rw [List.length_append, List.length_singleton]
    exact own_base ho
  · rw [List.flatMap_append, List.flatMap_cons, List.flatMap_nil, List.append_nil]
    exact LsIn.append.2 ⟨xs', us, fq, fx, rfl, hx2, hu2, rfl⟩
  · rw [List.nodup_cons]
    refine ⟨by simp [hgq.1, hgq.2], List.nodup_append.2 ⟨hqn, hfx, fun a ha b hb e => hd b hb (by rw [hf, ← e]; exact List.mem_append_right _ ha)⟩⟩
  · intro q hq
    rcases List.mem_cons.1 hq with rfl | hq
    · exact (ho.lt q hv').1
    · rcases List.mem_append.1 hq with hq | hq
      · exact hlow q (by rw [hf]; exact List.mem_append_right _ hq)
      · exact hlo q hq
  · intro q hq
    rcases List.mem_cons.1 hq with rfl | hq
    · exact .inr (.inr rfl)
    · rcases List.mem_append.1 hq with hq | hq
      · exact .inl (by rw [hf]; exact List.mem_append_right _ hq)
      · exact .inr (.inl hq)

end Go.Proofs.YtbfgdbpfecffcaaGreatDoor
