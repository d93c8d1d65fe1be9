/-
  Chapter 9 in words: boxes found by what they bear.
-/
import Derived.Test.YthjeeggejkpjgaaTyBox
import Derived.Test.YthjeeggejkpjgaaFlagA
namespace Go.Proofs.Ythjeeggejkpjgaa
open Go.RowKit

/-- The place of the first that is as p says, or -1; places counted from i. -/
def firstAt {α : Type} (p : α → Bool) : List α → Nat → Int
  | [], _ => -1
  | b :: r, i => if p b then (i : Int) else firstAt p r (i + 1)
def bxNamed (l : List BoxD) (s : List UInt8) : Int := firstAt (fun b => b.name == s) l 0
def bxWith (l : List BoxD) (v : Int) : Int := firstAt (fun b => b.validity == v) l 0
def bxPlace (b : BoxD) (u : Int) : Int := firstAt (fun m => m.uid == u) b.msgs 0
def bxUids (b : BoxD) : List Int := b.msgs.map (·.uid)

theorem firstAt_step {α : Type} {p : α → Bool} {l : List α} {k : Nat} {b : α} (h : l[k]? = some b) : firstAt p (l.drop k) k = if p b then (k : Int) else firstAt p (l.drop (k + 1)) (k + 1) := by
  obtain ⟨h1, h2⟩ := List.getElem?_eq_some_iff.1 h
  rw [List.drop_eq_getElem_cons h1, h2]
  rfl
theorem firstAt_end {α : Type} {p : α → Bool} (l : List α) : firstAt p (l.drop l.length) l.length = -1 := by rw [List.drop_length]; rfl

deriving instance DecidableEq for MsgD, BoxD
theorem less_irrefl : ∀ (a : List UInt8), Op.bytesLess a a = false
  | [] => rfl
  | x :: l => by
    have h := less_irrefl l
    simp [Op.bytesLess, h]
theorem less_trans : ∀ (a b c : List UInt8), Op.bytesLess a b = true → Op.bytesLess b c = true → Op.bytesLess a c = true
  | _, [], _, h, _ => by simp [Op.bytesLess] at h
  | _, _ :: _, [], _, h => by simp [Op.bytesLess] at h
  | [], _ :: _, _ :: _, _, _ => rfl
  | x :: a, y :: b, z :: c, h1, h2 => by
    simp only [Op.bytesLess, Bool.or_eq_true, Bool.and_eq_true, decide_eq_true_eq, beq_iff_eq] at h1 h2 ⊢
    rcases h1 with h1 | ⟨rfl, h1⟩
    · rcases h2 with h2 | ⟨rfl, h2⟩
      · exact .inl (UInt8.lt_trans h1 h2)
      · exact .inl h1
    · rcases h2 with h2 | ⟨rfl, h2⟩
      · exact .inl h2
      · exact .inr ⟨rfl, less_trans a b c h1 h2⟩
theorem less_ne {a b : List UInt8} (h : Op.bytesLess a b = true) : ¬ a = b := by
  rintro rfl
  rw [less_irrefl] at h
  cases h
/-- What holds of each two neighbours, and goes on, holds of any two. -/
theorem steps_any {r : Nat → Nat → Prop} (ht : ∀ a b c, r a b → r b c → r a c) {n : Nat} (h : ∀ i, i + 1 < n → r i (i + 1)) : ∀ (j i : Nat), i < j → j < n → r i j
  | 0, _, h1, _ => absurd h1 (Nat.not_lt_zero _)
  | j + 1, i, h1, h2 => by
    by_cases hij : i = j
    · subst hij; exact h i h2
    · exact ht i j (j + 1) (steps_any ht h j i (by omega) (by omega)) (h j h2)
theorem firstAt_eq {α : Type} {p : α → Bool} : ∀ (l : List α) (n i : Nat) (x : α), l[i]? = some x → p x = true → (∀ j y, j < i → l[j]? = some y → p y = false) → firstAt p l n = ((n + i : Nat) : Int)
  | [], _, _, _, h, _, _ => by simp at h
  | b :: r, n, 0, x, h, hp, _ => by
    simp only [List.getElem?_cons_zero, Option.some.injEq] at h
    subst h
    simp [firstAt, hp]
  | b :: r, n, i + 1, x, h, hp, hn => by
    have h0 := hn 0 b (by omega) rfl
    have ih := firstAt_eq r (n + 1) i x (by simpa using h) hp (fun j y hj hy => hn (j + 1) y (by omega) (by simpa using hy))
    simp only [firstAt, h0, Bool.false_eq_true, if_false, ih]
    omega
theorem firstAt_none {α : Type} {p : α → Bool} : ∀ (l : List α) (n : Nat), firstAt p l n < 0 → ∀ y ∈ l, p y = false
  | [], _, _, y, hy => by cases hy
  | b :: r, n, h, y, hy => by
    cases hb : p b with
    | true => simp only [firstAt, hb, if_true] at h; omega
    | false =>
      simp only [firstAt, hb, Bool.false_eq_true, if_false] at h
      rcases List.mem_cons.1 hy with rfl | hy
      · exact hb
      · exact firstAt_none r (n + 1) h y hy

def num9 (n : Int) : Bool := decide (1 ≤ n) && decide (n ≤ 999999999)
/-- The i-th message is right, behind the one ahead of it. -/
def msgStep (b : BoxD) (i : Nat) : Bool :=
  match b.msgs[i]? with
  | none => true
  | some m => (decide (1 ≤ m.uid) && decide (m.uid ≤ b.next - 1)) && (match i with | 0 => true | j + 1 => match b.msgs[j]? with | none => true | some q => decide (q.uid < m.uid)) && flB m.flags && decide ((m.text.length : Int) ≤ 40)
def boxB (b : BoxD) : Bool := nameB b.name && num9 b.validity && num9 b.next && decide ((b.msgs.length : Int) ≤ 6) && (List.range b.msgs.length).all (msgStep b)
def boxStep (l : List BoxD) (i : Nat) : Bool :=
  match l[i]? with
  | none => true
  | some b => boxB b && (match i with | 0 => true | j + 1 => match l[j]? with | none => true | some q => Op.bytesLess q.name b.name) && decide (bxWith (l.take i) b.validity < 0)
def boxesB (l : List BoxD) : Bool := (List.range l.length).all (boxStep l) && decide ((l.length : Int) ≤ 4)
theorem range_step {p : Nat → Bool} {k : Nat} (h : (List.range k).all p = true) (hk : p k = true) : (List.range (k + 1)).all p = true := by
  rw [List.range_succ, List.all_append, h]
  simp [hk]
theorem range_not {p : Nat → Bool} {k n : Nat} (hk : k < n) (h : p k = false) : (List.range n).all p = false := by
  rw [List.all_eq_false]
  exact ⟨k, List.mem_range.2 hk, by simp [h]⟩
theorem range_at {p : Nat → Bool} {n k : Nat} (h : (List.range n).all p = true) (hk : k < n) : p k = true := List.all_eq_true.1 h k (List.mem_range.2 hk)
/-- What a right box says. -/
theorem box_parts {b : BoxD} (h : boxB b = true) : nameB b.name = true ∧ (1 ≤ b.validity ∧ b.validity ≤ 999999999) ∧ (1 ≤ b.next ∧ b.next ≤ 999999999) ∧ b.msgs.length ≤ 6 ∧ ∀ (i : Nat) (m : MsgD), b.msgs[i]? = some m → (1 ≤ m.uid ∧ m.uid ≤ b.next - 1) ∧ flB m.flags = true ∧ m.text.length ≤ 40 := by
  unfold boxB num9 at h
  simp only [Bool.and_eq_true, decide_eq_true_eq] at h
  obtain ⟨⟨⟨⟨h1, h2⟩, h3⟩, h4⟩, h5⟩ := h
  refine ⟨h1, h2, h3, by omega, fun i m hm => ?_⟩
  have := range_at h5 (List.getElem?_eq_some_iff.1 hm).1
  unfold msgStep at this
  rw [hm] at this
  simp only [Bool.and_eq_true, decide_eq_true_eq] at this
  obtain ⟨⟨⟨h6, _⟩, h7⟩, h8⟩ := this
  exact ⟨h6, h7, by omega⟩
theorem box_asc {b : BoxD} (h : boxB b = true) : ∀ (i j : Nat) (x y : MsgD), i < j → b.msgs[i]? = some x → b.msgs[j]? = some y → x.uid < y.uid := by
  intro i j x y hij hx hy
  have hj := (List.getElem?_eq_some_iff.1 hy).1
  unfold boxB at h
  simp only [Bool.and_eq_true] at h
  have := steps_any (r := fun i j => ((b.msgs[i]?.map (·.uid)).getD 0 : Int) < (b.msgs[j]?.map (·.uid)).getD 0) (n := b.msgs.length) (fun _ _ _ h1 h2 => Int.lt_trans h1 h2) (fun k hk => ?_) j i hij hj
  · rw [hx, hy] at this
    exact this
  · have hs := range_at h.2 hk
    have e1 := List.getElem?_eq_getElem hk
    have e2 := List.getElem?_eq_getElem (show k < b.msgs.length by omega)
    unfold msgStep at hs
    rw [e1] at hs
    simp only [e2, Bool.and_eq_true, decide_eq_true_eq] at hs
    rw [e1, e2]
    exact hs.1.1.2
theorem boxes_asc {l : List BoxD} (h : boxesB l = true) : ∀ (i j : Nat) (x y : BoxD), i < j → l[i]? = some x → l[j]? = some y → Op.bytesLess x.name y.name = true := by
  intro i j x y hij hx hy
  have hj := (List.getElem?_eq_some_iff.1 hy).1
  unfold boxesB at h
  simp only [Bool.and_eq_true] at h
  have := steps_any (r := fun i j => Op.bytesLess ((l[i]?.map (·.name)).getD []) ((l[j]?.map (·.name)).getD []) = true) (n := l.length) (fun _ _ _ h1 h2 => less_trans _ _ _ h1 h2) (fun k hk => ?_) j i hij hj
  · rw [hx, hy] at this
    exact this
  · have hs := range_at h.1 hk
    have e1 := List.getElem?_eq_getElem hk
    have e2 := List.getElem?_eq_getElem (show k < l.length by omega)
    unfold boxStep at hs
    rw [e1] at hs
    simp only [e2, Bool.and_eq_true] at hs
    rw [e1, e2]
    exact hs.1.2
theorem boxes_each {l : List BoxD} (h : boxesB l = true) : l.length ≤ 4 ∧ ∀ b ∈ l, boxB b = true := by
  unfold boxesB at h
  simp only [Bool.and_eq_true, decide_eq_true_eq] at h
  refine ⟨by omega, fun b hb => ?_⟩
  obtain ⟨i, hi, rfl⟩ := List.getElem_of_mem hb
  have hs := range_at h.1 hi
  unfold boxStep at hs
  rw [List.getElem?_eq_getElem hi] at hs
  simp only [Bool.and_eq_true] at hs
  exact hs.1.1
theorem boxes_diff {l : List BoxD} (h : boxesB l = true) : ∀ (i j : Nat) (x y : BoxD), i < j → l[i]? = some x → l[j]? = some y → (x.validity == y.validity) = false := by
  intro i j x y hij hx hy
  unfold boxesB at h
  simp only [Bool.and_eq_true] at h
  have hs := range_at h.1 (List.getElem?_eq_some_iff.1 hy).1
  unfold boxStep at hs
  rw [hy] at hs
  simp only [Bool.and_eq_true, decide_eq_true_eq] at hs
  refine firstAt_none _ 0 (show firstAt (fun b : BoxD => b.validity == y.validity) (l.take j) 0 < 0 from hs.2) x (List.mem_of_getElem? (i := i) ?_)
  rw [List.getElem?_take, if_pos hij]
  exact hx
/-- A right list's boxes are found where they stand. -/
theorem boxes_named {l : List BoxD} (h : boxesB l = true) {i : Nat} {x : BoxD} (hx : l[i]? = some x) : bxNamed l x.name = (i : Int) := by
  have := firstAt_eq (p := fun b : BoxD => b.name == x.name) l 0 i x hx (by simp) (fun j y hj hy => by
    have := less_ne (boxes_asc h j i y x hj hy hx)
    simpa using this)
  simpa [bxNamed] using this
theorem boxes_with {l : List BoxD} (h : boxesB l = true) {i : Nat} {x : BoxD} (hx : l[i]? = some x) : bxWith l x.validity = (i : Int) := by
  have := firstAt_eq (p := fun b : BoxD => b.validity == x.validity) l 0 i x hx (by simp) (fun j y hj hy => boxes_diff h j i y x hj hy hx)
  simpa [bxWith] using this
theorem box_place {b : BoxD} (h : boxB b = true) {i : Nat} {m : MsgD} (hm : b.msgs[i]? = some m) : bxPlace b m.uid = (i : Int) := by
  have := firstAt_eq (p := fun q : MsgD => q.uid == m.uid) b.msgs 0 i m hm (by simp) (fun j y hj hy => by
    have := box_asc h j i y m hj hy hm
    simp; omega)
  simpa [bxPlace] using this

end Go.Proofs.Ythjeeggejkpjgaa
