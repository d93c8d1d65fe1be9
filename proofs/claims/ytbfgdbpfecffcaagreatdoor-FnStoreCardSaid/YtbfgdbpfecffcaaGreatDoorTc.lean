/-
  Tc: StoA StoC StoM (what the claim needs of them).
-/
import Derived.Deep.DeepCutAuto
import Derived.Handy
import Derived.Test.YtbfgdbpfecffcaaGreatDoorRows
import Derived.WalkKit
import Derived.WalkSpells
import Derived.WalkLawsBesides
import Derived.Laws.IdiomStrings
import Derived.Lib.Hide
import Derived.Deep.AppendLies
import Derived.OrdersHeld
import Derived.Lib.ItoaNum
import Derived.Lib.ItoaMem
import Derived.Lib.AppendStr
import Derived.Lib.ItoaLen
import Derived.Lib.Strings
import Derived.Lib.Bytealg
import Derived.Lib.OthersKept
import Derived.Laws.RangeAny
import Derived.Laws.BitsAllLaws
import Derived.Laws.BitsLemmas
import Derived.IntWalk
import Derived.Lib.Join
import Derived.Deep.Strs
import Derived.Test.YtbfgdbpfecffcaaGreatDoorProg
import Derived.Laws.Tables
import Derived.Maps.OwnIn
import Derived.Sort.KeysCollected
import Derived.Test.YtbfgdbpfecffcaaGreatDoorSb
import Derived.Test.YtbfgdbpfecffcaaGreatDoorSc
import Derived.Test.YtbfgdbpfecffcaaGreatDoorSe
import Derived.Test.YtbfgdbpfecffcaaGreatDoorSf
import Derived.Test.YtbfgdbpfecffcaaGreatDoorSl
import Derived.Test.YtbfgdbpfecffcaaGreatDoorSr
import Derived.Test.YtbfgdbpfecffcaaGreatDoorTb

namespace Go.Proofs.YtbfgdbpfecffcaaGreatDoor
open Go.RowKit

deriving instance DecidableEq for StoD
/-- No two commits of the log make a mailbox of the same Validity. -/
def madeStep (lg : List ComD) (i : Nat) : Bool :=
  match lg[i]? with
  | none => true
  | some a => (List.range i).all fun k => match lg[k]? with
    | none => true
    | some b => !(a.kind == 1 && b.kind == 1 && a.validity == b.validity)
def madeB (lg : List ComD) : Bool := (List.range lg.length).all (madeStep lg)
/-- Each mailbox that the log makes has a Validity that is given already. -/
def givenB (g : Int) (lg : List ComD) : Bool := lg.all fun m => m.kind != 1 || decide (m.validity ≤ g)
def storeB (x : StoD) : Bool :=
  decide ((x.log.length : Int) ≤ 300) && (decide (0 ≤ x.given) && decide (x.given ≤ 999999999)) && madeB x.log && ((allL [] x.log).2 && givenB x.given x.log) && decide ((allL [] x.log).1 = x.boxes)
/-- The mailboxes behind the first i commits. -/
def atL (lg : List ComD) (i : Int) : List BoxD := (allL [] (lg.take i.toNat)).1
def noBox : BoxD := ⟨[], 0, 0, []⟩
def boxAtD (x : StoD) (v i : Int) : BoxD := if bxWith (atL x.log i) v < 0 then noBox else ((atL x.log i)[whereB (atL x.log i) v]?).getD noBox
def boxAtB (x : StoD) (v i : Int) : Bool := !decide (bxWith (atL x.log i) v < 0)
def storB (x : StoD) (m : ComD) : Bool := appB x.boxes m && decide ((x.log.length : Int) < 300) && !(m.kind == 1 && decide (m.validity ≤ x.given))
def storD (x : StoD) (m : ComD) : StoD := if storB x m then ⟨doneL x.boxes m, x.log ++ [m], if x.given ≤ m.validity then m.validity else x.given⟩ else x
/-- The places of the commits of a mailbox's messages, from k on. -/
def ofAt (v : Int) : List ComD → Nat → List Int
  | [], _ => []
  | m :: r, k => if m.validity = v ∧ 4 ≤ m.kind ∧ m.kind ≤ 6 then (k : Int) :: ofAt v r (k + 1) else ofAt v r (k + 1)
def ofL (x : StoD) (v i : Int) : List Int := ofAt v (x.log.drop i.toNat) i.toNat
def inboxC : ComD := ⟨1, 1, 0, 0, [105, 110, 98, 111, 120], []⟩
def newD : StoD := ⟨[⟨[105, 110, 98, 111, 120], 1, 1, []⟩], [inboxC], 1⟩

theorem ofAt_len (v : Int) : ∀ (r : List ComD) (k : Nat), (ofAt v r k).length ≤ r.length
  | [], _ => Nat.le_refl _
  | m :: r, k => by
    unfold ofAt
    have := ofAt_len v r (k + 1)
    split <;> simp <;> omega
theorem at_small (lg : List ComD) (i : Int) : szLf (boxsLf (atL lg i)) ≤ 1048576 := all_small _ (by decide) ⟨by decide, trivial⟩
theorem all_right : ∀ (lg : List ComD) {l : List BoxD}, boxesB l = true → boxesB (allL l lg).1 = true
  | [], _, h => h
  | x :: lg, l, h => by
    unfold allL
    cases ha : appB l x with
    | false => exact h
    | true => exact all_right lg (done_right ha)
theorem at_right (lg : List ComD) (i : Int) : boxesB (atL lg i) = true := all_right _ rfl
theorem drop_ofAt {v : Int} {lg : List ComD} {k : Nat} {m : ComD} (h : lg[k]? = some m) : ofAt v (lg.drop k) k = (if m.validity = v ∧ 4 ≤ m.kind ∧ m.kind ≤ 6 then [(k : Int)] else []) ++ ofAt v (lg.drop (k + 1)) (k + 1) := by
  rw [drop_at h]
  conv => lhs; unfold ofAt
  split <;> simp
theorem wp_named1 {P : Program} {Q : Exit → Act → World → Prop} {c : Code} {a : Act} {w : World} (h : ∀ X, X = w → c.wp P Q a X) : c.wp P Q a w := h w rfl

end Go.Proofs.YtbfgdbpfecffcaaGreatDoor

namespace Go.Proofs.YtbfgdbpfecffcaaGreatDoor
open Go.RowKit

def hitC (v : Int) (b : ComD) : Bool := b.kind == 1 && b.validity == v
theorem made_at {lg : List ComD} {i : Nat} {a : ComD} (h : lg[i]? = some a) : madeStep lg i = !(a.kind == 1 && (lg.take i).any (hitC a.validity)) := by
  unfold madeStep
  rw [h]
  simp only
  rw [Bool.eq_iff_iff]
  simp only [List.all_eq_true, List.mem_range, Bool.not_eq_true', Bool.and_eq_false_iff, List.any_eq_false]
  constructor
  · intro h1
    by_cases hk : a.kind == 1
    · right
      intro b hb
      obtain ⟨j, hj, rfl⟩ := List.getElem_of_mem hb
      have hj' : j < i ∧ j < lg.length := by rw [List.length_take] at hj; omega
      have h2 := h1 j hj'.1
      rw [List.getElem?_eq_getElem hj'.2] at h2
      rw [List.getElem_take]
      unfold hitC
      simp only [hk, Bool.true_and] at h2
      intro hc
      rw [Bool.and_eq_true] at hc
      have e1 := hc.1
      have e2 : a.validity = (lg[j]).validity := by have := hc.2; rw [beq_iff_eq] at this; exact this.symm
      simp only [e1, Bool.not_eq_true', Bool.and_eq_false_iff, e2, beq_self_eq_true] at h2
      simp at h2
    · left
      simpa using hk
  · rintro h1 j hj
    cases hx : lg[j]? with
    | none => rfl
    | some b =>
      simp only [Bool.not_eq_true', Bool.and_eq_false_iff]
      rcases h1 with h1 | h1
      · exact .inl (.inl h1)
      · have hm : b ∈ lg.take i := by
          obtain ⟨hl, rfl⟩ := List.getElem?_eq_some_iff.1 hx
          exact List.mem_iff_getElem.2 ⟨j, by rw [List.length_take]; have := (List.getElem?_eq_some_iff.1 h).1; omega, by rw [List.getElem_take]⟩
        have h2 := h1 b hm
        unfold hitC at h2
        simp only [Bool.and_eq_true, beq_iff_eq, not_and] at h2
        by_cases hb : b.kind = 1
        · right
          rw [beq_eq_false_iff_ne]
          exact fun e => h2 hb e.symm
        · left; right
          rw [beq_eq_false_iff_ne]
          exact hb
/-- Up to k nothing is given twice or above g. -/
def PreOk (g : Int) (lg : List ComD) (k : Nat) : Prop := ∀ i m, i < k → lg[i]? = some m → m.kind = 1 → (lg.take i).any (hitC m.validity) = false ∧ m.validity ≤ g
theorem PreOk.start (g : Int) (lg : List ComD) : PreOk g lg 0 := fun _ _ h => absurd h (Nat.not_lt_zero _)
theorem PreOk.step {g : Int} {lg : List ComD} {k : Nat} {m : ComD} (h : PreOk g lg k) (hm : lg[k]? = some m) (hk : m.kind = 1 → (lg.take k).any (hitC m.validity) = false ∧ m.validity ≤ g) : PreOk g lg (k + 1) := fun i y hi hy hy1 => by
  by_cases e : i = k
  · subst e
    rw [hm] at hy
    cases hy
    exact hk hy1
  · exact h i y (by omega) hy hy1
theorem asg_end {g : Int} {lg : List ComD} (h : PreOk g lg lg.length) : (madeB lg && givenB g lg) = true := by
  rw [Bool.and_eq_true]
  constructor
  · unfold madeB
    rw [List.all_eq_true]
    intro i hi
    have hi' := List.mem_range.1 hi
    have hx := List.getElem?_eq_getElem hi'
    rw [made_at hx]
    by_cases hk : (lg[i]).kind = 1
    · rw [(h i _ hi' hx hk).1, Bool.and_false]
      rfl
    · rw [show ((lg[i]).kind == 1) = false from by rw [beq_eq_false_iff_ne]; exact hk]
      rfl
  · unfold givenB
    rw [List.all_eq_true]
    intro y hy
    obtain ⟨i, hi, rfl⟩ := List.getElem_of_mem hy
    by_cases hk : (lg[i]).kind = 1
    · rw [decide_eq_true (h i _ hi (List.getElem?_eq_getElem hi) hk).2, Bool.or_true]
    · rw [show ((lg[i]).kind != 1) = true from by rw [bne_iff_ne]; exact hk]
      rfl
theorem asg_hit {g : Int} {lg : List ComD} {k : Nat} {m : ComD} (hm : lg[k]? = some m) (h1 : m.kind = 1) (h : (lg.take k).any (hitC m.validity) = true) : (madeB lg && givenB g lg) = false := by
  have hlt := (List.getElem?_eq_some_iff.1 hm).1
  rw [Bool.and_eq_false_iff]
  left
  unfold madeB
  rw [List.all_eq_false]
  refine ⟨k, List.mem_range.2 hlt, ?_⟩
  rw [made_at hm, h, h1]
  simp
theorem asg_big {g : Int} {lg : List ComD} {k : Nat} {m : ComD} (hm : lg[k]? = some m) (h1 : m.kind = 1) (h : g < m.validity) : (madeB lg && givenB g lg) = false := by
  rw [Bool.and_eq_false_iff]
  right
  unfold givenB
  rw [List.all_eq_false]
  refine ⟨m, List.mem_of_getElem? hm, ?_⟩
  rw [h1]
  simp
  omega
/-- What the map says behind k commits. -/
def AsgR (lg : List ComD) (k : Nat) (D : DataW Unit) : Prop := Maps.IsMap D ∧ ∀ v : Int, D.atKey (.int .i64 v) (.lit (.bool false)) = .lit (.bool ((lg.take k).any (hitC v)))
theorem AsgR.start (lg : List ComD) : AsgR lg 0 (.map []) := ⟨Maps.isMap_empty, fun _ => rfl⟩
theorem take_any {lg : List ComD} {k : Nat} {m : ComD} (hm : lg[k]? = some m) (p : ComD → Bool) : (lg.take (k + 1)).any p = ((lg.take k).any p || p m) := by
  rw [List.take_add_one, hm, List.any_append]
  simp
theorem AsgR.skip {lg : List ComD} {k : Nat} {m : ComD} {D : DataW Unit} (h : AsgR lg k D) (hm : lg[k]? = some m) (hk : ¬ m.kind = 1) : AsgR lg (k + 1) D := ⟨h.1, fun v => by
  rw [take_any hm, h.2 v, show hitC v m = false from by unfold hitC; rw [show (m.kind == 1) = false from by rw [beq_eq_false_iff_ne]; exact hk]; rfl, Bool.or_false]⟩
theorem AsgR.put {lg : List ComD} {k : Nat} {m : ComD} {D : DataW Unit} (h : AsgR lg k D) (hm : lg[k]? = some m) (hk : m.kind = 1) : AsgR lg (k + 1) (D.put (.int .i64 m.validity) (.lit (.bool true))) := ⟨h.1.put _ _, fun v => by
  rw [take_any hm]
  by_cases e : v = m.validity
  · subst e
    rw [Maps.atKey_put_same h.1 (show WideAt.IsKeyLit (.int .i64 m.validity) from trivial)]
    congr 2
    unfold hitC
    rw [hk]
    simp
  · rw [Maps.atKey_put_other (by intro hc; injection hc with _ hc; exact e hc), h.2 v]
    congr 2
    have : hitC v m = false := by unfold hitC; rw [Bool.and_eq_false_iff]; right; rw [beq_eq_false_iff_ne]; exact fun x => e x.symm
    rw [this, Bool.or_false]⟩

end Go.Proofs.YtbfgdbpfecffcaaGreatDoor

namespace Go.Proofs.YtbfgdbpfecffcaaGreatDoor
open Go.RowKit

theorem allL_append : ∀ (a : List ComD) (l : List BoxD) (b : List ComD), allL l (a ++ b) = if (allL l a).2 then allL (allL l a).1 b else allL l a
  | [], l, b => by simp [allL]
  | x :: a, l, b => by
    rw [List.cons_append]
    cases h : appB l x with
    | true =>
      have h1 : allL l (x :: a) = allL (doneL l x) a := by simp only [allL, h, if_true]
      have h2 : allL l (x :: (a ++ b)) = allL (doneL l x) (a ++ b) := by simp only [allL, h, if_true]
      rw [h1, h2]
      exact allL_append a _ b
    | false =>
      have h1 : allL l (x :: a) = (l, false) := by unfold allL; rw [h]; rfl
      have h2 : allL l (x :: (a ++ b)) = (l, false) := by unfold allL; rw [h]; rfl
      rw [h1, h2]
      simp
theorem store_parts {x : StoD} (h : storeB x = true) : x.log.length ≤ 300 ∧ (0 ≤ x.given ∧ x.given ≤ 999999999) ∧ madeB x.log = true ∧ (allL [] x.log).2 = true ∧ givenB x.given x.log = true ∧ (allL [] x.log).1 = x.boxes := by
  unfold storeB at h
  simp only [Bool.and_eq_true, decide_eq_true_eq] at h
  obtain ⟨⟨⟨⟨h1, h2⟩, h3⟩, h4, h5⟩, h6⟩ := h
  exact ⟨by omega, h2, h3, h4, h5, h6⟩
theorem store_of {x : StoD} (h1 : x.log.length ≤ 300) (h2 : 0 ≤ x.given ∧ x.given ≤ 999999999) (h3 : madeB x.log = true) (h4 : (allL [] x.log).2 = true) (h5 : givenB x.given x.log = true) (h6 : (allL [] x.log).1 = x.boxes) : storeB x = true := by
  unfold storeB
  simp only [Bool.and_eq_true, decide_eq_true_eq]
  exact ⟨⟨⟨⟨by omega, h2⟩, h3⟩, h4, h5⟩, h6⟩
/-- A prefix of a log that applies applies. -/
theorem all_prefix {l : List BoxD} {a b : List ComD} (h : (allL l (a ++ b)).2 = true) : (allL l a).2 = true := by
  rw [allL_append] at h
  cases hq : (allL l a).2 with
  | true => rfl
  | false => rw [hq] at h; simp at h; rw [hq] at h; cases h
/-- One commit further. -/
theorem at_next {lg : List ComD} {k : Nat} {m : ComD} (hk : lg[k]? = some m) (h : (allL [] lg).2 = true) : appB (atL lg k) m = true ∧ doneL (atL lg k) m = atL lg ((k : Int) + 1) := by
  have hlt := (List.getElem?_eq_some_iff.1 hk).1
  have hs : lg = lg.take (k + 1) ++ lg.drop (k + 1) := (List.take_append_drop _ _).symm
  have h1 : (allL [] (lg.take (k + 1))).2 = true := all_prefix (by rw [← hs]; exact h)
  have ht : lg.take (k + 1) = lg.take k ++ [m] := by rw [List.take_add_one, hk]; rfl
  have h2 : (allL [] (lg.take k)).2 = true := all_prefix (by rw [← ht]; exact h1)
  rw [ht, allL_append, h2] at h1
  have e0 : atL lg (k : Int) = (allL [] (lg.take k)).1 := rfl
  have e1 : atL lg ((k : Int) + 1) = (allL [] (lg.take (k + 1))).1 := by
    unfold atL
    rw [show ((k : Int) + 1).toNat = k + 1 by omega]
  have ha : appB (atL lg k) m = true := by
    rw [e0]
    cases hq : appB (allL [] (lg.take k)).1 m with
    | true => rfl
    | false => simp only [if_true, allL, hq] at h1; cases h1
  refine ⟨ha, ?_⟩
  rw [e1, ht, allL_append, h2]
  rw [e0] at ha ⊢
  simp [allL, ha]
theorem made_snoc {lg : List ComD} {m : ComD} {g : Int} (h : madeB lg = true) (hg : givenB g lg = true) (hm : m.kind = 1 → g < m.validity) : madeB (lg ++ [m]) = true := by
  unfold madeB at h ⊢
  rw [List.all_eq_true] at h ⊢
  intro i hi
  have hi' : i < lg.length + 1 := by simpa using List.mem_range.1 hi
  unfold madeStep
  rcases Nat.lt_or_ge i lg.length with hl | hl
  · have h1 := h i (List.mem_range.2 hl)
    unfold madeStep at h1
    rw [List.getElem?_append_left hl]
    cases hx : lg[i]? with
    | none => rfl
    | some a =>
      rw [hx] at h1
      simp only at h1 ⊢
      rw [List.all_eq_true] at h1 ⊢
      intro k hk
      have hk' := List.mem_range.1 hk
      rw [List.getElem?_append_left (by omega)]
      exact h1 k hk
  · obtain rfl : i = lg.length := by omega
    rw [List.getElem?_append_right (Nat.le_refl _), Nat.sub_self]
    simp only [List.getElem?_cons_zero]
    rw [List.all_eq_true]
    intro k hk
    have hk' := List.mem_range.1 hk
    rw [List.getElem?_append_left hk']
    have hx := List.getElem?_eq_getElem hk'
    rw [hx]
    simp only [Bool.not_eq_true', Bool.and_eq_false_iff, beq_eq_false_iff_ne]
    by_cases h1 : m.kind = 1
    · by_cases h2 : (lg[k]).kind = 1
      · right
        have h3 := List.all_eq_true.1 hg _ (List.getElem_mem hk')
        simp only [h2, bne_self_eq_false, Bool.false_or, decide_eq_true_eq] at h3
        have := hm h1
        omega
      · exact .inl (.inr h2)
    · exact .inl (.inl h1)
/-- A commit that is taken keeps the store right. -/
theorem stor_right {x : StoD} {m : ComD} (h : storeB x = true) (hs : storB x m = true) : storeB (storD x m) = true := by
  obtain ⟨h1, h2, h3, h4, h5, h6⟩ := store_parts h
  have hd : storD x m = ⟨doneL x.boxes m, x.log ++ [m], if x.given ≤ m.validity then m.validity else x.given⟩ := by unfold storD; rw [if_pos hs]
  unfold storB at hs
  simp only [Bool.and_eq_true, decide_eq_true_eq, Bool.not_eq_true', Bool.and_eq_false_iff, beq_eq_false_iff_ne, decide_eq_false_iff_not] at hs
  obtain ⟨⟨ha, hl⟩, hg⟩ := hs
  obtain ⟨_, hc, _, _⟩ := app_parts ha
  obtain ⟨_, hv, _⟩ := commit_parts hc
  have hm : m.kind = 1 → x.given < m.validity := fun hk => by
    rcases hg with hg | hg
    · exact absurd hk hg
    · omega
  have hall : allL [] (x.log ++ [m]) = (doneL x.boxes m, true) := by
    rw [allL_append, h4, h6]
    simp [allL, ha]
  rw [hd]
  refine store_of ?_ ?_ (made_snoc h3 h5 hm) (by rw [hall]) ?_ (by rw [hall])
  · simp only [List.length_append, List.length_cons, List.length_nil]; omega
  · simp only; split <;> omega
  · unfold givenB at h5 ⊢
    rw [List.all_eq_true] at h5 ⊢
    intro y hy
    simp only [Bool.or_eq_true, bne_iff_ne, decide_eq_true_eq]
    rcases List.mem_append.1 hy with hy | hy
    · have h7 := h5 y hy
      simp only [Bool.or_eq_true, bne_iff_ne, decide_eq_true_eq] at h7
      rcases h7 with h7 | h7
      · exact .inl h7
      · right; split <;> omega
    · rw [List.mem_singleton.1 hy]
      right; split <;> omega
theorem stor_log {x : StoD} {m : ComD} (hs : storB x m = true) : (storD x m).log = x.log ++ [m] := by unfold storD; rw [if_pos hs]
theorem stor_no {x : StoD} {m : ComD} (hs : storB x m = false) : storD x m = x := by unfold storD; rw [hs]; rfl
theorem at_kept {x : StoD} {m : ComD} {k : Nat} (hs : storB x m = true) (hk : k ≤ x.log.length) : atL (storD x m).log k = atL x.log k := by
  rw [stor_log hs]
  unfold atL
  rw [show ((k : Nat) : Int).toNat = k from rfl, List.take_append_of_le_length hk]
theorem at_neg {lg : List ComD} {i : Int} (h : i < 0) : atL lg i = [] := by
  unfold atL
  rw [show i.toNat = 0 by omega]
  rfl
theorem at_all {x : StoD} {i : Int} (hs : storeB x = true) (h : (x.log.length : Int) ≤ i) : atL x.log i = x.boxes := by
  unfold atL
  rw [List.take_of_length_le (by omega)]
  exact (store_parts hs).2.2.2.2.2

end Go.Proofs.YtbfgdbpfecffcaaGreatDoor
