/-
  Ge: LexM, LexC, LexD.
-/
import Derived.Test.YthihjelcakenpaaDoorGd
import Derived.Handy

/-
  Plain facts on tokens and lines: what is read of a line, and that a line is read as it was written. No program is read here.
-/
namespace Go.Proofs.YthihjelcakenpaaDoor
open Go.RowKit
open Go.Lib (decDigits itoa)

theorem uqAt_shift : ∀ (n : Nat) (l : List UInt8) (p q : Nat) (acc : List UInt8), l.length ≤ n → uqAt l (p + q) acc = (uqAt l q acc).map fun x => (x.1, p + x.2)
  | _, [], p, q, acc, _ => by rw [uqAt_nil, uqAt_nil]; rfl
  | 0, _ :: _, _, _, _, h => by simp at h
  | n + 1, b :: r, p, q, acc, h => by
    simp only [List.length_cons] at h
    by_cases h1 : b.toNat = 34
    · rw [uqAt_quote _ _ _ h1, uqAt_quote _ _ _ h1]
      split
      · rfl
      · simp; omega
    by_cases h2 : b.toNat = 92
    · rw [uqAt_slash _ _ _ h2, uqAt_slash _ _ _ h2]
      cases r with
      | nil => rfl
      | cons c r' =>
        simp only [List.length_cons] at h
        cases hc : escc c with
        | false => rw [uqEsc_no _ _ _ hc, uqEsc_no _ _ _ hc]; rfl
        | true =>
          rw [uqEsc_yes _ _ _ hc, uqEsc_yes _ _ _ hc, show p + q + 1 + 1 = p + (q + 1 + 1) by omega]
          exact uqAt_shift n r' p _ _ (by omega)
    cases h3 : txtc b with
    | false => rw [uqAt_bad _ _ _ h3, uqAt_bad _ _ _ h3]; rfl
    | true =>
      rw [uqAt_plain _ _ _ h1 h2 h3, uqAt_plain _ _ _ h1 h2 h3, show p + q + 1 = p + (q + 1) by omega]
      exact uqAt_shift n r p _ _ (by omega)

def ne125 (b : UInt8) : Bool := !decide (b.toNat = 125)
theorem take_nx {l : List UInt8} {k : Nat} {b : UInt8} (h : l[k]? = some b) : l.take (k + 1) = l.take k ++ [b] := by
  obtain ⟨h1, h2⟩ := List.getElem?_eq_some_iff.1 h
  rw [List.take_succ_eq_append_getElem h1, h2]

/-- A literal, behind its opening brace: the text and how many bytes (the brace counted). -/
def litS (r : List UInt8) : Option (Tok × Nat) :=
  let d := r.takeWhile ne125
  if r[d.length + 1]? = some 13 ∧ r[d.length + 2]? = some 10 then
    match numl d with
    | some n => if n ≤ 40 ∧ n ≤ r.length - (d.length + 3) ∧ d.length + 3 ≤ r.length then some (⟨2, (r.drop (d.length + 3)).take n⟩, 1 + d.length + 3 + n) else none
    | none => none
  else none
def atomS (l : List UInt8) : Option (Tok × Nat) := if atomB (l.takeWhile atomc) = true then some (⟨1, l.takeWhile atomc⟩, (l.takeWhile atomc).length) else none
/-- A token at the head of a text. -/
def tkS : List UInt8 → Option (Tok × Nat)
  | [] => none
  | b :: r =>
    if b.toNat = 40 then some (⟨3, []⟩, 1)
    else if b.toNat = 41 then some (⟨4, []⟩, 1)
    else if b.toNat = 34 then (uqAt r 1 []).map fun x => (⟨2, x.1⟩, x.2)
    else if b.toNat = 123 then litS r
    else atomS (b :: r)
/-- May t stand here, with a blank ahead of it or not? -/
def fitB (prev : Option Tok) (blank : Bool) (t : Tok) : Bool := match prev with | none => !blank | some a => blank == gapB a t
def lexS : Nat → Option Tok → List UInt8 → Option (List Tok)
  | 0, _, _ => none
  | _ + 1, _, [] => some []
  | n + 1, prev, c :: r =>
    match tkS (if c.toNat = 32 then r else c :: r) with
    | none => none
    | some (t, k) => if fitB prev (decide (c.toNat = 32)) t = true then (lexS n (some t) ((if c.toNat = 32 then r else c :: r).drop k)).map (t :: ·) else none
def lexL (l : List UInt8) : Option (List Tok) := lexS (l.length + 1) none l

theorem uqAt_pos : ∀ (n : Nat) (l : List UInt8) (p : Nat) (acc t : List UInt8) (e : Nat), l.length ≤ n → uqAt l p acc = some (t, e) → p + 1 ≤ e ∧ e ≤ p + l.length := by
  intro n l p acc t e hn h
  obtain ⟨z, r, _, h2, _, _, h5⟩ := uqAt_back n l p acc t e hn h
  have : l.length = (escl z).length + 1 + r.length := by rw [h2]; simp; omega
  omega
theorem tkS_pos (l : List UInt8) (t : Tok) (k : Nat) (h : tkS l = some (t, k)) : 1 ≤ k ∧ k ≤ l.length := by
  cases l with
  | nil => cases h
  | cons b r =>
    simp only [tkS] at h
    split at h
    · injection h with h; injection h with _ h; subst h; simp
    split at h
    · injection h with h; injection h with _ h; subst h; simp
    split at h
    · cases hu : uqAt r 1 [] with
      | none => rw [hu] at h; cases h
      | some x =>
        rw [hu] at h
        injection h with h; injection h with _ h
        have := uqAt_pos r.length r 1 [] x.1 x.2 (Nat.le_refl _) hu
        simp only [List.length_cons]; omega
    split at h
    · simp only [litS] at h
      split at h
      · split at h
        · split at h
          · injection h with h; injection h with _ h
            simp only [List.length_cons]; omega
          · cases h
        · cases h
      · cases h
    · simp only [atomS] at h
      split at h
      · rename_i ha
        injection h with h; injection h with _ h
        unfold atomB at ha
        simp only [Bool.and_eq_true, decide_eq_true_eq] at ha
        have := (List.takeWhile_sublist atomc (l := b :: r)).length_le
        omega
      · cases h

/-- Fuel enough is as good as more. -/
theorem lexS_fuel : ∀ (n m : Nat) (prev : Option Tok) (l : List UInt8), l.length < n → l.length < m → lexS n prev l = lexS m prev l
  | 0, _, _, _, h, _ => by omega
  | _, 0, _, _, _, h => by omega
  | _ + 1, _ + 1, _, [], _, _ => rfl
  | n + 1, m + 1, prev, c :: r, h1, h2 => by
    simp only [List.length_cons] at h1 h2
    simp only [lexS]
    generalize hl : (if c.toNat = 32 then r else c :: r) = l'
    have hle : l'.length ≤ r.length + 1 := by subst hl; split <;> simp
    cases ht : tkS l' with
    | none => rfl
    | some x =>
      have := tkS_pos l' x.1 x.2 ht
      simp only
      split
      · rw [lexS_fuel n m (some x.1) (l'.drop x.2) (by rw [List.length_drop]; omega) (by rw [List.length_drop]; omega)]
      · rfl

/-! ### A line is read as it was written -/

/-- What may stand behind an atom. -/
def endsAtom : List UInt8 → Bool
  | [] => true
  | b :: _ => !atomc b
theorem takeWhile_all {l r : List UInt8} {p : UInt8 → Bool} (h : l.all p = true) (hr : ∀ b r', r = b :: r' → p b = false) : (l ++ r).takeWhile p = l := by
  induction l with
  | nil =>
    cases r with
    | nil => rfl
    | cons b r' => simp [hr b r' rfl]
  | cons x l ih =>
    simp only [List.all_cons, Bool.and_eq_true] at h
    simp [h.1, ih h.2]
theorem atom_head {l : List UInt8} (h : atomB l = true) : ∃ b r, l = b :: r ∧ atomc b = true ∧ ¬ b.toNat = 40 ∧ ¬ b.toNat = 41 ∧ ¬ b.toNat = 34 ∧ ¬ b.toNat = 123 ∧ ¬ b.toNat = 32 := by
  unfold atomB at h
  simp only [Bool.and_eq_true, decide_eq_true_eq] at h
  cases l with
  | nil => simp at h
  | cons b r =>
    have hb : atomc b = true := by simp only [List.all_cons, Bool.and_eq_true] at h; exact h.1.1.1
    have h2 := hb
    unfold atomc at h2
    simp only [Bool.and_eq_true, decide_eq_true_eq, Bool.not_eq_true', Bool.or_eq_false_iff, decide_eq_false_iff_not] at h2
    exact ⟨b, r, rfl, hb, by omega, by omega, by omega, by omega, by omega⟩

theorem decDigits_isd (n : Nat) : (decDigits n).all isd = true := (decDigits_facts n).2.1
theorem numl_dec {n : Nat} (h : n ≤ 999999999) : numl (decDigits n) = some n := by
  unfold numl
  rw [if_pos ⟨(canon_iff _).2 (by rw [(decDigits_facts n).1]), by rw [(decDigits_facts n).1]; exact h⟩, (decDigits_facts n).1]
theorem dig_not_brace {l : List UInt8} (h : l.all isd = true) : l.all ne125 = true := by
  rw [List.all_eq_true] at h ⊢
  intro b hb
  have := h b hb
  unfold isd at this
  simp only [Bool.and_eq_true, decide_eq_true_eq] at this
  simp [ne125]; omega

theorem tkS_tokText (t : Tok) (r : List UInt8) (h : ¬ tokText t = []) (hr : t.kind = 1 → endsAtom r = true) : tkS (tokText t ++ r) = some (t, (tokText t).length) := by
  obtain ⟨k, x⟩ := t
  unfold tokText at h ⊢
  simp only at h hr ⊢
  by_cases h1 : k = 1
  · subst h1
    simp only [if_true] at h ⊢
    cases ha : atomB x with
    | false => rw [ha] at h; exact absurd rfl h
    | true =>
      simp only [if_true]
      obtain ⟨b, y, hx, hb, n1, n2, n3, n4, n5⟩ := atom_head ha
      have hw : (x ++ r).takeWhile atomc = x := by
        refine takeWhile_all (by unfold atomB at ha; simp only [Bool.and_eq_true] at ha; exact ha.1.1) (fun c r' e => ?_)
        have := hr rfl
        rw [e] at this
        simpa [endsAtom] using this
      rw [hx] at hw ha ⊢
      rw [List.cons_append]
      simp only [tkS, n1, n2, n3, n4, if_false, atomS]
      rw [List.cons_append] at hw
      rw [hw, ha]
      simp
  rw [if_neg h1] at h ⊢
  by_cases h2 : k = 2
  · subst h2
    simp only [if_true] at h ⊢
    by_cases hq : quoteL x = []
    · rw [if_pos hq] at h ⊢
      unfold litL at h ⊢
      by_cases hl : x.length ≤ 40
      · rw [if_pos hl]
        have hd : (decDigits x.length).all isd = true := decDigits_isd x.length
        have htw : (decDigits x.length ++ ([125, 13, 10] ++ x ++ r)).takeWhile ne125 = decDigits x.length :=
          takeWhile_all (dig_not_brace hd) (fun b r' e => by simp at e; obtain ⟨e1, _⟩ := e; subst e1; rfl)
        have hn : numl (decDigits x.length) = some x.length := numl_dec (by omega)
        have hs : [123] ++ decDigits x.length ++ [125, 13, 10] ++ x ++ r = 123 :: (decDigits x.length ++ ([125, 13, 10] ++ x ++ r)) := by simp
        rw [hs]
        have e0 : tkS (123 :: (decDigits x.length ++ ([125, 13, 10] ++ x ++ r))) = litS (decDigits x.length ++ ([125, 13, 10] ++ x ++ r)) := rfl
        rw [e0]
        unfold litS
        simp only [htw]
        have g1 : (decDigits x.length ++ ([125, 13, 10] ++ x ++ r))[(decDigits x.length).length + 1]? = some 13 := by
          rw [List.getElem?_append_right (by omega), Nat.add_sub_cancel_left]; rfl
        have g2 : (decDigits x.length ++ ([125, 13, 10] ++ x ++ r))[(decDigits x.length).length + 2]? = some 10 := by
          rw [List.getElem?_append_right (by omega), Nat.add_sub_cancel_left]; rfl
        have g3 : (decDigits x.length ++ ([125, 13, 10] ++ x ++ r)).drop ((decDigits x.length).length + 3) = x ++ r := by
          rw [List.drop_append, List.drop_of_length_le (by omega), Nat.add_sub_cancel_left]; rfl
        have g4 : (decDigits x.length ++ ([125, 13, 10] ++ x ++ r)).length = (decDigits x.length).length + 3 + x.length + r.length := by simp; omega
        rw [if_pos ⟨g1, g2⟩, hn]
        simp only
        rw [if_pos ⟨hl, by omega, by omega⟩, g3]
        simp; omega
      · rw [if_neg hl] at h; exact absurd rfl h
    · rw [if_neg hq] at h ⊢
      have hc : x.all txtc = true ∧ x.length ≤ 40 := by
        by_cases hh : x.all txtc = true ∧ x.length ≤ 40
        · exact hh
        · exact absurd (by unfold quoteL; rw [if_neg hh]) hq
      rw [quoteL_yes _ hc.1 hc.2]
      have e0 : tkS (34 :: escl x ++ [34] ++ r) = (uqAt (escl x ++ 34 :: r) 1 []).map fun y => ((⟨2, y.1⟩ : Tok), y.2) := by simp [tkS]
      rw [e0, uqAt_escl x r 1 [] hc.1 (by simpa using hc.2)]
      simp; omega
  rw [if_neg h2] at h ⊢
  by_cases h3 : k = 3
  · subst h3
    simp only [if_true] at h ⊢
    by_cases hx : x = []
    · subst hx; rfl
    · rw [if_neg hx] at h; exact absurd rfl h
  rw [if_neg h3] at h ⊢
  by_cases h4 : k = 4
  · subst h4
    simp only [if_true] at h ⊢
    by_cases hx : x = []
    · subst hx; rfl
    · rw [if_neg hx] at h; exact absurd rfl h
  · rw [if_neg h4] at h; exact absurd rfl h

/-- The head of a token's text is no blank. -/
theorem tokText_head (t : Tok) (h : ¬ tokText t = []) : ∃ b r, tokText t = b :: r ∧ ¬ b.toNat = 32 := by
  unfold tokText at h ⊢
  split
  · rename_i h1
    rw [if_pos h1] at h
    cases ha : atomB t.text with
    | false => rw [ha] at h; exact absurd rfl h
    | true =>
      obtain ⟨b, y, hx, _, _, _, _, _, n5⟩ := atom_head ha
      exact ⟨b, y, by simpa using hx, n5⟩
  rename_i h1
  rw [if_neg h1] at h
  split
  · rename_i h2
    rw [if_pos h2] at h
    split
    · rename_i hq
      rw [if_pos hq] at h
      unfold litL at h ⊢
      split
      · exact ⟨123, _, by simp; rfl, by decide⟩
      · rename_i hl; rw [if_neg hl] at h; exact absurd rfl h
    · rename_i hq
      unfold quoteL at hq ⊢
      split
      · exact ⟨34, _, by simp; rfl, by decide⟩
      · rename_i hl; rw [if_neg hl] at hq; exact absurd rfl hq
  rename_i h2
  rw [if_neg h2] at h
  split
  · rename_i h3
    rw [if_pos h3] at h
    split
    · exact ⟨40, [], rfl, by decide⟩
    · rename_i hl; rw [if_neg hl] at h; exact absurd rfl h
  rename_i h3
  rw [if_neg h3] at h
  split
  · rename_i h4
    rw [if_pos h4] at h
    split
    · exact ⟨41, [], rfl, by decide⟩
    · rename_i hl; rw [if_neg hl] at h; exact absurd rfl h
  · rename_i h4; rw [if_neg h4] at h; exact absurd rfl h

/-- Behind an atom a line goes on with what ends it. -/
theorem ends_line (a : Tok) (ha : a.kind = 1) (l : List Tok) (hl : okLine l = true) : endsAtom (lineFrom (some a) l) = true := by
  cases l with
  | nil => rfl
  | cons t r =>
    simp only [lineFrom]
    cases hg : gapB a t with
    | true => rw [sepL_yes hg]; rfl
    | false =>
      rw [sepL_no hg]
      have h4 : t.kind = 4 := by
        unfold gapB at hg
        rw [ha] at hg
        simpa using hg
      have hne : ¬ tokText t = [] := by
        unfold okLine at hl
        simp only [List.all_cons, Bool.and_eq_true, Bool.not_eq_true', List.isEmpty_eq_false_iff] at hl
        exact hl.1
      have : tokText t = [41] := by
        unfold tokText at hne ⊢
        rw [h4] at hne ⊢
        simp only [show ¬ (4 : Int) = 1 by decide, show ¬ (4 : Int) = 2 by decide, show ¬ (4 : Int) = 3 by decide, if_false, if_true] at hne ⊢
        split
        · rfl
        · rename_i hx; rw [if_neg hx] at hne; exact absurd rfl hne
      rw [this]; rfl

theorem lexS_line : ∀ (l : List Tok) (prev : Option Tok) (n : Nat), okLine l = true → (lineFrom prev l).length < n → lexS n prev (lineFrom prev l) = some l
  | [], _, n, _, h => by
    cases n with
    | zero => simp at h
    | succ n => rfl
  | t :: r, prev, n, hok, h => by
    have hok2 : okLine r = true := by unfold okLine at hok ⊢; simp only [List.all_cons, Bool.and_eq_true] at hok; exact hok.2
    have hne : ¬ tokText t = [] := by
      unfold okLine at hok
      simp only [List.all_cons, Bool.and_eq_true, Bool.not_eq_true', List.isEmpty_eq_false_iff] at hok
      exact hok.1
    obtain ⟨b, y, hb, hb32⟩ := tokText_head t hne
    have htk := tkS_tokText t (lineFrom (some t) r) hne (fun hk => ends_line t hk r hok2)
    cases n with
    | zero => simp at h
    | succ n =>
      simp only [lineFrom] at h ⊢
      have hlen : 0 < (tokText t).length := by rw [hb]; simp
      have hrest : (tokText t ++ lineFrom (some t) r).drop (tokText t).length = lineFrom (some t) r := List.drop_left
      have go : ∀ hl : (lineFrom (some t) r).length < n, lexS n (some t) (lineFrom (some t) r) = some r := fun hl => lexS_line r (some t) n hok2 hl
      cases hs : sepL prev t with
      | nil =>
        rw [hs] at h
        have hfit : fitB prev false t = true := by
          cases prev with
          | none => rfl
          | some a =>
            cases hg : gapB a t with
            | true => rw [sepL_yes hg] at hs; cases hs
            | false => simp [fitB, hg]
        simp only [List.nil_append] at h ⊢
        rw [hb] at htk hrest h ⊢
        simp only [List.cons_append] at htk hrest h ⊢
        simp only [lexS, hb32, if_false, htk, decide_false, hfit, if_true, hrest]
        rw [go (by simp only [List.length_cons, List.length_append] at h; omega)]
        rfl
      | cons c z =>
        have hgap : c = 32 ∧ z = [] ∧ fitB prev true t = true := by
          cases prev with
          | none => cases hs
          | some a =>
            cases hg : gapB a t with
            | false => rw [sepL_no hg] at hs; cases hs
            | true =>
              rw [sepL_yes hg] at hs
              injection hs with h1 h2
              exact ⟨h1.symm, h2.symm, by simp [fitB, hg]⟩
        obtain ⟨rfl, rfl, hfit⟩ := hgap
        rw [hs] at h
        simp only [List.cons_append, List.nil_append] at h ⊢
        have e32 : (32 : UInt8).toNat = 32 := rfl
        simp only [lexS, e32, if_true, htk, decide_true, hfit, hrest]
        rw [go (by simp only [List.length_cons, List.length_append] at h; omega)]
        rfl

theorem lexL_lineL (l : List Tok) (h : okLine l = true) : lexL (lineL l) = some l := by
  unfold lineL
  rw [if_pos h]
  exact lexS_line l none _ h (by omega)

/-! ### What is read is written as tokens that are read so again -/

theorem tkS_ok (l : List UInt8) (t : Tok) (k : Nat) (h : tkS l = some (t, k)) : ¬ tokText t = [] ∧ t.text.length ≤ 40 := by
  cases l with
  | nil => cases h
  | cons b r =>
    simp only [tkS] at h
    split at h
    · injection h with h; injection h with h _; subst h; exact ⟨by decide, by simp⟩
    split at h
    · injection h with h; injection h with h _; subst h; exact ⟨by decide, by simp⟩
    split at h
    · cases hu : uqAt r 1 [] with
      | none => rw [hu] at h; cases h
      | some x =>
        rw [hu] at h
        injection h with h; injection h with h _
        obtain ⟨z, _, h1, _, h3, h4, _⟩ := uqAt_back r.length r 1 [] x.1 x.2 (Nat.le_refl _) hu
        simp only [List.nil_append] at h1
        subst h
        refine ⟨?_, h4⟩
        have hq : ¬ quoteL x.1 = [] := by rw [quoteL_yes _ (by rw [h1]; exact h3) h4]; simp
        unfold tokText
        rw [if_neg (by show ¬ ((2 : Int) = 1); decide), if_pos rfl, if_neg hq]
        exact hq
    split at h
    · simp only [litS] at h
      split at h
      · split at h
        · split at h
          · rename_i nn hq hc
            injection h with h; injection h with h _
            subst h
            have hl : ((r.drop ((r.takeWhile ne125).length + 3)).take nn).length ≤ nn := List.length_take_le _ _
            refine ⟨?_, by exact Nat.le_trans hl hc.1⟩
            unfold tokText
            rw [if_neg (by show ¬ ((2 : Int) = 1); decide), if_pos rfl]
            split
            · unfold litL
              rw [if_pos (by exact Nat.le_trans hl hc.1)]
              simp
            · assumption
          · cases h
        · cases h
      · cases h
    · simp only [atomS] at h
      split at h
      · rename_i ha
        injection h with h; injection h with h _
        subst h
        have h2 := ha
        unfold atomB at h2
        simp only [Bool.and_eq_true, decide_eq_true_eq] at h2
        refine ⟨?_, h2.2⟩
        unfold tokText
        rw [if_pos rfl, if_pos ha]
        intro e
        have h3 := h2.1.2
        have e' : List.takeWhile atomc (b :: r) = [] := e
        rw [e'] at h3
        simp at h3
      · cases h
theorem lexS_ok : ∀ (n : Nat) (prev : Option Tok) (l : List UInt8) (ts : List Tok), lexS n prev l = some ts → okLine ts = true ∧ (∀ t ∈ ts, t.text.length ≤ 40) ∧ ts.length ≤ l.length
  | 0, _, _, _, h => by cases h
  | n + 1, _, [], ts, h => by injection h with h; subst h; exact ⟨rfl, by simp, by simp⟩
  | n + 1, prev, c :: r, ts, h => by
    simp only [lexS] at h
    generalize hl : (if c.toNat = 32 then r else c :: r) = l' at h
    have hle : l'.length ≤ r.length + 1 := by subst hl; split <;> simp
    cases ht : tkS l' with
    | none => rw [ht] at h; cases h
    | some x =>
      rw [ht] at h
      simp only at h
      split at h
      · cases hn : lexS n (some x.1) (l'.drop x.2) with
        | none => rw [hn] at h; cases h
        | some ys =>
          rw [hn] at h
          injection h with h
          subst h
          have h1 := tkS_ok l' x.1 x.2 ht
          have h2 := lexS_ok n (some x.1) (l'.drop x.2) ys hn
          have h3 := tkS_pos l' x.1 x.2 ht
          have h4 := h2.2.2
          rw [List.length_drop] at h4
          refine ⟨?_, ?_, by simp only [List.length_cons]; omega⟩
          · unfold okLine at *
            rw [List.all_cons, h2.1]
            cases hh : tokText x.1 with
            | nil => exact absurd hh h1.1
            | cons a r => rfl
          · intro t htm
            rcases List.mem_cons.1 htm with rfl | htm
            · exact h1.2
            · exact h2.2.1 t htm
      · cases h
theorem lexL_back (l : List UInt8) (ts : List Tok) (h : lexL l = some ts) : lexL (lineL ts) = some ts := lexL_lineL ts (lexS_ok _ _ _ _ h).1

end Go.Proofs.YthihjelcakenpaaDoor

/-
  Chapter 3's walks: the model's l3Take.
-/
namespace Go.Proofs.YthihjelcakenpaaDoor
open Go.RowKit

def TkPost (o : Option (Tok × Nat)) (p : Nat) (w : World) (e : Ending) (w' : World) : Prop :=
  (match o with | some (t, k) => e = .returned (.tuple #[tokv t, .int .i64 ((p + k : Nat) : Int)]) | none => ∃ t0 : Tok, e = .returned (.tuple #[tokv t0, .int .i64 (-1)])) ∧ Below w.heap.size w w'
theorem TkPost.some' {o : Option (Tok × Nat)} {t : Tok} {k p : Nat} {w w' : World} {e : Ending} (h : o = some (t, k)) (he : e = .returned (.tuple #[tokv t, .int .i64 ((p + k : Nat) : Int)])) (hb : Below w.heap.size w w') : TkPost o p w e w' := by subst h; exact ⟨he, hb⟩
theorem TkPost.none' {o : Option (Tok × Nat)} (t0 : Tok) {p : Nat} {w w' : World} {e : Ending} (h : o = none) (he : e = .returned (.tuple #[tokv t0, .int .i64 (-1)])) (hb : Below w.heap.size w w') : TkPost o p w e w' := by subst h; exact ⟨⟨t0, he⟩, hb⟩

theorem tkS_cons (b : UInt8) (r : List UInt8) : tkS (b :: r) = (if b.toNat = 40 then some (⟨3, []⟩, 1) else if b.toNat = 41 then some (⟨4, []⟩, 1) else if b.toNat = 34 then (uqAt r 1 []).map fun x => ((⟨2, x.1⟩ : Tok), x.2) else if b.toNat = 123 then litS r else atomS (b :: r)) := rfl
theorem beq_nat {n k : Nat} (h : ((n : Int) == (k : Int)) = true) : n = k := by have := beq_iff_eq.1 h; omega
theorem beq_nat' {n k : Nat} (h : ((n : Int) == (k : Int)) = false) : ¬ n = k := by have := beq_eq_false_iff_ne.1 h; omega
section
variable (s : ByteArray) (p : Nat) (h : p < s.size)
include h
theorem tk_open (h1 : ((s[p].toNat : Int) == 40) = true) : tkS (s.data.toList.drop p) = some (⟨3, []⟩, 1) := by
  rw [drop_str s p h, tkS_cons, if_pos (beq_nat h1)]
theorem tk_close (h1 : ((s[p].toNat : Int) == 40) = false) (h2 : ((s[p].toNat : Int) == 41) = true) : tkS (s.data.toList.drop p) = some (⟨4, []⟩, 1) := by
  rw [drop_str s p h, tkS_cons, if_neg (beq_nat' h1), if_pos (beq_nat h2)]
theorem tk_quote (h1 : ((s[p].toNat : Int) == 40) = false) (h2 : ((s[p].toNat : Int) == 41) = false) (h3 : ((s[p].toNat : Int) == 34) = true) : uqO s.data.toList (p : Int) = (tkS (s.data.toList.drop p)).map (fun x => (x.1.text, p + x.2)) ∧ (∀ x, tkS (s.data.toList.drop p) = some x → x.1.kind = 2) := by
  rw [uqO_at s p h, if_pos (beq_iff_eq.1 h3), drop_str s p h, tkS_cons, if_neg (beq_nat' h1), if_neg (beq_nat' h2), if_pos (beq_nat h3), uqAt_shift _ _ p 1 [] (Nat.le_refl _)]
  cases uqAt (s.data.toList.drop (p + 1)) 1 [] with
  | none => exact ⟨rfl, fun x hx => by cases hx⟩
  | some y => exact ⟨rfl, fun x hx => by injection hx with hx; subst hx; rfl⟩
theorem tk_lit (h1 : ((s[p].toNat : Int) == 40) = false) (h2 : ((s[p].toNat : Int) == 41) = false) (h3 : ((s[p].toNat : Int) == 34) = false) (h4 : ((s[p].toNat : Int) == 123) = true) : tkS (s.data.toList.drop p) = litS (s.data.toList.drop (p + 1)) := by
  rw [drop_str s p h, tkS_cons, if_neg (beq_nat' h1), if_neg (beq_nat' h2), if_neg (beq_nat' h3), if_pos (beq_nat h4)]
theorem tk_atom (h1 : ((s[p].toNat : Int) == 40) = false) (h2 : ((s[p].toNat : Int) == 41) = false) (h3 : ((s[p].toNat : Int) == 34) = false) (h4 : ((s[p].toNat : Int) == 123) = false) : tkS (s.data.toList.drop p) = atomS (s.data.toList.drop p) := by
  rw [drop_str s p h, tkS_cons, if_neg (beq_nat' h1), if_neg (beq_nat' h2), if_neg (beq_nat' h3), if_neg (beq_nat' h4)]
end

/-- The longest run from p on ends at k. -/
theorem run_is (s : ByteArray) (q : UInt8 → Bool) (p k : Nat) (hp : p ≤ k) (ha : ((s.data.toList.drop p).take (k - p)).all q = true) (he : ∀ h : k < s.size, q s[k] = false) : (s.data.toList.drop p).takeWhile q = (s.data.toList.drop p).take (k - p) := by
  have e : s.data.toList.drop p = (s.data.toList.drop p).take (k - p) ++ s.data.toList.drop k := by
    have := List.take_append_drop (k - p) (s.data.toList.drop p)
    rw [List.drop_drop, show p + (k - p) = k by omega] at this
    exact this.symm
  conv => lhs; rw [e]
  refine takeWhile_all ha (fun b r' hb => ?_)
  by_cases hlt : k < s.size
  · rw [drop_str s k hlt] at hb
    injection hb with hb _
    rw [← hb]; exact he hlt
  · rw [drop_str_end s k hlt] at hb; cases hb
theorem run_step (s : ByteArray) (q : UInt8 → Bool) (p k : Nat) (hp : p ≤ k) (hk : k < s.size) (ha : ((s.data.toList.drop p).take (k - p)).all q = true) (he : q s[k] = true) : ((s.data.toList.drop p).take (k + 1 - p)).all q = true := by
  have e : (s.data.toList.drop p).take (k + 1 - p) = (s.data.toList.drop p).take (k - p) ++ [s[k]] := by
    rw [show k + 1 - p = (k - p) + 1 by omega]
    refine take_nx ?_
    rw [List.getElem?_drop, show p + (k - p) = k by omega, List.getElem?_eq_getElem (by simpa using hk)]
    rfl
  rw [e, List.all_append, ha]; simp [he]
theorem run_len (s : ByteArray) (p k : Nat) (hp : p ≤ k) (hk : k ≤ s.size) : ((s.data.toList.drop p).take (k - p)).length = k - p := by simp; omega
theorem ext_list (s : ByteArray) (p k : Nat) : (s.extract p k).data.toList = (s.data.toList.drop p).take (k - p) := Lib.extract_data s p k
theorem ext_sv (s : ByteArray) (p k : Nat) : Value.string (s.extract p k) = sv ((s.data.toList.drop p).take (k - p)) := by rw [Lib.extract_eq]
theorem ext_one (s : ByteArray) (k : Nat) (h : k < s.size) : atomB (s.extract k (k + 1)).data.toList = atomc s[k] := by
  rw [ext_list, drop_str s k h, show k + 1 - k = 1 by omega]
  simp [atomB]

theorem atomS_yes {l a : List UInt8} (h : l.takeWhile atomc = a) (ha : atomB a = true) : atomS l = some (⟨1, a⟩, a.length) := by unfold atomS; rw [h, if_pos ha]
theorem atomS_no {l a : List UInt8} (h : l.takeWhile atomc = a) (ha : atomB a = false) : atomS l = none := by unfold atomS; rw [h, if_neg (by rw [ha]; simp)]

/-- What a literal's loop has found: the closing brace is looked for up to k. -/
theorem lit_d (s : ByteArray) (p k : Nat) (hp : p < s.size) (h4 : ((s[p].toNat : Int) == 123) = true) (hpk : p ≤ k) (hk : k ≤ s.size) (ha : ((s.data.toList.drop p).take (k - p)).all ne125 = true) (he : ∀ h : k < s.size, ne125 s[k] = false) :
    p + 1 ≤ k ∧ (s.data.toList.drop (p + 1)).takeWhile ne125 = (s.data.toList.drop (p + 1)).take (k - (p + 1)) ∧ ((s.data.toList.drop (p + 1)).takeWhile ne125).length = k - (p + 1) := by
  have hne : ne125 s[p] = true := by unfold ne125; rw [beq_nat h4]; rfl
  have h1 : p + 1 ≤ k := by
    rcases Nat.lt_or_ge p k with h | h
    · exact h
    · obtain rfl : k = p := by omega
      rw [he hp] at hne; cases hne
  have ha2 : ((s.data.toList.drop (p + 1)).take (k - (p + 1))).all ne125 = true := by
    rw [drop_str s p hp, show k - p = (k - (p + 1)) + 1 by omega, List.take_succ_cons, List.all_cons, Bool.and_eq_true] at ha
    exact ha.2
  have h2 := run_is s ne125 (p + 1) k h1 ha2 he
  exact ⟨h1, h2, by rw [h2, run_len s (p + 1) k h1 hk]⟩
theorem drop_get (s : ByteArray) (p j : Nat) (h : p + j < s.size) : (s.data.toList.drop p)[j]? = some s[p + j] := by
  rw [List.getElem?_drop, List.getElem?_eq_getElem (by simpa using h)]
  rfl
theorem litS_no {r : List UInt8} (h : ¬ (r[(r.takeWhile ne125).length + 1]? = some 13 ∧ r[(r.takeWhile ne125).length + 2]? = some 10)) : litS r = none := by
  unfold litS; simp only; rw [if_neg h]
theorem litS_num {r d : List UInt8} {m : Nat} (hd : r.takeWhile ne125 = d) (hm : d.length = m) (h1 : r[m + 1]? = some 13) (h2 : r[m + 2]? = some 10) :
    litS r = match numl d with | some n => if n ≤ 40 ∧ n ≤ r.length - (m + 3) ∧ m + 3 ≤ r.length then some (⟨2, (r.drop (m + 3)).take n⟩, 1 + m + 3 + n) else none | none => none := by
  subst hm
  unfold litS
  simp only [hd]
  rw [if_pos ⟨h1, h2⟩] <;> rfl
theorem u8_eq {b : UInt8} {n : Nat} (h : ((b.toNat : Int) == (n : Int)) = true) (hn : n < 256) : b = UInt8.ofNat n := by
  apply UInt8.toNat_inj.1
  rw [UInt8.toNat_ofNat_of_lt' (by simpa using hn)]
  exact beq_nat h

/-- Behind a call the cells of a block that was made just before it stand. -/
theorem new_cells {w w1 : World} {cs : Array Value} {e : TypeId} (hb : Below (w.heap.size + 1) (w.alloc (.cells cs e)) w1) : (∀ j, w1.cell? ⟨w.heap.size, j, none⟩ = cs[j]?) ∧ (∀ j, w1.frozen? ⟨w.heap.size, j, none⟩ = false) :=
  ⟨fun j => (hb.cell (p := ⟨w.heap.size, j, none⟩) (by simp)).trans (by simp [go_sem]), fun j => (hb.frozen (p := ⟨w.heap.size, j, none⟩) (by simp)).trans (by simp [go_sem])⟩

theorem two_set {w1 : World} {b : Nat} {x0 x1 : Value} (h0 : w1.cell? ⟨b, 0, none⟩ = some x0) (h1 : w1.cell? ⟨b, 1, none⟩ = some x1) :
    (∀ v, (w1.setCell ⟨b, 0, none⟩ v).cell? ⟨b, 0, none⟩ = some v) ∧ (∀ v v', ((w1.setCell ⟨b, 0, none⟩ v).setCell ⟨b, 1, none⟩ v').cell? ⟨b, 1, none⟩ = some v') := by
  refine ⟨fun v => World.cell?_setCell_same w1 _ _ h0, fun v v' => World.cell?_setCell_same _ _ _ (u := x1) ?_⟩
  rw [World.cell?_setCell_other w1 _ _ _ (by intro hh; injection hh with _ h2; cases h2)]
  exact h1

end Go.Proofs.YthihjelcakenpaaDoor

/-
  Chapter 3's walks: the model's Lex.
-/
namespace Go.Proofs.YthihjelcakenpaaDoor
open Go.RowKit

theorem Tryd.el_tok : Elem Tryd.prog 28 52 2 24 := Elem.mk' (z := .agg #[.int .i64 0, .string ⟨#[]⟩]) Tryd.underlying28 (by kernel_rfl) rfl (by omega)

def LexPost (U : Option (List Tok)) (w : World) (e : Ending) (w' : World) : Prop :=
  ∃ v, e = .returned (.tuple #[v, .bool U.isSome]) ∧ w'.ownsRow w.heap.size 52 2 v (U.getD []).length ((U.getD []).flatMap tokc) ∧ Below w.heap.size w w'

/-- What the loop knows: ts read, the rest from p on. -/
def LxSt (l : List UInt8) (p : Nat) (ts : List Tok) (n : Nat) (U : Option (List Tok)) : Prop :=
  n = ts.length ∧ (lexS (l.length - p + 1) (lastOr none ts) (l.drop p)).map (ts ++ ·) = U
theorem LxSt.start (l : List UInt8) : LxSt l 0 [] 0 (lexL l) := by
  refine ⟨rfl, ?_⟩
  show (lexS (l.length - 0 + 1) none (l.drop 0)).map ([] ++ ·) = _
  unfold lexL
  rw [List.drop_zero, Nat.sub_zero]
  cases lexS (l.length + 1) none l <;> simp
section
variable {s : ByteArray} {p n : Nat} {ts : List Tok} {U : Option (List Tok)}
theorem LxSt.done (h : LxSt s.data.toList p ts n U) (hp : ¬ p < s.size) : U = some ts := by
  rw [← h.2, drop_str_end s p hp]
  simp [lexS]
/-- The token at the head of the rest. -/
def tkAt (s : ByteArray) (p : Nat) (blank : Bool) : Option (Tok × Nat) := tkS (s.data.toList.drop (if blank = true then p + 1 else p))
theorem lexS_at (s : ByteArray) (p n : Nat) (prev : Option Tok) (h : p < s.size) (blank : Bool) (hb : decide (s[p].toNat = 32) = blank) :
    lexS (n + 1) prev (s.data.toList.drop p) = match tkAt s p blank with | none => none | some (t, k) => if fitB prev blank t = true then (lexS n (some t) (s.data.toList.drop ((if blank = true then p + 1 else p) + k))).map (t :: ·) else none := by
  unfold tkAt
  rw [drop_str s p h]
  simp only [lexS]
  cases blank with
  | true =>
    have h32 := of_decide_eq_true hb
    simp only [h32, if_true, decide_true, List.drop_drop]
    try (cases tkS (s.data.toList.drop (p + 1)) <;> rfl)
  | false =>
    have h32 := of_decide_eq_false hb
    simp only [h32, if_false, decide_false, Bool.false_eq_true]
    rw [← drop_str s p h]
    simp only [List.drop_drop]
    try (cases tkS (s.data.toList.drop p) <;> rfl)
theorem LxSt.bad (h : LxSt s.data.toList p ts n U) (hp : p < s.size) (blank : Bool) (hb : decide (s[p].toNat = 32) = blank) (ht : tkAt s p blank = none) : U = none := by
  rw [← h.2, lexS_at s p _ _ hp blank hb, ht]; rfl
theorem LxSt.unfit (h : LxSt s.data.toList p ts n U) (hp : p < s.size) (blank : Bool) (hb : decide (s[p].toNat = 32) = blank) {t : Tok} {k : Nat} (ht : tkAt s p blank = some (t, k)) (hf : fitB (lastOr none ts) blank t = false) : U = none := by
  rw [← h.2, lexS_at s p _ _ hp blank hb, ht]
  simp only [hf]
  rfl
theorem LxSt.step (h : LxSt s.data.toList p ts n U) (hp : p < s.size) (blank : Bool) (hb : decide (s[p].toNat = 32) = blank) {t : Tok} {k : Nat} (ht : tkAt s p blank = some (t, k)) (hf : fitB (lastOr none ts) blank t = true) :
    LxSt s.data.toList ((if blank = true then p + 1 else p) + k) (ts ++ [t]) (n + 1) U ∧ p < (if blank = true then p + 1 else p) + k ∧ (if blank = true then p + 1 else p) + k ≤ s.size := by
  have hk := tkS_pos _ _ _ ht
  rw [List.length_drop, str_len] at hk
  have hq : p < (if blank = true then p + 1 else p) + k ∧ (if blank = true then p + 1 else p) + k ≤ s.size := by cases blank <;> simp at hk ⊢ <;> omega
  refine ⟨⟨by rw [h.1]; simp, ?_⟩, hq⟩
  rw [← h.2, lexS_at s p _ _ hp blank hb, ht]
  simp only [hf, if_true]
  rw [lastOr_snoc]
  rw [lexS_fuel (s.data.toList.length - ((if blank = true then p + 1 else p) + k) + 1) (s.data.toList.length - p) (some t) _ (by rw [List.length_drop]; omega) (by rw [List.length_drop, str_len]; omega)]
  cases lexS (s.data.toList.length - p) (some t) (s.data.toList.drop ((if blank = true then p + 1 else p) + k)) <;> simp
end
theorem lastOr_get : ∀ (l : List Tok) (p : Option Tok) (m : Nat), l.length = m + 1 → ∃ t, l[m]? = some t ∧ lastOr p l = some t
  | [], _, _, h => by simp at h
  | [x], _, m, h => by
    simp only [List.length_cons, List.length_nil] at h
    obtain rfl : m = 0 := by omega
    exact ⟨x, rfl, rfl⟩
  | x :: y :: l, p, m, h => by
    cases m with
    | zero => simp at h
    | succ m =>
      obtain ⟨t, h1, h2⟩ := lastOr_get (y :: l) (some x) m (by simpa using h)
      exact ⟨t, by simpa using h1, h2⟩
theorem lexL_len (l : List UInt8) (ts : List Tok) (h : lexL l = some ts) : ts.length ≤ l.length := (lexS_ok _ _ _ _ h).2.2
theorem own_empty (w : World) (e : TypeId) (B size : Nat) (hb : B ≤ w.heap.size) : (w.alloc (.cells #[] e)).ownsRow B e size (.slice (some ⟨w.heap.size, 0, none⟩) 0 0) 0 [] := World.ownsRow_made w #[] 0 hb (by unfold maxLen; omega) (by simp)

theorem own_empty2 (w1 : World) (o : Obj) (e : TypeId) (B size : Nat) (hB : B ≤ w1.heap.size) : ((w1.alloc o).alloc (.cells #[] e)).drew.ownsRow B e size (.slice (some ⟨w1.heap.size + 1, 0, none⟩) 0 0) 0 [] := by
  have h := own_empty (w1.alloc o) e B size (by simp; omega)
  simp only [World.size_alloc] at h
  exact h.drew

end Go.Proofs.YthihjelcakenpaaDoor

