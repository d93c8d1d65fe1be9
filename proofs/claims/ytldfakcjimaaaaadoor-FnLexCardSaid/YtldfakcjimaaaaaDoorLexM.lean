/-
  Plain facts on tokens and lines: what is read of a line, and that a line is read as it was written. No program is read here.
-/
import Derived.Test.YtldfakcjimaaaaaDoorLexB
namespace Go.Proofs.YtldfakcjimaaaaaDoor
open Go.RowKit
open Go.Lib (decDigits itoa)

theorem uqAt_shift : ∀ (n : Nat) (l : List UInt8) (p q : Nat) (acc : List UInt8), l.length ≤ n → uqAt l (p + q) acc = (uqAt l q acc).map fun x => (x.1, p + x.2)
  | _, [], p, q, acc, _ => by rw [uqAt_nil, uqAt_nil]; rfl
  | 0, _ :: _, _, _, _, h => by simp at h
  | n + 1, b :: r, p, q, acc, h => by
    simp only [List.length_cons] at h
    by_cases h1 : b.toNat = 34
    · rw [uqAt_quote _ _ _ h1, uqAt_quote _ _ _ h1]
      split
      · rfl
      · simp; omega
    by_cases h2 : b.toNat = 92
    · rw [uqAt_slash _ _ _ h2, uqAt_slash _ _ _ h2]
      cases r with
      | nil => rfl
      | cons c r' =>
        simp only [List.length_cons] at h
        cases hc : escc c with
        | false => rw [uqEsc_no _ _ _ hc, uqEsc_no _ _ _ hc]; rfl
        | true =>
          rw [uqEsc_yes _ _ _ hc, uqEsc_yes _ _ _ hc, show p + q + 1 + 1 = p + (q + 1 + 1) by omega]
          exact uqAt_shift n r' p _ _ (by omega)
    cases h3 : txtc b with
    | false => rw [uqAt_bad _ _ _ h3, uqAt_bad _ _ _ h3]; rfl
    | true =>
      rw [uqAt_plain _ _ _ h1 h2 h3, uqAt_plain _ _ _ h1 h2 h3, show p + q + 1 = p + (q + 1) by omega]
      exact uqAt_shift n r p _ _ (by omega)

def ne125 (b : UInt8) : Bool := !decide (b.toNat = 125)
theorem take_nx {l : List UInt8} {k : Nat} {b : UInt8} (h : l[k]? = some b) : l.take (k + 1) = l.take k ++ [b] := by
  obtain ⟨h1, h2⟩ := List.getElem?_eq_some_iff.1 h
  rw [List.take_succ_eq_append_getElem h1, h2]

/-- A literal, behind its opening brace: the text and how many bytes (the brace counted). -/
def litS (r : List UInt8) : Option (Tok × Nat) :=
  let d := r.takeWhile ne125
  if r[d.length + 1]? = some 13 ∧ r[d.length + 2]? = some 10 then
    match numl d with
    | some n => if n ≤ 40 ∧ n ≤ r.length - (d.length + 3) ∧ d.length + 3 ≤ r.length then some (⟨2, (r.drop (d.length + 3)).take n⟩, 1 + d.length + 3 + n) else none
    | none => none
  else none
def atomS (l : List UInt8) : Option (Tok × Nat) := if atomB (l.takeWhile atomc) = true then some (⟨1, l.takeWhile atomc⟩, (l.takeWhile atomc).length) else none
/-- A token at the head of a text. -/
def tkS : List UInt8 → Option (Tok × Nat)
  | [] => none
  | b :: r =>
    if b.toNat = 40 then some (⟨3, []⟩, 1)
    else if b.toNat = 41 then some (⟨4, []⟩, 1)
    else if b.toNat = 34 then (uqAt r 1 []).map fun x => (⟨2, x.1⟩, x.2)
    else if b.toNat = 123 then litS r
    else atomS (b :: r)
/-- May t stand here, with a blank ahead of it or not? -/
def fitB (prev : Option Tok) (blank : Bool) (t : Tok) : Bool := match prev with | none => !blank | some a => blank == gapB a t
def lexS : Nat → Option Tok → List UInt8 → Option (List Tok)
  | 0, _, _ => none
  | _ + 1, _, [] => some []
  | n + 1, prev, c :: r =>
    match tkS (if c.toNat = 32 then r else c :: r) with
    | none => none
    | some (t, k) => if fitB prev (decide (c.toNat = 32)) t = true then (lexS n (some t) ((if c.toNat = 32 then r else c :: r).drop k)).map (t :: ·) else none
def lexL (l : List UInt8) : Option (List Tok) := lexS (l.length + 1) none l

theorem uqAt_pos : ∀ (n : Nat) (l : List UInt8) (p : Nat) (acc t : List UInt8) (e : Nat), l.length ≤ n → uqAt l p acc = some (t, e) → p + 1 ≤ e ∧ e ≤ p + l.length := by
  intro n l p acc t e hn h
  obtain ⟨z, r, _, h2, _, _, h5⟩ := uqAt_back n l p acc t e hn h
  have : l.length = (escl z).length + 1 + r.length := by rw [h2]; simp; omega
  omega
theorem tkS_pos (l : List UInt8) (t : Tok) (k : Nat) (h : tkS l = some (t, k)) : 1 ≤ k ∧ k ≤ l.length := by
  cases l with
  | nil => cases h
  | cons b r =>
    simp only [tkS] at h
    split at h
    · injection h with h; injection h with _ h; subst h; simp
    split at h
    · injection h with h; injection h with _ h; subst h; simp
    split at h
    · cases hu : uqAt r 1 [] with
      | none => rw [hu] at h; cases h
      | some x =>
        rw [hu] at h
        injection h with h; injection h with _ h
        have := uqAt_pos r.length r 1 [] x.1 x.2 (Nat.le_refl _) hu
        simp only [List.length_cons]; omega
    split at h
    · simp only [litS] at h
      split at h
      · split at h
        · split at h
          · injection h with h; injection h with _ h
            simp only [List.length_cons]; omega
          · cases h
        · cases h
      · cases h
    · simp only [atomS] at h
      split at h
      · rename_i ha
        injection h with h; injection h with _ h
        unfold atomB at ha
        simp only [Bool.and_eq_true, decide_eq_true_eq] at ha
        have := (List.takeWhile_sublist atomc (l := b :: r)).length_le
        omega
      · cases h

/-- Fuel enough is as good as more. -/
theorem lexS_fuel : ∀ (n m : Nat) (prev : Option Tok) (l : List UInt8), l.length < n → l.length < m → lexS n prev l = lexS m prev l
  | 0, _, _, _, h, _ => by omega
  | _, 0, _, _, _, h => by omega
  | _ + 1, _ + 1, _, [], _, _ => rfl
  | n + 1, m + 1, prev, c :: r, h1, h2 => by
    simp only [List.length_cons] at h1 h2
    simp only [lexS]
    generalize hl : (if c.toNat = 32 then r else c :: r) = l'
    have hle : l'.length ≤ r.length + 1 := by subst hl; split <;> simp
    cases ht : tkS l' with
    | none => rfl
    | some x =>
      have := tkS_pos l' x.1 x.2 ht
      simp only
      split
      · rw [lexS_fuel n m (some x.1) (l'.drop x.2) (by rw [List.length_drop]; omega) (by rw [List.length_drop]; omega)]
      · rfl

/-! ### A line is read as it was written -/

/-- What may stand behind an atom. -/
def endsAtom : List UInt8 → Bool
  | [] => true
  | b :: _ => !atomc b
theorem takeWhile_all {l r : List UInt8} {p : UInt8 → Bool} (h : l.all p = true) (hr : ∀ b r', r = b :: r' → p b = false) : (l ++ r).takeWhile p = l := by
  induction l with
  | nil =>
    cases r with
    | nil => rfl
    | cons b r' => simp [hr b r' rfl]
  | cons x l ih =>
    simp only [List.all_cons, Bool.and_eq_true] at h
    simp [h.1, ih h.2]
theorem atom_head {l : List UInt8} (h : atomB l = true) : ∃ b r, l = b :: r ∧ atomc b = true ∧ ¬ b.toNat = 40 ∧ ¬ b.toNat = 41 ∧ ¬ b.toNat = 34 ∧ ¬ b.toNat = 123 ∧ ¬ b.toNat = 32 := by
  unfold atomB at h
  simp only [Bool.and_eq_true, decide_eq_true_eq] at h
  cases l with
  | nil => simp at h
  | cons b r =>
    have hb : atomc b = true := by simp only [List.all_cons, Bool.and_eq_true] at h; exact h.1.1.1
    have h2 := hb
    unfold atomc at h2
    simp only [Bool.and_eq_true, decide_eq_true_eq, Bool.not_eq_true', Bool.or_eq_false_iff, decide_eq_false_iff_not] at h2
    exact ⟨b, r, rfl, hb, by omega, by omega, by omega, by omega, by omega⟩

theorem decDigits_isd (n : Nat) : (decDigits n).all isd = true := (decDigits_facts n).2.1
theorem numl_dec {n : Nat} (h : n ≤ 999999999) : numl (decDigits n) = some n := by
  unfold numl
  rw [if_pos ⟨(canon_iff _).2 (by rw [(decDigits_facts n).1]), by rw [(decDigits_facts n).1]; exact h⟩, (decDigits_facts n).1]
theorem dig_not_brace {l : List UInt8} (h : l.all isd = true) : l.all ne125 = true := by
  rw [List.all_eq_true] at h ⊢
  intro b hb
  have := h b hb
  unfold isd at this
  simp only [Bool.and_eq_true, decide_eq_true_eq] at this
  simp [ne125]; omega

theorem tkS_tokText (t : Tok) (r : List UInt8) (h : ¬ tokText t = []) (hr : t.kind = 1 → endsAtom r = true) : tkS (tokText t ++ r) = some (t, (tokText t).length) := by
  obtain ⟨k, x⟩ := t
  unfold tokText at h ⊢
  simp only at h hr ⊢
  by_cases h1 : k = 1
  · subst h1
    simp only [if_true] at h ⊢
    cases ha : atomB x with
    | false => rw [ha] at h; exact absurd rfl h
    | true =>
      simp only [if_true]
      obtain ⟨b, y, hx, hb, n1, n2, n3, n4, n5⟩ := atom_head ha
      have hw : (x ++ r).takeWhile atomc = x := by
        refine takeWhile_all (by unfold atomB at ha; simp only [Bool.and_eq_true] at ha; exact ha.1.1) (fun c r' e => ?_)
        have := hr rfl
        rw [e] at this
        simpa [endsAtom] using this
      rw [hx] at hw ha ⊢
      rw [List.cons_append]
      simp only [tkS, n1, n2, n3, n4, if_false, atomS]
      rw [List.cons_append] at hw
      rw [hw, ha]
      simp
  rw [if_neg h1] at h ⊢
  by_cases h2 : k = 2
  · subst h2
    simp only [if_true] at h ⊢
    by_cases hq : quoteL x = []
    · rw [if_pos hq] at h ⊢
      unfold litL at h ⊢
      by_cases hl : x.length ≤ 40
      · rw [if_pos hl]
        have hd : (decDigits x.length).all isd = true := decDigits_isd x.length
        have htw : (decDigits x.length ++ ([125, 13, 10] ++ x ++ r)).takeWhile ne125 = decDigits x.length :=
          takeWhile_all (dig_not_brace hd) (fun b r' e => by simp at e; obtain ⟨e1, _⟩ := e; subst e1; rfl)
        have hn : numl (decDigits x.length) = some x.length := numl_dec (by omega)
        have hs : [123] ++ decDigits x.length ++ [125, 13, 10] ++ x ++ r = 123 :: (decDigits x.length ++ ([125, 13, 10] ++ x ++ r)) := by simp
        rw [hs]
        have e0 : tkS (123 :: (decDigits x.length ++ ([125, 13, 10] ++ x ++ r))) = litS (decDigits x.length ++ ([125, 13, 10] ++ x ++ r)) := rfl
        rw [e0]
        unfold litS
        simp only [htw]
        have g1 : (decDigits x.length ++ ([125, 13, 10] ++ x ++ r))[(decDigits x.length).length + 1]? = some 13 := by
          rw [List.getElem?_append_right (by omega), Nat.add_sub_cancel_left]; rfl
        have g2 : (decDigits x.length ++ ([125, 13, 10] ++ x ++ r))[(decDigits x.length).length + 2]? = some 10 := by
          rw [List.getElem?_append_right (by omega), Nat.add_sub_cancel_left]; rfl
        have g3 : (decDigits x.length ++ ([125, 13, 10] ++ x ++ r)).drop ((decDigits x.length).length + 3) = x ++ r := by
          rw [List.drop_append, List.drop_of_length_le (by omega), Nat.add_sub_cancel_left]; rfl
        have g4 : (decDigits x.length ++ ([125, 13, 10] ++ x ++ r)).length = (decDigits x.length).length + 3 + x.length + r.length := by simp; omega
        rw [if_pos ⟨g1, g2⟩, hn]
        simp only
        rw [if_pos ⟨hl, by omega, by omega⟩, g3]
        simp; omega
      · rw [if_neg hl] at h; exact absurd rfl h
    · rw [if_neg hq] at h ⊢
      have hc : x.all txtc = true ∧ x.length ≤ 40 := by
        by_cases hh : x.all txtc = true ∧ x.length ≤ 40
        · exact hh
        · exact absurd (by unfold quoteL; rw [if_neg hh]) hq
      rw [quoteL_yes _ hc.1 hc.2]
      have e0 : tkS (34 :: escl x ++ [34] ++ r) = (uqAt (escl x ++ 34 :: r) 1 []).map fun y => ((⟨2, y.1⟩ : Tok), y.2) := by simp [tkS]
      rw [e0, uqAt_escl x r 1 [] hc.1 (by simpa using hc.2)]
      simp; omega
  rw [if_neg h2] at h ⊢
  by_cases h3 : k = 3
  · subst h3
    simp only [if_true] at h ⊢
    by_cases hx : x = []
    · subst hx; rfl
    · rw [if_neg hx] at h; exact absurd rfl h
  rw [if_neg h3] at h ⊢
  by_cases h4 : k = 4
  · subst h4
    simp only [if_true] at h ⊢
    by_cases hx : x = []
    · subst hx; rfl
    · rw [if_neg hx] at h; exact absurd rfl h
  · rw [if_neg h4] at h; exact absurd rfl h

/-- The head of a token's text is no blank. -/
theorem tokText_head (t : Tok) (h : ¬ tokText t = []) : ∃ b r, tokText t = b :: r ∧ ¬ b.toNat = 32 := by
  unfold tokText at h ⊢
  split
  · rename_i h1
    rw [if_pos h1] at h
    cases ha : atomB t.text with
    | false => rw [ha] at h; exact absurd rfl h
    | true =>
      obtain ⟨b, y, hx, _, _, _, _, _, n5⟩ := atom_head ha
      exact ⟨b, y, by simpa using hx, n5⟩
  rename_i h1
  rw [if_neg h1] at h
  split
  · rename_i h2
    rw [if_pos h2] at h
    split
    · rename_i hq
      rw [if_pos hq] at h
      unfold litL at h ⊢
      split
      · exact ⟨123, _, by simp; rfl, by decide⟩
      · rename_i hl; rw [if_neg hl] at h; exact absurd rfl h
    · rename_i hq
      unfold quoteL at hq ⊢
      split
      · exact ⟨34, _, by simp; rfl, by decide⟩
      · rename_i hl; rw [if_neg hl] at hq; exact absurd rfl hq
  rename_i h2
  rw [if_neg h2] at h
  split
  · rename_i h3
    rw [if_pos h3] at h
    split
    · exact ⟨40, [], rfl, by decide⟩
    · rename_i hl; rw [if_neg hl] at h; exact absurd rfl h
  rename_i h3
  rw [if_neg h3] at h
  split
  · rename_i h4
    rw [if_pos h4] at h
    split
    · exact ⟨41, [], rfl, by decide⟩
    · rename_i hl; rw [if_neg hl] at h; exact absurd rfl h
  · rename_i h4; rw [if_neg h4] at h; exact absurd rfl h

/-- Behind an atom a line goes on with what ends it. -/
theorem ends_line (a : Tok) (ha : a.kind = 1) (l : List Tok) (hl : okLine l = true) : endsAtom (lineFrom (some a) l) = true := by
  cases l with
  | nil => rfl
  | cons t r =>
    simp only [lineFrom]
    cases hg : gapB a t with
    | true => rw [sepL_yes hg]; rfl
    | false =>
      rw [sepL_no hg]
      have h4 : t.kind = 4 := by
        unfold gapB at hg
        rw [ha] at hg
        simpa using hg
      have hne : ¬ tokText t = [] := by
        unfold okLine at hl
        simp only [List.all_cons, Bool.and_eq_true, Bool.not_eq_true', List.isEmpty_eq_false_iff] at hl
        exact hl.1
      have : tokText t = [41] := by
        unfold tokText at hne ⊢
        rw [h4] at hne ⊢
        simp only [show ¬ (4 : Int) = 1 by decide, show ¬ (4 : Int) = 2 by decide, show ¬ (4 : Int) = 3 by decide, if_false, if_true] at hne ⊢
        split
        · rfl
        · rename_i hx; rw [if_neg hx] at hne; exact absurd rfl hne
      rw [this]; rfl

theorem lexS_line : ∀ (l : List Tok) (prev : Option Tok) (n : Nat), okLine l = true → (lineFrom prev l).length < n → lexS n prev (lineFrom prev l) = some l
  | [], _, n, _, h => by
    cases n with
    | zero => simp at h
    | succ n => rfl
  | t :: r, prev, n, hok, h => by
    have hok2 : okLine r = true := by unfold okLine at hok ⊢; simp only [List.all_cons, Bool.and_eq_true] at hok; exact hok.2
    have hne : ¬ tokText t = [] := by
      unfold okLine at hok
      simp only [List.all_cons, Bool.and_eq_true, Bool.not_eq_true', List.isEmpty_eq_false_iff] at hok
      exact hok.1
    obtain ⟨b, y, hb, hb32⟩ := tokText_head t hne
    have htk := tkS_tokText t (lineFrom (some t) r) hne (fun hk => ends_line t hk r hok2)
    cases n with
    | zero => simp at h
    | succ n =>
      simp only [lineFrom] at h ⊢
      have hlen : 0 < (tokText t).length := by rw [hb]; simp
      have hrest : (tokText t ++ lineFrom (some t) r).drop (tokText t).length = lineFrom (some t) r := List.drop_left
      have go : ∀ hl : (lineFrom (some t) r).length < n, lexS n (some t) (lineFrom (some t) r) = some r := fun hl => lexS_line r (some t) n hok2 hl
      cases hs : sepL prev t with
      | nil =>
        rw [hs] at h
        have hfit : fitB prev false t = true := by
          cases prev with
          | none => rfl
          | some a =>
            cases hg : gapB a t with
            | true => rw [sepL_yes hg] at hs; cases hs
            | false => simp [fitB, hg]
        simp only [List.nil_append] at h ⊢
        rw [hb] at htk hrest h ⊢
        simp only [List.cons_append] at htk hrest h ⊢
        simp only [lexS, hb32, if_false, htk, decide_false, hfit, if_true, hrest]
        rw [go (by simp only [List.length_cons, List.length_append] at h; omega)]
        rfl
      | cons c z =>
        have hgap : c = 32 ∧ z = [] ∧ fitB prev true t = true := by
          cases prev with
          | none => cases hs
          | some a =>
            cases hg : gapB a t with
            | false => rw [sepL_no hg] at hs; cases hs
            | true =>
              rw [sepL_yes hg] at hs
              injection hs with h1 h2
              exact ⟨h1.symm, h2.symm, by simp [fitB, hg]⟩
        obtain ⟨rfl, rfl, hfit⟩ := hgap
        rw [hs] at h
        simp only [List.cons_append, List.nil_append] at h ⊢
        have e32 : (32 : UInt8).toNat = 32 := rfl
        simp only [lexS, e32, if_true, htk, decide_true, hfit, hrest]
        rw [go (by simp only [List.length_cons, List.length_append] at h; omega)]
        rfl

theorem lexL_lineL (l : List Tok) (h : okLine l = true) : lexL (lineL l) = some l := by
  unfold lineL
  rw [if_pos h]
  exact lexS_line l none _ h (by omega)

/-! ### What is read is written as tokens that are read so again -/

theorem tkS_ok (l : List UInt8) (t : Tok) (k : Nat) (h : tkS l = some (t, k)) : ¬ tokText t = [] ∧ t.text.length ≤ 40 := by
  cases l with
  | nil => cases h
  | cons b r =>
    simp only [tkS] at h
    split at h
    · injection h with h; injection h with h _; subst h; exact ⟨by decide, by simp⟩
    split at h
    · injection h with h; injection h with h _; subst h; exact ⟨by decide, by simp⟩
    split at h
    · cases hu : uqAt r 1 [] with
      | none => rw [hu] at h; cases h
      | some x =>
        rw [hu] at h
        injection h with h; injection h with h _
        obtain ⟨z, _, h1, _, h3, h4, _⟩ := uqAt_back r.length r 1 [] x.1 x.2 (Nat.le_refl _) hu
        simp only [List.nil_append] at h1
        subst h
        refine ⟨?_, h4⟩
        have hq : ¬ quoteL x.1 = [] := by rw [quoteL_yes _ (by rw [h1]; exact h3) h4]; simp
        unfold tokText
        rw [if_neg (by show ¬ ((2 : Int) = 1); decide), if_pos rfl, if_neg hq]
        exact hq
    split at h
    · simp only [litS] at h
      split at h
      · split at h
        · split at h
          · rename_i nn hq hc
            injection h with h; injection h with h _
            subst h
            have hl : ((r.drop ((r.takeWhile ne125).length + 3)).take nn).length ≤ nn := List.length_take_le _ _
            refine ⟨?_, by exact Nat.le_trans hl hc.1⟩
            unfold tokText
            rw [if_neg (by show ¬ ((2 : Int) = 1); decide), if_pos rfl]
            split
            · unfold litL
              rw [if_pos (by exact Nat.le_trans hl hc.1)]
              simp
            · assumption
          · cases h
        · cases h
      · cases h
    · simp only [atomS] at h
      split at h
      · rename_i ha
        injection h with h; injection h with h _
        subst h
        have h2 := ha
        unfold atomB at h2
        simp only [Bool.and_eq_true, decide_eq_true_eq] at h2
        refine ⟨?_, h2.2⟩
        unfold tokText
        rw [if_pos rfl, if_pos ha]
        intro e
        have h3 := h2.1.2
        have e' : List.takeWhile atomc (b :: r) = [] := e
        rw [e'] at h3
        simp at h3
      · cases h
theorem lexS_ok : ∀ (n : Nat) (prev : Option Tok) (l : List UInt8) (ts : List Tok), lexS n prev l = some ts → okLine ts = true ∧ (∀ t ∈ ts, t.text.length ≤ 40) ∧ ts.length ≤ l.length
  | 0, _, _, _, h => by cases h
  | n + 1, _, [], ts, h => by injection h with h; subst h; exact ⟨rfl, by simp, by simp⟩
  | n + 1, prev, c :: r, ts, h => by
    simp only [lexS] at h
    generalize hl : (if c.toNat = 32 then r else c :: r) = l' at h
    have hle : l'.length ≤ r.length + 1 := by subst hl; split <;> simp
    cases ht : tkS l' with
    | none => rw [ht] at h; cases h
    | some x =>
      rw [ht] at h
      simp only at h
      split at h
      · cases hn : lexS n (some x.1) (l'.drop x.2) with
        | none => rw [hn] at h; cases h
        | some ys =>
          rw [hn] at h
          injection h with h
          subst h
          have h1 := tkS_ok l' x.1 x.2 ht
          have h2 := lexS_ok n (some x.1) (l'.drop x.2) ys hn
          have h3 := tkS_pos l' x.1 x.2 ht
          have h4 := h2.2.2
          rw [List.length_drop] at h4
          refine ⟨?_, ?_, by simp only [List.length_cons]; omega⟩
          · unfold okLine at *
            rw [List.all_cons, h2.1]
            cases hh : tokText x.1 with
            | nil => exact absurd hh h1.1
            | cons a r => rfl
          · intro t htm
            rcases List.mem_cons.1 htm with rfl | htm
            · exact h1.2
            · exact h2.2.1 t htm
      · cases h
theorem lexL_back (l : List UInt8) (ts : List Tok) (h : lexL l = some ts) : lexL (lineL ts) = some ts := lexL_lineL ts (lexS_ok _ _ _ _ h).1

end Go.Proofs.YtldfakcjimaaaaaDoor
