/-
  Plain facts on atoms, quoted strings and mailbox names. No program is read here.
-/
import Derived.Test.YthihjelcakenpaaSlc
import Derived.Lib.Bytealg
import Derived.Lib.Strings
namespace Go.Proofs.Ythihjelcakenpaa
open Go.RowKit

def txtc (b : UInt8) : Bool := decide (32 ≤ b.toNat) && decide (b.toNat ≤ 126)
def escc (b : UInt8) : Bool := decide (b.toNat = 34) || decide (b.toNat = 92)
def atomc (b : UInt8) : Bool := decide (33 ≤ b.toNat) && decide (b.toNat ≤ 126) && !(decide (b.toNat = 40) || decide (b.toNat = 41) || decide (b.toNat = 123) || decide (b.toNat = 34) || decide (b.toNat = 92))
def atomB (l : List UInt8) : Bool := l.all atomc && decide (1 ≤ l.length) && decide (l.length ≤ 40)
def esc1 (b : UInt8) : List UInt8 := if escc b = true then [92, b] else [b]
def escl (l : List UInt8) : List UInt8 := l.flatMap esc1
def quoteL (l : List UInt8) : List UInt8 := if l.all txtc = true ∧ l.length ≤ 40 then 34 :: escl l ++ [34] else []
def wordL (l : List UInt8) : List UInt8 := if atomB l = true then l else quoteL l

theorem escl_snoc (l : List UInt8) (b : UInt8) : escl (l ++ [b]) = escl l ++ esc1 b := by simp [escl]
theorem esc1_le (b : UInt8) : (esc1 b).length ≤ 2 := by unfold esc1; split <;> simp
theorem escl_le (l : List UInt8) : (escl l).length ≤ 2 * l.length := by
  induction l with
  | nil => simp [escl]
  | cons b l ih => have := esc1_le b; simp only [escl, List.flatMap_cons, List.length_append, List.length_cons] at ih ⊢; omega
theorem quoteL_le (l : List UInt8) : (quoteL l).length ≤ 82 := by
  unfold quoteL
  split
  · rename_i h; have := escl_le l; simp; omega
  · simp

/-- Every byte's code in its signed form. -/
theorem txtc_int (b : UInt8) : txtc b = (decide (32 ≤ (b.toNat : Int)) && decide ((b.toNat : Int) ≤ 126)) := by
  unfold txtc
  congr 1
  · have : (32 ≤ b.toNat) = (32 ≤ (b.toNat : Int)) := by rw [eq_iff_iff]; omega
    simp only [this]
  · have : (b.toNat ≤ 126) = ((b.toNat : Int) ≤ 126) := by rw [eq_iff_iff]; omega
    simp only [this]

/-- A rune's tests. -/
def txtR (r : Int) : Bool := decide (32 ≤ r) && decide (r ≤ 126)
def escR (r : Int) : Bool := decide (r = 34) || decide (r = 92)
def atomR (r : Int) : Bool := decide (33 ≤ r) && decide (r ≤ 126) && !(decide (r = 40) || decide (r = 41) || decide (r = 123) || decide (r = 34) || decide (r = 92))
theorem txtR_byte (b : UInt8) : txtR (b.toNat : Int) = txtc b := (txtc_int b).symm
theorem escR_byte (b : UInt8) : escR (b.toNat : Int) = escc b := by
  unfold escR escc
  congr 1
  · have : ((b.toNat : Int) = 34) = (b.toNat = 34) := by rw [eq_iff_iff]; omega
    simp only [this]
  · have : ((b.toNat : Int) = 92) = (b.toNat = 92) := by rw [eq_iff_iff]; omega
    simp only [this]
theorem atomR_byte (b : UInt8) : atomR (b.toNat : Int) = atomc b := by
  have hh : ∀ n : Fin 256, atomR (((UInt8.ofNat n.val).toNat : Nat) : Int) = atomc (UInt8.ofNat n.val) := by decide +kernel
  have := hh ⟨b.toNat, b.toNat_lt⟩
  simpa using this
theorem esc_idx (r : Int) (h0 : 0 ≤ r) (h1 : r < 128) : decide (0 ≤ Lib.indexByte [34, 92] r.toNat.toUInt8) = escR r := by
  have hh : ∀ n : Fin 128, decide (0 ≤ Lib.indexByte [34, 92] ((n.val : Int)).toNat.toUInt8) = escR (n.val : Int) := by decide +kernel
  have := hh ⟨r.toNat, by omega⟩
  rwa [show ((⟨r.toNat, by omega⟩ : Fin 128).val : Int) = r from by show (r.toNat : Int) = r; omega] at this
def bad5R (r : Int) : Bool := decide (r = 40) || decide (r = 41) || decide (r = 123) || decide (r = 34) || decide (r = 92)
theorem bad_idx (r : Int) (h0 : 0 ≤ r) (h1 : r < 128) : decide (0 ≤ Lib.indexByte [40, 41, 123, 34, 92] r.toNat.toUInt8) = bad5R r := by
  have hh : ∀ n : Fin 128, decide (0 ≤ Lib.indexByte [40, 41, 123, 34, 92] ((n.val : Int)).toNat.toUInt8) = bad5R (n.val : Int) := by decide +kernel
  have := hh ⟨r.toNat, by omega⟩
  rwa [show ((⟨r.toNat, by omega⟩ : Fin 128).val : Int) = r from by show (r.toNat : Int) = r; omega] at this

theorem all_take (p : UInt8 → Bool) (s : ByteArray) (k : Nat) (h : k < s.size) : (s.data.toList.take (k + 1)).all p = ((s.data.toList.take k).all p && p s[k]) := by
  rw [take_str s k h, List.all_append]; simp
theorem get_mem (s : ByteArray) (k : Nat) (h : k < s.size) : s[k] ∈ s.data.toList := by
  have : s.data.toList[k]? = some s[k] := by simp [List.getElem?_eq_getElem (show k < s.data.toList.length by simpa using h)]; rfl
  exact List.mem_of_getElem? this
theorem all_not (p : UInt8 → Bool) (s : ByteArray) (k : Nat) (h : k < s.size) (hn : p s[k] = false) : s.data.toList.all p = false := by
  rw [Bool.eq_false_iff]
  intro hc
  rw [List.all_eq_true] at hc
  rw [hc _ (get_mem s k h)] at hn
  cases hn
theorem str_len (s : ByteArray) : s.data.toList.length = s.size := by simp
theorem drop_str (s : ByteArray) (k : Nat) (h : k < s.size) : s.data.toList.drop k = s[k] :: s.data.toList.drop (k + 1) := by
  rw [List.drop_eq_getElem_cons (show k < s.data.toList.length by simpa using h)]
  rfl
theorem drop_str_end (s : ByteArray) (k : Nat) (h : ¬ k < s.size) : s.data.toList.drop k = [] := by
  apply List.drop_eq_nil_of_le; simp; omega

theorem quoteL_no (l : List UInt8) (h : l.all txtc = false ∨ 40 < l.length) : quoteL l = [] := by
  unfold quoteL
  rw [if_neg]
  rintro ⟨h1, h2⟩
  rcases h with h | h
  · rw [h] at h1; cases h1
  · omega
theorem quoteL_yes (l : List UInt8) (h : l.all txtc = true) (h2 : l.length ≤ 40) : quoteL l = 34 :: escl l ++ [34] := if_pos ⟨h, h2⟩

/-! ### What is read back -/

/-- The text from place p on (l is the rest), acc read so far: the text and the place behind its closing quote. -/
def uqAt : List UInt8 → Nat → List UInt8 → Option (List UInt8 × Nat)
  | [], _, _ => none
  | b :: r, p, acc =>
    if b.toNat = 34 then (if 40 < acc.length then none else some (acc, p + 1))
    else if b.toNat = 92 then
      match r with
      | [] => none
      | c :: r' => if escc c = true then uqAt r' (p + 2) (acc ++ [c]) else none
    else if txtc b = true then uqAt r (p + 1) (acc ++ [b]) else none
/-- The same behind a backslash. -/
def uqEsc (l : List UInt8) (p : Nat) (acc : List UInt8) : Option (List UInt8 × Nat) :=
  match l with
  | [] => none
  | c :: r' => if escc c = true then uqAt r' (p + 1) (acc ++ [c]) else none

theorem uqAt_nil (p : Nat) (acc : List UInt8) : uqAt [] p acc = none := by simp [uqAt]
theorem uqAt_quote {b : UInt8} (r : List UInt8) (p : Nat) (acc : List UInt8) (h : b.toNat = 34) : uqAt (b :: r) p acc = if 40 < acc.length then none else some (acc, p + 1) := by
  rw [uqAt.eq_def]; simp only [h, if_true]
theorem uqAt_slash {b : UInt8} (r : List UInt8) (p : Nat) (acc : List UInt8) (h : b.toNat = 92) : uqAt (b :: r) p acc = uqEsc r (p + 1) acc := by
  rw [uqAt.eq_def]
  simp only [h, if_true]
  unfold uqEsc
  cases r <;> simp
theorem uqAt_plain {b : UInt8} (r : List UInt8) (p : Nat) (acc : List UInt8) (h1 : ¬ b.toNat = 34) (h2 : ¬ b.toNat = 92) (h : txtc b = true) : uqAt (b :: r) p acc = uqAt r (p + 1) (acc ++ [b]) := by
  rw [uqAt.eq_def]; simp only [h1, h2, if_false, h, if_true]
theorem uqAt_bad {b : UInt8} (r : List UInt8) (p : Nat) (acc : List UInt8) (h : txtc b = false) : uqAt (b :: r) p acc = none := by
  have h1 : ¬ b.toNat = 34 := by intro e; unfold txtc at h; rw [e] at h; simp at h
  have h2 : ¬ b.toNat = 92 := by intro e; unfold txtc at h; rw [e] at h; simp at h
  rw [uqAt.eq_def]; simp only [h1, h2, if_false, h]; simp
theorem uqEsc_yes {c : UInt8} (r : List UInt8) (p : Nat) (acc : List UInt8) (h : escc c = true) : uqEsc (c :: r) p acc = uqAt r (p + 1) (acc ++ [c]) := by simp [uqEsc, h]
theorem uqEsc_no {c : UInt8} (r : List UInt8) (p : Nat) (acc : List UInt8) (h : escc c = false) : uqEsc (c :: r) p acc = none := by simp [uqEsc, h]
theorem uqEsc_nil (p : Nat) (acc : List UInt8) : uqEsc [] p acc = none := rfl
theorem escc_txtc {c : UInt8} (h : escc c = true) : txtc c = true := by
  have hh : ∀ n : Fin 256, escc (UInt8.ofNat n.val) = true → txtc (UInt8.ofNat n.val) = true := by decide +kernel
  have := hh ⟨c.toNat, c.toNat_lt⟩
  simp at this
  exact this h

/-- Too much was read. -/
theorem uqAt_long : ∀ (n : Nat) (l : List UInt8) (p : Nat) (acc : List UInt8), l.length ≤ n → 40 < acc.length → uqAt l p acc = none
  | _, [], p, acc, _, _ => uqAt_nil p acc
  | 0, _ :: _, _, _, h, _ => by simp at h
  | n + 1, b :: r, p, acc, h, ha => by
    simp only [List.length_cons] at h
    by_cases h1 : b.toNat = 34
    · rw [uqAt_quote r p acc h1, if_pos ha]
    by_cases h2 : b.toNat = 92
    · rw [uqAt_slash r p acc h2]
      cases r with
      | nil => rfl
      | cons c r' =>
        cases hc : escc c with
        | false => exact uqEsc_no _ _ _ hc
        | true =>
          rw [uqEsc_yes _ _ _ hc]
          simp only [List.length_cons] at h
          exact uqAt_long n r' _ _ (by omega) (by simp; omega)
    cases h3 : txtc b with
    | false => exact uqAt_bad _ _ _ h3
    | true =>
      rw [uqAt_plain _ _ _ h1 h2 h3]
      exact uqAt_long n r _ _ (by omega) (by simp; omega)

/-- What Unquote hands back. -/
def uqO (l : List UInt8) (at' : Int) : Option (List UInt8 × Nat) :=
  if at' < 0 then none else match l.drop at'.toNat with
    | [] => none
    | b :: r => if b.toNat = 34 then uqAt r (at'.toNat + 1) [] else none
def uqV (o : Option (List UInt8 × Nat)) : Value := match o with | some (t, n) => .tuple #[sv t, .int .i64 (n : Int)] | none => .tuple #[.string ⟨#[]⟩, .int .i64 (-1)]

/-- A quoted text is read back. -/
theorem uqAt_escl : ∀ (t : List UInt8) (r : List UInt8) (p : Nat) (acc : List UInt8), t.all txtc = true → acc.length + t.length ≤ 40 → uqAt (escl t ++ 34 :: r) p acc = some (acc ++ t, p + (escl t).length + 1)
  | [], r, p, acc, _, h => by
    simp only [escl, List.flatMap_nil, List.nil_append, List.append_nil, List.length_nil, Nat.add_zero]
    rw [uqAt_quote r p acc (by rfl), if_neg (by simpa using h)]
  | b :: t, r, p, acc, ha, h => by
    simp only [List.all_cons, Bool.and_eq_true] at ha
    simp only [List.length_cons] at h
    have hs : escl (b :: t) = esc1 b ++ escl t := by simp [escl]
    rw [hs]
    cases hb : escc b with
    | true =>
      have he : esc1 b = [92, b] := by unfold esc1; rw [if_pos hb]
      rw [he]
      simp only [List.cons_append, List.nil_append]
      rw [uqAt_slash _ _ _ (by rfl), uqEsc_yes _ _ _ hb, uqAt_escl t r (p + 1 + 1) (acc ++ [b]) ha.2 (by simp; omega)]
      simp; omega
    | false =>
      have he : esc1 b = [b] := by unfold esc1; rw [if_neg (by simp [hb])]
      rw [he]
      simp only [List.cons_append, List.nil_append]
      have hne : ¬ b.toNat = 34 ∧ ¬ b.toNat = 92 := by unfold escc at hb; simpa using hb
      rw [uqAt_plain _ _ _ hne.1 hne.2 ha.1, uqAt_escl t r (p + 1) (acc ++ [b]) ha.2 (by simp; omega)]
      simp; omega

/-- What was read is a quoted text. -/
theorem uqAt_back : ∀ (n : Nat) (l : List UInt8) (p : Nat) (acc t : List UInt8) (e : Nat), l.length ≤ n → uqAt l p acc = some (t, e) →
    ∃ z r, t = acc ++ z ∧ l = escl z ++ 34 :: r ∧ z.all txtc = true ∧ t.length ≤ 40 ∧ e = p + (escl z).length + 1
  | _, [], p, acc, t, e, _, h => by rw [uqAt_nil] at h; cases h
  | 0, _ :: _, _, _, _, _, h, _ => by simp at h
  | n + 1, b :: r, p, acc, t, e, hn, h => by
    simp only [List.length_cons] at hn
    by_cases h1 : b.toNat = 34
    · rw [uqAt_quote r p acc h1] at h
      split at h
      · cases h
      · rename_i hl
        injection h with h; injection h with h3 h4
        refine ⟨[], r, by rw [h3]; simp, ?_, rfl, by rw [← h3]; omega, by simp [escl]; omega⟩
        have : b = 34 := by apply UInt8.toNat_inj.1; exact h1
        rw [this]; rfl
    by_cases h2 : b.toNat = 92
    · rw [uqAt_slash r p acc h2] at h
      cases r with
      | nil => cases h
      | cons c r' =>
        cases hc : escc c with
        | false => rw [uqEsc_no _ _ _ hc] at h; cases h
        | true =>
          rw [uqEsc_yes _ _ _ hc] at h
          simp only [List.length_cons] at hn
          obtain ⟨z, q, e1, e2, e3, e4, e5⟩ := uqAt_back n r' _ _ t e (by omega) h
          have hb : b = 92 := by apply UInt8.toNat_inj.1; exact h2
          refine ⟨c :: z, q, by rw [e1]; simp, ?_, by simp [e3, escc_txtc hc], e4, ?_⟩
          · rw [e2, hb]; simp [escl, esc1, hc]
          · rw [e5]; simp [escl, esc1, hc]; omega
    cases h3 : txtc b with
    | false => rw [uqAt_bad _ _ _ h3] at h; cases h
    | true =>
      rw [uqAt_plain _ _ _ h1 h2 h3] at h
      obtain ⟨z, q, e1, e2, e3, e4, e5⟩ := uqAt_back n r _ _ t e (by omega) h
      have hb : escc b = false := by unfold escc; simp [h1, h2]
      refine ⟨b :: z, q, by rw [e1]; simp, ?_, by simp [e3, h3], e4, ?_⟩
      · rw [e2]; simp [escl, esc1, hb]
      · rw [e5]; simp [escl, esc1, hb]; omega

/-- A text that Unquote accepts is the quoted one, to the byte. -/
theorem uqO_back (l : List UInt8) (at' : Int) (t : List UInt8) (e : Nat) (h : uqO l at' = some (t, e)) : 0 ≤ at' ∧ at' ≤ (e : Int) ∧ e ≤ l.length ∧ t.length ≤ 40 ∧ (l.drop at'.toNat).take (e - at'.toNat) = quoteL t := by
  unfold uqO at h
  split at h
  · cases h
  rename_i h0
  cases hd : l.drop at'.toNat with
  | nil => rw [hd] at h; cases h
  | cons b r =>
    rw [hd] at h
    simp only at h
    split at h
    · rename_i hb
      obtain ⟨z, q, e1, e2, e3, e4, e5⟩ := uqAt_back r.length r _ _ t e (Nat.le_refl _) h
      simp only [List.nil_append] at e1
      subst e1
      have hlen : (l.drop at'.toNat).length = (escl t).length + 2 + q.length := by rw [hd, e2]; simp; omega
      rw [List.length_drop] at hlen
      have hb2 : b = 34 := by apply UInt8.toNat_inj.1; exact hb
      refine ⟨by omega, by omega, by omega, e4, ?_⟩
      rw [quoteL_yes _ e3 e4, e2, hb2]
      rw [show e - at'.toNat = (34 :: escl t ++ [34]).length by simp; omega]
      rw [show (34 : UInt8) :: (escl t ++ 34 :: q) = (34 :: escl t ++ [34]) ++ q by simp]
      rw [List.take_left']
      rfl
    · cases h

/-- Quote and Unquote in the midst of a text. -/
theorem uqO_quote (s : List UInt8) (h : ¬ quoteL s = []) (a r : List UInt8) : uqO (a ++ (quoteL s ++ r)) (a.length : Int) = some (s, a.length + (quoteL s).length) := by
  have hc : s.all txtc = true ∧ s.length ≤ 40 := by
    by_cases hh : s.all txtc = true ∧ s.length ≤ 40
    · exact hh
    · exact absurd (by unfold quoteL; rw [if_neg hh]) h
  rw [quoteL_yes _ hc.1 hc.2]
  unfold uqO
  rw [if_neg (by omega)]
  simp only [Int.toNat_natCast, List.drop_left, List.cons_append]
  rw [if_pos (by rfl), List.append_assoc, List.singleton_append, uqAt_escl s r _ [] hc.1 (by simpa using hc.2)]
  simp; omega

/-! ### Names -/

def nameRun : List UInt8 → Bool → Bool
  | [], a => !a
  | b :: r, a => if b.toNat = 47 then (if a = true then false else nameRun r true) else if 97 ≤ b.toNat ∧ b.toNat ≤ 122 then nameRun r false else false
def nameB (l : List UInt8) : Bool := nameRun l true && decide (l.length ≤ 12)
theorem nameRun_slash {b : UInt8} (r : List UInt8) (h : b.toNat = 47) : nameRun (b :: r) false = nameRun r true ∧ nameRun (b :: r) true = false := by simp [nameRun, h]
theorem nameRun_letter {b : UInt8} (r : List UInt8) (a : Bool) (h0 : 97 ≤ b.toNat) (h1 : b.toNat ≤ 122) : nameRun (b :: r) a = nameRun r false := by
  have h : ¬ b.toNat = 47 := by omega
  simp [nameRun, h, h0, h1]
theorem nameRun_bad {b : UInt8} (r : List UInt8) (a : Bool) (h : ¬ b.toNat = 47) (h0 : ¬ (97 ≤ b.toNat ∧ b.toNat ≤ 122)) : nameRun (b :: r) a = false := by
  simp only [nameRun, h, h0, if_false]
theorem nameRun_nil (a : Bool) : nameRun [] a = !a := rfl
def namec (b : UInt8) : Bool := decide (b.toNat = 47) || (decide (97 ≤ b.toNat) && decide (b.toNat ≤ 122))
theorem nameRun_all : ∀ (l : List UInt8) (a : Bool), nameRun l a = true → l.all namec = true
  | [], _, _ => rfl
  | b :: r, a, h => by
    by_cases h1 : b.toNat = 47
    · cases a with
      | true => rw [(nameRun_slash r h1).2] at h; cases h
      | false => rw [(nameRun_slash r h1).1] at h; simp [nameRun_all r true h, namec, h1]
    · by_cases h2 : 97 ≤ b.toNat ∧ b.toNat ≤ 122
      · rw [nameRun_letter r a h2.1 h2.2] at h; simp [nameRun_all r false h, namec, h2]
      · rw [nameRun_bad r a h1 h2] at h; cases h
theorem namec_atomc {b : UInt8} (h : namec b = true) : atomc b = true := by
  have hh : ∀ n : Fin 256, namec (UInt8.ofNat n.val) = true → atomc (UInt8.ofNat n.val) = true := by decide +kernel
  have := hh ⟨b.toNat, b.toNat_lt⟩
  simp at this
  exact this h
theorem nameB_atomB {l : List UInt8} (h : nameB l = true) : atomB l = true := by
  unfold nameB at h
  simp only [Bool.and_eq_true, decide_eq_true_eq] at h
  have h1 := nameRun_all l true h.1
  have h2 : l ≠ [] := by rintro rfl; simp [nameRun] at h
  have h3 : 0 < l.length := List.length_pos_iff.2 h2
  unfold atomB
  simp only [Bool.and_eq_true, decide_eq_true_eq]
  refine ⟨⟨?_, by omega⟩, by omega⟩
  rw [List.all_eq_true] at h1 ⊢
  exact fun x hx => namec_atomc (h1 x hx)
theorem nameB_wordL {l : List UInt8} (h : nameB l = true) : wordL l = l := by unfold wordL; rw [if_pos (nameB_atomB h)]

def underB (x y : List UInt8) : Bool := nameB x && nameB y && (decide (x = y) || Lib.hasPrefix x (y ++ [47]))
theorem underB_self (x : List UInt8) : underB x x = nameB x := by unfold underB; simp
theorem underB_trans (x y z : List UInt8) (h1 : underB x y = true) (h2 : underB y z = true) : underB x z = true := by
  unfold underB at *
  simp only [Bool.and_eq_true, Bool.or_eq_true, decide_eq_true_eq, Lib.hasPrefix, List.isPrefixOf_iff_prefix] at *
  obtain ⟨⟨a1, a2⟩, a3⟩ := h1
  obtain ⟨⟨b1, b2⟩, b3⟩ := h2
  refine ⟨⟨a1, b2⟩, ?_⟩
  rcases a3 with rfl | a3
  · exact b3
  rcases b3 with rfl | b3
  · exact .inr a3
  · right
    obtain ⟨t, rfl⟩ := b3
    obtain ⟨u, rfl⟩ := a3
    exact ⟨t ++ [47] ++ u, by simp⟩
end Go.Proofs.Ythihjelcakenpaa
