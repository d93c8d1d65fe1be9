/-
  Gc: WordM, WordA, WordB, WordC, WordF, WordG, WordD, WordE.
-/
import Derived.Test.YthjeeggejkpjgaaGa
import Derived.Lib.Bytealg
import Derived.Lib.Strings
import Derived.Test.YthjeeggejkpjgaaGb
import Derived.Test.YthjeeggejkpjgaaShelf
import Derived.Lib.OthersKept
import Derived.Laws.RangeAny

/-
  Plain facts on atoms, quoted strings and mailbox names. No program is read here.
-/
namespace Go.Proofs.Ythjeeggejkpjgaa
open Go.RowKit

def txtc (b : UInt8) : Bool := decide (32 ≤ b.toNat) && decide (b.toNat ≤ 126)
def escc (b : UInt8) : Bool := decide (b.toNat = 34) || decide (b.toNat = 92)
def atomc (b : UInt8) : Bool := decide (33 ≤ b.toNat) && decide (b.toNat ≤ 126) && !(decide (b.toNat = 40) || decide (b.toNat = 41) || decide (b.toNat = 123) || decide (b.toNat = 34) || decide (b.toNat = 92))
def atomB (l : List UInt8) : Bool := l.all atomc && decide (1 ≤ l.length) && decide (l.length ≤ 40)
def esc1 (b : UInt8) : List UInt8 := if escc b = true then [92, b] else [b]
def escl (l : List UInt8) : List UInt8 := l.flatMap esc1
def quoteL (l : List UInt8) : List UInt8 := if l.all txtc = true ∧ l.length ≤ 40 then 34 :: escl l ++ [34] else []
def wordL (l : List UInt8) : List UInt8 := if atomB l = true then l else quoteL l

theorem escl_snoc (l : List UInt8) (b : UInt8) : escl (l ++ [b]) = escl l ++ esc1 b := by simp [escl]
theorem esc1_le (b : UInt8) : (esc1 b).length ≤ 2 := by unfold esc1; split <;> simp
theorem escl_le (l : List UInt8) : (escl l).length ≤ 2 * l.length := by
  induction l with
  | nil => simp [escl]
  | cons b l ih => have := esc1_le b; simp only [escl, List.flatMap_cons, List.length_append, List.length_cons] at ih ⊢; omega
theorem quoteL_le (l : List UInt8) : (quoteL l).length ≤ 82 := by
  unfold quoteL
  split
  · rename_i h; have := escl_le l; simp; omega
  · simp

/-- Every byte's code in its signed form. -/
theorem txtc_int (b : UInt8) : txtc b = (decide (32 ≤ (b.toNat : Int)) && decide ((b.toNat : Int) ≤ 126)) := by
  unfold txtc
  congr 1
  · have : (32 ≤ b.toNat) = (32 ≤ (b.toNat : Int)) := by rw [eq_iff_iff]; omega
    simp only [this]
  · have : (b.toNat ≤ 126) = ((b.toNat : Int) ≤ 126) := by rw [eq_iff_iff]; omega
    simp only [this]

/-- A rune's tests. -/
def txtR (r : Int) : Bool := decide (32 ≤ r) && decide (r ≤ 126)
def escR (r : Int) : Bool := decide (r = 34) || decide (r = 92)
def atomR (r : Int) : Bool := decide (33 ≤ r) && decide (r ≤ 126) && !(decide (r = 40) || decide (r = 41) || decide (r = 123) || decide (r = 34) || decide (r = 92))
theorem txtR_byte (b : UInt8) : txtR (b.toNat : Int) = txtc b := (txtc_int b).symm
theorem escR_byte (b : UInt8) : escR (b.toNat : Int) = escc b := by
  unfold escR escc
  congr 1
  · have : ((b.toNat : Int) = 34) = (b.toNat = 34) := by rw [eq_iff_iff]; omega
    simp only [this]
  · have : ((b.toNat : Int) = 92) = (b.toNat = 92) := by rw [eq_iff_iff]; omega
    simp only [this]
theorem atomR_byte (b : UInt8) : atomR (b.toNat : Int) = atomc b := by
  have hh : ∀ n : Fin 256, atomR (((UInt8.ofNat n.val).toNat : Nat) : Int) = atomc (UInt8.ofNat n.val) := by decide +kernel
  have := hh ⟨b.toNat, b.toNat_lt⟩
  simpa using this
theorem esc_idx (r : Int) (h0 : 0 ≤ r) (h1 : r < 128) : decide (0 ≤ Lib.indexByte [34, 92] r.toNat.toUInt8) = escR r := by
  have hh : ∀ n : Fin 128, decide (0 ≤ Lib.indexByte [34, 92] ((n.val : Int)).toNat.toUInt8) = escR (n.val : Int) := by decide +kernel
  have := hh ⟨r.toNat, by omega⟩
  rwa [show ((⟨r.toNat, by omega⟩ : Fin 128).val : Int) = r from by show (r.toNat : Int) = r; omega] at this
def bad5R (r : Int) : Bool := decide (r = 40) || decide (r = 41) || decide (r = 123) || decide (r = 34) || decide (r = 92)
theorem bad_idx (r : Int) (h0 : 0 ≤ r) (h1 : r < 128) : decide (0 ≤ Lib.indexByte [40, 41, 123, 34, 92] r.toNat.toUInt8) = bad5R r := by
  have hh : ∀ n : Fin 128, decide (0 ≤ Lib.indexByte [40, 41, 123, 34, 92] ((n.val : Int)).toNat.toUInt8) = bad5R (n.val : Int) := by decide +kernel
  have := hh ⟨r.toNat, by omega⟩
  rwa [show ((⟨r.toNat, by omega⟩ : Fin 128).val : Int) = r from by show (r.toNat : Int) = r; omega] at this

theorem all_take (p : UInt8 → Bool) (s : ByteArray) (k : Nat) (h : k < s.size) : (s.data.toList.take (k + 1)).all p = ((s.data.toList.take k).all p && p s[k]) := by
  rw [take_str s k h, List.all_append]; simp
theorem get_mem (s : ByteArray) (k : Nat) (h : k < s.size) : s[k] ∈ s.data.toList := by
  have : s.data.toList[k]? = some s[k] := by simp [List.getElem?_eq_getElem (show k < s.data.toList.length by simpa using h)]; rfl
  exact List.mem_of_getElem? this
theorem all_not (p : UInt8 → Bool) (s : ByteArray) (k : Nat) (h : k < s.size) (hn : p s[k] = false) : s.data.toList.all p = false := by
  rw [Bool.eq_false_iff]
  intro hc
  rw [List.all_eq_true] at hc
  rw [hc _ (get_mem s k h)] at hn
  cases hn
theorem str_len (s : ByteArray) : s.data.toList.length = s.size := by simp
theorem drop_str (s : ByteArray) (k : Nat) (h : k < s.size) : s.data.toList.drop k = s[k] :: s.data.toList.drop (k + 1) := by
  rw [List.drop_eq_getElem_cons (show k < s.data.toList.length by simpa using h)]
  rfl
theorem drop_str_end (s : ByteArray) (k : Nat) (h : ¬ k < s.size) : s.data.toList.drop k = [] := by
  apply List.drop_eq_nil_of_le; simp; omega

theorem quoteL_no (l : List UInt8) (h : l.all txtc = false ∨ 40 < l.length) : quoteL l = [] := by
  unfold quoteL
  rw [if_neg]
  rintro ⟨h1, h2⟩
  rcases h with h | h
  · rw [h] at h1; cases h1
  · omega
theorem quoteL_yes (l : List UInt8) (h : l.all txtc = true) (h2 : l.length ≤ 40) : quoteL l = 34 :: escl l ++ [34] := if_pos ⟨h, h2⟩

/-! ### What is read back -/

/-- The text from place p on (l is the rest), acc read so far: the text and the place behind its closing quote. -/
def uqAt : List UInt8 → Nat → List UInt8 → Option (List UInt8 × Nat)
  | [], _, _ => none
  | b :: r, p, acc =>
    if b.toNat = 34 then (if 40 < acc.length then none else some (acc, p + 1))
    else if b.toNat = 92 then
      match r with
      | [] => none
      | c :: r' => if escc c = true then uqAt r' (p + 2) (acc ++ [c]) else none
    else if txtc b = true then uqAt r (p + 1) (acc ++ [b]) else none
/-- The same behind a backslash. -/
def uqEsc (l : List UInt8) (p : Nat) (acc : List UInt8) : Option (List UInt8 × Nat) :=
  match l with
  | [] => none
  | c :: r' => if escc c = true then uqAt r' (p + 1) (acc ++ [c]) else none

theorem uqAt_nil (p : Nat) (acc : List UInt8) : uqAt [] p acc = none := by simp [uqAt]
theorem uqAt_quote {b : UInt8} (r : List UInt8) (p : Nat) (acc : List UInt8) (h : b.toNat = 34) : uqAt (b :: r) p acc = if 40 < acc.length then none else some (acc, p + 1) := by
  rw [uqAt.eq_def]; simp only [h, if_true]
theorem uqAt_slash {b : UInt8} (r : List UInt8) (p : Nat) (acc : List UInt8) (h : b.toNat = 92) : uqAt (b :: r) p acc = uqEsc r (p + 1) acc := by
  rw [uqAt.eq_def]
  simp only [h, if_true]
  unfold uqEsc
  cases r <;> simp
theorem uqAt_plain {b : UInt8} (r : List UInt8) (p : Nat) (acc : List UInt8) (h1 : ¬ b.toNat = 34) (h2 : ¬ b.toNat = 92) (h : txtc b = true) : uqAt (b :: r) p acc = uqAt r (p + 1) (acc ++ [b]) := by
  rw [uqAt.eq_def]; simp only [h1, h2, if_false, h, if_true]
theorem uqAt_bad {b : UInt8} (r : List UInt8) (p : Nat) (acc : List UInt8) (h : txtc b = false) : uqAt (b :: r) p acc = none := by
  have h1 : ¬ b.toNat = 34 := by intro e; unfold txtc at h; rw [e] at h; simp at h
  have h2 : ¬ b.toNat = 92 := by intro e; unfold txtc at h; rw [e] at h; simp at h
  rw [uqAt.eq_def]; simp only [h1, h2, if_false, h]; simp
theorem uqEsc_yes {c : UInt8} (r : List UInt8) (p : Nat) (acc : List UInt8) (h : escc c = true) : uqEsc (c :: r) p acc = uqAt r (p + 1) (acc ++ [c]) := by simp [uqEsc, h]
theorem uqEsc_no {c : UInt8} (r : List UInt8) (p : Nat) (acc : List UInt8) (h : escc c = false) : uqEsc (c :: r) p acc = none := by simp [uqEsc, h]
theorem uqEsc_nil (p : Nat) (acc : List UInt8) : uqEsc [] p acc = none := rfl
theorem escc_txtc {c : UInt8} (h : escc c = true) : txtc c = true := by
  have hh : ∀ n : Fin 256, escc (UInt8.ofNat n.val) = true → txtc (UInt8.ofNat n.val) = true := by decide +kernel
  have := hh ⟨c.toNat, c.toNat_lt⟩
  simp at this
  exact this h

/-- Too much was read. -/
theorem uqAt_long : ∀ (n : Nat) (l : List UInt8) (p : Nat) (acc : List UInt8), l.length ≤ n → 40 < acc.length → uqAt l p acc = none
  | _, [], p, acc, _, _ => uqAt_nil p acc
  | 0, _ :: _, _, _, h, _ => by simp at h
  | n + 1, b :: r, p, acc, h, ha => by
    simp only [List.length_cons] at h
    by_cases h1 : b.toNat = 34
    · rw [uqAt_quote r p acc h1, if_pos ha]
    by_cases h2 : b.toNat = 92
    · rw [uqAt_slash r p acc h2]
      cases r with
      | nil => rfl
      | cons c r' =>
        cases hc : escc c with
        | false => exact uqEsc_no _ _ _ hc
        | true =>
          rw [uqEsc_yes _ _ _ hc]
          simp only [List.length_cons] at h
          exact uqAt_long n r' _ _ (by omega) (by simp; omega)
    cases h3 : txtc b with
    | false => exact uqAt_bad _ _ _ h3
    | true =>
      rw [uqAt_plain _ _ _ h1 h2 h3]
      exact uqAt_long n r _ _ (by omega) (by simp; omega)

/-- What Unquote hands back. -/
def uqO (l : List UInt8) (at' : Int) : Option (List UInt8 × Nat) :=
  if at' < 0 then none else match l.drop at'.toNat with
    | [] => none
    | b :: r => if b.toNat = 34 then uqAt r (at'.toNat + 1) [] else none
def uqV (o : Option (List UInt8 × Nat)) : Value := match o with | some (t, n) => .tuple #[sv t, .int .i64 (n : Int)] | none => .tuple #[.string ⟨#[]⟩, .int .i64 (-1)]

/-- A quoted text is read back. -/
theorem uqAt_escl : ∀ (t : List UInt8) (r : List UInt8) (p : Nat) (acc : List UInt8), t.all txtc = true → acc.length + t.length ≤ 40 → uqAt (escl t ++ 34 :: r) p acc = some (acc ++ t, p + (escl t).length + 1)
  | [], r, p, acc, _, h => by
    simp only [escl, List.flatMap_nil, List.nil_append, List.append_nil, List.length_nil, Nat.add_zero]
    rw [uqAt_quote r p acc (by rfl), if_neg (by simpa using h)]
  | b :: t, r, p, acc, ha, h => by
    simp only [List.all_cons, Bool.and_eq_true] at ha
    simp only [List.length_cons] at h
    have hs : escl (b :: t) = esc1 b ++ escl t := by simp [escl]
    rw [hs]
    cases hb : escc b with
    | true =>
      have he : esc1 b = [92, b] := by unfold esc1; rw [if_pos hb]
      rw [he]
      simp only [List.cons_append, List.nil_append]
      rw [uqAt_slash _ _ _ (by rfl), uqEsc_yes _ _ _ hb, uqAt_escl t r (p + 1 + 1) (acc ++ [b]) ha.2 (by simp; omega)]
      simp; omega
    | false =>
      have he : esc1 b = [b] := by unfold esc1; rw [if_neg (by simp [hb])]
      rw [he]
      simp only [List.cons_append, List.nil_append]
      have hne : ¬ b.toNat = 34 ∧ ¬ b.toNat = 92 := by unfold escc at hb; simpa using hb
      rw [uqAt_plain _ _ _ hne.1 hne.2 ha.1, uqAt_escl t r (p + 1) (acc ++ [b]) ha.2 (by simp; omega)]
      simp; omega

/-- What was read is a quoted text. -/
theorem uqAt_back : ∀ (n : Nat) (l : List UInt8) (p : Nat) (acc t : List UInt8) (e : Nat), l.length ≤ n → uqAt l p acc = some (t, e) →
    ∃ z r, t = acc ++ z ∧ l = escl z ++ 34 :: r ∧ z.all txtc = true ∧ t.length ≤ 40 ∧ e = p + (escl z).length + 1
  | _, [], p, acc, t, e, _, h => by rw [uqAt_nil] at h; cases h
  | 0, _ :: _, _, _, _, _, h, _ => by simp at h
  | n + 1, b :: r, p, acc, t, e, hn, h => by
    simp only [List.length_cons] at hn
    by_cases h1 : b.toNat = 34
    · rw [uqAt_quote r p acc h1] at h
      split at h
      · cases h
      · rename_i hl
        injection h with h; injection h with h3 h4
        refine ⟨[], r, by rw [h3]; simp, ?_, rfl, by rw [← h3]; omega, by simp [escl]; omega⟩
        have : b = 34 := by apply UInt8.toNat_inj.1; exact h1
        rw [this]; rfl
    by_cases h2 : b.toNat = 92
    · rw [uqAt_slash r p acc h2] at h
      cases r with
      | nil => cases h
      | cons c r' =>
        cases hc : escc c with
        | false => rw [uqEsc_no _ _ _ hc] at h; cases h
        | true =>
          rw [uqEsc_yes _ _ _ hc] at h
          simp only [List.length_cons] at hn
          obtain ⟨z, q, e1, e2, e3, e4, e5⟩ := uqAt_back n r' _ _ t e (by omega) h
          have hb : b = 92 := by apply UInt8.toNat_inj.1; exact h2
          refine ⟨c :: z, q, by rw [e1]; simp, ?_, by simp [e3, escc_txtc hc], e4, ?_⟩
          · rw [e2, hb]; simp [escl, esc1, hc]
          · rw [e5]; simp [escl, esc1, hc]; omega
    cases h3 : txtc b with
    | false => rw [uqAt_bad _ _ _ h3] at h; cases h
    | true =>
      rw [uqAt_plain _ _ _ h1 h2 h3] at h
      obtain ⟨z, q, e1, e2, e3, e4, e5⟩ := uqAt_back n r _ _ t e (by omega) h
      have hb : escc b = false := by unfold escc; simp [h1, h2]
      refine ⟨b :: z, q, by rw [e1]; simp, ?_, by simp [e3, h3], e4, ?_⟩
      · rw [e2]; simp [escl, esc1, hb]
      · rw [e5]; simp [escl, esc1, hb]; omega

/-- A text that Unquote accepts is the quoted one, to the byte. -/
theorem uqO_back (l : List UInt8) (at' : Int) (t : List UInt8) (e : Nat) (h : uqO l at' = some (t, e)) : 0 ≤ at' ∧ at' ≤ (e : Int) ∧ e ≤ l.length ∧ t.length ≤ 40 ∧ (l.drop at'.toNat).take (e - at'.toNat) = quoteL t := by
  unfold uqO at h
  split at h
  · cases h
  rename_i h0
  cases hd : l.drop at'.toNat with
  | nil => rw [hd] at h; cases h
  | cons b r =>
    rw [hd] at h
    simp only at h
    split at h
    · rename_i hb
      obtain ⟨z, q, e1, e2, e3, e4, e5⟩ := uqAt_back r.length r _ _ t e (Nat.le_refl _) h
      simp only [List.nil_append] at e1
      subst e1
      have hlen : (l.drop at'.toNat).length = (escl t).length + 2 + q.length := by rw [hd, e2]; simp; omega
      rw [List.length_drop] at hlen
      have hb2 : b = 34 := by apply UInt8.toNat_inj.1; exact hb
      refine ⟨by omega, by omega, by omega, e4, ?_⟩
      rw [quoteL_yes _ e3 e4, e2, hb2]
      rw [show e - at'.toNat = (34 :: escl t ++ [34]).length by simp; omega]
      rw [show (34 : UInt8) :: (escl t ++ 34 :: q) = (34 :: escl t ++ [34]) ++ q by simp]
      rw [List.take_left']
      rfl
    · cases h

/-- Quote and Unquote in the midst of a text. -/
theorem uqO_quote (s : List UInt8) (h : ¬ quoteL s = []) (a r : List UInt8) : uqO (a ++ (quoteL s ++ r)) (a.length : Int) = some (s, a.length + (quoteL s).length) := by
  have hc : s.all txtc = true ∧ s.length ≤ 40 := by
    by_cases hh : s.all txtc = true ∧ s.length ≤ 40
    · exact hh
    · exact absurd (by unfold quoteL; rw [if_neg hh]) h
  rw [quoteL_yes _ hc.1 hc.2]
  unfold uqO
  rw [if_neg (by omega)]
  simp only [Int.toNat_natCast, List.drop_left, List.cons_append]
  rw [if_pos (by rfl), List.append_assoc, List.singleton_append, uqAt_escl s r _ [] hc.1 (by simpa using hc.2)]
  simp; omega

/-! ### Names -/

def nameRun : List UInt8 → Bool → Bool
  | [], a => !a
  | b :: r, a => if b.toNat = 47 then (if a = true then false else nameRun r true) else if 97 ≤ b.toNat ∧ b.toNat ≤ 122 then nameRun r false else false
def nameB (l : List UInt8) : Bool := nameRun l true && decide (l.length ≤ 12)
theorem nameRun_slash {b : UInt8} (r : List UInt8) (h : b.toNat = 47) : nameRun (b :: r) false = nameRun r true ∧ nameRun (b :: r) true = false := by simp [nameRun, h]
theorem nameRun_letter {b : UInt8} (r : List UInt8) (a : Bool) (h0 : 97 ≤ b.toNat) (h1 : b.toNat ≤ 122) : nameRun (b :: r) a = nameRun r false := by
  have h : ¬ b.toNat = 47 := by omega
  simp [nameRun, h, h0, h1]
theorem nameRun_bad {b : UInt8} (r : List UInt8) (a : Bool) (h : ¬ b.toNat = 47) (h0 : ¬ (97 ≤ b.toNat ∧ b.toNat ≤ 122)) : nameRun (b :: r) a = false := by
  simp only [nameRun, h, h0, if_false]
theorem nameRun_nil (a : Bool) : nameRun [] a = !a := rfl
def namec (b : UInt8) : Bool := decide (b.toNat = 47) || (decide (97 ≤ b.toNat) && decide (b.toNat ≤ 122))
theorem nameRun_all : ∀ (l : List UInt8) (a : Bool), nameRun l a = true → l.all namec = true
  | [], _, _ => rfl
  | b :: r, a, h => by
    by_cases h1 : b.toNat = 47
    · cases a with
      | true => rw [(nameRun_slash r h1).2] at h; cases h
      | false => rw [(nameRun_slash r h1).1] at h; simp [nameRun_all r true h, namec, h1]
    · by_cases h2 : 97 ≤ b.toNat ∧ b.toNat ≤ 122
      · rw [nameRun_letter r a h2.1 h2.2] at h; simp [nameRun_all r false h, namec, h2]
      · rw [nameRun_bad r a h1 h2] at h; cases h
theorem namec_atomc {b : UInt8} (h : namec b = true) : atomc b = true := by
  have hh : ∀ n : Fin 256, namec (UInt8.ofNat n.val) = true → atomc (UInt8.ofNat n.val) = true := by decide +kernel
  have := hh ⟨b.toNat, b.toNat_lt⟩
  simp at this
  exact this h
theorem nameB_atomB {l : List UInt8} (h : nameB l = true) : atomB l = true := by
  unfold nameB at h
  simp only [Bool.and_eq_true, decide_eq_true_eq] at h
  have h1 := nameRun_all l true h.1
  have h2 : l ≠ [] := by rintro rfl; simp [nameRun] at h
  have h3 : 0 < l.length := List.length_pos_iff.2 h2
  unfold atomB
  simp only [Bool.and_eq_true, decide_eq_true_eq]
  refine ⟨⟨?_, by omega⟩, by omega⟩
  rw [List.all_eq_true] at h1 ⊢
  exact fun x hx => namec_atomc (h1 x hx)
theorem nameB_wordL {l : List UInt8} (h : nameB l = true) : wordL l = l := by unfold wordL; rw [if_pos (nameB_atomB h)]

def underB (x y : List UInt8) : Bool := nameB x && nameB y && (decide (x = y) || Lib.hasPrefix x (y ++ [47]))
theorem underB_self (x : List UInt8) : underB x x = nameB x := by unfold underB; simp
theorem underB_trans (x y z : List UInt8) (h1 : underB x y = true) (h2 : underB y z = true) : underB x z = true := by
  unfold underB at *
  simp only [Bool.and_eq_true, Bool.or_eq_true, decide_eq_true_eq, Lib.hasPrefix, List.isPrefixOf_iff_prefix] at *
  obtain ⟨⟨a1, a2⟩, a3⟩ := h1
  obtain ⟨⟨b1, b2⟩, b3⟩ := h2
  refine ⟨⟨a1, b2⟩, ?_⟩
  rcases a3 with rfl | a3
  · exact b3
  rcases b3 with rfl | b3
  · exact .inr a3
  · right
    obtain ⟨t, rfl⟩ := b3
    obtain ⟨u, rfl⟩ := a3
    exact ⟨t ++ [47] ++ u, by simp⟩
end Go.Proofs.Ythjeeggejkpjgaa

/-
  Chapter 2's walks: tests of a rune, atoms, Quote, Word.
-/
namespace Go.Proofs.Ythjeeggejkpjgaa
open Go.RowKit

theorem l1In_any (n a b : Int) (w : World) :
    Calls Try.prog 11 #[.int .i64 n, .int .i64 a, .int .i64 b] w fun e w' => e = .returned (.bool (decide (a ≤ n) && decide (n ≤ b))) ∧ w = w' := by
  by_cases h1 : a ≤ n
  · by_cases h2 : n ≤ b
    · rw [show (decide (a ≤ n) && decide (n ≤ b)) = true by simp [h1, h2]]
      go_enter Try.func11, Try.ntmps11
      go_wp2
      go_ret
      exact ⟨rfl, rfl⟩
    · rw [show (decide (a ≤ n) && decide (n ≤ b)) = false by simp [h2]]
      go_enter Try.func11, Try.ntmps11
      go_wp2
      go_ret
      exact ⟨rfl, rfl⟩
  · rw [show (decide (a ≤ n) && decide (n ≤ b)) = false by simp [h1]]
    go_enter Try.func11, Try.ntmps11
    go_wp2
    go_ret
    exact ⟨rfl, rfl⟩

theorem txtR_true {r : Int} (h1 : 32 ≤ r) (h2 : r ≤ 126) : txtR r = true := by simp [txtR, h1, h2]
theorem txtR_false {r : Int} (h : ¬ (32 ≤ r ∧ r ≤ 126)) : txtR r = false := by unfold txtR; rw [← Bool.decide_and]; exact decide_eq_false h

theorem atomR_no {r : Int} (h : ¬ (33 ≤ r ∧ r ≤ 126)) : atomR r = false := by
  unfold atomR; rw [← Bool.decide_and, decide_eq_false h]; rfl
theorem atomR_in {r : Int} (h1 : 33 ≤ r) (h2 : r ≤ 126) : atomR r = !bad5R r := by
  unfold atomR bad5R; simp [h1, h2]

end Go.Proofs.Ythjeeggejkpjgaa

/-
  Chapter 2's walks: AtomOk, the model's and the program's.
-/
namespace Go.Proofs.Ythjeeggejkpjgaa
open Go.RowKit

theorem atomR_of {r : Int} (h1 : ¬ r < 33) (h2 : ¬ 126 < r) (h3 : ¬ r = 40) (h4 : ¬ r = 41) (h5 : ¬ r = 123) (h6 : ¬ r = 34) (h7 : ¬ r = 92) : atomR r = true := by
  rw [atomR_in (by omega) (by omega)]; simp [bad5R, h3, h4, h5, h6, h7]
theorem atomR_not {r : Int} (h : r < 33 ∨ 126 < r ∨ r = 40 ∨ r = 41 ∨ r = 123 ∨ r = 34 ∨ r = 92) : atomR r = false := by
  by_cases h1 : r < 33
  · exact atomR_no (by omega)
  by_cases h2 : 126 < r
  · exact atomR_no (by omega)
  rw [atomR_in (by omega) (by omega)]
  have h3 : r = 40 ∨ r = 41 ∨ r = 123 ∨ r = 34 ∨ r = 92 := by omega
  rcases h3 with rfl | rfl | rfl | rfl | rfl <;> rfl
theorem atomB_bad (s : ByteArray) (k : Nat) (h : k < s.size) (hn : atomR (s[k].toNat : Int) = false) : atomB s.data.toList = false := by
  rw [atomR_byte] at hn
  unfold atomB; rw [all_not atomc s k h hn]; rfl
theorem atomB_end (s : ByteArray) (h : s.data.toList.all atomc = true) : atomB s.data.toList = (decide ((1 : Int) ≤ (s.size : Int)) && decide ((s.size : Int) ≤ 40)) := by
  unfold atomB; rw [h, str_len]
  have e1 : (1 ≤ s.size) = ((1 : Int) ≤ (s.size : Int)) := by rw [eq_iff_iff]; omega
  have e2 : (s.size ≤ 40) = ((s.size : Int) ≤ 40) := by rw [eq_iff_iff]; omega
  simp only [e1, e2, Bool.true_and]

/-- Where an iterator stands. -/
theorem iter_pos {w : World} {k pos : Nat} {s : ByteArray} (h : w.heap[k]? = some (.stringIter s pos)) : w.iterPos k = pos := by simp [World.iterPos, h]

end Go.Proofs.Ythjeeggejkpjgaa

/-
  Chapter 2's walks: Quote, Word, the model's and the program's.
-/
namespace Go.Proofs.Ythjeeggejkpjgaa
open Go.RowKit

theorem own_lit (w : World) (cs : Array Value) (n : Nat) (e : TypeId) (size base : Nat) (hb : base ≤ w.heap.size) (hm : n ≤ maxLen) (hs : cs.size = n * size) :
    (w.alloc (.cells cs e)).ownsRow base e size (.slice (some ⟨w.heap.size, 0, none⟩) n n) n cs.toList :=
  ⟨by simpa using hs, .inr ⟨w.heap.size, n, cs, rfl, hb, heap_alloc_new w _, Nat.le_refl _, hm, hs, by rw [List.take_of_length_le]; simp [hs]⟩⟩
/-- A row stays owned where its own block stands. -/
theorem own_stands {w w' : World} {B e size n : Nat} {v : Value} {xs : List Value} (h : w.ownsRow B e size v n xs) (hb : ∀ g, v.ownBlock = some g → w'.heap[g]? = w.heap[g]?) : w'.ownsRow B e size v n xs :=
  ⟨h.1, h.2.imp id fun ⟨g, cap, cur, hv, h1, h2, h3⟩ => ⟨g, cap, cur, hv, h1, (hb g (by rw [hv]; rfl)).trans h2, h3⟩⟩
/-- An owned row's block holds cells: it is no iterator's. -/
theorem own_no_iter {w : World} {B e size n : Nat} {v : Value} {xs : List Value} (h : w.ownsRow B e size v n xs) {g k pos : Nat} {s : ByteArray} (hg : v.ownBlock = some g) (hk : w.heap[k]? = some (.stringIter s pos)) : g ≠ k := by
  intro e
  rcases h.2 with ⟨hv, _⟩ | ⟨g', _, _, hv, _, h2, _⟩
  · rw [hv] at hg; simp [Value.ownBlock] at hg
  · rw [hv] at hg
    obtain rfl : g' = g := by simpa [Value.ownBlock] using hg
    rw [e, hk] at h2
    cases h2
theorem own_iterAt {w : World} {B e size n : Nat} {v : Value} {xs : List Value} {k : Nat} {s : ByteArray} {pos : Nat} (h : w.ownsRow B e size v n xs) (hk : w.heap[k]? = some (.stringIter s pos)) (pos' : Nat) : (w.iterAt k s pos').ownsRow B e size v n xs :=
  own_stands h fun _ hg => Lib.iterAt_other _ _ _ _ _ (own_no_iter h hg hk)
theorem own_ne_iter {w : World} {B e size n : Nat} {v : Value} {xs : List Value} {k : Nat} {s : ByteArray} {pos : Nat} (h : w.ownsRow B e size v n xs) (hk : w.heap[k]? = some (.stringIter s pos)) : some k ≠ v.ownBlock :=
  fun e => own_no_iter h e.symm hk rfl

theorem ne_not' {a b : Int} (h : (a == b) = true) : (a != b) = false := by simp only [bne, h]; rfl
theorem ne_yes' {a b : Int} (h : (a == b) = false) : (a != b) = true := by simp only [bne, h]; rfl

/-- Quoted so far. -/
def qd (l : List UInt8) : List UInt8 := 34 :: escl l
theorem qd_snoc_esc (l : List UInt8) (b : UInt8) (h : escc b = true) : qd (l ++ [b]) = qd l ++ [92, b] := by unfold qd; rw [escl_snoc]; simp [esc1, h]
theorem qd_snoc (l : List UInt8) (b : UInt8) (h : escc b = false) : qd (l ++ [b]) = qd l ++ [b] := by unfold qd; rw [escl_snoc]; simp [esc1, h]
theorem qd_len (l : List UInt8) : (qd l).length ≤ 2 * l.length + 1 := by have := escl_le l; simp [qd]; omega
theorem quote_long (s : ByteArray) (h : 40 < (s.size : Int)) : sv (quoteL s.data.toList) = .string ⟨#[]⟩ := by rw [quoteL_no _ (.inr (by simp; omega))]
theorem quote_bad (s : ByteArray) (k : Nat) (h : k < s.size) (hn : txtR (s[k].toNat : Int) = false) : sv (quoteL s.data.toList) = .string ⟨#[]⟩ := by
  rw [txtR_byte] at hn
  rw [quoteL_no _ (.inl (all_not txtc s k h hn))]
theorem quote_end (s : ByteArray) (h : s.data.toList.all txtc = true) (hs : s.size ≤ 40) : quoteL s.data.toList = qd s.data.toList ++ [34] := by
  rw [quoteL_yes _ h (by simpa using hs)]; rfl
theorem qd_take (s : ByteArray) (k : Nat) (h : k < s.size) (he : escR (s[k].toNat : Int) = true) : qd (s.data.toList.take (k + 1)) = qd (s.data.toList.take k) ++ [92, s[k]] := by
  rw [escR_byte] at he
  rw [take_str s k h, qd_snoc_esc _ _ he]
theorem qd_take' (s : ByteArray) (k : Nat) (h : k < s.size) (he : escR (s[k].toNat : Int) = false) : qd (s.data.toList.take (k + 1)) = qd (s.data.toList.take k) ++ [s[k]] := by
  rw [escR_byte] at he
  rw [take_str s k h, qd_snoc _ _ he]
theorem take_le (s : ByteArray) (k : Nat) : (s.data.toList.take k).length ≤ k := List.length_take_le _ _
/-- A byte more behind a row of bytes. -/
theorem map_snoc_bv (l : List UInt8) (b : UInt8) : l.map bv ++ [.int .u8 (b.toNat : Int)] = (l ++ [b]).map bv := by simp [bv]

theorem wordL_atom {l : List UInt8} (h : atomB l = true) : wordL l = l := if_pos h
theorem wordL_quote {l : List UInt8} (h : atomB l = false) : wordL l = quoteL l := if_neg (by rw [h]; exact Bool.false_ne_true)

end Go.Proofs.Ythjeeggejkpjgaa

/-
  Chapter 2's walks: NameOk, Under, the model's and the program's.
-/
namespace Go.Proofs.Ythjeeggejkpjgaa
open Go.RowKit

/-- What the model's loop knows at place k. -/
def NmSt (s : ByteArray) (k : Nat) (a : Bool) (U : Bool) : Prop :=
  nameRun (s.data.toList.drop k) a = U ∧ (k = 0 → a = true) ∧ (∀ j, k = j + 1 → ∀ h : j < s.size, a = decide (s[j].toNat = 47)) ∧ (k = s.size → 0 < k → a = false)
theorem nameB_of {l : List UInt8} {U : Bool} (h : nameRun l true = U) : nameB l = (U && decide (l.length ≤ 12)) := by unfold nameB; rw [h]
theorem nameB_size {s : ByteArray} {U : Bool} (h : nameRun s.data.toList true = U) : nameB s.data.toList = (U && decide ((s.size : Int) ≤ 12)) := by
  rw [nameB_of h, str_len]
  have e2 : (s.size ≤ 12) = ((s.size : Int) ≤ 12) := by rw [eq_iff_iff]; omega
  simp only [e2]
theorem n_slash (s : ByteArray) (k : Nat) (h : k < s.size) (hb : ((s[k].toNat : Int) == 47) = true) : nameRun (s.data.toList.drop k) false = nameRun (s.data.toList.drop (k + 1)) true ∧ nameRun (s.data.toList.drop k) true = false := by
  rw [drop_str s k h]
  exact nameRun_slash _ (by have := beq_iff_eq.1 hb; omega)
theorem n_letter (s : ByteArray) (k : Nat) (h : k < s.size) (a : Bool) (h0 : ¬ (s[k].toNat : Int) < 97) (h1 : ¬ 122 < (s[k].toNat : Int)) : nameRun (s.data.toList.drop k) a = nameRun (s.data.toList.drop (k + 1)) false := by
  rw [drop_str s k h]
  exact nameRun_letter _ a (by omega) (by omega)
theorem n_bad (s : ByteArray) (k : Nat) (h : k < s.size) (a : Bool) (hb : ((s[k].toNat : Int) == 47) = false) (h1 : (s[k].toNat : Int) < 97 ∨ 122 < (s[k].toNat : Int)) : nameRun (s.data.toList.drop k) a = false := by
  rw [drop_str s k h]
  exact nameRun_bad _ a (by have := beq_eq_false_iff_ne.1 hb; omega) (by omega)
theorem n_end (s : ByteArray) (k : Nat) (h : ¬ k < s.size) (a : Bool) : nameRun (s.data.toList.drop k) a = !a := by rw [drop_str_end s k h]; rfl

set_option maxHeartbeats 1600000 in
theorem specNameOk_any (s : ByteArray) (w : World) (hs : s.size ≤ maxLen) :
    Calls Try.prog 13 #[.string s] w fun e w' => e = .returned (.bool (nameB s.data.toList)) ∧ w = w' := by
  unfold maxLen at hs
  obtain ⟨U, hU⟩ : ∃ U, nameRun s.data.toList true = U := ⟨_, rfl⟩
  have hV := nameB_size hU
  generalize nameB s.data.toList = V at *
  have HU := Lib.hid hU
  have HV := Lib.hid hV
  clear hU hV
  go_enter Try.func13, Try.ntmps13
  go_wp2
  go_loop [3] (fun i => ∃ (k : Nat) (a : Bool), k ≤ s.size ∧ i = .int .i64 k ∧ NmSt s k a U) (fun i => s.size - (intOf i).toNat)
  case atStart => exact ⟨0, true, Nat.zero_le _, rfl, HU.out, fun _ => rfl, fun j h => by omega, fun _ h => by omega⟩
  case round =>
    obtain ⟨k, a, hk, rfl, hrun, h0, hj, he⟩ := hrel
    by_cases hlt : k < s.size
    · have hbn : s[k].toNat < 256 := s[k].toNat_lt
      cases hb : ((s[k].toNat : Int) == 47) with
      | true =>
        obtain ⟨r1, r2⟩ := n_slash s k hlt hb
        cases k with
        | zero =>
          have HV2 := Lib.hid (show V = false by rw [HV.out, ← hrun, h0 rfl, r2]; rfl)
          clear hrun h0 hj he r1 r2
          go_wp2
          go_ret
          exact ⟨by rw [HV2.out]; rfl, rfl⟩
        | succ j =>
          have hjl : j < s.size := by omega
          have haj := hj j rfl hjl
          have hbj : s[j].toNat < 256 := s[j].toNat_lt
          cases h1 : ((j : Int) + 1 == (s.size : Int) - 1) with
          | true =>
            have hU : U = false := by
              rw [← hrun]
              cases a with
              | true => exact r2
              | false => rw [r1, n_end s (j + 1 + 1) (by have := beq_iff_eq.1 h1; omega)]; rfl
            have HV2 := Lib.hid (show V = false by rw [HV.out, hU]; rfl)
            clear hrun h0 hj he r1 r2 haj hU
            go_wp2
            go_ret
            exact ⟨by rw [HV2.out]; rfl, rfl⟩
          | false =>
            cases h2 : ((s[j].toNat : Int) == 47) with
            | true =>
              have hU : U = false := by rw [← hrun, haj, decide_eq_true (by have := beq_iff_eq.1 h2; omega), r2]
              have HV2 := Lib.hid (show V = false by rw [HV.out, hU]; rfl)
              clear hrun h0 hj he r1 r2 haj hU
              go_wp2
              go_ret
              exact ⟨by rw [HV2.out]; rfl, rfl⟩
            | false =>
              have ha : a = false := by rw [haj]; exact decide_eq_false (by have := beq_eq_false_iff_ne.1 h2; omega)
              have HR := Lib.hid (show nameRun (s.data.toList.drop (j + 1 + 1)) true = U by rw [← hrun, ha, r1])
              have HE := Lib.hid (show ¬ j + 1 + 1 = s.size by have := beq_eq_false_iff_ne.1 h1; omega)
              have HB := Lib.hid hb
              clear hrun h0 hj he r1 r2 haj ha
              go_wp2
              go_round
              case rel => exact ⟨j + 1 + 1, true, by omega, by go_num, HR.out, fun _ => rfl, fun i hi hl => by
                obtain rfl : i = j + 1 := by omega
                exact (decide_eq_true (by have := beq_iff_eq.1 HB.out; omega)).symm, fun h => absurd h HE.out⟩
              case measure => simp [intOf]; omega
      | false =>
        by_cases h1 : (s[k].toNat : Int) < 97
        · have HV2 := Lib.hid (show V = false by rw [HV.out, ← hrun, n_bad s k hlt a hb (.inl h1)]; rfl)
          clear hrun h0 hj he
          go_wp2
          go_ret
          exact ⟨by rw [HV2.out]; rfl, rfl⟩
        by_cases h2 : 122 < (s[k].toNat : Int)
        · have HV2 := Lib.hid (show V = false by rw [HV.out, ← hrun, n_bad s k hlt a hb (.inr h2)]; rfl)
          clear hrun h0 hj he
          go_wp2
          go_ret
          exact ⟨by rw [HV2.out]; rfl, rfl⟩
        have HR := Lib.hid (show nameRun (s.data.toList.drop (k + 1)) false = U by rw [← hrun, n_letter s k hlt a h1 h2])
        have HB := Lib.hid hb
        clear hrun h0 hj he
        go_wp2
        go_round
        case rel => exact ⟨k + 1, false, by omega, by go_num, HR.out, fun h => by omega, fun i hi hl => by
          obtain rfl : i = k := by omega
          exact (decide_eq_false (by have := beq_eq_false_iff_ne.1 HB.out; omega)).symm, fun _ _ => rfl⟩
        case measure => simp [intOf]; omega
    · obtain rfl : k = s.size := by omega
      have hl := fun W => l1In_any (s.size : Int) 1 12 W
      have HV2 : Hid (V = (decide ((1 : Int) ≤ (s.size : Int)) && decide ((s.size : Int) ≤ 12))) := by
        apply Lib.hid
        rw [HV.out, ← hrun, n_end s s.size hlt]
        by_cases h : s.size = 0
        · rw [h0 h, h]; rfl
        · rw [he rfl (by omega), decide_eq_true (show (1 : Int) ≤ (s.size : Int) by omega)]; rfl
      have HL := Lib.hid hl
      clear hrun h0 hj he hl
      go_wp2_with fail
      refine (HL.out _).mono ?_
      rintro e w' ⟨rfl, rfl⟩
      go_wp2
      go_ret
      exact ⟨by rw [HV2.out]; rfl, rfl⟩

set_option maxHeartbeats 1600000 in
theorem implNameOk_any (s : ByteArray) (w : World) (_hs : s.size ≤ maxLen) :
    Calls Try.prog 17 #[.string s] w fun e w' => e = .returned (.bool (nameB s.data.toList)) ∧ Below w.heap.size w w' := by
  unfold maxLen at _hs
  obtain ⟨U, hU⟩ : ∃ U, nameRun s.data.toList true = U := ⟨_, rfl⟩
  have hV := nameB_size hU
  generalize nameB s.data.toList = V at *
  have HU := Lib.hid hU
  have HV := Lib.hid hV
  have hk0 : (w.iter s 0).heap[w.heap.size]? = some (.stringIter s 0) := World.iter_heap w s 0
  have hb0 : Below w.heap.size w (w.iter s 0) := (Below.refl _ w).alloc (Nat.le_refl _) _
  clear hU hV
  go_enter Try.func17, Try.ntmps17
  go_wp2
  go_loopw [3] (fun b wr => ∃ (k : Nat) (a : Bool), k ≤ s.size ∧ b = .bool a ∧ wr.heap[w.heap.size]? = some (.stringIter s k) ∧ nameRun (s.data.toList.drop k) a = U ∧ Below w.heap.size w wr)
    (fun _ wr => s.size - wr.iterPos w.heap.size)
  case atStart => exact ⟨0, true, Nat.zero_le _, rfl, hk0, HU.out, hb0⟩
  case round =>
    obtain ⟨k, a, hk, rfl, hit, hrun, hbr⟩ := hrel
    clear hk0 hb0
    have hmu := Lib.hid (iter_pos hit)
    by_cases hlt : k < s.size
    · have hbn : s[k].toNat < 256 := s[k].toNat_lt
      by_cases ha : s[k].toNat < 128
      · have hnx : ∀ ty, (Instr.next (.pointer (some ⟨w.heap.size, 0, none⟩)) true ty).run Try.prog wr = _ := fun ty => Lib.run_next_ascii_at wr w.heap.size s k ty hit hlt ha
        have hk1 := Lib.hid (Lib.iterAt_heap wr w.heap.size s k (k + 1) hit)
        have hb1 : Below w.heap.size w (wr.iterAt w.heap.size s (k + 1)) := Lib.below_iterAt hbr (Nat.le_refl _) s (k + 1)
        clear hit hbr
        generalize wr.iterAt w.heap.size s (k + 1) = W1 at hnx hk1 hb1
        cases hb : ((s[k].toNat : Int) == 47) with
        | true =>
          have hb2 := ne_not' hb
          obtain ⟨r1, r2⟩ := n_slash s k hlt hb
          cases a with
          | true =>
            have HV2 := Lib.hid (show V = false by rw [HV.out, ← hrun, r2]; rfl)
            clear hrun r1 r2
            go_wp2
            go_ret
            exact ⟨by rw [HV2.out]; rfl, hb1⟩
          | false =>
            have HR := Lib.hid (show nameRun (s.data.toList.drop (k + 1)) true = U by rw [← hrun, r1])
            clear hrun r1 r2
            go_wp2
            go_roundw
            case rel => exact ⟨k + 1, true, by omega, rfl, hk1.out, HR.out, hb1⟩
            case measure => rw [hmu.out, iter_pos hk1.out]; omega
        | false =>
          have hb2 := ne_yes' hb
          by_cases h1 : (s[k].toNat : Int) < 97
          · have HV2 := Lib.hid (show V = false by rw [HV.out, ← hrun, n_bad s k hlt a hb (.inl h1)]; rfl)
            clear hrun
            go_wp2
            go_ret
            exact ⟨by rw [HV2.out]; rfl, hb1⟩
          by_cases h2 : 122 < (s[k].toNat : Int)
          · have HV2 := Lib.hid (show V = false by rw [HV.out, ← hrun, n_bad s k hlt a hb (.inr h2)]; rfl)
            clear hrun
            go_wp2
            go_ret
            exact ⟨by rw [HV2.out]; rfl, hb1⟩
          have HR := Lib.hid (show nameRun (s.data.toList.drop (k + 1)) false = U by rw [← hrun, n_letter s k hlt a h1 h2])
          clear hrun
          go_wp2
          go_roundw
          case rel => exact ⟨k + 1, false, by omega, rfl, hk1.out, HR.out, hb1⟩
          case measure => rw [hmu.out, iter_pos hk1.out]; omega
      · have hnx : ∀ ty, (Instr.next (.pointer (some ⟨w.heap.size, 0, none⟩)) true ty).run Try.prog wr = _ := fun ty => Lib.run_next_any_at wr w.heap.size s k ty hit hlt
        have hhi := (decode_high s k hlt (by omega)).1
        have hb1 : Below w.heap.size w (wr.iterAt w.heap.size s (k + (Utf8.decode s k).2)) := Lib.below_iterAt hbr (Nat.le_refl _) s _
        clear hit hbr
        generalize wr.iterAt w.heap.size s (k + (Utf8.decode s k).2) = W1 at hnx hb1
        generalize (Utf8.decode s k).1 = r at hnx hhi
        have HV2 := Lib.hid (show V = false by rw [HV.out, ← hrun, n_bad s k hlt a (by simp; omega) (.inr (by omega))]; rfl)
        have hb : ((r : Int) == 47) = false := by simp; omega
        have hb2 := ne_yes' hb
        have h1 : ¬ (r : Int) < 97 := by omega
        have h2 : 122 < (r : Int) := by omega
        clear hrun
        go_wp2
        go_ret
        exact ⟨by rw [HV2.out]; rfl, hb1⟩
    · have hnx : ∀ ty, (Instr.next (.pointer (some ⟨w.heap.size, 0, none⟩)) true ty).run Try.prog wr = _ := fun ty => Lib.run_next_end_at wr w.heap.size s k ty hit hlt
      have hV2 : V = (!a && decide ((s.size : Int) ≤ 12)) := by rw [HV.out, ← hrun, n_end s k hlt]
      clear hrun hit
      cases a with
      | true =>
        have HV2 := Lib.hid (show V = false by rw [hV2]; rfl)
        clear hV2
        go_wp2
        go_ret
        exact ⟨by rw [HV2.out]; rfl, hbr⟩
      | false =>
        by_cases h : (s.size : Int) ≤ 12
        · have HV2 := Lib.hid (show V = true by rw [hV2, decide_eq_true h]; rfl)
          clear hV2
          go_wp2
          go_ret
          exact ⟨by rw [HV2.out]; rfl, hbr⟩
        · have HV2 := Lib.hid (show V = false by rw [hV2, decide_eq_false h]; rfl)
          clear hV2
          go_wp2
          go_ret
          exact ⟨by rw [HV2.out]; rfl, hbr⟩

end Go.Proofs.Ythjeeggejkpjgaa

/-
  Chapter 2's walks: Under, the model's and the program's.
-/
namespace Go.Proofs.Ythjeeggejkpjgaa
open Go.RowKit

theorem under_no1 {x y : List UInt8} (h : nameB x = false) : underB x y = false := by unfold underB; rw [h]; rfl
theorem under_no2 {x y : List UInt8} (h : nameB y = false) : underB x y = false := by unfold underB; rw [h]; simp
theorem under_eq {x y : List UInt8} (h1 : nameB x = true) (h2 : nameB y = true) (h : x = y) : underB x y = true := by unfold underB; rw [h1, h2]; simp [h]
theorem under_ne {x y : List UInt8} (h1 : nameB x = true) (h2 : nameB y = true) (h : ¬ x = y) : underB x y = Lib.hasPrefix x (y ++ [47]) := by unfold underB; rw [h1, h2]; simp [h]
theorem nameB_len {x : List UInt8} (h : nameB x = true) : x.length ≤ 12 := by unfold nameB at h; simp only [Bool.and_eq_true, decide_eq_true_eq] at h; exact h.2
theorem beq_dec (a b : List UInt8) : (a == b) = decide (a = b) := by rw [Bool.eq_iff_iff]; simp
theorem beq_lists {x y : ByteArray} : (x.toList == y.toList) = decide (x.data.toList = y.data.toList) := by
  rw [Lib.toList_data, Lib.toList_data, beq_dec]

theorem pre_short {x y : List UInt8} (h : ¬ y.length < x.length) : Lib.hasPrefix x (y ++ [47]) = false := by
  unfold Lib.hasPrefix
  rw [Bool.eq_false_iff]
  intro hc
  rw [List.isPrefixOf_iff_prefix] at hc
  have := hc.length_le
  simp at this
  omega
theorem pre_take {x y : List UInt8} (h : y.length < x.length) : Lib.hasPrefix x (y ++ [47]) = (decide (x.take y.length = y) && decide (x[y.length] = 47)) := by
  unfold Lib.hasPrefix
  rw [Bool.eq_iff_iff]
  simp only [Bool.and_eq_true, decide_eq_true_eq, List.isPrefixOf_iff_prefix]
  constructor
  · rintro ⟨t, rfl⟩
    simp
  · rintro ⟨h1, h2⟩
    refine ⟨x.drop (y.length + 1), ?_⟩
    have : x = x.take y.length ++ x.drop y.length := (List.take_append_drop _ _).symm
    rw [List.drop_eq_getElem_cons h, h1, h2] at this
    rw [this]
    simp

end Go.Proofs.Ythjeeggejkpjgaa

/-
  Chapter 2's walks: Unquote, the model's and the program's.
-/
namespace Go.Proofs.Ythjeeggejkpjgaa
open Go.RowKit

theorem uqV_none : uqV none = .tuple #[.string ⟨#[]⟩, .int .i64 (-1)] := rfl
theorem uqV_some (t : List UInt8) (n : Nat) : uqV (some (t, n)) = .tuple #[sv t, .int .i64 (n : Int)] := rfl
theorem uqO_neg (l : List UInt8) (a : Int) (h : a < 0) : uqO l a = none := if_pos h
theorem uqO_far (s : ByteArray) (p : Nat) (h : ¬ p < s.size) : uqO s.data.toList (p : Int) = none := by
  unfold uqO
  rw [if_neg (by omega), Int.toNat_natCast, drop_str_end s p h]
theorem uqO_at (s : ByteArray) (p : Nat) (h : p < s.size) : uqO s.data.toList (p : Int) = if (s[p].toNat : Int) = 34 then uqAt (s.data.toList.drop (p + 1)) (p + 1) [] else none := by
  unfold uqO
  rw [if_neg (by omega), Int.toNat_natCast, drop_str s p h]
  simp only
  by_cases h1 : s[p].toNat = 34
  · rw [if_pos h1, if_pos (by omega)]
  · rw [if_neg h1, if_neg (by omega)]
theorem take_bytes_lit (v : List UInt8) (b : UInt8) : (v ++ [b]).map bv = v.map bv ++ [bv b] := by simp

theorem s_quote (s : ByteArray) (k : Nat) (h : k < s.size) (q : Nat) (acc : List UInt8) (hb : ((s[k].toNat : Int) == 34) = true) (h2 : ¬ 40 < (acc.length : Int)) : uqAt (s.data.toList.drop k) q acc = some (acc, q + 1) := by
  rw [drop_str s k h, uqAt_quote _ _ _ (by have := beq_iff_eq.1 hb; omega), if_neg (by omega)]
theorem s_quote_long (s : ByteArray) (k : Nat) (h : k < s.size) (q : Nat) (acc : List UInt8) (hb : ((s[k].toNat : Int) == 34) = true) (h2 : 40 < (acc.length : Int)) : uqAt (s.data.toList.drop k) q acc = none := by
  rw [drop_str s k h, uqAt_quote _ _ _ (by have := beq_iff_eq.1 hb; omega), if_pos (by omega)]
theorem s_slash (s : ByteArray) (k : Nat) (h : k < s.size) (q : Nat) (acc : List UInt8) (hb : ((s[k].toNat : Int) == 92) = true) : uqAt (s.data.toList.drop k) q acc = uqEsc (s.data.toList.drop (k + 1)) (q + 1) acc := by
  rw [drop_str s k h, uqAt_slash _ _ _ (by have := beq_iff_eq.1 hb; omega)]
theorem s_esc (s : ByteArray) (k : Nat) (h : k < s.size) (q : Nat) (acc : List UInt8) (hb : escR (s[k].toNat : Int) = true) : uqEsc (s.data.toList.drop k) q acc = uqAt (s.data.toList.drop (k + 1)) (q + 1) (acc ++ [s[k]]) := by
  rw [escR_byte] at hb
  rw [drop_str s k h, uqEsc_yes _ _ _ hb]
theorem s_esc_no (s : ByteArray) (k : Nat) (h : k < s.size) (q : Nat) (acc : List UInt8) (hb : escR (s[k].toNat : Int) = false) : uqEsc (s.data.toList.drop k) q acc = none := by
  rw [escR_byte] at hb
  rw [drop_str s k h, uqEsc_no _ _ _ hb]
theorem s_esc_end (s : ByteArray) (k : Nat) (h : ¬ k < s.size) (q : Nat) (acc : List UInt8) : uqEsc (s.data.toList.drop k) q acc = none := by
  rw [drop_str_end s k h]; rfl
theorem s_bad (s : ByteArray) (k : Nat) (h : k < s.size) (q : Nat) (acc : List UInt8) (hb : txtR (s[k].toNat : Int) = false) : uqAt (s.data.toList.drop k) q acc = none := by
  rw [txtR_byte] at hb
  rw [drop_str s k h, uqAt_bad _ _ _ hb]
theorem s_plain (s : ByteArray) (k : Nat) (h : k < s.size) (q : Nat) (acc : List UInt8) (h3 : ((s[k].toNat : Int) == 34) = false) (h4 : ((s[k].toNat : Int) == 92) = false) (hb : txtR (s[k].toNat : Int) = true) : uqAt (s.data.toList.drop k) q acc = uqAt (s.data.toList.drop (k + 1)) (q + 1) (acc ++ [s[k]]) := by
  rw [txtR_byte] at hb
  have e3 := beq_eq_false_iff_ne.1 h3
  have e4 := beq_eq_false_iff_ne.1 h4
  rw [drop_str s k h, uqAt_plain _ _ _ (by omega) (by omega) hb]
theorem s_end (s : ByteArray) (k : Nat) (h : ¬ k < s.size) (q : Nat) (acc : List UInt8) : uqAt (s.data.toList.drop k) q acc = none := by
  rw [drop_str_end s k h, uqAt_nil]
theorem escR_two {r : Int} (h : escR r = true) : (r == 34) = true ∨ (r == 34) = false ∧ (r == 92) = true := by
  unfold escR at h
  simp only [Bool.or_eq_true, decide_eq_true_eq] at h
  by_cases h1 : r = 34
  · exact .inl (by rw [h1]; rfl)
  · exact .inr ⟨by simpa using h1, by simpa using h.resolve_left h1⟩
theorem escR_none {r : Int} (h : escR r = false) : (r == 34) = false ∧ (r == 92) = false := by
  unfold escR at h
  simp only [Bool.or_eq_false_iff, decide_eq_false_iff_not] at h
  exact ⟨by simpa using h.1, by simpa using h.2⟩
theorem txtR_out {r : Int} (h : txtR r = false) : r < 32 ∨ ¬ r < 32 ∧ 126 < r := by
  by_cases h1 : r < 32
  · exact .inl h1
  by_cases h2 : 126 < r
  · exact .inr ⟨h1, h2⟩
  rw [txtR_true (by omega) (by omega)] at h; cases h
theorem txtR_two {r : Int} (h : txtR r = true) : ¬ r < 32 ∧ ¬ 126 < r := by
  constructor
  · intro h1; rw [txtR_false (by omega)] at h; cases h
  · intro h1; rw [txtR_false (by omega)] at h; cases h
theorem txtR_esc {r : Int} (h : escR r = true) : txtR r = true := by
  rcases escR_two h with h1 | ⟨_, h1⟩
  · rw [beq_iff_eq] at h1; subst h1; rfl
  · rw [beq_iff_eq] at h1; subst h1; rfl
theorem ne_not {a b : Int} (h : (a == b) = true) : (a != b) = false := by simp only [bne, h]; rfl
theorem ne_yes {a b : Int} (h : (a == b) = false) : (a != b) = true := by simp only [bne, h]; rfl

theorem own_slice {w : World} {B n size : Nat} {e : TypeId} {v : Value} {xs : List Value} (h : w.ownsRow B e size v n xs) : ∃ p c, v = .slice p n c := by
  rcases h.2 with ⟨hv, h0⟩ | ⟨g, cap, cur, hv, _⟩
  · exact ⟨none, 0, by rw [hv, h0]⟩
  · exact ⟨_, cap, hv⟩

/-- What the loop of spec.Unquote knows. -/
def UqRel (s : ByteArray) (U : Option (List UInt8 × Nat)) (k : Nat) (acc : List UInt8) (n : Nat) : Prop := uqAt (s.data.toList.drop k) k acc = U ∧ n = acc.length

end Go.Proofs.Ythjeeggejkpjgaa

/-
  Chapter 2's walks: the program's Unquote.
-/
namespace Go.Proofs.Ythjeeggejkpjgaa
open Go.RowKit

/-- What the program's loop knows: at place k of the rest, behind a backslash or not. -/
def UqSt (l : List UInt8) (q : Nat) (ab : Bool) (acc : List UInt8) (U : Option (List UInt8 × Nat)) (n : Nat) : Prop := (if ab = true then uqEsc l q acc else uqAt l q acc) = U ∧ n = acc.length

theorem escR_both {r : Int} (h : escR r = true) : ((r == 34) = true ∧ (r == 92) = false) ∨ ((r == 34) = false ∧ (r == 92) = true) := by
  rcases escR_two h with h1 | h1
  · exact .inl ⟨h1, by rw [beq_iff_eq] at h1; subst h1; rfl⟩
  · exact .inr h1
theorem sub_list (s : ByteArray) (p : Nat) : (s.extract p s.size).data.toList = s.data.toList.drop p := by
  rw [Lib.extract_data, List.take_of_length_le]; simp
theorem sub_size (s : ByteArray) (p : Nat) : (s.extract p s.size).size = s.size - p := by simp

theorem uq_full (l : List UInt8) (q : Nat) (acc : List UInt8) (b : UInt8) (h : acc.length = 40) : uqAt l q (acc ++ [b]) = none := uqAt_long l.length l q _ (Nat.le_refl _) (by simp [h])

end Go.Proofs.Ythjeeggejkpjgaa

