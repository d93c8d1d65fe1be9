/-
  Sc: Gc Gd (what the claim needs of them).
-/
import Derived.Test.YtbfgdbpfecffcaaGreatDoorRows
import Derived.WalkKit
import Derived.WalkSpells
import Derived.WalkLawsBesides
import Derived.Laws.IdiomStrings
import Derived.Lib.Hide
import Derived.Deep.AppendLies
import Derived.OrdersHeld
import Derived.Lib.ItoaNum
import Derived.Lib.ItoaMem
import Derived.Lib.AppendStr
import Derived.Lib.ItoaLen
import Derived.Lib.Strings
import Derived.Lib.Bytealg
import Derived.Lib.OthersKept
import Derived.Laws.RangeAny
import Derived.Test.YtbfgdbpfecffcaaGreatDoorProg
import Derived.Laws.BitsAllLaws
import Derived.Laws.BitsLemmas
import Derived.IntWalk
import Derived.Test.YtbfgdbpfecffcaaGreatDoorSb

namespace Go.Proofs.YtbfgdbpfecffcaaGreatDoor
open Go.RowKit

def txtc (b : UInt8) : Bool := decide (32 ≤ b.toNat) && decide (b.toNat ≤ 126)
def escc (b : UInt8) : Bool := decide (b.toNat = 34) || decide (b.toNat = 92)
def atomc (b : UInt8) : Bool := decide (33 ≤ b.toNat) && decide (b.toNat ≤ 126) && !(decide (b.toNat = 40) || decide (b.toNat = 41) || decide (b.toNat = 123) || decide (b.toNat = 34) || decide (b.toNat = 92))
def atomB (l : List UInt8) : Bool := l.all atomc && decide (1 ≤ l.length) && decide (l.length ≤ 40)
def esc1 (b : UInt8) : List UInt8 := if escc b = true then [92, b] else [b]
def escl (l : List UInt8) : List UInt8 := l.flatMap esc1
def quoteL (l : List UInt8) : List UInt8 := if l.all txtc = true ∧ l.length ≤ 40 then 34 :: escl l ++ [34] else []
def wordL (l : List UInt8) : List UInt8 := if atomB l = true then l else quoteL l

theorem escl_snoc (l : List UInt8) (b : UInt8) : escl (l ++ [b]) = escl l ++ esc1 b := by simp [escl]
theorem esc1_le (b : UInt8) : (esc1 b).length ≤ 2 := by unfold esc1; split <;> simp
theorem escl_le (l : List UInt8) : (escl l).length ≤ 2 * l.length := by
  induction l with
  | nil => simp [escl]
  | cons b l ih => have := esc1_le b; simp only [escl, List.flatMap_cons, List.length_append, List.length_cons] at ih ⊢; omega
theorem quoteL_le (l : List UInt8) : (quoteL l).length ≤ 82 := by
  unfold quoteL
  split
  · rename_i h; have := escl_le l; simp; omega
  · simp

/-- Every byte's code in its signed form. -/
theorem txtc_int (b : UInt8) : txtc b = (decide (32 ≤ (b.toNat : Int)) && decide ((b.toNat : Int) ≤ 126)) := by
  unfold txtc
  congr 1
  · have : (32 ≤ b.toNat) = (32 ≤ (b.toNat : Int)) := by rw [eq_iff_iff]; omega
    simp only [this]
  · have : (b.toNat ≤ 126) = ((b.toNat : Int) ≤ 126) := by rw [eq_iff_iff]; omega
    simp only [this]

/-- A rune's tests. -/
def txtR (r : Int) : Bool := decide (32 ≤ r) && decide (r ≤ 126)
def escR (r : Int) : Bool := decide (r = 34) || decide (r = 92)
def atomR (r : Int) : Bool := decide (33 ≤ r) && decide (r ≤ 126) && !(decide (r = 40) || decide (r = 41) || decide (r = 123) || decide (r = 34) || decide (r = 92))
theorem txtR_byte (b : UInt8) : txtR (b.toNat : Int) = txtc b := (txtc_int b).symm
theorem escR_byte (b : UInt8) : escR (b.toNat : Int) = escc b := by
  unfold escR escc
  congr 1
  · have : ((b.toNat : Int) = 34) = (b.toNat = 34) := by rw [eq_iff_iff]; omega
    simp only [this]
  · have : ((b.toNat : Int) = 92) = (b.toNat = 92) := by rw [eq_iff_iff]; omega
    simp only [this]
theorem atomR_byte (b : UInt8) : atomR (b.toNat : Int) = atomc b := by
  have hh : ∀ n : Fin 256, atomR (((UInt8.ofNat n.val).toNat : Nat) : Int) = atomc (UInt8.ofNat n.val) := by decide +kernel
  have := hh ⟨b.toNat, b.toNat_lt⟩
  simpa using this
theorem esc_idx (r : Int) (h0 : 0 ≤ r) (h1 : r < 128) : decide (0 ≤ Lib.indexByte [34, 92] r.toNat.toUInt8) = escR r := by
  have hh : ∀ n : Fin 128, decide (0 ≤ Lib.indexByte [34, 92] ((n.val : Int)).toNat.toUInt8) = escR (n.val : Int) := by decide +kernel
  have := hh ⟨r.toNat, by omega⟩
  rwa [show ((⟨r.toNat, by omega⟩ : Fin 128).val : Int) = r from by show (r.toNat : Int) = r; omega] at this
def bad5R (r : Int) : Bool := decide (r = 40) || decide (r = 41) || decide (r = 123) || decide (r = 34) || decide (r = 92)
theorem bad_idx (r : Int) (h0 : 0 ≤ r) (h1 : r < 128) : decide (0 ≤ Lib.indexByte [40, 41, 123, 34, 92] r.toNat.toUInt8) = bad5R r := by
  have hh : ∀ n : Fin 128, decide (0 ≤ Lib.indexByte [40, 41, 123, 34, 92] ((n.val : Int)).toNat.toUInt8) = bad5R (n.val : Int) := by decide +kernel
  have := hh ⟨r.toNat, by omega⟩
  rwa [show ((⟨r.toNat, by omega⟩ : Fin 128).val : Int) = r from by show (r.toNat : Int) = r; omega] at this

theorem all_take (p : UInt8 → Bool) (s : ByteArray) (k : Nat) (h : k < s.size) : (s.data.toList.take (k + 1)).all p = ((s.data.toList.take k).all p && p s[k]) := by
  rw [take_str s k h, List.all_append]; simp
theorem get_mem (s : ByteArray) (k : Nat) (h : k < s.size) : s[k] ∈ s.data.toList := by
  have : s.data.toList[k]? = some s[k] := by simp [List.getElem?_eq_getElem (show k < s.data.toList.length by simpa using h)]; rfl
  exact List.mem_of_getElem? this
theorem all_not (p : UInt8 → Bool) (s : ByteArray) (k : Nat) (h : k < s.size) (hn : p s[k] = false) : s.data.toList.all p = false := by
  rw [Bool.eq_false_iff]
  intro hc
  rw [List.all_eq_true] at hc
  rw [hc _ (get_mem s k h)] at hn
  cases hn
theorem str_len (s : ByteArray) : s.data.toList.length = s.size := by simp
theorem drop_str (s : ByteArray) (k : Nat) (h : k < s.size) : s.data.toList.drop k = s[k] :: s.data.toList.drop (k + 1) := by
  rw [List.drop_eq_getElem_cons (show k < s.data.toList.length by simpa using h)]
  rfl
theorem drop_str_end (s : ByteArray) (k : Nat) (h : ¬ k < s.size) : s.data.toList.drop k = [] := by
  apply List.drop_eq_nil_of_le; simp; omega

/-- The text from place p on (l is the rest), acc read so far: the text and the place behind its closing quote. -/
def uqAt : List UInt8 → Nat → List UInt8 → Option (List UInt8 × Nat)
  | [], _, _ => none
  | b :: r, p, acc =>
    if b.toNat = 34 then (if 40 < acc.length then none else some (acc, p + 1))
    else if b.toNat = 92 then
      match r with
      | [] => none
      | c :: r' => if escc c = true then uqAt r' (p + 2) (acc ++ [c]) else none
    else if txtc b = true then uqAt r (p + 1) (acc ++ [b]) else none
/-- The same behind a backslash. -/
def uqEsc (l : List UInt8) (p : Nat) (acc : List UInt8) : Option (List UInt8 × Nat) :=
  match l with
  | [] => none
  | c :: r' => if escc c = true then uqAt r' (p + 1) (acc ++ [c]) else none

theorem uqAt_nil (p : Nat) (acc : List UInt8) : uqAt [] p acc = none := by simp [uqAt]
theorem uqAt_quote {b : UInt8} (r : List UInt8) (p : Nat) (acc : List UInt8) (h : b.toNat = 34) : uqAt (b :: r) p acc = if 40 < acc.length then none else some (acc, p + 1) := by
  rw [uqAt.eq_def]; simp only [h, if_true]
theorem uqAt_slash {b : UInt8} (r : List UInt8) (p : Nat) (acc : List UInt8) (h : b.toNat = 92) : uqAt (b :: r) p acc = uqEsc r (p + 1) acc := by
  rw [uqAt.eq_def]
  simp only [h, if_true]
  unfold uqEsc
  cases r <;> simp
theorem uqAt_plain {b : UInt8} (r : List UInt8) (p : Nat) (acc : List UInt8) (h1 : ¬ b.toNat = 34) (h2 : ¬ b.toNat = 92) (h : txtc b = true) : uqAt (b :: r) p acc = uqAt r (p + 1) (acc ++ [b]) := by
  rw [uqAt.eq_def]; simp only [h1, h2, if_false, h, if_true]
theorem uqAt_bad {b : UInt8} (r : List UInt8) (p : Nat) (acc : List UInt8) (h : txtc b = false) : uqAt (b :: r) p acc = none := by
  have h1 : ¬ b.toNat = 34 := by intro e; unfold txtc at h; rw [e] at h; simp at h
  have h2 : ¬ b.toNat = 92 := by intro e; unfold txtc at h; rw [e] at h; simp at h
  rw [uqAt.eq_def]; simp only [h1, h2, if_false, h]; simp
theorem uqEsc_yes {c : UInt8} (r : List UInt8) (p : Nat) (acc : List UInt8) (h : escc c = true) : uqEsc (c :: r) p acc = uqAt r (p + 1) (acc ++ [c]) := by simp [uqEsc, h]
theorem uqEsc_no {c : UInt8} (r : List UInt8) (p : Nat) (acc : List UInt8) (h : escc c = false) : uqEsc (c :: r) p acc = none := by simp [uqEsc, h]
theorem uqEsc_nil (p : Nat) (acc : List UInt8) : uqEsc [] p acc = none := rfl
theorem escc_txtc {c : UInt8} (h : escc c = true) : txtc c = true := by
  have hh : ∀ n : Fin 256, escc (UInt8.ofNat n.val) = true → txtc (UInt8.ofNat n.val) = true := by decide +kernel
  have := hh ⟨c.toNat, c.toNat_lt⟩
  simp at this
  exact this h

def nameRun : List UInt8 → Bool → Bool
  | [], a => !a
  | b :: r, a => if b.toNat = 47 then (if a = true then false else nameRun r true) else if 97 ≤ b.toNat ∧ b.toNat ≤ 122 then nameRun r false else false
def nameB (l : List UInt8) : Bool := nameRun l true && decide (l.length ≤ 12)
theorem nameRun_slash {b : UInt8} (r : List UInt8) (h : b.toNat = 47) : nameRun (b :: r) false = nameRun r true ∧ nameRun (b :: r) true = false := by simp [nameRun, h]
theorem nameRun_letter {b : UInt8} (r : List UInt8) (a : Bool) (h0 : 97 ≤ b.toNat) (h1 : b.toNat ≤ 122) : nameRun (b :: r) a = nameRun r false := by
  have h : ¬ b.toNat = 47 := by omega
  simp [nameRun, h, h0, h1]
theorem nameRun_bad {b : UInt8} (r : List UInt8) (a : Bool) (h : ¬ b.toNat = 47) (h0 : ¬ (97 ≤ b.toNat ∧ b.toNat ≤ 122)) : nameRun (b :: r) a = false := by
  simp only [nameRun, h, h0, if_false]
theorem nameRun_nil (a : Bool) : nameRun [] a = !a := rfl
def namec (b : UInt8) : Bool := decide (b.toNat = 47) || (decide (97 ≤ b.toNat) && decide (b.toNat ≤ 122))
theorem nameRun_all : ∀ (l : List UInt8) (a : Bool), nameRun l a = true → l.all namec = true
  | [], _, _ => rfl
  | b :: r, a, h => by
    by_cases h1 : b.toNat = 47
    · cases a with
      | true => rw [(nameRun_slash r h1).2] at h; cases h
      | false => rw [(nameRun_slash r h1).1] at h; simp [nameRun_all r true h, namec, h1]
    · by_cases h2 : 97 ≤ b.toNat ∧ b.toNat ≤ 122
      · rw [nameRun_letter r a h2.1 h2.2] at h; simp [nameRun_all r false h, namec, h2]
      · rw [nameRun_bad r a h1 h2] at h; cases h
theorem namec_atomc {b : UInt8} (h : namec b = true) : atomc b = true := by
  have hh : ∀ n : Fin 256, namec (UInt8.ofNat n.val) = true → atomc (UInt8.ofNat n.val) = true := by decide +kernel
  have := hh ⟨b.toNat, b.toNat_lt⟩
  simp at this
  exact this h
theorem nameB_atomB {l : List UInt8} (h : nameB l = true) : atomB l = true := by
  unfold nameB at h
  simp only [Bool.and_eq_true, decide_eq_true_eq] at h
  have h1 := nameRun_all l true h.1
  have h2 : l ≠ [] := by rintro rfl; simp [nameRun] at h
  have h3 : 0 < l.length := List.length_pos_iff.2 h2
  unfold atomB
  simp only [Bool.and_eq_true, decide_eq_true_eq]
  refine ⟨⟨?_, by omega⟩, by omega⟩
  rw [List.all_eq_true] at h1 ⊢
  exact fun x hx => namec_atomc (h1 x hx)
theorem nameB_wordL {l : List UInt8} (h : nameB l = true) : wordL l = l := by unfold wordL; rw [if_pos (nameB_atomB h)]

theorem l1In_any (n a b : Int) (w : World) :
    Calls Tryz.prog 86 #[.int .i64 n, .int .i64 a, .int .i64 b] w fun e w' => e = .returned (.bool (decide (a ≤ n) && decide (n ≤ b))) ∧ w = w' := by
  by_cases h1 : a ≤ n
  · by_cases h2 : n ≤ b
    · rw [show (decide (a ≤ n) && decide (n ≤ b)) = true by simp [h1, h2]]
      go_enter Tryz.func86, Tryz.ntmps86
      go_wp2
      go_ret
      exact ⟨rfl, rfl⟩
    · rw [show (decide (a ≤ n) && decide (n ≤ b)) = false by simp [h2]]
      go_enter Tryz.func86, Tryz.ntmps86
      go_wp2
      go_ret
      exact ⟨rfl, rfl⟩
  · rw [show (decide (a ≤ n) && decide (n ≤ b)) = false by simp [h1]]
    go_enter Tryz.func86, Tryz.ntmps86
    go_wp2
    go_ret
    exact ⟨rfl, rfl⟩

theorem txtR_true {r : Int} (h1 : 32 ≤ r) (h2 : r ≤ 126) : txtR r = true := by simp [txtR, h1, h2]
theorem txtR_false {r : Int} (h : ¬ (32 ≤ r ∧ r ≤ 126)) : txtR r = false := by unfold txtR; rw [← Bool.decide_and]; exact decide_eq_false h

/-- Where an iterator stands. -/
theorem iter_pos {w : World} {k pos : Nat} {s : ByteArray} (h : w.heap[k]? = some (.stringIter s pos)) : w.iterPos k = pos := by simp [World.iterPos, h]

theorem ne_not' {a b : Int} (h : (a == b) = true) : (a != b) = false := by simp only [bne, h]; rfl
theorem ne_yes' {a b : Int} (h : (a == b) = false) : (a != b) = true := by simp only [bne, h]; rfl

/-- What the model's loop knows at place k. -/
def NmSt (s : ByteArray) (k : Nat) (a : Bool) (U : Bool) : Prop :=
  nameRun (s.data.toList.drop k) a = U ∧ (k = 0 → a = true) ∧ (∀ j, k = j + 1 → ∀ h : j < s.size, a = decide (s[j].toNat = 47)) ∧ (k = s.size → 0 < k → a = false)
theorem nameB_of {l : List UInt8} {U : Bool} (h : nameRun l true = U) : nameB l = (U && decide (l.length ≤ 12)) := by unfold nameB; rw [h]
theorem nameB_size {s : ByteArray} {U : Bool} (h : nameRun s.data.toList true = U) : nameB s.data.toList = (U && decide ((s.size : Int) ≤ 12)) := by
  rw [nameB_of h, str_len]
  have e2 : (s.size ≤ 12) = ((s.size : Int) ≤ 12) := by rw [eq_iff_iff]; omega
  simp only [e2]
theorem n_slash (s : ByteArray) (k : Nat) (h : k < s.size) (hb : ((s[k].toNat : Int) == 47) = true) : nameRun (s.data.toList.drop k) false = nameRun (s.data.toList.drop (k + 1)) true ∧ nameRun (s.data.toList.drop k) true = false := by
  rw [drop_str s k h]
  exact nameRun_slash _ (by have := beq_iff_eq.1 hb; omega)
theorem n_letter (s : ByteArray) (k : Nat) (h : k < s.size) (a : Bool) (h0 : ¬ (s[k].toNat : Int) < 97) (h1 : ¬ 122 < (s[k].toNat : Int)) : nameRun (s.data.toList.drop k) a = nameRun (s.data.toList.drop (k + 1)) false := by
  rw [drop_str s k h]
  exact nameRun_letter _ a (by omega) (by omega)
theorem n_bad (s : ByteArray) (k : Nat) (h : k < s.size) (a : Bool) (hb : ((s[k].toNat : Int) == 47) = false) (h1 : (s[k].toNat : Int) < 97 ∨ 122 < (s[k].toNat : Int)) : nameRun (s.data.toList.drop k) a = false := by
  rw [drop_str s k h]
  exact nameRun_bad _ a (by have := beq_eq_false_iff_ne.1 hb; omega) (by omega)
theorem n_end (s : ByteArray) (k : Nat) (h : ¬ k < s.size) (a : Bool) : nameRun (s.data.toList.drop k) a = !a := by rw [drop_str_end s k h]; rfl

set_option maxHeartbeats 1600000 in
theorem specNameOk_any (s : ByteArray) (w : World) (hs : s.size ≤ maxLen) :
    Calls Tryz.prog 113 #[.string s] w fun e w' => e = .returned (.bool (nameB s.data.toList)) ∧ w = w' := by
  unfold maxLen at hs
  obtain ⟨U, hU⟩ : ∃ U, nameRun s.data.toList true = U := ⟨_, rfl⟩
  have hV := nameB_size hU
  generalize nameB s.data.toList = V at *
  have HU := Lib.hid hU
  have HV := Lib.hid hV
  clear hU hV
  go_enter Tryz.func113, Tryz.ntmps113
  go_wp2
  go_loop [3] (fun i => ∃ (k : Nat) (a : Bool), k ≤ s.size ∧ i = .int .i64 k ∧ NmSt s k a U) (fun i => s.size - (intOf i).toNat)
  case atStart => exact ⟨0, true, Nat.zero_le _, rfl, HU.out, fun _ => rfl, fun j h => by omega, fun _ h => by omega⟩
  case round =>
    obtain ⟨k, a, hk, rfl, hrun, h0, hj, he⟩ := hrel
    by_cases hlt : k < s.size
    · have hbn : s[k].toNat < 256 := s[k].toNat_lt
      cases hb : ((s[k].toNat : Int) == 47) with
      | true =>
        obtain ⟨r1, r2⟩ := n_slash s k hlt hb
        cases k with
        | zero =>
          have HV2 := Lib.hid (show V = false by rw [HV.out, ← hrun, h0 rfl, r2]; rfl)
          clear hrun h0 hj he r1 r2
          go_wp2
          go_ret
          exact ⟨by rw [HV2.out]; rfl, rfl⟩
        | succ j =>
          have hjl : j < s.size := by omega
          have haj := hj j rfl hjl
          have hbj : s[j].toNat < 256 := s[j].toNat_lt
          cases h1 : ((j : Int) + 1 == (s.size : Int) - 1) with
          | true =>
            have hU : U = false := by
              rw [← hrun]
              cases a with
              | true => exact r2
              | false => rw [r1, n_end s (j + 1 + 1) (by have := beq_iff_eq.1 h1; omega)]; rfl
            have HV2 := Lib.hid (show V = false by rw [HV.out, hU]; rfl)
            clear hrun h0 hj he r1 r2 haj hU
            go_wp2
            go_ret
            exact ⟨by rw [HV2.out]; rfl, rfl⟩
          | false =>
            cases h2 : ((s[j].toNat : Int) == 47) with
            | true =>
              have hU : U = false := by rw [← hrun, haj, decide_eq_true (by have := beq_iff_eq.1 h2; omega), r2]
              have HV2 := Lib.hid (show V = false by rw [HV.out, hU]; rfl)
              clear hrun h0 hj he r1 r2 haj hU
              go_wp2
              go_ret
              exact ⟨by rw [HV2.out]; rfl, rfl⟩
            | false =>
              have ha : a = false := by rw [haj]; exact decide_eq_false (by have := beq_eq_false_iff_ne.1 h2; omega)
              have HR := Lib.hid (show nameRun (s.data.toList.drop (j + 1 + 1)) true = U by rw [← hrun, ha, r1])
              have HE := Lib.hid (show ¬ j + 1 + 1 = s.size by have := beq_eq_false_iff_ne.1 h1; omega)
              have HB := Lib.hid hb
              clear hrun h0 hj he r1 r2 haj ha
              go_wp2
              go_round
              case rel => exact ⟨j + 1 + 1, true, by omega, by go_num, HR.out, fun _ => rfl, fun i hi hl => by
                obtain rfl : i = j + 1 := by omega
                exact (decide_eq_true (by have := beq_iff_eq.1 HB.out; omega)).symm, fun h => absurd h HE.out⟩
              case measure => simp [intOf]; omega
      | false =>
        by_cases h1 : (s[k].toNat : Int) < 97
        · have HV2 := Lib.hid (show V = false by rw [HV.out, ← hrun, n_bad s k hlt a hb (.inl h1)]; rfl)
          clear hrun h0 hj he
          go_wp2
          go_ret
          exact ⟨by rw [HV2.out]; rfl, rfl⟩
        by_cases h2 : 122 < (s[k].toNat : Int)
        · have HV2 := Lib.hid (show V = false by rw [HV.out, ← hrun, n_bad s k hlt a hb (.inr h2)]; rfl)
          clear hrun h0 hj he
          go_wp2
          go_ret
          exact ⟨by rw [HV2.out]; rfl, rfl⟩
        have HR := Lib.hid (show nameRun (s.data.toList.drop (k + 1)) false = U by rw [← hrun, n_letter s k hlt a h1 h2])
        have HB := Lib.hid hb
        clear hrun h0 hj he
        go_wp2
        go_round
        case rel => exact ⟨k + 1, false, by omega, by go_num, HR.out, fun h => by omega, fun i hi hl => by
          obtain rfl : i = k := by omega
          exact (decide_eq_false (by have := beq_eq_false_iff_ne.1 HB.out; omega)).symm, fun _ _ => rfl⟩
        case measure => simp [intOf]; omega
    · obtain rfl : k = s.size := by omega
      have hl := fun W => l1In_any (s.size : Int) 1 12 W
      have HV2 : Hid (V = (decide ((1 : Int) ≤ (s.size : Int)) && decide ((s.size : Int) ≤ 12))) := by
        apply Lib.hid
        rw [HV.out, ← hrun, n_end s s.size hlt]
        by_cases h : s.size = 0
        · rw [h0 h, h]; rfl
        · rw [he rfl (by omega), decide_eq_true (show (1 : Int) ≤ (s.size : Int) by omega)]; rfl
      have HL := Lib.hid hl
      clear hrun h0 hj he hl
      go_wp2_with fail
      refine (HL.out _).mono ?_
      rintro e w' ⟨rfl, rfl⟩
      go_wp2
      go_ret
      exact ⟨by rw [HV2.out]; rfl, rfl⟩

set_option maxHeartbeats 1600000 in
theorem implNameOk_any (s : ByteArray) (w : World) (_hs : s.size ≤ maxLen) :
    Calls Tryz.prog 108 #[.string s] w fun e w' => e = .returned (.bool (nameB s.data.toList)) ∧ Below w.heap.size w w' := by
  unfold maxLen at _hs
  obtain ⟨U, hU⟩ : ∃ U, nameRun s.data.toList true = U := ⟨_, rfl⟩
  have hV := nameB_size hU
  generalize nameB s.data.toList = V at *
  have HU := Lib.hid hU
  have HV := Lib.hid hV
  have hk0 : (w.iter s 0).heap[w.heap.size]? = some (.stringIter s 0) := World.iter_heap w s 0
  have hb0 : Below w.heap.size w (w.iter s 0) := (Below.refl _ w).alloc (Nat.le_refl _) _
  clear hU hV
  go_enter Tryz.func108, Tryz.ntmps108
  go_wp2
  go_loopw [3] (fun b wr => ∃ (k : Nat) (a : Bool), k ≤ s.size ∧ b = .bool a ∧ wr.heap[w.heap.size]? = some (.stringIter s k) ∧ nameRun (s.data.toList.drop k) a = U ∧ Below w.heap.size w wr)
    (fun _ wr => s.size - wr.iterPos w.heap.size)
  case atStart => exact ⟨0, true, Nat.zero_le _, rfl, hk0, HU.out, hb0⟩
  case round =>
    obtain ⟨k, a, hk, rfl, hit, hrun, hbr⟩ := hrel
    clear hk0 hb0
    have hmu := Lib.hid (iter_pos hit)
    by_cases hlt : k < s.size
    · have hbn : s[k].toNat < 256 := s[k].toNat_lt
      by_cases ha : s[k].toNat < 128
      · have hnx : ∀ ty, (Instr.next (.pointer (some ⟨w.heap.size, 0, none⟩)) true ty).run Tryz.prog wr = _ := fun ty => Lib.run_next_ascii_at wr w.heap.size s k ty hit hlt ha
        have hk1 := Lib.hid (Lib.iterAt_heap wr w.heap.size s k (k + 1) hit)
        have hb1 : Below w.heap.size w (wr.iterAt w.heap.size s (k + 1)) := Lib.below_iterAt hbr (Nat.le_refl _) s (k + 1)
        clear hit hbr
        generalize wr.iterAt w.heap.size s (k + 1) = W1 at hnx hk1 hb1
        cases hb : ((s[k].toNat : Int) == 47) with
        | true =>
          have hb2 := ne_not' hb
          obtain ⟨r1, r2⟩ := n_slash s k hlt hb
          cases a with
          | true =>
            have HV2 := Lib.hid (show V = false by rw [HV.out, ← hrun, r2]; rfl)
            clear hrun r1 r2
            go_wp2
            go_ret
            exact ⟨by rw [HV2.out]; rfl, hb1⟩
          | false =>
            have HR := Lib.hid (show nameRun (s.data.toList.drop (k + 1)) true = U by rw [← hrun, r1])
            clear hrun r1 r2
            go_wp2
            go_roundw
            case rel => exact ⟨k + 1, true, by omega, rfl, hk1.out, HR.out, hb1⟩
            case measure => rw [hmu.out, iter_pos hk1.out]; omega
        | false =>
          have hb2 := ne_yes' hb
          by_cases h1 : (s[k].toNat : Int) < 97
          · have HV2 := Lib.hid (show V = false by rw [HV.out, ← hrun, n_bad s k hlt a hb (.inl h1)]; rfl)
            clear hrun
            go_wp2
            go_ret
            exact ⟨by rw [HV2.out]; rfl, hb1⟩
          by_cases h2 : 122 < (s[k].toNat : Int)
          · have HV2 := Lib.hid (show V = false by rw [HV.out, ← hrun, n_bad s k hlt a hb (.inr h2)]; rfl)
            clear hrun
            go_wp2
            go_ret
            exact ⟨by rw [HV2.out]; rfl, hb1⟩
          have HR := Lib.hid (show nameRun (s.data.toList.drop (k + 1)) false = U by rw [← hrun, n_letter s k hlt a h1 h2])
          clear hrun
          go_wp2
          go_roundw
          case rel => exact ⟨k + 1, false, by omega, rfl, hk1.out, HR.out, hb1⟩
          case measure => rw [hmu.out, iter_pos hk1.out]; omega
      · have hnx : ∀ ty, (Instr.next (.pointer (some ⟨w.heap.size, 0, none⟩)) true ty).run Tryz.prog wr = _ := fun ty => Lib.run_next_any_at wr w.heap.size s k ty hit hlt
        have hhi := (decode_high s k hlt (by omega)).1
        have hb1 : Below w.heap.size w (wr.iterAt w.heap.size s (k + (Utf8.decode s k).2)) := Lib.below_iterAt hbr (Nat.le_refl _) s _
        clear hit hbr
        generalize wr.iterAt w.heap.size s (k + (Utf8.decode s k).2) = W1 at hnx hb1
        generalize (Utf8.decode s k).1 = r at hnx hhi
        have HV2 := Lib.hid (show V = false by rw [HV.out, ← hrun, n_bad s k hlt a (by simp; omega) (.inr (by omega))]; rfl)
        have hb : ((r : Int) == 47) = false := by simp; omega
        have hb2 := ne_yes' hb
        have h1 : ¬ (r : Int) < 97 := by omega
        have h2 : 122 < (r : Int) := by omega
        clear hrun
        go_wp2
        go_ret
        exact ⟨by rw [HV2.out]; rfl, hb1⟩
    · have hnx : ∀ ty, (Instr.next (.pointer (some ⟨w.heap.size, 0, none⟩)) true ty).run Tryz.prog wr = _ := fun ty => Lib.run_next_end_at wr w.heap.size s k ty hit hlt
      have hV2 : V = (!a && decide ((s.size : Int) ≤ 12)) := by rw [HV.out, ← hrun, n_end s k hlt]
      clear hrun hit
      cases a with
      | true =>
        have HV2 := Lib.hid (show V = false by rw [hV2]; rfl)
        clear hV2
        go_wp2
        go_ret
        exact ⟨by rw [HV2.out]; rfl, hbr⟩
      | false =>
        by_cases h : (s.size : Int) ≤ 12
        · have HV2 := Lib.hid (show V = true by rw [hV2, decide_eq_true h]; rfl)
          clear hV2
          go_wp2
          go_ret
          exact ⟨by rw [HV2.out]; rfl, hbr⟩
        · have HV2 := Lib.hid (show V = false by rw [hV2, decide_eq_false h]; rfl)
          clear hV2
          go_wp2
          go_ret
          exact ⟨by rw [HV2.out]; rfl, hbr⟩

theorem s_quote (s : ByteArray) (k : Nat) (h : k < s.size) (q : Nat) (acc : List UInt8) (hb : ((s[k].toNat : Int) == 34) = true) (h2 : ¬ 40 < (acc.length : Int)) : uqAt (s.data.toList.drop k) q acc = some (acc, q + 1) := by
  rw [drop_str s k h, uqAt_quote _ _ _ (by have := beq_iff_eq.1 hb; omega), if_neg (by omega)]
theorem s_quote_long (s : ByteArray) (k : Nat) (h : k < s.size) (q : Nat) (acc : List UInt8) (hb : ((s[k].toNat : Int) == 34) = true) (h2 : 40 < (acc.length : Int)) : uqAt (s.data.toList.drop k) q acc = none := by
  rw [drop_str s k h, uqAt_quote _ _ _ (by have := beq_iff_eq.1 hb; omega), if_pos (by omega)]
theorem s_slash (s : ByteArray) (k : Nat) (h : k < s.size) (q : Nat) (acc : List UInt8) (hb : ((s[k].toNat : Int) == 92) = true) : uqAt (s.data.toList.drop k) q acc = uqEsc (s.data.toList.drop (k + 1)) (q + 1) acc := by
  rw [drop_str s k h, uqAt_slash _ _ _ (by have := beq_iff_eq.1 hb; omega)]
theorem s_esc (s : ByteArray) (k : Nat) (h : k < s.size) (q : Nat) (acc : List UInt8) (hb : escR (s[k].toNat : Int) = true) : uqEsc (s.data.toList.drop k) q acc = uqAt (s.data.toList.drop (k + 1)) (q + 1) (acc ++ [s[k]]) := by
  rw [escR_byte] at hb
  rw [drop_str s k h, uqEsc_yes _ _ _ hb]
theorem s_esc_no (s : ByteArray) (k : Nat) (h : k < s.size) (q : Nat) (acc : List UInt8) (hb : escR (s[k].toNat : Int) = false) : uqEsc (s.data.toList.drop k) q acc = none := by
  rw [escR_byte] at hb
  rw [drop_str s k h, uqEsc_no _ _ _ hb]
theorem s_esc_end (s : ByteArray) (k : Nat) (h : ¬ k < s.size) (q : Nat) (acc : List UInt8) : uqEsc (s.data.toList.drop k) q acc = none := by
  rw [drop_str_end s k h]; rfl
theorem s_bad (s : ByteArray) (k : Nat) (h : k < s.size) (q : Nat) (acc : List UInt8) (hb : txtR (s[k].toNat : Int) = false) : uqAt (s.data.toList.drop k) q acc = none := by
  rw [txtR_byte] at hb
  rw [drop_str s k h, uqAt_bad _ _ _ hb]
theorem s_plain (s : ByteArray) (k : Nat) (h : k < s.size) (q : Nat) (acc : List UInt8) (h3 : ((s[k].toNat : Int) == 34) = false) (h4 : ((s[k].toNat : Int) == 92) = false) (hb : txtR (s[k].toNat : Int) = true) : uqAt (s.data.toList.drop k) q acc = uqAt (s.data.toList.drop (k + 1)) (q + 1) (acc ++ [s[k]]) := by
  rw [txtR_byte] at hb
  have e3 := beq_eq_false_iff_ne.1 h3
  have e4 := beq_eq_false_iff_ne.1 h4
  rw [drop_str s k h, uqAt_plain _ _ _ (by omega) (by omega) hb]
theorem s_end (s : ByteArray) (k : Nat) (h : ¬ k < s.size) (q : Nat) (acc : List UInt8) : uqAt (s.data.toList.drop k) q acc = none := by
  rw [drop_str_end s k h, uqAt_nil]
theorem escR_two {r : Int} (h : escR r = true) : (r == 34) = true ∨ (r == 34) = false ∧ (r == 92) = true := by
  unfold escR at h
  simp only [Bool.or_eq_true, decide_eq_true_eq] at h
  by_cases h1 : r = 34
  · exact .inl (by rw [h1]; rfl)
  · exact .inr ⟨by simpa using h1, by simpa using h.resolve_left h1⟩
theorem escR_none {r : Int} (h : escR r = false) : (r == 34) = false ∧ (r == 92) = false := by
  unfold escR at h
  simp only [Bool.or_eq_false_iff, decide_eq_false_iff_not] at h
  exact ⟨by simpa using h.1, by simpa using h.2⟩
theorem txtR_out {r : Int} (h : txtR r = false) : r < 32 ∨ ¬ r < 32 ∧ 126 < r := by
  by_cases h1 : r < 32
  · exact .inl h1
  by_cases h2 : 126 < r
  · exact .inr ⟨h1, h2⟩
  rw [txtR_true (by omega) (by omega)] at h; cases h
theorem txtR_two {r : Int} (h : txtR r = true) : ¬ r < 32 ∧ ¬ 126 < r := by
  constructor
  · intro h1; rw [txtR_false (by omega)] at h; cases h
  · intro h1; rw [txtR_false (by omega)] at h; cases h
theorem txtR_esc {r : Int} (h : escR r = true) : txtR r = true := by
  rcases escR_two h with h1 | ⟨_, h1⟩
  · rw [beq_iff_eq] at h1; subst h1; rfl
  · rw [beq_iff_eq] at h1; subst h1; rfl
theorem ne_not {a b : Int} (h : (a == b) = true) : (a != b) = false := by simp only [bne, h]; rfl
theorem ne_yes {a b : Int} (h : (a == b) = false) : (a != b) = true := by simp only [bne, h]; rfl

end Go.Proofs.YtbfgdbpfecffcaaGreatDoor

namespace Go.Proofs.YtbfgdbpfecffcaaGreatDoor
open Go.RowKit

theorem and_i64_nat (x : Int) (m : Nat) (hm : m ≤ 1073741823) : 0 ≤ bits .and .i64 x (m : Int) ∧ bits .and .i64 x (m : Int) ≤ m := by
  have h1 : (BitVec.ofInt 64 (m : Int)).toNat = m := by
    rw [BitVec.ofInt_natCast, BitVec.toNat_ofNat]; exact Nat.mod_eq_of_lt (by omega)
  have h2 : bits .and .i64 x (m : Int) = (((BitVec.ofInt 64 x).toNat &&& m : Nat) : Int) := by
    show IntKind.i64.wrap ((BitVec.ofInt 64 x &&& BitVec.ofInt 64 (m : Int)).toNat : Int) = _
    rw [BitVec.toNat_and, h1]
    have : (BitVec.ofInt 64 x).toNat &&& m ≤ m := Nat.and_le_right
    rw [IntKind.wrap_i64]
    omega
  have : (BitVec.ofInt 64 x).toNat &&& m ≤ m := Nat.and_le_right
  rw [h2]
  omega
theorem and255 (x : Int) : 0 ≤ bits .and .i64 x 255 ∧ bits .and .i64 x 255 ≤ 255 := and_i64_nat x 255 (by omega)

/-- Block g is a cursor over the bytes code. -/
structure Cur (w : World) (g : Nat) (code : List UInt8) : Prop where
  ex : ∃ (p : Option Addr) (cap i : Nat) (h : Int), w.cell? ⟨g, 0, none⟩ = some (.slice p code.length cap) ∧ w.cell? ⟨g, 1, none⟩ = some (.int .i64 i) ∧ w.cell? ⟨g, 2, none⟩ = some (.int .i64 h) ∧ i ≤ code.length ∧
    (code = [] ∨ ∃ b off, p = some ⟨b, off, none⟩ ∧ b < g ∧ ∀ j x, code[j]? = some x → w.cell? ⟨b, off + j, none⟩ = some (bv x))
  free : ∀ j, w.frozen? ⟨g, j, none⟩ = false
  few : code.length ≤ 1000000000000000

theorem Cur.lt {w : World} {g : Nat} {code : List UInt8} (h : Cur w g code) : g < w.heap.size := by
  obtain ⟨_, _, _, _, h0, _⟩ := h.ex
  exact World.block_lt_of_cell? w _ h0
theorem Cur.of_block {w w' : World} {g : Nat} {code : List UInt8} (h : Cur w g code) (hb : ∀ k, k < w.heap.size → w'.heap[k]? = w.heap[k]?) : Cur w' g code := by
  obtain ⟨p, cap, i, hh, h0, h1, h2, h3, h4⟩ := h.ex
  have hg := h.lt
  refine ⟨⟨p, cap, i, hh, (World.cell?_of_block (hb g hg)).trans h0, (World.cell?_of_block (hb g hg)).trans h1, (World.cell?_of_block (hb g hg)).trans h2, h3, ?_⟩, fun j => (World.frozen?_of_block (hb g hg)).trans (h.free j), h.few⟩
  rcases h4 with h4 | ⟨b, off, e1, e2, e4⟩
  · exact .inl h4
  · exact .inr ⟨b, off, e1, e2, fun j x hx => (World.cell?_of_block (hb b (by omega))).trans (e4 j x hx)⟩
theorem Cur.below {w w' : World} {g : Nat} {code : List UInt8} (h : Cur w g code) (hb : Below w.heap.size w w') : Cur w' g code := h.of_block hb.block
/-- Behind a change of younger blocks alone. -/
theorem Cur.grown {w w' : World} {g : Nat} {code : List UInt8} {row : Option Nat} (h : Cur w g code) (hg : w.grownBy w' row) (hr : ∀ k, row = some k → g < k) : Cur w' g code := by
  obtain ⟨p, cap, i, hh, h0, h1, h2, h3, h4⟩ := h.ex
  have hlt := h.lt
  have hb : ∀ k, k ≤ g → w'.heap[k]? = w.heap[k]? := fun k hk => hg.block k (by omega) (fun e => by have := hr k e.symm; omega)
  have hgb := hb g (Nat.le_refl _)
  refine ⟨⟨p, cap, i, hh, (World.cell?_of_block (a := ⟨g, 0, none⟩) hgb).trans h0, (World.cell?_of_block (a := ⟨g, 1, none⟩) hgb).trans h1, (World.cell?_of_block (a := ⟨g, 2, none⟩) hgb).trans h2, h3, ?_⟩, fun j => (World.frozen?_of_block (a := ⟨g, j, none⟩) hgb).trans (h.free j), h.few⟩
  rcases h4 with h4 | ⟨b, off, e1, e2, e4⟩
  · exact .inl h4
  · exact .inr ⟨b, off, e1, e2, fun j x hx => (World.cell?_of_block (a := ⟨b, off + j, none⟩) (hb b (by omega))).trans (e4 j x hx)⟩

theorem grown_setCell {w w' : World} {g : Nat} (h : w.grownBy w' (some g)) (j : Nat) (v : Value) : w.grownBy (w'.setCell ⟨g, j, none⟩ v) (some g) :=
  ⟨h.os, h.tape, h.output, by simpa [World.setCell] using h.size, fun k hk hne => (Below.heap_setCell w' _ _ k (by intro e; subst e; exact hne rfl)).trans (h.block k hk hne)⟩
theorem grown_drew {w w' : World} {row : Option Nat} (h : w.grownBy w' row) : w.grownBy w'.drew row := ⟨h.os, h.tape, h.output, h.size, h.block⟩

theorem addr_ne {b o o' : Nat} (h : o ≠ o') : (⟨b, o, none⟩ : Addr) ≠ ⟨b, o', none⟩ := by intro e; injection e with _ e2; exact h e2
theorem addr_ne' {b b' o o' : Nat} (h : b ≠ b') : (⟨b, o, none⟩ : Addr) ≠ ⟨b', o', none⟩ := by intro e; injection e with e1; exact h e1
theorem size_setCell (w : World) (a : Addr) (v : Value) : (w.setCell a v).heap.size = w.heap.size := by simp [World.setCell]

theorem Cur.setH {w : World} {g : Nat} {code : List UInt8} (hc : Cur w g code) (h' : Int) : Cur (w.setCell ⟨g, 2, none⟩ (.int .i64 h')) g code := by
  obtain ⟨p, cap, i, hh, h0, h1, h2, h3, h4⟩ := hc.ex
  refine ⟨⟨p, cap, i, h', (World.cell?_setCell_other w _ _ _ (addr_ne (by omega))).trans h0, (World.cell?_setCell_other w _ _ _ (addr_ne (by omega))).trans h1, World.cell?_setCell_same w _ _ h2, h3, ?_⟩, fun j => by simpa using hc.free j, hc.few⟩
  rcases h4 with h4 | ⟨b, off, e1, e2, e4⟩
  · exact .inl h4
  · exact .inr ⟨b, off, e1, e2, fun j x hx => (World.cell?_setCell_other w _ _ _ (addr_ne' (by omega))).trans (e4 j x hx)⟩
theorem Cur.setI {w : World} {g : Nat} {code : List UInt8} (hc : Cur w g code) (i' : Nat) (hi : i' ≤ code.length) : Cur (w.setCell ⟨g, 1, none⟩ (.int .i64 i')) g code := by
  obtain ⟨p, cap, i, hh, h0, h1, h2, h3, h4⟩ := hc.ex
  refine ⟨⟨p, cap, i', hh, (World.cell?_setCell_other w _ _ _ (addr_ne (by omega))).trans h0, World.cell?_setCell_same w _ _ h1, (World.cell?_setCell_other w _ _ _ (addr_ne (by omega))).trans h2, hi, ?_⟩, fun j => by simpa using hc.free j, hc.few⟩
  rcases h4 with h4 | ⟨b, off, e1, e2, e4⟩
  · exact .inl h4
  · exact .inr ⟨b, off, e1, e2, fun j x hx => (World.cell?_setCell_other w _ _ _ (addr_ne' (by omega))).trans (e4 j x hx)⟩
theorem Cur.drew {w : World} {g : Nat} {code : List UInt8} (hc : Cur w g code) : Cur w.drew g code := ⟨hc.ex, hc.free, hc.few⟩

def BytePost (g : Nat) (code : List UInt8) (w : World) (e : Ending) (w' : World) : Prop := ∃ x : Nat, e = .returned (.int .i64 x) ∧ x ≤ 255 ∧ Cur w' g code ∧ w.grownBy w' (some g)
theorem BytePost.mk {g : Nat} {code : List UInt8} {w w' : World} {v : Int} (h0 : 0 ≤ v) (h1 : v ≤ 255) (hc : Cur w' g code) (hg : w.grownBy w' (some g)) : BytePost g code w (.returned (.int .i64 v)) w' :=
  ⟨v.toNat, by rw [Int.toNat_of_nonneg h0], by omega, hc, hg⟩

set_option maxHeartbeats 800000 in
theorem l1Byte_any (g : Nat) (code : List UInt8) (w : World) (hc : Cur w g code) :
    Calls Tryz.prog 119 #[.pointer (some ⟨g, 0, none⟩)] w fun e w' => BytePost g code w e w' := by
  obtain ⟨p0, cap0, i0, hh0, h0, h1, h2, h3, h4⟩ := hc.ex
  have hf := hc.few
  have f2 := hc.free 2
  have HC := Lib.hid hc
  clear h4 hc h0 h1 h3
  go_enter Tryz.func119, Tryz.ntmps119
  go_wp2
  generalize wrap64 (wrap64 (hh0 * 6364136223846793005) + 1442695040888963407) = hv
  have hc1 := HC.out.setH hv
  have hg1 : w.grownBy (w.setCell ⟨g, 2, none⟩ (.int .i64 hv)) (some g) := grown_setCell (World.grownBy.refl _ _) 2 _
  generalize w.setCell ⟨g, 2, none⟩ (.int .i64 hv) = w1 at *
  clear h2 f2 HC
  obtain ⟨p, cap, i, hh, h0, h1, h2, h3, h4⟩ := hc1.ex
  have f1 := hc1.free 1
  have H4 := Lib.hid h4
  have HC := Lib.hid hc1
  clear h4 hc1
  refine ord_start [(0, true), (1, true), (2, true), (3, true), (4, true), (5, true), (6, true), (7, true), (8, true), (9, true), (10, true), (11, true), (12, true)] (fun W => W.cell? ⟨g, 2, none⟩ = some (.int .i64 hh)) (by kernel_rfl) (by kernel_rfl) rfl (by kernel_rfl) ?_
  intro ops' hops
  clear hops
  simp only [List.map_cons, List.map_nil, pickOp_zero, pickOp_succ]
  iterate 13 (refine ord_flo ?_ (fun _ _ _ h => h) rfl ?_ h2 ?_; rotate_left; focus (intro W hS; obtain s1 := hS; go_simp; rfl))
  refine ord_done ?_
  go_simp
  generalize hx : bits BinOp.and IntKind.i64 _ 255 = x
  have hx0 : 0 ≤ x ∧ x ≤ 255 := by rw [← hx]; exact and255 _
  obtain ⟨hx1, hx2⟩ := hx0
  clear hx
  go_wp2
  refine ord_start [(0, true), (1, true), (2, true), (3, true), (4, true), (5, true), (6, true), (7, true), (8, true), (9, true)] (fun W => W.cell? ⟨g, 0, none⟩ = some (.slice p code.length cap) ∧ W.cell? ⟨g, 1, none⟩ = some (.int .i64 i)) (by kernel_rfl) (by kernel_rfl) rfl (by kernel_rfl) ?_
  intro ops' hops
  clear hops
  simp only [List.map_cons, List.map_nil, pickOp_zero, pickOp_succ]
  iterate 10 (refine ord_flo ?_ (fun _ _ _ h => h) rfl ?_ ⟨h0, h1⟩ ?_; rotate_left; focus (intro W hS; obtain ⟨s1, s2⟩ := hS; go_simp; rfl))
  refine ord_done ?_
  go_simp
  by_cases hlt : i < code.length
  · obtain ⟨b, off, rfl, hb1, hcell⟩ := H4.out.resolve_left (by intro h; subst h; simp at hlt)
    obtain ⟨y, hy⟩ : ∃ y, code[i]? = some y := ⟨_, List.getElem?_eq_getElem hlt⟩
    have e1 : w1.cell? ⟨b, off + i, none⟩ = some (.int .u8 (y.toNat : Int)) := hcell i y hy
    have hy2 : y.toNat < 256 := y.toNat_lt
    clear hcell hy H4 h2
    go_wp2
    refine ord_start [(0, true), (1, true), (2, true), (3, true), (4, true), (5, true), (6, true), (7, true), (8, true), (9, true), (10, true), (11, true), (12, true), (13, true), (14, true)] (fun W => W.cell? ⟨g, 0, none⟩ = some (.slice (some ⟨b, off, none⟩) code.length cap) ∧ W.cell? ⟨g, 1, none⟩ = some (.int .i64 i) ∧ W.cell? ⟨b, off + i, none⟩ = some (.int .u8 (y.toNat : Int))) (by kernel_rfl) (by kernel_rfl) rfl (by kernel_rfl) ?_
    intro ops' hops
    clear hops
    simp only [List.map_cons, List.map_nil, pickOp_zero, pickOp_succ]
    iterate 15 (refine ord_flo ?_ (fun _ _ _ h => h) rfl ?_ ⟨h0, h1, e1⟩ ?_; rotate_left; focus (intro W hS; obtain ⟨s1, s2, s3⟩ := hS; go_simp; rfl))
    refine ord_done ?_
    go_simp
    generalize hx : bits BinOp.and IntKind.i64 _ 255 = x'
    have hx0 : 0 ≤ x' ∧ x' ≤ 255 := by rw [← hx]; exact and255 _
    obtain ⟨hx3, hx4⟩ := hx0
    clear hx
    have hcI := Lib.hid (HC.out.setI (i + 1) (by omega))
    have hgI := Lib.hid (grown_setCell hg1 1 (.int .i64 ((i + 1 : Nat) : Int)))
    go_wp2
    go_ret
    exact BytePost.mk hx3 hx4 hcI.out.drew.drew.drew (grown_drew (grown_drew (grown_drew hgI.out)))
  · go_wp2
    go_ret
    exact BytePost.mk hx1 hx2 HC.out.drew.drew (grown_drew (grown_drew hg1))

theorem Rd1.grownG {w w' : World} {g : Nat} {α : Type} {enc : α → Value} {v : Value} {l : List α} (hr : Rd1 enc w v l) (hg : w.grownBy w' (some g)) (hne : ∀ b off c n, v = .slice (some ⟨b, off, none⟩) n c → b ≠ g) : Rd1 enc w' v l := by
  obtain ⟨p, cap, hv, h | ⟨b, off, hp, hlt, hc⟩⟩ := hr.ex
  · exact ⟨p, cap, hv, .inl h⟩
  · subst hp
    have hb := hne b off cap _ hv
    exact ⟨_, cap, hv, .inr ⟨b, off, rfl, Nat.lt_of_lt_of_le hlt hg.size, fun i x hx => (World.cell?_of_block (a := ⟨b, off + i, none⟩) (hg.block b hlt (by intro e; injection e with e; exact hb e))).trans (hc i x hx)⟩⟩

/-- What l1Below hands back: a number below n. -/
def BelowPost (g : Nat) (code : List UInt8) (n : Nat) (w : World) (e : Ending) (w' : World) : Prop := ∃ x : Nat, e = .returned (.int .i64 x) ∧ x < n ∧ Cur w' g code ∧ w.grownBy w' (some g)

set_option maxHeartbeats 800000 in
theorem l1Below_any (g : Nat) (code : List UInt8) (k : Int) (n : Nat) (hk : k = (n : Int)) (w : World) (hc : Cur w g code) (h0 : 0 < n) (h1 : n ≤ 4000000000) :
    Calls Tryz.prog 77 #[.pointer (some ⟨g, 0, none⟩), .int .i64 k] w fun e w' => BelowPost g code n w e w' := by
  subst hk
  have hl0 : ¬ (n : Int) ≤ 0 := by omega
  have HC := Lib.hid hc
  clear hc
  by_cases hsm : n ≤ 256
  · have hl1 : (n : Int) ≤ 256 := by omega
    go_enter Tryz.func77, Tryz.ntmps77
    go_wp2_with fail
    refine (l1Byte_any g code _ HC.out).mono ?_
    rintro e w1 ⟨x, rfl, hx, hc1, hg1⟩
    have hm : ((x : Int)).tmod (n : Int) = ((x % n : Nat) : Int) := by rw [Int.tmod_eq_emod_of_nonneg (by omega)]; omega
    have hne : ¬ (n : Int) = 0 := by omega
    have Hx := Lib.hid (Nat.mod_lt x h0)
    go_wp2
    go_ret
    exact ⟨x % n, rfl, Hx.out, hc1, hg1⟩
  · have hl1 : ¬ (n : Int) ≤ 256 := by omega
    go_enter Tryz.func77, Tryz.ntmps77
    go_wp2_with fail
    refine (l1Byte_any g code _ HC.out).mono ?_
    rintro e w1 ⟨x, rfl, hx, hc1, hg1⟩
    go_wp2_with fail
    refine (l1Byte_any g code _ hc1).mono ?_
    rintro e w2 ⟨y, rfl, hy, hc2, hg2⟩
    go_wp2_with fail
    refine (l1Byte_any g code _ hc2).mono ?_
    rintro e w3 ⟨z, rfl, hz, hc3, hg3⟩
    go_wp2_with fail
    refine (l1Byte_any g code _ hc3).mono ?_
    rintro e w4 ⟨q, rfl, hq, hc4, hg4⟩
    have hm : ((x : Int) * 16777216 + (y : Int) * 65536 + (z : Int) * 256 + (q : Int)).tmod (n : Int) = (((x * 16777216 + y * 65536 + z * 256 + q) % n : Nat) : Int) := by
      rw [Int.tmod_eq_emod_of_nonneg (by omega), Int.natCast_emod]
      congr 1
    have hne : ¬ (n : Int) = 0 := by omega
    have Hx := Lib.hid (Nat.mod_lt (x * 16777216 + y * 65536 + z * 256 + q) h0)
    have hg := grown_grown hg1 (grown_grown hg2 (grown_grown hg3 hg4))
    clear hg1 hg2 hg3 hg4 hc1 hc2 hc3
    go_wp2
    go_ret
    exact ⟨_, rfl, Hx.out, hc4, hg⟩

theorem l1Once_any (g : Nat) (code : List UInt8) (k : Int) (n : Nat) (hk : k = (n : Int)) (w : World) (hc : Cur w g code) (h0 : 0 < n) (h1 : n ≤ 4000000000) :
    Calls Tryz.prog 79 #[.pointer (some ⟨g, 0, none⟩), .int .i64 k] w fun e w' => ∃ b : Bool, e = .returned (.bool b) ∧ Cur w' g code ∧ w.grownBy w' (some g) := by
  have HK := Lib.hid hk
  clear hk
  go_enter Tryz.func79, Tryz.ntmps79
  go_wp2_with fail
  refine (l1Below_any g code k n HK.out _ hc h0 h1).mono ?_
  rintro e w1 ⟨x, rfl, hx, hc1, hg1⟩
  go_wp2
  go_ret
  exact ⟨_, rfl, hc1, hg1⟩

/-- The value is a slice whose block is not g. -/
def Apart (v : Value) (g : Nat) : Prop := ∀ b off c n, v = .slice (some ⟨b, off, none⟩) n c → b ≠ g

def PickPost (g : Nat) (code : List UInt8) (l : List (List UInt8)) (w : World) (e : Ending) (w' : World) : Prop := ∃ x, e = .returned (sv x) ∧ x ∈ l ∧ Cur w' g code ∧ w.grownBy w' (some g)

set_option maxHeartbeats 400000 in
theorem l1Pick_any (g : Nat) (code : List UInt8) (v : Value) (l : List (List UInt8)) (w : World) (hc : Cur w g code) (hr : Rd1 sv w v l) (hap : Apart v g) (h0 : 0 < l.length) (h1 : l.length ≤ 4000000000) :
    Calls Tryz.prog 130 #[.pointer (some ⟨g, 0, none⟩), v] w fun e w' => PickPost g code l w e w' := by
  obtain ⟨p, c, rfl, hp⟩ := hr.ex
  have HR := Lib.hid hr
  have HA := Lib.hid hap
  have HC := Lib.hid hc
  obtain ⟨b, off, rfl, hb1, hcell⟩ := hp.resolve_left (by intro h; subst h; simp at h0)
  clear hr hap hc hcell hp
  go_enter Tryz.func130, Tryz.ntmps130
  go_wp2_with fail
  refine (l1Below_any g code _ l.length rfl _ HC.out h0 h1).mono ?_
  rintro e w1 ⟨x, rfl, hx, hc1, hg1⟩
  have hr1 := Rd1.grownG HR.out hg1 HA.out
  obtain ⟨p2, c2, hv2, hp2⟩ := hr1.ex
  obtain ⟨b2, off2, e2, hb2, hcell2⟩ := hp2.resolve_left (by intro h; subst h; simp at h0)
  subst e2
  injection hv2 with e3 e4 e5
  injection e3 with e3
  injection e3 with e6 e7
  subst e6
  subst e7
  obtain ⟨y, hy⟩ : ∃ y, l[x]? = some y := ⟨_, List.getElem?_eq_getElem hx⟩
  have hcy : w1.cell? ⟨b, off + x, none⟩ = some (sv y) := hcell2 x y hy
  have Hy := Lib.hid (List.mem_of_getElem? hy)
  clear hcell2 hy hp2 hr1 e5
  go_wp2
  go_ret
  exact ⟨y, rfl, Hy.out, hc1, hg1⟩

def PickIntPost (g : Nat) (code : List UInt8) (l : List Int) (w : World) (e : Ending) (w' : World) : Prop := ∃ x, e = .returned (.int .i64 x) ∧ x ∈ l ∧ Cur w' g code ∧ w.grownBy w' (some g)

set_option maxHeartbeats 400000 in
theorem l1PickInt_any (g : Nat) (code : List UInt8) (v : Value) (l : List Int) (w : World) (hc : Cur w g code) (hr : Rd1 (Value.int .i64) w v l) (hap : Apart v g) (h0 : 0 < l.length) (h1 : l.length ≤ 4000000000) :
    Calls Tryz.prog 83 #[.pointer (some ⟨g, 0, none⟩), v] w fun e w' => PickIntPost g code l w e w' := by
  obtain ⟨p, c, rfl, hp⟩ := hr.ex
  have HR := Lib.hid hr
  have HA := Lib.hid hap
  have HC := Lib.hid hc
  obtain ⟨b, off, rfl, hb1, hcell⟩ := hp.resolve_left (by intro h; subst h; simp at h0)
  clear hr hap hc hcell hp
  go_enter Tryz.func83, Tryz.ntmps83
  go_wp2_with fail
  refine (l1Below_any g code _ l.length rfl _ HC.out h0 h1).mono ?_
  rintro e w1 ⟨x, rfl, hx, hc1, hg1⟩
  have hr1 := Rd1.grownG HR.out hg1 HA.out
  obtain ⟨p2, c2, hv2, hp2⟩ := hr1.ex
  obtain ⟨b2, off2, e2, hb2, hcell2⟩ := hp2.resolve_left (by intro h; subst h; simp at h0)
  subst e2
  injection hv2 with e3 e4 e5
  injection e3 with e3
  injection e3 with e6 e7
  subst e6
  subst e7
  obtain ⟨y, hy⟩ : ∃ y, l[x]? = some y := ⟨_, List.getElem?_eq_getElem hx⟩
  have hcy : w1.cell? ⟨b, off + x, none⟩ = some (.int .i64 y) := hcell2 x y hy
  have Hy := Lib.hid (List.mem_of_getElem? hy)
  clear hcell2 hy hp2 hr1 e5
  go_wp2
  go_ret
  exact ⟨y, rfl, Hy.out, hc1, hg1⟩

theorem grown_young {w w1 w2 : World} {row row' : Option Nat} (h : w.grownBy w1 row) (hg : w1.grownBy w2 row') (hr : ∀ k, row' = some k → w.heap.size ≤ k) : w.grownBy w2 row :=
  ⟨hg.os.trans h.os, hg.tape.trans h.tape, hg.output.trans h.output, Nat.le_trans h.size hg.size, fun k hk hne => (hg.block k (Nat.lt_of_lt_of_le hk h.size) (fun e => by have := hr k e.symm; omega)).trans (h.block k hk hne)⟩
theorem grown_of_below {w w1 : World} {row : Option Nat} (h : Below w.heap.size w w1) : w.grownBy w1 row := ⟨h.os, h.tape, h.output, h.size, fun k hk _ => h.block k hk⟩
/-- A cursor that was made since: its changes are none of the old memory. -/
theorem below_cur {W w w1 : World} {g B : Nat} (h : Below B W w) (hg : w.grownBy w1 (some g)) (hB : B ≤ w.heap.size) (hgB : B ≤ g) : Below B W w1 := h.grown hg hB (fun k hk => by injection hk with hk; omega)

theorem and_big (x : Int) : 0 ≤ bits .and .i64 x 1073741823 ∧ bits .and .i64 x 1073741823 ≤ 2000000000 := by
  obtain ⟨h1, h2⟩ := and_i64_nat x 1073741823 (by omega)
  exact ⟨h1, Int.le_trans h2 (by omega)⟩

set_option maxRecDepth 20000 in
set_option maxHeartbeats 400000 in
theorem l1New_any (v : Value) (code : List UInt8) (w : World) (hr : Rd1 bv w v code) (hl : code.length ≤ 1048576) :
    Calls Tryz.prog 75 #[v] w fun e w' => ∃ g, e = .returned (.pointer (some ⟨g, 0, none⟩)) ∧ w.heap.size ≤ g ∧ Cur w' g code ∧ Below w.heap.size w w' := by
  obtain ⟨p, c, rfl, hp⟩ := hr.ex
  have HP := Lib.hid hp
  clear hp hr
  go_enter Tryz.func75, Tryz.ntmps75
  go_wp2
  go_loopw [3, 4] (fun h i wr => ∃ (k : Nat) (hv : Int), k ≤ code.length ∧ i = .int .i64 k ∧ h = .int .i64 hv ∧ 0 ≤ hv ∧ hv ≤ 2000000000 ∧ Below w.heap.size w wr) (fun _ i _ => code.length - (intOf i).toNat)
  case atStart => exact ⟨0, _, by omega, rfl, rfl, by omega, by omega, Below.refl _ _⟩
  case round =>
    obtain ⟨k, hv, hk, rfl, rfl, h0, h1, hbr⟩ := hrel
    have hbr0 := hbr.size
    by_cases hlt : k < code.length ∧ k < 4000
    · obtain ⟨hl1, hl2⟩ := hlt
      obtain ⟨b, off, rfl, hb1, hcell⟩ := HP.out.resolve_left (by intro h; subst h; simp at hl1)
      obtain ⟨y, hy⟩ : ∃ y, code[k]? = some y := ⟨_, List.getElem?_eq_getElem hl1⟩
      have e1 : wr.cell? ⟨b, off + k, none⟩ = some (.int .u8 (y.toNat : Int)) := (hbr.cell (p := ⟨b, off + k, none⟩) hb1).trans (hcell k y hy)
      have hy2 : y.toNat < 256 := y.toNat_lt
      clear hcell hy HP
      go_wp2
      go_roundw
      case rel => exact ⟨k + 1, _, by omega, by go_num, rfl, (and_big _).1, (and_big _).2, hbr⟩
      case measure => simp [intOf]; omega
    · have hfin : ∀ (W : World), Below w.heap.size w W → w.heap.size ≤ W.heap.size → Cur (W.alloc (.cells #[.slice p code.length c, .int .i64 ((0 : Nat) : Int), .int .i64 hv] 132)) W.heap.size code := by
        intro W hW hs
        refine ⟨⟨p, c, 0, hv, by simp [go_sem], by simp [go_sem], by simp [go_sem], by omega, ?_⟩, fun j => by simp [go_sem], by omega⟩
        rcases HP.out with h | ⟨b, off, e1, e2, e3⟩
        · exact .inl h
        · refine .inr ⟨b, off, e1, by omega, fun j x hx => ?_⟩
          rw [World.cell?_alloc_lt W _ _ (by show b < W.heap.size; omega)]
          exact (hW.cell (p := ⟨b, off + j, none⟩) e2).trans (e3 j x hx)
      have HF := Lib.hid hfin
      have hq : ¬ ((k : Int) < (code.length : Int)) ∨ (k : Int) < (code.length : Int) ∧ ¬ (k : Int) < 4000 := by omega
      clear hfin hlt
      rcases hq with hq | ⟨hq, hq2⟩
      all_goals
        go_wp2
        go_ret
        exact ⟨wr.heap.size, rfl, hbr0, HF.out wr hbr hbr0, hbr.alloc hbr0 _⟩

def BytesPost (g : Nat) (code : List UInt8) (n : Nat) (w : World) (e : Ending) (w' : World) : Prop := ∃ (v : Value) (l : List UInt8), e = .returned v ∧ l.length = n ∧ w'.ownsRow w.heap.size 5 1 v n (l.map bv) ∧ Cur w' g code ∧ w.grownBy w' (some g)

set_option maxHeartbeats 800000 in
theorem l1Bytes_any (g : Nat) (code : List UInt8) (n : Nat) (w : World) (hc : Cur w g code) (hn : n ≤ 1000000) :
    Calls Tryz.prog 148 #[.pointer (some ⟨g, 0, none⟩), .int .i64 n] w fun e w' => BytesPost g code n w e w' := by
  have hg0 := hc.lt
  go_enter Tryz.func148, Tryz.ntmps148
  go_wp2
  go_loopw [5, 6] (fun v i wr => ∃ (k : Nat) (l : List UInt8), k ≤ n ∧ i = .int .i64 k ∧ l.length = k ∧ wr.ownsRow w.heap.size 5 1 v k (l.map bv) ∧ Cur wr g code ∧ w.grownBy wr (some g)) (fun _ i _ => n - (intOf i).toNat)
  case atStart => exact ⟨0, [], by omega, rfl, rfl, by simpa using World.ownsRow_made w #[] 0 (Nat.le_refl _) (by unfold maxLen; omega) rfl, hc.grown (World.grownBy_alloc w _ none) (fun k hk => by cases hk), World.grownBy_alloc w _ _⟩
  case round =>
    obtain ⟨k, l, hk, rfl, hlen, hown, hcr, hgr⟩ := hrel
    have hz := hgr.size
    have HL := Lib.hid hlen
    clear hlen hc
    by_cases hlt : k < n
    · go_wp2_with fail
      refine (l1Byte_any g code _ hcr).mono ?_
      rintro e w1 ⟨x, rfl, hx, hc1, hg1⟩
      have hz1 := hg1.size
      have ho1 : w1.ownsRow w.heap.size 5 1 u5 k (l.map bv) := hown.kept hg1 (by
        by_cases hv1 : u5.ownBlock = none
        · exact .inl hv1
        · right
          intro e
          have q2 := (hown.lt g e).1
          omega)
      have hgw := grown_grown hgr hg1
      clear hown hcr hgr hg1
      go_wp2_with (at_builtin; refine wpList_app1 Tryz.el_u8 rfl (.tmp 13) (.tmp 17) rfl w1 w1 u5 k _ rfl ho1 (Below.refl _ _) (by omega) _ (.inr rfl) 1 1 rfl rfl (by simp [Value.oneCell']) (by omega) (by omega) (by omega) ?_)
      intro g2 cap w' hown' _ hg2 _ _
      have hlo : ∀ j, u5.ownBlock = some j → w.heap.size ≤ j := fun j hj => (ho1.lt j hj).1
      have hc2 := hc1.grown hg2 (fun j hj => by have := hlo j hj; omega)
      have hgw2 := grown_young hgw hg2 hlo
      clear ho1 hc1 hgw hg2
      go_wp2
      go_roundw
      case rel =>
        refine ⟨k + 1, l ++ [UInt8.ofNat x], by omega, by go_num, by rw [List.length_append, HL.out]; rfl, ?_, hc2, hgw2⟩
        rw [List.map_append, List.map_singleton, bv_ofNat (by omega)]
        exact hown'
      case measure => simp [intOf]; omega
    · obtain rfl : k = n := by omega
      go_wp2
      go_ret
      exact ⟨_, l, rfl, HL.out, hown, hcr, hgr⟩

/-- A slice of strings that was just written out. -/
theorem Rd1_lit {α : Type} {enc : α → Value} {W : World} {b n c : Nat} {cs : Array Value} {e : TypeId} (l : List α) (h : W.heap[b]? = some (.cells cs e (0, 0))) (hcs : cs.toList = l.map enc) (hn : l.length = n) : Rd1 enc W (.slice (some ⟨b, 0, none⟩) n c) l := by
  subst hn
  refine ⟨_, c, rfl, .inr ⟨b, 0, rfl, (Array.getElem?_eq_some_iff.1 h).1, fun i x hx => ?_⟩⟩
  rw [Nat.zero_add, cell_of_row W b i cs e (0, 0) h, ← Array.getElem?_toList, hcs, List.getElem?_map, hx]
  rfl
theorem Apart_new {b n c g : Nat} (h : g < b) : Apart (.slice (some ⟨b, 0, none⟩) n c) g := by
  intro b' off c' n' e
  injection e with e
  injection e with e
  injection e with e
  omega

theorem big_any (v : Value) (l : List UInt8) (w : World) (hr : Rd1 bv w v l) :
    Calls Tryz.prog 16 #[v] w fun e w' => e = .returned (.bool (decide ((1048576 : Int) < (l.length : Int)))) ∧ w = w' := by
  obtain ⟨p, c, rfl, _⟩ := hr.ex
  clear hr
  go_enter Tryz.func16, Tryz.ntmps16
  go_wp2
  go_ret
  exact ⟨rfl, rfl⟩

theorem grown_trans {w a b : World} {row : Option Nat} (h : w.grownBy a row) (k : a.grownBy b row) : w.grownBy b row :=
  ⟨k.os.trans h.os, k.tape.trans h.tape, k.output.trans h.output, Nat.le_trans h.size k.size, fun i hi hne => (k.block i (Nat.lt_of_lt_of_le hi h.size) hne).trans (h.block i hi hne)⟩
def in64 (n : Int) : Prop := -9223372036854775808 ≤ n ∧ n ≤ 9223372036854775807
/-- Some int was drawn. -/
def WholeG (g : Nat) (code : List UInt8) (w : World) (e : Ending) (w' : World) : Prop := ∃ n : Int, e = .returned (.int .i64 n) ∧ in64 n ∧ Cur w' g code ∧ w.grownBy w' (some g)
theorem drawnWhole : ∀ x ∈ ([0, 1, -1, 9, 10, 999999999, 1000000000, 9223372036854775807, -9223372036854775808] : List Int), -9223372036854775808 ≤ x ∧ x ≤ 9223372036854775807 := by decide

set_option maxRecDepth 20000 in
set_option maxHeartbeats 800000 in
theorem l1Whole_grown (g : Nat) (code : List UInt8) (w : World) (hc : Cur w g code) :
    Calls Tryz.prog 135 #[.pointer (some ⟨g, 0, none⟩)] w fun e w' => WholeG g code w e w' := by
  go_enter Tryz.func135, Tryz.ntmps135
  go_wp2_with fail
  refine (l1Below_any g code _ 3 (by omega) _ hc (by omega) (by omega)).mono ?_
  rintro e w1 ⟨x, rfl, hx, hc1, hg1⟩
  have hlt1 := hc1.lt
  by_cases hx0 : x = 0
  · subst hx0
    clear hx
    go_wp2_with fail
    refine (l1PickInt_any g code _ [0, 1, -1, 9, 10, 999999999, 1000000000, 9223372036854775807, -9223372036854775808] _ (hc1.below ((Below.refl _ _).alloc (Nat.le_refl _) _)) (Rd1_lit (b := w1.heap.size) _ (heap_alloc_new w1 _) rfl rfl) (Apart_new hlt1) (by simp) (by simp)).mono ?_
    rintro e w2 ⟨y, rfl, hy, hc2, hg2⟩
    have hy2 := drawnWhole y hy
    have hF : w.grownBy w2 (some g) := grown_trans hg1 (grown_trans (World.grownBy_alloc w1 _ (some g)) hg2)
    clear hy hc1 hg1 hg2 hc
    go_wp2
    go_ret
    exact ⟨y, rfl, hy2, hc2, hF⟩
  · have hx0' : ((x : Int) == 0) = false := by simp; omega
    by_cases hx1 : x = 1
    · subst hx1
      clear hx
      go_wp2_with fail
      refine (l1Below_any g code _ 1000000 (by omega) _ hc1 (by omega) (by omega)).mono ?_
      rintro e w2 ⟨y, rfl, hy, hc2, hg2⟩
      have hF : w.grownBy w2 (some g) := grown_trans hg1 hg2
      clear hc1 hg1 hg2 hc
      go_wp2
      go_ret
      exact ⟨_, rfl, ⟨by omega, by omega⟩, hc2, hF⟩
    · have hx1' : ((x : Int) == 1) = false := by simp; omega
      go_wp2_with fail
      refine (l1Below_any g code _ 20 (by omega) _ hc1 (by omega) (by omega)).mono ?_
      rintro e w2 ⟨y, rfl, hy, hc2, hg2⟩
      have hF : w.grownBy w2 (some g) := grown_trans hg1 hg2
      clear hc1 hg1 hg2 hc
      go_wp2
      go_ret
      exact ⟨_, rfl, ⟨by omega, by omega⟩, hc2, hF⟩

def DrewPost (n : Nat) (g : Nat) (code : List UInt8) (w : World) (e : Ending) (w' : World) : Prop := ∃ t : List UInt8, e = .returned (sv t) ∧ t.length ≤ n ∧ Cur w' g code ∧ w.grownBy w' (some g)

set_option maxHeartbeats 400000 in
theorem l2Name_any (g : Nat) (code : List UInt8) (w : World) (hc : Cur w g code) :
    Calls Tryz.prog 120 #[.pointer (some ⟨g, 0, none⟩)] w fun e w' => DrewPost 41 g code w e w' := by
  have hlt := hc.lt
  have HC := Lib.hid hc
  clear hc
  go_enter Tryz.func120, Tryz.ntmps120
  go_wp2_with fail
  refine (l1Pick_any g code _ [[105, 110, 98, 111, 120], [97], [97, 47, 98], [97, 98], [105, 110, 98, 111, 120, 47, 120], [97], [105, 110, 98, 111, 120]] _ (HC.out.below ((Below.refl _ _).alloc (Nat.le_refl _) _)) (Rd1_lit (b := w.heap.size) _ (heap_alloc_new w _) rfl rfl) (Apart_new hlt) (by simp) (by simp)).mono ?_
  rintro e w1 ⟨t, rfl, ht, hc1, hg1⟩
  have hl : ∀ x ∈ [[105, 110, 98, 111, 120], [97], [97, 47, 98], [97, 98], [105, 110, 98, 111, 120, 47, 120], [97], ([105, 110, 98, 111, 120] : List UInt8)], x.length ≤ 41 := by decide
  have htl := hl t ht
  have hg := grown_grown (World.grownBy_alloc w _ (some g)) hg1
  clear ht hl hg1
  go_wp2
  go_ret
  exact ⟨t, rfl, htl, hc1, hg⟩

set_option maxHeartbeats 800000 in
theorem l2Any_any (g : Nat) (code : List UInt8) (w : World) (hc : Cur w g code) :
    Calls Tryz.prog 129 #[.pointer (some ⟨g, 0, none⟩)] w fun e w' => DrewPost 41 g code w e w' := by
  have HC := Lib.hid hc
  clear hc
  go_enter Tryz.func129, Tryz.ntmps129
  go_wp2_with fail
  refine (l1Below_any g code _ 4 (by omega) _ HC.out (by omega) (by omega)).mono ?_
  rintro e w1 ⟨x, rfl, hx, hc1, hg1⟩
  have hlt1 := hc1.lt
  clear HC
  by_cases h0 : x = 0
  · subst h0
    go_wp2_with fail
    refine (l1Pick_any g code _ [[], [47], [97, 47], [47, 97], [97, 47, 47, 98], [65], [97, 98, 99, 100, 101, 102, 103, 104, 105, 106, 107, 108], [97, 98, 99, 100, 101, 102, 103, 104, 105, 106, 107, 108, 109], [97, 32, 98], [97, 34, 98], [92], [120, 40, 121], [0], [49, 50, 51, 52, 53, 54, 55, 56, 57, 48, 49, 50, 51, 52, 53, 54, 55, 56, 57, 48, 49, 50, 51, 52, 53, 54, 55, 56, 57, 48, 49, 50, 51, 52, 53, 54, 55, 56, 57, 48], [49, 50, 51, 52, 53, 54, 55, 56, 57, 48, 49, 50, 51, 52, 53, 54, 55, 56, 57, 48, 49, 50, 51, 52, 53, 54, 55, 56, 57, 48, 49, 50, 51, 52, 53, 54, 55, 56, 57, 48, 49], [127], [126]] _ (hc1.below ((Below.refl _ _).alloc (Nat.le_refl _) _)) (Rd1_lit (b := w1.heap.size) _ (heap_alloc_new w1 _) rfl rfl) (Apart_new hlt1) (by simp) (by simp)).mono ?_
    rintro e w2 ⟨t, rfl, ht, hc2, hg2⟩
    have hl : ∀ x ∈ ([[], [47], [97, 47], [47, 97], [97, 47, 47, 98], [65], [97, 98, 99, 100, 101, 102, 103, 104, 105, 106, 107, 108], [97, 98, 99, 100, 101, 102, 103, 104, 105, 106, 107, 108, 109], [97, 32, 98], [97, 34, 98], [92], [120, 40, 121], [0], [49, 50, 51, 52, 53, 54, 55, 56, 57, 48, 49, 50, 51, 52, 53, 54, 55, 56, 57, 48, 49, 50, 51, 52, 53, 54, 55, 56, 57, 48, 49, 50, 51, 52, 53, 54, 55, 56, 57, 48], [49, 50, 51, 52, 53, 54, 55, 56, 57, 48, 49, 50, 51, 52, 53, 54, 55, 56, 57, 48, 49, 50, 51, 52, 53, 54, 55, 56, 57, 48, 49, 50, 51, 52, 53, 54, 55, 56, 57, 48, 49], [127], [126]] : List (List UInt8)), x.length ≤ 41 := by decide
    have htl := hl t ht
    have hg := grown_grown hg1 (grown_grown (World.grownBy_alloc w1 _ (some g)) hg2)
    clear ht hl hg1 hg2 hc1
    go_wp2
    go_ret
    exact ⟨t, rfl, htl, hc2, hg⟩
  · have hb0 : ((x : Int) == 0) = false := by simp; omega
    by_cases h1 : x = 1
    · subst h1
      go_wp2_with fail
      refine (l1Below_any g code _ 4 (by omega) _ hc1 (by omega) (by omega)).mono ?_
      rintro e w2 ⟨y, rfl, hy, hc2, hg2⟩
      go_wp2_with fail
      refine (l1Bytes_any g code y _ hc2 (by omega)).mono ?_
      rintro e w3 ⟨v3, l, rfl, hll, ho3, hc3, hg3⟩
      have hback := conv_own (P := Tryz.prog) 22 9 5 ho3 hll Tryz.underlying22 Tryz.underlying5 Tryz.underlying9
      have HL := Lib.hid hll
      have hg := grown_grown hg1 (grown_grown hg2 hg3)
      clear hll ho3 hg1 hg2 hg3 hc1 hc2
      go_wp2
      go_ret
      exact ⟨l, rfl, by rw [HL.out]; omega, hc3, hg⟩
    · have hb1 : ((x : Int) == 1) = false := by simp; omega
      go_wp2_with fail
      refine (l2Name_any g code _ hc1).mono ?_
      rintro e w2 ⟨t, rfl, htl, hc2, hg2⟩
      have hg := grown_grown hg1 hg2
      clear hg1 hg2 hc1
      go_wp2
      go_ret
      exact ⟨t, rfl, htl, hc2, hg⟩

end Go.Proofs.YtbfgdbpfecffcaaGreatDoor

namespace Go.Proofs.YtbfgdbpfecffcaaGreatDoor
open Go.RowKit
open Go.Lib (decDigits itoa)

structure Tok where
  kind : Int
  text : List UInt8

/-- A token as a value. -/
abbrev tokv (t : Tok) : Value := .agg #[.int .i64 t.kind, sv t.text]
def gapB (a b : Tok) : Bool := a.kind != 3 && b.kind != 4

def litL (l : List UInt8) : List UInt8 := if l.length ≤ 40 then [123] ++ decDigits l.length ++ [125, 13, 10] ++ l else []
theorem litL_le (l : List UInt8) : (litL l).length ≤ 100 := by
  unfold litL
  split
  · have := decDigits_length_le l.length (by omega)
    simp; omega
  · simp

def tokText (t : Tok) : List UInt8 :=
  if t.kind = 1 then (if atomB t.text = true then t.text else [])
  else if t.kind = 2 then (if quoteL t.text = [] then litL t.text else quoteL t.text)
  else if t.kind = 3 then (if t.text = [] then [40] else [])
  else if t.kind = 4 then (if t.text = [] then [41] else [])
  else []

def tokc (t : Tok) : List Value := [.int .i64 t.kind, sv t.text]
def sepL : Option Tok → Tok → List UInt8
  | none, _ => []
  | some a, t => if gapB a t = true then [32] else []
def lineFrom : Option Tok → List Tok → List UInt8
  | _, [] => []
  | p, t :: r => sepL p t ++ tokText t ++ lineFrom (some t) r
def okLine (l : List Tok) : Bool := l.all fun t => !(tokText t).isEmpty
def lineL (l : List Tok) : List UInt8 := if okLine l = true then lineFrom none l else []
def lastOr (p : Option Tok) : List Tok → Option Tok
  | [] => p
  | t :: r => lastOr (some t) r
theorem lineFrom_snoc : ∀ (l : List Tok) (p : Option Tok) (t : Tok), lineFrom p (l ++ [t]) = lineFrom p l ++ (sepL (lastOr p l) t ++ tokText t)
  | [], p, t => by simp [lineFrom, lastOr]
  | x :: l, p, t => by simp [lineFrom, lastOr, lineFrom_snoc l (some x) t]
theorem lastOr_snoc : ∀ (l : List Tok) (p : Option Tok) (t : Tok), lastOr p (l ++ [t]) = some t
  | [], _, _ => rfl
  | x :: l, _, t => lastOr_snoc l (some x) t
theorem tokText_le (t : Tok) : (tokText t).length ≤ 100 := by
  unfold tokText
  split
  · split
    · rename_i h; unfold atomB at h; simp only [Bool.and_eq_true, decide_eq_true_eq] at h; omega
    · simp
  split
  · split
    · exact litL_le _
    · have := quoteL_le t.text; omega
  split
  · split <;> simp
  split
  · split <;> simp
  · simp
theorem sepL_yes {a t : Tok} (h : gapB a t = true) : sepL (some a) t = [32] := by show (if gapB a t = true then _ else _) = _; rw [if_pos h]
theorem sepL_no {a t : Tok} (h : gapB a t = false) : sepL (some a) t = [] := by show (if gapB a t = true then _ else _) = _; rw [h]; rfl
theorem sepL_le (p : Option Tok) (t : Tok) : (sepL p t).length ≤ 1 := by
  unfold sepL; split
  · simp
  · split <;> simp
theorem take_tok {l : List Tok} {k : Nat} {t : Tok} (h : l[k]? = some t) : l.take (k + 1) = l.take k ++ [t] := by
  obtain ⟨h1, h2⟩ := List.getElem?_eq_some_iff.1 h
  rw [List.take_succ_eq_append_getElem h1, h2]
theorem line_bad {l : List Tok} {k : Nat} {t : Tok} (h : l[k]? = some t) (he : tokText t = []) : lineL l = [] := by
  unfold lineL okLine
  rw [if_neg]
  intro hc
  rw [List.all_eq_true] at hc
  have := hc t (List.mem_of_getElem? h)
  rw [he] at this
  cases this

/-- The loop's knowledge: acc is the line of the first k, none of them is empty. -/
def LnSt (l : List Tok) (k : Nat) (acc : List UInt8) : Prop := acc = lineFrom none (l.take k) ∧ okLine (l.take k) = true ∧ acc.length ≤ 101 * k
theorem LnSt.step {l : List Tok} {k : Nat} {acc : List UInt8} {t : Tok} (h : LnSt l k acc) (ht : l[k]? = some t) (he : ¬ tokText t = []) (hp : lastOr none (l.take k) = (if k = 0 then none else l[k - 1]?)) :
    LnSt l (k + 1) (acc ++ sepL (if k = 0 then none else l[k - 1]?) t ++ tokText t) := by
  obtain ⟨h1, h2, h3⟩ := h
  refine ⟨?_, ?_, ?_⟩
  · rw [take_tok ht, lineFrom_snoc, hp, h1, List.append_assoc]
  · rw [take_tok ht]
    unfold okLine at *
    rw [List.all_append, h2]
    cases hh : tokText t with
    | nil => exact absurd hh he
    | cons a r => simp [hh]
  · have := tokText_le t
    have := sepL_le (if k = 0 then none else l[k - 1]?) t
    simp only [List.length_append]; omega
theorem last_take (l : List Tok) (k : Nat) (hk : k ≤ l.length) : lastOr none (l.take k) = (if k = 0 then none else l[k - 1]?) := by
  cases k with
  | zero => simp [lastOr]
  | succ j =>
    have hj : l[j]? = some (l[j]'(by omega)) := List.getElem?_eq_getElem (by omega)
    rw [take_tok hj, lastOr_snoc, if_neg (by omega), Nat.add_sub_cancel, hj]

end Go.Proofs.YtbfgdbpfecffcaaGreatDoor
