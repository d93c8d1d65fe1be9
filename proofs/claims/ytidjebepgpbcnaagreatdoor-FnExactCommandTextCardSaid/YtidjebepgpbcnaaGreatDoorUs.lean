/-
  Us: Digits SetM FilJ FilK Ge FilL FilM Gf FilP FilTx TyToken CmdR (what the claim needs of them).
-/
import Derived.Test.YtidjebepgpbcnaaGreatDoorRows
import Derived.WalkKit
import Derived.WalkSpells
import Derived.WalkLawsBesides
import Derived.Laws.IdiomStrings
import Derived.Lib.Hide
import Derived.Deep.AppendLies
import Derived.OrdersHeld
import Derived.Lib.ItoaNum
import Derived.Lib.ItoaMem
import Derived.Lib.AppendStr
import Derived.Lib.ItoaLen
import Derived.Lib.Strings
import Derived.Lib.Bytealg
import Derived.Lib.OthersKept
import Derived.Laws.RangeAny
import Derived.Handy
import Derived.IntWalk
import Derived.Lib.Join
import Derived.Test.YtidjebepgpbcnaaGreatDoorProg
import Derived.Laws.BitsAllLaws
import Derived.Laws.BitsLemmas
import Derived.Deep.Strs
import Derived.Deep.DeepCutAuto
import Derived.Deep.Cut
import Derived.Deep.CutRange
import Derived.Deep.LoopGhost
import Derived.Lib.OwnKind
import Derived.Lib.Fields
import Derived.Test.YtidjebepgpbcnaaGreatDoorUb
import Derived.Test.YtidjebepgpbcnaaGreatDoorUc
import Derived.Test.YtidjebepgpbcnaaGreatDoorUd
import Derived.Test.YtidjebepgpbcnaaGreatDoorUe
import Derived.Test.YtidjebepgpbcnaaGreatDoorUg

namespace Go.Proofs.YtidjebepgpbcnaaGreatDoor
open Go.RowKit
open Go.Lib (decDigits itoa)

theorem decDigits_len_neg (m : Nat) (h1 : 1 ≤ m) (h : m ≤ 9223372036854775808) : (decDigits m).length ≤ 20 := by
  have := Lib.itoa_length_le (-(m : Int)) (by omega) (by omega)
  rw [Lib.itoa_neg m h1] at this
  simpa using this

set_option maxHeartbeats 800000 in
/-- The model's Digits of a number below 0. -/
theorem specDigits_neg (n : Nat) (k : Int) (hk : k = -(n : Int)) (w : World) (h1 : 1 ≤ n) (hn : n ≤ 9223372036854775808) :
    Calls Tryz.prog 84 #[.int .i64 k] w fun e w' => e = .returned (sv (45 :: decDigits n)) ∧ Below w.heap.size w w' := by
  subst hk
  have hb0 : (-(n : Int) == 0) = false := by simp; omega
  have hl0 : -(n : Int) < 0 := by omega
  have hd := decDigits_len_neg n h1 hn
  go_enter Tryz.func84, Tryz.ntmps84
  go_wp2
  go_loopw [0, 4, 5] (fun x out _ wr => ∃ (m : Nat) (l : List UInt8), m ≤ n ∧ x = .int .i64 (-(m : Int)) ∧ out = sv l ∧ (m = 0 → l = decDigits n) ∧ (0 < m → decDigits m ++ l = decDigits n) ∧ Below w.heap.size w wr) (fun x _ _ _ => (-(intOf x)).toNat)
  case atStart => exact ⟨n, [], by omega, rfl, rfl, by omega, by simp, Below.refl _ _⟩
  case round =>
    obtain ⟨m, l, hm, rfl, rfl, hz, hp, hbr⟩ := hrel
    have Hz := Lib.hid hz
    have Hp := Lib.hid hp
    clear hz hp hb0 hl0
    have hbr0 := hbr.size
    by_cases hm0 : m = 0
    · have hl := Lib.hid (Hz.out hm0)
      have hll : l.length ≤ 20 := by rw [hl.out]; exact hd
      have hb0 : (-(m : Int) != 0) = false := by simp; omega
      clear hm0
      go_wp2
      go_ret
      refine ⟨?_, hbr⟩
      rw [← hl.out]
      rfl
    · have hb0 : (-(m : Int) != 0) = true := by simp; omega
      have ht : (-(m : Int)).tmod 10 = -((m % 10 : Nat) : Int) := by rw [Int.neg_tmod, Int.tmod_eq_emod_of_nonneg (by omega)]; omega
      have hq : (-(m : Int)).tdiv 10 = -((m / 10 : Nat) : Int) := by rw [Int.neg_tdiv, Int.tdiv_eq_ediv_of_nonneg (by omega)]; omega
      have ht0 : m % 10 < 10 := by omega
      have hcv := fun W g hc => conv_back1 (P := Tryz.prog) 90 9 5 Tryz.underlying90 Tryz.underlying5 Tryz.underlying9 (48 + (m : Int) % 10) (by omega) (by omega) 1 W g hc
      have hst := Lib.hid (dec_step hm0 (Hp.out (by omega)))
      have hlen : l.length ≤ 21 := by
        rw [← Hp.out (by omega), List.length_append] at hd
        omega
      have he8 : (48 : UInt8) + UInt8.ofNat (m % 10) = UInt8.ofNat (48 + m % 10) := by
        apply UInt8.toNat_inj.1
        simp
      have He8 := Lib.hid he8
      clear he8
      by_cases hd0 : m % 10 = 0
      · have hd1 : ¬ -((m : Int) % 10) < 0 := by omega
        have hcv0 := fun W g hc => conv_back1 (P := Tryz.prog) 90 9 5 Tryz.underlying90 Tryz.underlying5 Tryz.underlying9 48 (by omega) (by omega) 1 W g hc
        have hst0 := Lib.hid (show (m / 10 = 0 → UInt8.ofNat (48 + 0) :: l = decDigits n) ∧ (0 < m / 10 → decDigits (m / 10) ++ UInt8.ofNat (48 + 0) :: l = decDigits n) from by have := hst.out; rw [hd0] at this; exact this)
        go_wp2
        go_roundw
        case rel => exact ⟨m / 10, _ :: l, by omega, by go_num, rfl, hst0.out.1, hst0.out.2, hbr.alloc hbr0 _⟩
        case measure => simp [intOf]; omega
      · have hd1 : -((m : Int) % 10) < 0 := by omega
        go_wp2
        go_roundw
        case rel =>
          refine ⟨m / 10, _ :: l, by omega, by go_num, ?_, hst.out.1, hst.out.2, hbr.alloc hbr0 _⟩
          rw [← He8.out]
          rfl
        case measure => simp [intOf]; omega

theorem itoa_cases (n : Int) : itoa n = if n < 0 then 45 :: decDigits n.natAbs else decDigits n.toNat := rfl

/-- The model's Digits of whatever number. -/
theorem specDigits_any (n : Int) (w : World) (h0 : -9223372036854775808 ≤ n) (h1 : n ≤ 9223372036854775807) :
    Calls Tryz.prog 84 #[.int .i64 n] w fun e w' => e = .returned (sv (itoa n)) ∧ Below w.heap.size w w' := by
  rw [itoa_cases]
  by_cases h : n < 0
  · rw [if_pos h]
    exact specDigits_neg n.natAbs n (by omega) w (by omega) (by omega)
  · rw [if_neg h]
    have := specDigits_nat n.toNat w (by omega)
    rw [Int.toNat_of_nonneg (by omega)] at this
    exact this

end Go.Proofs.YtidjebepgpbcnaaGreatDoor

namespace Go.Proofs.YtidjebepgpbcnaaGreatDoor
open Go.RowKit
open Go.Lib (decDigits itoa)

def numT (n : Int) : List UInt8 := if n = 0 then [42] else itoa n
def spnT (s : Spn) : List UInt8 := if s.high = s.low then numT s.low else numT s.low ++ 58 :: numT s.high
def setT (l : List Spn) : List UInt8 := if setB l = true then Lib.join (l.map spnT) [44] else []
def l4n (w : List UInt8) : Int := match numl w with | some n => (n : Int) | none => 0
def wordS (w : List UInt8) : Spn := ⟨l4n ((partsl 58 w).headD []), l4n ((partsl 58 w).getLastD [])⟩
/-- What is read of a text, before it is held against it. -/
def rawS (s : List UInt8) : List Spn := if (partsl 44 s).length ≤ 5 then (partsl 44 s).map wordS else []
def readS (s : List UInt8) : Option (List Spn) := if s = [] ∨ setT (rawS s) ≠ s then none else some (rawS s)

theorem readS_some {s : List UInt8} {l : List Spn} (h : readS s = some l) : setB l = true ∧ setT l = s := by
  unfold readS at h
  split at h
  · cases h
  · rename_i hn
    injection h with h
    subst h
    have hs : ¬ s = [] := fun e => hn (.inl e)
    have ht : setT (rawS s) = s := Decidable.byContradiction fun e => hn (.inr e)
    refine ⟨?_, ht⟩
    cases hb : setB (rawS s) with
    | true => rfl
    | false =>
      unfold setT at ht
      rw [hb] at ht
      exact absurd ht.symm hs

theorem partsl_join (c : UInt8) : ∀ (ws : List (List UInt8)), ws ≠ [] → (∀ w ∈ ws, ∀ b ∈ w, b ≠ c) → partsl c (Lib.join ws [c]) = ws
  | [], h, _ => absurd rfl h
  | [w], _, h => by rw [Lib.join_one]; exact partsl_none c w (h w (by simp))
  | w :: x :: r, _, h => by
    have e : Lib.join (w :: x :: r) [c] = w ++ c :: Lib.join (x :: r) [c] := by
      rw [Lib.join_cons, Lib.join_cons]
      simp [Lib.joinTail]
    rw [e, partsl_hit c w _ (h w (by simp)), partsl_join c (x :: r) (by simp) (fun y hy => h y (by simp [hy]))]

theorem itoa_nat (n : Nat) : itoa (n : Int) = decDigits n := by rw [itoa_cases, if_neg (by omega)]; rfl
theorem num_nat {n : Int} (h : numB n = true) : ∃ k : Nat, n = (k : Int) ∧ k ≤ 999999999 := by
  unfold numB at h
  simp only [Bool.and_eq_true, decide_eq_true_eq] at h
  exact ⟨n.toNat, by omega, by omega⟩
theorem l4n_num {n : Int} (h : numB n = true) : l4n (numT n) = n := by
  obtain ⟨k, rfl, hk⟩ := num_nat h
  unfold numT
  by_cases h0 : (k : Int) = 0
  · rw [if_pos h0, h0]; rfl
  · rw [if_neg h0, itoa_nat]
    have : numl (decDigits k) = some k := by
      unfold numl
      rw [if_pos ⟨(canon_iff _).2 (by rw [(decDigits_facts k).1]), by rw [(decDigits_facts k).1]; exact hk⟩, (decDigits_facts k).1]
    unfold l4n
    rw [this]
theorem numT_bytes {n : Int} (h : numB n = true) : ∀ b ∈ numT n, b ≠ 58 ∧ b ≠ 44 := by
  obtain ⟨k, rfl, hk⟩ := num_nat h
  unfold numT
  by_cases h0 : (k : Int) = 0
  · rw [if_pos h0]
    intro b hb
    rw [List.mem_singleton.1 hb]
    exact ⟨by decide, by decide⟩
  · rw [if_neg h0, itoa_nat]
    intro b hb
    have := List.all_eq_true.1 (decDigits_facts k).2.1 b hb
    unfold isd at this
    simp only [Bool.and_eq_true, decide_eq_true_eq] at this
    constructor
    · rintro rfl; exact absurd this.2 (by decide)
    · rintro rfl; exact absurd this.1 (by decide)
theorem numT_len {n : Int} (h : numB n = true) : 1 ≤ (numT n).length ∧ (numT n).length ≤ 21 := by
  obtain ⟨k, rfl, hk⟩ := num_nat h
  unfold numT
  by_cases h0 : (k : Int) = 0
  · rw [if_pos h0]; simp
  · rw [if_neg h0, itoa_nat]
    have h1 := decDigits_length_le k (by omega)
    have h2 : decDigits k ≠ [] := by
      intro e
      have h3 := (decDigits_facts k).1
      rw [e] at h3
      rw [dv_nil] at h3
      omega
    have := List.length_pos_iff.2 h2
    omega
theorem spnT_bytes {s : Spn} (h : spnB s = true) : ∀ b ∈ spnT s, b ≠ 44 := by
  unfold spnB at h
  simp only [Bool.and_eq_true] at h
  unfold spnT
  split
  · exact fun b hb => (numT_bytes h.1 b hb).2
  · intro b hb
    rcases List.mem_append.1 hb with hb | hb
    · exact (numT_bytes h.1 b hb).2
    · rcases List.mem_cons.1 hb with rfl | hb
      · decide
      · exact (numT_bytes h.2 b hb).2
theorem wordS_spn {s : Spn} (h : spnB s = true) : wordS (spnT s) = s := by
  unfold spnB at h
  simp only [Bool.and_eq_true] at h
  unfold wordS spnT
  by_cases he : s.high = s.low
  · rw [if_pos he, partsl_none 58 _ (fun b hb => (numT_bytes h.1 b hb).1)]
    show (⟨l4n (numT s.low), l4n (numT s.low)⟩ : Spn) = s
    rw [l4n_num h.1]
    cases s
    simp only at he
    rw [he]
  · rw [if_neg he, partsl_hit 58 _ _ (fun b hb => (numT_bytes h.1 b hb).1), partsl_none 58 _ (fun b hb => (numT_bytes h.2 b hb).1)]
    show (⟨l4n (numT s.low), l4n (numT s.high)⟩ : Spn) = s
    rw [l4n_num h.1, l4n_num h.2]
theorem spnT_len {s : Spn} (h : spnB s = true) : 1 ≤ (spnT s).length ∧ (spnT s).length ≤ 43 := by
  unfold spnB at h
  simp only [Bool.and_eq_true] at h
  have h1 := numT_len h.1
  have h2 := numT_len h.2
  unfold spnT
  split
  · omega
  · simp; omega
theorem setB_parts {l : List Spn} (h : setB l = true) : (∀ s ∈ l, spnB s = true) ∧ 1 ≤ l.length ∧ l.length ≤ 5 := by
  unfold setB at h
  simp only [Bool.and_eq_true, decide_eq_true_eq, List.all_eq_true] at h
  exact ⟨h.1, h.2.1, h.2.2⟩
theorem setT_parts {l : List Spn} (h : setB l = true) : partsl 44 (setT l) = l.map spnT := by
  obtain ⟨h1, h2, h3⟩ := setB_parts h
  unfold setT
  rw [if_pos h]
  refine partsl_join 44 _ (by cases l with | nil => simp at h2 | cons a r => simp) ?_
  intro w hw
  obtain ⟨s, hs, rfl⟩ := List.mem_map.1 hw
  exact spnT_bytes (h1 s hs)
theorem rawS_setT {l : List Spn} (h : setB l = true) : rawS (setT l) = l := by
  obtain ⟨h1, h2, h3⟩ := setB_parts h
  unfold rawS
  rw [setT_parts h, if_pos (by simpa using h3), List.map_map]
  conv => rhs; rw [← List.map_id l]
  exact List.map_congr_left fun s hs => wordS_spn (h1 s hs)
theorem setT_ne {l : List Spn} (h : setB l = true) : ¬ setT l = [] := by
  obtain ⟨h1, h2, h3⟩ := setB_parts h
  intro e
  have hp := setT_parts h
  rw [e] at hp
  cases l with
  | nil => simp at h2
  | cons a r =>
    have hp2 : partsl 44 [] = [[]] := partsl_none 44 [] (by simp)
    rw [hp2] at hp
    simp only [List.map_cons, List.cons.injEq] at hp
    have := (spnT_len (h1 a (by simp))).1
    rw [← hp.1] at this
    simp at this
theorem readS_setT {l : List Spn} (h : setB l = true) : readS (setT l) = some l := by
  unfold readS
  rw [rawS_setT h, if_neg]
  rintro (e | e)
  · exact setT_ne h e
  · exact e rfl
/-- The set of a text is the one whose text it is. -/
theorem readS_iff (s : List UInt8) (l : List Spn) : readS s = some l ↔ setB l = true ∧ setT l = s :=
  ⟨readS_some, fun h => by rw [← h.2]; exact readS_setT h.1⟩
theorem readS_none {s : List UInt8} (h : ∀ l, setB l = true → setT l ≠ s) : readS s = none := by
  cases hr : readS s with
  | none => rfl
  | some l => exact absurd (readS_some hr).2 (h l (readS_some hr).1)

end Go.Proofs.YtidjebepgpbcnaaGreatDoor

namespace Go.Proofs.YtidjebepgpbcnaaGreatDoor
open Go.RowKit

def scWords : List (List UInt8) := [[], [115, 101, 108, 101, 99, 116, 101, 100], [112, 101, 114, 115, 111, 110, 97, 108], [115, 117, 98, 116, 114, 101, 101], [98, 111, 120, 101, 115]]
def evWords : List (List UInt8) := [[110, 101, 119], [103, 111, 110, 101], [102, 108, 97, 103, 115], [110, 97, 109, 101, 115]]

set_option maxHeartbeats 800000 in
theorem l6Words_any (w : World) :
    Calls Tryz.prog 56 #[] w fun e w' => e = .returned (.slice (some ⟨w.heap.size, 0, none⟩) 5 5) ∧ (∀ j x, scWords[j]? = some x → w'.cell? ⟨w.heap.size, j, none⟩ = some (sv x)) ∧ w.heap.size < w'.heap.size ∧ Below w.heap.size w w' := by
  go_enter Tryz.func56, Tryz.ntmps56
  go_wp2
  go_ret
  have h := heap_alloc_new w (.cells #[sv [], sv [115, 101, 108, 101, 99, 116, 101, 100], sv [112, 101, 114, 115, 111, 110, 97, 108], sv [115, 117, 98, 116, 114, 101, 101], sv [98, 111, 120, 101, 115]] 9)
  refine ⟨rfl, fun j x hx => ?_, by simp, (Below.refl _ _).alloc (Nat.le_refl _) _⟩
  refine (Lib.cell_of_heap h j).trans ?_
  match j with
  | 0 => simp [scWords] at hx; subst hx; rfl
  | 1 => simp [scWords] at hx; subst hx; rfl
  | 2 => simp [scWords] at hx; subst hx; rfl
  | 3 => simp [scWords] at hx; subst hx; rfl
  | 4 => simp [scWords] at hx; subst hx; rfl
  | n + 5 => simp [scWords] at hx

set_option maxHeartbeats 800000 in
theorem l6Events_any (w : World) :
    Calls Tryz.prog 57 #[] w fun e w' => e = .returned (.slice (some ⟨w.heap.size, 0, none⟩) 4 4) ∧ (∀ j x, evWords[j]? = some x → w'.cell? ⟨w.heap.size, j, none⟩ = some (sv x)) ∧ w.heap.size < w'.heap.size ∧ Below w.heap.size w w' := by
  go_enter Tryz.func57, Tryz.ntmps57
  go_wp2
  go_ret
  have h := heap_alloc_new w (.cells #[sv [110, 101, 119], sv [103, 111, 110, 101], sv [102, 108, 97, 103, 115], sv [110, 97, 109, 101, 115]] 9)
  refine ⟨rfl, fun j x hx => ?_, by simp, (Below.refl _ _).alloc (Nat.le_refl _) _⟩
  refine (Lib.cell_of_heap h j).trans ?_
  match j with
  | 0 => simp [evWords] at hx; subst hx; rfl
  | 1 => simp [evWords] at hx; subst hx; rfl
  | 2 => simp [evWords] at hx; subst hx; rfl
  | 3 => simp [evWords] at hx; subst hx; rfl
  | n + 4 => simp [evWords] at hx

theorem l6Atom_any (x : List UInt8) (w : World) :
    Calls Tryz.prog 19 #[sv x] w fun e w' => e = .returned (.agg #[.int .i64 1, sv x]) ∧ Below w.heap.size w w' := by
  go_enter Tryz.func19, Tryz.ntmps19
  go_wp2
  go_returns
  exact ⟨rfl, (Below.refl _ _).alloc (Nat.le_refl _) _⟩

theorem l6Open_any (w : World) :
    Calls Tryz.prog 23 #[] w fun e w' => e = .returned (.agg #[.int .i64 3, sv []]) ∧ Below w.heap.size w w' := by
  go_enter Tryz.func23, Tryz.ntmps23
  go_wp2
  go_returns
  exact ⟨rfl, (Below.refl _ _).alloc (Nat.le_refl _) _⟩

theorem l6Close_any (w : World) :
    Calls Tryz.prog 26 #[] w fun e w' => e = .returned (.agg #[.int .i64 4, sv []]) ∧ Below w.heap.size w w' := by
  go_enter Tryz.func26, Tryz.ntmps26
  go_wp2
  go_returns
  exact ⟨rfl, (Below.refl _ _).alloc (Nat.le_refl _) _⟩

end Go.Proofs.YtidjebepgpbcnaaGreatDoor

namespace Go.Proofs.YtidjebepgpbcnaaGreatDoor
open Go.RowKit

def takeV (l : List Tok) (at_ : Nat) (kind : Int) : Option (List UInt8) :=
  match l[at_]? with
  | some t => if t.kind = kind ∧ (kind = 1 ∨ t.text = []) then some t.text else none
  | none => none

end Go.Proofs.YtidjebepgpbcnaaGreatDoor

namespace Go.Proofs.YtidjebepgpbcnaaGreatDoor
open Go.RowKit
open Go.Lib (decDigits itoa)

theorem uqAt_shift : ∀ (n : Nat) (l : List UInt8) (p q : Nat) (acc : List UInt8), l.length ≤ n → uqAt l (p + q) acc = (uqAt l q acc).map fun x => (x.1, p + x.2)
  | _, [], p, q, acc, _ => by rw [uqAt_nil, uqAt_nil]; rfl
  | 0, _ :: _, _, _, _, h => by simp at h
  | n + 1, b :: r, p, q, acc, h => by
    simp only [List.length_cons] at h
    by_cases h1 : b.toNat = 34
    · rw [uqAt_quote _ _ _ h1, uqAt_quote _ _ _ h1]
      split
      · rfl
      · simp; omega
    by_cases h2 : b.toNat = 92
    · rw [uqAt_slash _ _ _ h2, uqAt_slash _ _ _ h2]
      cases r with
      | nil => rfl
      | cons c r' =>
        simp only [List.length_cons] at h
        cases hc : escc c with
        | false => rw [uqEsc_no _ _ _ hc, uqEsc_no _ _ _ hc]; rfl
        | true =>
          rw [uqEsc_yes _ _ _ hc, uqEsc_yes _ _ _ hc, show p + q + 1 + 1 = p + (q + 1 + 1) by omega]
          exact uqAt_shift n r' p _ _ (by omega)
    cases h3 : txtc b with
    | false => rw [uqAt_bad _ _ _ h3, uqAt_bad _ _ _ h3]; rfl
    | true =>
      rw [uqAt_plain _ _ _ h1 h2 h3, uqAt_plain _ _ _ h1 h2 h3, show p + q + 1 = p + (q + 1) by omega]
      exact uqAt_shift n r p _ _ (by omega)

def ne125 (b : UInt8) : Bool := !decide (b.toNat = 125)
theorem take_nx {l : List UInt8} {k : Nat} {b : UInt8} (h : l[k]? = some b) : l.take (k + 1) = l.take k ++ [b] := by
  obtain ⟨h1, h2⟩ := List.getElem?_eq_some_iff.1 h
  rw [List.take_succ_eq_append_getElem h1, h2]

/-- A literal, behind its opening brace: the text and how many bytes (the brace counted). -/
def litS (r : List UInt8) : Option (Tok × Nat) :=
  let d := r.takeWhile ne125
  if r[d.length + 1]? = some 13 ∧ r[d.length + 2]? = some 10 then
    match numl d with
    | some n => if n ≤ 40 ∧ n ≤ r.length - (d.length + 3) ∧ d.length + 3 ≤ r.length then some (⟨2, (r.drop (d.length + 3)).take n⟩, 1 + d.length + 3 + n) else none
    | none => none
  else none
def atomS (l : List UInt8) : Option (Tok × Nat) := if atomB (l.takeWhile atomc) = true then some (⟨1, l.takeWhile atomc⟩, (l.takeWhile atomc).length) else none
/-- A token at the head of a text. -/
def tkS : List UInt8 → Option (Tok × Nat)
  | [] => none
  | b :: r =>
    if b.toNat = 40 then some (⟨3, []⟩, 1)
    else if b.toNat = 41 then some (⟨4, []⟩, 1)
    else if b.toNat = 34 then (uqAt r 1 []).map fun x => (⟨2, x.1⟩, x.2)
    else if b.toNat = 123 then litS r
    else atomS (b :: r)
/-- May t stand here, with a blank ahead of it or not? -/
def fitB (prev : Option Tok) (blank : Bool) (t : Tok) : Bool := match prev with | none => !blank | some a => blank == gapB a t
def lexS : Nat → Option Tok → List UInt8 → Option (List Tok)
  | 0, _, _ => none
  | _ + 1, _, [] => some []
  | n + 1, prev, c :: r =>
    match tkS (if c.toNat = 32 then r else c :: r) with
    | none => none
    | some (t, k) => if fitB prev (decide (c.toNat = 32)) t = true then (lexS n (some t) ((if c.toNat = 32 then r else c :: r).drop k)).map (t :: ·) else none
def lexL (l : List UInt8) : Option (List Tok) := lexS (l.length + 1) none l

theorem uqAt_pos : ∀ (n : Nat) (l : List UInt8) (p : Nat) (acc t : List UInt8) (e : Nat), l.length ≤ n → uqAt l p acc = some (t, e) → p + 1 ≤ e ∧ e ≤ p + l.length := by
  intro n l p acc t e hn h
  obtain ⟨z, r, _, h2, _, _, h5⟩ := uqAt_back n l p acc t e hn h
  have : l.length = (escl z).length + 1 + r.length := by rw [h2]; simp; omega
  omega
theorem tkS_pos (l : List UInt8) (t : Tok) (k : Nat) (h : tkS l = some (t, k)) : 1 ≤ k ∧ k ≤ l.length := by
  cases l with
  | nil => cases h
  | cons b r =>
    simp only [tkS] at h
    split at h
    · injection h with h; injection h with _ h; subst h; simp
    split at h
    · injection h with h; injection h with _ h; subst h; simp
    split at h
    · cases hu : uqAt r 1 [] with
      | none => rw [hu] at h; cases h
      | some x =>
        rw [hu] at h
        injection h with h; injection h with _ h
        have := uqAt_pos r.length r 1 [] x.1 x.2 (Nat.le_refl _) hu
        simp only [List.length_cons]; omega
    split at h
    · simp only [litS] at h
      split at h
      · split at h
        · split at h
          · injection h with h; injection h with _ h
            simp only [List.length_cons]; omega
          · cases h
        · cases h
      · cases h
    · simp only [atomS] at h
      split at h
      · rename_i ha
        injection h with h; injection h with _ h
        unfold atomB at ha
        simp only [Bool.and_eq_true, decide_eq_true_eq] at ha
        have := (List.takeWhile_sublist atomc (l := b :: r)).length_le
        omega
      · cases h

/-- Fuel enough is as good as more. -/
theorem lexS_fuel : ∀ (n m : Nat) (prev : Option Tok) (l : List UInt8), l.length < n → l.length < m → lexS n prev l = lexS m prev l
  | 0, _, _, _, h, _ => by omega
  | _, 0, _, _, _, h => by omega
  | _ + 1, _ + 1, _, [], _, _ => rfl
  | n + 1, m + 1, prev, c :: r, h1, h2 => by
    simp only [List.length_cons] at h1 h2
    simp only [lexS]
    generalize hl : (if c.toNat = 32 then r else c :: r) = l'
    have hle : l'.length ≤ r.length + 1 := by subst hl; split <;> simp
    cases ht : tkS l' with
    | none => rfl
    | some x =>
      have := tkS_pos l' x.1 x.2 ht
      simp only
      split
      · rw [lexS_fuel n m (some x.1) (l'.drop x.2) (by rw [List.length_drop]; omega) (by rw [List.length_drop]; omega)]
      · rfl

/-- What may stand behind an atom. -/
def endsAtom : List UInt8 → Bool
  | [] => true
  | b :: _ => !atomc b
theorem takeWhile_all {l r : List UInt8} {p : UInt8 → Bool} (h : l.all p = true) (hr : ∀ b r', r = b :: r' → p b = false) : (l ++ r).takeWhile p = l := by
  induction l with
  | nil =>
    cases r with
    | nil => rfl
    | cons b r' => simp [hr b r' rfl]
  | cons x l ih =>
    simp only [List.all_cons, Bool.and_eq_true] at h
    simp [h.1, ih h.2]
theorem atom_head {l : List UInt8} (h : atomB l = true) : ∃ b r, l = b :: r ∧ atomc b = true ∧ ¬ b.toNat = 40 ∧ ¬ b.toNat = 41 ∧ ¬ b.toNat = 34 ∧ ¬ b.toNat = 123 ∧ ¬ b.toNat = 32 := by
  unfold atomB at h
  simp only [Bool.and_eq_true, decide_eq_true_eq] at h
  cases l with
  | nil => simp at h
  | cons b r =>
    have hb : atomc b = true := by simp only [List.all_cons, Bool.and_eq_true] at h; exact h.1.1.1
    have h2 := hb
    unfold atomc at h2
    simp only [Bool.and_eq_true, decide_eq_true_eq, Bool.not_eq_true', Bool.or_eq_false_iff, decide_eq_false_iff_not] at h2
    exact ⟨b, r, rfl, hb, by omega, by omega, by omega, by omega, by omega⟩

theorem decDigits_isd (n : Nat) : (decDigits n).all isd = true := (decDigits_facts n).2.1
theorem numl_dec {n : Nat} (h : n ≤ 999999999) : numl (decDigits n) = some n := by
  unfold numl
  rw [if_pos ⟨(canon_iff _).2 (by rw [(decDigits_facts n).1]), by rw [(decDigits_facts n).1]; exact h⟩, (decDigits_facts n).1]
theorem dig_not_brace {l : List UInt8} (h : l.all isd = true) : l.all ne125 = true := by
  rw [List.all_eq_true] at h ⊢
  intro b hb
  have := h b hb
  unfold isd at this
  simp only [Bool.and_eq_true, decide_eq_true_eq] at this
  simp [ne125]; omega

theorem tkS_tokText (t : Tok) (r : List UInt8) (h : ¬ tokText t = []) (hr : t.kind = 1 → endsAtom r = true) : tkS (tokText t ++ r) = some (t, (tokText t).length) := by
  obtain ⟨k, x⟩ := t
  unfold tokText at h ⊢
  simp only at h hr ⊢
  by_cases h1 : k = 1
  · subst h1
    simp only [if_true] at h ⊢
    cases ha : atomB x with
    | false => rw [ha] at h; exact absurd rfl h
    | true =>
      simp only [if_true]
      obtain ⟨b, y, hx, hb, n1, n2, n3, n4, n5⟩ := atom_head ha
      have hw : (x ++ r).takeWhile atomc = x := by
        refine takeWhile_all (by unfold atomB at ha; simp only [Bool.and_eq_true] at ha; exact ha.1.1) (fun c r' e => ?_)
        have := hr rfl
        rw [e] at this
        simpa [endsAtom] using this
      rw [hx] at hw ha ⊢
      rw [List.cons_append]
      simp only [tkS, n1, n2, n3, n4, if_false, atomS]
      rw [List.cons_append] at hw
      rw [hw, ha]
      simp
  rw [if_neg h1] at h ⊢
  by_cases h2 : k = 2
  · subst h2
    simp only [if_true] at h ⊢
    by_cases hq : quoteL x = []
    · rw [if_pos hq] at h ⊢
      unfold litL at h ⊢
      by_cases hl : x.length ≤ 40
      · rw [if_pos hl]
        have hd : (decDigits x.length).all isd = true := decDigits_isd x.length
        have htw : (decDigits x.length ++ ([125, 13, 10] ++ x ++ r)).takeWhile ne125 = decDigits x.length :=
          takeWhile_all (dig_not_brace hd) (fun b r' e => by simp at e; obtain ⟨e1, _⟩ := e; subst e1; rfl)
        have hn : numl (decDigits x.length) = some x.length := numl_dec (by omega)
        have hs : [123] ++ decDigits x.length ++ [125, 13, 10] ++ x ++ r = 123 :: (decDigits x.length ++ ([125, 13, 10] ++ x ++ r)) := by simp
        rw [hs]
        have e0 : tkS (123 :: (decDigits x.length ++ ([125, 13, 10] ++ x ++ r))) = litS (decDigits x.length ++ ([125, 13, 10] ++ x ++ r)) := rfl
        rw [e0]
        unfold litS
        simp only [htw]
        have g1 : (decDigits x.length ++ ([125, 13, 10] ++ x ++ r))[(decDigits x.length).length + 1]? = some 13 := by
          rw [List.getElem?_append_right (by omega), Nat.add_sub_cancel_left]; rfl
        have g2 : (decDigits x.length ++ ([125, 13, 10] ++ x ++ r))[(decDigits x.length).length + 2]? = some 10 := by
          rw [List.getElem?_append_right (by omega), Nat.add_sub_cancel_left]; rfl
        have g3 : (decDigits x.length ++ ([125, 13, 10] ++ x ++ r)).drop ((decDigits x.length).length + 3) = x ++ r := by
          rw [List.drop_append, List.drop_of_length_le (by omega), Nat.add_sub_cancel_left]; rfl
        have g4 : (decDigits x.length ++ ([125, 13, 10] ++ x ++ r)).length = (decDigits x.length).length + 3 + x.length + r.length := by simp; omega
        rw [if_pos ⟨g1, g2⟩, hn]
        simp only
        rw [if_pos ⟨hl, by omega, by omega⟩, g3]
        simp; omega
      · rw [if_neg hl] at h; exact absurd rfl h
    · rw [if_neg hq] at h ⊢
      have hc : x.all txtc = true ∧ x.length ≤ 40 := by
        by_cases hh : x.all txtc = true ∧ x.length ≤ 40
        · exact hh
        · exact absurd (by unfold quoteL; rw [if_neg hh]) hq
      rw [quoteL_yes _ hc.1 hc.2]
      have e0 : tkS (34 :: escl x ++ [34] ++ r) = (uqAt (escl x ++ 34 :: r) 1 []).map fun y => ((⟨2, y.1⟩ : Tok), y.2) := by simp [tkS]
      rw [e0, uqAt_escl x r 1 [] hc.1 (by simpa using hc.2)]
      simp; omega
  rw [if_neg h2] at h ⊢
  by_cases h3 : k = 3
  · subst h3
    simp only [if_true] at h ⊢
    by_cases hx : x = []
    · subst hx; rfl
    · rw [if_neg hx] at h; exact absurd rfl h
  rw [if_neg h3] at h ⊢
  by_cases h4 : k = 4
  · subst h4
    simp only [if_true] at h ⊢
    by_cases hx : x = []
    · subst hx; rfl
    · rw [if_neg hx] at h; exact absurd rfl h
  · rw [if_neg h4] at h; exact absurd rfl h

/-- The head of a token's text is no blank. -/
theorem tokText_head (t : Tok) (h : ¬ tokText t = []) : ∃ b r, tokText t = b :: r ∧ ¬ b.toNat = 32 := by
  unfold tokText at h ⊢
  split
  · rename_i h1
    rw [if_pos h1] at h
    cases ha : atomB t.text with
    | false => rw [ha] at h; exact absurd rfl h
    | true =>
      obtain ⟨b, y, hx, _, _, _, _, _, n5⟩ := atom_head ha
      exact ⟨b, y, by simpa using hx, n5⟩
  rename_i h1
  rw [if_neg h1] at h
  split
  · rename_i h2
    rw [if_pos h2] at h
    split
    · rename_i hq
      rw [if_pos hq] at h
      unfold litL at h ⊢
      split
      · exact ⟨123, _, by simp; rfl, by decide⟩
      · rename_i hl; rw [if_neg hl] at h; exact absurd rfl h
    · rename_i hq
      unfold quoteL at hq ⊢
      split
      · exact ⟨34, _, by simp; rfl, by decide⟩
      · rename_i hl; rw [if_neg hl] at hq; exact absurd rfl hq
  rename_i h2
  rw [if_neg h2] at h
  split
  · rename_i h3
    rw [if_pos h3] at h
    split
    · exact ⟨40, [], rfl, by decide⟩
    · rename_i hl; rw [if_neg hl] at h; exact absurd rfl h
  rename_i h3
  rw [if_neg h3] at h
  split
  · rename_i h4
    rw [if_pos h4] at h
    split
    · exact ⟨41, [], rfl, by decide⟩
    · rename_i hl; rw [if_neg hl] at h; exact absurd rfl h
  · rename_i h4; rw [if_neg h4] at h; exact absurd rfl h

/-- Behind an atom a line goes on with what ends it. -/
theorem ends_line (a : Tok) (ha : a.kind = 1) (l : List Tok) (hl : okLine l = true) : endsAtom (lineFrom (some a) l) = true := by
  cases l with
  | nil => rfl
  | cons t r =>
    simp only [lineFrom]
    cases hg : gapB a t with
    | true => rw [sepL_yes hg]; rfl
    | false =>
      rw [sepL_no hg]
      have h4 : t.kind = 4 := by
        unfold gapB at hg
        rw [ha] at hg
        simpa using hg
      have hne : ¬ tokText t = [] := by
        unfold okLine at hl
        simp only [List.all_cons, Bool.and_eq_true, Bool.not_eq_true', List.isEmpty_eq_false_iff] at hl
        exact hl.1
      have : tokText t = [41] := by
        unfold tokText at hne ⊢
        rw [h4] at hne ⊢
        simp only [show ¬ (4 : Int) = 1 by decide, show ¬ (4 : Int) = 2 by decide, show ¬ (4 : Int) = 3 by decide, if_false, if_true] at hne ⊢
        split
        · rfl
        · rename_i hx; rw [if_neg hx] at hne; exact absurd rfl hne
      rw [this]; rfl

theorem lexS_line : ∀ (l : List Tok) (prev : Option Tok) (n : Nat), okLine l = true → (lineFrom prev l).length < n → lexS n prev (lineFrom prev l) = some l
  | [], _, n, _, h => by
    cases n with
    | zero => simp at h
    | succ n => rfl
  | t :: r, prev, n, hok, h => by
    have hok2 : okLine r = true := by unfold okLine at hok ⊢; simp only [List.all_cons, Bool.and_eq_true] at hok; exact hok.2
    have hne : ¬ tokText t = [] := by
      unfold okLine at hok
      simp only [List.all_cons, Bool.and_eq_true, Bool.not_eq_true', List.isEmpty_eq_false_iff] at hok
      exact hok.1
    obtain ⟨b, y, hb, hb32⟩ := tokText_head t hne
    have htk := tkS_tokText t (lineFrom (some t) r) hne (fun hk => ends_line t hk r hok2)
    cases n with
    | zero => simp at h
    | succ n =>
      simp only [lineFrom] at h ⊢
      have hlen : 0 < (tokText t).length := by rw [hb]; simp
      have hrest : (tokText t ++ lineFrom (some t) r).drop (tokText t).length = lineFrom (some t) r := List.drop_left
      have go : ∀ hl : (lineFrom (some t) r).length < n, lexS n (some t) (lineFrom (some t) r) = some r := fun hl => lexS_line r (some t) n hok2 hl
      cases hs : sepL prev t with
      | nil =>
        rw [hs] at h
        have hfit : fitB prev false t = true := by
          cases prev with
          | none => rfl
          | some a =>
            cases hg : gapB a t with
            | true => rw [sepL_yes hg] at hs; cases hs
            | false => simp [fitB, hg]
        simp only [List.nil_append] at h ⊢
        rw [hb] at htk hrest h ⊢
        simp only [List.cons_append] at htk hrest h ⊢
        simp only [lexS, hb32, if_false, htk, decide_false, hfit, if_true, hrest]
        rw [go (by simp only [List.length_cons, List.length_append] at h; omega)]
        rfl
      | cons c z =>
        have hgap : c = 32 ∧ z = [] ∧ fitB prev true t = true := by
          cases prev with
          | none => cases hs
          | some a =>
            cases hg : gapB a t with
            | false => rw [sepL_no hg] at hs; cases hs
            | true =>
              rw [sepL_yes hg] at hs
              injection hs with h1 h2
              exact ⟨h1.symm, h2.symm, by simp [fitB, hg]⟩
        obtain ⟨rfl, rfl, hfit⟩ := hgap
        rw [hs] at h
        simp only [List.cons_append, List.nil_append] at h ⊢
        have e32 : (32 : UInt8).toNat = 32 := rfl
        simp only [lexS, e32, if_true, htk, decide_true, hfit, hrest]
        rw [go (by simp only [List.length_cons, List.length_append] at h; omega)]
        rfl

theorem lexL_lineL (l : List Tok) (h : okLine l = true) : lexL (lineL l) = some l := by
  unfold lineL
  rw [if_pos h]
  exact lexS_line l none _ h (by omega)

theorem tkS_ok (l : List UInt8) (t : Tok) (k : Nat) (h : tkS l = some (t, k)) : ¬ tokText t = [] ∧ t.text.length ≤ 40 := by
  cases l with
  | nil => cases h
  | cons b r =>
    simp only [tkS] at h
    split at h
    · injection h with h; injection h with h _; subst h; exact ⟨by decide, by simp⟩
    split at h
    · injection h with h; injection h with h _; subst h; exact ⟨by decide, by simp⟩
    split at h
    · cases hu : uqAt r 1 [] with
      | none => rw [hu] at h; cases h
      | some x =>
        rw [hu] at h
        injection h with h; injection h with h _
        obtain ⟨z, _, h1, _, h3, h4, _⟩ := uqAt_back r.length r 1 [] x.1 x.2 (Nat.le_refl _) hu
        simp only [List.nil_append] at h1
        subst h
        refine ⟨?_, h4⟩
        have hq : ¬ quoteL x.1 = [] := by rw [quoteL_yes _ (by rw [h1]; exact h3) h4]; simp
        unfold tokText
        rw [if_neg (by show ¬ ((2 : Int) = 1); decide), if_pos rfl, if_neg hq]
        exact hq
    split at h
    · simp only [litS] at h
      split at h
      · split at h
        · split at h
          · rename_i nn hq hc
            injection h with h; injection h with h _
            subst h
            have hl : ((r.drop ((r.takeWhile ne125).length + 3)).take nn).length ≤ nn := List.length_take_le _ _
            refine ⟨?_, by exact Nat.le_trans hl hc.1⟩
            unfold tokText
            rw [if_neg (by show ¬ ((2 : Int) = 1); decide), if_pos rfl]
            split
            · unfold litL
              rw [if_pos (by exact Nat.le_trans hl hc.1)]
              simp
            · assumption
          · cases h
        · cases h
      · cases h
    · simp only [atomS] at h
      split at h
      · rename_i ha
        injection h with h; injection h with h _
        subst h
        have h2 := ha
        unfold atomB at h2
        simp only [Bool.and_eq_true, decide_eq_true_eq] at h2
        refine ⟨?_, h2.2⟩
        unfold tokText
        rw [if_pos rfl, if_pos ha]
        intro e
        have h3 := h2.1.2
        have e' : List.takeWhile atomc (b :: r) = [] := e
        rw [e'] at h3
        simp at h3
      · cases h
theorem lexS_ok : ∀ (n : Nat) (prev : Option Tok) (l : List UInt8) (ts : List Tok), lexS n prev l = some ts → okLine ts = true ∧ (∀ t ∈ ts, t.text.length ≤ 40) ∧ ts.length ≤ l.length
  | 0, _, _, _, h => by cases h
  | n + 1, _, [], ts, h => by injection h with h; subst h; exact ⟨rfl, by simp, by simp⟩
  | n + 1, prev, c :: r, ts, h => by
    simp only [lexS] at h
    generalize hl : (if c.toNat = 32 then r else c :: r) = l' at h
    have hle : l'.length ≤ r.length + 1 := by subst hl; split <;> simp
    cases ht : tkS l' with
    | none => rw [ht] at h; cases h
    | some x =>
      rw [ht] at h
      simp only at h
      split at h
      · cases hn : lexS n (some x.1) (l'.drop x.2) with
        | none => rw [hn] at h; cases h
        | some ys =>
          rw [hn] at h
          injection h with h
          subst h
          have h1 := tkS_ok l' x.1 x.2 ht
          have h2 := lexS_ok n (some x.1) (l'.drop x.2) ys hn
          have h3 := tkS_pos l' x.1 x.2 ht
          have h4 := h2.2.2
          rw [List.length_drop] at h4
          refine ⟨?_, ?_, by simp only [List.length_cons]; omega⟩
          · unfold okLine at *
            rw [List.all_cons, h2.1]
            cases hh : tokText x.1 with
            | nil => exact absurd hh h1.1
            | cons a r => rfl
          · intro t htm
            rcases List.mem_cons.1 htm with rfl | htm
            · exact h1.2
            · exact h2.2.1 t htm
      · cases h
theorem lexL_back (l : List UInt8) (ts : List Tok) (h : lexL l = some ts) : lexL (lineL ts) = some ts := lexL_lineL ts (lexS_ok _ _ _ _ h).1

theorem tkS_cons (b : UInt8) (r : List UInt8) : tkS (b :: r) = (if b.toNat = 40 then some (⟨3, []⟩, 1) else if b.toNat = 41 then some (⟨4, []⟩, 1) else if b.toNat = 34 then (uqAt r 1 []).map fun x => ((⟨2, x.1⟩ : Tok), x.2) else if b.toNat = 123 then litS r else atomS (b :: r)) := rfl
theorem beq_nat {n k : Nat} (h : ((n : Int) == (k : Int)) = true) : n = k := by have := beq_iff_eq.1 h; omega
theorem beq_nat' {n k : Nat} (h : ((n : Int) == (k : Int)) = false) : ¬ n = k := by have := beq_eq_false_iff_ne.1 h; omega
section
variable (s : ByteArray) (p : Nat) (h : p < s.size)
include h
theorem tk_open (h1 : ((s[p].toNat : Int) == 40) = true) : tkS (s.data.toList.drop p) = some (⟨3, []⟩, 1) := by
  rw [drop_str s p h, tkS_cons, if_pos (beq_nat h1)]
theorem tk_close (h1 : ((s[p].toNat : Int) == 40) = false) (h2 : ((s[p].toNat : Int) == 41) = true) : tkS (s.data.toList.drop p) = some (⟨4, []⟩, 1) := by
  rw [drop_str s p h, tkS_cons, if_neg (beq_nat' h1), if_pos (beq_nat h2)]
theorem tk_quote (h1 : ((s[p].toNat : Int) == 40) = false) (h2 : ((s[p].toNat : Int) == 41) = false) (h3 : ((s[p].toNat : Int) == 34) = true) : uqO s.data.toList (p : Int) = (tkS (s.data.toList.drop p)).map (fun x => (x.1.text, p + x.2)) ∧ (∀ x, tkS (s.data.toList.drop p) = some x → x.1.kind = 2) := by
  rw [uqO_at s p h, if_pos (beq_iff_eq.1 h3), drop_str s p h, tkS_cons, if_neg (beq_nat' h1), if_neg (beq_nat' h2), if_pos (beq_nat h3), uqAt_shift _ _ p 1 [] (Nat.le_refl _)]
  cases uqAt (s.data.toList.drop (p + 1)) 1 [] with
  | none => exact ⟨rfl, fun x hx => by cases hx⟩
  | some y => exact ⟨rfl, fun x hx => by injection hx with hx; subst hx; rfl⟩
theorem tk_lit (h1 : ((s[p].toNat : Int) == 40) = false) (h2 : ((s[p].toNat : Int) == 41) = false) (h3 : ((s[p].toNat : Int) == 34) = false) (h4 : ((s[p].toNat : Int) == 123) = true) : tkS (s.data.toList.drop p) = litS (s.data.toList.drop (p + 1)) := by
  rw [drop_str s p h, tkS_cons, if_neg (beq_nat' h1), if_neg (beq_nat' h2), if_neg (beq_nat' h3), if_pos (beq_nat h4)]
theorem tk_atom (h1 : ((s[p].toNat : Int) == 40) = false) (h2 : ((s[p].toNat : Int) == 41) = false) (h3 : ((s[p].toNat : Int) == 34) = false) (h4 : ((s[p].toNat : Int) == 123) = false) : tkS (s.data.toList.drop p) = atomS (s.data.toList.drop p) := by
  rw [drop_str s p h, tkS_cons, if_neg (beq_nat' h1), if_neg (beq_nat' h2), if_neg (beq_nat' h3), if_neg (beq_nat' h4)]
end

theorem atomS_yes {l a : List UInt8} (h : l.takeWhile atomc = a) (ha : atomB a = true) : atomS l = some (⟨1, a⟩, a.length) := by unfold atomS; rw [h, if_pos ha]
theorem atomS_no {l a : List UInt8} (h : l.takeWhile atomc = a) (ha : atomB a = false) : atomS l = none := by unfold atomS; rw [h, if_neg (by rw [ha]; simp)]

/-- Behind a call the cells of a block that was made just before it stand. -/
theorem new_cells {w w1 : World} {cs : Array Value} {e : TypeId} (hb : Below (w.heap.size + 1) (w.alloc (.cells cs e)) w1) : (∀ j, w1.cell? ⟨w.heap.size, j, none⟩ = cs[j]?) ∧ (∀ j, w1.frozen? ⟨w.heap.size, j, none⟩ = false) :=
  ⟨fun j => (hb.cell (p := ⟨w.heap.size, j, none⟩) (by simp)).trans (by simp [go_sem]), fun j => (hb.frozen (p := ⟨w.heap.size, j, none⟩) (by simp)).trans (by simp [go_sem])⟩

theorem two_set {w1 : World} {b : Nat} {x0 x1 : Value} (h0 : w1.cell? ⟨b, 0, none⟩ = some x0) (h1 : w1.cell? ⟨b, 1, none⟩ = some x1) :
    (∀ v, (w1.setCell ⟨b, 0, none⟩ v).cell? ⟨b, 0, none⟩ = some v) ∧ (∀ v v', ((w1.setCell ⟨b, 0, none⟩ v).setCell ⟨b, 1, none⟩ v').cell? ⟨b, 1, none⟩ = some v') := by
  refine ⟨fun v => World.cell?_setCell_same w1 _ _ h0, fun v v' => World.cell?_setCell_same _ _ _ (u := x1) ?_⟩
  rw [World.cell?_setCell_other w1 _ _ _ (by intro hh; injection hh with _ h2; cases h2)]
  exact h1

theorem Tryz.el_tok : Elem Tryz.prog 29 48 2 24 := Elem.mk' (z := .agg #[.int .i64 0, .string ⟨#[]⟩]) Tryz.underlying29 (by kernel_rfl) rfl (by omega)

/-- What the loop knows: ts read, the rest from p on. -/
def LxSt (l : List UInt8) (p : Nat) (ts : List Tok) (n : Nat) (U : Option (List Tok)) : Prop :=
  n = ts.length ∧ (lexS (l.length - p + 1) (lastOr none ts) (l.drop p)).map (ts ++ ·) = U
theorem LxSt.start (l : List UInt8) : LxSt l 0 [] 0 (lexL l) := by
  refine ⟨rfl, ?_⟩
  show (lexS (l.length - 0 + 1) none (l.drop 0)).map ([] ++ ·) = _
  unfold lexL
  rw [List.drop_zero, Nat.sub_zero]
  cases lexS (l.length + 1) none l <;> simp
section
variable {s : ByteArray} {p n : Nat} {ts : List Tok} {U : Option (List Tok)}
theorem LxSt.done (h : LxSt s.data.toList p ts n U) (hp : ¬ p < s.size) : U = some ts := by
  rw [← h.2, drop_str_end s p hp]
  simp [lexS]
/-- The token at the head of the rest. -/
def tkAt (s : ByteArray) (p : Nat) (blank : Bool) : Option (Tok × Nat) := tkS (s.data.toList.drop (if blank = true then p + 1 else p))
theorem lexS_at (s : ByteArray) (p n : Nat) (prev : Option Tok) (h : p < s.size) (blank : Bool) (hb : decide (s[p].toNat = 32) = blank) :
    lexS (n + 1) prev (s.data.toList.drop p) = match tkAt s p blank with | none => none | some (t, k) => if fitB prev blank t = true then (lexS n (some t) (s.data.toList.drop ((if blank = true then p + 1 else p) + k))).map (t :: ·) else none := by
  unfold tkAt
  rw [drop_str s p h]
  simp only [lexS]
  cases blank with
  | true =>
    have h32 := of_decide_eq_true hb
    simp only [h32, if_true, decide_true, List.drop_drop]
    try (cases tkS (s.data.toList.drop (p + 1)) <;> rfl)
  | false =>
    have h32 := of_decide_eq_false hb
    simp only [h32, if_false, decide_false, Bool.false_eq_true]
    rw [← drop_str s p h]
    simp only [List.drop_drop]
    try (cases tkS (s.data.toList.drop p) <;> rfl)
theorem LxSt.bad (h : LxSt s.data.toList p ts n U) (hp : p < s.size) (blank : Bool) (hb : decide (s[p].toNat = 32) = blank) (ht : tkAt s p blank = none) : U = none := by
  rw [← h.2, lexS_at s p _ _ hp blank hb, ht]; rfl
theorem LxSt.unfit (h : LxSt s.data.toList p ts n U) (hp : p < s.size) (blank : Bool) (hb : decide (s[p].toNat = 32) = blank) {t : Tok} {k : Nat} (ht : tkAt s p blank = some (t, k)) (hf : fitB (lastOr none ts) blank t = false) : U = none := by
  rw [← h.2, lexS_at s p _ _ hp blank hb, ht]
  simp only [hf]
  rfl
theorem LxSt.step (h : LxSt s.data.toList p ts n U) (hp : p < s.size) (blank : Bool) (hb : decide (s[p].toNat = 32) = blank) {t : Tok} {k : Nat} (ht : tkAt s p blank = some (t, k)) (hf : fitB (lastOr none ts) blank t = true) :
    LxSt s.data.toList ((if blank = true then p + 1 else p) + k) (ts ++ [t]) (n + 1) U ∧ p < (if blank = true then p + 1 else p) + k ∧ (if blank = true then p + 1 else p) + k ≤ s.size := by
  have hk := tkS_pos _ _ _ ht
  rw [List.length_drop, str_len] at hk
  have hq : p < (if blank = true then p + 1 else p) + k ∧ (if blank = true then p + 1 else p) + k ≤ s.size := by cases blank <;> simp at hk ⊢ <;> omega
  refine ⟨⟨by rw [h.1]; simp, ?_⟩, hq⟩
  rw [← h.2, lexS_at s p _ _ hp blank hb, ht]
  simp only [hf, if_true]
  rw [lastOr_snoc]
  rw [lexS_fuel (s.data.toList.length - ((if blank = true then p + 1 else p) + k) + 1) (s.data.toList.length - p) (some t) _ (by rw [List.length_drop]; omega) (by rw [List.length_drop, str_len]; omega)]
  cases lexS (s.data.toList.length - p) (some t) (s.data.toList.drop ((if blank = true then p + 1 else p) + k)) <;> simp
end
theorem lastOr_get : ∀ (l : List Tok) (p : Option Tok) (m : Nat), l.length = m + 1 → ∃ t, l[m]? = some t ∧ lastOr p l = some t
  | [], _, _, h => by simp at h
  | [x], _, m, h => by
    simp only [List.length_cons, List.length_nil] at h
    obtain rfl : m = 0 := by omega
    exact ⟨x, rfl, rfl⟩
  | x :: y :: l, p, m, h => by
    cases m with
    | zero => simp at h
    | succ m =>
      obtain ⟨t, h1, h2⟩ := lastOr_get (y :: l) (some x) m (by simpa using h)
      exact ⟨t, by simpa using h1, h2⟩
theorem lexL_len (l : List UInt8) (ts : List Tok) (h : lexL l = some ts) : ts.length ≤ l.length := (lexS_ok _ _ _ _ h).2.2
theorem own_empty (w : World) (e : TypeId) (B size : Nat) (hb : B ≤ w.heap.size) : (w.alloc (.cells #[] e)).ownsRow B e size (.slice (some ⟨w.heap.size, 0, none⟩) 0 0) 0 [] := World.ownsRow_made w #[] 0 hb (by unfold maxLen; omega) (by simp)

end Go.Proofs.YtidjebepgpbcnaaGreatDoor

namespace Go.Proofs.YtidjebepgpbcnaaGreatDoor
open Go.RowKit

def atT (x : List UInt8) : Tok := ⟨1, x⟩
def opT3 : Tok := ⟨3, []⟩
def clT4 : Tok := ⟨4, []⟩
def evB (ev : Int) (k : Nat) : Bool := bits .and .i64 (ev / (2 ^ k : Nat)) 1 == 1
def evTk (ev : Int) (k : Nat) : List Tok := if evB ev k = true then [atT (evWords.getD k [])] else []
def evTks (ev : Int) (k : Nat) : List Tok := (List.range k).flatMap (evTk ev)
def nmTks (s : Scp) : List Tok := if 3 ≤ s.kind then opT3 :: (s.names.map atT ++ [clT4]) else []
def scTks (s : Scp) : List Tok := opT3 :: atT (scWords.getD s.kind.toNat []) :: (nmTks s ++ (opT3 :: (evTks s.events 4 ++ [clT4, clT4])))
def fTks (f : Flt) : List Tok := if filterB f = true then (if f.on = true then atT [115, 101, 116] :: f.scopes.flatMap scTks else [atT [110, 111, 110, 101]]) else []

theorem own_lower {w : World} {B B' n s : Nat} {e : TypeId} {v : Value} {xs : List Value} (h : w.ownsRow B e s v n xs) (hb : B' ≤ B) : w.ownsRow B' e s v n xs := by
  refine ⟨h.1, ?_⟩
  rcases h.2 with h0 | ⟨g, cap, cur, hv, h1, h2⟩
  · exact .inl h0
  · exact .inr ⟨g, cap, cur, hv, Nat.le_trans hb h1, h2⟩

/-- Tokens that the call made, and a block of its own beside them. -/
structure TkB (W0 : World) (c : Nat) (cs : Array Value) (u : Value) (toks : List Tok) (wr : World) : Prop where
  own : wr.ownsRow W0.heap.size 48 2 u toks.length (toks.flatMap tokc)
  below : Below W0.heap.size W0 wr
  blk : wr.heap[c]? = some (.cells cs 78 (0, 0))
theorem TkB.lt {W0 wr : World} {c : Nat} {cs : Array Value} {u : Value} {toks : List Tok} (h : TkB W0 c cs u toks wr) : c < wr.heap.size := (Array.getElem?_eq_some_iff.1 h.blk).1
theorem TkB.call {W0 wr w' : World} {c : Nat} {cs : Array Value} {u : Value} {toks : List Tok} (h : TkB W0 c cs u toks wr) (hb : Below wr.heap.size wr w') : TkB W0 c cs u toks w' :=
  ⟨ownsRow_below h.own hb, h.below.trans (hb.mono h.below.size), (hb.block c h.lt).trans h.blk⟩
theorem TkB.drew {W0 wr : World} {c : Nat} {cs : Array Value} {u : Value} {toks : List Tok} (h : TkB W0 c cs u toks wr) : TkB W0 c cs u toks wr.drew := ⟨h.own.drew, h.below.drew, h.blk⟩

section
variable {P : Program} {w w0 W0 : World} {ops : Array Oper} {rest : List Oper} {o : Oper} {a : Act} {c : Nat} {cs : Array Value} {u : Value} {toks : List Tok}
theorem wp_tks {K : Act → World → Prop} {Q : Exit → Act → World → Prop} (h : TkB W0 c cs u toks w0) (xs : List Tok) (n : Nat) (s x : Operand) (ho : o.op = .call { callee := .builtin .append, args := #[s, x], argTypes := #[29, 29] })
    (hs : a.eval s = u) (cs2 : Array Value) (hw : w = (w0.alloc (.cells cs2 48)).drew ∨ w = w0.alloc (.cells cs2 48)) (hcs : cs2.toList = xs.flatMap tokc) (hx : a.eval x = .slice (some ⟨w0.heap.size, 0, none⟩) n n) (hn : xs.length = n) (hp : 0 < n) (hl : toks.length + n ≤ 1000000)
    (hK : ∀ u' w', TkB W0 c cs u' (toks ++ xs) w' → K (a.put o.dst u') w') : o.wp Tryz.prog a w K Q := by
  have hc2 : cs2.size = n * 2 := by have := congrArg List.length hcs; rw [flat_len2 (enc := tokc) (fun _ => rfl), hn] at this; simpa using this
  refine wp_app1 Tryz.el_tok s x ho W0 w0 u toks.length _ hs h.own h.below h.below.size cs2 hw n n hx hc2 ?_ hp (by omega) (by omega) ?_
  · rw [Array.all_eq_true']
    intro v hv
    have : v ∈ xs.flatMap tokc := by rw [← hcs]; simpa using hv
    obtain ⟨t, _, ht⟩ := List.mem_flatMap.1 this
    have : v = .int .i64 t.kind ∨ v = sv t.text := by simpa [tokc] using ht
    rcases this with rfl | rfl <;> rfl
  · intro g cap w' h1 h2 h3 h4 _
    refine hK _ _ ⟨?_, h2, ?_⟩
    · rw [List.length_append, hn, List.flatMap_append, ← hcs]; exact h1
    · refine (h3.block c h.lt ?_).trans h.blk
      intro e
      obtain ⟨cz, fz, hk⟩ := Lib.ownsRow_kind h.own c e.symm
      rw [h.blk] at hk
      injection hk with hk
      injection hk with _ hk _
      exact absurd hk (by decide)
theorem wpList_tks {Q : Exit → Act → World → Prop} (hgd : o.guard = none) (h : TkB W0 c cs u toks w0) (xs : List Tok) (n : Nat) (s x : Operand) (ho : o.op = .call { callee := .builtin .append, args := #[s, x], argTypes := #[29, 29] })
    (hs : a.eval s = u) (cs2 : Array Value) (hw : w = (w0.alloc (.cells cs2 48)).drew ∨ w = w0.alloc (.cells cs2 48)) (hcs : cs2.toList = xs.flatMap tokc) (hx : a.eval x = .slice (some ⟨w0.heap.size, 0, none⟩) n n) (hn : xs.length = n) (hp : 0 < n) (hl : toks.length + n ≤ 1000000)
    (hK : ∀ u' w', TkB W0 c cs u' (toks ++ xs) w' → wpList Tryz.prog ops Q rest (a.put o.dst u') w') : wpList Tryz.prog ops Q (o :: rest) a w :=
  wpList_plain hgd fun _ hKK => wp_tks h xs n s x ho hs cs2 hw hcs hx hn hp hl fun u' w' h' => hKK _ _ (hK u' w' h')
end

theorem scope_parts {s : Scp} (h : scopeB s = true) : 1 ≤ s.kind ∧ s.kind ≤ 4 ∧ 1 ≤ s.events ∧ s.events ≤ 15 ∧ s.names.length ≤ 3 := by
  unfold scopeB at h
  simp only [Bool.and_eq_true, decide_eq_true_eq] at h
  obtain ⟨⟨⟨h1, h2⟩, h3, h4⟩, h5⟩ := h
  refine ⟨h1, h2, h3, h4, ?_⟩
  split at h5
  · simp at h5; simp [h5]
  · simp only [Bool.and_eq_true, decide_eq_true_eq] at h5; omega
theorem filter_parts {f : Flt} (h : filterB f = true) : (∀ s ∈ f.scopes, scopeB s = true) ∧ f.scopes.length ≤ 3 := by
  unfold filterB at h
  simp only [Bool.and_eq_true, List.all_eq_true] at h
  refine ⟨h.1, ?_⟩
  have h2 := h.2
  split at h2
  · simp only [Bool.and_eq_true, decide_eq_true_eq] at h2; omega
  · simp at h2; simp [h2]
theorem evTks_len (ev : Int) : ∀ k, (evTks ev k).length ≤ k
  | 0 => by simp [evTks]
  | k + 1 => by
    have ih := evTks_len ev k
    unfold evTks at *
    rw [List.range_succ, List.flatMap_append, List.length_append]
    have : (List.flatMap (evTk ev) [k]).length ≤ 1 := by simp only [List.flatMap_cons, List.flatMap_nil, List.append_nil]; unfold evTk; split <;> simp
    omega
theorem scTks_len {s : Scp} (h : scopeB s = true) : (scTks s).length ≤ 14 := by
  have h1 := (scope_parts h).2.2.2.2
  have h2 := evTks_len s.events 4
  have h3 : (nmTks s).length ≤ 5 := by unfold nmTks; split <;> simp <;> omega
  unfold scTks
  simp only [List.length_cons, List.length_append, List.length_nil]
  omega
theorem scTks_take {l : List Scp} (h : ∀ s ∈ l, scopeB s = true) (k : Nat) : ((l.take k).flatMap scTks).length ≤ 14 * k := by
  induction k with
  | zero => simp
  | succ k ih =>
    by_cases hlt : k < l.length
    · obtain ⟨s, hs⟩ : ∃ s, l[k]? = some s := ⟨_, List.getElem?_eq_getElem hlt⟩
      rw [take_sc hs, List.flatMap_append, List.length_append]
      have := scTks_len (h s (List.mem_of_getElem? hs))
      simp only [List.flatMap_cons, List.flatMap_nil, List.append_nil]
      omega
    · rw [List.take_of_length_le (by omega)]
      rw [List.take_of_length_le (by omega)] at ih
      omega

end Go.Proofs.YtidjebepgpbcnaaGreatDoor

namespace Go.Proofs.YtidjebepgpbcnaaGreatDoor
open Go.RowKit

set_option maxRecDepth 20000 in
set_option maxHeartbeats 6400000 in
theorem specFilterTokens_any (f : Flt) (vs : Value) (w : World) (hr : LfRd w (scpsLf f.scopes) vs) (hl : f.scopes.length ≤ 140737488355328) (hx : ∀ s ∈ f.scopes, s.names.length ≤ 140737488355328 ∧ ∀ x ∈ s.names, x.length ≤ 140737488355328) :
    Calls Tryz.prog 27 #[.agg #[.bool f.on, vs]] w fun e w' => ∃ v, e = .returned v ∧ w'.ownsRow w.heap.size 48 2 v (fTks f).length ((fTks f).flatMap tokc) ∧ Below w.heap.size w w' := by
  obtain ⟨on, l⟩ := f
  simp only at *
  obtain ⟨p, c, rfl, _⟩ := scps_at hr
  have HR := Lib.hid hr
  have hb1 : Below w.heap.size w (w.alloc (.cells #[.bool on, .slice p l.length c] 34)) := (Below.refl _ _).alloc (Nat.le_refl _) _
  have hA : (w.alloc (.cells #[.bool on, .slice p l.length c] 34)).heap[w.heap.size]? = some (.cells #[.bool on, .slice p l.length c] 34 (0, 0)) := heap_alloc_new w _
  have hz1 : (w.alloc (.cells #[.bool on, .slice p l.length c] 34)).heap.size = w.heap.size + 1 := by simp
  obtain ⟨W0, hW0⟩ : ∃ W0, w.alloc (.cells #[.bool on, .slice p l.length c] 34) = W0 := ⟨_, rfl⟩
  have CO := Lib.hid (fun W h => specFilterOk_any ⟨on, l⟩ (.slice p l.length c) W h hl hx)
  have HW0 := Lib.hid hW0
  have HB1 := Lib.hid (hW0 ▸ hb1)
  have HA := Lib.hid (hW0 ▸ hA)
  have HZ1 := Lib.hid (hW0 ▸ hz1)
  clear hr hx hb1 hA hz1 hW0
  go_enter Tryz.func27, Tryz.ntmps27
  go_wp2_with fail
  rw [HW0.out]
  have hbA : Below W0.heap.size W0 (W0.alloc (.cells #[] 48)) := (Below.refl _ _).alloc (Nat.le_refl _) _
  have HO0 := Lib.hid (show (W0.alloc (.cells #[] 48)).ownsRow W0.heap.size 48 2 (.slice (some ⟨w.heap.size + 1, 0, none⟩) 0 0) 0 [] by rw [← HZ1.out]; exact World.ownsRow_made W0 #[] 0 (Nat.le_refl _) (by unfold maxLen; omega) rfl)
  have hzA : W0.heap.size ≤ (W0.alloc (.cells #[] 48)).heap.size := by simp
  refine (CO.out _ (LfRd.below (HB1.out.trans (hbA.mono (by rw [HZ1.out]; omega))) _ _ HR.out)).mono ?_
  rintro e w1 ⟨rfl, b1⟩
  have o1 := ownsRow_below HO0.out b1
  have hb1 := hbA.trans (b1.mono hzA)
  clear b1 hbA hzA CO
  have hfc : w.heap.size < W0.heap.size := by rw [HZ1.out]; omega
  have hq : ∀ W, Below W0.heap.size W0 W → W.cell? ⟨w.heap.size, 0, none⟩ = some (.bool on) ∧ W.cell? ⟨w.heap.size, 1, none⟩ = some (.slice p l.length c) := fun W hb =>
    ⟨(Lib.cell_of_heap ((hb.block w.heap.size hfc).trans HA.out) 0).trans rfl, (Lib.cell_of_heap ((hb.block w.heap.size hfc).trans HA.out) 1).trans rfl⟩
  have HQ := Lib.hid hq
  obtain ⟨q0, q1⟩ := hq w1 hb1
  have hz1 := hb1.size
  clear hq hfc
  cases hok : filterB ⟨on, l⟩ with
  | false =>
    have HV := Lib.hid (show fTks ⟨on, l⟩ = [] by unfold fTks; rw [hok]; rfl)
    clear hok q0 q1
    go_wp2
    go_ret
    exact ⟨_, rfl, by rw [HV.out]; exact own_lower o1 (by rw [HZ1.out]; omega), HB1.out.trans (hb1.mono (by rw [HZ1.out]; omega))⟩
  | true =>
    have HFT := Lib.hid (show fTks ⟨on, l⟩ = if on = true then atT [115, 101, 116] :: l.flatMap scTks else [atT [110, 111, 110, 101]] by unfold fTks; rw [hok]; rfl)
    obtain ⟨hf1, hf2⟩ := filter_parts hok
    have HF1 := Lib.hid hf1
    clear hok hf1
    simp only at hf2
    cases on with
    | false =>
      have C1 := Lib.hid (fun W => l6Atom_any [110, 111, 110, 101] W)
      go_wp2_with fail
      refine (C1.out _).mono ?_
      rintro e w2 ⟨rfl, b2⟩
      have o2 := ownsRow_below o1 b2
      have hb2 := hb1.trans (b2.mono hz1)
      have hz2 := hb2.size
      clear o1 hb1 b2 q0 q1 C1
      go_wp2_with (at_builtin; refine wpList_app1 Tryz.el_tok rfl (.tmp 16) (.tmp 18) rfl W0 w2 _ 0 _ rfl o2 hb2 hz2 #[.int .i64 1, sv [110, 111, 110, 101]] (.inr rfl) 1 1 rfl rfl (by simp [Value.oneCell']) (by omega) (by omega) (by omega) ?_)
      intro g cap w3 o3 hb3 _ _ _
      clear o2 hb2
      go_wp2
      go_ret
      exact ⟨_, rfl, by rw [HFT.out]; exact own_lower o3 (by rw [HZ1.out]; omega), HB1.out.trans (hb3.mono (by rw [HZ1.out]; omega))⟩
    | true =>
      have C1 := Lib.hid (fun W => l6Atom_any [115, 101, 116] W)
      go_wp2_with fail
      refine (C1.out _).mono ?_
      rintro e w2 ⟨rfl, b2⟩
      have o2 := ownsRow_below o1 b2
      have hb2 := hb1.trans (b2.mono hz1)
      have hz2 := hb2.size
      clear o1 hb1 b2 q0 q1 C1
      go_wp2_with (at_builtin; refine wpList_app1 Tryz.el_tok rfl (.tmp 20) (.tmp 22) rfl W0 w2 _ 0 _ rfl o2 hb2 hz2 #[.int .i64 1, sv [115, 101, 116]] (.inr rfl) 1 1 rfl rfl (by simp [Value.oneCell']) (by omega) (by omega) (by omega) ?_)
      intro g cap w3 o3 hb3 _ _ _
      have HO3 := Lib.hid (show w3.ownsRow W0.heap.size 48 2 (.slice (some ⟨g, 0, none⟩) 1 cap) (atT [115, 101, 116] :: (l.take 0).flatMap scTks).length ((atT [115, 101, 116] :: (l.take 0).flatMap scTks).flatMap tokc) from o3)
      clear o2 hb2 o3 hz1 hz2
      generalize (Value.slice (some ⟨g, 0, none⟩) 1 cap) = u3 at *
      go_wp2
      go_loopg [3, 4] l.length (fun gk u i wr => ∃ k : Nat, k ≤ l.length ∧ gk = l.length - k ∧ i = .int .i64 k ∧ wr.ownsRow W0.heap.size 48 2 u (atT [115, 101, 116] :: (l.take k).flatMap scTks).length ((atT [115, 101, 116] :: (l.take k).flatMap scTks).flatMap tokc) ∧ Below W0.heap.size W0 wr)
      case atStart => exact ⟨0, Nat.zero_le _, rfl, rfl, HO3.out, hb3⟩
      case round =>
        obtain ⟨k, hk, rfl, rfl, hown, hbr⟩ := hrel
        obtain ⟨q0, q1⟩ := HQ.out wr hbr
        have hz := hbr.size
        clear hb3 HO3
        by_cases hlt : k < l.length
        · obtain ⟨p', c', hv, hp⟩ := scps_at HR.out
          injection hv with e1 _ e2
          subst e1 e2
          obtain ⟨b, off, rfl, hb, hcell⟩ := hp.resolve_left (by intro h; subst h; simp at hlt)
          obtain ⟨s, hs⟩ : ∃ s, l[k]? = some s := ⟨_, List.getElem?_eq_getElem hlt⟩
          obtain ⟨vn, n1, x0, x1, x2⟩ := hcell k s hs
          have hbw := HB1.out.trans (hbr.mono (by rw [HZ1.out]; omega))
          have hsok := HF1.out s (List.mem_of_getElem? hs)
          obtain ⟨hk1, hk4, he1, he15, hn3⟩ := scope_parts hsok
          have e0 : wr.cell? ⟨b, off + k * 3, none⟩ = some (.int .i64 s.kind) := (hbw.cell (p := ⟨b, off + k * 3, none⟩) hb).trans x0
          have e1 : wr.cell? ⟨b, off + k * 3 + 1, none⟩ = some vn := (hbw.cell (p := ⟨b, off + k * 3 + 1, none⟩) hb).trans x1
          have e2 : wr.cell? ⟨b, off + k * 3 + 2, none⟩ = some (.int .i64 s.events) := (hbw.cell (p := ⟨b, off + k * 3 + 2, none⟩) hb).trans x2
          have HT := Lib.hid (show (l.take (k + 1)).flatMap scTks = (l.take k).flatMap scTks ++ scTks s by rw [take_sc hs]; simp)
          have HTL := Lib.hid (scTks_take HF1.out k)
          have N1 := Lib.hid (n1.below HB1.out)
          obtain ⟨pn, cn, rfl, _⟩ := n1.ex
          obtain ⟨kd, nm, ev⟩ := s
          simp only at hk1 hk4 he1 he15 hn3 e0 e1 e2 N1
          obtain ⟨q, rfl⟩ : ∃ q : Nat, kd = (q : Int) := ⟨kd.toNat, by omega⟩
          obtain ⟨sw, hsw⟩ : ∃ sw, scWords[q]? = some sw := ⟨_, List.getElem?_eq_getElem (show q < 5 by omega)⟩
          have HSW := Lib.hid hsw
          have TK0 := Lib.hid (show TkB W0 wr.heap.size #[.int .i64 (q : Int), .slice pn nm.length cn, .int .i64 ev] u3 (atT [115, 101, 116] :: (l.take k).flatMap scTks) (wr.alloc (.cells #[.int .i64 (q : Int), .slice pn nm.length cn, .int .i64 ev] 78)) from
            ⟨hown.alloc _, hbr.alloc hz _, heap_alloc_new wr _⟩)
          have HCZ := Lib.hid (show (wr.alloc (.cells #[.int .i64 (q : Int), .slice pn nm.length cn, .int .i64 ev] 78)).heap.size = wr.heap.size + 1 by simp)
          clear hcell hs n1 x0 x1 x2 hp hown hsok hsw
          have HTZ := Lib.hid (show (atT [115, 101, 116] :: (l.take k).flatMap scTks).length ≤ 50 by have := HTL.out; simp only [List.length_cons]; omega)
          generalize hT0 : (atT [115, 101, 116] :: (l.take k).flatMap scTks) = T0 at *
          have HT0 := Lib.hid hT0
          clear hT0 HTL
          go_wp2_with fail
          clear e0 e1 e2 q0 q1
          have HCZ2 := Lib.hid (show wr.heap.size < (wr.alloc (.cells #[.int .i64 (q : Int), .slice pn nm.length cn, .int .i64 ev] 78)).heap.size by rw [HCZ.out]; omega)
          generalize (wr.alloc (.cells #[.int .i64 (q : Int), .slice pn nm.length cn, .int .i64 ev] 78)) = X at *
          generalize wr.heap.size = cB at *
          have d0 : X.drew.cell? ⟨cB, 0, none⟩ = some (.int .i64 (q : Int)) := (Lib.cell_of_heap TK0.out.blk 0).trans rfl
          refine ord_start [(0, true), (3, true), (4, true), (1, false), (2, false), (5, true), (6, false), (7, false), (8, false), (9, false), (10, true)] (fun W => W.cell? ⟨cB, 0, none⟩ = some (.int .i64 (q : Int))) (by kernel_rfl) (by kernel_rfl) rfl (by kernel_rfl) ?_
          intro ops' hops
          clear hops
          simp only [List.map_cons, List.map_nil, pickOp_zero, pickOp_succ]
          iterate 3 (refine ord_flo ?_ (fun _ _ _ h => h) rfl ?_ d0 ?_; rotate_left; focus (intro _ _; go_simp; rfl))
          refine ord_ev rfl ?_
          go_simp
          refine (l6Open_any _).mono ?_
          rintro e w4 ⟨rfl, b4⟩
          have TK4 := Lib.hid (TK0.out.drew.call b4)
          have d4 : w4.cell? ⟨cB, 0, none⟩ = some (.int .i64 (q : Int)) := (Lib.cell_of_heap TK4.out.blk 0).trans rfl
          refine ⟨d4, ?_⟩
          clear d0 b4
          refine ord_ev rfl ?_
          go_simp
          refine (l6Words_any _).mono ?_
          rintro e w5 ⟨rfl, hw5, hz5, b5⟩
          have TK5 := Lib.hid (TK4.out.call b5)
          have d5 : w5.cell? ⟨cB, 0, none⟩ = some (.int .i64 (q : Int)) := (Lib.cell_of_heap TK5.out.blk 0).trans rfl
          have g5 : w5.cell? ⟨w4.heap.size, q, none⟩ = some (sv sw) := hw5 q sw HSW.out
          refine ⟨d5, ?_⟩
          clear d4 b5 hw5
          refine ord_flo (.pointer (some ⟨w4.heap.size, q, none⟩)) (fun _ _ _ h => h) rfl ?_ d5 ?_
          · intro W hS
            go_simp
            try (intro h; omega)
          refine ord_ev rfl ?_
          go_simp
          refine ord_ev rfl ?_
          go_simp
          refine (l6Atom_any _ _).mono ?_
          rintro e w6 ⟨rfl, b6⟩
          have TK6 := Lib.hid (TK5.out.call b6)
          have d6 : w6.cell? ⟨cB, 0, none⟩ = some (.int .i64 (q : Int)) := (Lib.cell_of_heap TK6.out.blk 0).trans rfl
          refine ⟨d6, ?_⟩
          clear d5 b6 g5
          have d7 : (w6.alloc (.cells #[.int .i64 3, sv [], .int .i64 1, sv sw] 48)).cell? ⟨cB, 0, none⟩ = some (.int .i64 (q : Int)) := (Lib.cell_of_heap (TK6.out.call ((Below.refl _ _).alloc (Nat.le_refl _) (.cells #[.int .i64 3, sv [], .int .i64 1, sv sw] 48))).blk 0).trans rfl
          refine ord_ev rfl ?_
          go_simp
          refine ord_ev rfl ?_
          refine wp_tks TK6.out [opT3, atT sw] 2 (.tmp 36) (.tmp 44) rfl rfl _ (.inr rfl) rfl rfl rfl (by omega) (by have := HTZ.out; omega) ?_
          intro u9 w9 TK9'
          have TK9 := Lib.hid TK9'
          have d9 : w9.cell? ⟨cB, 0, none⟩ = some (.int .i64 (q : Int)) := (Lib.cell_of_heap TK9'.blk 0).trans rfl
          refine ⟨d9, ?_⟩
          clear d7 d6 TK9'
          iterate 1 (refine ord_flo ?_ (fun _ _ _ h => h) rfl ?_ d9 ?_; rotate_left; focus (intro _ _; go_simp; rfl))
          refine ord_done ?_
          go_simp
          go_upto_if 48 with fail
          go_cut [3] (fun u wx => TkB W0 cB #[.int .i64 (q : Int), .slice pn nm.length cn, .int .i64 ev] u (T0 ++ [opT3, atT sw] ++ nmTks ⟨(q : Int), nm, ev⟩) wx)
          case first =>
            by_cases h3 : (3 : Int) ≤ (q : Int)
            · have HN := Lib.hid (show nmTks ⟨(q : Int), nm, ev⟩ = opT3 :: (nm.map atT ++ [clT4]) from if_pos h3)
              clear d9
              go_wp2_with fail
              refine (l6Open_any _).mono ?_
              rintro e wa ⟨rfl, ba⟩
              have TKa := Lib.hid (TK9.out.call ba)
              clear ba
              go_wp2_with (at_builtin; refine wpList_tks rfl TKa.out [opT3] 1 (.tmp 49) (.tmp 51) rfl rfl _ (.inr rfl) rfl rfl rfl (by omega) (by have := HTZ.out; simp only [List.length_append, List.length_cons, List.length_nil]; omega) ?_)
              intro ub wb TKb'
              have TKb := Lib.hid (show TkB W0 cB #[.int .i64 (q : Int), .slice pn nm.length cn, .int .i64 ev] ub (T0 ++ [opT3, atT sw] ++ [opT3] ++ (nm.take 0).map atT) wb by simpa using TKb')
              clear TKb'
              go_wp2
              go_loopg [3, 6] nm.length (fun gj u i wx => ∃ j : Nat, j ≤ nm.length ∧ gj = nm.length - j ∧ i = .int .i64 j ∧ TkB W0 cB #[.int .i64 (q : Int), .slice pn nm.length cn, .int .i64 ev] u (T0 ++ [opT3, atT sw] ++ [opT3] ++ (nm.take j).map atT) wx)
              case atStart => exact ⟨0, Nat.zero_le _, rfl, rfl, TKb.out⟩
              case round =>
                obtain ⟨j, hj, rfl, rfl, TKc'⟩ := hrel
                have TKc := Lib.hid TKc'
                have r1 : wr.cell? ⟨cB, 1, none⟩ = some (.slice pn nm.length cn) := (Lib.cell_of_heap TKc.out.blk 1).trans rfl
                clear TKc' TKa TKb
                by_cases hjl : j < nm.length
                · obtain ⟨x, hx⟩ : ∃ x, nm[j]? = some x := ⟨_, List.getElem?_eq_getElem hjl⟩
                  obtain ⟨pz, cz, hv, hp⟩ := (N1.out.below TKc.out.below).ex
                  injection hv with ev1 _ ev2
                  subst ev1 ev2
                  obtain ⟨b2, o2, rfl, hb2, hcell⟩ := hp.resolve_left (by intro h; subst h; simp at hjl)
                  have r2 : wr.cell? ⟨b2, o2 + j, none⟩ = some (sv x) := hcell j x hx
                  have HX := Lib.hid (show (nm.take (j + 1)).map atT = (nm.take j).map atT ++ [atT x] by rw [List.take_succ_eq_append_getElem hjl, List.map_append]; rw [List.getElem?_eq_getElem hjl] at hx; injection hx with hx; rw [hx]; rfl)
                  clear hcell hx hp
                  go_wp2_with fail
                  refine (l6Atom_any x _).mono ?_
                  rintro e wd ⟨rfl, bd⟩
                  have TKd := Lib.hid (TKc.out.call bd)
                  clear bd r1 r2 TKc
                  go_wp2_with (at_builtin; refine wpList_tks rfl TKd.out [atT x] 1 (.tmp 60) (.tmp 67) rfl rfl _ (.inr rfl) rfl rfl rfl (by omega) (by have := HTZ.out; simp only [List.length_append, List.length_cons, List.length_nil, List.length_map, List.length_take]; omega) ?_)
                  intro ue we TKe'
                  have TKe := Lib.hid TKe'
                  clear TKe' TKd
                  go_wp2
                  go_roundg (nm.length - (j + 1))
                  case measure => omega
                  case rel => exact ⟨j + 1, by omega, rfl, by go_num, by rw [HX.out]; simpa using TKe.out⟩
                · obtain rfl : j = nm.length := by omega
                  rw [List.take_length] at TKc
                  go_wp2_with fail
                  refine (l6Close_any _).mono ?_
                  rintro e wd ⟨rfl, bd⟩
                  have TKd := Lib.hid (TKc.out.call bd)
                  clear bd r1 TKc
                  go_wp2_with (at_builtin; refine wpList_tks rfl TKd.out [clT4] 1 (.tmp 69) (.tmp 71) rfl rfl _ (.inr rfl) rfl rfl rfl (by omega) (by have := HTZ.out; simp only [List.length_append, List.length_cons, List.length_nil, List.length_map]; omega) ?_)
                  intro ue we TKe'
                  have TKe := Lib.hid TKe'
                  clear TKe' TKd
                  go_wp2_with fail
                  go_meet
                  rw [HN.out]
                  simpa using TKe.out
            · have HN := Lib.hid (show nmTks ⟨(q : Int), nm, ev⟩ = [] from if_neg h3)
              go_wp2_with fail
              go_meet
              rw [HN.out, List.append_nil]
              exact TK9.out
          case rest =>
            have HTL1 := Lib.hid (show (T0 ++ [opT3, atT sw] ++ nmTks ⟨(q : Int), nm, ev⟩).length ≤ 60 by
              have h1 := HTZ.out
              have h2 : (nmTks ⟨(q : Int), nm, ev⟩).length ≤ 5 := by unfold nmTks; split <;> simp <;> omega
              simp only [List.length_append, List.length_cons, List.length_nil]
              omega)
            have HTE := Lib.hid (show scTks ⟨(q : Int), nm, ev⟩ = [opT3, atT sw] ++ nmTks ⟨(q : Int), nm, ev⟩ ++ [opT3] ++ evTks ev 4 ++ [clT4, clT4] by
              unfold scTks
              simp only
              rw [show ((q : Int)).toNat = q from rfl, List.getD_eq_getElem?_getD, HSW.out]
              simp)
            have TK9 := Lib.hid hcut
            clear hcut d9
            generalize hT1 : T0 ++ [opT3, atT sw] ++ nmTks ⟨(q : Int), nm, ev⟩ = T1 at *
            have HT1 := Lib.hid hT1
            clear hT1
            go_wp2_with fail
            refine (l6Open_any _).mono ?_
            rintro e wa ⟨rfl, ba⟩
            have TKa := Lib.hid (TK9.out.call ba)
            clear ba
            go_wp2_with (at_builtin; refine wpList_tks rfl TKa.out [opT3] 1 (.tmp 73) (.tmp 75) rfl rfl _ (.inr rfl) rfl rfl rfl (by omega) (by have := HTL1.out; omega) ?_)
            intro ub wb TKb'
            have TKb := Lib.hid (show TkB W0 cB #[.int .i64 (q : Int), .slice pn nm.length cn, .int .i64 ev] ub (T1 ++ [opT3] ++ evTks ev 0) wb by simpa [evTks] using TKb')
            clear TKb' TKa TK9
            go_wp2
            go_loopg [3, 7] 4 (fun gj u i wx => ∃ j : Nat, j ≤ 4 ∧ gj = 4 - j ∧ i = .int .i64 j ∧ TkB W0 cB #[.int .i64 (q : Int), .slice pn nm.length cn, .int .i64 ev] u (T1 ++ [opT3] ++ evTks ev j) wx)
            case atStart => exact ⟨0, Nat.zero_le _, rfl, rfl, TKb.out⟩
            case round =>
              obtain ⟨j, hj, rfl, rfl, TKc'⟩ := hrel
              have TKc := Lib.hid TKc'
              have r1 : wr.cell? ⟨cB, 2, none⟩ = some (.int .i64 ev) := (Lib.cell_of_heap TKc.out.blk 2).trans rfl
              clear TKc' TKb
              have hj5 : j = 0 ∨ j = 1 ∨ j = 2 ∨ j = 3 ∨ j = 4 := by omega
              rcases hj5 with rfl | rfl | rfl | rfl | rfl
              · have HE : evB ev 0 = (bits .and .i64 ev 1 == 1) := by simp [evB]
                have HS := Lib.hid (show evTks ev (0 + 1) = evTks ev 0 ++ evTk ev 0 by unfold evTks; rw [List.range_succ, List.flatMap_append]; simp)
                cases hev : evB ev 0 with
                | true =>
                  have HK := Lib.hid (show evTk ev 0 = [atT [110, 101, 119]] by unfold evTk; rw [hev]; rfl)
                  rw [hev] at HE
                  have HE2 := HE.symm
                  clear HE hev
                  go_wp2_with fail
                  refine (l6Events_any _).mono ?_
                  rintro e wd ⟨rfl, hwE, hzE, bd⟩
                  have r2 : wd.cell? ⟨wr.heap.size, 0, none⟩ = some (sv [110, 101, 119]) := hwE 0 _ rfl
                  have TKd := Lib.hid (TKc.out.call bd)
                  clear bd r1 TKc hwE
                  go_wp2_with fail
                  refine (l6Atom_any _ _).mono ?_
                  rintro e we ⟨rfl, be⟩
                  have TKe := Lib.hid (TKd.out.call be)
                  clear be r2 TKd
                  go_wp2_with (at_builtin; refine wpList_tks rfl TKe.out [atT [110, 101, 119]] 1 (.tmp 88) (.tmp 94) rfl rfl _ (.inr rfl) rfl rfl rfl (by omega) (by have := HTL1.out; have := evTks_len ev 0; simp only [List.length_append, List.length_cons, List.length_nil]; omega) ?_)
                  intro uf wf TKf'
                  have TKf := Lib.hid TKf'
                  clear TKf' TKe
                  go_wp2
                  go_roundg (4 - (0 + 1))
                  case measure => omega
                  case rel => exact ⟨0 + 1, by omega, rfl, by go_num, by rw [HS.out, HK.out]; simpa using TKf.out⟩
                | false =>
                  have HK := Lib.hid (show evTk ev 0 = [] by unfold evTk; rw [hev]; rfl)
                  rw [hev] at HE
                  have HE2 := HE.symm
                  clear HE hev
                  go_wp2
                  go_roundg (4 - (0 + 1))
                  case measure => omega
                  case rel => exact ⟨0 + 1, by omega, rfl, by go_num, by rw [HS.out, HK.out, List.append_nil]; exact TKc.out⟩
              · have HE : evB ev 1 = (bits .and .i64 (ev / 2) 1 == 1) := by simp [evB]
                have HS := Lib.hid (show evTks ev (1 + 1) = evTks ev 1 ++ evTk ev 1 by unfold evTks; rw [List.range_succ, List.flatMap_append]; simp)
                cases hev : evB ev 1 with
                | true =>
                  have HK := Lib.hid (show evTk ev 1 = [atT [103, 111, 110, 101]] by unfold evTk; rw [hev]; rfl)
                  rw [hev] at HE
                  have HE2 := HE.symm
                  clear HE hev
                  go_wp2_with fail
                  refine (l6Events_any _).mono ?_
                  rintro e wd ⟨rfl, hwE, hzE, bd⟩
                  have r2 : wd.cell? ⟨wr.heap.size, 1, none⟩ = some (sv [103, 111, 110, 101]) := hwE 1 _ rfl
                  have TKd := Lib.hid (TKc.out.call bd)
                  clear bd r1 TKc hwE
                  go_wp2_with fail
                  refine (l6Atom_any _ _).mono ?_
                  rintro e we ⟨rfl, be⟩
                  have TKe := Lib.hid (TKd.out.call be)
                  clear be r2 TKd
                  go_wp2_with (at_builtin; refine wpList_tks rfl TKe.out [atT [103, 111, 110, 101]] 1 (.tmp 88) (.tmp 94) rfl rfl _ (.inr rfl) rfl rfl rfl (by omega) (by have := HTL1.out; have := evTks_len ev 1; simp only [List.length_append, List.length_cons, List.length_nil]; omega) ?_)
                  intro uf wf TKf'
                  have TKf := Lib.hid TKf'
                  clear TKf' TKe
                  go_wp2
                  go_roundg (4 - (1 + 1))
                  case measure => omega
                  case rel => exact ⟨1 + 1, by omega, rfl, by go_num, by rw [HS.out, HK.out]; simpa using TKf.out⟩
                | false =>
                  have HK := Lib.hid (show evTk ev 1 = [] by unfold evTk; rw [hev]; rfl)
                  rw [hev] at HE
                  have HE2 := HE.symm
                  clear HE hev
                  go_wp2
                  go_roundg (4 - (1 + 1))
                  case measure => omega
                  case rel => exact ⟨1 + 1, by omega, rfl, by go_num, by rw [HS.out, HK.out, List.append_nil]; exact TKc.out⟩
              · have HE : evB ev 2 = (bits .and .i64 (ev / 4) 1 == 1) := by simp [evB]
                have HS := Lib.hid (show evTks ev (2 + 1) = evTks ev 2 ++ evTk ev 2 by unfold evTks; rw [List.range_succ, List.flatMap_append]; simp)
                cases hev : evB ev 2 with
                | true =>
                  have HK := Lib.hid (show evTk ev 2 = [atT [102, 108, 97, 103, 115]] by unfold evTk; rw [hev]; rfl)
                  rw [hev] at HE
                  have HE2 := HE.symm
                  clear HE hev
                  go_wp2_with fail
                  refine (l6Events_any _).mono ?_
                  rintro e wd ⟨rfl, hwE, hzE, bd⟩
                  have r2 : wd.cell? ⟨wr.heap.size, 2, none⟩ = some (sv [102, 108, 97, 103, 115]) := hwE 2 _ rfl
                  have TKd := Lib.hid (TKc.out.call bd)
                  clear bd r1 TKc hwE
                  go_wp2_with fail
                  refine (l6Atom_any _ _).mono ?_
                  rintro e we ⟨rfl, be⟩
                  have TKe := Lib.hid (TKd.out.call be)
                  clear be r2 TKd
                  go_wp2_with (at_builtin; refine wpList_tks rfl TKe.out [atT [102, 108, 97, 103, 115]] 1 (.tmp 88) (.tmp 94) rfl rfl _ (.inr rfl) rfl rfl rfl (by omega) (by have := HTL1.out; have := evTks_len ev 2; simp only [List.length_append, List.length_cons, List.length_nil]; omega) ?_)
                  intro uf wf TKf'
                  have TKf := Lib.hid TKf'
                  clear TKf' TKe
                  go_wp2
                  go_roundg (4 - (2 + 1))
                  case measure => omega
                  case rel => exact ⟨2 + 1, by omega, rfl, by go_num, by rw [HS.out, HK.out]; simpa using TKf.out⟩
                | false =>
                  have HK := Lib.hid (show evTk ev 2 = [] by unfold evTk; rw [hev]; rfl)
                  rw [hev] at HE
                  have HE2 := HE.symm
                  clear HE hev
                  go_wp2
                  go_roundg (4 - (2 + 1))
                  case measure => omega
                  case rel => exact ⟨2 + 1, by omega, rfl, by go_num, by rw [HS.out, HK.out, List.append_nil]; exact TKc.out⟩
              · have HE : evB ev 3 = (bits .and .i64 (ev / 8) 1 == 1) := by simp [evB]
                have HS := Lib.hid (show evTks ev (3 + 1) = evTks ev 3 ++ evTk ev 3 by unfold evTks; rw [List.range_succ, List.flatMap_append]; simp)
                cases hev : evB ev 3 with
                | true =>
                  have HK := Lib.hid (show evTk ev 3 = [atT [110, 97, 109, 101, 115]] by unfold evTk; rw [hev]; rfl)
                  rw [hev] at HE
                  have HE2 := HE.symm
                  clear HE hev
                  go_wp2_with fail
                  refine (l6Events_any _).mono ?_
                  rintro e wd ⟨rfl, hwE, hzE, bd⟩
                  have r2 : wd.cell? ⟨wr.heap.size, 3, none⟩ = some (sv [110, 97, 109, 101, 115]) := hwE 3 _ rfl
                  have TKd := Lib.hid (TKc.out.call bd)
                  clear bd r1 TKc hwE
                  go_wp2_with fail
                  refine (l6Atom_any _ _).mono ?_
                  rintro e we ⟨rfl, be⟩
                  have TKe := Lib.hid (TKd.out.call be)
                  clear be r2 TKd
                  go_wp2_with (at_builtin; refine wpList_tks rfl TKe.out [atT [110, 97, 109, 101, 115]] 1 (.tmp 88) (.tmp 94) rfl rfl _ (.inr rfl) rfl rfl rfl (by omega) (by have := HTL1.out; have := evTks_len ev 3; simp only [List.length_append, List.length_cons, List.length_nil]; omega) ?_)
                  intro uf wf TKf'
                  have TKf := Lib.hid TKf'
                  clear TKf' TKe
                  go_wp2
                  go_roundg (4 - (3 + 1))
                  case measure => omega
                  case rel => exact ⟨3 + 1, by omega, rfl, by go_num, by rw [HS.out, HK.out]; simpa using TKf.out⟩
                | false =>
                  have HK := Lib.hid (show evTk ev 3 = [] by unfold evTk; rw [hev]; rfl)
                  rw [hev] at HE
                  have HE2 := HE.symm
                  clear HE hev
                  go_wp2
                  go_roundg (4 - (3 + 1))
                  case measure => omega
                  case rel => exact ⟨3 + 1, by omega, rfl, by go_num, by rw [HS.out, HK.out, List.append_nil]; exact TKc.out⟩
              · go_wp2_with fail
                refine (l6Close_any _).mono ?_
                rintro e wd ⟨rfl, bd⟩
                have TKd := Lib.hid (TKc.out.call bd)
                clear bd r1 TKc
                go_wp2_with fail
                refine (l6Close_any _).mono ?_
                rintro e we ⟨rfl, be⟩
                have TKe := Lib.hid (TKd.out.call be)
                clear be TKd
                go_wp2_with (at_builtin; refine wpList_tks rfl TKe.out [clT4, clT4] 2 (.tmp 96) (.tmp 99) rfl rfl _ (.inr rfl) rfl rfl rfl (by omega) (by have := HTL1.out; have := evTks_len ev 4; simp only [List.length_append, List.length_cons, List.length_nil]; omega) ?_)
                intro uf wf TKf'
                have TKf := Lib.hid TKf'
                clear TKf' TKe
                have HFIN := Lib.hid (show (atT [115, 101, 116] :: (l.take (k + 1)).flatMap scTks) = T1 ++ [opT3] ++ evTks ev 4 ++ [clT4, clT4] by
                  rw [HT.out, ← HT1.out, ← HT0.out, HTE.out]
                  simp)
                go_wp2
                go_roundg (l.length - (k + 1))
                case measure => omega
                case rel => exact ⟨k + 1, by omega, rfl, by go_num, by rw [HFIN.out]; have h := TKf.out.own; simp only [List.append_assoc, List.singleton_append] at h ⊢; exact h, TKf.out.below⟩
        · obtain rfl : k = l.length := by omega
          rw [List.take_length] at hown
          go_wp2
          go_ret
          exact ⟨_, rfl, by rw [HFT.out, if_pos trivial]; exact own_lower hown (by rw [HZ1.out]; omega), HB1.out.trans (hbr.mono (by rw [HZ1.out]; omega))⟩

end Go.Proofs.YtidjebepgpbcnaaGreatDoor

namespace Go.Proofs.YtidjebepgpbcnaaGreatDoor
open Go.RowKit

theorem grown_set1 (w : World) (b j : Nat) (v : Value) : w.grownBy (w.setCell ⟨b, j, none⟩ v) (some b) :=
  ⟨rfl, rfl, rfl, by simp, fun k _ hne => Below.heap_setCell w _ v k (by intro e; subst e; exact hne rfl)⟩
/-- A cell of a younger block is set: the old memory stands as it stood. -/
theorem grown_set {w w1 : World} {row : Option Nat} {b : Nat} (h : w.grownBy w1 row) (hb : w.heap.size ≤ b) (j : Nat) (v : Value) : w.grownBy (w1.setCell ⟨b, j, none⟩ v) row :=
  grown_young h (grown_set1 w1 b j v) (fun k hk => by injection hk with hk; omega)
theorem Cur.set {w : World} {g b : Nat} {code : List UInt8} (h : Cur w g code) (hb : g < b) (j : Nat) (v : Value) : Cur (w.setCell ⟨b, j, none⟩ v) g code :=
  h.grown (grown_set1 w b j v) (fun k hk => by injection hk with hk; omega)
/-- Behind a draw the cells of a block that is not the cursor's stand. -/
theorem cells_grown {w w1 : World} {g b : Nat} (hg : w.grownBy w1 (some g)) (hb : b < w.heap.size) (hne : b ≠ g) : (∀ j, w1.cell? ⟨b, j, none⟩ = w.cell? ⟨b, j, none⟩) ∧ (∀ j, w1.frozen? ⟨b, j, none⟩ = w.frozen? ⟨b, j, none⟩) :=
  ⟨fun _ => World.cell?_of_block (hg.block b hb (by intro e; injection e with e; exact hne e)), fun _ => World.frozen?_of_block (hg.block b hb (by intro e; injection e with e; exact hne e))⟩

/-- The token's variable lies in block B, the result's place in block R. -/
structure BT (w : World) (B R : Nat) (k : Int) (tx : List UInt8) : Prop where
  p0 : w.cell? ⟨B, 0, none⟩ = some (.int .i64 k)
  p1 : w.cell? ⟨B, 1, none⟩ = some (sv tx)
  q0 : w.frozen? ⟨B, 0, none⟩ = false
  q1 : w.frozen? ⟨B, 1, none⟩ = false
  r0 : w.cell? ⟨R, 0, none⟩ = some (.int .i64 0)
  r1 : w.cell? ⟨R, 1, none⟩ = some (.string ⟨#[]⟩)
  s0 : w.frozen? ⟨R, 0, none⟩ = false
  s1 : w.frozen? ⟨R, 1, none⟩ = false
theorem BT.grown {w w1 : World} {B R g : Nat} {k : Int} {tx : List UInt8} (h : BT w B R k tx) (hg : w.grownBy w1 (some g)) (hB : ¬ B = g) (hR : ¬ R = g) : BT w1 B R k tx := by
  obtain ⟨c1, f1⟩ := cells_grown hg (World.block_lt_of_cell? _ _ h.p0) hB
  obtain ⟨c2, f2⟩ := cells_grown hg (World.block_lt_of_cell? _ _ h.r0) hR
  exact ⟨(c1 0).trans h.p0, (c1 1).trans h.p1, (f1 0).trans h.q0, (f1 1).trans h.q1, (c2 0).trans h.r0, (c2 1).trans h.r1, (f2 0).trans h.s0, (f2 1).trans h.s1⟩
theorem BT.below {w w1 : World} {B R : Nat} {k : Int} {tx : List UInt8} (h : BT w B R k tx) (hb : Below w.heap.size w w1) : BT w1 B R k tx := by
  have hB := World.block_lt_of_cell? _ _ h.p0
  have hR := World.block_lt_of_cell? _ _ h.r0
  exact ⟨(hb.cell (p := ⟨B, 0, none⟩) hB).trans h.p0, (hb.cell (p := ⟨B, 1, none⟩) hB).trans h.p1, (hb.frozen (p := ⟨B, 0, none⟩) hB).trans h.q0, (hb.frozen (p := ⟨B, 1, none⟩) hB).trans h.q1,
    (hb.cell (p := ⟨R, 0, none⟩) hR).trans h.r0, (hb.cell (p := ⟨R, 1, none⟩) hR).trans h.r1, (hb.frozen (p := ⟨R, 0, none⟩) hR).trans h.s0, (hb.frozen (p := ⟨R, 1, none⟩) hR).trans h.s1⟩
theorem BT.sets {w : World} {B R : Nat} {k : Int} {tx : List UInt8} (h : BT w B R k tx) (hne : ¬ R = B) :
    (∀ v, (w.setCell ⟨B, 0, none⟩ v).cell? ⟨B, 0, none⟩ = some v) ∧ (∀ v, (w.setCell ⟨B, 1, none⟩ v).cell? ⟨B, 1, none⟩ = some v) ∧
    (∀ v, (w.setCell ⟨R, 0, none⟩ v).cell? ⟨R, 0, none⟩ = some v) ∧ (∀ v v', ((w.setCell ⟨R, 0, none⟩ v).setCell ⟨R, 1, none⟩ v').cell? ⟨R, 1, none⟩ = some v') ∧
    (∀ u j v, ((w.setCell ⟨B, j, none⟩ u).setCell ⟨R, 0, none⟩ v).cell? ⟨R, 0, none⟩ = some v) ∧ (∀ u j v v', (((w.setCell ⟨B, j, none⟩ u).setCell ⟨R, 0, none⟩ v).setCell ⟨R, 1, none⟩ v').cell? ⟨R, 1, none⟩ = some v') := by
  have hr : ∀ u j i, (w.setCell ⟨B, j, none⟩ u).cell? ⟨R, i, none⟩ = w.cell? ⟨R, i, none⟩ := fun u j i => World.cell?_setCell_other w _ _ _ (by intro e; injection e with e _; exact hne e.symm)
  refine ⟨fun v => World.cell?_setCell_same w _ _ h.p0, fun v => World.cell?_setCell_same w _ _ h.p1, (two_set h.r0 h.r1).1, (two_set h.r0 h.r1).2, fun u j => (two_set ((hr u j 0).trans h.r0) ((hr u j 1).trans h.r1)).1, fun u j => (two_set ((hr u j 0).trans h.r0) ((hr u j 1).trans h.r1)).2⟩

end Go.Proofs.YtidjebepgpbcnaaGreatDoor

namespace Go.Proofs.YtidjebepgpbcnaaGreatDoor
open Go.RowKit

def ImplFilterTokens (G : World → Prop) : Prop := ∀ (f : Flt) (vs : Value) (W : World), G W → LfRd W (scpsLf f.scopes) vs → f.scopes.length ≤ 1048576 → (∀ s ∈ f.scopes, s.names.length ≤ 1048576 ∧ ∀ x ∈ s.names, x.length ≤ 1048576) → (∀ s ∈ f.scopes, in64 s.kind ∧ in64 s.events) →
  Calls Tryz.prog 33 #[.agg #[.bool f.on, vs]] W fun e w' => ∃ v, e = .returned v ∧ w'.ownsRow W.heap.size 48 2 v (fTks f).length ((fTks f).flatMap tokc) ∧ Below W.heap.size W w'

theorem mkEnd_scw : ∀ (l : List Scp) (k : Nat), mkEnd l k ≤ k + 2 * l.length + scw l
  | [], k => by simp [mkEnd]
  | s :: r, k => by
    have := mkEnd_scw r (k + 2 + s.names.length)
    simp only [mkEnd, scw, List.length_cons]
    omega
theorem fTks_len (f : Flt) : (fTks f).length ≤ 50 := by
  unfold fTks
  split
  · rename_i h
    obtain ⟨h1, h2⟩ := filter_parts h
    split
    · have := scTks_take h1 f.scopes.length
      rw [List.take_length] at this
      simp only [List.length_cons]
      omega
    · simp
  · simp

end Go.Proofs.YtidjebepgpbcnaaGreatDoor

namespace Go.Proofs.YtidjebepgpbcnaaGreatDoor
open Go.RowKit

theorem scWord_len (i : Nat) : (scWords.getD i []).length ≤ 8 := by
  match i with
  | 0 => decide
  | 1 => decide
  | 2 => decide
  | 3 => decide
  | 4 => decide
  | n + 5 => simp [scWords]
theorem evWord_len (i : Nat) : (evWords.getD i []).length ≤ 5 := by
  match i with
  | 0 => decide
  | 1 => decide
  | 2 => decide
  | 3 => decide
  | n + 4 => simp [evWords]
theorem fTks_text {f : Flt} {n : Nat} (hn : 8 ≤ n) (h : ∀ s ∈ f.scopes, ∀ x ∈ s.names, x.length ≤ n) : ∀ t ∈ fTks f, t.text.length ≤ n := by
  intro t ht
  have he : ∀ ev k, ∀ t ∈ evTks ev k, t.text.length ≤ n := by
    intro ev k t ht
    obtain ⟨i, _, hi⟩ := List.mem_flatMap.1 ht
    unfold evTk at hi
    split at hi
    · rw [List.mem_singleton.1 hi]
      have := evWord_len i
      show (evWords.getD i []).length ≤ n
      omega
    · cases hi
  have hsc : ∀ s ∈ f.scopes, ∀ t ∈ scTks s, t.text.length ≤ n := by
    intro s hs t ht
    unfold scTks at ht
    rcases List.mem_cons.1 ht with rfl | ht
    · exact Nat.zero_le _
    rcases List.mem_cons.1 ht with rfl | ht
    · have := scWord_len s.kind.toNat
      show (scWords.getD s.kind.toNat []).length ≤ n
      omega
    rcases List.mem_append.1 ht with ht | ht
    · unfold nmTks at ht
      split at ht
      · rcases List.mem_cons.1 ht with rfl | ht
        · exact Nat.zero_le _
        rcases List.mem_append.1 ht with ht | ht
        · obtain ⟨x, hx, rfl⟩ := List.mem_map.1 ht
          exact h s hs x hx
        · rw [List.mem_singleton.1 ht]; exact Nat.zero_le _
      · cases ht
    rcases List.mem_cons.1 ht with rfl | ht
    · exact Nat.zero_le _
    rcases List.mem_append.1 ht with ht | ht
    · exact he _ _ t ht
    · rcases List.mem_cons.1 ht with rfl | ht
      · exact Nat.zero_le _
      · rw [List.mem_singleton.1 ht]; exact Nat.zero_le _
  unfold fTks at ht
  split at ht
  · split at ht
    · rcases List.mem_cons.1 ht with rfl | ht
      · show 3 ≤ n; omega
      · obtain ⟨s, hs, ht⟩ := List.mem_flatMap.1 ht
        exact hsc s hs t ht
    · rw [List.mem_singleton.1 ht]; show 4 ≤ n; omega
  · cases ht

end Go.Proofs.YtidjebepgpbcnaaGreatDoor

namespace Go.Proofs.YtidjebepgpbcnaaGreatDoor
open Go.RowKit

def Tok.lf (x : Tok) : List Lf := [.int x.kind, .str x.text]
theorem Tok.len (x : Tok) : x.lf.length = 2 := rfl
def toksLf (l : List Tok) : Lf := .rows 48 2 l.length (l.flatMap Tok.lf)
theorem Tok.fit (x : Tok) : LsFit x.lf := ⟨trivial, trivial, trivial⟩
theorem toksLf_fit (l : List Tok) : LfFit (toksLf l) := ⟨by omega, flat_lenM Tok.len l, LsFit.flat Tok.fit l⟩
theorem Tok.sz (x : Tok) : szLs x.lf = x.text.length := by simp only [Tok.lf, szLs, szLf_int, szLf_str] <;> omega
theorem Tok.cnt (x : Tok) : cntLs x.lf = 1 + 1 := by simp only [Tok.lf, cntLs, cntLf_int, cntLf_str] <;> omega
theorem Tok.rd {W : World} {x : Tok} {vs : List Value} : LsRd W x.lf vs ↔ vs = [.int .i64 x.kind, sv x.text] := by
  constructor
  · rintro ⟨a0, s0, rfl, h0, a1, s1, rfl, h1, rfl⟩
    exact by rw [h0, h1]
  · rintro rfl
    exact ⟨_, _, rfl, rfl, _, _, rfl, rfl, rfl⟩
theorem Tok.mark (x : Tok) (k : Nat) : (markLs x.lf k).1 = [.int ((k : Nat) : Int), .str (markB (k + 1))] := by simp only [Tok.lf, markLs, markLf_int, markLf_str]
theorem Tok.rdm {W : World} {x : Tok} {k : Nat} {vs : List Value} : LsRd W (markLs x.lf k).1 vs ↔ vs = [.int .i64 ((k : Nat) : Int), sv (markB (k + 1))] := by
  rw [Tok.mark]
  constructor
  · rintro ⟨a0, s0, rfl, h0, a1, s1, rfl, h1, rfl⟩
    exact by rw [h0, h1]
  · rintro rfl
    exact ⟨_, _, rfl, rfl, _, _, rfl, rfl, rfl⟩
theorem Tok.in_of {W : World} {z0 : Int} {z1 : List UInt8} {vs : List Value} {fp : List Nat} (h : LsIn W [.int z0, .str z1] vs fp) : vs = [.int .i64 z0, sv z1] ∧ fp = [] := by
  obtain ⟨a0, s0, f0, g0, rfl, h0, ⟨a1, s1, f1, g1, rfl, h1, ⟨rfl, rfl⟩, rfl⟩, rfl⟩ := h
  exact ⟨by rw [h0.1, h1.1], by rw [h0.2, h1.2]; simp⟩
theorem Tok.in_mk {W : World} {z0 : Int} {z1 : List UInt8}  : LsIn W [.int z0, .str z1] [.int .i64 z0, sv z1] ([]) := by
  have h : LsIn W [.int z0, .str z1] [.int .i64 z0, sv z1] ([] ++ ([] ++ ([]))) := ⟨_, _, [], _, rfl, ⟨rfl, rfl⟩, ⟨_, _, [], _, rfl, ⟨rfl, rfl⟩, ⟨rfl, rfl⟩, rfl⟩, rfl⟩
  simpa using h

theorem Tok.at {W : World} {l : List Tok} {v : Value} (h : LfRd W (toksLf l) v) : ∃ p cap, v = .slice p l.length cap ∧ (l = [] ∨ ∃ b off, p = some ⟨b, off, none⟩ ∧ b < W.heap.size ∧ ∀ i x, l[i]? = some x → W.cell? ⟨b, off + i * 2, none⟩ = some (.int .i64 x.kind) ∧ W.cell? ⟨b, off + i * 2 + 1, none⟩ = some (sv x.text)) := by
  obtain ⟨p, cap, hv, hc⟩ := rows_at Tok.len h
  refine ⟨p, cap, hv, hc.imp id fun ⟨b, off, hp, hlt, hc⟩ => ⟨b, off, hp, hlt, fun i x hi => ?_⟩⟩
  obtain ⟨us, h1, h2⟩ := hc i x hi
  obtain rfl := Tok.rd.1 h1
  exact ⟨h2 0 _ rfl, h2 1 _ rfl⟩
theorem Tok.atm {W : World} {l : List Tok} {v : Value} {k0 : Nat} (h : LfRd W (markLf (toksLf l) k0).1 v) : ∃ p cap, v = .slice p l.length cap ∧ (l = [] ∨ ∃ b off, p = some ⟨b, off, none⟩ ∧ b < W.heap.size ∧ ∀ i x k, l[i]? = some x → k = k0 + cntLs ((l.take i).flatMap Tok.lf) → W.cell? ⟨b, off + i * 2, none⟩ = some (.int .i64 ((k : Nat) : Int)) ∧ W.cell? ⟨b, off + i * 2 + 1, none⟩ = some (sv (markB (k + 1)))) := by
  obtain ⟨p, cap, hv, hc⟩ := rows_at_mark Tok.len h
  refine ⟨p, cap, hv, hc.imp id fun ⟨b, off, hp, hlt, hc⟩ => ⟨b, off, hp, hlt, fun i x k hi hk => ?_⟩⟩
  obtain ⟨us, h1, h2⟩ := hc i x hi
  rw [← hk] at h1
  obtain rfl := Tok.rdm.1 h1
  exact ⟨h2 0 _ rfl, h2 1 _ rfl⟩

set_option maxHeartbeats 1600000 in
theorem eqToken_g (x : Tok) (w : World) (_hs : szLs x.lf ≤ 1000000000000) :
    Calls Tryz.prog 34 #[.agg #[.int .i64 x.kind, sv x.text], .agg #[.int .i64 x.kind, sv x.text]] w fun e w' => e = .returned (.bool true) ∧ Below w.heap.size w w' := by
  go_enter Tryz.func34, Tryz.ntmps34
  go_wp2
  go_ret
  exact ⟨rfl, ((Below.refl _ _).alloc (Nat.le_refl _) _).alloc (by simp) _⟩

set_option maxHeartbeats 3200000 in
theorem eqTokenS_g (a b : Value) (l : List Tok) (w : World) (ha : LfRd w (toksLf l) a) (hb : LfRd w (toksLf l) b) (hs : szLf (toksLf l) ≤ 1000000000000) :
    Calls Tryz.prog 9 #[a, b] w fun e w' => e = .returned (.bool true) ∧ Below w.heap.size w w' := by
  have hs2 : l.length + szLs (l.flatMap Tok.lf) ≤ 1000000000000 := hs
  clear hs
  obtain ⟨p, c1, rfl, hp⟩ := Tok.at ha
  obtain ⟨q, c2, rfl, hq⟩ := Tok.at hb
  clear ha hb
  have HP := Lib.hid hp
  have HQ := Lib.hid hq
  clear hp hq
  have HL := Lib.hid hs2
  have hll : l.length ≤ 1000000000000 := by omega
  clear hs2
  go_enter Tryz.func9, Tryz.ntmps9
  go_wp2
  go_loopw [5] (fun i wr => ∃ k : Nat, k ≤ l.length ∧ i = .int .i64 k ∧ Below w.heap.size w wr) (fun i _ => l.length - (intOf i).toNat)
  case atStart => exact ⟨0, by omega, rfl, Below.refl _ _⟩
  case round =>
    obtain ⟨k, hk, rfl, hbr⟩ := hrel
    have hbr0 := hbr.size
    by_cases hlt : k < l.length
    · obtain ⟨b1, o1, rfl, hb1, hc1⟩ := HP.out.resolve_left (by intro h; subst h; simp at hlt)
      obtain ⟨b2, o2, rfl, hb2, hc2⟩ := HQ.out.resolve_left (by intro h; subst h; simp at hlt)
      obtain ⟨s, hs⟩ : ∃ s, l[k]? = some s := ⟨_, List.getElem?_eq_getElem hlt⟩
      obtain ⟨x0, x1⟩ := hc1 k s hs
      obtain ⟨y0, y1⟩ := hc2 k s hs
      have e0 : wr.drew.cell? ⟨b1, o1 + k * 2, none⟩ = some (.int .i64 s.kind) := (hbr.cell (p := ⟨b1, o1 + k * 2, none⟩) hb1).trans x0
      have f0 : wr.drew.cell? ⟨b2, o2 + k * 2, none⟩ = some (.int .i64 s.kind) := (hbr.cell (p := ⟨b2, o2 + k * 2, none⟩) hb2).trans y0
      have e1 : wr.drew.cell? ⟨b1, o1 + k * 2 + 1, none⟩ = some (sv s.text) := (hbr.cell (p := ⟨b1, o1 + k * 2 + 1, none⟩) hb1).trans x1
      have f1 : wr.drew.cell? ⟨b2, o2 + k * 2 + 1, none⟩ = some (sv s.text) := (hbr.cell (p := ⟨b2, o2 + k * 2 + 1, none⟩) hb2).trans y1
      have hsm := szLs_mem Tok.lf (List.mem_of_getElem? hs)
      have CE := Lib.hid (eqToken_g s wr.drew (by have := HL.out; omega))
      clear hc1 hc2 hs HP HQ hsm x0 y0 x1 y1
      go_wp2
      refine ord_start [(0, true), (1, true), (2, true), (3, true), (4, true), (5, true), (6, true), (7, true), (8, false), (9, true)] (fun W => (W.cell? ⟨b1, o1 + k * 2, none⟩ = some (.int .i64 s.kind) ∧ W.cell? ⟨b1, o1 + k * 2 + 1, none⟩ = some (sv s.text)) ∧ W.cell? ⟨b2, o2 + k * 2, none⟩ = some (.int .i64 s.kind) ∧ W.cell? ⟨b2, o2 + k * 2 + 1, none⟩ = some (sv s.text)) (by kernel_rfl) (by kernel_rfl) rfl (by kernel_rfl) ?_
      intro ops' hops
      clear hops
      simp only [List.map_cons, List.map_nil, pickOp_zero, pickOp_succ]
      iterate 8 (refine ord_flo ?_ (fun _ _ _ h => h) rfl ?_ ⟨⟨e0, e1⟩, f0, f1⟩ ?_; rotate_left; focus (intro W hS; obtain ⟨⟨s0, s1⟩, t0, t1⟩ := hS; go_simp; rfl))
      refine ord_ev rfl ?_
      go_simp
      refine (CE.out).mono ?_
      rintro e w2 ⟨rfl, bb⟩
      have hb2' := hbr.drew.trans (bb.mono (by show w.heap.size ≤ wr.heap.size; omega))
      have hlt1 : b1 < wr.drew.heap.size := Nat.lt_of_lt_of_le hb1 hbr0
      have hlt2 : b2 < wr.drew.heap.size := Nat.lt_of_lt_of_le hb2 hbr0
      have HE := Lib.hid (show (fun W : World => (W.cell? ⟨b1, o1 + k * 2, none⟩ = some (.int .i64 s.kind) ∧ W.cell? ⟨b1, o1 + k * 2 + 1, none⟩ = some (sv s.text)) ∧ W.cell? ⟨b2, o2 + k * 2, none⟩ = some (.int .i64 s.kind) ∧ W.cell? ⟨b2, o2 + k * 2 + 1, none⟩ = some (sv s.text)) w2 from ⟨⟨(bb.cell (p := ⟨b1, o1 + k * 2, none⟩) hlt1).trans e0, (bb.cell (p := ⟨b1, o1 + k * 2 + 1, none⟩) hlt1).trans e1⟩, (bb.cell (p := ⟨b2, o2 + k * 2, none⟩) hlt2).trans f0, (bb.cell (p := ⟨b2, o2 + k * 2 + 1, none⟩) hlt2).trans f1⟩)
      refine ⟨HE.out, ?_⟩
      iterate 1 (refine ord_flo ?_ (fun _ _ _ h => h) rfl ?_ HE.out ?_; rotate_left; focus (intro W hS; obtain ⟨⟨s0, s1⟩, t0, t1⟩ := hS; go_simp; rfl))
      refine ord_done ?_
      go_simp
      clear e0 f0 e1 f1 bb hbr hbr0 CE HE
      go_wp2
      go_roundw
      case rel => exact ⟨k + 1, by omega, by go_num, hb2'⟩
      case measure => simp [intOf]; omega
    · obtain rfl : k = l.length := by omega
      go_wp2
      go_ret
      exact ⟨rfl, hbr⟩

set_option maxRecDepth 20000 in
set_option maxHeartbeats 6400000 in
theorem markTokenS_g (v : Value) (l : List Tok) (kk : Int) (k : Nat) (hkk : kk = (k : Int)) (fp : List Nat) (w : World) (hi : LfIn w (toksLf l) v fp) (hnd : fp.Nodup) (hk : k + cntLf (toksLf l) ≤ 1000000000000) (hs : szLf (toksLf l) ≤ 1000000000000) :
    Calls Tryz.prog 12 #[v, .int .i64 kk] w fun e w' => e = .returned (.int .i64 ((k + cntLf (toksLf l) : Nat) : Int)) ∧ LfIn w' (markLf (toksLf l) k).1 v fp ∧ GrownIn w w' fp := by
  subst hkk
  have hs2 : l.length + szLs (l.flatMap Tok.lf) ≤ 1000000000000 := hs
  have hll : l.length ≤ 1000000000000 := by omega
  have HSZ := Lib.hid hs2
  have HCN := Lib.hid (show k + cntLs (l.flatMap Tok.lf) ≤ 1000000000000 from hk)
  clear hk hs hs2
  obtain ⟨hfl, xs, fq, hown0, hin0, rfl⟩ := hi
  have hex : ∃ p c, v = .slice p l.length c ∧ (0 < l.length → ∃ g, p = some ⟨g, 0, none⟩) := by
    rcases h : hown0.2 with ⟨hv, h0⟩ | ⟨g, cap, cur, hv, _⟩
    · exact ⟨none, 0, by rw [hv, h0], fun h => by omega⟩
    · exact ⟨_, cap, hv, fun _ => ⟨g, rfl⟩⟩
  obtain ⟨p, c, rfl, hp⟩ := hex
  have HP := Lib.hid hp
  have HND := Lib.hid hnd
  clear hp hnd hfl
  generalize hFP : (Value.slice p l.length c).ownBlock.toList ++ fq = fp at *
  have HFP := Lib.hid hFP
  clear hFP
  go_enter Tryz.func12, Tryz.ntmps12
  go_wp2
  go_loopw [1, 5] (fun kk i wr => ∃ (j q : Nat) (A R : List Value) (fA fR : List Nat), j ≤ l.length ∧ i = .int .i64 j ∧ kk = .int .i64 (q : Int) ∧ q = k + cntLs ((l.take j).flatMap Tok.lf) ∧ A.length = j * 2 ∧ wr.ownsRow 0 48 2 (.slice p l.length c) l.length (A ++ R) ∧ LsIn wr (markLs ((l.take j).flatMap Tok.lf) k).1 A fA ∧ LsIn wr ((l.drop j).flatMap Tok.lf) R fR ∧ fA ++ fR = fq ∧ GrownIn w wr fp) (fun _ i _ => l.length - (intOf i).toNat)
  case atStart => exact ⟨0, k, [], xs, [], fq, by omega, rfl, rfl, by simp [cntLs], by simp, hown0, ⟨rfl, rfl⟩, hin0, rfl, GrownIn.refl _ _⟩
  case round =>
    obtain ⟨j, q, A, R, fA, fR, hj, rfl, rfl, hq, hA, hown, hiA, hiR, hff, hgr⟩ := hrel
    clear hown0 hin0
    by_cases hlt : j < l.length
    · obtain ⟨g, rfl⟩ := HP.out (by omega)
      obtain ⟨s, hs⟩ : ∃ s, l[j]? = some s := ⟨_, List.getElem?_eq_getElem hlt⟩
      have hdr : l.drop j = s :: l.drop (j + 1) := by
        obtain ⟨h1, h2⟩ := List.getElem?_eq_some_iff.1 hs
        rw [List.drop_eq_getElem_cons h1, h2]
      rw [hdr, List.flatMap_cons] at hiR
      obtain ⟨u1, R2, f_, f2, rfl, hi1, hiR2, rfl⟩ := LsIn.append.1 hiR
      obtain ⟨rfl, rfl⟩ := Tok.in_of hi1
      simp only [List.cons_append, List.nil_append] at hown
      have HMK := Lib.hid (show (markLs ((l.take (j + 1)).flatMap Tok.lf) k).1 = (markLs ((l.take j).flatMap Tok.lf) k).1 ++ (markLs s.lf q).1 by rw [flat_take_succ Tok.lf hs, markLs_app, hq])
      have HEN := Lib.hid (show k + cntLs ((l.take (j + 1)).flatMap Tok.lf) = q + cntLs s.lf by rw [flat_take_succ Tok.lf hs, cntLs_append, hq]; omega)
      have hcb : q + cntLs s.lf ≤ 1000000000000 := by have h1 := cntLs_flat_take Tok.lf l (j + 1); have h2 := HEN.out; have h3 := HCN.out; omega
      rw [Tok.cnt] at hcb
      have hsb : szLs s.lf ≤ 1000000000000 := by have h1 := szLs_mem Tok.lf (List.mem_of_getElem? hs); have h2 := HSZ.out; omega
      rw [Tok.sz] at hsb
      have hnd2 : (g :: (fA ++ ([] ++ f2))).Nodup := by have h1 := HND.out; have h2 := HFP.out; rw [← hff] at h2; rw [← h2] at h1; exact h1
      obtain ⟨hg0, hn0⟩ := List.nodup_cons.1 hnd2
      obtain ⟨dA, _, hn1⟩ := nd_parts hn0
      obtain ⟨dF, hnr, _⟩ := nd_parts hn1
      have gA : g ∉ fA := fun hm => hg0 (by simp [hm])
      have gF : g ∉ f2 := fun hm => hg0 (by simp [hm])
      have hgf : g ∈ fp := by rw [← HFP.out]; simp [Value.ownBlock]
      have HQ := Lib.hid hq
      have HFF := Lib.hid hff
      have HCB := Lib.hid hcb
      have HSB := Lib.hid hsb
      have hqb : q ≤ 1000000000000 := by omega
      clear hq hff hcb hsb hs hdr hi1 hiR hnd2 hn0 hn1 hnr HP
      have c0 := own_cell (L := (.int .i64 s.kind) :: (sv s.text) :: R2) hown hA 0 _ rfl
      have z0 : wr.frozen? ⟨g, j * 2, none⟩ = false := own_free hown _
      rw [Nat.add_zero] at c0
      have p0 : (wr.setCell ⟨g, j * 2, none⟩ (.int .i64 (q : Int))).ownsRow 0 48 2 (.slice (some ⟨g, 0, none⟩) l.length c) l.length (A ++ (.int .i64 (q : Int)) :: (sv s.text) :: R2) := own_at (L := (.int .i64 s.kind) :: (sv s.text) :: R2) hown hA 0 (.int .i64 (q : Int))
      have gs : GrownIn wr (wr.setCell ⟨g, j * 2, none⟩ (.int .i64 (q : Int))) [g] := (GrownIn.refl wr [g]).trans (GrownIn.set (by simp))
      replace hiA := LsIn.apart hiA gs (fun q hq hm => by simp at hm; exact gA (hm ▸ hq))
      replace hiR2 := LsIn.apart hiR2 gs (fun q hq hm => by simp at hm; exact gF (hm ▸ hq))
      replace hgr := hgr.trans (gs.mono (fun q hq => by simp at hq; exact hq ▸ hgf))
      clear gs
      have PP := Lib.hid p0
      have IA := Lib.hid hiA
      have IR := Lib.hid hiR2
      have GR := Lib.hid hgr
      clear hiA hiR2 hgr hown p0 
      go_wp2_with fail
      refine (markText_k _ (q + 1) (by omega) _ (by omega)).mono ?_
      rintro e w1 ⟨rfl, b1⟩
      have hiA := IA.out
      have hiR2 := IR.out
      have hgr := GR.out
      have hown := PP.out
      clear IA IR GR PP c0 z0
      have gb : GrownIn (wr.setCell ⟨g, j * 2, none⟩ (.int .i64 (q : Int))) w1 [] := GrownIn.of_below b1
      replace hown := ownsRow_below hown b1
      replace hiA := LsIn.apart hiA gb (fun _ _ h => by cases h)
      replace hiR2 := LsIn.apart hiR2 gb (fun _ _ h => by cases h)
      replace hgr := hgr.trans (gb.mono (fun _ h => by cases h))
      clear b1 gb
      have c1 := own_cell (L := (.int .i64 (q : Int)) :: (sv s.text) :: R2) hown hA 1 _ rfl
      have z1 : w1.frozen? ⟨g, j * 2 + 1, none⟩ = false := own_free hown _
      have p1 : (w1.setCell ⟨g, j * 2 + 1, none⟩ (sv (markB (q + 1)))).ownsRow 0 48 2 (.slice (some ⟨g, 0, none⟩) l.length c) l.length (A ++ (.int .i64 (q : Int)) :: (sv (markB (q + 1))) :: R2) := own_at (L := (.int .i64 (q : Int)) :: (sv s.text) :: R2) hown hA 1 (sv (markB (q + 1)))
      have gs : GrownIn w1 (w1.setCell ⟨g, j * 2 + 1, none⟩ (sv (markB (q + 1)))) [g] := (GrownIn.refl w1 [g]).trans (GrownIn.set (by simp))
      replace hiA := LsIn.apart hiA gs (fun q hq hm => by simp at hm; exact gA (hm ▸ hq))
      replace hiR2 := LsIn.apart hiR2 gs (fun q hq hm => by simp at hm; exact gF (hm ▸ hq))
      replace hgr := hgr.trans (gs.mono (fun q hq => by simp at hq; exact hq ▸ hgf))
      clear gs
      have PP := Lib.hid p1
      have IA := Lib.hid hiA
      have IR := Lib.hid hiR2
      have GR := Lib.hid hgr
      clear hiA hiR2 hgr hown p1 
      go_wp2
      go_roundw
      case rel =>
        refine ⟨j + 1, q + cntLs s.lf, A ++ [(.int .i64 (q : Int)), (sv (markB (q + 1)))], R2, fA ++ ([]), f2, by omega, by go_num, ?_, HEN.out.symm, by simp; omega, by simpa using PP.out, ?_, IR.out, by rw [List.append_assoc]; exact HFF.out, GR.out⟩
        · rw [Tok.cnt]
          congr 1 <;> omega
        · rw [HMK.out, Tok.mark]
          exact LsIn.append.2 ⟨A, _, fA, _, rfl, IA.out, Tok.in_mk, rfl⟩
      case measure => simp [intOf]; omega
    · obtain rfl : j = l.length := by omega
      have hR0 : R = [] ∧ fR = [] := by rw [List.drop_length] at hiR; exact hiR
      obtain ⟨rfl, rfl⟩ := hR0
      rw [List.append_nil] at hown hff
      rw [List.take_length] at hiA hq
      subst hff
      have HT := Lib.hid (show LfIn wr (markLf (toksLf l) k).1 (.slice p l.length c) fp from ⟨by rw [markLs_length]; exact flat_lenM Tok.len l, A, fA, own_base hown, hiA, HFP.out.symm⟩)
      have HV := Lib.hid (show q = k + cntLf (toksLf l) from hq)
      clear hiA hiR hown hA hq
      go_wp2
      go_ret
      exact ⟨by rw [HV.out]; rfl, HT.out, hgr⟩

set_option maxRecDepth 20000 in
set_option maxHeartbeats 6400000 in
theorem heldTokenS_g (v : Value) (l : List Tok) (kk : Int) (k : Nat) (hkk : kk = (k : Int)) (w : World) (hr : LfRd w (markLf (toksLf l) k).1 v) (hk : k + cntLf (toksLf l) ≤ 1000000000000) (hs : szLf (toksLf l) ≤ 1000000000000) :
    Calls Tryz.prog 13 #[v, .int .i64 kk] w fun e w' => e = .returned (.int .i64 ((k + cntLf (toksLf l) : Nat) : Int)) ∧ Below w.heap.size w w' := by
  subst hkk
  have hs2 : l.length + szLs (l.flatMap Tok.lf) ≤ 1000000000000 := hs
  have hll : l.length ≤ 1000000000000 := by omega
  have HSZ := Lib.hid hs2
  have HCN := Lib.hid (show k + cntLs (l.flatMap Tok.lf) ≤ 1000000000000 from hk)
  have HV := Lib.hid (show cntLf (toksLf l) = cntLs (l.flatMap Tok.lf) from rfl)
  clear hk hs hs2
  obtain ⟨p, c, rfl, hp⟩ := Tok.atm hr
  have HP := Lib.hid hp
  clear hp hr
  go_enter Tryz.func13, Tryz.ntmps13
  go_wp2
  go_loopw [1, 5] (fun kk i wr => ∃ j q : Nat, j ≤ l.length ∧ i = .int .i64 j ∧ kk = .int .i64 (q : Int) ∧ q = k + cntLs ((l.take j).flatMap Tok.lf) ∧ Below w.heap.size w wr) (fun _ i _ => l.length - (intOf i).toNat)
  case atStart => exact ⟨0, k, by omega, rfl, rfl, by simp [cntLs], Below.refl _ _⟩
  case round =>
    obtain ⟨j, q, hj, rfl, rfl, hq, hbr⟩ := hrel
    have hbr0 := hbr.size
    by_cases hlt : j < l.length
    · obtain ⟨b1, o1, rfl, hb1, hc1⟩ := HP.out.resolve_left (by intro h; subst h; simp at hlt)
      obtain ⟨s, hs⟩ : ∃ s, l[j]? = some s := ⟨_, List.getElem?_eq_getElem hlt⟩
      obtain ⟨x0, x1⟩ := hc1 j s q hs hq
      have HEN := Lib.hid (show q + cntLs s.lf = k + cntLs ((l.take (j + 1)).flatMap Tok.lf) by rw [flat_take_succ Tok.lf hs, cntLs_append, hq]; omega)
      have hcb : q + cntLs s.lf ≤ 1000000000000 := by have h1 := cntLs_flat_take Tok.lf l (j + 1); have h2 := HEN.out; have h3 := HCN.out; omega
      rw [Tok.cnt] at hcb
      have hsb : szLs s.lf ≤ 1000000000000 := by have h1 := szLs_mem Tok.lf (List.mem_of_getElem? hs); have h2 := HSZ.out; omega
      rw [Tok.sz] at hsb
      have e0 : wr.cell? ⟨b1, o1 + j * 2, none⟩ = some (.int .i64 (q : Int)) := by
        rw [(hbr.cell (p := ⟨b1, o1 + j * 2, none⟩) hb1), x0]
      have e1 : wr.cell? ⟨b1, o1 + j * 2 + 1, none⟩ = some (sv (markB (q + 1))) := by
        rw [(hbr.cell (p := ⟨b1, o1 + j * 2 + 1, none⟩) hb1), x1]
      have hlb : b1 < wr.heap.size := Nat.lt_of_lt_of_le hb1 hbr0
      have hqb : q ≤ 1000000000000 := by omega
      have HQ := Lib.hid hq
      have HCB := Lib.hid hcb
      have HSB := Lib.hid hsb
      clear hc1 hs HP hcb hsb hq x0 x1
      go_wp2
      refine ord_start [(0, true), (1, true), (2, true), (3, true), (4, true), (5, true), (6, false), (7, true)] (fun W => W.cell? ⟨b1, o1 + j * 2 + 1, none⟩ = some (sv (markB (q + 1)))) (by kernel_rfl) (by kernel_rfl) rfl (by kernel_rfl) ?_
      intro ops' hops
      clear hops
      simp only [List.map_cons, List.map_nil, pickOp_zero, pickOp_succ]
      have ED := Lib.hid (show (fun W : World => W.cell? ⟨b1, o1 + j * 2 + 1, none⟩ = some (sv (markB (q + 1)))) wr.drew from e1)
      iterate 6 (refine ord_flo ?_ (fun _ _ _ h => h) rfl ?_ ED.out ?_; rotate_left; focus (intro W hS; obtain s1 := hS; go_simp; rfl))
      refine ord_ev rfl ?_
      go_simp
      refine (markText_k _ (q + 1) (by omega) _ (by omega)).mono ?_
      rintro e w1 ⟨rfl, b2⟩
      have EE := Lib.hid (show (fun W : World => W.cell? ⟨b1, o1 + j * 2 + 1, none⟩ = some (sv (markB (q + 1)))) w1 from (b2.cell (p := ⟨b1, o1 + j * 2 + 1, none⟩) (by show b1 < wr.heap.size; omega)).trans e1)
      refine ⟨EE.out, ?_⟩
      iterate 1 (refine ord_flo ?_ (fun _ _ _ h => h) rfl ?_ EE.out ?_; rotate_left; focus (intro W hS; obtain s1 := hS; go_simp; rfl))
      refine ord_done ?_
      go_simp
      replace hlb : b1 < w1.heap.size := Nat.lt_of_lt_of_le hlb b2.size
      replace hbr := hbr.drew.trans (Below.mono b2 (by show w.heap.size ≤ wr.heap.size; have := hbr.size; omega))
      obtain _ := EE.out
      clear b2 ED EE e1
      go_wp2
      go_roundw
      case rel =>
        refine ⟨j + 1, q + cntLs s.lf, by omega, by go_num, ?_, HEN.out, hbr⟩
        rw [Tok.cnt]
        congr 1 <;> omega
      case measure => simp [intOf]; omega
    · obtain rfl : j = l.length := by omega
      rw [List.take_length] at hq
      have HW := Lib.hid (show q = k + cntLf (toksLf l) from hq)
      clear hq
      go_wp2
      go_ret
      exact ⟨by rw [HW.out]; rfl, hbr⟩

end Go.Proofs.YtidjebepgpbcnaaGreatDoor

namespace Go.Proofs.YtidjebepgpbcnaaGreatDoor
open Go.RowKit

def uidW : List UInt8 := [117, 105, 100]
def leadS (x : CmdD) : List (List UInt8) := [x.tag, if x.uid = true then uidW else [], kdW x.kind, setT x.sset, opT x.op, x.box, x.dst]
def notE (s : List UInt8) : Bool := s != []
def leadT (x : CmdD) : List Tok := ((leadS x).filter notE).map atT
def grpF (ws : List (List UInt8)) : List Tok := opT3 :: (ws.map atT ++ [clT4])
def tailT (x : CmdD) : List Tok := (if x.kind = 8 ∨ x.kind = 11 then grpF (flTo x.flags.toNat 5) else []) ++ ((if x.kind = 11 then [⟨2, x.text⟩] else []) ++ (if x.kind = 6 then fTks x.filter else []))
/-- The tokens of a command. -/
def cmdTks (x : CmdD) : List Tok := if cmdB x = true then leadT x ++ tailT x else []

theorem tag_ne {l : List UInt8} (h : tagB l = true) : l ≠ [] := by
  rintro rfl
  revert h
  decide
theorem name_ne {l : List UInt8} (h : nameB l = true) : l ≠ [] := by
  rintro rfl
  revert h
  decide
theorem sset_ne {l : List Spn} (h : setB l = true) : l ≠ [] := by
  rintro rfl
  revert h
  decide
theorem kdW_ne {k : Int} (h : 1 ≤ k ∧ k ≤ 15) : kdW k ≠ [] := by
  have hc : k = 1 ∨ k = 2 ∨ k = 3 ∨ k = 4 ∨ k = 5 ∨ k = 6 ∨ k = 7 ∨ k = 8 ∨ k = 9 ∨ k = 10 ∨ k = 11 ∨ k = 12 ∨ k = 13 ∨ k = 14 ∨ k = 15 := by omega
  rcases hc with rfl | rfl | rfl | rfl | rfl | rfl | rfl | rfl | rfl | rfl | rfl | rfl | rfl | rfl | rfl <;> decide
theorem kdW_len (k : Int) : (kdW k).length ≤ 7 := by
  by_cases h : 1 ≤ k ∧ k ≤ 15
  · have hc : k = 1 ∨ k = 2 ∨ k = 3 ∨ k = 4 ∨ k = 5 ∨ k = 6 ∨ k = 7 ∨ k = 8 ∨ k = 9 ∨ k = 10 ∨ k = 11 ∨ k = 12 ∨ k = 13 ∨ k = 14 ∨ k = 15 := by omega
    rcases hc with rfl | rfl | rfl | rfl | rfl | rfl | rfl | rfl | rfl | rfl | rfl | rfl | rfl | rfl | rfl <;> decide
  · rw [kdW_no h]; decide
theorem join_len (c : UInt8) (n : Nat) : ∀ (ws : List (List UInt8)), (∀ w ∈ ws, w.length ≤ n) → (Lib.join ws [c]).length ≤ ws.length * (n + 1)
  | [], _ => by simp [Lib.join]
  | [w], h => by rw [Lib.join_one]; have := h w (by simp); simp; omega
  | w :: x :: r, h => by
    have e : Lib.join (w :: x :: r) [c] = w ++ c :: Lib.join (x :: r) [c] := by
      rw [Lib.join_cons, Lib.join_cons]
      simp [Lib.joinTail]
    have h1 := join_len c n (x :: r) (fun y hy => h y (by simp [hy]))
    have h2 := h w (by simp)
    rw [e]
    simp only [List.length_append, List.length_cons] at h1 ⊢
    have h3 : (r.length + 1 + 1) * (n + 1) = (r.length + 1) * (n + 1) + (n + 1) := by rw [Nat.succ_mul]
    omega
theorem setT_len (l : List Spn) : (setT l).length ≤ 220 := by
  unfold setT
  cases hb : setB l with
  | false => simp
  | true =>
    rw [if_pos rfl]
    unfold setB at hb
    simp only [Bool.and_eq_true, List.all_eq_true, decide_eq_true_eq] at hb
    have := join_len 44 43 (l.map spnT) (fun w hw => by
      obtain ⟨s, hs, rfl⟩ := List.mem_map.1 hw
      exact (spnT_len (hb.1 s hs)).2)
    rw [List.length_map] at this
    have h5 := hb.2.2
    have : l.length * 44 ≤ 5 * 44 := Nat.mul_le_mul_right _ h5
    omega
theorem opT_len (n : Int) : (opT n).length ≤ 1 := by
  unfold opT
  split
  · decide
  · split
    · decide
    · split <;> decide
theorem opT_ne {n : Int} (h : 1 ≤ n ∧ n ≤ 3) : opT n ≠ [] := by
  have hc : n = 1 ∨ n = 2 ∨ n = 3 := by omega
  rcases hc with rfl | rfl | rfl <;> decide

/-- What a valid command is. -/
structure CmdOk (x : CmdD) : Prop where
  tag : tagB x.tag = true
  kind : 1 ≤ x.kind ∧ x.kind ≤ 15
  said : saidC x = x
  box : boxedB x.kind = true → nameB x.box = true
  dest : x.kind = 14 → nameB x.dst = true
  sset : setsB x.kind = true → setB x.sset = true
  op : x.kind = 8 → 1 ≤ x.op ∧ x.op ≤ 3
  flags : flB x.flags = true
  filter : filterB x.filter = true
theorem CmdOk.of {x : CmdD} (h : cmdB x = true) : CmdOk x := by
  unfold cmdB at h
  simp only [Bool.and_eq_true, decide_eq_true_eq, Bool.or_eq_true, Bool.not_eq_true', beq_eq_false_iff_ne, ne_eq] at h
  obtain ⟨⟨⟨⟨⟨⟨⟨⟨⟨h1, h2⟩, h3⟩, h4⟩, h5⟩, h6⟩, h7⟩, h8⟩, _⟩, h10⟩ := h
  refine ⟨h1, h2, h3, fun hk => ?_, fun hk => ?_, fun hk => ?_, fun hk => ?_, h8, h10⟩
  · rcases h4 with h4 | h4
    · rw [h4] at hk; cases hk
    · exact h4
  · rcases h5 with h5 | h5
    · exact absurd hk h5
    · exact h5
  · rcases h6 with h6 | h6
    · rw [h6] at hk; cases hk
    · exact h6
  · rcases h7 with h7 | h7
    · exact absurd hk h7
    · exact h7
theorem CmdOk.noBox {x : CmdD} (h : CmdOk x) (hk : boxedB x.kind = false) : x.box = [] := by
  have h1 := congrArg CmdD.box h.said
  change (if boxedB x.kind = true then x.box else []) = x.box at h1
  rw [if_neg (by rw [hk]; decide)] at h1
  exact h1.symm
theorem CmdOk.noTo {x : CmdD} (h : CmdOk x) (hk : ¬ x.kind = 14) : x.dst = [] := by
  have h1 := congrArg CmdD.dst h.said
  change (if x.kind = 14 then x.dst else []) = x.dst at h1
  rw [if_neg hk] at h1
  exact h1.symm
theorem CmdOk.noUid {x : CmdD} (h : CmdOk x) (hk : setsB x.kind = false) : x.uid = false := by
  have h1 := congrArg CmdD.uid h.said
  change (if setsB x.kind = true then x.uid else false) = x.uid at h1
  rw [if_neg (by rw [hk]; decide)] at h1
  exact h1.symm
theorem CmdOk.noSet {x : CmdD} (h : CmdOk x) (hk : setsB x.kind = false) : x.sset = [] := by
  have h1 := congrArg CmdD.sset h.said
  change (if setsB x.kind = true then x.sset else []) = x.sset at h1
  rw [if_neg (by rw [hk]; decide)] at h1
  exact h1.symm
theorem CmdOk.noOp {x : CmdD} (h : CmdOk x) (hk : ¬ x.kind = 8) : x.op = 0 := by
  have h1 := congrArg CmdD.op h.said
  change (if x.kind = 8 then x.op else 0) = x.op at h1
  rw [if_neg hk] at h1
  exact h1.symm
theorem notE_yes {s : List UInt8} (h : s ≠ []) : notE s = true := by unfold notE; simpa using h
theorem notE_no : notE [] = false := rfl

theorem flTo_text (n k : Nat) : ∀ w ∈ flTo n k, w.length ≤ 8 := by
  intro w hw
  unfold flTo at hw
  obtain ⟨i, _, rfl⟩ := List.mem_map.1 hw
  unfold flAt
  rcases Nat.lt_or_ge i 5 with h | h
  · have hc : i = 0 ∨ i = 1 ∨ i = 2 ∨ i = 3 ∨ i = 4 := by omega
    rcases hc with rfl | rfl | rfl | rfl | rfl <;> decide
  · rw [List.getD_eq_getElem?_getD, List.getElem?_eq_none (by show 5 ≤ i; exact h)]; simp
theorem cmdTks_len (x : CmdD) : (cmdTks x).length ≤ 70 := by
  unfold cmdTks
  split
  · have h1 : (leadT x).length ≤ 7 := by
      unfold leadT
      rw [List.length_map]
      exact List.length_filter_le notE (leadS x)
    have h2 := flTo_len x.flags.toNat 5
    have h3 := fTks_len x.filter
    have h4 : (tailT x).length ≤ 60 := by
      unfold tailT grpF
      simp only [List.length_append]
      split <;> split <;> split <;> simp <;> omega
    rw [List.length_append]
    omega
  · simp
theorem cmdTks_text {x : CmdD} (hs : szLs x.lf ≤ 1048576) : ∀ t ∈ cmdTks x, t.text.length ≤ 1048576 := by
  obtain ⟨z1, z2, z3, _, z8, _, z10⟩ := CmdD.small hs
  intro t ht
  unfold cmdTks at ht
  split at ht
  · rcases List.mem_append.1 ht with ht | ht
    · unfold leadT at ht
      obtain ⟨s, hs, rfl⟩ := List.mem_map.1 ht
      have hm := (List.mem_filter.1 hs).1
      unfold leadS at hm
      simp only [List.mem_cons, List.not_mem_nil, or_false] at hm
      show s.length ≤ 1048576
      have hk := kdW_len x.kind
      have hse := setT_len x.sset
      have ho := opT_len x.op
      rcases hm with rfl | rfl | rfl | rfl | rfl | rfl | rfl
      · exact z1
      · split <;> decide
      · omega
      · omega
      · omega
      · exact z2
      · exact z3
    · unfold tailT at ht
      rcases List.mem_append.1 ht with ht | ht
      · split at ht
        · unfold grpF at ht
          rcases List.mem_cons.1 ht with rfl | ht
          · decide
          · rcases List.mem_append.1 ht with ht | ht
            · obtain ⟨s, hs, rfl⟩ := List.mem_map.1 ht
              have := flTo_text _ _ s hs
              show s.length ≤ 1048576
              omega
            · rcases List.mem_singleton.1 ht with rfl
              decide
        · cases ht
      · rcases List.mem_append.1 ht with ht | ht
        · split at ht
          · rcases List.mem_singleton.1 ht with rfl
            exact z8
          · cases ht
        · split at ht
          · exact fTks_text (by omega) (fun s hm => (z10 s hm).2) t ht
          · cases ht
  · cases ht
theorem toks_size {n : Nat} : ∀ (l : List Tok), (∀ t ∈ l, t.text.length ≤ n) → szLs (l.flatMap Tok.lf) ≤ l.length * n
  | [], _ => by simp [szLs]
  | t :: l, h => by
    have h1 := toks_size l (fun y hy => h y (by simp [hy]))
    have h2 := h t (by simp)
    have h3 := Tok.sz t
    rw [List.flatMap_cons, szLs_append, List.length_cons, Nat.succ_mul]
    omega
theorem cmdTks_size {x : CmdD} (hs : szLs x.lf ≤ 1048576) : szLf (toksLf (cmdTks x)) ≤ 1000000000 := by
  have h1 := toks_size _ (cmdTks_text hs)
  have h2 := cmdTks_len x
  have h3 : szLf (toksLf (cmdTks x)) = (cmdTks x).length + szLs ((cmdTks x).flatMap Tok.lf) := rfl
  have h4 : (cmdTks x).length * 1048576 ≤ 70 * 1048576 := Nat.mul_le_mul_right _ h2
  omega

/-- The words of flags, read back out of their text. -/
theorem flags_words : ∀ m : Fin 32, m.val ≠ 0 → partsl 32 (Lib.join (flTo m.val 5) [32]) = flTo m.val 5 := by decide +kernel
theorem flT_words {n : Int} (h : flB n = true) (h0 : n ≠ 0) : partsl 32 (flT n) = flTo n.toNat 5 := by
  obtain ⟨m, rfl, hm⟩ := flB_nat h
  unfold flT
  rw [if_pos h]
  exact flags_words ⟨m, by omega⟩ (by show m ≠ 0; omega)
theorem flags_fields : ∀ m : Fin 32, Lib.fields (Lib.join (flTo m.val 5) [32]) = flTo m.val 5 := by decide +kernel
theorem flT_fields {n : Int} (h : flB n = true) : Lib.fields (flT n) = flTo n.toNat 5 := by
  obtain ⟨m, rfl, hm⟩ := flB_nat h
  unfold flT
  rw [if_pos h]
  exact flags_fields ⟨m, by omega⟩
theorem flags_ascii : ∀ m : Fin 32, ((Lib.join (flTo m.val 5) [32]).all fun b => decide (b.toNat < 128)) = true := by decide +kernel
theorem flT_ascii (n : Int) : ∀ b ∈ flT n, b.toNat < 128 := by
  unfold flT
  split
  · rename_i h
    obtain ⟨m, rfl, hm⟩ := flB_nat h
    have := flags_ascii ⟨m, by omega⟩
    intro b hb
    exact of_decide_eq_true (List.all_eq_true.1 this b hb)
  · intro b hb; cases hb
theorem flags_len : ∀ m : Fin 32, (Lib.join (flTo m.val 5) [32]).length ≤ 40 := by decide +kernel
theorem flT_len (n : Int) : (flT n).length ≤ 40 := by
  unfold flT
  split
  · rename_i h
    obtain ⟨m, rfl, hm⟩ := flB_nat h
    exact flags_len ⟨m, by omega⟩
  · simp

end Go.Proofs.YtidjebepgpbcnaaGreatDoor
