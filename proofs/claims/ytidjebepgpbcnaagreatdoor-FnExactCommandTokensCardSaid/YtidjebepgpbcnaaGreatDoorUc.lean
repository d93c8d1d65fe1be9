/-
  Uc: Gg Gd SetE Lg Joined Gh LgB (what the claim needs of them).
-/
import Derived.Test.YtidjebepgpbcnaaGreatDoorRows
import Derived.WalkKit
import Derived.WalkSpells
import Derived.WalkLawsBesides
import Derived.Laws.IdiomStrings
import Derived.Lib.Hide
import Derived.Deep.AppendLies
import Derived.OrdersHeld
import Derived.Lib.ItoaNum
import Derived.Lib.ItoaMem
import Derived.Lib.AppendStr
import Derived.Lib.ItoaLen
import Derived.Lib.Strings
import Derived.Lib.Bytealg
import Derived.Lib.OthersKept
import Derived.Laws.RangeAny
import Derived.Handy
import Derived.IntWalk
import Derived.Test.YtidjebepgpbcnaaGreatDoorProg
import Derived.Laws.BitsAllLaws
import Derived.Laws.BitsLemmas
import Derived.Lib.Join
import Derived.Deep.Strs
import Derived.Test.YtidjebepgpbcnaaGreatDoorUa
import Derived.Test.YtidjebepgpbcnaaGreatDoorUb

namespace Go.Proofs.YtidjebepgpbcnaaGreatDoor
open Go.RowKit

structure Spn where
  low : Int
  high : Int

abbrev spnv (s : Spn) : Value := .agg #[.int .i64 s.low, .int .i64 s.high]
def spnc (s : Spn) : List Value := [.int .i64 s.low, .int .i64 s.high]
def numB (n : Int) : Bool := decide (0 ≤ n) && decide (n ≤ 999999999)
def spnB (s : Spn) : Bool := numB s.low && numB s.high
def setB (l : List Spn) : Bool := l.all spnB && (decide (1 ≤ l.length) && decide (l.length ≤ 5))
def minI (a b : Int) : Int := if a < b then a else b
def maxI (a b : Int) : Int := if b < a then a else b
def endI (x last : Int) : Int := if x = 0 then last else x
def inSpn (x last : Int) (s : Spn) : Bool := decide (minI (endI s.low last) (endI s.high last) ≤ x) && decide (x ≤ maxI (endI s.low last) (endI s.high last))
def inB (l : List Spn) (x last : Int) : Bool := l.any (inSpn x last)
/-- The numbers from 1 on, as many as k. -/
def upTo (k : Nat) : List Int := (List.range k).map fun (i : Nat) => (i : Int) + 1
def membersL (l : List Spn) (n : Int) : List Int := (upTo (minI n 999).toNat).filter fun x => inB l x (minI n 999)
def lastId : List Int → Int
  | [] => 0
  | a :: r => (a :: r).foldl maxI a
def membersOfL (l : List Spn) (ids : List Int) : List Int := ids.filter fun x => inB l x (lastId ids)
theorem upTo_succ (k : Nat) : upTo (k + 1) = upTo k ++ [(k : Int) + 1] := by simp [upTo, List.range_succ]
theorem all_not_at {α : Type} {p : α → Bool} {l : List α} {k : Nat} {x : α} (h : l[k]? = some x) (hp : p x = false) : l.all p = false := by
  rw [Bool.eq_false_iff]
  intro hc
  rw [List.all_eq_true] at hc
  rw [hc x (List.mem_of_getElem? h)] at hp
  cases hp
theorem any_at {α : Type} {p : α → Bool} {l : List α} {k : Nat} {x : α} (h : l[k]? = some x) (hp : p x = true) : l.any p = true := List.any_eq_true.2 ⟨x, List.mem_of_getElem? h, hp⟩
theorem take_at {α : Type} {l : List α} {k : Nat} {x : α} (h : l[k]? = some x) : l.take (k + 1) = l.take k ++ [x] := by
  obtain ⟨h1, h2⟩ := List.getElem?_eq_some_iff.1 h
  rw [List.take_succ_eq_append_getElem h1, h2]
/-- Element k of a slice of pairs. -/
theorem Rd.pair {w : World} {b off k : Nat} {l : List Spn} {x : Spn} (hc : ∀ i x, l[i]? = some x → ∀ j u, (spnc x)[j]? = some u → w.cell? ⟨b, off + i * 2 + j, none⟩ = some u) (h : l[k]? = some x) :
    w.cell? ⟨b, off + k * 2, none⟩ = some (.int .i64 x.low) ∧ w.cell? ⟨b, off + k * 2 + 1, none⟩ = some (.int .i64 x.high) := ⟨hc k x h 0 _ rfl, hc k x h 1 _ rfl⟩

set_option maxHeartbeats 800000 in
theorem specSetOk_any (v : Value) (l : List Spn) (w : World) (hr : Rd 2 spnc w v l) (hl : l.length ≤ 140737488355328) :
    Calls Tryz.prog 50 #[v] w fun e w' => e = .returned (.bool (setB l)) ∧ w = w' := by
  obtain ⟨p, c, rfl, hp⟩ := hr.ex
  have HP := Lib.hid hp
  clear hp hr
  go_enter Tryz.func50, Tryz.ntmps50
  go_wp2
  go_loop [3] (fun i => ∃ k : Nat, k ≤ l.length ∧ i = .int .i64 k ∧ (l.take k).all spnB = true) (fun i => l.length - (intOf i).toNat)
  case atStart => exact ⟨0, by omega, rfl, rfl⟩
  case round =>
    obtain ⟨k, hk, rfl, hall⟩ := hrel
    have Hall := Lib.hid hall
    clear hall
    by_cases hlt : k < l.length
    · obtain ⟨b, off, rfl, hb1, hcell⟩ := HP.out.resolve_left (by intro h; subst h; simp at hlt)
      obtain ⟨x, hx⟩ : ∃ x, l[k]? = some x := ⟨_, List.getElem?_eq_getElem hlt⟩
      obtain ⟨e1, e2⟩ := Rd.pair hcell hx
      have c1 := fun W => l1In_any x.low 0 999999999 W
      have c2 := fun W => l1In_any x.high 0 999999999 W
      cases h1 : numB x.low with
      | false =>
        have HV := Lib.hid (show setB l = false by unfold setB; rw [all_not_at hx (by unfold spnB; rw [h1]; rfl)]; rfl)
        unfold numB at h1
        rw [h1] at c1
        have C1 := Lib.hid c1
        clear c1 c2 h1 hx hcell HP
        go_wp2_with fail
        refine (C1.out _).mono ?_
        rintro e w' ⟨rfl, rfl⟩
        go_wp2
        go_ret
        exact ⟨by rw [HV.out]; rfl, rfl⟩
      | true =>
        have h1' := h1
        unfold numB at h1'
        rw [h1'] at c1
        have C1 := Lib.hid c1
        cases h2 : numB x.high with
        | false =>
          have HV := Lib.hid (show setB l = false by unfold setB; rw [all_not_at hx (by unfold spnB; rw [h2]; simp)]; rfl)
          unfold numB at h2
          rw [h2] at c2
          have C2 := Lib.hid c2
          clear c1 c2 h1 h1' h2 hx hcell HP
          go_wp2_with fail
          refine (C1.out _).mono ?_
          rintro e w' ⟨rfl, rfl⟩
          go_wp2_with fail
          refine (C2.out _).mono ?_
          rintro e w' ⟨rfl, rfl⟩
          go_wp2
          go_ret
          exact ⟨by rw [HV.out]; rfl, rfl⟩
        | true =>
          have HA := Lib.hid (show (l.take (k + 1)).all spnB = true by rw [take_at hx, List.all_append, Hall.out]; simp [spnB, h1, h2])
          unfold numB at h2
          rw [h2] at c2
          have C2 := Lib.hid c2
          clear c1 c2 h1 h1' h2 hx hcell HP
          go_wp2_with fail
          refine (C1.out _).mono ?_
          rintro e w' ⟨rfl, rfl⟩
          go_wp2_with fail
          refine (C2.out _).mono ?_
          rintro e w' ⟨rfl, rfl⟩
          go_wp2
          go_round
          case rel => exact ⟨k + 1, by omega, by go_num, HA.out⟩
          case measure => simp [intOf]; omega
    · obtain rfl : k = l.length := by omega
      rw [List.take_length] at Hall
      have HV := Lib.hid (show setB l = (decide ((1 : Int) ≤ (l.length : Int)) && decide ((l.length : Int) ≤ 5)) by
        unfold setB
        rw [Hall.out]
        have e1 : (1 ≤ l.length) = ((1 : Int) ≤ (l.length : Int)) := by rw [eq_iff_iff]; omega
        have e2 : (l.length ≤ 5) = ((l.length : Int) ≤ 5) := by rw [eq_iff_iff]; omega
        simp only [e1, e2, Bool.true_and])
      have C1 := Lib.hid (fun W => l1In_any (l.length : Int) 1 5 W)
      go_wp2_with fail
      refine (C1.out _).mono ?_
      rintro e w' ⟨rfl, rfl⟩
      go_wp2
      go_ret
      exact ⟨by rw [HV.out]; rfl, rfl⟩

end Go.Proofs.YtidjebepgpbcnaaGreatDoor

namespace Go.Proofs.YtidjebepgpbcnaaGreatDoor
open Go.RowKit

/-- Block g is a cursor over the bytes code. -/
structure Cur (w : World) (g : Nat) (code : List UInt8) : Prop where
  ex : ∃ (p : Option Addr) (cap i : Nat) (h : Int), w.cell? ⟨g, 0, none⟩ = some (.slice p code.length cap) ∧ w.cell? ⟨g, 1, none⟩ = some (.int .i64 i) ∧ w.cell? ⟨g, 2, none⟩ = some (.int .i64 h) ∧ i ≤ code.length ∧
    (code = [] ∨ ∃ b off, p = some ⟨b, off, none⟩ ∧ b < g ∧ ∀ j x, code[j]? = some x → w.cell? ⟨b, off + j, none⟩ = some (bv x))
  free : ∀ j, w.frozen? ⟨g, j, none⟩ = false
  few : code.length ≤ 1000000000000000

theorem Cur.lt {w : World} {g : Nat} {code : List UInt8} (h : Cur w g code) : g < w.heap.size := by
  obtain ⟨_, _, _, _, h0, _⟩ := h.ex
  exact World.block_lt_of_cell? w _ h0
theorem Cur.of_block {w w' : World} {g : Nat} {code : List UInt8} (h : Cur w g code) (hb : ∀ k, k < w.heap.size → w'.heap[k]? = w.heap[k]?) : Cur w' g code := by
  obtain ⟨p, cap, i, hh, h0, h1, h2, h3, h4⟩ := h.ex
  have hg := h.lt
  refine ⟨⟨p, cap, i, hh, (World.cell?_of_block (hb g hg)).trans h0, (World.cell?_of_block (hb g hg)).trans h1, (World.cell?_of_block (hb g hg)).trans h2, h3, ?_⟩, fun j => (World.frozen?_of_block (hb g hg)).trans (h.free j), h.few⟩
  rcases h4 with h4 | ⟨b, off, e1, e2, e4⟩
  · exact .inl h4
  · exact .inr ⟨b, off, e1, e2, fun j x hx => (World.cell?_of_block (hb b (by omega))).trans (e4 j x hx)⟩
theorem Cur.below {w w' : World} {g : Nat} {code : List UInt8} (h : Cur w g code) (hb : Below w.heap.size w w') : Cur w' g code := h.of_block hb.block
/-- Behind a change of younger blocks alone. -/
theorem Cur.grown {w w' : World} {g : Nat} {code : List UInt8} {row : Option Nat} (h : Cur w g code) (hg : w.grownBy w' row) (hr : ∀ k, row = some k → g < k) : Cur w' g code := by
  obtain ⟨p, cap, i, hh, h0, h1, h2, h3, h4⟩ := h.ex
  have hlt := h.lt
  have hb : ∀ k, k ≤ g → w'.heap[k]? = w.heap[k]? := fun k hk => hg.block k (by omega) (fun e => by have := hr k e.symm; omega)
  have hgb := hb g (Nat.le_refl _)
  refine ⟨⟨p, cap, i, hh, (World.cell?_of_block (a := ⟨g, 0, none⟩) hgb).trans h0, (World.cell?_of_block (a := ⟨g, 1, none⟩) hgb).trans h1, (World.cell?_of_block (a := ⟨g, 2, none⟩) hgb).trans h2, h3, ?_⟩, fun j => (World.frozen?_of_block (a := ⟨g, j, none⟩) hgb).trans (h.free j), h.few⟩
  rcases h4 with h4 | ⟨b, off, e1, e2, e4⟩
  · exact .inl h4
  · exact .inr ⟨b, off, e1, e2, fun j x hx => (World.cell?_of_block (a := ⟨b, off + j, none⟩) (hb b (by omega))).trans (e4 j x hx)⟩

theorem addr_ne {b o o' : Nat} (h : o ≠ o') : (⟨b, o, none⟩ : Addr) ≠ ⟨b, o', none⟩ := by intro e; injection e with _ e2; exact h e2
theorem addr_ne' {b b' o o' : Nat} (h : b ≠ b') : (⟨b, o, none⟩ : Addr) ≠ ⟨b', o', none⟩ := by intro e; injection e with e1; exact h e1
theorem size_setCell (w : World) (a : Addr) (v : Value) : (w.setCell a v).heap.size = w.heap.size := by simp [World.setCell]

theorem Cur.setH {w : World} {g : Nat} {code : List UInt8} (hc : Cur w g code) (h' : Int) : Cur (w.setCell ⟨g, 2, none⟩ (.int .i64 h')) g code := by
  obtain ⟨p, cap, i, hh, h0, h1, h2, h3, h4⟩ := hc.ex
  refine ⟨⟨p, cap, i, h', (World.cell?_setCell_other w _ _ _ (addr_ne (by omega))).trans h0, (World.cell?_setCell_other w _ _ _ (addr_ne (by omega))).trans h1, World.cell?_setCell_same w _ _ h2, h3, ?_⟩, fun j => by simpa using hc.free j, hc.few⟩
  rcases h4 with h4 | ⟨b, off, e1, e2, e4⟩
  · exact .inl h4
  · exact .inr ⟨b, off, e1, e2, fun j x hx => (World.cell?_setCell_other w _ _ _ (addr_ne' (by omega))).trans (e4 j x hx)⟩
theorem Cur.setI {w : World} {g : Nat} {code : List UInt8} (hc : Cur w g code) (i' : Nat) (hi : i' ≤ code.length) : Cur (w.setCell ⟨g, 1, none⟩ (.int .i64 i')) g code := by
  obtain ⟨p, cap, i, hh, h0, h1, h2, h3, h4⟩ := hc.ex
  refine ⟨⟨p, cap, i', hh, (World.cell?_setCell_other w _ _ _ (addr_ne (by omega))).trans h0, World.cell?_setCell_same w _ _ h1, (World.cell?_setCell_other w _ _ _ (addr_ne (by omega))).trans h2, hi, ?_⟩, fun j => by simpa using hc.free j, hc.few⟩
  rcases h4 with h4 | ⟨b, off, e1, e2, e4⟩
  · exact .inl h4
  · exact .inr ⟨b, off, e1, e2, fun j x hx => (World.cell?_setCell_other w _ _ _ (addr_ne' (by omega))).trans (e4 j x hx)⟩
theorem Cur.drew {w : World} {g : Nat} {code : List UInt8} (hc : Cur w g code) : Cur w.drew g code := ⟨hc.ex, hc.free, hc.few⟩

def BytePost (g : Nat) (code : List UInt8) (w : World) (e : Ending) (w' : World) : Prop := ∃ x : Nat, e = .returned (.int .i64 x) ∧ x ≤ 255 ∧ Cur w' g code ∧ w.grownBy w' (some g)
theorem BytePost.mk {g : Nat} {code : List UInt8} {w w' : World} {v : Int} (h0 : 0 ≤ v) (h1 : v ≤ 255) (hc : Cur w' g code) (hg : w.grownBy w' (some g)) : BytePost g code w (.returned (.int .i64 v)) w' :=
  ⟨v.toNat, by rw [Int.toNat_of_nonneg h0], by omega, hc, hg⟩

theorem grown_young {w w1 w2 : World} {row row' : Option Nat} (h : w.grownBy w1 row) (hg : w1.grownBy w2 row') (hr : ∀ k, row' = some k → w.heap.size ≤ k) : w.grownBy w2 row :=
  ⟨hg.os.trans h.os, hg.tape.trans h.tape, hg.output.trans h.output, Nat.le_trans h.size hg.size, fun k hk hne => (hg.block k (Nat.lt_of_lt_of_le hk h.size) (fun e => by have := hr k e.symm; omega)).trans (h.block k hk hne)⟩
theorem grown_of_below {w w1 : World} {row : Option Nat} (h : Below w.heap.size w w1) : w.grownBy w1 row := ⟨h.os, h.tape, h.output, h.size, fun k hk _ => h.block k hk⟩
/-- A cursor that was made since: its changes are none of the old memory. -/
theorem below_cur {W w w1 : World} {g B : Nat} (h : Below B W w) (hg : w.grownBy w1 (some g)) (hB : B ≤ w.heap.size) (hgB : B ≤ g) : Below B W w1 := h.grown hg hB (fun k hk => by injection hk with hk; omega)

theorem grown_trans {w a b : World} {row : Option Nat} (h : w.grownBy a row) (k : a.grownBy b row) : w.grownBy b row :=
  ⟨k.os.trans h.os, k.tape.trans h.tape, k.output.trans h.output, Nat.le_trans h.size k.size, fun i hi hne => (k.block i (Nat.lt_of_lt_of_le hi h.size) hne).trans (h.block i hi hne)⟩
def in64 (n : Int) : Prop := -9223372036854775808 ≤ n ∧ n ≤ 9223372036854775807
/-- Some int was drawn. -/
def WholeG (g : Nat) (code : List UInt8) (w : World) (e : Ending) (w' : World) : Prop := ∃ n : Int, e = .returned (.int .i64 n) ∧ in64 n ∧ Cur w' g code ∧ w.grownBy w' (some g)
theorem drawnWhole : ∀ x ∈ ([0, 1, -1, 9, 10, 999999999, 1000000000, 9223372036854775807, -9223372036854775808] : List Int), -9223372036854775808 ≤ x ∧ x ≤ 9223372036854775807 := by decide

end Go.Proofs.YtidjebepgpbcnaaGreatDoor

namespace Go.Proofs.YtidjebepgpbcnaaGreatDoor
open Go.RowKit
open Go.Lib (decDigits itoa)

structure Tok where
  kind : Int
  text : List UInt8

/-- A token as a value. -/
abbrev tokv (t : Tok) : Value := .agg #[.int .i64 t.kind, sv t.text]
def gapB (a b : Tok) : Bool := a.kind != 3 && b.kind != 4

theorem l3Gap_any (a b : Tok) (w : World) :
    Calls Tryz.prog 75 #[tokv a, tokv b] w fun e w' => e = .returned (.bool (gapB a b)) ∧ Below w.heap.size w w' := by
  cases h1 : (a.kind != 3) with
  | false =>
    have hg := Lib.hid (show gapB a b = false by unfold gapB; rw [h1]; rfl)
    go_enter Tryz.func75, Tryz.ntmps75
    go_wp2
    go_ret
    exact ⟨by rw [hg.out]; rfl, ((Below.refl _ _).alloc (Nat.le_refl _) _).alloc (by simp) _⟩
  | true =>
    have hg := Lib.hid (show gapB a b = (b.kind != 4) by unfold gapB; rw [h1]; rfl)
    go_enter Tryz.func75, Tryz.ntmps75
    go_wp2
    go_ret
    exact ⟨by rw [hg.out]; rfl, ((Below.refl _ _).alloc (Nat.le_refl _) _).alloc (by simp) _⟩

def litL (l : List UInt8) : List UInt8 := if l.length ≤ 40 then [123] ++ decDigits l.length ++ [125, 13, 10] ++ l else []
theorem litL_le (l : List UInt8) : (litL l).length ≤ 100 := by
  unfold litL
  split
  · have := decDigits_length_le l.length (by omega)
    simp; omega
  · simp

theorem l3Literal_any (l : List UInt8) (w : World) (hl : l.length ≤ 1048576) :
    Calls Tryz.prog 104 #[sv l] w fun e w' => e = .returned (sv (litL l)) ∧ Below w.heap.size w w' := by
  have hz : (ByteArray.mk l.toArray).size = l.length := by show l.toArray.size = _; simp
  by_cases h : 40 < (l.length : Int)
  · have hg := Lib.hid (show litL l = [] by unfold litL; rw [if_neg (by omega)])
    go_enter Tryz.func104, Tryz.ntmps104
    go_wp2
    go_ret
    exact ⟨by rw [hg.out]; rfl, Below.refl _ _⟩
  · have hg := Lib.hid (show litL l = [123] ++ decDigits l.length ++ [125, 13, 10] ++ l by unfold litL; rw [if_pos (by omega)])
    have hdl := decDigits_length_le l.length (by omega)
    have hdz : (ByteArray.mk (decDigits l.length).toArray).size = (decDigits l.length).length := by show (decDigits l.length).toArray.size = _; simp
    have hcat := Lib.hid (show sv ([123] ++ decDigits l.length ++ [125, 13, 10] ++ l) = .string ((((⟨#[123]⟩ : ByteArray) ++ ⟨(decDigits l.length).toArray⟩) ++ ⟨#[125, 13, 10]⟩) ++ ⟨l.toArray⟩) by unfold sv; congr 1)
    go_enter Tryz.func104, Tryz.ntmps104
    go_wp2_with fail
    refine (specDigits_nat _ _ (by omega)).mono ?_
    rintro e w1 ⟨rfl, b1⟩
    go_wp2
    go_ret
    exact ⟨by rw [hg.out, hcat.out]; rfl, b1⟩

def tokText (t : Tok) : List UInt8 :=
  if t.kind = 1 then (if atomB t.text = true then t.text else [])
  else if t.kind = 2 then (if quoteL t.text = [] then litL t.text else quoteL t.text)
  else if t.kind = 3 then (if t.text = [] then [40] else [])
  else if t.kind = 4 then (if t.text = [] then [41] else [])
  else []

set_option maxHeartbeats 800000 in
theorem specTokenText_any (t : Tok) (w : World) (hl : t.text.length ≤ 1048576) :
    Calls Tryz.prog 74 #[tokv t] w fun e w' => e = .returned (sv (tokText t)) ∧ Below w.heap.size w w' := by
  have hz : (ByteArray.mk t.text.toArray).size = t.text.length := by show t.text.toArray.size = _; simp
  have hm : (ByteArray.mk t.text.toArray).size ≤ maxLen := by unfold maxLen; omega
  have c1 := fun W => specAtomOk_any ⟨t.text.toArray⟩ W hm
  have C2 := Lib.hid (fun W => specQuote_any ⟨t.text.toArray⟩ W hm)
  have C3 := Lib.hid (fun W => l3Literal_any t.text W hl)
  rw [show (ByteArray.mk t.text.toArray).data.toList = t.text from rfl] at c1 C2
  obtain ⟨k, l⟩ := t
  simp only at *
  cases h1 : (k == 1) with
  | true =>
    obtain rfl := beq_iff_eq.1 h1
    cases ha : atomB l with
    | true =>
      rw [ha] at c1
      have C1 := Lib.hid c1
      have hg := Lib.hid (show tokText ⟨1, l⟩ = l by simp [tokText, ha])
      clear c1 ha
      go_enter Tryz.func74, Tryz.ntmps74
      go_wp2_with fail
      refine (C1.out _).mono ?_
      rintro e w1 ⟨rfl, rfl⟩
      go_wp2
      go_ret
      exact ⟨by rw [hg.out]; rfl, (Below.refl _ _).alloc (Nat.le_refl _) _⟩
    | false =>
      rw [ha] at c1
      have C1 := Lib.hid c1
      have hg := Lib.hid (show tokText ⟨1, l⟩ = [] by simp [tokText, ha])
      clear c1 ha
      go_enter Tryz.func74, Tryz.ntmps74
      go_wp2_with fail
      refine (C1.out _).mono ?_
      rintro e w1 ⟨rfl, rfl⟩
      go_wp2
      go_ret
      exact ⟨by rw [hg.out]; rfl, (Below.refl _ _).alloc (Nat.le_refl _) _⟩
  | false =>
    have n1 : ¬ k = 1 := by simpa using h1
    cases h2 : (k == 2) with
    | true =>
      obtain rfl := beq_iff_eq.1 h2
      have hsz : (w.alloc (.cells #[.int .i64 2, sv l] 48)).heap.size = w.heap.size + 1 := by simp
      by_cases hq : quoteL l = []
      · have hg := Lib.hid (show tokText ⟨2, l⟩ = litL l by simp [tokText, hq])
        rw [hq] at C2
        clear hq n1
        go_enter Tryz.func74, Tryz.ntmps74
        go_wp2_with fail
        refine (C2.out _).mono ?_
        rintro e w1 ⟨rfl, b1⟩
        have hc := b1.cell (p := ⟨w.heap.size, 1, none⟩) (by simp)
        have hc2 : (w.alloc (.cells #[.int .i64 2, sv l] 48)).cell? ⟨w.heap.size, 1, none⟩ = some (sv l) := by simp [go_sem]
        have HC := Lib.hid (hc.trans hc2)
        have hb0 := ((Below.refl w.heap.size w).alloc (Nat.le_refl _) (.cells #[.int .i64 2, sv l] 48)).trans (b1.mono (by simp))
        have hcell := HC.out
        clear hc hc2 b1 hsz
        go_wp2_with fail
        refine (C3.out _).mono ?_
        rintro e w2 ⟨rfl, b2⟩
        have hb := hb0.trans (b2.mono hb0.size)
        go_wp2
        go_ret
        exact ⟨by rw [hg.out]; rfl, hb⟩
      · have hg := Lib.hid (show tokText ⟨2, l⟩ = quoteL l by simp [tokText, hq])
        have hqe : (quoteL l).isEmpty = false := by cases hh : quoteL l with | nil => exact absurd hh hq | cons a r => rfl
        clear hq n1
        go_enter Tryz.func74, Tryz.ntmps74
        go_wp2_with fail
        refine (C2.out _).mono ?_
        rintro e w1 ⟨rfl, b1⟩
        have hb0 := ((Below.refl w.heap.size w).alloc (Nat.le_refl _) (.cells #[.int .i64 2, sv l] 48)).trans (b1.mono (by simp))
        clear b1 hsz
        go_wp2
        go_ret
        exact ⟨by rw [hg.out]; rfl, hb0⟩
    | false =>
      have n2 : ¬ k = 2 := by simpa using h2
      cases h3 : (k == 3) with
      | true =>
        obtain rfl := beq_iff_eq.1 h3
        by_cases hq : l = []
        · subst hq
          go_enter Tryz.func74, Tryz.ntmps74
          go_wp2
          go_ret
          exact ⟨rfl, (Below.refl _ _).alloc (Nat.le_refl _) _⟩
        · have hg := Lib.hid (show tokText ⟨3, l⟩ = [] by simp [tokText, hq])
          have hqe : l.isEmpty = false := by cases hh : l with | nil => exact absurd hh hq | cons a r => rfl
          clear hq n1 n2
          go_enter Tryz.func74, Tryz.ntmps74
          go_wp2
          go_ret
          exact ⟨by rw [hg.out]; rfl, (Below.refl _ _).alloc (Nat.le_refl _) _⟩
      | false =>
        have n3 : ¬ k = 3 := by simpa using h3
        cases h4 : (k == 4) with
        | true =>
          obtain rfl := beq_iff_eq.1 h4
          by_cases hq : l = []
          · subst hq
            go_enter Tryz.func74, Tryz.ntmps74
            go_wp2
            go_ret
            exact ⟨rfl, (Below.refl _ _).alloc (Nat.le_refl _) _⟩
          · have hg := Lib.hid (show tokText ⟨4, l⟩ = [] by simp [tokText, hq])
            have hqe : l.isEmpty = false := by cases hh : l with | nil => exact absurd hh hq | cons a r => rfl
            clear hq n1 n2 n3
            go_enter Tryz.func74, Tryz.ntmps74
            go_wp2
            go_ret
            exact ⟨by rw [hg.out]; rfl, (Below.refl _ _).alloc (Nat.le_refl _) _⟩
        | false =>
          have n4 : ¬ k = 4 := by simpa using h4
          have hg := Lib.hid (show tokText ⟨k, l⟩ = [] by simp [tokText, n1, n2, n3, n4])
          clear n1 n2 n3 n4
          go_enter Tryz.func74, Tryz.ntmps74
          go_wp2
          go_ret
          exact ⟨by rw [hg.out]; rfl, (Below.refl _ _).alloc (Nat.le_refl _) _⟩

def tokc (t : Tok) : List Value := [.int .i64 t.kind, sv t.text]
def sepL : Option Tok → Tok → List UInt8
  | none, _ => []
  | some a, t => if gapB a t = true then [32] else []
def lineFrom : Option Tok → List Tok → List UInt8
  | _, [] => []
  | p, t :: r => sepL p t ++ tokText t ++ lineFrom (some t) r
def okLine (l : List Tok) : Bool := l.all fun t => !(tokText t).isEmpty
def lineL (l : List Tok) : List UInt8 := if okLine l = true then lineFrom none l else []
def lastOr (p : Option Tok) : List Tok → Option Tok
  | [] => p
  | t :: r => lastOr (some t) r
theorem lineFrom_snoc : ∀ (l : List Tok) (p : Option Tok) (t : Tok), lineFrom p (l ++ [t]) = lineFrom p l ++ (sepL (lastOr p l) t ++ tokText t)
  | [], p, t => by simp [lineFrom, lastOr]
  | x :: l, p, t => by simp [lineFrom, lastOr, lineFrom_snoc l (some x) t]
theorem lastOr_snoc : ∀ (l : List Tok) (p : Option Tok) (t : Tok), lastOr p (l ++ [t]) = some t
  | [], _, _ => rfl
  | x :: l, _, t => lastOr_snoc l (some x) t
theorem tokText_le (t : Tok) : (tokText t).length ≤ 100 := by
  unfold tokText
  split
  · split
    · rename_i h; unfold atomB at h; simp only [Bool.and_eq_true, decide_eq_true_eq] at h; omega
    · simp
  split
  · split
    · exact litL_le _
    · have := quoteL_le t.text; omega
  split
  · split <;> simp
  split
  · split <;> simp
  · simp
theorem sepL_yes {a t : Tok} (h : gapB a t = true) : sepL (some a) t = [32] := by show (if gapB a t = true then _ else _) = _; rw [if_pos h]
theorem sepL_no {a t : Tok} (h : gapB a t = false) : sepL (some a) t = [] := by show (if gapB a t = true then _ else _) = _; rw [h]; rfl
theorem sepL_le (p : Option Tok) (t : Tok) : (sepL p t).length ≤ 1 := by
  unfold sepL; split
  · simp
  · split <;> simp
theorem take_tok {l : List Tok} {k : Nat} {t : Tok} (h : l[k]? = some t) : l.take (k + 1) = l.take k ++ [t] := by
  obtain ⟨h1, h2⟩ := List.getElem?_eq_some_iff.1 h
  rw [List.take_succ_eq_append_getElem h1, h2]
theorem line_bad {l : List Tok} {k : Nat} {t : Tok} (h : l[k]? = some t) (he : tokText t = []) : lineL l = [] := by
  unfold lineL okLine
  rw [if_neg]
  intro hc
  rw [List.all_eq_true] at hc
  have := hc t (List.mem_of_getElem? h)
  rw [he] at this
  cases this

/-- The loop's knowledge: acc is the line of the first k, none of them is empty. -/
def LnSt (l : List Tok) (k : Nat) (acc : List UInt8) : Prop := acc = lineFrom none (l.take k) ∧ okLine (l.take k) = true ∧ acc.length ≤ 101 * k
theorem LnSt.step {l : List Tok} {k : Nat} {acc : List UInt8} {t : Tok} (h : LnSt l k acc) (ht : l[k]? = some t) (he : ¬ tokText t = []) (hp : lastOr none (l.take k) = (if k = 0 then none else l[k - 1]?)) :
    LnSt l (k + 1) (acc ++ sepL (if k = 0 then none else l[k - 1]?) t ++ tokText t) := by
  obtain ⟨h1, h2, h3⟩ := h
  refine ⟨?_, ?_, ?_⟩
  · rw [take_tok ht, lineFrom_snoc, hp, h1, List.append_assoc]
  · rw [take_tok ht]
    unfold okLine at *
    rw [List.all_append, h2]
    cases hh : tokText t with
    | nil => exact absurd hh he
    | cons a r => simp [hh]
  · have := tokText_le t
    have := sepL_le (if k = 0 then none else l[k - 1]?) t
    simp only [List.length_append]; omega
theorem last_take (l : List Tok) (k : Nat) (hk : k ≤ l.length) : lastOr none (l.take k) = (if k = 0 then none else l[k - 1]?) := by
  cases k with
  | zero => simp [lastOr]
  | succ j =>
    have hj : l[j]? = some (l[j]'(by omega)) := List.getElem?_eq_getElem (by omega)
    rw [take_tok hj, lastOr_snoc, if_neg (by omega), Nat.add_sub_cancel, hj]

set_option maxHeartbeats 1600000 in
theorem specLineOf_any (v : Value) (l : List Tok) (w : World) (hr : Rd 2 tokc w v l) (hl : l.length ≤ 1048576) (hx : ∀ t ∈ l, t.text.length ≤ 1048576) :
    Calls Tryz.prog 40 #[v] w fun e w' => e = .returned (sv (lineL l)) ∧ Below w.heap.size w w' := by
  obtain ⟨p, c, rfl, hp⟩ := hr.ex
  have HP := Lib.hid hp
  have HX := Lib.hid hx
  clear hp hr hx
  go_enter Tryz.func40, Tryz.ntmps40
  go_wp2
  go_loopw [3, 4] (fun v i wr => ∃ (k n : Nat) (acc : List UInt8), k ≤ l.length ∧ i = .int .i64 k ∧ n = acc.length ∧ LnSt l k acc ∧ wr.ownsRow w.heap.size 5 1 v n (acc.map bv) ∧ Below w.heap.size w wr) (fun _ i _ => l.length - (intOf i).toNat)
  case atStart => exact ⟨0, 0, [], by omega, rfl, rfl, ⟨rfl, rfl, by simp⟩, by simpa using World.ownsRow_made w #[] 0 (Nat.le_refl _) (by unfold maxLen; omega) rfl, (Below.refl _ _).alloc (Nat.le_refl _) _⟩
  case round =>
    obtain ⟨k, n, acc, hk, rfl, hn, hst, hown, hbr⟩ := hrel
    have hbr0 := hbr.size
    have hnl : n ≤ 101 * 1048576 := by have := hst.2.2; omega
    have HN := Lib.hid hn
    have HS := Lib.hid hst
    clear hn hst
    by_cases hlt : k < l.length
    · obtain ⟨b, off, rfl, hb1, hcell⟩ := HP.out.resolve_left (by intro h; subst h; simp at hlt)
      obtain ⟨t, ht⟩ : ∃ t, l[k]? = some t := ⟨_, List.getElem?_eq_getElem hlt⟩
      have e1 : wr.cell? ⟨b, off + k * 2, none⟩ = some (.int .i64 t.kind) := (hbr.cell (p := ⟨b, off + k * 2, none⟩) hb1).trans (hcell k t ht 0 _ rfl)
      have e2 : wr.cell? ⟨b, off + k * 2 + 1, none⟩ = some (sv t.text) := (hbr.cell (p := ⟨b, off + k * 2 + 1, none⟩) hb1).trans (hcell k t ht 1 _ rfl)
      have HC := Lib.hid hcell
      have hlast := last_take l k hk
      have HT := Lib.hid ht
      have c1 := fun W => specTokenText_any t W (HX.out t (List.mem_of_getElem? ht))
      have hle := tokText_le t
      clear hcell HP ht
      by_cases he : tokText t = []
      · have HV := Lib.hid (line_bad HT.out he)
        rw [he] at c1
        have C1 := Lib.hid c1
        clear c1 he hown hlast
        go_wp2_with fail
        refine (C1.out _).mono ?_
        rintro e w1 ⟨rfl, b1⟩
        have hb := hbr.trans (b1.mono hbr0)
        go_wp2
        go_ret
        exact ⟨by rw [HV.out]; rfl, hb⟩
      · have HST := Lib.hid (HS.out.step HT.out he hlast)
        have C1 := Lib.hid c1
        have hqe : (tokText t).isEmpty = false := by cases hh : tokText t with | nil => exact absurd hh he | cons a r => rfl
        clear c1 he hlast
        generalize tokText t = tt at *
        go_wp2_with fail
        refine (C1.out _).mono ?_
        rintro e w1 ⟨rfl, b1⟩
        have hb := hbr.trans (b1.mono hbr0)
        have hz := hb.size
        have hown1 := ownsRow_below hown b1
        have f1 := (b1.cell (p := ⟨b, off + k * 2, none⟩) (by show b < wr.heap.size; omega)).trans e1
        have f2 := (b1.cell (p := ⟨b, off + k * 2 + 1, none⟩) (by show b < wr.heap.size; omega)).trans e2
        clear e1 e2 hown b1 C1 hbr hbr0
        by_cases hk0 : k = 0
        · subst hk0
          clear f1 f2
          go_wp2
          refine ord_start [(0, true), (1, true), (2, true), (3, true), (4, true), (5, true), (6, true), (7, true), (8, true), (9, true), (10, true), (11, true), (12, false), (13, true)] (fun _ => True) (by kernel_rfl) (by kernel_rfl) rfl (by kernel_rfl) ?_
          intro ops' hops
          simp only [List.map_cons, List.map_nil, pickOp_zero, pickOp_succ]
          iterate 3 (refine ord_flo ?_ (fun _ _ _ h => h) rfl ?_ trivial ?_; rotate_left; focus (intro _ _; go_simp; rfl))
          iterate 9 (refine ord_not (fun _ _ _ h => h) (by rw [hops.out]; kernel_rfl) trivial ?_)
          refine ord_evnot trivial (by rw [hops.out]; kernel_rfl) ?_
          iterate 1 (refine ord_flo ?_ (fun _ _ _ h => h) rfl ?_ trivial ?_; rotate_left; focus (intro _ _; go_simp; rfl))
          refine ord_done ?_
          go_simp
          have HN2 := HN.out
          go_wp2_with (at_builtin; refine wpList_appS rfl (.tmp 37) (.tmp 38) rfl w u3 n acc rfl hown1.drew hb.drew hz tt rfl (by omega) ?_)
          intro v' w2 hown2 hb2 _
          clear hown1 hb HN2
          go_wp2
          go_roundw
          case rel => exact ⟨1, n + tt.length, acc ++ tt, by omega, by go_num, by rw [HN.out]; simp, by simpa [sepL] using HST.out, by rw [HN.out, List.map_append]; exact hown2, hb2⟩
          case measure => simp [intOf]; omega
        · obtain ⟨j, rfl⟩ : ∃ j, k = j + 1 := ⟨k - 1, by omega⟩
          obtain ⟨t0, ht0⟩ : ∃ t0, l[j]? = some t0 := ⟨_, List.getElem?_eq_getElem (by omega)⟩
          have g1 : w1.cell? ⟨b, off + j * 2, none⟩ = some (.int .i64 t0.kind) := (hb.cell (p := ⟨b, off + j * 2, none⟩) hb1).trans (HC.out j t0 ht0 0 _ rfl)
          have g2 : w1.cell? ⟨b, off + j * 2 + 1, none⟩ = some (sv t0.text) := (hb.cell (p := ⟨b, off + j * 2 + 1, none⟩) hb1).trans (HC.out j t0 ht0 1 _ rfl)
          have HST2 := Lib.hid (show LnSt l (j + 1 + 1) (acc ++ sepL (some t0) t ++ tt) by have := HST.out; rw [if_neg (by omega), Nat.add_sub_cancel, ht0] at this; exact this)
          have hjc : ((j + 1 : Nat) : Int) = (j : Int) + 1 := by omega
          have hwr : IntKind.i64.wrap (j : Int) = (j : Int) := IntWalk.i64_in _ (by omega)
          clear ht0 HST HC hk0
          go_wp2
          refine ord_start [(0, true), (1, true), (2, true), (3, true), (4, true), (5, true), (6, true), (7, true), (8, true), (9, true), (10, true), (11, true), (12, false), (13, true)] (fun W => W.cell? ⟨b, off + j * 2, none⟩ = some (.int .i64 t0.kind) ∧ W.cell? ⟨b, off + j * 2 + 1, none⟩ = some (sv t0.text) ∧ W.cell? ⟨b, off + (j + 1) * 2, none⟩ = some (.int .i64 t.kind) ∧ W.cell? ⟨b, off + (j + 1) * 2 + 1, none⟩ = some (sv t.text)) (by kernel_rfl) (by kernel_rfl) rfl (by kernel_rfl) ?_
          intro ops' hops
          simp only [List.map_cons, List.map_nil, pickOp_zero, pickOp_succ]
          iterate 3 (refine ord_flo ?_ (fun _ _ _ h => h) rfl ?_ ⟨g1, g2, f1, f2⟩ ?_; rotate_left; focus (intro W hS; obtain ⟨s1, s2, s3, s4⟩ := hS; go_simp; rfl))
          iterate 3 (refine ord_flo ?_ (fun _ _ _ h => h) (by rw [hops.out]; kernel_rfl) ?_ ⟨g1, g2, f1, f2⟩ ?_; rotate_left; focus (intro W hS; obtain ⟨s1, s2, s3, s4⟩ := hS; go_simp; rfl))
          refine ord_flo (.pointer (some ⟨b, off + j * 2, none⟩)) (fun _ _ _ h => h) (by rw [hops.out]; kernel_rfl) ?_ ⟨g1, g2, f1, f2⟩ ?_
          · intro W hS
            go_simp
            intro h
            omega
          iterate 3 (refine ord_flo ?_ (fun _ _ _ h => h) (by rw [hops.out]; kernel_rfl) ?_ ⟨g1, g2, f1, f2⟩ ?_; rotate_left; focus (intro W hS; obtain ⟨s1, s2, s3, s4⟩ := hS; go_simp; rfl))
          refine ord_flo (.pointer (some ⟨b, off + (j + 1) * 2, none⟩)) (fun _ _ _ h => h) (by rw [hops.out]; kernel_rfl) ?_ ⟨g1, g2, f1, f2⟩ ?_
          · intro W hS
            go_simp
            intro h
            omega
          iterate 1 (refine ord_flo ?_ (fun _ _ _ h => h) (by rw [hops.out]; kernel_rfl) ?_ ⟨g1, g2, f1, f2⟩ ?_; rotate_left; focus (intro W hS; obtain ⟨s1, s2, s3, s4⟩ := hS; go_simp; rfl))
          refine ord_ev (by rw [hops.out]; kernel_rfl) ?_
          go_simp
          refine (l3Gap_any t0 t _).mono ?_
          rintro e w2 ⟨rfl, b2⟩
          have b2' : Below w1.heap.size w1 w2 := (Below.refl _ w1).drew.trans b2
          have i1 := (b2'.cell (p := ⟨b, off + j * 2, none⟩) (by show b < w1.heap.size; omega)).trans g1
          have i2 := (b2'.cell (p := ⟨b, off + j * 2 + 1, none⟩) (by show b < w1.heap.size; omega)).trans g2
          have i3 := (b2'.cell (p := ⟨b, off + (j + 1) * 2, none⟩) (by show b < w1.heap.size; omega)).trans f1
          have i4 := (b2'.cell (p := ⟨b, off + (j + 1) * 2 + 1, none⟩) (by show b < w1.heap.size; omega)).trans f2
          refine ⟨⟨i1, i2, i3, i4⟩, ?_⟩
          have hown2 := ownsRow_below hown1 b2'
          have hb2 := hb.trans (b2'.mono hz)
          have hz2 := hb2.size
          clear g1 g2 f1 f2 b2 b2' hown1 hb hz
          iterate 1 (refine ord_flo ?_ (fun _ _ _ h => h) rfl ?_ ⟨i1, i2, i3, i4⟩ ?_; rotate_left; focus (intro W hS; obtain ⟨s1, s2, s3, s4⟩ := hS; go_simp; rfl))
          refine ord_done ?_
          go_simp
          clear i1 i2 i3 i4 hwr
          cases hgap : gapB t0 t with
          | true =>
            have HST3 := Lib.hid (show LnSt l (j + 1 + 1) (acc ++ [32] ++ tt) by have := HST2.out; rw [sepL_yes hgap] at this; exact this)
            clear HST2 hgap
            go_wp2_with (at_builtin; refine wpList_app1 Tryz.el_u8 rfl (.tmp 34) (.tmp 35) rfl w w2 u3 n _ rfl hown2 hb2 hz2 _ (.inr rfl) 1 1 rfl rfl (by simp [Value.oneCell']) (by omega) (by omega) (by omega) ?_)
            intro g cap w3 hown3 hb3 _ _ _
            have hz3 := hb3.size
            have hown4 : w3.ownsRow w.heap.size 5 1 (.slice (some ⟨g, 0, none⟩) (n + 1) cap) (n + 1) ((acc ++ [32]).map bv) := by rw [List.map_append]; exact hown3
            clear hown2 hb2 hz2 hown3
            go_wp2_with (at_builtin; refine wpList_appS rfl (.tmp 37) (.tmp 38) rfl w _ (n + 1) (acc ++ [32]) rfl hown4 hb3 hz3 tt rfl (by omega) ?_)
            intro v' w4 hown5 hb4 _
            clear hown4 hb3 hz3
            go_wp2
            go_roundw
            case rel => exact ⟨j + 1 + 1, n + 1 + tt.length, acc ++ [32] ++ tt, by omega, by go_num, by rw [HN.out]; simp; omega, HST3.out, by simpa using hown5, hb4⟩
            case measure => simp [intOf]; omega
          | false =>
            have HST3 := Lib.hid (show LnSt l (j + 1 + 1) (acc ++ tt) by have := HST2.out; rw [sepL_no hgap] at this; simpa using this)
            clear HST2 hgap
            go_wp2_with (at_builtin; refine wpList_appS rfl (.tmp 37) (.tmp 38) rfl w u3 n acc rfl hown2 hb2 hz2 tt rfl (by omega) ?_)
            intro v' w4 hown5 hb4 _
            clear hown2 hb2 hz2
            go_wp2
            go_roundw
            case rel => exact ⟨j + 1 + 1, n + tt.length, acc ++ tt, by omega, by go_num, by rw [HN.out]; simp, HST3.out, by simpa using hown5, hb4⟩
            case measure => simp [intOf]; omega
    · obtain rfl : k = l.length := by omega
      have hV : lineL l = acc := by
        have h1 := HS.out.1
        have h2 := HS.out.2.1
        rw [List.take_length] at h1 h2
        unfold lineL
        rw [if_pos h2, ← h1]
      have HV := Lib.hid hV
      have hback := conv_own (P := Tryz.prog) 90 9 5 hown HN.out.symm Tryz.underlying90 Tryz.underlying5 Tryz.underlying9
      clear hV hown
      go_wp2
      go_ret
      exact ⟨by rw [HV.out]; rfl, hbr⟩

end Go.Proofs.YtidjebepgpbcnaaGreatDoor

namespace Go.Proofs.YtidjebepgpbcnaaGreatDoor
open Go.RowKit

def rgS (s : Spn) : Prop := in64 s.low ∧ in64 s.high
theorem rgS_small {a b : Int} (h1 : 0 ≤ a) (h2 : a ≤ 1000) (h3 : 0 ≤ b) (h4 : b ≤ 1000) : rgS ⟨a, b⟩ := ⟨⟨by show -9223372036854775808 ≤ a; omega, by show a ≤ 9223372036854775807; omega⟩, by show -9223372036854775808 ≤ b; omega, by show b ≤ 9223372036854775807; omega⟩
theorem rgS_snoc {l : List Spn} {s : Spn} (h : ∀ t ∈ l, rgS t) (hs : rgS s) : ∀ t ∈ l ++ [s], rgS t := by
  intro t ht
  rcases List.mem_append.1 ht with ht | ht
  · exact h t ht
  · rw [List.mem_singleton.1 ht]; exact hs
/-- A row that the draws made. -/
def SpansPost (m : Nat) (g : Nat) (code : List UInt8) (w : World) (e : Ending) (w' : World) : Prop := ∃ (v : Value) (n : Nat) (l : List Spn), e = .returned v ∧ n = l.length ∧ n ≤ m ∧ (∀ t ∈ l, rgS t) ∧ w'.ownsRow w.heap.size 73 2 v n (l.flatMap spnc) ∧ Cur w' g code ∧ w.grownBy w' (some g)

theorem grown_put {w w1 : World} {row : Option Nat} {b : Nat} (h : w.grownBy w1 row) (hb : w.heap.size ≤ b) (j : Nat) (v : Value) : w.grownBy (w1.setCell ⟨b, j, none⟩ v) row :=
  grown_young h (⟨rfl, rfl, rfl, by simp, fun k _ hne => Below.heap_setCell w1 _ v k (by intro e; subst e; exact hne rfl)⟩ : w1.grownBy (w1.setCell ⟨b, j, none⟩ v) (some b)) (fun k hk => by injection hk with hk; omega)
theorem Cur.put {w : World} {g b : Nat} {code : List UInt8} (h : Cur w g code) (hb : g < b) (j : Nat) (v : Value) : Cur (w.setCell ⟨b, j, none⟩ v) g code :=
  h.grown (⟨rfl, rfl, rfl, by simp, fun k _ hne => Below.heap_setCell w _ v k (by intro e; subst e; exact hne rfl)⟩ : w.grownBy (w.setCell ⟨b, j, none⟩ v) (some b)) (fun k hk => by injection hk with hk; omega)
/-- A row above the cursor stands behind a draw. -/
theorem own_draw {w w1 : World} {B g n s : Nat} {e : TypeId} {v : Value} {xs : List Value} (h : w.ownsRow B e s v n xs) (hB : g < B) (hg : w.grownBy w1 (some g)) : w1.ownsRow B e s v n xs :=
  h.kept hg (by
    by_cases hv1 : v.ownBlock = none
    · exact .inl hv1
    · right
      intro e
      have := (h.lt g e).1
      omega)
theorem own_put {w : World} {B n s b j : Nat} {e : TypeId} {v x : Value} {xs : List Value} (h : w.ownsRow B e s v n xs) (hb : ∀ k, v.ownBlock = some k → k < b) : (w.setCell ⟨b, j, none⟩ x).ownsRow B e s v n xs :=
  h.kept (⟨rfl, rfl, rfl, by simp, fun k _ hne => Below.heap_setCell w _ x k (by intro e; subst e; exact hne rfl)⟩ : w.grownBy (w.setCell ⟨b, j, none⟩ x) (some b)) (by
    by_cases hv1 : v.ownBlock = none
    · exact .inl hv1
    · right
      intro e
      have := hb b e
      omega)

end Go.Proofs.YtidjebepgpbcnaaGreatDoor

namespace Go.Proofs.YtidjebepgpbcnaaGreatDoor
open Go.RowKit

/-- What is left of a size. -/
def szN (left n : Nat) : Int := if n ≤ left then ((left - n : Nat) : Int) else -1
theorem szN_yes {left n : Nat} (h : n ≤ left) : szN left n = ((left - n : Nat) : Int) := if_pos h
theorem szN_no {left n : Nat} (h : ¬ n ≤ left) : szN left n = -1 := if_neg h

mutual
def cntLf : Lf → Nat
  | .int _ => 1
  | .bool _ => 1
  | .str _ => 1
  | .rows _ _ _ flat => cntLs flat
def cntLs : List Lf → Nat
  | [] => 0
  | x :: xs => cntLf x + cntLs xs
end
theorem cntLs_append : ∀ (a b : List Lf), cntLs (a ++ b) = cntLs a + cntLs b
  | [], b => by simp [cntLs]
  | x :: a, b => by simp [cntLs, cntLs_append a b]; omega
mutual
theorem markLf_cnt : ∀ (x : Lf) (k : Nat), (markLf x k).2 = k + cntLf x
  | .int _, k => rfl
  | .bool _, k => rfl
  | .str _, k => rfl
  | .rows _ _ _ flat, k => by simp only [markLf, cntLf]; exact markLs_cnt flat k
theorem markLs_cnt : ∀ (xs : List Lf) (k : Nat), (markLs xs k).2 = k + cntLs xs
  | [], k => rfl
  | x :: xs, k => by simp only [markLs, cntLs]; rw [markLs_cnt xs, markLf_cnt x]; omega
end
theorem szLf_int (n : Int) : szLf (.int n) = 0 := rfl
theorem szLf_bool (b : Bool) : szLf (.bool b) = 0 := rfl
theorem szLf_str (l : List UInt8) : szLf (.str l) = l.length := rfl
theorem cntLf_int (n : Int) : cntLf (.int n) = 1 := rfl
theorem cntLf_bool (b : Bool) : cntLf (.bool b) = 1 := rfl
theorem cntLf_str (l : List UInt8) : cntLf (.str l) = 1 := rfl
theorem markLf_int (n : Int) (k : Nat) : markLf (.int n) k = (.int (k : Int), k + 1) := rfl
theorem markLf_bool (b : Bool) (k : Nat) : markLf (.bool b) k = (.bool (k % 3 == 0), k + 1) := rfl
theorem markLf_str (l : List UInt8) (k : Nat) : markLf (.str l) k = (.str (markB k), k + 1) := rfl

mutual
/-- Numbers and lengths are such as a machine holds. -/
def LfBnd : Lf → Prop
  | .int n => in64 n
  | .bool _ => True
  | .str l => l.length ≤ 9223372036854775807
  | .rows _ _ n flat => n ≤ 9223372036854775807 ∧ LsBnd flat
def LsBnd : List Lf → Prop
  | [] => True
  | x :: xs => LfBnd x ∧ LsBnd xs
end
theorem LsBnd.append : ∀ {a b : List Lf}, LsBnd (a ++ b) ↔ LsBnd a ∧ LsBnd b
  | [], _ => ⟨fun h => ⟨trivial, h⟩, fun h => h.2⟩
  | _ :: _, _ => ⟨fun h => ⟨⟨h.1, (LsBnd.append.1 h.2).1⟩, (LsBnd.append.1 h.2).2⟩, fun h => ⟨h.1.1, LsBnd.append.2 ⟨h.1.2, h.2⟩⟩⟩
theorem LsBnd.flat {α : Type} {enc : α → List Lf} : ∀ {l : List α}, LsBnd (l.flatMap enc) → ∀ x ∈ l, LsBnd (enc x)
  | [], _, x, h => by cases h
  | a :: l, hb, x, h => by
    rw [List.flatMap_cons] at hb
    obtain ⟨h1, h2⟩ := LsBnd.append.1 hb
    rcases List.mem_cons.1 h with rfl | h
    · exact h1
    · exact LsBnd.flat h2 x h

theorem markLs_app (a b : List Lf) (k : Nat) : (markLs (a ++ b) k).1 = (markLs a k).1 ++ (markLs b (k + cntLs a)).1 := by rw [markLs_append, markLs_cnt]

mutual
/-- Rows are as long as they say, elements are not too wide. -/
def LfFit : Lf → Prop
  | .rows _ m n flat => m ≤ 32 ∧ flat.length = n * m ∧ LsFit flat
  | _ => True
def LsFit : List Lf → Prop
  | [] => True
  | x :: xs => LfFit x ∧ LsFit xs
end
theorem LsFit.append : ∀ {a b : List Lf}, LsFit a → LsFit b → LsFit (a ++ b)
  | [], _, _, h => h
  | _ :: _, _, h, h2 => ⟨h.1, LsFit.append h.2 h2⟩
theorem LsFit.flat {α : Type} {enc : α → List Lf} (h : ∀ x, LsFit (enc x)) : ∀ l : List α, LsFit (l.flatMap enc)
  | [] => trivial
  | a :: l => by rw [List.flatMap_cons]; exact LsFit.append (h a) (LsFit.flat h l)
mutual
theorem cntLf_le : ∀ (x : Lf), LfFit x → cntLf x ≤ 1 + 32 * szLf x
  | .int _, _ => by simp [cntLf, szLf]
  | .bool _, _ => by simp [cntLf, szLf]
  | .str _, _ => by simp only [cntLf, szLf]; omega
  | .rows _ m n flat, h => by
    obtain ⟨h1, h2, h3⟩ := h
    have := cntLs_le flat h3
    simp only [cntLf, szLf]
    have h4 : n * m ≤ n * 32 := Nat.mul_le_mul_left n h1
    omega
theorem cntLs_le : ∀ (xs : List Lf), LsFit xs → cntLs xs ≤ xs.length + 32 * szLs xs
  | [], _ => by simp [cntLs, szLs]
  | x :: xs, h => by
    have h1 := cntLf_le x h.1
    have h2 := cntLs_le xs h.2
    simp only [cntLs, szLs, List.length_cons]
    omega
end
theorem cntRow_le {e : TypeId} {m n : Nat} {flat : List Lf} (h : LfFit (.rows e m n flat)) : cntLf (.rows e m n flat) ≤ 32 * szLf (.rows e m n flat) := by
  obtain ⟨h1, h2, h3⟩ := h
  have := cntLs_le flat h3
  simp only [cntLf, szLf]
  have h4 : n * m ≤ n * 32 := Nat.mul_le_mul_left n h1
  omega

theorem szLs_flat_take {α : Type} (enc : α → List Lf) (l : List α) (j : Nat) : szLs ((l.take j).flatMap enc) ≤ szLs (l.flatMap enc) := by
  have : l.flatMap enc = (l.take j).flatMap enc ++ (l.drop j).flatMap enc := by rw [← List.flatMap_append, List.take_append_drop]
  rw [this, szLs_append]
  omega
theorem cntLs_flat_take {α : Type} (enc : α → List Lf) (l : List α) (j : Nat) : cntLs ((l.take j).flatMap enc) ≤ cntLs (l.flatMap enc) := by
  have : l.flatMap enc = (l.take j).flatMap enc ++ (l.drop j).flatMap enc := by rw [← List.flatMap_append, List.take_append_drop]
  rw [this, cntLs_append]
  omega
theorem flat_take_succ {α : Type} (enc : α → List Lf) {l : List α} {j : Nat} {x : α} (h : l[j]? = some x) : (l.take (j + 1)).flatMap enc = (l.take j).flatMap enc ++ enc x := by
  obtain ⟨h1, h2⟩ := List.getElem?_eq_some_iff.1 h
  rw [List.take_succ_eq_append_getElem h1, h2, List.flatMap_append, List.flatMap_singleton]
theorem szLs_mem {α : Type} (enc : α → List Lf) {l : List α} {x : α} (h : x ∈ l) : szLs (enc x) ≤ szLs (l.flatMap enc) := by
  induction l with
  | nil => cases h
  | cons a l ih =>
    rw [List.flatMap_cons, szLs_append]
    rcases List.mem_cons.1 h with rfl | h
    · omega
    · have := ih h; omega
theorem cntLs_mem {α : Type} (enc : α → List Lf) {l : List α} {x : α} (h : x ∈ l) : cntLs (enc x) ≤ cntLs (l.flatMap enc) := by
  induction l with
  | nil => cases h
  | cons a l ih =>
    rw [List.flatMap_cons, cntLs_append]
    rcases List.mem_cons.1 h with rfl | h
    · omega
    · have := ih h; omega

/-- The elements of a row, marked one behind the other. -/
def mkEls {α : Type} (enc : α → List Lf) : List α → Nat → List (List Lf)
  | [], _ => []
  | a :: l, k => (markLs (enc a) k).1 :: mkEls enc l (k + cntLs (enc a))
theorem mkEls_length {α : Type} (enc : α → List Lf) : ∀ (l : List α) (k : Nat), (mkEls enc l k).length = l.length
  | [], _ => rfl
  | a :: l, k => by simp [mkEls, mkEls_length enc l]
theorem mkEls_flat {α : Type} (enc : α → List Lf) : ∀ (l : List α) (k : Nat), (mkEls enc l k).flatMap id = (markLs (l.flatMap enc) k).1
  | [], _ => by simp [mkEls, markLs]
  | a :: l, k => by rw [List.flatMap_cons, markLs_app]; simp only [mkEls, List.flatMap_cons, mkEls_flat enc l, id]
theorem mkEls_get {α : Type} (enc : α → List Lf) : ∀ (l : List α) (k j : Nat) (x : α), l[j]? = some x → (mkEls enc l k)[j]? = some (markLs (enc x) (k + cntLs ((l.take j).flatMap enc))).1
  | [], k, j, x, h => by simp at h
  | a :: l, k, 0, x, h => by simp only [List.getElem?_cons_zero, Option.some.injEq] at h; subst h; simp [mkEls, cntLs]
  | a :: l, k, j + 1, x, h => by
    simp only [List.getElem?_cons_succ] at h
    have := mkEls_get enc l (k + cntLs (enc a)) j x h
    simp only [mkEls, List.getElem?_cons_succ, List.take_succ_cons, List.flatMap_cons, cntLs_append]
    rw [this, Nat.add_assoc]

/-- Element i of a slice of marked records that is read. -/
theorem rows_at_mark {W : World} {α : Type} {enc : α → List Lf} {e : TypeId} {m : Nat} (hm : ∀ x, (enc x).length = m) {l : List α} {v : Value} {k : Nat} (h : LfRd W (markLf (.rows e m l.length (l.flatMap enc)) k).1 v) :
    ∃ p cap, v = .slice p l.length cap ∧ (l = [] ∨ ∃ b off, p = some ⟨b, off, none⟩ ∧ b < W.heap.size ∧ ∀ i x, l[i]? = some x → ∃ us, LsRd W (markLs (enc x) (k + cntLs ((l.take i).flatMap enc))).1 us ∧ ∀ j u, us[j]? = some u → W.cell? ⟨b, off + i * m + j, none⟩ = some u) := by
  simp only [markLf] at h
  rw [← mkEls_flat] at h
  obtain ⟨hl, p, cap, hv, h⟩ := h
  refine ⟨p, cap, hv, ?_⟩
  rcases h with h0 | ⟨b, off, hp, hlt, xs, hc, hx⟩
  · exact .inl (List.eq_nil_of_length_eq_zero h0)
  · refine .inr ⟨b, off, hp, hlt, fun i x hi => ?_⟩
    have hlen : ∀ y ∈ mkEls enc l k, y.length = m := by
      intro y hy
      obtain ⟨i, hi, rfl⟩ := List.getElem_of_mem hy
      have hi2 : i < l.length := by rwa [mkEls_length] at hi
      have := mkEls_get enc l k i l[i] (List.getElem?_eq_getElem hi2)
      rw [List.getElem?_eq_getElem hi] at this
      rw [Option.some.inj this, markLs_length, hm]
    have key : ∀ (els : List (List Lf)) (xs : List Value), (∀ y ∈ els, y.length = m) → LsRd W (els.flatMap id) xs → ∀ i y, els[i]? = some y → ∃ us, LsRd W y us ∧ ∀ j u, us[j]? = some u → xs[i * m + j]? = some u := by
      intro els
      induction els with
      | nil => intro xs _ _ i y h; simp at h
      | cons a els ih =>
        intro xs hall h i y hy
        rw [List.flatMap_cons] at h
        obtain ⟨u1, u2, rfl, h1, h2⟩ := LsRd.append.1 h
        have hl := LsRd.length h1
        rw [show (id a).length = m from hall a (by simp)] at hl
        cases i with
        | zero =>
          simp only [List.getElem?_cons_zero, Option.some.injEq] at hy
          subst hy
          refine ⟨u1, h1, fun j u hu => ?_⟩
          rw [Nat.zero_mul, Nat.zero_add, List.getElem?_append_left (List.getElem?_eq_some_iff.1 hu).1]
          exact hu
        | succ i =>
          simp only [List.getElem?_cons_succ] at hy
          obtain ⟨us, h3, h4⟩ := ih u2 (fun y hy => hall y (by simp [hy])) h2 i y hy
          refine ⟨us, h3, fun j u hu => ?_⟩
          have := h4 j u hu
          rw [List.getElem?_append_right (by rw [hl, Nat.succ_mul]; omega), show (i + 1) * m + j - u1.length = i * m + j by rw [hl, Nat.succ_mul]; omega]
          exact this
    obtain ⟨us, h1, h2⟩ := key _ xs hlen hx i _ (mkEls_get enc l k i x hi)
    exact ⟨us, h1, fun j u hu => by have := hc _ u (h2 j u hu); rwa [← Nat.add_assoc] at this⟩

theorem at_app {A L : List Value} {i : Nat} (hA : A.length = i) (c : Nat) : (A ++ L)[i + c]? = L[c]? := by
  rw [List.getElem?_append_right (by omega), hA, Nat.add_sub_cancel_left]
/-- A cell of an owned row is set: behind the first i cells, cell c. -/
theorem own_at {W : World} {B g n cp i m : Nat} {e : TypeId} {A L : List Value} (h : W.ownsRow B e m (.slice (some ⟨g, 0, none⟩) n cp) n (A ++ L)) (hA : A.length = i) (c : Nat) (u : Value) :
    (W.setCell ⟨g, i + c, none⟩ u).ownsRow B e m (.slice (some ⟨g, 0, none⟩) n cp) n (A ++ L.set c u) := by
  have h1 := (h.stored (i + c) u).1
  rwa [List.set_append_right _ _ (by omega), hA, Nat.add_sub_cancel_left] at h1
theorem own_cell {W : World} {B g n cp i m : Nat} {e : TypeId} {A L : List Value} (h : W.ownsRow B e m (.slice (some ⟨g, 0, none⟩) n cp) n (A ++ L)) (hA : A.length = i) (c : Nat) (x : Value) (hx : L[c]? = some x) :
    W.cell? ⟨g, i + c, none⟩ = some x := by
  have hl : (A ++ L).length = n * m := h.1
  have hc : c < L.length := (List.getElem?_eq_some_iff.1 hx).1
  rw [h.cellAt (i + c) (by rw [← hl]; simp; omega), at_app hA, hx]
theorem own_free {W : World} {B g n cp m : Nat} {e : TypeId} {xs : List Value} (h : W.ownsRow B e m (.slice (some ⟨g, 0, none⟩) n cp) n xs) (j : Nat) : W.frozen? ⟨g, j, none⟩ = false := h.frozenAt j

theorem LfIn.set {W : World} {x : Lf} {v : Value} {fp : List Nat} {g i : Nat} {u : Value} (h : LfIn W x v fp) (hg : g ∉ fp) : LfIn (W.setCell ⟨g, i, none⟩ u) x v fp :=
  h.frame x v fp (fun k hk => Below.heap_setCell W _ u k (by intro e; exact hg (by rw [← show k = g from e]; exact hk)))
theorem LfIn.away {W W' : World} {x : Lf} {v : Value} {fp fq : List Nat} (h : LfIn W x v fp) (hg : GrownIn W W' fq) (hd : ∀ k ∈ fp, k ∉ fq) : LfIn W' x v fp :=
  h.frame x v fp (fun k hk => hg.block k (LfIn.lt x v fp h k hk) (hd k hk))
theorem LfIn.below {W W' : World} {x : Lf} {v : Value} {fp : List Nat} (h : LfIn W x v fp) (hb : Below W.heap.size W W') : LfIn W' x v fp :=
  h.frame x v fp (fun k hk => hb.block k (LfIn.lt x v fp h k hk))
/-- The value of a row is a slice. -/
theorem LfIn.slice {W : World} {e : TypeId} {m n : Nat} {flat : List Lf} {v : Value} {fp : List Nat} (h : LfIn W (.rows e m n flat) v fp) : ∃ p c, v = .slice p n c := by
  obtain ⟨p, c, hv, _⟩ := (LfIn.rd _ _ _ h).2
  exact ⟨p, c, hv⟩
theorem LfRd.slice {W : World} {e : TypeId} {m n : Nat} {flat : List Lf} {v : Value} (h : LfRd W (.rows e m n flat) v) : ∃ p c, v = .slice p n c := by
  obtain ⟨p, c, hv, _⟩ := h.2
  exact ⟨p, c, hv⟩

end Go.Proofs.YtidjebepgpbcnaaGreatDoor

namespace Go.Proofs.YtidjebepgpbcnaaGreatDoor
open Go.RowKit

/-- make([]T, n). -/
theorem wpList_full {P : Program} {w : World} {ops : Array Oper} {rest : List Oper} {o : Oper} {a : Act} {t e : TypeId} {bytes : Nat} {Q : Exit → Act → World → Prop} (ht : P.underlying t = some (.slice e)) (z : Value) (hi : (P.info? e).map (fun i => (i.zero, i.size, i.bytes)) = some (some z, 1, bytes)) (hz : z.cells = #[z])
    (hgd : o.guard = none) (l c : Operand) (ho : o.op = Op.makeSlice t l c) (B : Nat) (W : World) (hb : Below B W w) (hB : B ≤ w.heap.size) (kl kc : IntKind) (n : Nat) (hl : a.eval l = .int kl (n : Int)) (hc : a.eval c = .int kc (n : Int)) (b2 : bytes * n ≤ 281474976710656) (b3 : n ≤ 281474976710656)
    (h : ∀ w', w'.ownsRow B e 1 (.slice (some ⟨w.heap.size, 0, none⟩) n n) n (List.replicate n z) → Below B W w' → w.grownBy w' none → w.heap.size < w'.heap.size → wpList P ops Q rest (a.put o.dst (.slice (some ⟨w.heap.size, 0, none⟩) n n)) w') : wpList P ops Q (o :: rest) a w := by
  obtain ⟨i, h1, h2, h3, h4⟩ := info_parts hi
  refine wpList_make_full w hgd l c t ho B e i z 1 ht h1 h2 h3 kl kc (n : Int) (n : Int) n hl hc rfl rfl (by rw [h4]; exact b2) (by unfold maxLen; omega) hB ?_
  intro w' k1 k2
  rw [hz, Nat.mul_one, toList_madeCells_one] at k1
  exact h w' k1 (hb.grown k2 hB (fun k hk => by cases hk)) k2 ((k1.lt w.heap.size rfl).2)

theorem strCells_sv (l : List UInt8) : Lib.strCells ⟨l.toArray⟩ = l.map bv := by simp [Lib.strCells]

/-- append(b, s...): the bytes of a string behind a slice of bytes. -/
theorem wpList_apps {P : Program} {w : World} {ops : Array Oper} {rest : List Oper} {o : Oper} {a : Act} {t u e : TypeId} {Q : Exit → Act → World → Prop} (E : Elem P t e 1 1) (hu : P.underlying u = some .string) (hz0 : (P.info? e).bind (·.zero) = some (.int .u8 0)) (hgd : o.guard = none) (sl x : Operand)
    (ho : o.op = .call { callee := .builtin .append, args := #[sl, x], argTypes := #[t, u] }) (B : Nat) (W : World) (hb : Below B W w) (hB : B ≤ w.heap.size)
    (v : Value) (n : Nat) (xs : List Value) (hs : a.eval sl = v) (hown : w.ownsRow B e 1 v n xs) (s : List UInt8) (hx : a.eval x = sv s) (hbytes : n + s.length ≤ 140737488355328)
    (h : ∀ v' w', w'.ownsRow B e 1 v' (n + s.length) (xs ++ s.map bv) → Below B W w' → w.grownBy w' v.ownBlock → wpList P ops Q rest (a.put o.dst v') w') : wpList P ops Q (o :: rest) a w := by
  obtain ⟨ht, ⟨i, z, hi, hz, h2, h3, h4⟩, hp⟩ := E
  rw [hi] at hz0
  have hsz : (ByteArray.mk s.toArray).size = s.length := by show s.toArray.size = _; simp
  refine Lib.wpList_append_own_string w hgd sl x t u ho B e i ht hu hi hz0 h2 h3 v n xs hs hown ⟨s.toArray⟩ hx (by unfold maxLen; omega) (by omega) hB ?_
  intro v' w' k1 k2 _
  rw [strCells_sv, hsz] at k1
  exact h v' w' k1 (hb.grown k2 hB (fun k hk => (hown.lt k hk).1)) k2

/-- How much a list of strings weighs: one a string, and its bytes. -/
def szl (l : List (List UInt8)) : Nat := (l.map fun x => x.length).foldr (· + ·) 0
theorem szl_snoc (l : List (List UInt8)) (x : List UInt8) : szl (l ++ [x]) = szl l + x.length := by
  induction l with
  | nil => simp [szl]
  | cons a l ih => simp only [szl, List.cons_append, List.map_cons, List.foldr_cons] at ih ⊢; omega
theorem szl_take (l : List (List UInt8)) (k : Nat) : szl (l.take k) ≤ szl l := by
  induction l generalizing k with
  | nil => simp
  | cons a l ih =>
    cases k with
    | zero => simp [szl]
    | succ k => have := ih k; simp only [szl, List.take_succ_cons, List.map_cons, List.foldr_cons] at this ⊢; omega

def szR (left : Nat) (l : List (List UInt8)) : Int := if l.length + szl l ≤ left then ((left - (l.length + szl l) : Nat) : Int) else -1
theorem szR_yes {left : Nat} {l : List (List UInt8)} (h : l.length + szl l ≤ left) : szR left l = ((left - (l.length + szl l) : Nat) : Int) := if_pos h
theorem szR_no {left : Nat} {l : List (List UInt8)} (h : ¬ l.length + szl l ≤ left) : szR left l = -1 := if_neg h

set_option maxHeartbeats 400000 in
theorem szStringS_any (v : Value) (l : List (List UInt8)) (left : Nat) (w : World) (hr : Rd1 sv w v l) (hl : l.length ≤ 9223372036854775807) (hx : ∀ x ∈ l, x.length ≤ 9223372036854775807) (hL : left ≤ 1000000000000) :
    Calls Tryz.prog 108 #[v, .int .i64 left] w fun e w' => e = .returned (.int .i64 (szR left l)) ∧ Below w.heap.size w w' := by
  obtain ⟨p, c, rfl, hp⟩ := hr.ex
  have HP := Lib.hid hp
  have HX := Lib.hid hx
  clear hp hr hx
  by_cases hbig : l.length ≤ left
  · have h1 : ¬ (left : Int) - (l.length : Int) < 0 := by omega
    go_enter Tryz.func108, Tryz.ntmps108
    go_wp2
    go_loopw [1, 4, 5] (fun lf r i wr => ∃ j : Nat, j ≤ l.length ∧ i = .int .i64 j ∧ lf = .int .i64 ((left - (l.length + szl (l.take j)) : Nat) : Int) ∧ l.length + szl (l.take j) ≤ left ∧ r = .int .i64 0 ∧ Below w.heap.size w wr) (fun _ _ i _ => l.length - (intOf i).toNat)
    case atStart => exact ⟨0, by omega, rfl, by simp [szl]; omega, by simp [szl]; omega, rfl, Below.refl _ _⟩
    case round =>
      obtain ⟨j, hj, rfl, rfl, hle, rfl, hbr⟩ := hrel
      by_cases hlt : j < l.length
      · obtain ⟨b, o, rfl, hb1, hc1⟩ := HP.out.resolve_left (by intro h; subst h; simp at hlt)
        obtain ⟨x, hx⟩ : ∃ x, l[j]? = some x := ⟨_, List.getElem?_eq_getElem hlt⟩
        have e1 : wr.cell? ⟨b, o + j, none⟩ = some (sv x) := (hbr.cell (p := ⟨b, o + j, none⟩) hb1).trans (hc1 j x hx)
        have hxl : x.length ≤ 9223372036854775807 := HX.out x (List.mem_of_getElem? hx)
        have hsz : (ByteArray.mk x.toArray).size = x.length := by show x.toArray.size = _; simp
        have htk : l.take (j + 1) = l.take j ++ [x] := by
          obtain ⟨h1, h2⟩ := List.getElem?_eq_some_iff.1 hx
          rw [List.take_succ_eq_append_getElem h1, h2]
        have HT := Lib.hid (show szl (l.take (j + 1)) = szl (l.take j) + x.length by rw [htk, szl_snoc])
        have hle2 := szl_take l (j + 1)
        rw [HT.out] at hle2
        clear hc1 hx HP htk HX h1
        by_cases hok : l.length + szl (l.take j) + x.length ≤ left
        · have h2 : ¬ (((left - (l.length + szl (l.take j)) : Nat) : Int) - (x.length : Int) < 0) := by omega
          go_wp2
          go_roundw
          case rel =>
            refine ⟨j + 1, by omega, by go_num, ?_, by rw [HT.out]; omega, rfl, hbr⟩
            rw [HT.out]
            congr 1
            omega
          case measure => simp [intOf]; omega
        · have h2 : ((left - (l.length + szl (l.take j)) : Nat) : Int) - (x.length : Int) < 0 := by omega
          have hno := Lib.hid (szR_no (left := left) (l := l) (by omega))
          go_wp2
          go_ret
          exact ⟨by rw [hno.out]; rfl, hbr⟩
      · obtain rfl : j = l.length := by omega
        rw [List.take_length] at hle ⊢
        go_wp2
        go_ret
        refine ⟨?_, hbr⟩
        rw [szR_yes hle]
        rfl
  · have h1 : (left : Int) - (l.length : Int) < 0 := by omega
    have hno := Lib.hid (szR_no (left := left) (l := l) (by omega))
    go_enter Tryz.func108, Tryz.ntmps108
    go_wp2
    go_ret
    exact ⟨by rw [hno.out]; rfl, Below.refl _ _⟩

/-- The first j elements are l's, the rest as many empty strings. -/
def half (l : List (List UInt8)) (j : Nat) : List (List UInt8) := l.take j ++ List.replicate (l.length - j) []
theorem half_zero (l : List (List UInt8)) : half l 0 = List.replicate l.length [] := by simp [half]
theorem half_all (l : List (List UInt8)) : half l l.length = l := by simp [half]
theorem half_length (l : List (List UInt8)) (j : Nat) (h : j ≤ l.length) : (half l j).length = l.length := by simp [half]; omega
theorem half_set (l : List (List UInt8)) (j : Nat) (x : List UInt8) (hx : l[j]? = some x) : (half l j).set j x = half l (j + 1) := by
  obtain ⟨h1, h2⟩ := List.getElem?_eq_some_iff.1 hx
  unfold half
  have hl : (l.take j).length = j := by simp; omega
  rw [List.set_append_right _ _ (by omega), hl, Nat.sub_self, List.take_succ_eq_append_getElem h1, h2, List.append_assoc]
  congr 1
  rw [show l.length - j = (l.length - (j + 1)) + 1 from by omega, List.replicate_succ]
  rfl

set_option maxHeartbeats 400000 in
theorem toStringS_any (v : Value) (l : List (List UInt8)) (w : World) (hr : Rd1 sv w v l) (hl : l.length ≤ 10000000) :
    Calls Tryz.prog 110 #[v] w fun e w' => ∃ g, e = .returned (.slice (some ⟨g, 0, none⟩) l.length l.length) ∧ w'.ownsRow w.heap.size 9 1 (.slice (some ⟨g, 0, none⟩) l.length l.length) l.length (l.map sv) ∧ Below w.heap.size w w' := by
  obtain ⟨p, c, rfl, hp⟩ := hr.ex
  have HP := Lib.hid hp
  clear hp hr
  go_enter Tryz.func110, Tryz.ntmps110
  go_wp2_with (refine wpList_full Tryz.underlying53 (.string ⟨#[]⟩) (bytes := 16) (by kernel_rfl) rfl rfl _ _ rfl w.heap.size w (Below.refl _ _) (Nat.le_refl _) _ _ l.length rfl rfl (by omega) (by omega) ?_)
  intro w1 hown1 hb1 _ hz1
  have hrep : List.replicate l.length (Value.string ⟨#[]⟩) = (half l 0).map sv := by rw [half_zero]; simp
  rw [hrep] at hown1
  clear hrep
  go_wp2
  go_loopw [4] (fun i wr => ∃ j : Nat, j ≤ l.length ∧ i = .int .i64 j ∧ wr.ownsRow w.heap.size 9 1 (.slice (some ⟨w.heap.size, 0, none⟩) l.length l.length) l.length ((half l j).map sv) ∧ Below w.heap.size w wr) (fun i _ => l.length - (intOf i).toNat)
  case atStart => exact ⟨0, by omega, rfl, hown1, hb1⟩
  case round =>
    obtain ⟨j, hj, rfl, hown, hbr⟩ := hrel
    clear hown1 hb1 hz1
    by_cases hlt : j < l.length
    · obtain ⟨b, o, rfl, hb1, hc1⟩ := HP.out.resolve_left (by intro h; subst h; simp at hlt)
      obtain ⟨x, hx⟩ : ∃ x, l[j]? = some x := ⟨_, List.getElem?_eq_getElem hlt⟩
      have e1 : wr.cell? ⟨b, o + j, none⟩ = some (sv x) := (hbr.cell (p := ⟨b, o + j, none⟩) hb1).trans (hc1 j x hx)
      have hml : ((half l j).map sv).length = l.length := by rw [List.length_map, half_length l j hj]
      have hc2 : ∃ u, wr.cell? ⟨w.heap.size, j, none⟩ = some u := by
        have := hown.cellAt j (by omega)
        rw [this]
        exact ⟨_, List.getElem?_eq_getElem (by rw [hml]; omega)⟩
      obtain ⟨u, hu⟩ := hc2
      have hf2 := hown.frozenAt j
      have HS := Lib.hid (hown.stored j (sv x))
      have HH := Lib.hid (half_set l j x hx)
      have hgw := (hown.lt w.heap.size rfl).2
      clear hc1 hx HP hml hown
      go_wp2
      go_roundw
      case rel =>
        refine ⟨j + 1, by omega, by go_num, ?_, hbr.setCell (Nat.le_refl _) _⟩
        have := HS.out.1
        rw [← List.map_set, HH.out] at this
        exact this
      case measure => simp [intOf]; omega
    · obtain rfl : j = l.length := by omega
      rw [half_all] at hown
      go_wp2
      go_ret
      exact ⟨w.heap.size, rfl, hown, hbr⟩

theorem join_snoc (l : List (List UInt8)) (x sep : List UInt8) : Lib.join (l ++ [x]) sep = if l = [] then x else Lib.join l sep ++ sep ++ x := by
  cases l with
  | nil => simp [Lib.join_one]
  | cons a r =>
    rw [if_neg (by simp), List.cons_append, Lib.join_cons, Lib.join_cons]
    simp [Lib.joinTail]
theorem join_length (sep : List UInt8) (l : List (List UInt8)) : (Lib.join l sep).length ≤ szl l + l.length * sep.length := by
  induction l using rev_ind with
  | nil => simp [Lib.join_nil]
  | snoc l x ih =>
    rw [join_snoc, szl_snoc, List.length_append, Nat.add_mul]
    split
    · simp; omega
    · simp only [List.length_append, List.length_singleton, Nat.one_mul]; omega

set_option maxHeartbeats 800000 in
theorem specJoined_any (v : Value) (l : List (List UInt8)) (sep : List UInt8) (w : World) (hr : Rd1 sv w v l) (hl : l.length + szl l ≤ 1048576) (hs : sep.length ≤ 1048576) :
    Calls Tryz.prog 54 #[v, sv sep] w fun e w' => e = .returned (sv (Lib.join l sep)) ∧ Below w.heap.size w w' := by
  obtain ⟨p, c, rfl, hp⟩ := hr.ex
  have HP := Lib.hid hp
  clear hp hr
  go_enter Tryz.func54, Tryz.ntmps54
  go_wp2
  go_loopw [5, 6] (fun b i wr => ∃ j : Nat, j ≤ l.length ∧ i = .int .i64 j ∧ wr.ownsRow w.heap.size 5 1 b (Lib.join (l.take j) sep).length ((Lib.join (l.take j) sep).map bv) ∧ Below w.heap.size w wr) (fun _ i _ => l.length - (intOf i).toNat)
  case atStart => exact ⟨0, by omega, rfl, by simpa [Lib.join_nil] using World.ownsRow_made w #[] 0 (Nat.le_refl _) (by unfold maxLen; omega) rfl, (Below.refl _ _).alloc (Nat.le_refl _) _⟩
  case round =>
    obtain ⟨j, hj, rfl, hown, hbr⟩ := hrel
    have hbr0 := hbr.size
    by_cases hlt : j < l.length
    · obtain ⟨b, o, rfl, hb1, hc1⟩ := HP.out.resolve_left (by intro h; subst h; simp at hlt)
      obtain ⟨x, hx⟩ : ∃ x, l[j]? = some x := ⟨_, List.getElem?_eq_getElem hlt⟩
      have e0 : w.cell? ⟨b, o + j, none⟩ = some (sv x) := hc1 j x hx
      have e1 : wr.cell? ⟨b, o + j, none⟩ = some (sv x) := (hbr.cell (p := ⟨b, o + j, none⟩) hb1).trans e0
      have hJ : Lib.join (l.take (j + 1)) sep = if l.take j = [] then x else Lib.join (l.take j) sep ++ sep ++ x := by
        obtain ⟨h1, h2⟩ := List.getElem?_eq_some_iff.1 hx
        rw [List.take_succ_eq_append_getElem h1, h2, join_snoc]
      have hlen : (Lib.join (l.take (j + 1)) sep).length ≤ 1099513724928 := by
        have h1 := join_length sep (l.take (j + 1))
        have h2 := szl_take l (j + 1)
        have h3 : (l.take (j + 1)).length * sep.length ≤ 1048576 * 1048576 := Nat.mul_le_mul (by simp; omega) hs
        omega
      clear hc1 hx HP e0
      by_cases hj0 : j = 0
      · subst hj0
        have HJ := Lib.hid hJ
        rw [hJ] at hlen
        simp only [List.take_zero, if_true] at hlen
        simp only [List.take_zero, Lib.join_nil, List.length_nil, List.map_nil] at hown
        rw [Nat.add_zero] at e1
        clear hJ
        go_wp2_with (at_builtin; refine wpList_apps Tryz.el_u8 Tryz.underlying9 (by kernel_rfl) rfl (.tmp 19) (.tmp 23) rfl w.heap.size w hbr hbr0 u5 0 [] rfl hown x rfl (by omega) ?_)
        intro v' w' hown' hbr' _
        clear hown hbr hbr0
        go_wp2
        go_roundw
        case rel =>
          refine ⟨1, by omega, by go_num, ?_, hbr'⟩
          have e : Lib.join (l.take 1) sep = x := by have := HJ.out; simpa using this
          rw [e]
          simpa using hown'
        case measure => simp [intOf]; omega
      · have hne : l.take j ≠ [] := by
          intro h
          have := congrArg List.length h
          rw [List.length_take] at this
          simp only [List.length_nil] at this
          omega
        rw [if_neg hne] at hJ
        have HJ := Lib.hid hJ
        rw [hJ] at hlen
        simp only [List.length_append] at hlen
        have hgt : (0 : Int) < (j : Int) := by omega
        clear hJ hne
        generalize Lib.join (l.take j) sep = cur at *
        go_wp2_with (at_builtin; refine wpList_apps Tryz.el_u8 Tryz.underlying9 (by kernel_rfl) rfl (.tmp 16) (.tmp 17) rfl w.heap.size w hbr hbr0 u5 cur.length (cur.map bv) rfl hown sep rfl (by omega) ?_)
        intro v1 w1 hown1 hbr1 hg1
        have hbr10 := hbr1.size
        have e2 : w1.cell? ⟨b, o + j, none⟩ = some (sv x) := (hbr1.cell (p := ⟨b, o + j, none⟩) hb1).trans ((hbr.cell (p := ⟨b, o + j, none⟩) hb1).symm.trans e1)
        clear hown hbr hbr0 e1 hg1
        go_wp2_with (at_builtin; refine wpList_apps Tryz.el_u8 Tryz.underlying9 (by kernel_rfl) rfl (.tmp 19) (.tmp 23) rfl w.heap.size w hbr1 hbr10 v1 (cur.length + sep.length) _ rfl hown1 x rfl (by omega) ?_)
        intro v' w' hown' hbr' _
        clear hown1 hbr1 hbr10
        go_wp2
        go_roundw
        case rel =>
          refine ⟨j + 1, by omega, by go_num, ?_, hbr'⟩
          rw [HJ.out, List.length_append, List.length_append, List.map_append, List.map_append, List.append_assoc]
          exact hown'
        case measure => simp [intOf]; omega
    · obtain rfl : j = l.length := by omega
      rw [List.take_length] at hown
      have hback := conv_own (P := Tryz.prog) 90 9 5 hown rfl Tryz.underlying90 Tryz.underlying5 Tryz.underlying9
      clear hown
      go_wp2
      go_ret
      exact ⟨rfl, hbr⟩

theorem Join_any (g o c : Nat) (l : List (List UInt8)) (sep : List UInt8) (w : World) (hc : ∀ i x, l[i]? = some x → w.cell? ⟨g, o + i, none⟩ = some (sv x)) (hg : g < w.heap.size) (hcap : l.length ≤ c) (hl : l.length + szl l ≤ 1048576) (hs : sep.length ≤ 1048576) :
    Calls Tryz.prog 115 #[.slice (some ⟨g, o, none⟩) l.length c, sv sep] w fun e w' => e = .returned (sv (Lib.join l sep)) ∧ Below w.heap.size w w' := by
  have hm : (l.map fun x => (⟨x.toArray⟩ : ByteArray)).map (·.data.toList) = l := by rw [List.map_map]; exact List.map_id'' (fun x => by simp) l
  have h3 : l.length * sep.length ≤ 1048576 * 1048576 := Nat.mul_le_mul (by omega) hs
  have hj := join_length sep l
  have := Tryz.strings_Join g o c (l.map fun x => (⟨x.toArray⟩ : ByteArray)) ⟨sep.toArray⟩ w (fun j x hx => by
    rw [List.getElem?_map] at hx
    cases hy : l[j]? with
    | none => rw [hy] at hx; cases hx
    | some y => rw [hy] at hx; cases hx; exact hc j y hy) hg (by simp; omega) (by simpa using hcap) (by rw [hm]; show (Lib.join l sep).length ≤ _; omega)
  rw [hm, List.length_map] at this
  exact this

theorem implJoined_any (g c : Nat) (l : List (List UInt8)) (sep : List UInt8) (w : World) (hc : ∀ i x, l[i]? = some x → w.cell? ⟨g, 0 + i, none⟩ = some (sv x)) (hg : g < w.heap.size) (hcap : l.length ≤ c) (hl : l.length + szl l ≤ 1048576) (hs : sep.length ≤ 1048576) :
    Calls Tryz.prog 94 #[.slice (some ⟨g, 0, none⟩) l.length c, sv sep] w fun e w' => e = .returned (sv (Lib.join l sep)) ∧ Below w.heap.size w w' := by
  have HC := Lib.hid hc
  clear hc
  go_enter Tryz.func94, Tryz.ntmps94
  go_wp2_with fail
  refine (Join_any g 0 c l sep _ HC.out hg hcap hl hs).mono ?_
  rintro e w1 ⟨rfl, hb⟩
  go_wp2
  go_ret
  exact ⟨rfl, hb⟩

theorem own_cells {w : World} {B n g c : Nat} {e : TypeId} {l : List (List UInt8)} (h : w.ownsRow B e 1 (.slice (some ⟨g, 0, none⟩) n c) n (l.map sv)) (i : Nat) (x : List UInt8) (hx : l[i]? = some x) : w.cell? ⟨g, 0 + i, none⟩ = some (sv x) := by
  have hi : i < l.length := (List.getElem?_eq_some_iff.1 hx).1
  have hn : l.length = n := by have := h.1; simpa using this
  rw [Nat.zero_add, h.cellAt i (by omega), List.getElem?_map, hx]
  rfl

/-- Joined over a row of the call's own (nil too). -/
theorem implJoined_own {B n : Nat} {e : TypeId} (v : Value) (l : List (List UInt8)) (sep : List UInt8) (w : World) (h : w.ownsRow B e 1 v n (l.map sv)) (hl : l.length + szl l ≤ 1048576) (hs : sep.length ≤ 1048576) :
    Calls Tryz.prog 94 #[v, sv sep] w fun e w' => e = .returned (sv (Lib.join l sep)) ∧ Below w.heap.size w w' := by
  have hn : l.length = n := by have := h.1; simpa using this
  rcases h.2 with ⟨rfl, h0⟩ | ⟨g, cap, cur, rfl, _, hg, hc, _, _, _⟩
  · have : l = [] := List.eq_nil_of_length_eq_zero (by omega)
    subst this
    go_enter Tryz.func94, Tryz.ntmps94
    go_wp2_with fail
    refine (Tryz.strings_Join_none none 0 ⟨sep.toArray⟩ _).mono ?_
    rintro e w1 ⟨rfl, rfl⟩
    go_wp2
    go_ret
    exact ⟨rfl, Below.refl _ _⟩
  · subst hn
    exact implJoined_any g cap l sep w (own_cells h) (Array.getElem?_eq_some_iff.1 hg).1 hc hl hs

end Go.Proofs.YtidjebepgpbcnaaGreatDoor

namespace Go.Proofs.YtidjebepgpbcnaaGreatDoor
open Go.RowKit

structure Scp where
  kind : Int
  names : List (List UInt8)
  events : Int

structure Flt where
  on : Bool
  scopes : List Scp

def strsLf (l : List (List UInt8)) : Lf := .rows 9 1 l.length (l.map Lf.str)
def Scp.lf (s : Scp) : List Lf := [.int s.kind, strsLf s.names, .int s.events]

theorem lsRd_strs {W : World} : ∀ (l : List (List UInt8)) (xs : List Value), LsRd W (l.map Lf.str) xs ↔ xs = l.map sv
  | [], xs => Iff.rfl
  | a :: l, xs => by
    constructor
    · rintro ⟨v, us, rfl, h1, h2⟩
      rw [(lsRd_strs l us).1 h2, h1]; rfl
    · rintro rfl
      exact ⟨sv a, l.map sv, rfl, rfl, (lsRd_strs l _).2 rfl⟩
theorem lsIn_strs {W : World} : ∀ (l : List (List UInt8)) (xs : List Value) (fp : List Nat), LsIn W (l.map Lf.str) xs fp ↔ xs = l.map sv ∧ fp = []
  | [], xs, fp => Iff.rfl
  | a :: l, xs, fp => by
    constructor
    · rintro ⟨v, us, f1, f2, rfl, h1, h2, rfl⟩
      obtain ⟨e1, e2⟩ := (lsIn_strs l us f2).1 h2
      rw [e1, h1.1, h1.2, e2]; exact ⟨rfl, rfl⟩
    · rintro ⟨rfl, rfl⟩
      exact ⟨sv a, l.map sv, [], [], rfl, ⟨rfl, rfl⟩, (lsIn_strs l _ _).2 ⟨rfl, rfl⟩, rfl⟩
theorem strs_rd {W : World} {l : List (List UInt8)} {v : Value} : LfRd W (strsLf l) v ↔ Rd1 sv W v l := by
  constructor
  · rintro ⟨_, p, cap, hv, h⟩
    refine ⟨p, cap, hv, ?_⟩
    rcases h with h0 | ⟨b, off, hp, hlt, xs, hc, hx⟩
    · exact .inl (List.eq_nil_of_length_eq_zero h0)
    · refine .inr ⟨b, off, hp, hlt, fun i x hi => hc i (sv x) ?_⟩
      rw [(lsRd_strs l xs).1 hx, List.getElem?_map, hi]; rfl
  · intro h
    obtain ⟨p, cap, hv, hc⟩ := h.ex
    refine ⟨by simp, p, cap, hv, ?_⟩
    rcases hc with h0 | ⟨b, off, hp, hlt, hc⟩
    · exact .inl (by rw [h0]; rfl)
    · refine .inr ⟨b, off, hp, hlt, l.map sv, fun j u hu => ?_, (lsRd_strs l _).2 rfl⟩
      rw [List.getElem?_map] at hu
      cases hl : l[j]? with
      | none => rw [hl] at hu; cases hu
      | some x => rw [hl] at hu; injection hu with hu; rw [← hu]; exact hc j x hl
theorem strs_in {W : World} {l : List (List UInt8)} {v : Value} {fp : List Nat} : LfIn W (strsLf l) v fp ↔ W.ownsRow 0 9 1 v l.length (l.map sv) ∧ fp = v.ownBlock.toList := by
  constructor
  · rintro ⟨_, xs, fq, ho, hx, rfl⟩
    obtain ⟨e1, e2⟩ := (lsIn_strs l xs fq).1 hx
    rw [e1] at ho
    exact ⟨ho, by rw [e2, List.append_nil]⟩
  · rintro ⟨ho, rfl⟩
    exact ⟨by simp, l.map sv, [], ho, (lsIn_strs l _ _).2 ⟨rfl, rfl⟩, by rw [List.append_nil]⟩
theorem own_base {W : World} {B m n : Nat} {e : TypeId} {v : Value} {xs : List Value} (h : W.ownsRow B e m v n xs) : W.ownsRow 0 e m v n xs := ⟨h.1, h.2.imp id fun ⟨g, cap, cur, h1, _, h3⟩ => ⟨g, cap, cur, h1, Nat.zero_le _, h3⟩⟩
theorem own_rebase {W : World} {B m n : Nat} {e : TypeId} {v : Value} {xs : List Value} (h : W.ownsRow 0 e m v n xs) (hb : ∀ k, v.ownBlock = some k → B ≤ k) : W.ownsRow B e m v n xs := ⟨h.1, h.2.imp id fun ⟨g, cap, cur, h1, _, h3⟩ => ⟨g, cap, cur, h1, hb g (by rw [h1]; rfl), h3⟩⟩
theorem tree_strs {W : World} {B : Nat} {l : List (List UInt8)} {v : Value} (h : W.ownsRow B 9 1 v l.length (l.map sv)) : Tree W B (strsLf l) v v.ownBlock.toList :=
  ⟨strs_in.2 ⟨own_base h, rfl⟩, by cases v.ownBlock <;> simp, fun k hk => (h.lt k (by simpa using hk)).1⟩

/-- A scope's value reads as it. -/
def ScpRd (W : World) (s : Scp) (v : Value) : Prop := ∃ vn, v = .agg #[.int .i64 s.kind, vn, .int .i64 s.events] ∧ Rd1 sv W vn s.names
theorem ScpRd.ls {W : World} {s : Scp} {vs : List Value} : LsRd W s.lf vs ↔ ∃ vn, vs = [.int .i64 s.kind, vn, .int .i64 s.events] ∧ Rd1 sv W vn s.names := by
  constructor
  · rintro ⟨a, r1, rfl, h1, b, r2, rfl, h2, c, r3, rfl, h3, rfl⟩
    exact ⟨b, by rw [h1, h3], strs_rd.1 h2⟩
  · rintro ⟨vn, rfl, h⟩
    exact ⟨_, _, rfl, rfl, _, _, rfl, strs_rd.2 h, _, _, rfl, rfl, rfl⟩

/-- A cell is set in a block whose cells are known. -/
theorem set_heap {W : World} {b j : Nat} {cs : Array Value} {T : TypeId} {u : Value} (h : W.heap[b]? = some (.cells cs T (0, 0))) : (W.setCell ⟨b, j, none⟩ u).heap[b]? = some (.cells (cs.setIfInBounds j u) T (0, 0)) := by
  simp [World.setCell, Array.getElem?_modify, h]
theorem set_other {W : World} {b b' j : Nat} {u : Value} (h : b' ≠ b) : (W.setCell ⟨b, j, none⟩ u).heap[b']? = W.heap[b']? := Below.heap_setCell W ⟨b, j, none⟩ u b' h

def scpsLf (l : List Scp) : Lf := .rows 78 3 l.length (l.flatMap Scp.lf)
theorem scp_len (s : Scp) : s.lf.length = 3 := rfl
/-- Scope i of a slice that is read. -/
theorem scps_at {W : World} {l : List Scp} {v : Value} (h : LfRd W (scpsLf l) v) : ∃ p cap, v = .slice p l.length cap ∧ (l = [] ∨ ∃ b off, p = some ⟨b, off, none⟩ ∧ b < W.heap.size ∧ ∀ i s, l[i]? = some s → ∃ vn, Rd1 sv W vn s.names ∧ W.cell? ⟨b, off + i * 3, none⟩ = some (.int .i64 s.kind) ∧ W.cell? ⟨b, off + i * 3 + 1, none⟩ = some vn ∧ W.cell? ⟨b, off + i * 3 + 2, none⟩ = some (.int .i64 s.events)) := by
  obtain ⟨p, cap, hv, hc⟩ := rows_at scp_len h
  refine ⟨p, cap, hv, hc.imp id fun ⟨b, off, hp, hlt, hc⟩ => ⟨b, off, hp, hlt, fun i s hi => ?_⟩⟩
  obtain ⟨us, h1, h2⟩ := hc i s hi
  obtain ⟨vn, rfl, h3⟩ := ScpRd.ls.1 h1
  exact ⟨vn, h3, h2 0 _ rfl, h2 1 _ rfl, h2 2 _ rfl⟩

def scw : List Scp → Nat
  | [] => 0
  | s :: r => (s.names.length + szl s.names) + scw r
theorem scw_snoc : ∀ (l : List Scp) (s : Scp), scw (l ++ [s]) = scw l + (s.names.length + szl s.names)
  | [], s => by simp [scw]
  | a :: l, s => by simp [scw, scw_snoc l s]; omega
theorem scw_take (l : List Scp) (k : Nat) : scw (l.take k) ≤ scw l := by
  have h : ∀ a b : List Scp, scw (a ++ b) = scw a + scw b := by
    intro a
    induction a with
    | nil => intro b; simp [scw]
    | cons x a ih => intro b; simp [scw, ih b]; omega
  have := h (l.take k) (l.drop k)
  rw [List.take_append_drop] at this
  omega
theorem take_sc {l : List Scp} {k : Nat} {s : Scp} (h : l[k]? = some s) : l.take (k + 1) = l.take k ++ [s] := by
  obtain ⟨h1, h2⟩ := List.getElem?_eq_some_iff.1 h
  rw [List.take_succ_eq_append_getElem h1, h2]
def scR (left : Nat) (l : List Scp) : Int := if l.length + scw l ≤ left then ((left - (l.length + scw l) : Nat) : Int) else -1
theorem scR_yes {left : Nat} {l : List Scp} (h : l.length + scw l ≤ left) : scR left l = ((left - (l.length + scw l) : Nat) : Int) := if_pos h
theorem scR_no {left : Nat} {l : List Scp} (h : ¬ l.length + scw l ≤ left) : scR left l = -1 := if_neg h

def mkScp (s : Scp) (k : Nat) : Scp := ⟨(k : Int), marks (k + 1) s.names.length, ((k + 1 + s.names.length : Nat) : Int)⟩
def mkEnd : List Scp → Nat → Nat
  | [], k => k
  | s :: r, k => mkEnd r (k + 2 + s.names.length)
def mkScps : List Scp → Nat → List Scp
  | [], _ => []
  | s :: r, k => mkScp s k :: mkScps r (k + 2 + s.names.length)
theorem mkEnd_snoc : ∀ (l : List Scp) (s : Scp) (k : Nat), mkEnd (l ++ [s]) k = mkEnd l k + 2 + s.names.length
  | [], s, k => rfl
  | a :: l, s, k => by simp [mkEnd, mkEnd_snoc l s]
theorem mkScps_snoc : ∀ (l : List Scp) (s : Scp) (k : Nat), mkScps (l ++ [s]) k = mkScps l k ++ [mkScp s (mkEnd l k)]
  | [], s, k => rfl
  | a :: l, s, k => by simp [mkScps, mkEnd, mkScps_snoc l s]
theorem mkScps_length : ∀ (l : List Scp) (k : Nat), (mkScps l k).length = l.length
  | [], k => rfl
  | a :: l, k => by simp [mkScps, mkScps_length l]
theorem mkEnd_le : ∀ (l : List Scp) (k : Nat), k ≤ mkEnd l k
  | [], k => Nat.le_refl _
  | a :: l, k => by have := mkEnd_le l (k + 2 + a.names.length); simp only [mkEnd]; omega
theorem mkEnd_take (l : List Scp) (k : Nat) : ∀ j, mkEnd (l.take j) k ≤ mkEnd l k := by
  intro j
  have h : ∀ (a b : List Scp) (k : Nat), mkEnd (a ++ b) k = mkEnd b (mkEnd a k) := by
    intro a
    induction a with
    | nil => intro b k; rfl
    | cons x a ih => intro b k; simp [mkEnd, ih]
  have h2 := h (l.take j) (l.drop j) k
  rw [List.take_append_drop] at h2
  rw [h2]
  exact mkEnd_le _ _
theorem mkScps_get : ∀ (l : List Scp) (k j : Nat) (s : Scp), l[j]? = some s → (mkScps l k)[j]? = some (mkScp s (mkEnd (l.take j) k))
  | [], k, j, s, h => by simp at h
  | a :: l, k, 0, s, h => by simp only [List.getElem?_cons_zero, Option.some.injEq] at h; subst h; rfl
  | a :: l, k, j + 1, s, h => by simp only [List.getElem?_cons_succ] at h; simpa [mkScps, mkEnd] using mkScps_get l (k + 2 + a.names.length) j s h

theorem GrownIn.of_row {W W' : World} {row : Option Nat} (h : W.grownBy W' row) : GrownIn W W' row.toList :=
  ⟨h.os, h.tape, h.output, h.size, fun k hk hn => h.block k hk (fun e => hn (by rw [← e]; simp))⟩
theorem GrownIn.refl (W : World) (fp : List Nat) : GrownIn W W fp := ⟨rfl, rfl, rfl, Nat.le_refl _, fun _ _ _ => rfl⟩
theorem LsIn.apart {W W' : World} {xs : List Lf} {vs : List Value} {fp fq : List Nat} (h : LsIn W xs vs fp) (hg : GrownIn W W' fq) (hd : ∀ k ∈ fp, k ∉ fq) : LsIn W' xs vs fp :=
  h.frame xs vs fp (fun k hk => hg.block k (LsIn.lt xs vs fp h k hk) (hd k hk))
theorem own_apart {W W' : World} {B m n : Nat} {e : TypeId} {v : Value} {xs : List Value} {fq : List Nat} (h : W.ownsRow B e m v n xs) (hg : GrownIn W W' fq) (hd : ∀ k, v.ownBlock = some k → k ∉ fq) : W'.ownsRow B e m v n xs :=
  own_frame h (fun k hk => hg.block k (h.lt k hk).2 (hd k hk))

end Go.Proofs.YtidjebepgpbcnaaGreatDoor

namespace Go.Proofs.YtidjebepgpbcnaaGreatDoor
open Go.RowKit

theorem below_drew {w w' : World} (h : Below w.drew.heap.size w.drew w') : Below w.heap.size w w' := (Below.refl _ _).drew.trans h
theorem nd_parts {A B : List Nat} (h : (A ++ B).Nodup) : (∀ q ∈ A, q ∉ B) ∧ A.Nodup ∧ B.Nodup := by
  obtain ⟨h1, h2, h3⟩ := List.nodup_append.1 h
  exact ⟨fun q hq hm => h3 q hq q hm rfl, h1, h2⟩
theorem mark_slice {W : World} {e : TypeId} {m n k : Nat} {flat : List Lf} {v : Value} (h : LfRd W (markLf (.rows e m n flat) k).1 v) : ∃ p c, v = .slice p n c := by
  obtain ⟨p, c, hv, _⟩ := h.2
  exact ⟨p, c, hv⟩

theorem szLs_strs : ∀ l : List (List UInt8), szLs (l.map Lf.str) = szl l
  | [] => rfl
  | a :: l => by simp only [List.map_cons, szLs, szLf_str, szLs_strs l]; rfl
theorem szLf_strs (l : List (List UInt8)) : szLf (strsLf l) = l.length + szl l := by simp only [strsLf, szLf, szLs_strs]
theorem cntLs_strs : ∀ l : List (List UInt8), cntLs (l.map Lf.str) = l.length
  | [] => rfl
  | a :: l => by simp only [List.map_cons, cntLs, cntLf_str, cntLs_strs l, List.length_cons]; omega
theorem cntLf_strs (l : List (List UInt8)) : cntLf (strsLf l) = l.length := by simp only [strsLf, cntLf, cntLs_strs]
theorem strsLf_fit (l : List (List UInt8)) : LfFit (strsLf l) := by
  refine ⟨by omega, by simp, ?_⟩
  induction l with
  | nil => trivial
  | cons a l ih => exact ⟨trivial, ih⟩
theorem markLs_strs : ∀ (l : List (List UInt8)) (k : Nat), (markLs (l.map Lf.str) k).1 = (marks k l.length).map Lf.str
  | [], k => by simp [markLs, marks]
  | a :: l, k => by
    have := markLs_strs l (k + 1)
    simp only [List.map_cons, markLs, markLf_str, this]
    simp only [marks, List.length_cons, List.range_succ_eq_map, List.map_cons, List.map_map, Nat.add_zero]
    congr 2
    funext i
    simp only [Function.comp]
    congr 2
    omega
theorem mark_strs (l : List (List UInt8)) (k : Nat) : (markLf (strsLf l) k).1 = strsLf (marks k l.length) := by
  simp only [strsLf, markLf, markLs_strs, marks_length]
theorem bnd_strs {l : List (List UInt8)} (h : LfBnd (strsLf l)) : l.length ≤ 9223372036854775807 ∧ ∀ x ∈ l, x.length ≤ 9223372036854775807 := by
  refine ⟨h.1, ?_⟩
  have : ∀ l : List (List UInt8), LsBnd (l.map Lf.str) → ∀ x ∈ l, x.length ≤ 9223372036854775807 := by
    intro l
    induction l with
    | nil => intro _ x hx; cases hx
    | cons a l ih =>
      intro h x hx
      rcases List.mem_cons.1 hx with rfl | hx
      · exact h.1
      · exact ih h.2 x hx
  exact this l h.2

theorem markText_k (kk : Int) (n : Nat) (h : kk = (n : Int)) (w : World) (hn : n ≤ 1000000000000000) :
    Calls Tryz.prog 39 #[.int .i64 kk] w fun e w' => e = .returned (sv (markB n)) ∧ Below w.heap.size w w' := by
  subst h
  exact markText_any n w (by omega)

theorem szStringS_g (v : Value) (l : List (List UInt8)) (ll : Int) (left : Nat) (hll : ll = (left : Int)) (w : World) (hr : LfRd w (strsLf l) v) (hin : LfBnd (strsLf l)) (hL : left ≤ 1000000000000) :
    Calls Tryz.prog 108 #[v, .int .i64 ll] w fun e w' => e = .returned (.int .i64 (szN left (szLf (strsLf l)))) ∧ Below w.heap.size w w' := by
  subst hll
  rw [szLf_strs]
  exact szStringS_any v l left w (strs_rd.1 hr) (bnd_strs hin).1 (bnd_strs hin).2 hL

theorem eqStringS_g (a b : Value) (l : List (List UInt8)) (w : World) (ha : LfRd w (strsLf l) a) (hb : LfRd w (strsLf l) b) (hs : szLf (strsLf l) ≤ 1000000000000) :
    Calls Tryz.prog 118 #[a, b] w fun e w' => e = .returned (.bool true) ∧ Below w.heap.size w w' :=
  eqStringS_same a b l w (strs_rd.1 ha) (strs_rd.1 hb) (by rw [szLf_strs] at hs; omega)

theorem toStringS_g (v : Value) (l : List (List UInt8)) (w : World) (hr : LfRd w (strsLf l) v) (hs : szLf (strsLf l) ≤ 10000000) :
    Calls Tryz.prog 110 #[v] w fun e w' => ∃ v' fp, e = .returned v' ∧ Tree w' w.heap.size (strsLf l) v' fp ∧ Below w.heap.size w w' := by
  refine (toStringS_any v l w (strs_rd.1 hr) (by rw [szLf_strs] at hs; omega)).mono ?_
  rintro e w' ⟨g, rfl, ho, hb⟩
  exact ⟨_, _, rfl, tree_strs ho, hb⟩

theorem markStringS_g (v : Value) (l : List (List UInt8)) (kk : Int) (k : Nat) (hkk : kk = (k : Int)) (fp : List Nat) (w : World) (hi : LfIn w (strsLf l) v fp) (_hnd : fp.Nodup) (hk : k + cntLf (strsLf l) ≤ 1000000000000) (_hs : szLf (strsLf l) ≤ 1000000000000) :
    Calls Tryz.prog 101 #[v, .int .i64 kk] w fun e w' => e = .returned (.int .i64 ((k + cntLf (strsLf l) : Nat) : Int)) ∧ LfIn w' (markLf (strsLf l) k).1 v fp ∧ GrownIn w w' fp := by
  obtain ⟨ho, rfl⟩ := strs_in.1 hi
  rw [cntLf_strs] at hk ⊢
  rw [szLf_strs] at _hs
  refine (markStringS_any v l kk k 0 hkk w ho (by omega) (by omega)).mono ?_
  rintro e w' ⟨rfl, o, g⟩
  refine ⟨rfl, ?_, GrownIn.of_row g⟩
  rw [mark_strs]
  exact strs_in.2 ⟨by rw [marks_length]; exact o, rfl⟩

end Go.Proofs.YtidjebepgpbcnaaGreatDoor
