/-
  Chapter 4: spans; the model's SetOk, Members, MembersOf.
-/
import Derived.Test.YtkajjkjimpdbbaaDoorAppS
import Derived.Test.YtkajjkjimpdbbaaDoorWordA
namespace Go.Proofs.YtkajjkjimpdbbaaDoor
open Go.RowKit

structure Spn where
  low : Int
  high : Int

abbrev spnv (s : Spn) : Value := .agg #[.int .i64 s.low, .int .i64 s.high]
def spnc (s : Spn) : List Value := [.int .i64 s.low, .int .i64 s.high]
def numB (n : Int) : Bool := decide (0 ≤ n) && decide (n ≤ 999999999)
def spnB (s : Spn) : Bool := numB s.low && numB s.high
def setB (l : List Spn) : Bool := l.all spnB && (decide (1 ≤ l.length) && decide (l.length ≤ 5))
def minI (a b : Int) : Int := if a < b then a else b
def maxI (a b : Int) : Int := if b < a then a else b
def endI (x last : Int) : Int := if x = 0 then last else x
def inSpn (x last : Int) (s : Spn) : Bool := decide (minI (endI s.low last) (endI s.high last) ≤ x) && decide (x ≤ maxI (endI s.low last) (endI s.high last))
def inB (l : List Spn) (x last : Int) : Bool := l.any (inSpn x last)
/-- The numbers from 1 on, as many as k. -/
def upTo (k : Nat) : List Int := (List.range k).map fun (i : Nat) => (i : Int) + 1
def membersL (l : List Spn) (n : Int) : List Int := (upTo (minI n 999).toNat).filter fun x => inB l x (minI n 999)
def lastId : List Int → Int
  | [] => 0
  | a :: r => (a :: r).foldl maxI a
def membersOfL (l : List Spn) (ids : List Int) : List Int := ids.filter fun x => inB l x (lastId ids)
theorem upTo_succ (k : Nat) : upTo (k + 1) = upTo k ++ [(k : Int) + 1] := by simp [upTo, List.range_succ]
theorem all_not_at {α : Type} {p : α → Bool} {l : List α} {k : Nat} {x : α} (h : l[k]? = some x) (hp : p x = false) : l.all p = false := by
  rw [Bool.eq_false_iff]
  intro hc
  rw [List.all_eq_true] at hc
  rw [hc x (List.mem_of_getElem? h)] at hp
  cases hp
theorem any_at {α : Type} {p : α → Bool} {l : List α} {k : Nat} {x : α} (h : l[k]? = some x) (hp : p x = true) : l.any p = true := List.any_eq_true.2 ⟨x, List.mem_of_getElem? h, hp⟩
theorem take_at {α : Type} {l : List α} {k : Nat} {x : α} (h : l[k]? = some x) : l.take (k + 1) = l.take k ++ [x] := by
  obtain ⟨h1, h2⟩ := List.getElem?_eq_some_iff.1 h
  rw [List.take_succ_eq_append_getElem h1, h2]
/-- Element k of a slice of pairs. -/
theorem Rd.pair {w : World} {b off k : Nat} {l : List Spn} {x : Spn} (hc : ∀ i x, l[i]? = some x → ∀ j u, (spnc x)[j]? = some u → w.cell? ⟨b, off + i * 2 + j, none⟩ = some u) (h : l[k]? = some x) :
    w.cell? ⟨b, off + k * 2, none⟩ = some (.int .i64 x.low) ∧ w.cell? ⟨b, off + k * 2 + 1, none⟩ = some (.int .i64 x.high) := ⟨hc k x h 0 _ rfl, hc k x h 1 _ rfl⟩

set_option maxHeartbeats 800000 in
theorem specSetOk_any (v : Value) (l : List Spn) (w : World) (hr : Rd 2 spnc w v l) (hl : l.length ≤ 140737488355328) :
    Calls Tryd.prog 10 #[v] w fun e w' => e = .returned (.bool (setB l)) ∧ w = w' := by
  obtain ⟨p, c, rfl, hp⟩ := hr.ex
  have HP := Lib.hid hp
  clear hp hr
  go_enter Tryd.func10, Tryd.ntmps10
  go_wp2
  go_loop [3] (fun i => ∃ k : Nat, k ≤ l.length ∧ i = .int .i64 k ∧ (l.take k).all spnB = true) (fun i => l.length - (intOf i).toNat)
  case atStart => exact ⟨0, by omega, rfl, rfl⟩
  case round =>
    obtain ⟨k, hk, rfl, hall⟩ := hrel
    have Hall := Lib.hid hall
    clear hall
    by_cases hlt : k < l.length
    · obtain ⟨b, off, rfl, hb1, hcell⟩ := HP.out.resolve_left (by intro h; subst h; simp at hlt)
      obtain ⟨x, hx⟩ : ∃ x, l[k]? = some x := ⟨_, List.getElem?_eq_getElem hlt⟩
      obtain ⟨e1, e2⟩ := Rd.pair hcell hx
      have c1 := fun W => l1In_any x.low 0 999999999 W
      have c2 := fun W => l1In_any x.high 0 999999999 W
      cases h1 : numB x.low with
      | false =>
        have HV := Lib.hid (show setB l = false by unfold setB; rw [all_not_at hx (by unfold spnB; rw [h1]; rfl)]; rfl)
        unfold numB at h1
        rw [h1] at c1
        have C1 := Lib.hid c1
        clear c1 c2 h1 hx hcell HP
        go_wp2_with fail
        refine (C1.out _).mono ?_
        rintro e w' ⟨rfl, rfl⟩
        go_wp2
        go_ret
        exact ⟨by rw [HV.out]; rfl, rfl⟩
      | true =>
        have h1' := h1
        unfold numB at h1'
        rw [h1'] at c1
        have C1 := Lib.hid c1
        cases h2 : numB x.high with
        | false =>
          have HV := Lib.hid (show setB l = false by unfold setB; rw [all_not_at hx (by unfold spnB; rw [h2]; simp)]; rfl)
          unfold numB at h2
          rw [h2] at c2
          have C2 := Lib.hid c2
          clear c1 c2 h1 h1' h2 hx hcell HP
          go_wp2_with fail
          refine (C1.out _).mono ?_
          rintro e w' ⟨rfl, rfl⟩
          go_wp2_with fail
          refine (C2.out _).mono ?_
          rintro e w' ⟨rfl, rfl⟩
          go_wp2
          go_ret
          exact ⟨by rw [HV.out]; rfl, rfl⟩
        | true =>
          have HA := Lib.hid (show (l.take (k + 1)).all spnB = true by rw [take_at hx, List.all_append, Hall.out]; simp [spnB, h1, h2])
          unfold numB at h2
          rw [h2] at c2
          have C2 := Lib.hid c2
          clear c1 c2 h1 h1' h2 hx hcell HP
          go_wp2_with fail
          refine (C1.out _).mono ?_
          rintro e w' ⟨rfl, rfl⟩
          go_wp2_with fail
          refine (C2.out _).mono ?_
          rintro e w' ⟨rfl, rfl⟩
          go_wp2
          go_round
          case rel => exact ⟨k + 1, by omega, by go_num, HA.out⟩
          case measure => simp [intOf]; omega
    · obtain rfl : k = l.length := by omega
      rw [List.take_length] at Hall
      have HV := Lib.hid (show setB l = (decide ((1 : Int) ≤ (l.length : Int)) && decide ((l.length : Int) ≤ 5)) by
        unfold setB
        rw [Hall.out]
        have e1 : (1 ≤ l.length) = ((1 : Int) ≤ (l.length : Int)) := by rw [eq_iff_iff]; omega
        have e2 : (l.length ≤ 5) = ((l.length : Int) ≤ 5) := by rw [eq_iff_iff]; omega
        simp only [e1, e2, Bool.true_and])
      have C1 := Lib.hid (fun W => l1In_any (l.length : Int) 1 5 W)
      go_wp2_with fail
      refine (C1.out _).mono ?_
      rintro e w' ⟨rfl, rfl⟩
      go_wp2
      go_ret
      exact ⟨by rw [HV.out]; rfl, rfl⟩

end Go.Proofs.YtkajjkjimpdbbaaDoor
