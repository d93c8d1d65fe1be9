/-
  Chapter 4's walks: the program's SetOk, settled, inSpans.
-/
import Derived.Test.YtidjebepgpbcnaaSetG
import Derived.Laws.CopyOwn
namespace Go.Proofs.Ytidjebepgpbcnaa
open Go.RowKit

theorem endOk_any (n : Int) (w : World) :
    Calls Try.prog 55 #[.int .i64 n] w fun e w' => e = .returned (.bool (numB n)) ∧ w = w' := by
  have hg := Lib.hid (show numB n = (decide (0 ≤ n) && decide (n ≤ 999999999)) from rfl)
  go_enter Try.func55, Try.ntmps55
  cases h1 : decide (0 ≤ n) with
  | true =>
    have h1 : 0 ≤ n := of_decide_eq_true h1
    cases h2 : decide (n ≤ 999999999) with
    | true =>
      have h2 : n ≤ 999999999 := of_decide_eq_true h2
      go_wp2
      go_ret
      exact ⟨by rw [hg.out]; simp [h1, h2], rfl⟩
    | false =>
      have h2 : ¬ n ≤ 999999999 := of_decide_eq_false h2
      go_wp2
      go_ret
      exact ⟨by rw [hg.out]; simp; omega, rfl⟩
  | false =>
    have h1 : ¬ 0 ≤ n := of_decide_eq_false h1
    go_wp2
    go_ret
    exact ⟨by rw [hg.out]; simp; omega, rfl⟩

set_option maxHeartbeats 1600000 in
theorem implSetOk_big (v : Value) (l : List Spn) (w : World) (hr : Rd 2 spnc w v l) (hl : l.length ≤ 140737488355328) :
    Calls Try.prog 45 #[v] w fun e w' => e = .returned (.bool (setB l)) ∧ Below w.heap.size w w' := by
  obtain ⟨p, c, rfl, hp⟩ := hr.ex
  have HP := Lib.hid hp
  clear hp hr
  go_enter Try.func45, Try.ntmps45
  go_wp2
  go_loopw [7] (fun i wr => ∃ k : Nat, k ≤ l.length ∧ i = .int .i64 k ∧ (l.take k).all spnB = true ∧ Below w.heap.size w wr) (fun i _ => l.length - (intOf i).toNat)
  case atStart => exact ⟨0, by omega, rfl, rfl, Below.refl _ _⟩
  case round =>
    obtain ⟨k, hk, rfl, hall, hbr⟩ := hrel
    have Hall := Lib.hid hall
    have hbr0 := hbr.size
    clear hall
    by_cases hlt : k < l.length
    · obtain ⟨b, off, rfl, hb1, hcell⟩ := HP.out.resolve_left (by intro h; subst h; simp at hlt)
      obtain ⟨x, hx⟩ : ∃ x, l[k]? = some x := ⟨_, List.getElem?_eq_getElem hlt⟩
      obtain ⟨e1', e2'⟩ := Rd.pair hcell hx
      have e1 : wr.cell? ⟨b, off + k * 2, none⟩ = some (.int .i64 x.low) := (hbr.cell (p := ⟨b, off + k * 2, none⟩) hb1).trans e1'
      have e2 : wr.cell? ⟨b, off + k * 2 + 1, none⟩ = some (.int .i64 x.high) := (hbr.cell (p := ⟨b, off + k * 2 + 1, none⟩) hb1).trans e2'
      have hbA : Below w.heap.size w (wr.alloc (.cells #[.int .i64 x.low, .int .i64 x.high] 57)) := hbr.alloc hbr0 _
      have c1 := fun W => endOk_any x.low W
      have c2 := fun W => endOk_any x.high W
      have HX := Lib.hid hx
      clear e1' e2' hcell HP hx
      cases h1 : numB x.low with
      | false =>
        have HV := Lib.hid (show setB l = false by unfold setB; rw [all_not_at HX.out (by unfold spnB; rw [h1]; rfl)]; rfl)
        rw [h1] at c1
        have C1 := Lib.hid c1
        clear c1 c2 h1
        go_wp2_with fail
        refine (C1.out _).mono ?_
        rintro e w' ⟨rfl, rfl⟩
        go_wp2
        go_ret
        exact ⟨by rw [HV.out]; rfl, hbA⟩
      | true =>
        cases h2 : numB x.high with
        | false =>
          have HV := Lib.hid (show setB l = false by unfold setB; rw [all_not_at HX.out (by unfold spnB; rw [h2]; simp)]; rfl)
          rw [h1] at c1
          rw [h2] at c2
          have C1 := Lib.hid c1
          have C2 := Lib.hid c2
          clear c1 c2 h1 h2
          go_wp2_with fail
          refine (C1.out _).mono ?_
          rintro e w' ⟨rfl, rfl⟩
          go_wp2_with fail
          refine (C2.out _).mono ?_
          rintro e w' ⟨rfl, rfl⟩
          go_wp2
          go_ret
          exact ⟨by rw [HV.out]; rfl, hbA⟩
        | true =>
          have HA := Lib.hid (show (l.take (k + 1)).all spnB = true by rw [take_at HX.out, List.all_append, Hall.out]; simp [spnB, h1, h2])
          rw [h1] at c1
          rw [h2] at c2
          have C1 := Lib.hid c1
          have C2 := Lib.hid c2
          clear c1 c2 h1 h2
          go_wp2_with fail
          refine (C1.out _).mono ?_
          rintro e w' ⟨rfl, rfl⟩
          go_wp2_with fail
          refine (C2.out _).mono ?_
          rintro e w' ⟨rfl, rfl⟩
          go_wp2
          go_roundw
          case rel => exact ⟨k + 1, by omega, by go_num, HA.out, hbA⟩
          case measure => simp [intOf]; omega
    · obtain rfl : k = l.length := by omega
      rw [List.take_length] at Hall
      have e1 : (1 ≤ l.length) = ((1 : Int) ≤ (l.length : Int)) := by rw [eq_iff_iff]; omega
      have e2 : (l.length ≤ 5) = ((l.length : Int) ≤ 5) := by rw [eq_iff_iff]; omega
      have HV := Lib.hid (show setB l = (decide (1 ≤ l.length) && decide (l.length ≤ 5)) by
        unfold setB
        rw [Hall.out, Bool.true_and])
      clear e1 e2
      by_cases h1 : (1 : Int) ≤ (l.length : Int)
      · by_cases h2 : (l.length : Int) ≤ 5
        · go_wp2
          go_ret
          exact ⟨by rw [HV.out]; simp; omega, hbr⟩
        · go_wp2
          go_ret
          exact ⟨by rw [HV.out]; simp; omega, hbr⟩
      · go_wp2
        go_ret
        exact ⟨by rw [HV.out]; simp; omega, hbr⟩
theorem implSetOk_any : ImplSetOk (fun _ => True) := fun v l w _ hr hl _ => implSetOk_big v l w hr (by omega)

/-- A span with its ends in order, 0 being the last number. -/
def setS (last : Int) (s : Spn) : Spn := ⟨minI (endI s.low last) (endI s.high last), maxI (endI s.low last) (endI s.high last)⟩
def betB (x : Int) (s : Spn) : Bool := decide (s.low ≤ x) && decide (x ≤ s.high)
theorem inB_set (l : List Spn) (x last : Int) : (l.map (setS last)).any (betB x) = inB l x last := by
  unfold inB
  rw [List.any_map]
  rfl

end Go.Proofs.Ytidjebepgpbcnaa
