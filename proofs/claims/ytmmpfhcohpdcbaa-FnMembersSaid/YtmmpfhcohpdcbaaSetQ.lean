/-
  Chapter 4's walks: the program's SetOk, settled, inSpans.
-/
import Derived.Test.YtmmpfhcohpdcbaaSetG
import Derived.Laws.CopyOwn
namespace Go.Proofs.Ytmmpfhcohpdcbaa
open Go.RowKit

theorem endOk_any (n : Int) (w : World) :
    Calls Try.prog 29 #[.int .i64 n] w fun e w' => e = .returned (.bool (numB n)) ∧ w = w' := by
  have hg := Lib.hid (show numB n = (decide (0 ≤ n) && decide (n ≤ 999999999)) from rfl)
  go_enter Try.func29, Try.ntmps29
  cases h1 : decide (0 ≤ n) with
  | true =>
    have h1 : 0 ≤ n := of_decide_eq_true h1
    cases h2 : decide (n ≤ 999999999) with
    | true =>
      have h2 : n ≤ 999999999 := of_decide_eq_true h2
      go_wp2
      go_ret
      exact ⟨by rw [hg.out]; simp [h1, h2], rfl⟩
    | false =>
      have h2 : ¬ n ≤ 999999999 := of_decide_eq_false h2
      go_wp2
      go_ret
      exact ⟨by rw [hg.out]; simp; omega, rfl⟩
  | false =>
    have h1 : ¬ 0 ≤ n := of_decide_eq_false h1
    go_wp2
    go_ret
    exact ⟨by rw [hg.out]; simp; omega, rfl⟩

set_option maxHeartbeats 1600000 in
theorem implSetOk_any : ImplSetOk (fun _ => True) := by
  intro v l w _ hr hl _
  obtain ⟨p, c, rfl, hp⟩ := hr.ex
  have HP := Lib.hid hp
  clear hp hr
  go_enter Try.func11, Try.ntmps11
  go_wp2
  go_loopw [7] (fun i wr => ∃ k : Nat, k ≤ l.length ∧ i = .int .i64 k ∧ (l.take k).all spnB = true ∧ Below w.heap.size w wr) (fun i _ => l.length - (intOf i).toNat)
  case atStart => exact ⟨0, by omega, rfl, rfl, Below.refl _ _⟩
  case round =>
    obtain ⟨k, hk, rfl, hall, hbr⟩ := hrel
    have Hall := Lib.hid hall
    have hbr0 := hbr.size
    clear hall
    by_cases hlt : k < l.length
    · obtain ⟨b, off, rfl, hb1, hcell⟩ := HP.out.resolve_left (by intro h; subst h; simp at hlt)
      obtain ⟨x, hx⟩ : ∃ x, l[k]? = some x := ⟨_, List.getElem?_eq_getElem hlt⟩
      obtain ⟨e1', e2'⟩ := Rd.pair hcell hx
      have e1 : wr.cell? ⟨b, off + k * 2, none⟩ = some (.int .i64 x.low) := (hbr.cell (p := ⟨b, off + k * 2, none⟩) hb1).trans e1'
      have e2 : wr.cell? ⟨b, off + k * 2 + 1, none⟩ = some (.int .i64 x.high) := (hbr.cell (p := ⟨b, off + k * 2 + 1, none⟩) hb1).trans e2'
      have hbA : Below w.heap.size w (wr.alloc (.cells #[.int .i64 x.low, .int .i64 x.high] 45)) := hbr.alloc hbr0 _
      have c1 := fun W => endOk_any x.low W
      have c2 := fun W => endOk_any x.high W
      have HX := Lib.hid hx
      clear e1' e2' hcell HP hx
      cases h1 : numB x.low with
      | false =>
        have HV := Lib.hid (show setB l = false by unfold setB; rw [all_not_at HX.out (by unfold spnB; rw [h1]; rfl)]; rfl)
        rw [h1] at c1
        have C1 := Lib.hid c1
        clear c1 c2 h1
        go_wp2_with fail
        refine (C1.out _).mono ?_
        rintro e w' ⟨rfl, rfl⟩
        go_wp2
        go_ret
        exact ⟨by rw [HV.out]; rfl, hbA⟩
      | true =>
        cases h2 : numB x.high with
        | false =>
          have HV := Lib.hid (show setB l = false by unfold setB; rw [all_not_at HX.out (by unfold spnB; rw [h2]; simp)]; rfl)
          rw [h1] at c1
          rw [h2] at c2
          have C1 := Lib.hid c1
          have C2 := Lib.hid c2
          clear c1 c2 h1 h2
          go_wp2_with fail
          refine (C1.out _).mono ?_
          rintro e w' ⟨rfl, rfl⟩
          go_wp2_with fail
          refine (C2.out _).mono ?_
          rintro e w' ⟨rfl, rfl⟩
          go_wp2
          go_ret
          exact ⟨by rw [HV.out]; rfl, hbA⟩
        | true =>
          have HA := Lib.hid (show (l.take (k + 1)).all spnB = true by rw [take_at HX.out, List.all_append, Hall.out]; simp [spnB, h1, h2])
          rw [h1] at c1
          rw [h2] at c2
          have C1 := Lib.hid c1
          have C2 := Lib.hid c2
          clear c1 c2 h1 h2
          go_wp2_with fail
          refine (C1.out _).mono ?_
          rintro e w' ⟨rfl, rfl⟩
          go_wp2_with fail
          refine (C2.out _).mono ?_
          rintro e w' ⟨rfl, rfl⟩
          go_wp2
          go_roundw
          case rel => exact ⟨k + 1, by omega, by go_num, HA.out, hbA⟩
          case measure => simp [intOf]; omega
    · obtain rfl : k = l.length := by omega
      rw [List.take_length] at Hall
      have e1 : (1 ≤ l.length) = ((1 : Int) ≤ (l.length : Int)) := by rw [eq_iff_iff]; omega
      have e2 : (l.length ≤ 5) = ((l.length : Int) ≤ 5) := by rw [eq_iff_iff]; omega
      have HV := Lib.hid (show setB l = (decide (1 ≤ l.length) && decide (l.length ≤ 5)) by
        unfold setB
        rw [Hall.out, Bool.true_and])
      clear e1 e2
      by_cases h1 : (1 : Int) ≤ (l.length : Int)
      · by_cases h2 : (l.length : Int) ≤ 5
        · go_wp2
          go_ret
          exact ⟨by rw [HV.out]; simp; omega, hbr⟩
        · go_wp2
          go_ret
          exact ⟨by rw [HV.out]; simp; omega, hbr⟩
      · go_wp2
        go_ret
        exact ⟨by rw [HV.out]; simp; omega, hbr⟩

theorem endIn_any (n last : Int) (w : World) :
    Calls Try.prog 39 #[.int .i64 n, .int .i64 last] w fun e w' => e = .returned (.int .i64 (endI n last)) ∧ w = w' := by
  by_cases h : n = 0
  · have hg := Lib.hid (show endI n last = last from if_pos h)
    subst h
    go_enter Try.func39, Try.ntmps39
    go_wp2
    go_ret
    exact ⟨by rw [hg.out]; rfl, rfl⟩
  · have hg := Lib.hid (show endI n last = n from if_neg h)
    have h2 : (n == 0) = false := by simpa using h
    go_enter Try.func39, Try.ntmps39
    go_wp2
    go_ret
    exact ⟨by rw [hg.out]; rfl, rfl⟩

/-- A span with its ends in order, 0 being the last number. -/
def setS (last : Int) (s : Spn) : Spn := ⟨minI (endI s.low last) (endI s.high last), maxI (endI s.low last) (endI s.high last)⟩
def betB (x : Int) (s : Spn) : Bool := decide (s.low ≤ x) && decide (x ≤ s.high)
theorem inB_set (l : List Spn) (x last : Int) : (l.map (setS last)).any (betB x) = inB l x last := by
  unfold inB
  rw [List.any_map]
  rfl

set_option maxHeartbeats 1600000 in
theorem inSpans_any (k : Nat) : ∀ (p : Option Addr) (c : Nat) (l : List Spn) (x : Int) (w : World), l.length ≤ k → l.length ≤ c → l.length ≤ 1048576 → Rd 2 spnc w (.slice p l.length c) l →
    Calls Try.prog 34 #[.slice p l.length c, .int .i64 x] w fun e w' => e = .returned (.bool (l.any (betB x))) ∧ w = w' := by
  induction k with
  | zero =>
    intro p c l x w hk _ _ _
    obtain rfl : l = [] := List.eq_nil_of_length_eq_zero (by omega)
    go_enter Try.func34, Try.ntmps34
    go_wp2_with fail
    go_ret
    exact ⟨rfl, rfl⟩
  | succ k ih =>
    intro p c l x w hk hc hl hr
    have HR := Lib.hid hr
    obtain ⟨p', c', hv, hp⟩ := hr.ex
    injection hv with e1 _ e2
    subst e1
    subst e2
    clear hr
    by_cases h0 : l.length = 0
    · obtain rfl : l = [] := List.eq_nil_of_length_eq_zero h0
      clear hp
      go_enter Try.func34, Try.ntmps34
      go_wp2_with fail
      go_ret
      exact ⟨rfl, rfl⟩
    · obtain ⟨b, off, rfl, hb1, hcell⟩ := hp.resolve_left (by intro h; subst h; exact h0 rfl)
      by_cases h1 : l.length = 1
      · obtain ⟨s, rfl⟩ : ∃ s, l = [s] := List.length_eq_one_iff.1 h1
        obtain ⟨f1, f2⟩ := Rd.pair (k := 0) hcell rfl
        rw [Nat.zero_mul, Nat.add_zero] at f1 f2
        clear hcell ih h0 h1 hk
        go_enter Try.func34, Try.ntmps34
        by_cases g1 : s.low ≤ x
        · by_cases g2 : x ≤ s.high
          · go_wp2_with fail
            go_ret
            exact ⟨by rw [show betB x s = true by simp [betB]; omega]; rfl, rfl⟩
          · go_wp2_with fail
            go_ret
            exact ⟨by rw [show betB x s = false by simp [betB]; omega]; rfl, rfl⟩
        · go_wp2_with fail
          go_ret
          exact ⟨by rw [show betB x s = false by simp [betB]; omega]; rfl, rfl⟩
      · obtain ⟨h, hh⟩ : ∃ h : Nat, h = l.length / 2 := ⟨_, rfl⟩
        have hh1 : 1 ≤ h := by omega
        have hh2 : h < l.length := by omega
        have R1 := Lib.hid (HR.out.takeS (k := h) (by omega) h)
        have R2 := Lib.hid (HR.out.dropS (k := h) (c - h))
        have I1 := Lib.hid (ih (some ⟨b, off, none⟩) h (l.take h) x w (by rw [List.length_take]; omega) (by rw [List.length_take]; omega) (by rw [List.length_take]; omega) (by rw [List.length_take, Nat.min_eq_left (by omega)]; exact R1.out))
        have I2 := Lib.hid (ih (some ⟨b, off + h * 2, none⟩) (c - h) (l.drop h) x w (by rw [List.length_drop]; omega) (by rw [List.length_drop]; omega) (by rw [List.length_drop]; omega) (by rw [List.length_drop]; exact R2.out))
        rw [List.length_take, Nat.min_eq_left (by omega)] at I1
        rw [List.length_drop] at I2
        have HV := Lib.hid (show l.any (betB x) = ((l.take h).any (betB x) || (l.drop h).any (betB x)) by rw [← List.any_append, List.take_append_drop])
        have hq : ((l.length : Int)).tdiv 2 = (h : Int) := by rw [hh, Int.tdiv_eq_ediv_of_nonneg (by omega)]; omega
        have HH := Lib.hid hh
        clear hcell ih R1 R2 hh
        cases g1 : (l.take h).any (betB x) with
        | true =>
          rw [g1] at I1 HV
          clear g1
          go_enter Try.func34, Try.ntmps34
          go_wp2_with fail
          refine (I1.out).mono ?_
          rintro e w' ⟨rfl, rfl⟩
          go_wp2_with fail
          go_ret
          exact ⟨by rw [HV.out]; rfl, rfl⟩
        | false =>
          rw [g1, Bool.false_or] at HV
          rw [g1] at I1
          rw [← HV.out] at I2
          clear g1 HV
          go_enter Try.func34, Try.ntmps34
          go_wp2_with fail
          refine (I1.out).mono ?_
          rintro e w' ⟨rfl, rfl⟩
          go_wp2_with fail
          refine (I2.out).mono ?_
          rintro e w' ⟨rfl, rfl⟩
          go_wp2_with fail
          go_ret
          exact ⟨rfl, rfl⟩

end Go.Proofs.Ytmmpfhcohpdcbaa
