/-
  The laws' own helpers on slices of strings: equality, marks.
-/
import Derived.Test.YtldfakcjimaaaaaSlc
import Derived.Test.YtldfakcjimaaaaaNumE
namespace Go.Proofs.Ytldfakcjimaaaaa
open Go.RowKit
open Go.Lib (decDigits itoa)

/-- The law's mark number k. -/
def markB (k : Nat) : List UInt8 := if k = 0 then [109, 48] else 109 :: decDigits k

set_option maxHeartbeats 400000 in
theorem markText_any (n : Nat) (w : World) (hn : n ≤ 9223372036854775807) :
    Calls Try.prog 17 #[.int .i64 n] w fun e w' => e = .returned (sv (markB n)) ∧ Below w.heap.size w w' := by
  by_cases h0 : n = 0
  · subst h0
    go_enter Try.func17, Try.ntmps17
    go_wp2
    go_ret
    exact ⟨rfl, Below.refl _ _⟩
  · have HM := Lib.hid (show markB n = 109 :: decDigits n from if_neg h0)
    have hl0 : ¬ (n : Int) ≤ 0 := by omega
    go_enter Try.func17, Try.ntmps17
    go_wp2
    go_loopw [0, 3] (fun x out wr => ∃ (m : Nat) (l : List UInt8), m ≤ n ∧ x = .int .i64 m ∧ out = sv l ∧ (m = 0 → l = decDigits n) ∧ (0 < m → decDigits m ++ l = decDigits n) ∧ Below w.heap.size w wr) (fun x _ _ => (intOf x).toNat)
    case atStart => exact ⟨n, [], by omega, rfl, rfl, by omega, by simp, Below.refl _ _⟩
    case round =>
      obtain ⟨m, l, hm, rfl, rfl, hz, hp, hbr⟩ := hrel
      have Hz := Lib.hid hz
      have Hp := Lib.hid hp
      clear hz hp hl0
      have hbr0 := hbr.size
      by_cases hm0 : m = 0
      · have hl := Lib.hid (Hz.out hm0)
        have hl1 : ¬ (0 : Int) < (m : Int) := by omega
        have hlen : l.length ≤ 21 := by rw [hl.out]; exact decDigits_length_le n hn
        clear hm0
        go_wp2
        go_ret
        refine ⟨?_, hbr⟩
        rw [HM.out, ← hl.out]
        rfl
      · have hl1 : (0 : Int) < (m : Int) := by omega
        have ht : ((m : Int)).tmod 10 = ((m % 10 : Nat) : Int) := by rw [Int.tmod_eq_emod_of_nonneg (by omega)]; omega
        have hq : ((m : Int)).tdiv 10 = ((m / 10 : Nat) : Int) := by rw [Int.tdiv_eq_ediv_of_nonneg (by omega)]; omega
        have ht0 : m % 10 < 10 := by omega
        have hcv := fun W g hc => conv_back1 (P := Try.prog) 42 9 5 Try.underlying42 Try.underlying5 Try.underlying9 (48 + (m : Int) % 10) (by omega) (by omega) 1 W g hc
        have hst := Lib.hid (dec_step hm0 (Hp.out (by omega)))
        have hlen : l.length ≤ 21 := by
          have := decDigits_length_le n hn
          rw [← Hp.out (by omega), List.length_append] at this
          omega
        have he8 : (48 : UInt8) + UInt8.ofNat (m % 10) = UInt8.ofNat (48 + m % 10) := by
          apply UInt8.toNat_inj.1
          simp
        have He8 := Lib.hid he8
        clear he8
        go_wp2
        go_roundw
        case rel =>
          refine ⟨m / 10, _ :: l, by omega, by go_num, ?_, hst.out.1, hst.out.2, hbr.alloc hbr0 _⟩
          rw [← He8.out]
          rfl
        case measure => simp [intOf]; omega

/-- The marks from number k on, as many as n. -/
def marks (k n : Nat) : List (List UInt8) := (List.range n).map fun i => markB (k + i)
theorem marks_length (k n : Nat) : (marks k n).length = n := by simp [marks]
theorem marks_at (k n i : Nat) (h : i < n) : (marks k n)[i]? = some (markB (k + i)) := by simp [marks, h]
/-- The first j elements marked. -/
def marked (l : List (List UInt8)) (k j : Nat) : List (List UInt8) := marks k j ++ l.drop j
theorem marked_zero (l : List (List UInt8)) (k : Nat) : marked l k 0 = l := by simp [marked, marks]
theorem marked_all (l : List (List UInt8)) (k : Nat) : marked l k l.length = marks k l.length := by simp [marked]
theorem marked_length (l : List (List UInt8)) (k j : Nat) (h : j ≤ l.length) : (marked l k j).length = l.length := by simp [marked, marks_length]; omega
theorem marked_set (l : List (List UInt8)) (k j : Nat) (h : j < l.length) : (marked l k j).set j (markB (k + j)) = marked l k (j + 1) := by
  unfold marked
  rw [List.set_append_right _ _ (by rw [marks_length]; omega), marks_length, Nat.sub_self, List.drop_eq_getElem_cons h, List.set_cons_zero]
  have : marks k (j + 1) = marks k j ++ [markB (k + j)] := by simp [marks, List.range_succ]
  rw [this, List.append_assoc]
  rfl

end Go.Proofs.Ytldfakcjimaaaaa
