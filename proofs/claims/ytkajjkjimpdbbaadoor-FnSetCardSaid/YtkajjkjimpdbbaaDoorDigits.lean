/-
  Digits of every number: the model's loop, and strconv.Itoa.
-/
import Derived.Test.YtkajjkjimpdbbaaDoorNumE
namespace Go.Proofs.YtkajjkjimpdbbaaDoor
open Go.RowKit
open Go.Lib (decDigits itoa)

theorem decDigits_len_neg (m : Nat) (h1 : 1 ≤ m) (h : m ≤ 9223372036854775808) : (decDigits m).length ≤ 20 := by
  have := Lib.itoa_length_le (-(m : Int)) (by omega) (by omega)
  rw [Lib.itoa_neg m h1] at this
  simpa using this

set_option maxHeartbeats 800000 in
/-- The model's Digits of a number below 0. -/
theorem specDigits_neg (n : Nat) (k : Int) (hk : k = -(n : Int)) (w : World) (h1 : 1 ≤ n) (hn : n ≤ 9223372036854775808) :
    Calls Tryd.prog 46 #[.int .i64 k] w fun e w' => e = .returned (sv (45 :: decDigits n)) ∧ Below w.heap.size w w' := by
  subst hk
  have hb0 : (-(n : Int) == 0) = false := by simp; omega
  have hl0 : -(n : Int) < 0 := by omega
  have hd := decDigits_len_neg n h1 hn
  go_enter Tryd.func46, Tryd.ntmps46
  go_wp2
  go_loopw [0, 4, 5] (fun x out _ wr => ∃ (m : Nat) (l : List UInt8), m ≤ n ∧ x = .int .i64 (-(m : Int)) ∧ out = sv l ∧ (m = 0 → l = decDigits n) ∧ (0 < m → decDigits m ++ l = decDigits n) ∧ Below w.heap.size w wr) (fun x _ _ _ => (-(intOf x)).toNat)
  case atStart => exact ⟨n, [], by omega, rfl, rfl, by omega, by simp, Below.refl _ _⟩
  case round =>
    obtain ⟨m, l, hm, rfl, rfl, hz, hp, hbr⟩ := hrel
    have Hz := Lib.hid hz
    have Hp := Lib.hid hp
    clear hz hp hb0 hl0
    have hbr0 := hbr.size
    by_cases hm0 : m = 0
    · have hl := Lib.hid (Hz.out hm0)
      have hll : l.length ≤ 20 := by rw [hl.out]; exact hd
      have hb0 : (-(m : Int) != 0) = false := by simp; omega
      clear hm0
      go_wp2
      go_ret
      refine ⟨?_, hbr⟩
      rw [← hl.out]
      rfl
    · have hb0 : (-(m : Int) != 0) = true := by simp; omega
      have ht : (-(m : Int)).tmod 10 = -((m % 10 : Nat) : Int) := by rw [Int.neg_tmod, Int.tmod_eq_emod_of_nonneg (by omega)]; omega
      have hq : (-(m : Int)).tdiv 10 = -((m / 10 : Nat) : Int) := by rw [Int.neg_tdiv, Int.tdiv_eq_ediv_of_nonneg (by omega)]; omega
      have ht0 : m % 10 < 10 := by omega
      have hcv := fun W g hc => conv_back1 (P := Tryd.prog) 22 9 5 Tryd.underlying22 Tryd.underlying5 Tryd.underlying9 (48 + (m : Int) % 10) (by omega) (by omega) 1 W g hc
      have hst := Lib.hid (dec_step hm0 (Hp.out (by omega)))
      have hlen : l.length ≤ 21 := by
        rw [← Hp.out (by omega), List.length_append] at hd
        omega
      have he8 : (48 : UInt8) + UInt8.ofNat (m % 10) = UInt8.ofNat (48 + m % 10) := by
        apply UInt8.toNat_inj.1
        simp
      have He8 := Lib.hid he8
      clear he8
      by_cases hd0 : m % 10 = 0
      · have hd1 : ¬ -((m : Int) % 10) < 0 := by omega
        have hcv0 := fun W g hc => conv_back1 (P := Tryd.prog) 22 9 5 Tryd.underlying22 Tryd.underlying5 Tryd.underlying9 48 (by omega) (by omega) 1 W g hc
        have hst0 := Lib.hid (show (m / 10 = 0 → UInt8.ofNat (48 + 0) :: l = decDigits n) ∧ (0 < m / 10 → decDigits (m / 10) ++ UInt8.ofNat (48 + 0) :: l = decDigits n) from by have := hst.out; rw [hd0] at this; exact this)
        go_wp2
        go_roundw
        case rel => exact ⟨m / 10, _ :: l, by omega, by go_num, rfl, hst0.out.1, hst0.out.2, hbr.alloc hbr0 _⟩
        case measure => simp [intOf]; omega
      · have hd1 : -((m : Int) % 10) < 0 := by omega
        go_wp2
        go_roundw
        case rel =>
          refine ⟨m / 10, _ :: l, by omega, by go_num, ?_, hst.out.1, hst.out.2, hbr.alloc hbr0 _⟩
          rw [← He8.out]
          rfl
        case measure => simp [intOf]; omega

theorem itoa_cases (n : Int) : itoa n = if n < 0 then 45 :: decDigits n.natAbs else decDigits n.toNat := rfl

/-- The model's Digits of whatever number. -/
theorem specDigits_any (n : Int) (w : World) (h0 : -9223372036854775808 ≤ n) (h1 : n ≤ 9223372036854775807) :
    Calls Tryd.prog 46 #[.int .i64 n] w fun e w' => e = .returned (sv (itoa n)) ∧ Below w.heap.size w w' := by
  rw [itoa_cases]
  by_cases h : n < 0
  · rw [if_pos h]
    exact specDigits_neg n.natAbs n (by omega) w (by omega) (by omega)
  · rw [if_neg h]
    have := specDigits_nat n.toNat w (by omega)
    rw [Int.toNat_of_nonneg (by omega)] at this
    exact this

end Go.Proofs.YtkajjkjimpdbbaaDoor
