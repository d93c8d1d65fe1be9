/-
  Chapter 1's walks: the model's Digits, both Numbers.
-/
import Derived.Test.YtkajjkjimpdbbaaDoorSlc
import Derived.Test.YtkajjkjimpdbbaaDoorNumM
import Derived.Lib.ItoaLen
namespace Go.Proofs.YtkajjkjimpdbbaaDoor
open Go.RowKit
open Go.Lib (decDigits itoa)

theorem decDigits_length_le (n : Nat) (h : n ≤ 9223372036854775807) : (decDigits n).length ≤ 21 := by
  have := Lib.itoa_length_le (n : Int) (by omega) (by omega)
  rwa [Lib.itoa_nonneg] at this

/-- One digit more in front. -/
theorem dec_step {m n : Nat} {l : List UInt8} (_hm0 : ¬ m = 0) (h : decDigits m ++ l = decDigits n) :
    (m / 10 = 0 → UInt8.ofNat (48 + m % 10) :: l = decDigits n) ∧ (0 < m / 10 → decDigits (m / 10) ++ UInt8.ofNat (48 + m % 10) :: l = decDigits n) := by
  constructor
  · intro hz
    have : m < 10 := by omega
    rw [decDigits_small this] at h
    rw [Nat.mod_eq_of_lt this]
    exact h
  · intro hz
    rw [decDigits_big (by omega), List.append_assoc] at h
    exact h

set_option maxHeartbeats 400000 in
/-- The model's Digits of a number that is not negative. -/
theorem specDigits_nat (n : Nat) (w : World) (hn : n ≤ 9223372036854775807) :
    Calls Tryd.prog 46 #[.int .i64 n] w fun e w' => e = .returned (.string ⟨(decDigits n).toArray⟩) ∧ Below w.heap.size w w' := by
  by_cases h0 : n = 0
  · subst h0
    go_enter Tryd.func46, Tryd.ntmps46
    go_wp2
    go_ret
    exact ⟨by rw [show decDigits 0 = [48] from by rw [decDigits_small (by omega)]; rfl]; rfl, Below.refl _ _⟩
  · have hb0 : ((n : Int) == 0) = false := by simp; omega
    have hl0 : ¬ (n : Int) < 0 := by omega
    go_enter Tryd.func46, Tryd.ntmps46
    go_wp2
    go_loopw [0, 4, 5] (fun x out _ wr => ∃ (m : Nat) (l : List UInt8), m ≤ n ∧ x = .int .i64 m ∧ out = .string ⟨l.toArray⟩ ∧ (m = 0 → l = decDigits n) ∧ (0 < m → decDigits m ++ l = decDigits n) ∧ Below w.heap.size w wr) (fun x _ _ _ => (intOf x).toNat)
    case atStart => exact ⟨n, [], by omega, rfl, rfl, by omega, by simp, Below.refl _ _⟩
    case round =>
      obtain ⟨m, l, hm, rfl, rfl, hz, hp, hbr⟩ := hrel
      have Hz := Lib.hid hz
      have Hp := Lib.hid hp
      clear hz hp hb0 hl0
      have hbr0 := hbr.size
      by_cases hm0 : m = 0
      · have hb0 : ((m : Int) != 0) = false := by simp; omega
        have hl := Lib.hid (Hz.out hm0)
        clear hm0
        go_wp2
        go_ret
        exact ⟨by rw [hl.out]; rfl, hbr⟩
      · have hb0 : ((m : Int) != 0) = true := by simp; omega
        have ht : ((m : Int)).tmod 10 = ((m % 10 : Nat) : Int) := by rw [Int.tmod_eq_emod_of_nonneg (by omega)]; omega
        have hq : ((m : Int)).tdiv 10 = ((m / 10 : Nat) : Int) := by rw [Int.tdiv_eq_ediv_of_nonneg (by omega)]; omega
        have ht0 : m % 10 < 10 := by omega
        have hcv := fun W g hc => conv_back1 (P := Tryd.prog) 22 9 5 Tryd.underlying22 Tryd.underlying5 Tryd.underlying9 (48 + (m : Int) % 10) (by omega) (by omega) 1 W g hc
        have hst := Lib.hid (dec_step hm0 (Hp.out (by omega)))
        have hlen : l.length ≤ 21 := by
          have := decDigits_length_le n hn
          rw [← Hp.out (by omega), List.length_append] at this
          omega
        have he8 : (48 : UInt8) + UInt8.ofNat (m % 10) = UInt8.ofNat (48 + m % 10) := by
          apply UInt8.toNat_inj.1
          simp
        have He8 := Lib.hid he8
        clear he8
        go_wp2
        go_roundw
        case rel =>
          refine ⟨m / 10, _ :: l, by omega, by go_num, ?_, hst.out.1, hst.out.2, hbr.alloc hbr0 _⟩
          rw [← He8.out]
          rfl
        case measure => simp [intOf]; omega


theorem toList_data (s : ByteArray) : s.toList = s.data.toList := ByteArray.toList_eq s

/-- What Number hands back. -/
def numV (l : List UInt8) : Value := match numl l with | some n => .tuple #[.int .i64 (n : Int), .bool true] | none => .tuple #[.int .i64 0, .bool false]
theorem numV_none {l : List UInt8} (h : numl l = none) : numV l = .tuple #[.int .i64 0, .bool false] := by unfold numV; rw [h]
theorem numV_some {l : List UInt8} {n : Nat} (h : numl l = some n) : numV l = .tuple #[.int .i64 (n : Int), .bool true] := by unfold numV; rw [h]

theorem all_take_step (s : ByteArray) (k : Nat) (h : k < s.size) : (s.data.toList.take (k + 1)).all isd = ((s.data.toList.take k).all isd && isd s[k]) := by
  rw [take_str s k h, List.all_append]; simp
theorem dv_take_step (s : ByteArray) (k : Nat) (h : k < s.size) : dv (s.data.toList.take (k + 1)) = 10 * dv (s.data.toList.take k) + (s[k].toNat - 48) := by
  rw [take_str s k h, dv_snoc]
theorem not_canon_at (s : ByteArray) (k : Nat) (h : k < s.size) (hn : isd s[k] = false) : numl s.data.toList = none := by
  unfold numl
  rw [if_neg]
  rintro ⟨hc, _⟩
  simp only [canon, Bool.and_eq_true] at hc
  have h1 := hc.1.1
  rw [List.all_eq_true] at h1
  have := h1 s[k] (by
    have : s.data.toList[k]? = some s[k] := by simp [List.getElem?_eq_getElem (show k < s.data.toList.length by simpa using h)]; rfl
    exact List.mem_of_getElem? this)
  rw [hn] at this
  cases this
theorem isd_int (b : UInt8) : isd b = (decide (48 ≤ (b.toNat : Int)) && decide ((b.toNat : Int) ≤ 57)) := by
  unfold isd
  congr 1
  · have : (48 ≤ b.toNat) = (48 ≤ (b.toNat : Int)) := by rw [eq_iff_iff]; omega
    simp only [this]
  · have : (b.toNat ≤ 57) = ((b.toNat : Int) ≤ 57) := by rw [eq_iff_iff]; omega
    simp only [this]

set_option maxHeartbeats 800000 in
theorem specNumber_any (s : ByteArray) (w : World) (hs : s.size ≤ 1048576) :
    Calls Tryd.prog 35 #[.string s] w fun e w' => e = .returned (numV s.data.toList) ∧ Below w.heap.size w w' := by
  by_cases hlen : 1 ≤ s.size ∧ s.size ≤ 9
  · obtain ⟨hl1, hl2⟩ := hlen
    go_enter Tryd.func35, Tryd.ntmps35
    go_wp2
    go_loopw [2, 3, 4, 5] (fun a b n i wr => ∃ k : Nat, k ≤ s.size ∧ i = .int .i64 k ∧ n = .int .i64 (dv (s.data.toList.take k) : Nat) ∧ (s.data.toList.take k).all isd = true ∧ a = .int .i64 0 ∧ b = .bool false ∧ Below w.heap.size w wr) (fun _ _ _ i _ => s.size - (intOf i).toNat)
    case atStart => exact ⟨0, by omega, rfl, rfl, rfl, rfl, rfl, Below.refl _ _⟩
    case round =>
      obtain ⟨k, hk, rfl, rfl, hall, rfl, rfl, hbr⟩ := hrel
      have Hall := Lib.hid hall
      clear hall
      have hdl : dv (s.data.toList.take k) < 1000000000 := by
        have h1 := dv_lt_pow _ Hall.out
        have h2 : (s.data.toList.take k).length ≤ 9 := by simp; omega
        have : 10 ^ (s.data.toList.take k).length ≤ 10 ^ 9 := Nat.pow_le_pow_right (by omega) h2
        omega
      by_cases hlt : k < s.size
      · have hbn : s[k].toNat < 256 := s[k].toNat_lt
        by_cases hd : isd s[k] = true
        · have HA := Lib.hid (all_take_step s k hlt)
          have HD := Lib.hid (dv_take_step s k hlt)
          have Hd := Lib.hid hd
          rw [isd_int, Bool.and_eq_true, decide_eq_true_eq, decide_eq_true_eq] at hd
          obtain ⟨hd1, hd2⟩ := hd
          have hd3 : ¬ (s[k].toNat : Int) < 48 := by omega
          have hd4 : ¬ 57 < (s[k].toNat : Int) := by omega
          go_wp2
          go_roundw
          case rel =>
            refine ⟨k + 1, by omega, by go_num, ?_, by rw [HA.out, Hall.out, Hd.out]; rfl, rfl, rfl, hbr⟩
            rw [HD.out]
            congr 1
            omega
          case measure => simp [intOf]; omega
        · have HN := Lib.hid (numV_none (not_canon_at s k hlt (by simpa using hd)))
          rw [isd_int, Bool.and_eq_true, decide_eq_true_eq, decide_eq_true_eq] at hd
          by_cases hd3 : (s[k].toNat : Int) < 48
          · clear hd
            go_wp2
            go_ret2
            exact ⟨by rw [HN.out]; rfl, hbr⟩
          · have hd4 : 57 < (s[k].toNat : Int) := by omega
            clear hd
            go_wp2
            go_ret2
            exact ⟨by rw [HN.out]; rfl, hbr⟩
      · obtain rfl : k = s.size := by omega
        rw [take_str_all] at hdl Hall
        rw [take_str_all]
        go_wp2_with fail
        refine (specDigits_nat _ _ (by omega)).mono ?_
        rintro e w1 ⟨rfl, hb1⟩
        go_wp2
        · have ht : (!decDigits (dv s.data.toList) == s.toList) = true := by assumption
          go_ret2
          have hn : numl s.data.toList = none := by
            unfold numl
            rw [if_neg]
            rintro ⟨hc, _⟩
            rw [toList_data, (canon_iff _).1 hc] at ht
            simp at ht
          exact ⟨by rw [numV_none hn]; rfl, hbr.trans (hb1.mono hbr.size)⟩
        · have ht : (!decDigits (dv s.data.toList) == s.toList) = false := by assumption
          go_ret2
          have hn : numl s.data.toList = some (dv s.data.toList) := by
            unfold numl
            rw [if_pos]
            refine ⟨(canon_iff _).2 ?_, by omega⟩
            rw [toList_data] at ht
            simpa using ht
          exact ⟨by rw [numV_some hn]; rfl, hbr.trans (hb1.mono hbr.size)⟩
  · have hN := Lib.hid (show numV s.data.toList = .tuple #[.int .i64 0, .bool false] from by
      refine numV_none ?_
      by_cases h0 : s.size = 0
      · have : s.data.toList = [] := List.eq_nil_of_length_eq_zero (by simpa using h0)
        rw [this]; rfl
      · exact numl_long _ (by simp; omega))
    have hlen2 : (s.size : Int) < 1 ∨ ¬ (s.size : Int) < 1 ∧ 9 < (s.size : Int) := by omega
    rcases hlen2 with h | ⟨h, h'⟩
    all_goals
      go_enter Tryd.func35, Tryd.ntmps35
      go_wp2
      go_ret2
      exact ⟨by rw [hN.out]; rfl, Below.refl _ _⟩


def numPan : Value := .iface 9 (.string ⟨#[110, 111, 116, 32, 97, 32, 110, 117, 109, 98, 101, 114]⟩)

set_option maxHeartbeats 400000 in
theorem decimalOf_some (b : UInt8) (h : isd b = true) (w : World) :
    Calls Tryd.prog 51 #[.int .u8 (b.toNat : Int)] w fun e w' => e = .returned (.int .i64 ((b.toNat - 48 : Nat) : Int)) ∧ w = w' := by
  rw [isd_int, Bool.and_eq_true, decide_eq_true_eq, decide_eq_true_eq] at h
  obtain ⟨h1, h2⟩ := h
  have h3 : ¬ (b.toNat : Int) < 48 := by omega
  have h4 : ¬ 57 < (b.toNat : Int) := by omega
  go_enter Tryd.func51, Tryd.ntmps51
  go_wp2
  go_ret
  refine ⟨?_, rfl⟩
  show Ending.returned (.int .i64 ((b.toNat : Int) - 48)) = _
  rw [show ((b.toNat - 48 : Nat) : Int) = (b.toNat : Int) - 48 from by omega]

set_option maxHeartbeats 400000 in
theorem decimalOf_none (b : UInt8) (h : isd b = false) (w : World) :
    Calls Tryd.prog 51 #[.int .u8 (b.toNat : Int)] w fun e w' => e = .panicked [{ v := numPan, recovered := false }] ∧ w = w' := by
  rw [isd_int, Bool.and_eq_false_iff, decide_eq_false_iff_not, decide_eq_false_iff_not] at h
  by_cases h3 : (b.toNat : Int) < 48
  · clear h
    go_enter Tryd.func51, Tryd.ntmps51
    go_wp2
    exact ⟨rfl, rfl, rfl⟩
  · have h4 : 57 < (b.toNat : Int) := by omega
    clear h
    go_enter Tryd.func51, Tryd.ntmps51
    go_wp2
    exact ⟨rfl, rfl, rfl⟩

/-- numberOf: the number, or a panic. -/
def numPost (l : List UInt8) (w : World) (e : Ending) (w' : World) : Prop := (match numl l with | some n => e = .returned (.int .i64 (n : Int)) | none => e = .panicked [{ v := numPan, recovered := false }]) ∧ Below w.heap.size w w'
theorem numPost_none {l : List UInt8} {w w' : World} {e : Ending} (h : numl l = none) (he : e = .panicked [{ v := numPan, recovered := false }]) (hb : Below w.heap.size w w') : numPost l w e w' := by
  unfold numPost; rw [h]; exact ⟨he, hb⟩
theorem numPost_some {l : List UInt8} {n : Nat} {w w' : World} {e : Ending} (h : numl l = some n) (he : e = .returned (.int .i64 (n : Int))) (hb : Below w.heap.size w w') : numPost l w e w' := by
  unfold numPost; rw [h]; exact ⟨he, hb⟩
theorem dv_mono (p q : List UInt8) : dv p ≤ dv (p ++ q) := by
  induction q using rev_ind with
  | nil => simp
  | snoc q b ih => rw [← List.append_assoc, dv_snoc]; omega
theorem dv_take_le (l : List UInt8) (k : Nat) : dv (l.take k) ≤ dv l := by
  have := dv_mono (l.take k) (l.drop k)
  rwa [List.take_append_drop] at this
theorem numl_great (l : List UInt8) (k : Nat) (h : 999999999 < dv (l.take k)) : numl l = none := by
  unfold numl
  rw [if_neg]
  rintro ⟨_, hv⟩
  have := dv_take_le l k
  omega
theorem numl_zero (s : ByteArray) (h0 : 0 < s.size) (h : (s[0].toNat : Int) = 48) (h1 : 1 < s.size) : numl s.data.toList = none := by
  unfold numl
  rw [if_neg]
  rintro ⟨hc, _⟩
  simp only [canon, Bool.and_eq_true, Bool.or_eq_true, decide_eq_true_eq] at hc
  rcases hc.2 with h2 | h2
  · simp at h2; omega
  · have e : s.data.toList.head? = some s[0] := by
      rw [List.head?_eq_getElem?, List.getElem?_eq_getElem (by simpa using h0)]
      rfl
    rw [e] at h2
    have : s[0] = 48 := by apply UInt8.toNat_inj.1; show s[0].toNat = 48; omega
    rw [this] at h2
    simp at h2
theorem data_ne (s : ByteArray) (h : 0 < s.size) : s.data.toList.isEmpty = false := by
  have h2 : s.data.toList.length = s.size := by simp
  cases hd : s.data.toList with
  | nil => rw [hd] at h2; simp only [List.length_nil] at h2; omega
  | cons a r => rfl
theorem numl_ok (s : ByteArray) (h0 : 0 < s.size) (hall : s.data.toList.all isd = true) (hv : dv s.data.toList ≤ 999999999) (h : ¬ (s[0].toNat : Int) = 48 ∨ s.size = 1) : numl s.data.toList = some (dv s.data.toList) := by
  unfold numl
  rw [if_pos]
  refine ⟨?_, hv⟩
  simp only [canon, hall, Bool.true_and, Bool.and_eq_true, Bool.or_eq_true, decide_eq_true_eq]
  refine ⟨?_, ?_⟩
  · rw [data_ne s h0]; rfl
  · rcases h with h | h
    · right
      have e : s.data.toList.head? = some s[0] := by
        rw [List.head?_eq_getElem?, List.getElem?_eq_getElem (by simpa using h0)]
        rfl
      rw [e]
      simp only [bne_iff_ne, ne_eq, Option.some.injEq]
      intro e2
      rw [e2] at h
      exact h rfl
    · left; simpa using h

set_option maxHeartbeats 1000000 in
theorem numberOf_any (s : ByteArray) (w : World) (hs : s.size ≤ 1048576) :
    Calls Tryd.prog 45 #[.string s] w fun e w' => numPost s.data.toList w e w' := by
  by_cases h0 : s.size = 0
  · have hN : numl s.data.toList = none := by
      have : s.data.toList = [] := List.eq_nil_of_length_eq_zero (by simpa using h0)
      rw [this]; rfl
    have HN := Lib.hid hN
    have he : s.toList.isEmpty = true := by
      rw [toList_data, List.eq_nil_of_length_eq_zero (show s.data.toList.length = 0 by simpa using h0)]; rfl
    have he2 : s.toList = [] := by simpa using he
    clear hN h0
    go_enter Tryd.func45, Tryd.ntmps45
    go_wp2
    exact ⟨rfl, numPost_none HN.out rfl (Below.refl _ _)⟩
  · have hp : 0 < s.size := by omega
    have he : s.toList.isEmpty = false := by
      rw [toList_data]; exact data_ne s hp
    have he2 : ¬ s.toList = [] := by simpa using he
    have hp2 : (0 : Int) < (s.size : Int) := by omega
    by_cases hz : (s[0].toNat : Int) = 48 ∧ 1 < s.size
    · obtain ⟨hz1, hz2⟩ := hz
      have HN := Lib.hid (numl_zero s hp hz1 hz2)
      have hz3 : ((s[0].toNat : Int) == 48) = true := by simp [hz1]
      clear hz1 h0
      go_enter Tryd.func45, Tryd.ntmps45
      go_wp2
      exact ⟨rfl, numPost_none HN.out rfl (Below.refl _ _)⟩
    · have hok := Lib.hid (fun hall hv => numl_ok s hp hall hv (by omega))
      have hz4 : ((s[0].toNat : Int) == 48) = false ∨ ((s[0].toNat : Int) == 48) = true ∧ ¬ (1 : Int) < (s.size : Int) := by
        by_cases e : (s[0].toNat : Int) = 48
        · right; exact ⟨by simp [e], by omega⟩
        · left; simpa using e
      clear hz h0
      rcases hz4 with hz3 | ⟨hz3, hz5⟩
      all_goals
        go_enter Tryd.func45, Tryd.ntmps45
        go_wp2
        go_loopw [3, 4] (fun n i wr => ∃ k : Nat, k ≤ s.size ∧ i = .int .i64 k ∧ n = .int .i64 (dv (s.data.toList.take k) : Nat) ∧ (s.data.toList.take k).all isd = true ∧ dv (s.data.toList.take k) ≤ 999999999 ∧ Below w.heap.size w wr) (fun _ i _ => s.size - (intOf i).toNat)
        case atStart => exact ⟨0, by omega, rfl, rfl, rfl, by simp [dv], Below.refl _ _⟩
        case round =>
          obtain ⟨k, hk, rfl, rfl, hall, hdl, hbr⟩ := hrel
          have Hall := Lib.hid hall
          clear hall
          by_cases hlt : k < s.size
          · cases hd : isd s[k] with
            | true =>
              have HA := Lib.hid (all_take_step s k hlt)
              have HD := Lib.hid (dv_take_step s k hlt)
              have Hd := Lib.hid hd
              have hbn : s[k].toNat - 48 < 10 := digit_lt _ hd
              have hc := Lib.hid (fun W => decimalOf_some s[k] hd W)
              clear hd
              by_cases hgr : 999999999 < dv (s.data.toList.take k) * 10 + (s[k].toNat - 48)
              · have hg2 : (999999999 : Int) < (dv (s.data.toList.take k) : Int) * 10 + ((s[k].toNat - 48 : Nat) : Int) := by omega
                go_wp2_with fail
                refine (hc.out _).mono ?_
                rintro e w1 ⟨rfl, rfl⟩
                go_wp2
                exact ⟨rfl, numPost_none (numl_great _ (k + 1) (by rw [HD.out]; omega)) rfl hbr⟩
              · have hg2 : ¬ (999999999 : Int) < (dv (s.data.toList.take k) : Int) * 10 + ((s[k].toNat - 48 : Nat) : Int) := by omega
                go_wp2_with fail
                refine (hc.out _).mono ?_
                rintro e w1 ⟨rfl, rfl⟩
                go_wp2
                go_roundw
                case rel =>
                  refine ⟨k + 1, by omega, by go_num, ?_, by rw [HA.out, Hall.out, Hd.out]; rfl, by rw [HD.out]; omega, hbr⟩
                  rw [HD.out]
                  congr 1
                  omega
                case measure => simp [intOf]; omega
            | false =>
              have hn := Lib.hid (not_canon_at s k hlt hd)
              have hc := Lib.hid (fun W => decimalOf_none s[k] hd W)
              clear hd
              go_wp2_with fail
              refine (hc.out _).mono ?_
              rintro e w1 ⟨rfl, rfl⟩
              exact ⟨rfl, numPost_none hn.out rfl hbr⟩
          · obtain rfl : k = s.size := by omega
            rw [take_str_all] at Hall hdl
            rw [take_str_all]
            have HN := Lib.hid (hok.out Hall.out hdl)
            go_wp2
            go_ret
            exact numPost_some HN.out rfl hbr


theorem numCatch_pan (p q : Addr) (x y : Value) (pv : Value) (w : World) (hc : w.cell? p = some x) (hz : w.frozen? p = false) (hd : w.cell? q = some y) (hy : w.frozen? q = false) (hpq : p ≠ q) :
    CallsD Tryd.prog 44 #[.pointer (some p), .pointer (some q)] (.panicking [{ v := .iface 9 pv, recovered := false }]) w fun e u' w' =>
      e = .returned (.tuple #[]) ∧ u' = .panicking [{ v := .iface 9 pv, recovered := true }] ∧ w' = (w.setCell p (.int .i64 0)).setCell q (.bool false) := by
  have hq : (w.setCell p (.int .i64 0)).cell? q = some y := (World.cell?_setCell_other w _ _ _ hpq).trans hd
  refine callsD_of_wpS Tryd.func44 rfl fun c₀ cs hu => ?_
  apply wpS_seq
  apply wpS_region
  simp [wpOpsS, go_sem, recoverD, hu, Tryd.ntmps44, Exit.thenS]
  refine wpS_cond (t := true) (by simp [Act.eval, Array.replicate]) ?_
  simp only [if_true]
  apply wpS_region
  simp [wpOpsS, go_sem, hc, hz, hy, hq, bodyPostS, results, Tryd.results44]

theorem numCatch_idle (p q : Addr) (w : World) :
    CallsD Tryd.prog 44 #[.pointer (some p), .pointer (some q)] .returning w fun e u' w' => e = .returned (.tuple #[]) ∧ u' = .returning ∧ w' = w := by
  refine callsD_of_wpS Tryd.func44 rfl fun c₀ cs hu => ?_
  apply wpS_seq
  apply wpS_region
  simp [wpOpsS, go_sem, recoverD, hu, Tryd.ntmps44, Exit.thenS]
  refine wpS_cond (t := false) (by simp [Act.eval, Array.replicate]) ?_
  simp only [Bool.false_eq_true, if_false]
  refine wpS_of_wp (wp_skip ?_)
  cases c₀
  simp_all [bodyPostS, results, Tryd.results44]

set_option maxHeartbeats 400000 in
theorem implNumber_any (s : ByteArray) (w : World) (hs : s.size ≤ 1048576) :
    Calls Tryd.prog 31 #[.string s] w fun e w' => e = .returned (numV s.data.toList) ∧ Below w.heap.size w w' := by
  cases hu : numl s.data.toList with
  | none =>
    have hV : numV s.data.toList = .tuple #[.int .i64 0, .bool false] := by unfold numV; rw [hu]
    rw [hV]
    clear hV
    have HU := Lib.hid hu
    clear hu
    have hmf : ∀ (fn : Fn) (first cap : Array Value) (w : World), (Instr.makeFunc fn first cap).run Tryd.prog w = .ok (.func fn first cap) w := fun _ _ _ _ => rfl
    go_enter_defers Tryd.func31, Tryd.ntmps31
    go_wp2_with fail
    refine (numberOf_any s _ hs).mono ?_
    intro e w1 hp
    obtain ⟨he, hb⟩ := hp
    have hz : w.heap.size + 2 ≤ w1.heap.size := by have := hb.size; simp at this; omega
    have hb0 : Below w.heap.size w w1 := (((Below.refl _ _).alloc (Nat.le_refl _) _).alloc (by simp) _).trans (hb.mono (by simp; omega))
    have c1 : w1.cell? ⟨w.heap.size, 0, none⟩ = some (.int .i64 0) := (hb.cell (p := ⟨w.heap.size, 0, none⟩) (by simp; omega)).trans (by simp [go_sem])
    have c2 : w1.cell? ⟨w.heap.size + 1, 0, none⟩ = some (.bool false) := (hb.cell (p := ⟨w.heap.size + 1, 0, none⟩) (by simp)).trans (by simp [go_sem])
    have f1 : w1.frozen? ⟨w.heap.size, 0, none⟩ = false := (hb.frozen (p := ⟨w.heap.size, 0, none⟩) (by simp; omega)).trans (by simp [go_sem])
    have f2 : w1.frozen? ⟨w.heap.size + 1, 0, none⟩ = false := (hb.frozen (p := ⟨w.heap.size + 1, 0, none⟩) (by simp)).trans (by simp [go_sem])
    have hne : (⟨w.heap.size, 0, none⟩ : Addr) ≠ ⟨w.heap.size + 1, 0, none⟩ := by intro h; injection h with h; omega
    rw [HU.out] at he
    simp only at he
    subst he
    clear hb
    refine leaves_cons (f := 44) (args := #[.pointer (some ⟨w.heap.size, 0, none⟩), .pointer (some ⟨w.heap.size + 1, 0, none⟩)]) (by simp) (by simp [go_sem]) ?_
    refine (numCatch_pan _ _ _ _ _ w1 c1 f1 c2 f2 hne).mono ?_
    rintro e u' w'' ⟨rfl, rfl, rfl⟩
    simp [Leaves, settle, results, Tryd.results31, go_sem, c1, c2]
    exact (hb0.setCell (Nat.le_refl _) _).setCell (by simp) _
  | some r =>
    have hV : numV s.data.toList = .tuple #[.int .i64 (r : Int), .bool true] := by unfold numV; rw [hu]
    rw [hV]
    clear hV
    have HU := Lib.hid hu
    clear hu
    have hmf : ∀ (fn : Fn) (first cap : Array Value) (w : World), (Instr.makeFunc fn first cap).run Tryd.prog w = .ok (.func fn first cap) w := fun _ _ _ _ => rfl
    go_enter_defers Tryd.func31, Tryd.ntmps31
    go_wp2_with fail
    refine (numberOf_any s _ hs).mono ?_
    intro e w1 hp
    obtain ⟨he, hb⟩ := hp
    have hz : w.heap.size + 2 ≤ w1.heap.size := by have := hb.size; simp at this; omega
    have hb0 : Below w.heap.size w w1 := (((Below.refl _ _).alloc (Nat.le_refl _) _).alloc (by simp) _).trans (hb.mono (by simp; omega))
    have c1 : w1.cell? ⟨w.heap.size, 0, none⟩ = some (.int .i64 0) := (hb.cell (p := ⟨w.heap.size, 0, none⟩) (by simp; omega)).trans (by simp [go_sem])
    have c2 : w1.cell? ⟨w.heap.size + 1, 0, none⟩ = some (.bool false) := (hb.cell (p := ⟨w.heap.size + 1, 0, none⟩) (by simp)).trans (by simp [go_sem])
    have f1 : w1.frozen? ⟨w.heap.size, 0, none⟩ = false := (hb.frozen (p := ⟨w.heap.size, 0, none⟩) (by simp; omega)).trans (by simp [go_sem])
    have f2 : w1.frozen? ⟨w.heap.size + 1, 0, none⟩ = false := (hb.frozen (p := ⟨w.heap.size + 1, 0, none⟩) (by simp)).trans (by simp [go_sem])
    have hne : (⟨w.heap.size, 0, none⟩ : Addr) ≠ ⟨w.heap.size + 1, 0, none⟩ := by intro h; injection h with h; omega
    rw [HU.out] at he
    simp only at he
    subst he
    clear hb
    go_wp2
    refine leaves_cons (f := 44) (args := #[.pointer (some ⟨w.heap.size, 0, none⟩), .pointer (some ⟨w.heap.size + 1, 0, none⟩)]) (by simp) (by simp [go_sem]) ?_
    refine (numCatch_idle _ _ _).mono ?_
    rintro e u' w'' ⟨rfl, rfl, rfl⟩
    simp [Leaves, settle, results, Tryd.results31, go_sem, c1, c2]
    exact (hb0.setCell (Nat.le_refl _) _).setCell (by simp) _

theorem numV_cases (l : List UInt8) : ∃ (n : Int) (b : Bool), numV l = .tuple #[.int .i64 n, .bool b] := by
  unfold numV
  cases numl l with
  | none => exact ⟨_, _, rfl⟩
  | some r => exact ⟨_, _, rfl⟩

end Go.Proofs.YtkajjkjimpdbbaaDoor
