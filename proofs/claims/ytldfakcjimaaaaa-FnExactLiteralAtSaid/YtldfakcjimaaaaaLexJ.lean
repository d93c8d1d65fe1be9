/-
  Chapter 3's walks: the model's LiteralAt, and its exact law.
-/
import Derived.Test.YtldfakcjimaaaaaLexC
namespace Go.Proofs.Ytldfakcjimaaaaa
open Go.RowKit

/-- The place of the last opening brace. -/
def lastI : List UInt8 → Option Nat
  | [] => none
  | b :: r => match lastI r with | some i => some (i + 1) | none => if b.toNat = 123 then some 0 else none
def litAtO (l : List UInt8) : Option Nat :=
  if l.getLast? = some 125 then match lastI l with | none => none | some i => numl ((l.drop (i + 1)).take (l.length - 1 - (i + 1))) else none
def litAtV (l : List UInt8) : Int := match litAtO l with | some n => (n : Int) | none => -1
theorem litAtV_none {l : List UInt8} (h : litAtO l = none) : litAtV l = -1 := by unfold litAtV; rw [h]
theorem litAtV_some {l : List UInt8} {n : Nat} (h : litAtO l = some n) : litAtV l = (n : Int) := by unfold litAtV; rw [h]
theorem lastI_cons (b : UInt8) (r : List UInt8) : lastI (b :: r) = match lastI r with | some i => some (i + 1) | none => if b.toNat = 123 then some 0 else none := rfl
theorem lastI_app : ∀ (a r : List UInt8) (i : Nat), lastI r = some i → lastI (a ++ r) = some (a.length + i)
  | [], r, i, h => by simpa using h
  | b :: a, r, i, h => by rw [List.cons_append, lastI_cons, lastI_app a r i h]; simp; omega
theorem lastI_hit (s : ByteArray) (j : Nat) (h : j < s.size) (hb : ((s[j].toNat : Int) == 123) = true) (hn : lastI (s.data.toList.drop (j + 1)) = none) : lastI s.data.toList = some j := by
  have h0 : lastI (s.data.toList.drop j) = some 0 := by rw [drop_str s j h, lastI_cons, hn]; simp only; rw [if_pos (beq_nat hb)]
  have := lastI_app (s.data.toList.take j) (s.data.toList.drop j) 0 h0
  rw [List.take_append_drop] at this
  rw [this]
  simp; omega
theorem lastI_miss (s : ByteArray) (j : Nat) (h : j < s.size) (hb : ((s[j].toNat : Int) == 123) = false) (hn : lastI (s.data.toList.drop (j + 1)) = none) : lastI (s.data.toList.drop j) = none := by
  rw [drop_str s j h, lastI_cons, hn]; simp only; rw [if_neg (beq_nat' hb)]
theorem last_get (s : ByteArray) (h : 0 < s.size) : s.data.toList.getLast? = some s[s.size - 1] := by
  rw [List.getLast?_eq_getElem?, str_len, List.getElem?_eq_getElem (by rw [str_len]; omega)]; rfl
theorem litAt_end (s : ByteArray) (h : 0 < s.size) (hb : ((s[s.size - 1].toNat : Int) == 125) = false) : litAtO s.data.toList = none := by
  unfold litAtO
  rw [last_get s h, if_neg]
  intro e
  injection e with e
  rw [e] at hb
  cases hb
theorem litAt_open (s : ByteArray) (h : 0 < s.size) (hb : ((s[s.size - 1].toNat : Int) == 125) = true) : litAtO s.data.toList = match lastI s.data.toList with | none => none | some i => numl ((s.data.toList.drop (i + 1)).take (s.size - 1 - (i + 1))) := by
  unfold litAtO
  rw [last_get s h, u8_eq (n := 125) hb (by omega), if_pos (show some (UInt8.ofNat 125) = some 125 from rfl), str_len]
theorem litAt_short (s : ByteArray) (h : s.size < 3) : litAtO s.data.toList = none := by
  by_cases h0 : 0 < s.size
  · cases hb : ((s[s.size - 1].toNat : Int) == 125) with
    | false => exact litAt_end s h0 hb
    | true =>
      rw [litAt_open s h0 hb]
      cases hl : lastI s.data.toList with
      | none => rfl
      | some i =>
        simp only
        have : (s.data.toList.drop (i + 1)).take (s.size - 1 - (i + 1)) = [] := by rw [show s.size - 1 - (i + 1) = 0 by omega]; rfl
        rw [this]; rfl
  · unfold litAtO
    have : s.data.toList = [] := List.eq_nil_of_length_eq_zero (by rw [str_len]; omega)
    rw [this]; rfl

set_option maxHeartbeats 1600000 in
theorem specLiteralAt_any (s : ByteArray) (w : World) (hs : s.size ≤ 1048576) :
    Calls Try.prog 10 #[.string s] w fun e w' => e = .returned (.int .i64 (litAtV s.data.toList)) ∧ Below w.heap.size w w' := by
  by_cases hsh : (s.size : Int) < 3
  · have HV := Lib.hid (litAtV_none (litAt_short s (by omega)))
    go_enter Try.func10, Try.ntmps10
    go_wp2
    go_ret
    exact ⟨by rw [HV.out]; rfl, Below.refl _ _⟩
  obtain ⟨m, hm⟩ : ∃ m, s.size = m + 1 := ⟨s.size - 1, by omega⟩
  have hms : m < s.size := by omega
  have hsz : (s.size : Int) = (m : Int) + 1 := by omega
  have hmi : (s.size : Int) - 1 = (m : Int) := by omega
  have hbm : s[m].toNat < 256 := s[m].toNat_lt
  have hm1 : s.size - 1 = m := by omega
  cases hb : ((s[m].toNat : Int) == 125) with
  | false =>
    have hb2 := ne_yes hb
    have HV := Lib.hid (litAtV_none (litAt_end s (by omega) (by simp only [hm1]; exact hb)))
    have hmn : (s.size : Int) - 1 = (m : Int) := by omega
    clear hsz hmi hm1 hm hb
    go_enter Try.func10, Try.ntmps10
    go_wp2
    go_ret
    exact ⟨by rw [HV.out]; rfl, Below.refl _ _⟩
  | true =>
    have hb2 := ne_not hb
    have HO := Lib.hid (litAt_open s (by omega) (by simp only [hm1]; exact hb))
    have HL0 := Lib.hid (show lastI (s.data.toList.drop m) = none by rw [drop_str s m (by omega), drop_str_end s (m + 1) (by omega), lastI_cons]; simp only [lastI]; rw [if_neg (by rw [beq_nat hb]; decide)])
    have Hm := Lib.hid hm
    have hmn : (s.size : Int) - 1 = (m : Int) := by omega
    have hm2 : m ≤ 1048576 := by omega
    clear hsz hmi hm1 hm
    go_enter Try.func10, Try.ntmps10
    go_wp2
    go_loop [4] (fun i => ∃ k : Nat, k ≤ m ∧ i = .int .i64 ((k : Int) - 1) ∧ lastI (s.data.toList.drop k) = none) (fun i => (intOf i + 1).toNat)
    case atStart => exact ⟨m, Nat.le_refl _, by congr 1; omega, HL0.out⟩
    case round =>
      obtain ⟨k, hk, rfl, hnone⟩ := hrel
      cases k with
      | zero =>
        have HV := Lib.hid (litAtV_none (l := s.data.toList) (by rw [HO.out]; rw [List.drop_zero] at hnone; rw [hnone]))
        rw [show (((0 : Nat) : Int) - 1) = -1 by omega]
        clear hnone hb hb2 hmn
        go_wp2
        go_ret
        exact ⟨by rw [HV.out]; rfl, Below.refl _ _⟩
      | succ j =>
        rw [show (((j + 1 : Nat) : Int) - 1) = (j : Int) by omega]
        have hjs : j < s.size := by omega
        have hbj : s[j].toNat < 256 := s[j].toNat_lt
        cases h1 : ((s[j].toNat : Int) == 123) with
        | false =>
          have HN := Lib.hid (lastI_miss s j hjs h1 hnone)
          clear hnone hb hb2 hmn
          go_wp2
          go_round
          case rel => exact ⟨j, by omega, rfl, HN.out⟩
          case measure => simp [intOf]
        | true =>
          have hl := lastI_hit s j hjs h1 hnone
          have ho := HO.out
          rw [hl] at ho
          simp only at ho
          have hez : (s.extract (j + 1) m).size ≤ 1048576 := by simp; omega
          have c1 := fun W => specNumber_any (s.extract (j + 1) m) W hez
          rw [ext_list] at c1
          rw [Hm.out, show m + 1 - 1 - (j + 1) = m - (j + 1) by omega] at ho
          generalize (s.data.toList.drop (j + 1)).take (m - (j + 1)) = dd at *
          clear hl hnone hez hb hb2
          cases hn : numl dd with
          | none =>
            rw [hn] at ho
            rw [numV_none hn] at c1
            have HV := Lib.hid (litAtV_none ho)
            have C1 := Lib.hid c1
            clear ho c1 hn
            go_wp2_with fail
            refine (C1.out _).mono ?_
            rintro e w1 ⟨rfl, b1⟩
            go_wp2
            go_ret
            exact ⟨by rw [HV.out]; rfl, b1⟩
          | some n =>
            rw [hn] at ho
            rw [numV_some hn] at c1
            have HV := Lib.hid (litAtV_some ho)
            have C1 := Lib.hid c1
            clear ho c1 hn
            go_wp2_with fail
            refine (C1.out _).mono ?_
            rintro e w1 ⟨rfl, b1⟩
            go_wp2
            go_ret
            exact ⟨by rw [HV.out]; rfl, b1⟩

def ImplLiteralAt : Prop := ∀ (s : ByteArray) (W : World), s.size ≤ 1048576 → Calls Try.prog 11 #[.string s] W fun e w' => e = .returned (.int .i64 (litAtV s.data.toList)) ∧ Below W.heap.size W w'

theorem FnExactLiteralAt_of (IL : ImplLiteralAt) (s : ByteArray) (w : World) (_hs : s.size ≤ maxLen) :
    Calls Try.prog 4 #[.string s] w fun e w' => e = .returned (.bool true) ∧ Below w.heap.size w w' := by
  by_cases hbig : s.size ≤ 1048576
  · have C1 := Lib.hid (fun W => specLiteralAt_any s W hbig)
    have C2 := Lib.hid (fun W => IL s W hbig)
    clear IL
    generalize litAtV s.data.toList = x at *
    go_enter Try.func4, Try.ntmps4
    go_wp2_with fail
    refine (C1.out _).mono ?_
    rintro e w1 ⟨rfl, b1⟩
    go_wp2_with fail
    refine (C2.out _).mono ?_
    rintro e w2 ⟨rfl, b2⟩
    have hb := b1.trans (b2.mono b1.size)
    go_wp2
    go_ret
    exact ⟨rfl, hb⟩
  · go_enter Try.func4, Try.ntmps4
    go_wp2
    go_ret
    exact ⟨rfl, Below.refl _ _⟩

end Go.Proofs.Ytldfakcjimaaaaa
