/-
  Chapter 3's walks: the program's LiteralAt.
-/
import Derived.Test.YtldfakcjimaaaaaLexJ
namespace Go.Proofs.Ytldfakcjimaaaaa
open Go.RowKit

theorem lastI_none (s : ByteArray) : ∀ (n k : Nat), s.size - k = n → (∀ j (h : j < s.size), k ≤ j → ((s[j].toNat : Int) == 123) = false) → lastI (s.data.toList.drop k) = none
  | 0, k, hn, _ => by rw [drop_str_end s k (by omega)]; rfl
  | n + 1, k, hn, h => by
    have hk : k < s.size := by omega
    exact lastI_miss s k hk (h k hk (Nat.le_refl _)) (lastI_none s n (k + 1) (by omega) (fun j hj hkj => h j hj (by omega)))
theorem bang_eq (s : ByteArray) (j : Nat) (h : j < s.size) : s.data[j]! = s[j] := by
  rw [getElem!_pos s.data j (by simpa using h)]; rfl
theorem suffix_one (l : List UInt8) : Lib.hasSuffix l [125] = decide (l.getLast? = some 125) := by
  unfold Lib.hasSuffix
  by_cases h : l.getLast? = some 125
  · rw [decide_eq_true h]
    obtain ⟨ys, rfl⟩ := List.getLast?_eq_some_iff.1 h
    exact List.isSuffixOf_iff_suffix.2 ⟨ys, rfl⟩
  · rw [decide_eq_false h]
    cases hh : [125].isSuffixOf l with
    | false => rfl
    | true =>
      obtain ⟨t, ht⟩ := List.isSuffixOf_iff_suffix.1 hh
      exact absurd (by rw [← ht]; simp) h

/-- What LastIndexByte finds, in the words of lastI. -/
theorem lastB_cases (s : ByteArray) : (Lib.lastIndexByte s 123 = -1 ∧ lastI s.data.toList = none) ∨ ∃ i, ∃ h : i < s.size, Lib.lastIndexByte s 123 = (i : Int) ∧ lastI s.data.toList = some i ∧ s[i].toNat = 123 := by
  rcases Lib.lastIdx_spec s 123 s.size with ⟨h1, h2⟩ | ⟨i, hi, h1, h2, h3⟩
  · refine .inl ⟨h1, ?_⟩
    have := lastI_none s s.size 0 (by omega) (fun j hj _ => by have := h2 j hj; rw [bang_eq s j hj] at this; exact beq_eq_false_iff_ne.2 this)
    rwa [List.drop_zero] at this
  · rw [bang_eq s i hi] at h2
    refine .inr ⟨i, hi, h1, lastI_hit s i hi (beq_iff_eq.2 h2) (lastI_none s _ (i + 1) rfl (fun j hj hij => ?_)), by omega⟩
    have := h3 j (by omega) hj
    rw [bang_eq s j hj] at this
    exact beq_eq_false_iff_ne.2 this
theorem litAtO_no {l : List UInt8} (h : l.getLast? = some 125 → False) : litAtO l = none := by unfold litAtO; rw [if_neg h]
theorem litAtO_yes {l : List UInt8} (h : l.getLast? = some 125) : litAtO l = match lastI l with | none => none | some i => numl ((l.drop (i + 1)).take (l.length - 1 - (i + 1))) := by unfold litAtO; rw [if_pos h]; cases lastI l <;> rfl

set_option maxHeartbeats 1600000 in
theorem implLiteralAt_any : ImplLiteralAt := by
  intro s w hs
  have c1 := fun W => Try.strings_LastIndexByte s 123 (by omega) W
  have c2 := fun W => Try.strings_HasSuffix s ⟨#[125]⟩ W (by omega)
  rw [show (ByteArray.mk #[125]).data.toList = [125] from rfl, suffix_one] at c2
  rcases lastB_cases s with ⟨h1, h2⟩ | ⟨i, hi, h1, h2, h3⟩
  · rw [h1] at c1
    have C1 := Lib.hid c1
    have HV := Lib.hid (litAtV_none (l := s.data.toList) (by unfold litAtO; split <;> simp [h2]))
    clear c1 c2 h1 h2
    go_enter Try.func11, Try.ntmps11
    go_wp2_with fail
    refine (C1.out _).mono ?_
    rintro e w1 ⟨rfl, rfl⟩
    go_wp2
    go_ret
    exact ⟨by rw [HV.out]; rfl, Below.refl _ _⟩
  · rw [h1] at c1
    have C1 := Lib.hid c1
    by_cases hl : s.data.toList.getLast? = some 125
    · rw [decide_eq_true hl] at c2
      have C2 := Lib.hid c2
      have hl2 := hl
      rw [last_get s (by omega)] at hl2
      injection hl2 with hl2
      have hne : i ≠ s.size - 1 := by
        intro e
        subst e
        rw [hl2] at h3
        exact absurd h3 (by decide)
      have ho := litAtO_yes hl
      rw [h2] at ho
      simp only at ho
      obtain ⟨m, hm⟩ : ∃ m, s.size = m + 1 := ⟨s.size - 1, by omega⟩
      have hmn : (s.size : Int) - 1 = (m : Int) := by omega
      rw [str_len, hm, show m + 1 - 1 - (i + 1) = m - (i + 1) by omega] at ho
      have hez : (s.extract (i + 1) m).size ≤ 1048576 := by simp; omega
      have c3 := fun W => implNumber_any (s.extract (i + 1) m) W hez
      rw [ext_list] at c3
      generalize (s.data.toList.drop (i + 1)).take (m - (i + 1)) = dd at *
      have him : i < m := by omega
      clear c1 c2 hl hl2 h1 h2 h3 hne hez hm
      cases hn : numl dd with
      | none =>
        rw [hn] at ho
        rw [numV_none hn] at c3
        have HV := Lib.hid (litAtV_none ho)
        have C3 := Lib.hid c3
        clear ho c3 hn
        go_enter Try.func11, Try.ntmps11
        go_wp2_with fail
        refine (C1.out _).mono ?_
        rintro e w1 ⟨rfl, rfl⟩
        go_wp2_with fail
        refine (C2.out _).mono ?_
        rintro e w1 ⟨rfl, rfl⟩
        go_wp2_with fail
        refine (C3.out _).mono ?_
        rintro e w1 ⟨rfl, b1⟩
        go_wp2
        go_ret
        exact ⟨by rw [HV.out]; rfl, b1⟩
      | some n =>
        rw [hn] at ho
        rw [numV_some hn] at c3
        have HV := Lib.hid (litAtV_some ho)
        have C3 := Lib.hid c3
        clear ho c3 hn
        go_enter Try.func11, Try.ntmps11
        go_wp2_with fail
        refine (C1.out _).mono ?_
        rintro e w1 ⟨rfl, rfl⟩
        go_wp2_with fail
        refine (C2.out _).mono ?_
        rintro e w1 ⟨rfl, rfl⟩
        go_wp2_with fail
        refine (C3.out _).mono ?_
        rintro e w1 ⟨rfl, b1⟩
        go_wp2
        go_ret
        exact ⟨by rw [HV.out]; rfl, b1⟩
    · rw [decide_eq_false hl] at c2
      have C2 := Lib.hid c2
      have HV := Lib.hid (litAtV_none (litAtO_no hl))
      clear c1 c2 hl h1 h2 h3
      go_enter Try.func11, Try.ntmps11
      go_wp2_with fail
      refine (C1.out _).mono ?_
      rintro e w1 ⟨rfl, rfl⟩
      go_wp2_with fail
      refine (C2.out _).mono ?_
      rintro e w1 ⟨rfl, rfl⟩
      go_wp2
      go_ret
      exact ⟨by rw [HV.out]; rfl, Below.refl _ _⟩

end Go.Proofs.Ytldfakcjimaaaaa
