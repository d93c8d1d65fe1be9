/-
  Chapter 2's walks: Under, the model's and the program's.
-/
import Derived.Test.YthihjelcakenpaaWordF
namespace Go.Proofs.Ythihjelcakenpaa
open Go.RowKit

theorem under_no1 {x y : List UInt8} (h : nameB x = false) : underB x y = false := by unfold underB; rw [h]; rfl
theorem under_no2 {x y : List UInt8} (h : nameB y = false) : underB x y = false := by unfold underB; rw [h]; simp
theorem under_eq {x y : List UInt8} (h1 : nameB x = true) (h2 : nameB y = true) (h : x = y) : underB x y = true := by unfold underB; rw [h1, h2]; simp [h]
theorem under_ne {x y : List UInt8} (h1 : nameB x = true) (h2 : nameB y = true) (h : ¬ x = y) : underB x y = Lib.hasPrefix x (y ++ [47]) := by unfold underB; rw [h1, h2]; simp [h]
theorem nameB_len {x : List UInt8} (h : nameB x = true) : x.length ≤ 12 := by unfold nameB at h; simp only [Bool.and_eq_true, decide_eq_true_eq] at h; exact h.2
theorem beq_dec (a b : List UInt8) : (a == b) = decide (a = b) := by rw [Bool.eq_iff_iff]; simp
theorem beq_lists {x y : ByteArray} : (x.toList == y.toList) = decide (x.data.toList = y.data.toList) := by
  rw [Lib.toList_data, Lib.toList_data, beq_dec]

theorem pre_short {x y : List UInt8} (h : ¬ y.length < x.length) : Lib.hasPrefix x (y ++ [47]) = false := by
  unfold Lib.hasPrefix
  rw [Bool.eq_false_iff]
  intro hc
  rw [List.isPrefixOf_iff_prefix] at hc
  have := hc.length_le
  simp at this
  omega
theorem pre_take {x y : List UInt8} (h : y.length < x.length) : Lib.hasPrefix x (y ++ [47]) = (decide (x.take y.length = y) && decide (x[y.length] = 47)) := by
  unfold Lib.hasPrefix
  rw [Bool.eq_iff_iff]
  simp only [Bool.and_eq_true, decide_eq_true_eq, List.isPrefixOf_iff_prefix]
  constructor
  · rintro ⟨t, rfl⟩
    simp
  · rintro ⟨h1, h2⟩
    refine ⟨x.drop (y.length + 1), ?_⟩
    have : x = x.take y.length ++ x.drop y.length := (List.take_append_drop _ _).symm
    rw [List.drop_eq_getElem_cons h, h1, h2] at this
    rw [this]
    simp

set_option maxHeartbeats 800000 in
theorem implUnder_any (x y : ByteArray) (w : World) (hx : x.size ≤ 1048576) (hy : y.size ≤ 1048576) :
    Calls Try.prog 38 #[.string x, .string y] w fun e w' => e = .returned (.bool (underB x.data.toList y.data.toList)) ∧ Below w.heap.size w w' := by
  have c1 := fun W => implNameOk_any x W (by unfold maxLen; omega)
  have c2 := fun W => implNameOk_any y W (by unfold maxLen; omega)
  cases h1 : nameB x.data.toList with
  | false =>
    have HV := Lib.hid (under_no1 (y := y.data.toList) h1)
    rw [h1] at c1
    have C1 := Lib.hid c1
    clear c1 c2 h1
    go_enter Try.func38, Try.ntmps38
    go_wp2_with fail
    refine (C1.out _).mono ?_
    rintro e w1 ⟨rfl, b1⟩
    go_wp2
    go_ret
    exact ⟨by rw [HV.out]; rfl, b1⟩
  | true =>
    rw [h1] at c1
    have C1 := Lib.hid c1
    cases h2 : nameB y.data.toList with
    | false =>
      have HV := Lib.hid (under_no2 (x := x.data.toList) h2)
      rw [h2] at c2
      have C2 := Lib.hid c2
      clear c1 c2 h1 h2
      go_enter Try.func38, Try.ntmps38
      go_wp2_with fail
      refine (C1.out _).mono ?_
      rintro e w1 ⟨rfl, b1⟩
      go_wp2_with fail
      refine (C2.out _).mono ?_
      rintro e w2 ⟨rfl, b2⟩
      have hb := b1.trans (b2.mono b1.size)
      go_wp2
      go_ret
      exact ⟨by rw [HV.out]; rfl, hb⟩
    | true =>
      rw [h2] at c2
      have C2 := Lib.hid c2
      clear c1 c2
      by_cases he : x.data.toList = y.data.toList
      · have HV := Lib.hid (under_eq h1 h2 he)
        have hq : (x.toList == y.toList) = true := by rw [beq_lists]; exact decide_eq_true he
        clear h1 h2 he
        go_enter Try.func38, Try.ntmps38
        go_wp2_with fail
        refine (C1.out _).mono ?_
        rintro e w1 ⟨rfl, b1⟩
        go_wp2_with fail
        refine (C2.out _).mono ?_
        rintro e w2 ⟨rfl, b2⟩
        have hb := b1.trans (b2.mono b1.size)
        go_wp2
        go_ret
        exact ⟨by rw [HV.out]; rfl, hb⟩
      · have HV := Lib.hid (under_ne h1 h2 he)
        have hq : (x.toList == y.toList) = false := by rw [beq_lists]; exact decide_eq_false he
        have c3 := fun W => Try.strings_HasPrefix x (y ++ ⟨#[47]⟩) W
        rw [show (y ++ (⟨#[47]⟩ : ByteArray)).data.toList = y.data.toList ++ [47] by simp] at c3
        have C3 := Lib.hid c3
        clear h1 h2 he c3
        go_enter Try.func38, Try.ntmps38
        go_wp2_with fail
        refine (C1.out _).mono ?_
        rintro e w1 ⟨rfl, b1⟩
        go_wp2_with fail
        refine (C2.out _).mono ?_
        rintro e w2 ⟨rfl, b2⟩
        have hb := b1.trans (b2.mono b1.size)
        clear b1 b2
        go_wp2_with fail
        refine (C3.out _).mono ?_
        rintro e w3 ⟨rfl, rfl⟩
        go_wp2
        go_ret
        exact ⟨by rw [HV.out]; rfl, hb⟩

set_option maxHeartbeats 800000 in
theorem specUnder_any (x y : ByteArray) (w : World) (hx : x.size ≤ 1048576) (hy : y.size ≤ 1048576) :
    Calls Try.prog 49 #[.string x, .string y] w fun e w' => e = .returned (.bool (underB x.data.toList y.data.toList)) ∧ w = w' := by
  have c1 := fun W => specNameOk_any x W (by unfold maxLen; omega)
  have c2 := fun W => specNameOk_any y W (by unfold maxLen; omega)
  cases h1 : nameB x.data.toList with
  | false =>
    have HV := Lib.hid (under_no1 (y := y.data.toList) h1)
    rw [h1] at c1
    have C1 := Lib.hid c1
    clear c1 c2 h1
    go_enter Try.func49, Try.ntmps49
    go_wp2_with fail
    refine (C1.out _).mono ?_
    rintro e w1 ⟨rfl, rfl⟩
    go_wp2
    go_ret
    exact ⟨by rw [HV.out]; rfl, rfl⟩
  | true =>
    rw [h1] at c1
    have C1 := Lib.hid c1
    cases h2 : nameB y.data.toList with
    | false =>
      have HV := Lib.hid (under_no2 (x := x.data.toList) h2)
      rw [h2] at c2
      have C2 := Lib.hid c2
      clear c1 c2 h1 h2
      go_enter Try.func49, Try.ntmps49
      go_wp2_with fail
      refine (C1.out _).mono ?_
      rintro e w1 ⟨rfl, rfl⟩
      go_wp2_with fail
      refine (C2.out _).mono ?_
      rintro e w2 ⟨rfl, rfl⟩
      go_wp2
      go_ret
      exact ⟨by rw [HV.out]; rfl, rfl⟩
    | true =>
      rw [h2] at c2
      have C2 := Lib.hid c2
      clear c1 c2
      by_cases he : x.data.toList = y.data.toList
      · have HV := Lib.hid (under_eq h1 h2 he)
        have hq : (x.toList == y.toList) = true := by rw [beq_lists]; exact decide_eq_true he
        clear h1 h2 he
        go_enter Try.func49, Try.ntmps49
        go_wp2_with fail
        refine (C1.out _).mono ?_
        rintro e w1 ⟨rfl, rfl⟩
        go_wp2_with fail
        refine (C2.out _).mono ?_
        rintro e w2 ⟨rfl, rfl⟩
        go_wp2
        go_ret
        exact ⟨by rw [HV.out]; rfl, rfl⟩
      · have hv := under_ne h1 h2 he
        have hq : (x.toList == y.toList) = false := by rw [beq_lists]; exact decide_eq_false he
        by_cases hlt : y.size < x.size
        · have hby : x[y.size].toNat < 256 := x[y.size].toNat_lt
          have hv2 := pre_take (x := x.data.toList) (y := y.data.toList) (by simpa using hlt)
          have hex : (x.extract 0 y.size).toList = x.data.toList.take y.data.toList.length := by rw [Lib.extract_toList]; simp
          have hb1 : ((x.extract 0 y.size).toList == y.toList) = decide (x.data.toList.take y.data.toList.length = y.data.toList) := by rw [hex, Lib.toList_data, beq_dec]
          have hb2 : ((x[y.size].toNat : Int) == 47) = decide (x.data.toList[y.data.toList.length]'(by simpa using hlt) = 47) := by
            have e : x.data.toList[y.data.toList.length]'(by simpa using hlt) = x[y.size] := by simp; rfl
            rw [e, Bool.eq_iff_iff]
            simp only [beq_iff_eq, decide_eq_true_eq]
            constructor
            · intro h; apply UInt8.toNat_inj.1; show x[y.size].toNat = 47; omega
            · intro h; rw [h]; rfl
          rw [← hb1, ← hb2] at hv2
          rw [hv2] at hv
          have HV := Lib.hid hv
          clear h1 h2 he hv hv2 hex hb1 hb2
          cases h3 : ((x.extract 0 y.size).toList == y.toList) with
          | false =>
            rw [h3] at HV
            go_enter Try.func49, Try.ntmps49
            go_wp2_with fail
            refine (C1.out _).mono ?_
            rintro e w1 ⟨rfl, rfl⟩
            go_wp2_with fail
            refine (C2.out _).mono ?_
            rintro e w2 ⟨rfl, rfl⟩
            go_wp2
            go_ret
            exact ⟨by rw [HV.out]; rfl, rfl⟩
          | true =>
            rw [h3] at HV
            cases h4 : ((x[y.size].toNat : Int) == 47) with
            | false =>
              rw [h4] at HV
              go_enter Try.func49, Try.ntmps49
              go_wp2_with fail
              refine (C1.out _).mono ?_
              rintro e w1 ⟨rfl, rfl⟩
              go_wp2_with fail
              refine (C2.out _).mono ?_
              rintro e w2 ⟨rfl, rfl⟩
              go_wp2
              go_ret
              exact ⟨by rw [HV.out]; rfl, rfl⟩
            | true =>
              rw [h4] at HV
              go_enter Try.func49, Try.ntmps49
              go_wp2_with fail
              refine (C1.out _).mono ?_
              rintro e w1 ⟨rfl, rfl⟩
              go_wp2_with fail
              refine (C2.out _).mono ?_
              rintro e w2 ⟨rfl, rfl⟩
              go_wp2
              go_ret
              exact ⟨by rw [HV.out]; rfl, rfl⟩
        · have HV := Lib.hid (show underB x.data.toList y.data.toList = false by rw [hv, pre_short (by simpa using hlt)])
          clear h1 h2 he hv
          go_enter Try.func49, Try.ntmps49
          go_wp2_with fail
          refine (C1.out _).mono ?_
          rintro e w1 ⟨rfl, rfl⟩
          go_wp2_with fail
          refine (C2.out _).mono ?_
          rintro e w2 ⟨rfl, rfl⟩
          go_wp2
          go_ret
          exact ⟨by rw [HV.out]; rfl, rfl⟩

end Go.Proofs.Ythihjelcakenpaa
