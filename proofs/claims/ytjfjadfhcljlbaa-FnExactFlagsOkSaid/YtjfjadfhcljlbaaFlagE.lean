/-
  Chapter 5, the program: FlagsOk, Changed, OpText, ReadOp; the table of words, FlagsText, ReadFlags.
-/
import Derived.Test.YtjfjadfhcljlbaaFlagC
import Derived.Test.YtjfjadfhcljlbaaTabS
namespace Go.Proofs.Ytjfjadfhcljlbaa
open Go.RowKit

theorem implFlagsOk_at (n : Int) (w : World) :
    Calls Try.prog 8 #[.int .i64 n] w fun e w' => e = .returned (.bool (flB n)) ∧ w = w' := by
  have hg := Lib.hid (show flB n = (decide (0 ≤ n) && decide (n ≤ 31)) from rfl)
  go_enter Try.func8, Try.ntmps8
  cases h1 : decide (0 ≤ n) with
  | true =>
    have h1 : 0 ≤ n := of_decide_eq_true h1
    cases h2 : decide (n ≤ 31) with
    | true =>
      have h2 : n ≤ 31 := of_decide_eq_true h2
      go_wp2
      go_ret
      exact ⟨by rw [hg.out]; simp [h1, h2], rfl⟩
    | false =>
      have h2 : ¬ n ≤ 31 := of_decide_eq_false h2
      go_wp2
      go_ret
      exact ⟨by rw [hg.out]; simp; omega, rfl⟩
  | false =>
    have h1 : ¬ 0 ≤ n := of_decide_eq_false h1
    go_wp2
    go_ret
    exact ⟨by rw [hg.out]; simp; omega, rfl⟩

theorem implFlagsOk_any {G : World → Prop} : ImplFlagsOk G := fun n W _ _ => (implFlagsOk_at n W).mono fun _ _ h => ⟨h.1, h.2 ▸ Below.refl _ _⟩

theorem or_zero (n : Int) (h : flB n = true) : bits .or .i64 0 n = n := by
  obtain ⟨m, rfl, hm⟩ := flB_nat h
  have h : ∀ m : Fin 32, bits .or .i64 0 (m.val : Int) = (m.val : Int) := by decide +kernel
  exact h ⟨m, by omega⟩

set_option maxHeartbeats 1600000 in
theorem implChanged_at (op old new : Int) (w : World) :
    Calls Try.prog 10 #[.int .i64 op, .int .i64 old, .int .i64 new] w fun e w' => e = .returned (.int .i64 (chg op old new)) ∧ w = w' := by
  have c1 := fun W => implFlagsOk_at old W
  have c2 := fun W => implFlagsOk_at new W
  cases h1 : flB old with
  | false =>
    have HV := Lib.hid (show chg op old new = old by unfold chg; rw [if_neg (by rw [h1]; simp)])
    rw [h1] at c1
    have C1 := Lib.hid c1
    clear c1 c2
    go_enter Try.func10, Try.ntmps10
    go_wp2_with fail
    refine (C1.out _).mono ?_
    rintro e w1 ⟨rfl, rfl⟩
    go_wp2
    go_ret
    exact ⟨by rw [HV.out]; rfl, rfl⟩
  | true =>
    rw [h1] at c1
    have C1 := Lib.hid c1
    cases h2 : flB new with
    | false =>
      have HV := Lib.hid (show chg op old new = old by unfold chg; rw [if_neg (by rw [h2]; simp)])
      rw [h2] at c2
      have C2 := Lib.hid c2
      clear c1 c2
      go_enter Try.func10, Try.ntmps10
      go_wp2_with fail
      refine (C1.out _).mono ?_
      rintro e w1 ⟨rfl, rfl⟩
      go_wp2_with fail
      refine (C2.out _).mono ?_
      rintro e w1 ⟨rfl, rfl⟩
      go_wp2
      go_ret
      exact ⟨by rw [HV.out]; rfl, rfl⟩
    | true =>
      have hv : chg op old new = (if op = 1 then bits .or .i64 old new else if op = 2 then bits .andNot .i64 old new else if op = 3 then new else old) := by unfold chg; rw [if_pos ⟨h1, h2⟩]
      rw [h2] at c2
      have C2 := Lib.hid c2
      have HZ := Lib.hid (or_zero new h2)
      have hop : ((op == 3) = false ∧ (op == 1) = true) ∨ ((op == 3) = false ∧ (op == 1) = false ∧ (op == 2) = true) ∨ (op == 3) = true ∨ ((op == 3) = false ∧ (op == 1) = false ∧ (op == 2) = false) := by
        cases (op == 1) <;> cases (op == 2) <;> cases (op == 3) <;> simp
      have HV := Lib.hid hv
      clear c1 c2 hv
      rcases hop with ⟨g3, g1⟩ | ⟨g3, g1, g2⟩ | g3 | ⟨g3, g1, g2⟩
      · have HE := Lib.hid (show chg op old new = bits .or .i64 old new by rw [HV.out, if_pos (beq_iff_eq.1 g1)])
        go_enter Try.func10, Try.ntmps10
        go_wp2_with fail
        refine (C1.out _).mono ?_
        rintro e w1 ⟨rfl, rfl⟩
        go_wp2_with fail
        refine (C2.out _).mono ?_
        rintro e w1 ⟨rfl, rfl⟩
        go_wp2
        go_ret
        exact ⟨by rw [HE.out]; rfl, rfl⟩
      · have HE := Lib.hid (show chg op old new = bits .andNot .i64 old new by rw [HV.out, if_neg (beq_eq_false_iff_ne.1 g1), if_pos (beq_iff_eq.1 g2)])
        go_enter Try.func10, Try.ntmps10
        go_wp2_with fail
        refine (C1.out _).mono ?_
        rintro e w1 ⟨rfl, rfl⟩
        go_wp2_with fail
        refine (C2.out _).mono ?_
        rintro e w1 ⟨rfl, rfl⟩
        go_wp2
        go_ret
        exact ⟨by rw [HE.out]; rfl, rfl⟩
      · have he := beq_iff_eq.1 g3
        have HE := Lib.hid (show chg op old new = new by rw [HV.out, if_neg (by omega), if_neg (by omega), if_pos he])
        clear he
        go_enter Try.func10, Try.ntmps10
        go_wp2_with fail
        refine (C1.out _).mono ?_
        rintro e w1 ⟨rfl, rfl⟩
        go_wp2_with fail
        refine (C2.out _).mono ?_
        rintro e w1 ⟨rfl, rfl⟩
        go_wp2
        go_ret
        exact ⟨by rw [HE.out, HZ.out]; rfl, rfl⟩
      · have HE := Lib.hid (show chg op old new = old by rw [HV.out, if_neg (beq_eq_false_iff_ne.1 g1), if_neg (beq_eq_false_iff_ne.1 g2), if_neg (beq_eq_false_iff_ne.1 g3)])
        go_enter Try.func10, Try.ntmps10
        go_wp2_with fail
        refine (C1.out _).mono ?_
        rintro e w1 ⟨rfl, rfl⟩
        go_wp2_with fail
        refine (C2.out _).mono ?_
        rintro e w1 ⟨rfl, rfl⟩
        go_wp2
        go_ret
        exact ⟨by rw [HE.out]; rfl, rfl⟩

theorem implChanged_any {G : World → Prop} : ImplChanged G := fun op old new W _ _ _ _ => (implChanged_at op old new W).mono fun _ _ h => ⟨h.1, h.2 ▸ Below.refl _ _⟩

theorem implOpText_at (op : Int) (w : World) :
    Calls Try.prog 12 #[.int .i64 op] w fun e w' => e = .returned (sv (opT op)) ∧ w = w' := by
  have HV := Lib.hid (show opT op = if op = 1 then [43] else if op = 2 then [45] else if op = 3 then [61] else [] from rfl)
  generalize opT op = R at *
  go_enter Try.func12, Try.ntmps12
  cases g1 : (op == 1) with
  | true =>
    have hv : R = [43] := by rw [HV.out, if_pos (beq_iff_eq.1 g1)]
    subst hv
    go_wp2
    go_ret
    exact ⟨rfl, rfl⟩
  | false =>
    cases g2 : (op == 2) with
    | true =>
      have hv : R = [45] := by rw [HV.out, if_neg (beq_eq_false_iff_ne.1 g1), if_pos (beq_iff_eq.1 g2)]
      subst hv
      go_wp2
      go_ret
      exact ⟨rfl, rfl⟩
    | false =>
      cases g3 : (op == 3) with
      | true =>
        have hv : R = [61] := by rw [HV.out, if_neg (beq_eq_false_iff_ne.1 g1), if_neg (beq_eq_false_iff_ne.1 g2), if_pos (beq_iff_eq.1 g3)]
        subst hv
        go_wp2
        go_ret
        exact ⟨rfl, rfl⟩
      | false =>
        have hv : R = [] := by rw [HV.out, if_neg (beq_eq_false_iff_ne.1 g1), if_neg (beq_eq_false_iff_ne.1 g2), if_neg (beq_eq_false_iff_ne.1 g3)]
        subst hv
        go_wp2
        go_ret
        exact ⟨rfl, rfl⟩

theorem implOpText_any {G : World → Prop} : ImplOpText G := fun op W _ _ => (implOpText_at op W).mono fun _ _ h => ⟨h.1, h.2 ▸ Below.refl _ _⟩

set_option maxHeartbeats 1600000 in
theorem implReadOp_at (s : List UInt8) (w : World) :
    Calls Try.prog 14 #[sv s] w fun e w' => e = .returned (opV (rdOp s)) ∧ w = w' := by
  have C := Lib.hid (fun op W => implOpText_at op W)
  go_enter Try.func14, Try.ntmps14
  go_wp2
  go_loopw [4] (fun i wr => ∃ (k : Nat), 1 ≤ k ∧ k ≤ 4 ∧ i = .int .i64 k ∧ opTo s k ∧ wr = w) (fun i _ => 4 - (intOf i).toNat)
  case atStart => exact ⟨1, by omega, by omega, rfl, fun j h1 h2 => by omega, rfl⟩
  case round =>
    obtain ⟨k, h1k, hk, rfl, hto, rfl⟩ := hrel
    by_cases hlt : k ≤ 3
    · have c := fun W => C.out (k : Int) W
      generalize hop : opT (k : Int) = t at c
      have C1 := Lib.hid c
      clear C c
      cases he : (t == s) with
      | true =>
        have heq : t = s := beq_iff_eq.1 he
        have HV := Lib.hid (rdOp_hit h1k (by omega) (hop.trans heq))
        subst heq
        clear hto hop
        go_wp2_with fail
        refine (C1.out _).mono ?_
        rintro e w1 ⟨rfl, rfl⟩
        go_wp2
        go_ret2
        exact ⟨by rw [HV.out]; rfl, rfl⟩
      | false =>
        have hne : ¬ t = s := beq_eq_false_iff_ne.1 he
        have HN := Lib.hid (show opTo s (k + 1) from fun j h1 h2 => by
          by_cases hj : j < k
          · exact hto j h1 hj
          · obtain rfl : j = k := by omega
            rw [hop]; exact hne)
        clear hto hop
        go_wp2_with fail
        refine (C1.out _).mono ?_
        rintro e w1 ⟨rfl, rfl⟩
        go_wp2
        go_roundw
        case rel => exact ⟨k + 1, by omega, by omega, by go_num, HN.out, trivial⟩
        case measure => simp [intOf]; omega
    · obtain rfl : k = 4 := by omega
      have HV := Lib.hid (rdOp_no hto)
      clear hto
      go_wp2
      go_ret2
      exact ⟨by rw [HV.out]; rfl, rfl⟩

theorem implReadOp_any {G : World → Prop} : ImplReadOp G := fun s W _ _ => (implReadOp_at s W).mono fun _ _ h => ⟨h.1, h.2 ▸ Below.refl _ _⟩

/-! ### the table of words -/

theorem gFwOne : Try.prog.cellsOf 9 = 1 := by kernel_rfl

/-! ### FlagsText -/

theorem and_bits (m : Nat) (hm : m ≤ 31) : (bits .and .i64 (m : Int) 1 != 0) = m.testBit 0 ∧ (bits .and .i64 (m : Int) 2 != 0) = m.testBit 1 ∧ (bits .and .i64 (m : Int) 4 != 0) = m.testBit 2 ∧ (bits .and .i64 (m : Int) 8 != 0) = m.testBit 3 ∧ (bits .and .i64 (m : Int) 16 != 0) = m.testBit 4 := by
  have h : ∀ m : Fin 32, (bits .and .i64 (m.val : Int) 1 != 0) = m.val.testBit 0 ∧ (bits .and .i64 (m.val : Int) 2 != 0) = m.val.testBit 1 ∧ (bits .and .i64 (m.val : Int) 4 != 0) = m.val.testBit 2 ∧ (bits .and .i64 (m.val : Int) 8 != 0) = m.val.testBit 3 ∧ (bits .and .i64 (m.val : Int) 16 != 0) = m.val.testBit 4 := by decide +kernel
  exact h ⟨m, by omega⟩

/-! ### ReadFlags -/

theorem wBitTo_none {x : List UInt8} : ∀ k, (∀ j, j < k → ¬ upper x = upper (flAt j)) → wBitTo x k = 0
  | 0, _ => rfl
  | k + 1, h => by
    unfold wBitTo
    rw [if_neg (h k (by omega))]
    exact wBitTo_none k fun j hj => h j (by omega)
theorem flAt_apart : ∀ i : Fin 5, ∀ j : Fin 5, upper (flAt i.val) = upper (flAt j.val) → i = j := by decide +kernel
theorem wBit_first {x : List UInt8} {k : Nat} (hk : k < 5) (h : upper x = upper (flAt k)) : wBit x = 2 ^ k := by
  have hi : ∀ n, n ≤ 5 → k < n → wBitTo x n = 2 ^ k := by
    intro n
    induction n with
    | zero => intro _ h; omega
    | succ n ih =>
      intro hn hkn
      unfold wBitTo
      by_cases he : upper x = upper (flAt n)
      · have := flAt_apart ⟨k, hk⟩ ⟨n, by omega⟩ (h.symm.trans he)
        have : k = n := congrArg Fin.val this
        rw [if_pos he, this]
      · rw [if_neg he]
        exact ih (by omega) (by
          by_cases hkn' : k = n
          · subst hkn'; exact absurd h he
          · omega)
  exact hi 5 (by omega) hk

end Go.Proofs.Ytjfjadfhcljlbaa
