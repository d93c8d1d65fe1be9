/-
  Chapter 5, the program: FlagsOk, Changed, OpText, ReadOp; the table of words, FlagsText, ReadFlags.
-/
import Derived.Test.YtidjebepgpbcnaaFlagC
import Derived.Test.YtidjebepgpbcnaaTabS
namespace Go.Proofs.Ytidjebepgpbcnaa
open Go.RowKit

theorem implFlagsOk_at (n : Int) (w : World) :
    Calls Try.prog 44 #[.int .i64 n] w fun e w' => e = .returned (.bool (flB n)) ∧ w = w' := by
  have hg := Lib.hid (show flB n = (decide (0 ≤ n) && decide (n ≤ 31)) from rfl)
  go_enter Try.func44, Try.ntmps44
  cases h1 : decide (0 ≤ n) with
  | true =>
    have h1 : 0 ≤ n := of_decide_eq_true h1
    cases h2 : decide (n ≤ 31) with
    | true =>
      have h2 : n ≤ 31 := of_decide_eq_true h2
      go_wp2
      go_ret
      exact ⟨by rw [hg.out]; simp [h1, h2], rfl⟩
    | false =>
      have h2 : ¬ n ≤ 31 := of_decide_eq_false h2
      go_wp2
      go_ret
      exact ⟨by rw [hg.out]; simp; omega, rfl⟩
  | false =>
    have h1 : ¬ 0 ≤ n := of_decide_eq_false h1
    go_wp2
    go_ret
    exact ⟨by rw [hg.out]; simp; omega, rfl⟩

theorem implFlagsOk_any {G : World → Prop} : ImplFlagsOk G := fun n W _ _ => (implFlagsOk_at n W).mono fun _ _ h => ⟨h.1, h.2 ▸ Below.refl _ _⟩

theorem or_zero (n : Int) (h : flB n = true) : bits .or .i64 0 n = n := by
  obtain ⟨m, rfl, hm⟩ := flB_nat h
  have h : ∀ m : Fin 32, bits .or .i64 0 (m.val : Int) = (m.val : Int) := by decide +kernel
  exact h ⟨m, by omega⟩

theorem implOpText_at (op : Int) (w : World) :
    Calls Try.prog 46 #[.int .i64 op] w fun e w' => e = .returned (sv (opT op)) ∧ w = w' := by
  have HV := Lib.hid (show opT op = if op = 1 then [43] else if op = 2 then [45] else if op = 3 then [61] else [] from rfl)
  generalize opT op = R at *
  go_enter Try.func46, Try.ntmps46
  cases g1 : (op == 1) with
  | true =>
    have hv : R = [43] := by rw [HV.out, if_pos (beq_iff_eq.1 g1)]
    subst hv
    go_wp2
    go_ret
    exact ⟨rfl, rfl⟩
  | false =>
    cases g2 : (op == 2) with
    | true =>
      have hv : R = [45] := by rw [HV.out, if_neg (beq_eq_false_iff_ne.1 g1), if_pos (beq_iff_eq.1 g2)]
      subst hv
      go_wp2
      go_ret
      exact ⟨rfl, rfl⟩
    | false =>
      cases g3 : (op == 3) with
      | true =>
        have hv : R = [61] := by rw [HV.out, if_neg (beq_eq_false_iff_ne.1 g1), if_neg (beq_eq_false_iff_ne.1 g2), if_pos (beq_iff_eq.1 g3)]
        subst hv
        go_wp2
        go_ret
        exact ⟨rfl, rfl⟩
      | false =>
        have hv : R = [] := by rw [HV.out, if_neg (beq_eq_false_iff_ne.1 g1), if_neg (beq_eq_false_iff_ne.1 g2), if_neg (beq_eq_false_iff_ne.1 g3)]
        subst hv
        go_wp2
        go_ret
        exact ⟨rfl, rfl⟩

theorem implOpText_any {G : World → Prop} : ImplOpText G := fun op W _ _ => (implOpText_at op W).mono fun _ _ h => ⟨h.1, h.2 ▸ Below.refl _ _⟩

/-! ### the table of words -/

theorem gFwOne : Try.prog.cellsOf 9 = 1 := by kernel_rfl

/-! ### FlagsText -/

theorem and_bits (m : Nat) (hm : m ≤ 31) : (bits .and .i64 (m : Int) 1 != 0) = m.testBit 0 ∧ (bits .and .i64 (m : Int) 2 != 0) = m.testBit 1 ∧ (bits .and .i64 (m : Int) 4 != 0) = m.testBit 2 ∧ (bits .and .i64 (m : Int) 8 != 0) = m.testBit 3 ∧ (bits .and .i64 (m : Int) 16 != 0) = m.testBit 4 := by
  have h : ∀ m : Fin 32, (bits .and .i64 (m.val : Int) 1 != 0) = m.val.testBit 0 ∧ (bits .and .i64 (m.val : Int) 2 != 0) = m.val.testBit 1 ∧ (bits .and .i64 (m.val : Int) 4 != 0) = m.val.testBit 2 ∧ (bits .and .i64 (m.val : Int) 8 != 0) = m.val.testBit 3 ∧ (bits .and .i64 (m.val : Int) 16 != 0) = m.val.testBit 4 := by decide +kernel
  exact h ⟨m, by omega⟩

/-! ### ReadFlags -/

theorem wBitTo_none {x : List UInt8} : ∀ k, (∀ j, j < k → ¬ upper x = upper (flAt j)) → wBitTo x k = 0
  | 0, _ => rfl
  | k + 1, h => by
    unfold wBitTo
    rw [if_neg (h k (by omega))]
    exact wBitTo_none k fun j hj => h j (by omega)
theorem flAt_apart : ∀ i : Fin 5, ∀ j : Fin 5, upper (flAt i.val) = upper (flAt j.val) → i = j := by decide +kernel
theorem wBit_first {x : List UInt8} {k : Nat} (hk : k < 5) (h : upper x = upper (flAt k)) : wBit x = 2 ^ k := by
  have hi : ∀ n, n ≤ 5 → k < n → wBitTo x n = 2 ^ k := by
    intro n
    induction n with
    | zero => intro _ h; omega
    | succ n ih =>
      intro hn hkn
      unfold wBitTo
      by_cases he : upper x = upper (flAt n)
      · have := flAt_apart ⟨k, hk⟩ ⟨n, by omega⟩ (h.symm.trans he)
        have : k = n := congrArg Fin.val this
        rw [if_pos he, this]
      · rw [if_neg he]
        exact ih (by omega) (by
          by_cases hkn' : k = n
          · subst hkn'; exact absurd h he
          · omega)
  exact hi 5 (by omega) hk

end Go.Proofs.Ytidjebepgpbcnaa
