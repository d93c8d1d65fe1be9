/-
  Chapter 5: the model's ReadFlags, Changed, OpText, ReadOp.
-/
import Derived.Test.YtjfjadfhcljlbaaFlagA
namespace Go.Proofs.Ytjfjadfhcljlbaa
open Go.RowKit

/-! ### Changed -/

def chg (op old new : Int) : Int :=
  if flB old = true ∧ flB new = true then (if op = 1 then bits .or .i64 old new else if op = 2 then bits .andNot .i64 old new else if op = 3 then new else old) else old

set_option maxHeartbeats 800000 in
theorem specChanged_any (op old new : Int) (w : World) :
    Calls Try.prog 9 #[.int .i64 op, .int .i64 old, .int .i64 new] w fun e w' => e = .returned (.int .i64 (chg op old new)) ∧ w = w' := by
  have c1 := fun W => specFlagsOk_any old W
  have c2 := fun W => specFlagsOk_any new W
  cases h1 : flB old with
  | false =>
    have HV := Lib.hid (show chg op old new = old by unfold chg; rw [if_neg (by rw [h1]; simp)])
    rw [h1] at c1
    have C1 := Lib.hid c1
    clear c1 c2
    go_enter Try.func9, Try.ntmps9
    go_wp2_with fail
    refine (C1.out _).mono ?_
    rintro e w1 ⟨rfl, rfl⟩
    go_wp2
    go_ret
    exact ⟨by rw [HV.out]; rfl, rfl⟩
  | true =>
    rw [h1] at c1
    have C1 := Lib.hid c1
    cases h2 : flB new with
    | false =>
      have HV := Lib.hid (show chg op old new = old by unfold chg; rw [if_neg (by rw [h2]; simp)])
      rw [h2] at c2
      have C2 := Lib.hid c2
      clear c1 c2
      go_enter Try.func9, Try.ntmps9
      go_wp2_with fail
      refine (C1.out _).mono ?_
      rintro e w1 ⟨rfl, rfl⟩
      go_wp2_with fail
      refine (C2.out _).mono ?_
      rintro e w1 ⟨rfl, rfl⟩
      go_wp2
      go_ret
      exact ⟨by rw [HV.out]; rfl, rfl⟩
    | true =>
      have hv : chg op old new = (if op = 1 then bits .or .i64 old new else if op = 2 then bits .andNot .i64 old new else if op = 3 then new else old) := by unfold chg; rw [if_pos ⟨h1, h2⟩]
      rw [h2] at c2
      have C2 := Lib.hid c2
      have hop : (op == 1) = true ∨ ((op == 1) = false ∧ (op == 2) = true) ∨ ((op == 1) = false ∧ (op == 2) = false ∧ (op == 3) = true) ∨ ((op == 1) = false ∧ (op == 2) = false ∧ (op == 3) = false) := by
        cases (op == 1) <;> cases (op == 2) <;> cases (op == 3) <;> simp
      have HV := Lib.hid hv
      clear c1 c2 hv
      rcases hop with g1 | ⟨g1, g2⟩ | ⟨g1, g2, g3⟩ | ⟨g1, g2, g3⟩
      · have HE := Lib.hid (show chg op old new = bits .or .i64 old new by rw [HV.out, if_pos (beq_iff_eq.1 g1)])
        go_enter Try.func9, Try.ntmps9
        go_wp2_with fail
        refine (C1.out _).mono ?_
        rintro e w1 ⟨rfl, rfl⟩
        go_wp2_with fail
        refine (C2.out _).mono ?_
        rintro e w1 ⟨rfl, rfl⟩
        go_wp2
        go_ret
        exact ⟨by rw [HE.out]; rfl, rfl⟩
      · have HE := Lib.hid (show chg op old new = bits .andNot .i64 old new by rw [HV.out, if_neg (beq_eq_false_iff_ne.1 g1), if_pos (beq_iff_eq.1 g2)])
        go_enter Try.func9, Try.ntmps9
        go_wp2_with fail
        refine (C1.out _).mono ?_
        rintro e w1 ⟨rfl, rfl⟩
        go_wp2_with fail
        refine (C2.out _).mono ?_
        rintro e w1 ⟨rfl, rfl⟩
        go_wp2
        go_ret
        exact ⟨by rw [HE.out]; rfl, rfl⟩
      · have HE := Lib.hid (show chg op old new = new by rw [HV.out, if_neg (beq_eq_false_iff_ne.1 g1), if_neg (beq_eq_false_iff_ne.1 g2), if_pos (beq_iff_eq.1 g3)])
        go_enter Try.func9, Try.ntmps9
        go_wp2_with fail
        refine (C1.out _).mono ?_
        rintro e w1 ⟨rfl, rfl⟩
        go_wp2_with fail
        refine (C2.out _).mono ?_
        rintro e w1 ⟨rfl, rfl⟩
        go_wp2
        go_ret
        exact ⟨by rw [HE.out]; rfl, rfl⟩
      · have HE := Lib.hid (show chg op old new = old by rw [HV.out, if_neg (beq_eq_false_iff_ne.1 g1), if_neg (beq_eq_false_iff_ne.1 g2), if_neg (beq_eq_false_iff_ne.1 g3)])
        go_enter Try.func9, Try.ntmps9
        go_wp2_with fail
        refine (C1.out _).mono ?_
        rintro e w1 ⟨rfl, rfl⟩
        go_wp2_with fail
        refine (C2.out _).mono ?_
        rintro e w1 ⟨rfl, rfl⟩
        go_wp2
        go_ret
        exact ⟨by rw [HE.out]; rfl, rfl⟩

/-! ### OpText, ReadOp -/

def opT (op : Int) : List UInt8 := if op = 1 then [43] else if op = 2 then [45] else if op = 3 then [61] else []
def rdOp (s : List UInt8) : Option Int := if s = [43] then some 1 else if s = [45] then some 2 else if s = [61] then some 3 else none
def opV (o : Option Int) : Value := match o with | some n => .tuple #[.int .i64 n, .bool true] | none => .tuple #[.int .i64 0, .bool false]

theorem specOpText_any (op : Int) (w : World) :
    Calls Try.prog 11 #[.int .i64 op] w fun e w' => e = .returned (sv (opT op)) ∧ Below w.heap.size w w' := by
  have c1 := fun W => l1In_any op 1 3 W
  by_cases h : 1 ≤ op ∧ op ≤ 3
  · rw [show (decide (1 ≤ op) && decide (op ≤ 3)) = true by simp [h]] at c1
    have C1 := Lib.hid c1
    have hop : op = 1 ∨ op = 2 ∨ op = 3 := by omega
    clear c1 h
    rcases hop with rfl | rfl | rfl
    all_goals
      go_enter Try.func11, Try.ntmps11
      go_wp2_with fail
      refine (C1.out _).mono ?_
      rintro e w1 ⟨rfl, rfl⟩
      go_wp2
      go_ret
      exact ⟨rfl, (Below.refl _ _).alloc (Nat.le_refl _) _⟩
  · rw [show (decide (1 ≤ op) && decide (op ≤ 3)) = false by rw [← Bool.decide_and]; exact decide_eq_false h] at c1
    have C1 := Lib.hid c1
    have HV := Lib.hid (show opT op = [] by unfold opT; rw [if_neg (by omega), if_neg (by omega), if_neg (by omega)])
    clear c1 h
    go_enter Try.func11, Try.ntmps11
    go_wp2_with fail
    refine (C1.out _).mono ?_
    rintro e w1 ⟨rfl, rfl⟩
    go_wp2
    go_ret
    exact ⟨by rw [HV.out]; rfl, Below.refl _ _⟩

def opTo (s : List UInt8) (k : Nat) : Prop := ∀ j : Nat, 1 ≤ j → j < k → ¬ opT (j : Int) = s
theorem rdOp_hit {s : List UInt8} {k : Nat} (h1 : 1 ≤ k) (h3 : k ≤ 3) (h : opT (k : Int) = s) : rdOp s = some (k : Int) := by
  have hk : k = 1 ∨ k = 2 ∨ k = 3 := by omega
  rcases hk with rfl | rfl | rfl <;> (subst h; decide)
theorem rdOp_no {s : List UInt8} (h : opTo s 4) : rdOp s = none := by
  have h1 := h 1 (by omega) (by omega)
  have h2 := h 2 (by omega) (by omega)
  have h3 := h 3 (by omega) (by omega)
  unfold rdOp
  rw [if_neg (fun e => h1 (by rw [e]; rfl)), if_neg (fun e => h2 (by rw [e]; rfl)), if_neg (fun e => h3 (by rw [e]; rfl))]

set_option maxHeartbeats 800000 in
theorem specReadOp_any (s : List UInt8) (w : World) :
    Calls Try.prog 13 #[sv s] w fun e w' => e = .returned (opV (rdOp s)) ∧ Below w.heap.size w w' := by
  go_enter Try.func13, Try.ntmps13
  go_wp2
  go_loopw [4] (fun i wr => ∃ k : Nat, 1 ≤ k ∧ k ≤ 4 ∧ i = .int .i64 k ∧ opTo s k ∧ Below w.heap.size w wr) (fun i _ => 4 - (intOf i).toNat)
  case atStart => exact ⟨1, by omega, by omega, rfl, fun j h1 h2 => by omega, Below.refl _ _⟩
  case round =>
    obtain ⟨k, hk1, hk, rfl, hto, hbr⟩ := hrel
    by_cases hlt : k ≤ 3
    · have hlti : (k : Int) ≤ 3 := by omega
      cases hs : (opT (k : Int) == s) with
      | true =>
        have HV := Lib.hid (rdOp_hit hk1 hlt (beq_iff_eq.1 hs))
        have d := fun W => specOpText_any (k : Int) W
        rw [beq_iff_eq.1 hs] at d
        have D := Lib.hid d
        clear hto hs d
        go_wp2_with fail
        refine (D.out _).mono ?_
        rintro e w1 ⟨rfl, b1⟩
        have hb1 := hbr.trans (b1.mono hbr.size)
        go_wp2
        go_ret2
        exact ⟨by rw [HV.out]; rfl, hb1⟩
      | false =>
        have HN := Lib.hid (show opTo s (k + 1) from fun j h1 h2 => by
          by_cases h : j < k
          · exact hto j h1 h
          · obtain rfl : j = k := by omega
            exact beq_eq_false_iff_ne.1 hs)
        have d := fun W => specOpText_any (k : Int) W
        generalize opT (k : Int) = q at *
        have D := Lib.hid d
        clear hto d
        go_wp2_with fail
        refine (D.out _).mono ?_
        rintro e w1 ⟨rfl, b1⟩
        have hb1 := hbr.trans (b1.mono hbr.size)
        go_wp2
        go_roundw
        case rel => exact ⟨k + 1, by omega, by omega, by go_num, HN.out, hb1⟩
        case measure => simp [intOf]; omega
    · obtain rfl : k = 4 := by omega
      have HV := Lib.hid (rdOp_no hto)
      clear hto
      go_wp2
      go_ret2
      exact ⟨by rw [HV.out]; rfl, hbr⟩

/-! ### ReadFlags -/

/-- The bit of a word, looked up among the first k. -/
def wBitTo (w : List UInt8) : Nat → Nat
  | 0 => 0
  | k + 1 => if upper w = upper (flAt k) then 2 ^ k else wBitTo w k
def wBit (w : List UInt8) : Nat := wBitTo w 5
def rdF : Nat → List (List UInt8) → Option Nat
  | acc, [] => some acc
  | acc, w :: r => if wBit w = 0 ∨ acc &&& wBit w ≠ 0 then none else rdF (acc ||| wBit w) r
def rdV (o : Option Nat) : Value := match o with | some n => .tuple #[.int .i64 (n : Int), .bool true] | none => .tuple #[.int .i64 0, .bool false]
theorem wBitTo_le (w : List UInt8) : ∀ k, k ≤ 5 → wBitTo w k ≤ 16
  | 0, _ => by simp [wBitTo]
  | k + 1, h => by
    unfold wBitTo
    split
    · have : k = 0 ∨ k = 1 ∨ k = 2 ∨ k = 3 ∨ k = 4 := by omega
      rcases this with rfl | rfl | rfl | rfl | rfl <;> decide
    · exact wBitTo_le w k (by omega)
theorem and_nat (a b : Nat) (ha : a ≤ 31) (hb : b ≤ 16) : bits .and .i64 (a : Int) (b : Int) = ((a &&& b : Nat) : Int) := by
  have h : ∀ a : Fin 32, ∀ b : Fin 17, bits .and .i64 (a.val : Int) (b.val : Int) = ((a.val &&& b.val : Nat) : Int) := by decide +kernel
  exact h ⟨a, by omega⟩ ⟨b, by omega⟩
theorem or_nat (a b : Nat) (ha : a ≤ 31) (hb : b ≤ 16) : bits .or .i64 (a : Int) (b : Int) = ((a ||| b : Nat) : Int) ∧ a ||| b ≤ 31 := by
  have h : ∀ a : Fin 32, ∀ b : Fin 17, bits .or .i64 (a.val : Int) (b.val : Int) = ((a.val ||| b.val : Nat) : Int) ∧ a.val ||| b.val ≤ 31 := by decide +kernel
  exact h ⟨a, by omega⟩ ⟨b, by omega⟩
theorem rdF_cons {acc : Nat} {l : List (List UInt8)} {k : Nat} {x : List UInt8} (h : l[k]? = some x) : rdF acc (l.drop k) = if wBit x = 0 ∨ acc &&& wBit x ≠ 0 then none else rdF (acc ||| wBit x) (l.drop (k + 1)) := by
  obtain ⟨h1, h2⟩ := List.getElem?_eq_some_iff.1 h
  rw [List.drop_eq_getElem_cons h1, h2]
  rfl

end Go.Proofs.Ytjfjadfhcljlbaa
