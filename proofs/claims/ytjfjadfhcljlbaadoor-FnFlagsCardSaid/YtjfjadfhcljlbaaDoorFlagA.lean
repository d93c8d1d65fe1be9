/-
  Chapter 5: flags; plain facts, and the model's FlagsOk, FlagsText.
-/
import Derived.Test.YtjfjadfhcljlbaaDoorWordA
import Derived.Test.YtjfjadfhcljlbaaDoorParts
import Derived.Test.YtjfjadfhcljlbaaDoorJoined
import Derived.Test.YtjfjadfhcljlbaaDoorNumA
namespace Go.Proofs.YtjfjadfhcljlbaaDoor
open Go.RowKit

def flB (n : Int) : Bool := decide (0 ≤ n) && decide (n ≤ 31)
def flW : List (List UInt8) := [[115, 101, 101, 110], [97, 110, 115, 119, 101, 114, 101, 100], [102, 108, 97, 103, 103, 101, 100], [100, 101, 108, 101, 116, 101, 100], [100, 114, 97, 102, 116]]
def flAt (i : Nat) : List UInt8 := flW.getD i []
/-- The words of the first k flags that are set. -/
def flTo (n k : Nat) : List (List UInt8) := ((List.range k).filter fun i => n.testBit i).map flAt
def flT (n : Int) : List UInt8 := if flB n = true then Lib.join (flTo n.toNat 5) [32] else []
theorem flTo_yes {n k : Nat} (h : n.testBit k = true) : flTo n (k + 1) = flTo n k ++ [flAt k] := by unfold flTo; rw [List.range_succ, List.filter_append, List.map_append]; simp [h]
theorem flTo_no {n k : Nat} (h : n.testBit k = false) : flTo n (k + 1) = flTo n k := by unfold flTo; rw [List.range_succ, List.filter_append, List.map_append]; simp [h]
theorem flTo_len (n k : Nat) : (flTo n k).length ≤ k := by unfold flTo; rw [List.length_map]; have := List.length_filter_le (fun i => n.testBit i) (List.range k); simpa using this
theorem flB_nat {n : Int} (h : flB n = true) : ∃ m : Nat, n = (m : Int) ∧ m ≤ 31 := by
  unfold flB at h
  simp only [Bool.and_eq_true, decide_eq_true_eq] at h
  exact ⟨n.toNat, by omega, by omega⟩

theorem specFlagsOk_any (n : Int) (w : World) :
    Calls Tryd.prog 22 #[.int .i64 n] w fun e w' => e = .returned (.bool (flB n)) ∧ w = w' := by
  have C1 := Lib.hid (fun W => l1In_any n 0 31 W)
  go_enter Tryd.func22, Tryd.ntmps22
  go_wp2_with fail
  refine (C1.out _).mono ?_
  rintro e w1 ⟨rfl, rfl⟩
  go_wp2
  go_ret
  exact ⟨rfl, rfl⟩

theorem l5Words_any (w : World) :
    Calls Tryd.prog 25 #[] w fun e w' => e = .returned (.slice (some ⟨w.heap.size, 0, none⟩) 5 5) ∧ w' = w.alloc (.cells #[sv (flAt 0), sv (flAt 1), sv (flAt 2), sv (flAt 3), sv (flAt 4)] 9) := by
  go_enter Tryd.func25, Tryd.ntmps25
  go_wp2
  go_ret
  exact ⟨rfl, rfl⟩

theorem flAt_cell {w w' : World} {e : TypeId} (hw : w' = w.alloc (.cells #[sv (flAt 0), sv (flAt 1), sv (flAt 2), sv (flAt 3), sv (flAt 4)] e)) (k : Nat) (h : k < 5) : w'.cell? ⟨w.heap.size, k, none⟩ = some (sv (flAt k)) := by
  subst hw
  have hk : k = 0 ∨ k = 1 ∨ k = 2 ∨ k = 3 ∨ k = 4 := by omega
  rcases hk with rfl | rfl | rfl | rfl | rfl <;> simp [go_sem]

theorem bit_eq (m k : Nat) (hm : m ≤ 31) (hk : k < 5) : (bits .and .i64 ((m : Int) / 2 ^ k) 1 == 1) = m.testBit k := by
  have h : ∀ m : Fin 32, ∀ k : Fin 5, (bits .and .i64 ((m.val : Int) / 2 ^ k.val) 1 == 1) = m.val.testBit k.val := by decide +kernel
  exact h ⟨m, by omega⟩ ⟨k, hk⟩
theorem flAt_len (k : Nat) : (flAt k).length ≤ 8 := by
  match k with
  | 0 => decide
  | 1 => decide
  | 2 => decide
  | 3 => decide
  | 4 => decide
  | k + 5 => simp [flAt, flW]
theorem flTo_szl (n k : Nat) : szl (flTo n k) ≤ 8 * k := by
  induction k with
  | zero => simp [flTo, szl]
  | succ k ih =>
    cases h : n.testBit k with
    | false => rw [flTo_no h]; omega
    | true => rw [flTo_yes h, szl_snoc]; have := flAt_len k; omega

set_option maxHeartbeats 1600000 in
theorem specFlagsText_any (n : Int) (w : World) :
    Calls Tryd.prog 14 #[.int .i64 n] w fun e w' => e = .returned (sv (flT n)) ∧ Below w.heap.size w w' := by
  have c1 := fun W => specFlagsOk_any n W
  have C2 := Lib.hid (fun W => l5Words_any W)
  have hoA : (w.alloc (.cells #[] 9)).ownsRow w.heap.size 9 1 (.slice (some ⟨w.heap.size, 0, none⟩) 0 0) 0 [] := World.ownsRow_made w #[] 0 (Nat.le_refl _) (by unfold maxLen; omega) (by simp)
  have HOA := Lib.hid hoA
  clear hoA
  cases hb : flB n with
  | false =>
    rw [hb] at c1
    have C1 := Lib.hid c1
    have HV := Lib.hid (show flT n = [] by unfold flT; rw [hb]; rfl)
    have CJ := Lib.hid (specJoined_any (.slice (some ⟨w.heap.size, 0, none⟩) 0 0) [] [32] (w.alloc (.cells #[] 9)) (Rd1.of_own (enc := sv) HOA.out) (by simp [szl]) (by simp))
    clear c1 hb C2
    go_enter Tryd.func14, Tryd.ntmps14
    go_wp2
    go_loopw [3, 4] (fun v i wr => v = .slice (some ⟨w.heap.size, 0, none⟩) 0 0 ∧ i = .int .i64 0 ∧ wr = w.alloc (.cells #[] 9)) (fun _ _ _ => 0)
    case atStart => exact ⟨rfl, rfl, rfl⟩
    case round =>
      obtain ⟨rfl, rfl, rfl⟩ := hrel
      go_wp2_with fail
      refine (C1.out _).mono ?_
      rintro e w1 ⟨rfl, rfl⟩
      go_wp2_with fail
      refine (CJ.out).mono ?_
      rintro e w2 ⟨rfl, b2⟩
      have hb2 := ((Below.refl w.heap.size w).alloc (Nat.le_refl _) (.cells #[] 9)).trans (b2.mono (by simp))
      go_wp2
      go_ret
      exact ⟨by rw [HV.out]; rfl, hb2⟩
  | true =>
    rw [hb] at c1
    have C1 := Lib.hid c1
    have hb0 := hb
    obtain ⟨m, rfl, hm⟩ := flB_nat hb
    have HV := Lib.hid (show flT (m : Int) = Lib.join (flTo m 5) [32] by unfold flT; rw [if_pos hb0, Int.toNat_natCast])
    clear c1 hb hb0
    go_enter Tryd.func14, Tryd.ntmps14
    go_wp2
    go_loopw [3, 4] (fun v i wr => ∃ (k c : Nat), k ≤ 5 ∧ c = (flTo m k).length ∧ c ≤ k ∧ i = .int .i64 k ∧ wr.ownsRow w.heap.size 9 1 v c ((flTo m k).map sv) ∧ Below w.heap.size w wr) (fun _ i _ => 5 - (intOf i).toNat)
    case atStart => exact ⟨0, 0, by omega, rfl, by omega, rfl, HOA.out, (Below.refl _ _).alloc (Nat.le_refl _) _⟩
    case round =>
      obtain ⟨k, c, hk, hc, hck, rfl, hown, hbr⟩ := hrel
      have hbr0 := hbr.size
      have HC := Lib.hid hc
      clear HOA hc
      by_cases hlt : k < 5
      · have hbe := bit_eq m k hm hlt
        cases hbt : m.testBit k with
        | true =>
          rw [hbt] at hbe
          have HT := Lib.hid (flTo_yes hbt)
          clear hbt
          go_wp2_with fail
          refine (C1.out _).mono ?_
          rintro e w1 ⟨rfl, rfl⟩
          go_wp2_with fail
          refine (C2.out _).mono ?_
          rintro e w2 ⟨rfl, hw2⟩
          have q := flAt_cell hw2 k hlt
          have b2 : Below wr.heap.size wr w2 := by rw [hw2]; exact (Below.refl _ _).alloc (Nat.le_refl _) _
          have o2 := ownsRow_below hown b2
          have hb2 := hbr.trans (b2.mono hbr0)
          have hz2 := hb2.size
          clear hown hbr b2 hw2 C2
          go_wp2_with (at_builtin; refine wpList_app1 Tryd.el_string rfl (.tmp 20) (.tmp 25) rfl w w2 u3 c _ rfl o2 hb2 hz2 #[sv (flAt k)] (.inr rfl) 1 1 rfl rfl (by simp [Value.oneCell']) (by omega) (by omega) (by omega) ?_)
          intro g cap w3 hown3 hb3 _ _ _
          clear o2 hb2 q
          go_wp2
          go_roundw
          case rel => exact ⟨k + 1, c + 1, by omega, by rw [HT.out, HC.out]; simp, by omega, by go_num, by rw [HT.out, List.map_append]; exact hown3, hb3⟩
          case measure => simp [intOf]; omega
        | false =>
          rw [hbt] at hbe
          have HT := Lib.hid (flTo_no hbt)
          clear hbt
          go_wp2_with fail
          refine (C1.out _).mono ?_
          rintro e w1 ⟨rfl, rfl⟩
          go_wp2
          go_roundw
          case rel => exact ⟨k + 1, c, by omega, by rw [HT.out, HC.out], by omega, by go_num, by rw [HT.out]; exact hown, hbr⟩
          case measure => simp [intOf]; omega
      · obtain rfl : k = 5 := by omega
        have CJ := Lib.hid (specJoined_any u3 (flTo m 5) [32] wr (Rd1.of_own (enc := sv) hown) (by have := flTo_szl m 5; have := flTo_len m 5; omega) (by simp))
        clear hown C1 C2
        go_wp2_with fail
        refine (CJ.out).mono ?_
        rintro e w2 ⟨rfl, b2⟩
        have hb2 := hbr.trans (b2.mono hbr0)
        go_wp2
        go_ret
        exact ⟨by rw [HV.out]; rfl, hb2⟩

end Go.Proofs.YtjfjadfhcljlbaaDoor
