/-
  Ud: FlagA FilF FilG FilH FilI (what the claim needs of them).
-/
import Derived.Test.YtidjebepgpbcnaaGreatDoorRows
import Derived.WalkKit
import Derived.WalkSpells
import Derived.WalkLawsBesides
import Derived.Laws.IdiomStrings
import Derived.Lib.Hide
import Derived.Deep.AppendLies
import Derived.OrdersHeld
import Derived.Lib.ItoaNum
import Derived.Lib.ItoaMem
import Derived.Lib.AppendStr
import Derived.Lib.ItoaLen
import Derived.Lib.Strings
import Derived.Lib.Bytealg
import Derived.Lib.OthersKept
import Derived.Laws.RangeAny
import Derived.Lib.Join
import Derived.Deep.Strs
import Derived.Test.YtidjebepgpbcnaaGreatDoorProg
import Derived.Handy
import Derived.IntWalk
import Derived.Test.YtidjebepgpbcnaaGreatDoorUb
import Derived.Test.YtidjebepgpbcnaaGreatDoorUc

namespace Go.Proofs.YtidjebepgpbcnaaGreatDoor
open Go.RowKit

def flB (n : Int) : Bool := decide (0 ≤ n) && decide (n ≤ 31)
def flW : List (List UInt8) := [[115, 101, 101, 110], [97, 110, 115, 119, 101, 114, 101, 100], [102, 108, 97, 103, 103, 101, 100], [100, 101, 108, 101, 116, 101, 100], [100, 114, 97, 102, 116]]
def flAt (i : Nat) : List UInt8 := flW.getD i []
/-- The words of the first k flags that are set. -/
def flTo (n k : Nat) : List (List UInt8) := ((List.range k).filter fun i => n.testBit i).map flAt
def flT (n : Int) : List UInt8 := if flB n = true then Lib.join (flTo n.toNat 5) [32] else []
theorem flTo_yes {n k : Nat} (h : n.testBit k = true) : flTo n (k + 1) = flTo n k ++ [flAt k] := by unfold flTo; rw [List.range_succ, List.filter_append, List.map_append]; simp [h]
theorem flTo_no {n k : Nat} (h : n.testBit k = false) : flTo n (k + 1) = flTo n k := by unfold flTo; rw [List.range_succ, List.filter_append, List.map_append]; simp [h]
theorem flTo_len (n k : Nat) : (flTo n k).length ≤ k := by unfold flTo; rw [List.length_map]; have := List.length_filter_le (fun i => n.testBit i) (List.range k); simpa using this
theorem flB_nat {n : Int} (h : flB n = true) : ∃ m : Nat, n = (m : Int) ∧ m ≤ 31 := by
  unfold flB at h
  simp only [Bool.and_eq_true, decide_eq_true_eq] at h
  exact ⟨n.toNat, by omega, by omega⟩

theorem specFlagsOk_any (n : Int) (w : World) :
    Calls Tryz.prog 51 #[.int .i64 n] w fun e w' => e = .returned (.bool (flB n)) ∧ w = w' := by
  have C1 := Lib.hid (fun W => l1In_any n 0 31 W)
  go_enter Tryz.func51, Tryz.ntmps51
  go_wp2_with fail
  refine (C1.out _).mono ?_
  rintro e w1 ⟨rfl, rfl⟩
  go_wp2
  go_ret
  exact ⟨rfl, rfl⟩

theorem l5Words_any (w : World) :
    Calls Tryz.prog 55 #[] w fun e w' => e = .returned (.slice (some ⟨w.heap.size, 0, none⟩) 5 5) ∧ w' = w.alloc (.cells #[sv (flAt 0), sv (flAt 1), sv (flAt 2), sv (flAt 3), sv (flAt 4)] 9) := by
  go_enter Tryz.func55, Tryz.ntmps55
  go_wp2
  go_ret
  exact ⟨rfl, rfl⟩

theorem flAt_cell {w w' : World} {e : TypeId} (hw : w' = w.alloc (.cells #[sv (flAt 0), sv (flAt 1), sv (flAt 2), sv (flAt 3), sv (flAt 4)] e)) (k : Nat) (h : k < 5) : w'.cell? ⟨w.heap.size, k, none⟩ = some (sv (flAt k)) := by
  subst hw
  have hk : k = 0 ∨ k = 1 ∨ k = 2 ∨ k = 3 ∨ k = 4 := by omega
  rcases hk with rfl | rfl | rfl | rfl | rfl <;> simp [go_sem]

theorem bit_eq (m k : Nat) (hm : m ≤ 31) (hk : k < 5) : (bits .and .i64 ((m : Int) / 2 ^ k) 1 == 1) = m.testBit k := by
  have h : ∀ m : Fin 32, ∀ k : Fin 5, (bits .and .i64 ((m.val : Int) / 2 ^ k.val) 1 == 1) = m.val.testBit k.val := by decide +kernel
  exact h ⟨m, by omega⟩ ⟨k, hk⟩
theorem flAt_len (k : Nat) : (flAt k).length ≤ 8 := by
  match k with
  | 0 => decide
  | 1 => decide
  | 2 => decide
  | 3 => decide
  | 4 => decide
  | k + 5 => simp [flAt, flW]
theorem flTo_szl (n k : Nat) : szl (flTo n k) ≤ 8 * k := by
  induction k with
  | zero => simp [flTo, szl]
  | succ k ih =>
    cases h : n.testBit k with
    | false => rw [flTo_no h]; omega
    | true => rw [flTo_yes h, szl_snoc]; have := flAt_len k; omega

set_option maxHeartbeats 1600000 in
theorem specFlagsText_any (n : Int) (w : World) :
    Calls Tryz.prog 25 #[.int .i64 n] w fun e w' => e = .returned (sv (flT n)) ∧ Below w.heap.size w w' := by
  have c1 := fun W => specFlagsOk_any n W
  have C2 := Lib.hid (fun W => l5Words_any W)
  have hoA : (w.alloc (.cells #[] 9)).ownsRow w.heap.size 9 1 (.slice (some ⟨w.heap.size, 0, none⟩) 0 0) 0 [] := World.ownsRow_made w #[] 0 (Nat.le_refl _) (by unfold maxLen; omega) (by simp)
  have HOA := Lib.hid hoA
  clear hoA
  cases hb : flB n with
  | false =>
    rw [hb] at c1
    have C1 := Lib.hid c1
    have HV := Lib.hid (show flT n = [] by unfold flT; rw [hb]; rfl)
    have CJ := Lib.hid (specJoined_any (.slice (some ⟨w.heap.size, 0, none⟩) 0 0) [] [32] (w.alloc (.cells #[] 9)) (Rd1.of_own (enc := sv) HOA.out) (by simp [szl]) (by simp))
    clear c1 hb C2
    go_enter Tryz.func25, Tryz.ntmps25
    go_wp2
    go_loopw [3, 4] (fun v i wr => v = .slice (some ⟨w.heap.size, 0, none⟩) 0 0 ∧ i = .int .i64 0 ∧ wr = w.alloc (.cells #[] 9)) (fun _ _ _ => 0)
    case atStart => exact ⟨rfl, rfl, rfl⟩
    case round =>
      obtain ⟨rfl, rfl, rfl⟩ := hrel
      go_wp2_with fail
      refine (C1.out _).mono ?_
      rintro e w1 ⟨rfl, rfl⟩
      go_wp2_with fail
      refine (CJ.out).mono ?_
      rintro e w2 ⟨rfl, b2⟩
      have hb2 := ((Below.refl w.heap.size w).alloc (Nat.le_refl _) (.cells #[] 9)).trans (b2.mono (by simp))
      go_wp2
      go_ret
      exact ⟨by rw [HV.out]; rfl, hb2⟩
  | true =>
    rw [hb] at c1
    have C1 := Lib.hid c1
    have hb0 := hb
    obtain ⟨m, rfl, hm⟩ := flB_nat hb
    have HV := Lib.hid (show flT (m : Int) = Lib.join (flTo m 5) [32] by unfold flT; rw [if_pos hb0, Int.toNat_natCast])
    clear c1 hb hb0
    go_enter Tryz.func25, Tryz.ntmps25
    go_wp2
    go_loopw [3, 4] (fun v i wr => ∃ (k c : Nat), k ≤ 5 ∧ c = (flTo m k).length ∧ c ≤ k ∧ i = .int .i64 k ∧ wr.ownsRow w.heap.size 9 1 v c ((flTo m k).map sv) ∧ Below w.heap.size w wr) (fun _ i _ => 5 - (intOf i).toNat)
    case atStart => exact ⟨0, 0, by omega, rfl, by omega, rfl, HOA.out, (Below.refl _ _).alloc (Nat.le_refl _) _⟩
    case round =>
      obtain ⟨k, c, hk, hc, hck, rfl, hown, hbr⟩ := hrel
      have hbr0 := hbr.size
      have HC := Lib.hid hc
      clear HOA hc
      by_cases hlt : k < 5
      · have hbe := bit_eq m k hm hlt
        cases hbt : m.testBit k with
        | true =>
          rw [hbt] at hbe
          have HT := Lib.hid (flTo_yes hbt)
          clear hbt
          go_wp2_with fail
          refine (C1.out _).mono ?_
          rintro e w1 ⟨rfl, rfl⟩
          go_wp2_with fail
          refine (C2.out _).mono ?_
          rintro e w2 ⟨rfl, hw2⟩
          have q := flAt_cell hw2 k hlt
          have b2 : Below wr.heap.size wr w2 := by rw [hw2]; exact (Below.refl _ _).alloc (Nat.le_refl _) _
          have o2 := ownsRow_below hown b2
          have hb2 := hbr.trans (b2.mono hbr0)
          have hz2 := hb2.size
          clear hown hbr b2 hw2 C2
          go_wp2_with (at_builtin; refine wpList_app1 Tryz.el_string rfl (.tmp 20) (.tmp 25) rfl w w2 u3 c _ rfl o2 hb2 hz2 #[sv (flAt k)] (.inr rfl) 1 1 rfl rfl (by simp [Value.oneCell']) (by omega) (by omega) (by omega) ?_)
          intro g cap w3 hown3 hb3 _ _ _
          clear o2 hb2 q
          go_wp2
          go_roundw
          case rel => exact ⟨k + 1, c + 1, by omega, by rw [HT.out, HC.out]; simp, by omega, by go_num, by rw [HT.out, List.map_append]; exact hown3, hb3⟩
          case measure => simp [intOf]; omega
        | false =>
          rw [hbt] at hbe
          have HT := Lib.hid (flTo_no hbt)
          clear hbt
          go_wp2_with fail
          refine (C1.out _).mono ?_
          rintro e w1 ⟨rfl, rfl⟩
          go_wp2
          go_roundw
          case rel => exact ⟨k + 1, c, by omega, by rw [HT.out, HC.out], by omega, by go_num, by rw [HT.out]; exact hown, hbr⟩
          case measure => simp [intOf]; omega
      · obtain rfl : k = 5 := by omega
        have CJ := Lib.hid (specJoined_any u3 (flTo m 5) [32] wr (Rd1.of_own (enc := sv) hown) (by have := flTo_szl m 5; have := flTo_len m 5; omega) (by simp))
        clear hown C1 C2
        go_wp2_with fail
        refine (CJ.out).mono ?_
        rintro e w2 ⟨rfl, b2⟩
        have hb2 := hbr.trans (b2.mono hbr0)
        go_wp2
        go_ret
        exact ⟨by rw [HV.out]; rfl, hb2⟩

end Go.Proofs.YtidjebepgpbcnaaGreatDoor

namespace Go.Proofs.YtidjebepgpbcnaaGreatDoor
open Go.RowKit

def stepB (l : List (List UInt8)) (i : Nat) : Bool := nameB (l.getD i []) && (i == 0 || Op.bytesLess (l.getD (i - 1) []) (l.getD i []))
def namesB (l : List (List UInt8)) : Bool := (List.range l.length).all (stepB l)
def scopeB (s : Scp) : Bool := (decide (1 ≤ s.kind) && decide (s.kind ≤ 4)) && (decide (1 ≤ s.events) && decide (s.events ≤ 15)) &&
  if s.kind < 3 then decide (s.names.length = 0) else namesB s.names && (decide ((1 : Int) ≤ (s.names.length : Int)) && decide ((s.names.length : Int) ≤ 3))
def filterB (f : Flt) : Bool := f.scopes.all scopeB && if f.on then (decide ((1 : Int) ≤ (f.scopes.length : Int)) && decide ((f.scopes.length : Int) ≤ 3)) else decide (f.scopes.length = 0)
theorem namesB_not {l : List (List UInt8)} {k : Nat} (hk : k < l.length) (h : stepB l k = false) : namesB l = false := all_not_at (k := k) (x := k) (by simp [hk]) h
theorem getD_of {l : List (List UInt8)} {k : Nat} {x : List UInt8} (h : l[k]? = some x) : l.getD k [] = x := by rw [List.getD_eq_getElem?_getD, h]; rfl
theorem step_zero {l : List (List UInt8)} {x : List UInt8} (h : l[0]? = some x) : stepB l 0 = nameB x := by unfold stepB; rw [getD_of h]; simp
theorem step_succ {l : List (List UInt8)} {j : Nat} {y x : List UInt8} (hy : l[j]? = some y) (h : l[j + 1]? = some x) : stepB l (j + 1) = (nameB x && Op.bytesLess y x) := by
  unfold stepB
  rw [getD_of h, Nat.add_sub_cancel, getD_of hy]
  rfl
theorem range_all_succ {l : List (List UInt8)} {k : Nat} (h : (List.range k).all (stepB l) = true) (hs : stepB l k = true) : (List.range (k + 1)).all (stepB l) = true := by
  rw [List.range_succ, List.all_append, h]
  simp [hs]

set_option maxHeartbeats 6400000 in
theorem specScopeOk_any (s : Scp) (vn : Value) (w : World) (hr : Rd1 sv w vn s.names) (hl : s.names.length ≤ 140737488355328) (hx : ∀ x ∈ s.names, x.length ≤ 140737488355328) :
    Calls Tryz.prog 83 #[.agg #[.int .i64 s.kind, vn, .int .i64 s.events]] w fun e w' => e = .returned (.bool (scopeB s)) ∧ Below w.heap.size w w' := by
  obtain ⟨kd, names, ev⟩ := s
  simp only at *
  obtain ⟨p, c, rfl, hp⟩ := hr.ex
  have HX := Lib.hid hx
  have hb1 : Below w.heap.size w (w.alloc (.cells #[.int .i64 kd, .slice p names.length c, .int .i64 ev] 78)) := (Below.refl _ _).alloc (Nat.le_refl _) _
  have hA : (w.alloc (.cells #[.int .i64 kd, .slice p names.length c, .int .i64 ev] 78)).heap[w.heap.size]? = some (.cells #[.int .i64 kd, .slice p names.length c, .int .i64 ev] 78 (0, 0)) := heap_alloc_new w _
  have HA := Lib.hid hA
  have hz1 : (w.alloc (.cells #[.int .i64 kd, .slice p names.length c, .int .i64 ev] 78)).heap.size = w.heap.size + 1 := by simp
  have HZ := Lib.hid hz1
  have HP := Lib.hid hp
  clear hr hp hx hA hz1
  have c1 := fun W => l1In_any kd 1 4 W
  have c2 := fun W => l1In_any ev 1 15 W
  have c3 := fun W => l1In_any (names.length : Int) 1 3 W
  cases h1 : (decide (1 ≤ kd) && decide (kd ≤ 4)) with
  | false =>
    have HV := Lib.hid (show scopeB ⟨kd, names, ev⟩ = false by simp only [scopeB, h1, Bool.false_and])
    rw [h1] at c1
    have C1 := Lib.hid c1
    clear c1 c2 c3 h1
    go_enter Tryz.func83, Tryz.ntmps83
    go_wp2_with fail
    refine (C1.out _).mono ?_
    rintro e w' ⟨rfl, rfl⟩
    go_wp2
    go_ret
    exact ⟨by rw [HV.out]; rfl, hb1⟩
  | true =>
    rw [h1] at c1
    have C1 := Lib.hid c1
    cases h2 : (decide (1 ≤ ev) && decide (ev ≤ 15)) with
    | false =>
      have HV := Lib.hid (show scopeB ⟨kd, names, ev⟩ = false by simp only [scopeB, h1, h2, Bool.false_and, Bool.and_false])
      rw [h2] at c2
      have C2 := Lib.hid c2
      clear c1 c2 c3 h1 h2
      go_enter Tryz.func83, Tryz.ntmps83
      go_wp2_with fail
      refine (C1.out _).mono ?_
      rintro e w' ⟨rfl, rfl⟩
      go_wp2_with fail
      refine (C2.out _).mono ?_
      rintro e w' ⟨rfl, rfl⟩
      go_wp2
      go_ret
      exact ⟨by rw [HV.out]; rfl, hb1⟩
    | true =>
      rw [h2] at c2
      have C2 := Lib.hid c2
      by_cases h3 : kd < 3
      · have HV := Lib.hid (show scopeB ⟨kd, names, ev⟩ = decide (names.length = 0) by simp only [scopeB, h1, h2, Bool.true_and, if_pos h3])
        clear c1 c2 c3 h1 h2
        by_cases h0 : names.length = 0
        · have hz : ((names.length : Int) == 0) = true := by simp [h0]
          have HV2 := Lib.hid (show scopeB ⟨kd, names, ev⟩ = true by rw [HV.out]; exact decide_eq_true h0)
          clear HV h0
          go_enter Tryz.func83, Tryz.ntmps83
          go_wp2_with fail
          refine (C1.out _).mono ?_
          rintro e w' ⟨rfl, rfl⟩
          go_wp2_with fail
          refine (C2.out _).mono ?_
          rintro e w' ⟨rfl, rfl⟩
          go_wp2
          go_ret
          exact ⟨by rw [HV2.out]; rfl, hb1⟩
        · have hz : ((names.length : Int) == 0) = false := by rw [beq_eq_false_iff_ne]; omega
          have HV2 := Lib.hid (show scopeB ⟨kd, names, ev⟩ = false by rw [HV.out]; exact decide_eq_false h0)
          clear HV h0
          go_enter Tryz.func83, Tryz.ntmps83
          go_wp2_with fail
          refine (C1.out _).mono ?_
          rintro e w' ⟨rfl, rfl⟩
          go_wp2_with fail
          refine (C2.out _).mono ?_
          rintro e w' ⟨rfl, rfl⟩
          go_wp2
          go_ret
          exact ⟨by rw [HV2.out]; rfl, hb1⟩
      · have HS := Lib.hid (show scopeB ⟨kd, names, ev⟩ = (namesB names && (decide ((1 : Int) ≤ (names.length : Int)) && decide ((names.length : Int) ≤ 3))) by simp only [scopeB, h1, h2, Bool.true_and, if_neg h3])
        have C3 := Lib.hid c3
        clear c1 c2 c3 h1 h2
        go_enter Tryz.func83, Tryz.ntmps83
        go_wp2_with fail
        refine (C1.out _).mono ?_
        rintro e w' ⟨rfl, rfl⟩
        go_wp2_with fail
        refine (C2.out _).mono ?_
        rintro e w' ⟨rfl, rfl⟩
        clear C1 C2
        have hbb : Below (w.heap.size + 1) (w.alloc (.cells #[.int .i64 kd, .slice p names.length c, .int .i64 ev] 78)) (w.alloc (.cells #[.int .i64 kd, .slice p names.length c, .int .i64 ev] 78)) := Below.refl _ _
        go_wp2
        go_loopw [3] (fun i wr => ∃ k : Nat, k ≤ names.length ∧ i = .int .i64 k ∧ (List.range k).all (stepB names) = true ∧ Below (w.heap.size + 1) (w.alloc (.cells #[.int .i64 kd, .slice p names.length c, .int .i64 ev] 78)) wr) (fun i _ => names.length - (intOf i).toNat)
        case atStart => exact ⟨0, by omega, rfl, rfl, hbb⟩
        case round =>
          obtain ⟨k, hk, rfl, hall, hbr⟩ := hrel
          have hbw := hb1.trans (hbr.mono (by omega))
          have q1 : wr.cell? ⟨w.heap.size, 1, none⟩ = some (.slice p names.length c) := (Lib.cell_of_heap ((hbr.block w.heap.size (by omega)).trans HA.out) 1).trans rfl
          have Hall := Lib.hid hall
          clear hall hbb
          by_cases hlt : k < names.length
          · obtain ⟨b, off, rfl, hb, hcell⟩ := HP.out.resolve_left (by intro h; subst h; simp at hlt)
            obtain ⟨x, hx⟩ : ∃ x, names[k]? = some x := ⟨_, List.getElem?_eq_getElem hlt⟩
            have hxl := HX.out x (List.mem_of_getElem? hx)
            have f1 : wr.drew.cell? ⟨b, off + k, none⟩ = some (sv x) := (hbw.cell (p := ⟨b, off + k, none⟩) hb).trans (hcell k x hx)
            have d1 : wr.drew.cell? ⟨w.heap.size, 1, none⟩ = some (.slice (some ⟨b, off, none⟩) names.length c) := q1
            have c4 := fun W => specNameOk_any ⟨x.toArray⟩ W (by unfold maxLen; show x.toArray.size ≤ _; simp; omega)
            have c4' : ∀ W, Calls Tryz.prog 48 #[sv x] W fun e w' => e = .returned (.bool (nameB x)) ∧ W = w' := fun W => by have := c4 W; simpa using this
            have hbd := hbr.drew
            have hbwd : Below w.heap.size w wr.drew := hbw.drew
            clear c4
            cases k with
            | zero =>
              rw [Nat.add_zero] at f1
              cases h4 : nameB x with
              | false =>
                have HV := Lib.hid (show scopeB ⟨kd, names, ev⟩ = false by rw [HS.out, namesB_not hlt (by rw [step_zero hx, h4])]; rfl)
                rw [h4] at c4'
                have C4 := Lib.hid c4'
                clear c4' hx HP hcell h4 hbr hbw HS HX HA HZ Hall C3
                go_wp2
                refine ord_start [(0, true), (1, true), (2, true), (3, true), (4, true), (5, false), (6, true), (7, true), (8, true), (9, true), (10, true), (11, true), (12, true), (13, true), (14, true), (15, true), (16, true), (17, true), (18, true), (19, true), (20, true), (21, true), (22, true), (23, true), (24, true)] (fun W => W.cell? ⟨w.heap.size, 1, none⟩ = some (.slice (some ⟨b, off, none⟩) names.length c) ∧ W.cell? ⟨b, off, none⟩ = some (sv x)) (by kernel_rfl) (by kernel_rfl) rfl (by kernel_rfl) ?_
                intro ops' hops
                simp only [List.map_cons, List.map_nil, pickOp_zero, pickOp_succ]
                iterate 5 (refine ord_flo ?_ (fun _ _ _ h => h) rfl ?_ ⟨d1, f1⟩ ?_; rotate_left; focus (intro W hS; obtain ⟨s1, s2⟩ := hS; go_simp; rfl))
                refine ord_ev (by rw [hops.out]; kernel_rfl) ?_
                go_simp
                refine (C4.out _).mono ?_
                rintro e w1 ⟨rfl, rfl⟩
                refine ⟨⟨d1, f1⟩, ?_⟩
                iterate 2 (refine ord_flo ?_ (fun _ _ _ h => h) rfl ?_ ⟨d1, f1⟩ ?_; rotate_left; focus (intro W hS; obtain ⟨s1, s2⟩ := hS; go_simp; rfl))
                iterate 16 (refine ord_not (fun _ _ _ h => h) (by rw [hops.out]; kernel_rfl) ⟨d1, f1⟩ ?_)
                iterate 1 (refine ord_flo ?_ (fun _ _ _ h => h) rfl ?_ ⟨d1, f1⟩ ?_; rotate_left; focus (intro W hS; obtain ⟨s1, s2⟩ := hS; go_simp; rfl))
                refine ord_done ?_
                go_simp
                go_wp2
                go_ret
                exact ⟨by rw [HV.out]; rfl, hbwd⟩
              | true =>
                have HN := Lib.hid (range_all_succ Hall.out (by rw [step_zero hx, h4]))
                rw [h4] at c4'
                have C4 := Lib.hid c4'
                clear c4' hx hcell h4 hbr hbw Hall
                go_wp2
                refine ord_start [(0, true), (1, true), (2, true), (3, true), (4, true), (5, false), (6, true), (7, true), (8, true), (9, true), (10, true), (11, true), (12, true), (13, true), (14, true), (15, true), (16, true), (17, true), (18, true), (19, true), (20, true), (21, true), (22, true), (23, true), (24, true)] (fun W => W.cell? ⟨w.heap.size, 1, none⟩ = some (.slice (some ⟨b, off, none⟩) names.length c) ∧ W.cell? ⟨b, off, none⟩ = some (sv x)) (by kernel_rfl) (by kernel_rfl) rfl (by kernel_rfl) ?_
                intro ops' hops
                simp only [List.map_cons, List.map_nil, pickOp_zero, pickOp_succ]
                iterate 5 (refine ord_flo ?_ (fun _ _ _ h => h) rfl ?_ ⟨d1, f1⟩ ?_; rotate_left; focus (intro W hS; obtain ⟨s1, s2⟩ := hS; go_simp; rfl))
                refine ord_ev (by rw [hops.out]; kernel_rfl) ?_
                go_simp
                refine (C4.out _).mono ?_
                rintro e w1 ⟨rfl, rfl⟩
                refine ⟨⟨d1, f1⟩, ?_⟩
                iterate 2 (refine ord_flo ?_ (fun _ _ _ h => h) rfl ?_ ⟨d1, f1⟩ ?_; rotate_left; focus (intro W hS; obtain ⟨s1, s2⟩ := hS; go_simp; rfl))
                iterate 3 (refine ord_flo ?_ (fun _ _ _ h => h) (by rw [hops.out]; kernel_rfl) ?_ ⟨d1, f1⟩ ?_; rotate_left; focus (intro W hS; obtain ⟨s1, s2⟩ := hS; go_simp; rfl))
                iterate 12 (refine ord_not (fun _ _ _ h => h) (by rw [hops.out]; kernel_rfl) ⟨d1, f1⟩ ?_)
                iterate 1 (refine ord_flo ?_ (fun _ _ _ h => h) (by rw [hops.out]; kernel_rfl) ?_ ⟨d1, f1⟩ ?_; rotate_left; focus (intro W hS; obtain ⟨s1, s2⟩ := hS; go_simp; rfl))
                iterate 1 (refine ord_flo ?_ (fun _ _ _ h => h) rfl ?_ ⟨d1, f1⟩ ?_; rotate_left; focus (intro W hS; obtain ⟨s1, s2⟩ := hS; go_simp; rfl))
                refine ord_done ?_
                go_simp
                clear d1 f1 q1
                go_wp2
                go_roundw
                case rel => exact ⟨1, by omega, by go_num, HN.out, hbd⟩
                case measure => simp [intOf]; omega
            | succ j =>
              obtain ⟨y, hy⟩ : ∃ y, names[j]? = some y := ⟨_, List.getElem?_eq_getElem (by omega)⟩
              have f0 : wr.drew.cell? ⟨b, off + j, none⟩ = some (sv y) := (hbw.cell (p := ⟨b, off + j, none⟩) hb).trans (hcell j y hy)
              have hstep := step_succ hy hx
              have hjc : ((j + 1 : Nat) : Int) = (j : Int) + 1 := by omega
              have hwr : IntKind.i64.wrap (j : Int) = (j : Int) := IntWalk.i64_in _ (by omega)
              cases h4 : nameB x with
              | false =>
                have HV := Lib.hid (show scopeB ⟨kd, names, ev⟩ = false by rw [HS.out, namesB_not hlt (by rw [hstep, h4]; rfl)]; rfl)
                rw [h4] at c4'
                have C4 := Lib.hid c4'
                clear c4' hx hy HP hcell h4 hbr hbw HS HX HA HZ Hall C3 hstep f0
                go_wp2
                refine ord_start [(0, true), (1, true), (2, true), (3, true), (4, true), (5, false), (6, true), (7, true), (8, true), (9, true), (10, true), (11, true), (12, true), (13, true), (14, true), (15, true), (16, true), (17, true), (18, true), (19, true), (20, true), (21, true), (22, true), (23, true), (24, true)] (fun W => W.cell? ⟨w.heap.size, 1, none⟩ = some (.slice (some ⟨b, off, none⟩) names.length c) ∧ W.cell? ⟨b, off + (j + 1), none⟩ = some (sv x)) (by kernel_rfl) (by kernel_rfl) rfl (by kernel_rfl) ?_
                intro ops' hops
                simp only [List.map_cons, List.map_nil, pickOp_zero, pickOp_succ]
                iterate 5 (refine ord_flo ?_ (fun _ _ _ h => h) rfl ?_ ⟨d1, f1⟩ ?_; rotate_left; focus (intro W hS; obtain ⟨s1, s2⟩ := hS; go_simp; rfl))
                refine ord_ev (by rw [hops.out]; kernel_rfl) ?_
                go_simp
                refine (C4.out _).mono ?_
                rintro e w1 ⟨rfl, rfl⟩
                refine ⟨⟨d1, f1⟩, ?_⟩
                iterate 2 (refine ord_flo ?_ (fun _ _ _ h => h) rfl ?_ ⟨d1, f1⟩ ?_; rotate_left; focus (intro W hS; obtain ⟨s1, s2⟩ := hS; go_simp; rfl))
                iterate 16 (refine ord_not (fun _ _ _ h => h) (by rw [hops.out]; kernel_rfl) ⟨d1, f1⟩ ?_)
                iterate 1 (refine ord_flo ?_ (fun _ _ _ h => h) rfl ?_ ⟨d1, f1⟩ ?_; rotate_left; focus (intro W hS; obtain ⟨s1, s2⟩ := hS; go_simp; rfl))
                refine ord_done ?_
                go_simp
                go_wp2
                go_ret
                exact ⟨by rw [HV.out]; rfl, hbwd⟩
              | true =>
                rw [h4] at c4'
                have C4 := Lib.hid c4'
                cases h5 : Op.bytesLess y x with
                | false =>
                  have HV := Lib.hid (show scopeB ⟨kd, names, ev⟩ = false by rw [HS.out, namesB_not hlt (by rw [hstep, h5, Bool.and_false])]; rfl)
                  clear c4' hx hy HP hcell h4 hbr hbw HS HX HA HZ Hall C3 hstep
                  go_wp2
                  refine ord_start [(0, true), (1, true), (2, true), (3, true), (4, true), (5, false), (6, true), (7, true), (8, true), (9, true), (10, true), (11, true), (12, true), (13, true), (14, true), (15, true), (16, true), (17, true), (18, true), (19, true), (20, true), (21, true), (22, true), (23, true), (24, true)] (fun W => W.cell? ⟨w.heap.size, 1, none⟩ = some (.slice (some ⟨b, off, none⟩) names.length c) ∧ W.cell? ⟨b, off + j, none⟩ = some (sv y) ∧ W.cell? ⟨b, off + (j + 1), none⟩ = some (sv x)) (by kernel_rfl) (by kernel_rfl) rfl (by kernel_rfl) ?_
                  intro ops' hops
                  simp only [List.map_cons, List.map_nil, pickOp_zero, pickOp_succ]
                  iterate 5 (refine ord_flo ?_ (fun _ _ _ h => h) rfl ?_ ⟨d1, f0, f1⟩ ?_; rotate_left; focus (intro W hS; obtain ⟨s1, s2, s3⟩ := hS; go_simp; rfl))
                  refine ord_ev (by rw [hops.out]; kernel_rfl) ?_
                  go_simp
                  refine (C4.out _).mono ?_
                  rintro e w1 ⟨rfl, rfl⟩
                  refine ⟨⟨d1, f0, f1⟩, ?_⟩
                  iterate 2 (refine ord_flo ?_ (fun _ _ _ h => h) rfl ?_ ⟨d1, f0, f1⟩ ?_; rotate_left; focus (intro W hS; obtain ⟨s1, s2, s3⟩ := hS; go_simp; rfl))
                  iterate 7 (refine ord_flo ?_ (fun _ _ _ h => h) (by rw [hops.out]; kernel_rfl) ?_ ⟨d1, f0, f1⟩ ?_; rotate_left; focus (intro W hS; obtain ⟨s1, s2, s3⟩ := hS; go_simp; rfl))
                  refine ord_flo (.pointer (some ⟨b, off + j, none⟩)) (fun _ _ _ h => h) (by rw [hops.out]; kernel_rfl) ?_ ⟨d1, f0, f1⟩ ?_
                  · intro W hS
                    go_simp
                    try (intro h; omega)
                  iterate 4 (refine ord_flo ?_ (fun _ _ _ h => h) (by rw [hops.out]; kernel_rfl) ?_ ⟨d1, f0, f1⟩ ?_; rotate_left; focus (intro W hS; obtain ⟨s1, s2, s3⟩ := hS; go_simp; rfl))
                  refine ord_flo (.pointer (some ⟨b, off + (j + 1), none⟩)) (fun _ _ _ h => h) (by rw [hops.out]; kernel_rfl) ?_ ⟨d1, f0, f1⟩ ?_
                  · intro W hS
                    go_simp
                    try (intro h; omega)
                  iterate 3 (refine ord_flo ?_ (fun _ _ _ h => h) (by rw [hops.out]; kernel_rfl) ?_ ⟨d1, f0, f1⟩ ?_; rotate_left; focus (intro W hS; obtain ⟨s1, s2, s3⟩ := hS; go_simp; rfl))
                  iterate 1 (refine ord_flo ?_ (fun _ _ _ h => h) rfl ?_ ⟨d1, f0, f1⟩ ?_; rotate_left; focus (intro W hS; obtain ⟨s1, s2, s3⟩ := hS; go_simp; rfl))
                  refine ord_done ?_
                  go_simp
                  go_wp2
                  go_ret
                  exact ⟨by rw [HV.out]; rfl, hbwd⟩
                | true =>
                  have HN := Lib.hid (range_all_succ Hall.out (by rw [hstep, h4, h5]; rfl))
                  clear c4' hx hy hcell h4 hbr hbw Hall hstep
                  go_wp2
                  refine ord_start [(0, true), (1, true), (2, true), (3, true), (4, true), (5, false), (6, true), (7, true), (8, true), (9, true), (10, true), (11, true), (12, true), (13, true), (14, true), (15, true), (16, true), (17, true), (18, true), (19, true), (20, true), (21, true), (22, true), (23, true), (24, true)] (fun W => W.cell? ⟨w.heap.size, 1, none⟩ = some (.slice (some ⟨b, off, none⟩) names.length c) ∧ W.cell? ⟨b, off + j, none⟩ = some (sv y) ∧ W.cell? ⟨b, off + (j + 1), none⟩ = some (sv x)) (by kernel_rfl) (by kernel_rfl) rfl (by kernel_rfl) ?_
                  intro ops' hops
                  simp only [List.map_cons, List.map_nil, pickOp_zero, pickOp_succ]
                  iterate 5 (refine ord_flo ?_ (fun _ _ _ h => h) rfl ?_ ⟨d1, f0, f1⟩ ?_; rotate_left; focus (intro W hS; obtain ⟨s1, s2, s3⟩ := hS; go_simp; rfl))
                  refine ord_ev (by rw [hops.out]; kernel_rfl) ?_
                  go_simp
                  refine (C4.out _).mono ?_
                  rintro e w1 ⟨rfl, rfl⟩
                  refine ⟨⟨d1, f0, f1⟩, ?_⟩
                  iterate 2 (refine ord_flo ?_ (fun _ _ _ h => h) rfl ?_ ⟨d1, f0, f1⟩ ?_; rotate_left; focus (intro W hS; obtain ⟨s1, s2, s3⟩ := hS; go_simp; rfl))
                  iterate 7 (refine ord_flo ?_ (fun _ _ _ h => h) (by rw [hops.out]; kernel_rfl) ?_ ⟨d1, f0, f1⟩ ?_; rotate_left; focus (intro W hS; obtain ⟨s1, s2, s3⟩ := hS; go_simp; rfl))
                  refine ord_flo (.pointer (some ⟨b, off + j, none⟩)) (fun _ _ _ h => h) (by rw [hops.out]; kernel_rfl) ?_ ⟨d1, f0, f1⟩ ?_
                  · intro W hS
                    go_simp
                    try (intro h; omega)
                  iterate 4 (refine ord_flo ?_ (fun _ _ _ h => h) (by rw [hops.out]; kernel_rfl) ?_ ⟨d1, f0, f1⟩ ?_; rotate_left; focus (intro W hS; obtain ⟨s1, s2, s3⟩ := hS; go_simp; rfl))
                  refine ord_flo (.pointer (some ⟨b, off + (j + 1), none⟩)) (fun _ _ _ h => h) (by rw [hops.out]; kernel_rfl) ?_ ⟨d1, f0, f1⟩ ?_
                  · intro W hS
                    go_simp
                    try (intro h; omega)
                  iterate 3 (refine ord_flo ?_ (fun _ _ _ h => h) (by rw [hops.out]; kernel_rfl) ?_ ⟨d1, f0, f1⟩ ?_; rotate_left; focus (intro W hS; obtain ⟨s1, s2, s3⟩ := hS; go_simp; rfl))
                  iterate 1 (refine ord_flo ?_ (fun _ _ _ h => h) rfl ?_ ⟨d1, f0, f1⟩ ?_; rotate_left; focus (intro W hS; obtain ⟨s1, s2, s3⟩ := hS; go_simp; rfl))
                  refine ord_done ?_
                  go_simp
                  clear d1 f1 f0 q1
                  go_wp2
                  go_roundw
                  case rel => exact ⟨j + 2, by omega, by go_num, HN.out, hbd⟩
                  case measure => simp [intOf]; omega
          · obtain rfl : k = names.length := by omega
            have HV := Lib.hid (show scopeB ⟨kd, names, ev⟩ = (decide ((1 : Int) ≤ (names.length : Int)) && decide ((names.length : Int) ≤ 3)) by rw [HS.out, show namesB names = true from Hall.out, Bool.true_and])
            clear HS Hall
            go_wp2_with fail
            refine (C3.out _).mono ?_
            rintro e w1 ⟨rfl, rfl⟩
            go_wp2
            go_ret
            exact ⟨by rw [HV.out]; rfl, hbw⟩

end Go.Proofs.YtidjebepgpbcnaaGreatDoor

namespace Go.Proofs.YtidjebepgpbcnaaGreatDoor
open Go.RowKit

theorem filterB_not {f : Flt} {k : Nat} {s : Scp} (h : f.scopes[k]? = some s) (hs : scopeB s = false) : filterB f = false := by unfold filterB; rw [all_not_at h hs]; rfl
theorem take_all_succ {α : Type} {p : α → Bool} {l : List α} {k : Nat} {x : α} (hx : l[k]? = some x) (h : (l.take k).all p = true) (hp : p x = true) : (l.take (k + 1)).all p = true := by
  obtain ⟨h1, h2⟩ := List.getElem?_eq_some_iff.1 hx
  rw [List.take_succ_eq_append_getElem h1, h2, List.all_append, h]
  simp [hp]

set_option maxHeartbeats 3200000 in
theorem specFilterOk_any (f : Flt) (vs : Value) (w : World) (hr : LfRd w (scpsLf f.scopes) vs) (hl : f.scopes.length ≤ 140737488355328) (hx : ∀ s ∈ f.scopes, s.names.length ≤ 140737488355328 ∧ ∀ x ∈ s.names, x.length ≤ 140737488355328) :
    Calls Tryz.prog 52 #[.agg #[.bool f.on, vs]] w fun e w' => e = .returned (.bool (filterB f)) ∧ Below w.heap.size w w' := by
  obtain ⟨on, l⟩ := f
  simp only at *
  obtain ⟨p, c, rfl, hp⟩ := scps_at hr
  have HX := Lib.hid hx
  have hb1 : Below w.heap.size w (w.alloc (.cells #[.bool on, .slice p l.length c] 34)) := (Below.refl _ _).alloc (Nat.le_refl _) _
  have hA : (w.alloc (.cells #[.bool on, .slice p l.length c] 34)).heap[w.heap.size]? = some (.cells #[.bool on, .slice p l.length c] 34 (0, 0)) := heap_alloc_new w _
  have HA := Lib.hid hA
  have hz1 : (w.alloc (.cells #[.bool on, .slice p l.length c] 34)).heap.size = w.heap.size + 1 := by simp
  have HZ := Lib.hid hz1
  have HP := Lib.hid hp
  have C3 := Lib.hid (fun W => l1In_any (l.length : Int) 1 3 W)
  clear hr hp hx hA hz1
  have hbb : Below (w.heap.size + 1) (w.alloc (.cells #[.bool on, .slice p l.length c] 34)) (w.alloc (.cells #[.bool on, .slice p l.length c] 34)) := Below.refl _ _
  go_enter Tryz.func52, Tryz.ntmps52
  go_wp2
  go_loopw [3] (fun i wr => ∃ k : Nat, k ≤ l.length ∧ i = .int .i64 k ∧ (l.take k).all scopeB = true ∧ Below (w.heap.size + 1) (w.alloc (.cells #[.bool on, .slice p l.length c] 34)) wr) (fun i _ => l.length - (intOf i).toNat)
  case atStart => exact ⟨0, by omega, rfl, rfl, hbb⟩
  case round =>
    obtain ⟨k, hk, rfl, hall, hbr⟩ := hrel
    have hbw := hb1.trans (hbr.mono (by omega))
    have hzr : w.heap.size + 1 ≤ wr.heap.size := by have := hbr.size; rw [HZ.out] at this; exact this
    have q0 : wr.cell? ⟨w.heap.size, 0, none⟩ = some (.bool on) := (Lib.cell_of_heap ((hbr.block w.heap.size (by omega)).trans HA.out) 0).trans rfl
    have q1 : wr.cell? ⟨w.heap.size, 1, none⟩ = some (.slice p l.length c) := (Lib.cell_of_heap ((hbr.block w.heap.size (by omega)).trans HA.out) 1).trans rfl
    have Hall := Lib.hid hall
    clear hall hbb hb1
    by_cases hlt : k < l.length
    · obtain ⟨b, off, rfl, hb, hcell⟩ := HP.out.resolve_left (by intro h; subst h; simp at hlt)
      obtain ⟨s, hs⟩ : ∃ s, l[k]? = some s := ⟨_, List.getElem?_eq_getElem hlt⟩
      have hsl := HX.out s (List.mem_of_getElem? hs)
      obtain ⟨v1, n1, x0, x1, x2⟩ := hcell k s hs
      have e0 : wr.cell? ⟨b, off + k * 3, none⟩ = some (.int .i64 s.kind) := (hbw.cell (p := ⟨b, off + k * 3, none⟩) hb).trans x0
      have e1 : wr.cell? ⟨b, off + k * 3 + 1, none⟩ = some v1 := (hbw.cell (p := ⟨b, off + k * 3 + 1, none⟩) hb).trans x1
      have e2 : wr.cell? ⟨b, off + k * 3 + 2, none⟩ = some (.int .i64 s.events) := (hbw.cell (p := ⟨b, off + k * 3 + 2, none⟩) hb).trans x2
      have c4 := specScopeOk_any s v1 wr (n1.below hbw) hsl.1 hsl.2
      cases h4 : scopeB s with
      | false =>
        have HV := Lib.hid (show filterB ⟨on, l⟩ = false from filterB_not (f := ⟨on, l⟩) hs h4)
        rw [h4] at c4
        have C4 := Lib.hid c4
        clear c4 hs HP hcell h4 x0 x1 x2 n1 HA HX Hall C3
        go_wp2_with fail
        refine (C4.out).mono ?_
        rintro e w1 ⟨rfl, b1⟩
        have hb2 := hbw.trans (b1.mono (by omega))
        clear b1
        go_wp2
        go_ret
        exact ⟨by rw [HV.out]; rfl, hb2⟩
      | true =>
        have HN := Lib.hid (take_all_succ hs Hall.out h4)
        rw [h4] at c4
        have C4 := Lib.hid c4
        clear c4 hs hcell h4 x0 x1 x2 n1 Hall hbw
        go_wp2_with fail
        refine (C4.out).mono ?_
        rintro e w1 ⟨rfl, b1⟩
        have hb2 := hbr.trans (b1.mono hzr)
        clear b1 hbr q0 q1 e0 e1 e2 C4
        go_wp2
        go_roundw
        case rel => exact ⟨k + 1, by omega, by go_num, HN.out, hb2⟩
        case measure => simp [intOf]; omega
    · obtain rfl : k = l.length := by omega
      rw [List.take_length] at Hall
      cases on with
      | false =>
        have HV := Lib.hid (show filterB ⟨false, l⟩ = decide (l.length = 0) by unfold filterB; rw [Hall.out]; rfl)
        by_cases h0 : l.length = 0
        · have hz : ((l.length : Int) == 0) = true := by simp [h0]
          have HV2 := Lib.hid (HV.out.trans (decide_eq_true h0))
          clear h0 HV
          go_wp2
          go_ret
          exact ⟨by rw [HV2.out]; rfl, hbw⟩
        · have hz : ((l.length : Int) == 0) = false := by rw [beq_eq_false_iff_ne]; omega
          have HV2 := Lib.hid (HV.out.trans (decide_eq_false h0))
          clear h0 HV
          go_wp2
          go_ret
          exact ⟨by rw [HV2.out]; rfl, hbw⟩
      | true =>
        have HV := Lib.hid (show filterB ⟨true, l⟩ = (decide ((1 : Int) ≤ (l.length : Int)) && decide ((l.length : Int) ≤ 3)) by unfold filterB; rw [Hall.out]; rfl)
        go_wp2_with fail
        refine (C3.out _).mono ?_
        rintro e w1 ⟨rfl, rfl⟩
        go_wp2
        go_ret
        exact ⟨by rw [HV.out]; rfl, hbw⟩

end Go.Proofs.YtidjebepgpbcnaaGreatDoor

namespace Go.Proofs.YtidjebepgpbcnaaGreatDoor
open Go.RowKit

deriving instance DecidableEq for Scp
deriving instance DecidableEq for Flt

theorem take_same_succ {α : Type} {l m : List α} {k : Nat} {x : α} (hx : l[k]? = some x) (hy : m[k]? = some x) (h : l.take k = m.take k) : l.take (k + 1) = m.take (k + 1) := by
  obtain ⟨h1, h2⟩ := List.getElem?_eq_some_iff.1 hx
  obtain ⟨h3, h4⟩ := List.getElem?_eq_some_iff.1 hy
  rw [List.take_succ_eq_append_getElem h1, h2, List.take_succ_eq_append_getElem h3, h4, h]
theorem not_same_at {α : Type} {l m : List α} {k : Nat} {x y : α} (hx : l[k]? = some x) (hy : m[k]? = some y) (h : x ≠ y) : l ≠ m := by
  intro e
  rw [e, hy] at hx
  injection hx with hx
  exact h hx.symm

end Go.Proofs.YtidjebepgpbcnaaGreatDoor
