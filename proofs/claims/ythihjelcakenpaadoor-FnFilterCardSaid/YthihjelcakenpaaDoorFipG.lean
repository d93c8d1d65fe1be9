/-
  Chapter 6, the program: keywords, kinds, groups and the words of events, as they are read.
-/
import Derived.Test.YthihjelcakenpaaDoorFipF
import Derived.Test.YthihjelcakenpaaDoorFipM
import Derived.Test.YthihjelcakenpaaDoorSetF
namespace Go.Proofs.YthihjelcakenpaaDoor
open Go.RowKit

set_option maxHeartbeats 1600000 in
theorem isKeyword_any (t : Tok) (wd : List UInt8) (w : World) (hx : t.text.length ≤ 1048576) (hw : wd.length ≤ 1048576) :
    Calls Tryd.prog 31 #[tokv t, sv wd] w fun e w' => e = .returned (.bool (t.kind == 1 && upper t.text == upper wd)) ∧ Below w.heap.size w w' := by
  obtain ⟨kd, x⟩ := t
  simp only at *
  have C1 := Lib.hid (fun W => implUpper_any ⟨x.toArray⟩ W (by unfold maxLen; show x.toArray.size ≤ _; simp; omega))
  have C2 := Lib.hid (fun W => implUpper_any ⟨wd.toArray⟩ W (by unfold maxLen; show wd.toArray.size ≤ _; simp; omega))
  rw [show (ByteArray.mk x.toArray).data.toList = x from rfl] at C1
  rw [show (ByteArray.mk wd.toArray).data.toList = wd from rfl] at C2
  have hb1 : Below w.heap.size w (w.alloc (.cells #[.int .i64 kd, sv x] 52)) := (Below.refl _ _).alloc (Nat.le_refl _) _
  cases h1 : (kd == 1) with
  | false =>
    clear C1 C2
    go_enter Tryd.func31, Tryd.ntmps31
    go_wp2
    go_ret
    exact ⟨rfl, hb1⟩
  | true =>
    cases h2 : (upper x == upper wd) with
    | true =>
      go_enter Tryd.func31, Tryd.ntmps31
      go_wp2_with fail
      refine (C1.out _).mono ?_
      rintro e w1 ⟨rfl, b1⟩
      have hb2 := hb1.trans (b1.mono hb1.size)
      clear b1 hb1 C1
      go_wp2_with fail
      refine (C2.out _).mono ?_
      rintro e w2 ⟨rfl, b2⟩
      have hb3 := hb2.trans (b2.mono hb2.size)
      clear b2 hb2 C2
      go_wp2
      go_ret
      exact ⟨rfl, hb3⟩
    | false =>
      go_enter Tryd.func31, Tryd.ntmps31
      go_wp2_with fail
      refine (C1.out _).mono ?_
      rintro e w1 ⟨rfl, b1⟩
      have hb2 := hb1.trans (b1.mono hb1.size)
      clear b1 hb1 C1
      go_wp2_with fail
      refine (C2.out _).mono ?_
      rintro e w2 ⟨rfl, b2⟩
      have hb3 := hb2.trans (b2.mono hb2.size)
      clear b2 hb2 C2
      go_wp2
      go_ret
      exact ⟨rfl, hb3⟩

set_option maxRecDepth 20000 in
set_option maxHeartbeats 3200000 in
theorem kindNamed_any (t : Tok) (w : World) (hx : t.text.length ≤ 1048576) :
    Calls Tryd.prog 67 #[tokv t] w fun e w' => e = .returned (.int .i64 (kindN t)) ∧ Below w.heap.size w w' := by
  obtain ⟨kd, x⟩ := t
  simp only at *
  have hb1 : Below w.heap.size w (w.alloc (.cells #[.int .i64 kd, sv x] 52)) := (Below.refl _ _).alloc (Nat.le_refl _) _
  have hA : (w.alloc (.cells #[.int .i64 kd, sv x] 52)).heap[w.heap.size]? = some (.cells #[.int .i64 kd, sv x] 52 (0, 0)) := heap_alloc_new w _
  have HA := Lib.hid hA
  have hz1 : (w.alloc (.cells #[.int .i64 kd, sv x] 52)).heap.size = w.heap.size + 1 := by simp
  have HZ := Lib.hid hz1
  have HB1 := Lib.hid hb1
  have hbb : Below (w.heap.size + 1) (w.alloc (.cells #[.int .i64 kd, sv x] 52)) (w.alloc (.cells #[.int .i64 kd, sv x] 52)) := Below.refl _ _
  have C := Lib.hid (fun wd W (h : wd.length ≤ 1048576) => isKeyword_any ⟨kd, x⟩ wd W hx h)
  clear hA hz1
  go_enter Tryd.func67, Tryd.ntmps67
  go_wp2
  go_loopw [3] (fun i wr => ∃ k : Nat, k ≤ 4 ∧ i = .int .i64 ((k + 1 : Nat) : Int) ∧ (∀ j, j < k → (kd == 1 && upper x == upper (scW (j + 1))) = false) ∧ Below (w.heap.size + 1) (w.alloc (.cells #[.int .i64 kd, sv x] 52)) wr) (fun i _ => (5 - intOf i).toNat)
  case atStart => exact ⟨0, by omega, rfl, fun j h => by omega, hbb⟩
  case round =>
    obtain ⟨k, hk, rfl, hno, hbr⟩ := hrel
    have hbw := hb1.trans (hbr.mono (by omega))
    have hzr : w.heap.size + 1 ≤ wr.heap.size := by have := hbr.size; rw [HZ.out] at this; exact this
    have hbrd := hbr.drew
    have d0 : wr.drew.cell? ⟨w.heap.size, 0, none⟩ = some (.int .i64 kd) := (Lib.cell_of_heap ((hbrd.block w.heap.size (by omega)).trans HA.out) 0).trans rfl
    have d1 : wr.drew.cell? ⟨w.heap.size, 1, none⟩ = some (sv x) := (Lib.cell_of_heap ((hbrd.block w.heap.size (by omega)).trans HA.out) 1).trans rfl
    have HNO := Lib.hid hno
    clear hno hbb hb1
    have h5 : k = 0 ∨ k = 1 ∨ k = 2 ∨ k = 3 ∨ k = 4 := by omega
    rcases h5 with rfl | rfl | rfl | rfl | rfl
    · have hm := method_1
      clear hbr
      go_wp2
      refine ord_start [(0, true), (1, true), (2, true), (3, false), (4, false), (5, false)] (fun W => W.cell? ⟨w.heap.size, 0, none⟩ = some (.int .i64 kd) ∧ W.cell? ⟨w.heap.size, 1, none⟩ = some (sv x)) (by kernel_rfl) (by kernel_rfl) rfl (by kernel_rfl) ?_
      intro ops' hops
      clear hops
      simp only [List.map_cons, List.map_nil, pickOp_zero, pickOp_succ]
      iterate 3 (refine ord_flo ?_ (fun _ _ _ h => h) rfl ?_ ⟨d0, d1⟩ ?_; rotate_left; focus (intro W hS; obtain ⟨s0, s1⟩ := hS; go_simp; rfl))
      refine ord_ev rfl ?_
      go_simp
      refine (reach_1 (.slice none 0 0) 0 _ ⟨_, _, _, rfl⟩).mono ?_
      rintro e w1 ⟨rfl, b1⟩
      have hb2 := hbrd.trans (b1.mono hzr)
      have z1 := b1.cell (p := ⟨w.heap.size, 0, none⟩) (by show w.heap.size < wr.heap.size; omega) |>.trans d0
      have z2 := b1.cell (p := ⟨w.heap.size, 1, none⟩) (by show w.heap.size < wr.heap.size; omega) |>.trans d1
      have hz2 := Nat.le_trans hzr b1.size
      refine ⟨⟨z1, z2⟩, ?_⟩
      clear b1 d0 d1 hbrd
      refine ord_ev rfl ?_
      go_simp
      refine (keyword_1 _).mono ?_
      rintro e w2 ⟨rfl, b2⟩
      have hb3 := hb2.trans (b2.mono hz2)
      have y1 := b2.cell (p := ⟨w.heap.size, 0, none⟩) (by show w.heap.size < w1.heap.size; omega) |>.trans z1
      have y2 := b2.cell (p := ⟨w.heap.size, 1, none⟩) (by show w.heap.size < w1.heap.size; omega) |>.trans z2
      have hz3 := Nat.le_trans hz2 b2.size
      refine ⟨⟨y1, y2⟩, ?_⟩
      clear b2 z1 z2 hb2 hm
      refine ord_ev rfl ?_
      go_simp
      refine (C.out (scW 1) _ (by decide)).mono ?_
      rintro e w3 ⟨rfl, b3⟩
      have hb4 := hb3.trans (b3.mono hz3)
      have x1 := b3.cell (p := ⟨w.heap.size, 0, none⟩) (by show w.heap.size < w2.heap.size; omega) |>.trans y1
      have x2 := b3.cell (p := ⟨w.heap.size, 1, none⟩) (by show w.heap.size < w2.heap.size; omega) |>.trans y2
      refine ⟨⟨x1, x2⟩, ?_⟩
      clear b3 y1 y2 hb3
      refine ord_done ?_
      go_simp
      have hb5 := (HB1.out).trans (hb4.mono (Nat.le_succ _))
      cases hit : (kd == 1 && upper x == upper (scW 1)) with
      | true =>
        have HV := Lib.hid (show kindN ⟨kd, x⟩ = 1 by
          rw [Bool.and_eq_true, beq_iff_eq, beq_iff_eq] at hit
          unfold kindN
          rw [if_pos hit.1]
          exact scFind_hit (j := 0) (by omega) hit.2.symm)
        clear x1 x2
        go_wp2
        go_ret
        exact ⟨by rw [HV.out]; rfl, hb5⟩
      | false =>
        have HNX := Lib.hid (show ∀ j, j < 1 → (kd == 1 && upper x == upper (scW (j + 1))) = false from fun j hj => by
          by_cases e : j = 0
          · subst e; exact hit
          · exact HNO.out j (by omega))
        clear x1 x2 hit HNO
        go_wp2
        go_roundw
        case rel => exact ⟨1, by omega, rfl, HNX.out, hb4⟩
        case measure => simp [intOf]
    · have hm := method_2
      clear hbr
      go_wp2
      refine ord_start [(0, true), (1, true), (2, true), (3, false), (4, false), (5, false)] (fun W => W.cell? ⟨w.heap.size, 0, none⟩ = some (.int .i64 kd) ∧ W.cell? ⟨w.heap.size, 1, none⟩ = some (sv x)) (by kernel_rfl) (by kernel_rfl) rfl (by kernel_rfl) ?_
      intro ops' hops
      clear hops
      simp only [List.map_cons, List.map_nil, pickOp_zero, pickOp_succ]
      iterate 3 (refine ord_flo ?_ (fun _ _ _ h => h) rfl ?_ ⟨d0, d1⟩ ?_; rotate_left; focus (intro W hS; obtain ⟨s0, s1⟩ := hS; go_simp; rfl))
      refine ord_ev rfl ?_
      go_simp
      refine (reach_2 (.slice none 0 0) 0 _ ⟨_, _, _, rfl⟩).mono ?_
      rintro e w1 ⟨rfl, b1⟩
      have hb2 := hbrd.trans (b1.mono hzr)
      have z1 := b1.cell (p := ⟨w.heap.size, 0, none⟩) (by show w.heap.size < wr.heap.size; omega) |>.trans d0
      have z2 := b1.cell (p := ⟨w.heap.size, 1, none⟩) (by show w.heap.size < wr.heap.size; omega) |>.trans d1
      have hz2 := Nat.le_trans hzr b1.size
      refine ⟨⟨z1, z2⟩, ?_⟩
      clear b1 d0 d1 hbrd
      refine ord_ev rfl ?_
      go_simp
      refine (keyword_2 _).mono ?_
      rintro e w2 ⟨rfl, b2⟩
      have hb3 := hb2.trans (b2.mono hz2)
      have y1 := b2.cell (p := ⟨w.heap.size, 0, none⟩) (by show w.heap.size < w1.heap.size; omega) |>.trans z1
      have y2 := b2.cell (p := ⟨w.heap.size, 1, none⟩) (by show w.heap.size < w1.heap.size; omega) |>.trans z2
      have hz3 := Nat.le_trans hz2 b2.size
      refine ⟨⟨y1, y2⟩, ?_⟩
      clear b2 z1 z2 hb2 hm
      refine ord_ev rfl ?_
      go_simp
      refine (C.out (scW 2) _ (by decide)).mono ?_
      rintro e w3 ⟨rfl, b3⟩
      have hb4 := hb3.trans (b3.mono hz3)
      have x1 := b3.cell (p := ⟨w.heap.size, 0, none⟩) (by show w.heap.size < w2.heap.size; omega) |>.trans y1
      have x2 := b3.cell (p := ⟨w.heap.size, 1, none⟩) (by show w.heap.size < w2.heap.size; omega) |>.trans y2
      refine ⟨⟨x1, x2⟩, ?_⟩
      clear b3 y1 y2 hb3
      refine ord_done ?_
      go_simp
      have hb5 := (HB1.out).trans (hb4.mono (Nat.le_succ _))
      cases hit : (kd == 1 && upper x == upper (scW 2)) with
      | true =>
        have HV := Lib.hid (show kindN ⟨kd, x⟩ = 2 by
          rw [Bool.and_eq_true, beq_iff_eq, beq_iff_eq] at hit
          unfold kindN
          rw [if_pos hit.1]
          exact scFind_hit (j := 1) (by omega) hit.2.symm)
        clear x1 x2
        go_wp2
        go_ret
        exact ⟨by rw [HV.out]; rfl, hb5⟩
      | false =>
        have HNX := Lib.hid (show ∀ j, j < 2 → (kd == 1 && upper x == upper (scW (j + 1))) = false from fun j hj => by
          by_cases e : j = 1
          · subst e; exact hit
          · exact HNO.out j (by omega))
        clear x1 x2 hit HNO
        go_wp2
        go_roundw
        case rel => exact ⟨2, by omega, rfl, HNX.out, hb4⟩
        case measure => simp [intOf]
    · have hm := method_3
      clear hbr
      go_wp2
      refine ord_start [(0, true), (1, true), (2, true), (3, false), (4, false), (5, false)] (fun W => W.cell? ⟨w.heap.size, 0, none⟩ = some (.int .i64 kd) ∧ W.cell? ⟨w.heap.size, 1, none⟩ = some (sv x)) (by kernel_rfl) (by kernel_rfl) rfl (by kernel_rfl) ?_
      intro ops' hops
      clear hops
      simp only [List.map_cons, List.map_nil, pickOp_zero, pickOp_succ]
      iterate 3 (refine ord_flo ?_ (fun _ _ _ h => h) rfl ?_ ⟨d0, d1⟩ ?_; rotate_left; focus (intro W hS; obtain ⟨s0, s1⟩ := hS; go_simp; rfl))
      refine ord_ev rfl ?_
      go_simp
      refine (reach_3 (.slice none 0 0) 0 _ ⟨_, _, _, rfl⟩).mono ?_
      rintro e w1 ⟨rfl, b1⟩
      have hb2 := hbrd.trans (b1.mono hzr)
      have z1 := b1.cell (p := ⟨w.heap.size, 0, none⟩) (by show w.heap.size < wr.heap.size; omega) |>.trans d0
      have z2 := b1.cell (p := ⟨w.heap.size, 1, none⟩) (by show w.heap.size < wr.heap.size; omega) |>.trans d1
      have hz2 := Nat.le_trans hzr b1.size
      refine ⟨⟨z1, z2⟩, ?_⟩
      clear b1 d0 d1 hbrd
      refine ord_ev rfl ?_
      go_simp
      refine (keyword_3 none 0 0 _).mono ?_
      rintro e w2 ⟨rfl, b2⟩
      have hb3 := hb2.trans (b2.mono hz2)
      have y1 := b2.cell (p := ⟨w.heap.size, 0, none⟩) (by show w.heap.size < w1.heap.size; omega) |>.trans z1
      have y2 := b2.cell (p := ⟨w.heap.size, 1, none⟩) (by show w.heap.size < w1.heap.size; omega) |>.trans z2
      have hz3 := Nat.le_trans hz2 b2.size
      refine ⟨⟨y1, y2⟩, ?_⟩
      clear b2 z1 z2 hb2 hm
      refine ord_ev rfl ?_
      go_simp
      refine (C.out (scW 3) _ (by decide)).mono ?_
      rintro e w3 ⟨rfl, b3⟩
      have hb4 := hb3.trans (b3.mono hz3)
      have x1 := b3.cell (p := ⟨w.heap.size, 0, none⟩) (by show w.heap.size < w2.heap.size; omega) |>.trans y1
      have x2 := b3.cell (p := ⟨w.heap.size, 1, none⟩) (by show w.heap.size < w2.heap.size; omega) |>.trans y2
      refine ⟨⟨x1, x2⟩, ?_⟩
      clear b3 y1 y2 hb3
      refine ord_done ?_
      go_simp
      have hb5 := (HB1.out).trans (hb4.mono (Nat.le_succ _))
      cases hit : (kd == 1 && upper x == upper (scW 3)) with
      | true =>
        have HV := Lib.hid (show kindN ⟨kd, x⟩ = 3 by
          rw [Bool.and_eq_true, beq_iff_eq, beq_iff_eq] at hit
          unfold kindN
          rw [if_pos hit.1]
          exact scFind_hit (j := 2) (by omega) hit.2.symm)
        clear x1 x2
        go_wp2
        go_ret
        exact ⟨by rw [HV.out]; rfl, hb5⟩
      | false =>
        have HNX := Lib.hid (show ∀ j, j < 3 → (kd == 1 && upper x == upper (scW (j + 1))) = false from fun j hj => by
          by_cases e : j = 2
          · subst e; exact hit
          · exact HNO.out j (by omega))
        clear x1 x2 hit HNO
        go_wp2
        go_roundw
        case rel => exact ⟨3, by omega, rfl, HNX.out, hb4⟩
        case measure => simp [intOf]
    · have hm := method_4
      clear hbr
      go_wp2
      refine ord_start [(0, true), (1, true), (2, true), (3, false), (4, false), (5, false)] (fun W => W.cell? ⟨w.heap.size, 0, none⟩ = some (.int .i64 kd) ∧ W.cell? ⟨w.heap.size, 1, none⟩ = some (sv x)) (by kernel_rfl) (by kernel_rfl) rfl (by kernel_rfl) ?_
      intro ops' hops
      clear hops
      simp only [List.map_cons, List.map_nil, pickOp_zero, pickOp_succ]
      iterate 3 (refine ord_flo ?_ (fun _ _ _ h => h) rfl ?_ ⟨d0, d1⟩ ?_; rotate_left; focus (intro W hS; obtain ⟨s0, s1⟩ := hS; go_simp; rfl))
      refine ord_ev rfl ?_
      go_simp
      refine (reach_4 (.slice none 0 0) 0 _ ⟨_, _, _, rfl⟩).mono ?_
      rintro e w1 ⟨rfl, b1⟩
      have hb2 := hbrd.trans (b1.mono hzr)
      have z1 := b1.cell (p := ⟨w.heap.size, 0, none⟩) (by show w.heap.size < wr.heap.size; omega) |>.trans d0
      have z2 := b1.cell (p := ⟨w.heap.size, 1, none⟩) (by show w.heap.size < wr.heap.size; omega) |>.trans d1
      have hz2 := Nat.le_trans hzr b1.size
      refine ⟨⟨z1, z2⟩, ?_⟩
      clear b1 d0 d1 hbrd
      refine ord_ev rfl ?_
      go_simp
      refine (keyword_4 none 0 0 _).mono ?_
      rintro e w2 ⟨rfl, b2⟩
      have hb3 := hb2.trans (b2.mono hz2)
      have y1 := b2.cell (p := ⟨w.heap.size, 0, none⟩) (by show w.heap.size < w1.heap.size; omega) |>.trans z1
      have y2 := b2.cell (p := ⟨w.heap.size, 1, none⟩) (by show w.heap.size < w1.heap.size; omega) |>.trans z2
      have hz3 := Nat.le_trans hz2 b2.size
      refine ⟨⟨y1, y2⟩, ?_⟩
      clear b2 z1 z2 hb2 hm
      refine ord_ev rfl ?_
      go_simp
      refine (C.out (scW 4) _ (by decide)).mono ?_
      rintro e w3 ⟨rfl, b3⟩
      have hb4 := hb3.trans (b3.mono hz3)
      have x1 := b3.cell (p := ⟨w.heap.size, 0, none⟩) (by show w.heap.size < w2.heap.size; omega) |>.trans y1
      have x2 := b3.cell (p := ⟨w.heap.size, 1, none⟩) (by show w.heap.size < w2.heap.size; omega) |>.trans y2
      refine ⟨⟨x1, x2⟩, ?_⟩
      clear b3 y1 y2 hb3
      refine ord_done ?_
      go_simp
      have hb5 := (HB1.out).trans (hb4.mono (Nat.le_succ _))
      cases hit : (kd == 1 && upper x == upper (scW 4)) with
      | true =>
        have HV := Lib.hid (show kindN ⟨kd, x⟩ = 4 by
          rw [Bool.and_eq_true, beq_iff_eq, beq_iff_eq] at hit
          unfold kindN
          rw [if_pos hit.1]
          exact scFind_hit (j := 3) (by omega) hit.2.symm)
        clear x1 x2
        go_wp2
        go_ret
        exact ⟨by rw [HV.out]; rfl, hb5⟩
      | false =>
        have HNX := Lib.hid (show ∀ j, j < 4 → (kd == 1 && upper x == upper (scW (j + 1))) = false from fun j hj => by
          by_cases e : j = 3
          · subst e; exact hit
          · exact HNO.out j (by omega))
        clear x1 x2 hit HNO
        go_wp2
        go_roundw
        case rel => exact ⟨4, by omega, rfl, HNX.out, hb4⟩
        case measure => simp [intOf]
    · have HV := Lib.hid (show kindN ⟨kd, x⟩ = 0 by
        unfold kindN
        by_cases hk1 : kd = 1
        · rw [if_pos hk1]
          refine scFind_none 4 fun j hj e => ?_
          have := HNO.out j hj
          subst hk1
          simp only [BEq.rfl, Bool.true_and, beq_eq_false_iff_ne] at this
          exact this e.symm
        · rw [if_neg hk1])
      clear d0 d1
      go_wp2
      go_ret
      exact ⟨by rw [HV.out]; rfl, hbw⟩

def GrpPost (U : Option (List (List UInt8) × List Tok)) (w0 w : World) (e : Ending) (w' : World) : Prop := match U with
  | some (ws, r) => ∃ vn vr, e = .returned (.tuple #[vn, vr, .bool true]) ∧ w'.ownsRow w.heap.size 9 1 vn ws.length (ws.map sv) ∧ Rd 2 tokc w0 vr r ∧ CapOk vr ∧ Below w.heap.size w w'
  | none => e = .returned (.tuple #[.slice none 0 0, .slice none 0 0, .bool false]) ∧ Below w.heap.size w w'
theorem GrpPost.some_ {ws : List (List UInt8)} {r : List Tok} {w0 w w' : World} {e : Ending} (h : ∃ vn vr, e = .returned (.tuple #[vn, vr, .bool true]) ∧ w'.ownsRow w.heap.size 9 1 vn ws.length (ws.map sv) ∧ Rd 2 tokc w0 vr r ∧ CapOk vr ∧ Below w.heap.size w w') : GrpPost (some (ws, r)) w0 w e w' := h
theorem GrpPost.none_ {w0 w w' : World} {e : Ending} (h : e = .returned (.tuple #[.slice none 0 0, .slice none 0 0, .bool false]) ∧ Below w.heap.size w w') : GrpPost none w0 w e w' := h

/-- What is left of a slice that is read, from element k on. -/
theorem rd_drop {α : Type} {m : Nat} {enc : α → List Value} {w : World} {p : Option Addr} {c k : Nat} {l : List α} (h : Rd m enc w (.slice p l.length c) l) (hc : l.length ≤ c) (hk : k ≤ l.length) :
    Rd m enc w (.slice (if c = k then p else Option.map (fun x => x.add (k * m)) p) (l.length - k) (c - k)) (l.drop k) ∧ CapOk (.slice (if c = k then p else Option.map (fun x => x.add (k * m)) p) (l.length - k) (c - k)) := by
  refine ⟨?_, fun p' n' c' hv => by injection hv with _ h1 h2; omega⟩
  by_cases e : c = k
  · have hd : l.drop k = [] := List.drop_of_length_le (by omega)
    rw [hd, if_pos e]
    exact ⟨p, c - k, by rw [List.length_nil, show l.length - k = 0 by omega], .inl rfl⟩
  · rw [if_neg e]
    obtain ⟨q, d, hv, hq⟩ := h.ex
    injection hv with hp _ _
    subst hp
    rcases hq with h0 | ⟨b, off, rfl, hlt, hcell⟩
    · subst h0
      exact ⟨Option.map (fun x => x.add (k * m)) p, c - k, by simp, .inl (by simp)⟩
    · have := Rd.dropS (k := k) ⟨_, c, rfl, .inr ⟨b, off, rfl, hlt, hcell⟩⟩ (c - k)
      simpa [Addr.add_lit] using this

theorem tkq (t : Tok) (n : Int) : (t.kind = n ∧ t.text = []) ∨ ¬ (t.kind = n ∧ t.text = []) := Classical.em _

def AtB (l : List Tok) (k : Nat) (ws : List (List UInt8)) : Prop := k ≤ l.length ∧ ws = (l.take k).map (·.text) ∧ (∀ t ∈ l.take k, t.kind = 1)
theorem AtB.start (l : List Tok) : AtB l 0 [] := ⟨Nat.zero_le _, rfl, fun t ht => by simp at ht⟩
theorem AtB.step {l : List Tok} {k : Nat} {ws : List (List UInt8)} {t : Tok} (h : AtB l k ws) (ht : l[k]? = some t) (hk : t.kind = 1) : AtB l (k + 1) (ws ++ [t.text]) := by
  obtain ⟨h1, h2, h3⟩ := h
  obtain ⟨h4, h5⟩ := List.getElem?_eq_some_iff.1 ht
  refine ⟨h4, ?_, ?_⟩
  · rw [List.take_succ_eq_append_getElem h4, h5, List.map_append, h2]; rfl
  · intro u hu
    rw [List.take_succ_eq_append_getElem h4, h5] at hu
    rcases List.mem_append.1 hu with hu | hu
    · exact h3 u hu
    · rw [List.mem_singleton.1 hu]; exact hk
theorem span_up {l : List Tok} {k : Nat} (h : ∀ t ∈ l.take k, t.kind = 1) (hn : ∀ t, l[k]? = some t → ¬ t.kind = 1) : l.takeWhile isAt = l.take k ∧ l.dropWhile isAt = l.drop k := by
  induction l generalizing k with
  | nil => simp
  | cons a l ih =>
    cases k with
    | zero =>
      have ha : isAt a = false := by unfold isAt; rw [beq_eq_false_iff_ne]; exact hn a rfl
      simp [ha]
    | succ k =>
      have ha : isAt a = true := by unfold isAt; rw [beq_iff_eq]; exact h a (by simp)
      obtain ⟨e1, e2⟩ := ih (k := k) (fun t ht => h t (by simp [ht])) (fun t ht => hn t (by simpa using ht))
      simp [ha, e1, e2]
theorem atomsP_end {a : Tok} {l : List Tok} {k : Nat} {ws : List (List UInt8)} {t : Tok} (ha : a.kind = 3 ∧ a.text = []) (h : AtB l k ws) (ht : l[k]? = some t) (hk : t.kind = 4 ∧ t.text = []) : atomsP (a :: l) = some (ws, l.drop (k + 1)) := by
  obtain ⟨h1, h2, h3⟩ := h
  obtain ⟨e1, e2⟩ := span_up h3 (fun u hu => by rw [ht] at hu; injection hu with hu; rw [← hu, hk.1]; decide)
  obtain ⟨h4, h5⟩ := List.getElem?_eq_some_iff.1 ht
  unfold atomsP
  have e0 : takeP 3 (a :: l) = some (a.text, l) := by simp [takeP, ha.1, ha.2]
  rw [e0]
  simp only [Option.bind_some]
  rw [e1, e2, List.drop_eq_getElem_cons h4, h5]
  have e3 : takeP 4 (t :: l.drop (k + 1)) = some (t.text, l.drop (k + 1)) := by simp [takeP, hk.1, hk.2]
  rw [e3, h2]
  rfl
theorem atomsP_bad {a : Tok} {l : List Tok} {k : Nat} {ws : List (List UInt8)} (h : AtB l k ws) (ht : ∀ t, l[k]? = some t → ¬ t.kind = 1 ∧ ¬ (t.kind = 4 ∧ t.text = [])) : atomsP (a :: l) = none := by
  obtain ⟨h1, h2, h3⟩ := h
  obtain ⟨e1, e2⟩ := span_up h3 (fun u hu => (ht u hu).1)
  unfold atomsP
  cases h0 : takeP 3 (a :: l) with
  | none => rfl
  | some q =>
    have hq : q.2 = l := by
      simp only [takeP] at h0
      split at h0
      · injection h0 with h0; rw [← h0]
      · cases h0
    simp only [Option.bind_some]
    rw [hq, e2]
    by_cases hlt : k < l.length
    · rw [List.drop_eq_getElem_cons hlt]
      have := (ht _ (List.getElem?_eq_getElem hlt)).2
      have e3 : takeP 4 (l[k] :: l.drop (k + 1)) = none := by simp only [takeP]; rw [if_neg (by intro e; exact this ⟨e.1, by simpa using e.2⟩)]
      rw [e3]; rfl
    · rw [List.drop_of_length_le (by omega)]; rfl
theorem atomsP_open {l : List Tok} (h : ∀ t, l[0]? = some t → ¬ (t.kind = 3 ∧ t.text = [])) : atomsP l = none := by
  unfold atomsP
  cases l with
  | nil => rfl
  | cons a l =>
    have := h a rfl
    have e3 : takeP 3 (a :: l) = none := by simp only [takeP]; rw [if_neg (by intro e; exact this ⟨e.1, by simpa using e.2⟩)]
    rw [e3]; rfl

set_option maxRecDepth 20000 in
set_option maxHeartbeats 3200000 in
theorem eventsNamed_any (v : Value) (ws : List (List UInt8)) (w : World) (hr : Rd1 sv w v ws) (hl : ws.length ≤ 1048576) (hx : ∀ x ∈ ws, x.length ≤ 1048576) (hF : Ew w) :
    Calls Tryd.prog 69 #[v] w fun e w' => e = .returned (.int .i64 (eN ws)) ∧ Below w.heap.size w w' := by
  obtain ⟨p, c, rfl, hp⟩ := hr.ex
  have HP := Lib.hid hp
  have HX := Lib.hid hx
  obtain ⟨q0, q1, q2, q3⟩ := hF.cells
  clear hF hr hp hx
  go_enter Tryd.func69, Tryd.ntmps69
  go_wp2
  clear q0 q1 q2 q3
  go_loopw [3, 4, 5, 6, 8] (fun bv av u5 u6 i wr => ∃ (k a : Nat) (b : Int), k ≤ 4 ∧ bv = .int .i64 b ∧ av = .int .i64 a ∧ i = .int .i64 k ∧ EvI ws k b a ∧ Below w.heap.size w wr) (fun _ _ _ _ i _ => 4 - (intOf i).toNat)
  case atStart => exact ⟨0, 0, 0, by omega, rfl, rfl, rfl, EvI.start ws, Below.refl _ _⟩
  case round =>
    obtain ⟨k, a, b, hk, rfl, rfl, rfl, hev, hbr⟩ := hrel
    have hbr0 := hbr.size
    have HE := Lib.hid hev
    have hal := hev.1
    clear hev
    by_cases hlt : k < 4
    · obtain ⟨i0, i1, i2, i3⟩ := ew_all
      have CE := Lib.hid (fun W => implUpper_any ⟨(evW k).toArray⟩ W (by have := evW_len k; unfold maxLen; show (evW k).toArray.size ≤ _; simp; omega))
      rw [show (ByteArray.mk (evW k).toArray).data.toList = evW k from rfl] at CE
      have h5 : k = 0 ∨ k = 1 ∨ k = 2 ∨ k = 3 := by omega
      obtain ⟨k1, hk1⟩ : ∃ k1, k1 = k + 1 := ⟨_, rfl⟩
      have HK := Lib.hid hk1
      by_cases hlt2 : a < ws.length
      · obtain ⟨bb, off, rfl, hbb, hcell⟩ := HP.out.resolve_left (by intro h; subst h; simp at hlt2)
        obtain ⟨x, hx⟩ : ∃ x, ws[a]? = some x := ⟨_, List.getElem?_eq_getElem hlt2⟩
        have hlt2i : (a : Int) < (ws.length : Int) := by omega
        have e1 : wr.cell? ⟨bb, off + a, none⟩ = some (sv x) := (hbr.cell (p := ⟨bb, off + a, none⟩) hbb).trans (hcell a x hx)
        have CX := Lib.hid (fun W => implUpper_any ⟨x.toArray⟩ W (by have := HX.out x (List.mem_of_getElem? hx); unfold maxLen; show x.toArray.size ≤ _; simp; omega))
        rw [show (ByteArray.mk x.toArray).data.toList = x from rfl] at CX
        have HXA := Lib.hid hx
        clear hcell hx
        cases hu : (upper x == upper (evW k)) with
        | true =>
          have HN := Lib.hid (hk1 ▸ HE.out.yes hlt HXA.out (beq_iff_eq.1 hu))
          clear HE hk1
          rcases h5 with rfl | rfl | rfl | rfl
          all_goals
            go_wp2_with fail
            refine (CX.out _).mono ?_
            rintro e w1 ⟨rfl, b1⟩
            go_wp2_with fail
            refine (CE.out _).mono ?_
            rintro e w2 ⟨rfl, b2⟩
            have hb2 := hbr.trans ((b1.trans (b2.mono b1.size)).mono hbr0)
            clear b1 b2 hbr CX CE e1
            go_wp2
            go_roundw
            case rel => exact ⟨k1, a + 1, _, by have := HK.out; omega, rfl, by go_num, by rw [HK.out]; rfl, HN.out, hb2⟩
            case measure => simp [intOf]
        | false =>
          have HN := Lib.hid (hk1 ▸ HE.out.no (fun y hy => by rw [HXA.out] at hy; injection hy with hy; rw [← hy]; exact beq_eq_false_iff_ne.1 hu))
          clear HE hk1
          rcases h5 with rfl | rfl | rfl | rfl
          all_goals
            go_wp2_with fail
            refine (CX.out _).mono ?_
            rintro e w1 ⟨rfl, b1⟩
            go_wp2_with fail
            refine (CE.out _).mono ?_
            rintro e w2 ⟨rfl, b2⟩
            have hb2 := hbr.trans ((b1.trans (b2.mono b1.size)).mono hbr0)
            clear b1 b2 hbr CX CE e1
            go_wp2
            go_roundw
            case rel => exact ⟨k1, a, b, by have := HK.out; omega, rfl, rfl, by rw [HK.out]; rfl, HN.out, hb2⟩
            case measure => simp [intOf]
      · have hlt2i : ¬ (a : Int) < (ws.length : Int) := by omega
        have HN := Lib.hid (hk1 ▸ HE.out.no (fun y hy => by rw [List.getElem?_eq_none (by omega)] at hy; cases hy))
        clear HE hk1 CE
        rcases h5 with rfl | rfl | rfl | rfl
        all_goals
          go_wp2
          go_roundw
          case rel => exact ⟨k1, a, b, by have := HK.out; omega, rfl, rfl, by rw [HK.out]; rfl, HN.out, hbr⟩
          case measure => simp [intOf]
    · obtain rfl : k = 4 := by omega
      by_cases hlt2 : a < ws.length
      · have hlt2i : (a : Int) < (ws.length : Int) := by omega
        have HV := Lib.hid (HE.out.done_no hlt2)
        go_wp2
        go_ret
        exact ⟨by rw [HV.out]; rfl, hbr⟩
      · have hlt2i : ¬ (a : Int) < (ws.length : Int) := by omega
        have HV := Lib.hid (HE.out.done_yes hlt2)
        go_wp2
        go_ret
        exact ⟨by rw [HV.out]; rfl, hbr⟩

end Go.Proofs.YthihjelcakenpaaDoor
