/-
  Chapter 6: valid scopes and filters.
-/
import Derived.Test.YtidjebepgpbcnaaGh
import Derived.Test.YtidjebepgpbcnaaGc
import Derived.Test.YtidjebepgpbcnaaGg
namespace Go.Proofs.Ytidjebepgpbcnaa
open Go.RowKit

def stepB (l : List (List UInt8)) (i : Nat) : Bool := nameB (l.getD i []) && (i == 0 || Op.bytesLess (l.getD (i - 1) []) (l.getD i []))
def namesB (l : List (List UInt8)) : Bool := (List.range l.length).all (stepB l)
def scopeB (s : Scp) : Bool := (decide (1 ≤ s.kind) && decide (s.kind ≤ 4)) && (decide (1 ≤ s.events) && decide (s.events ≤ 15)) &&
  if s.kind < 3 then decide (s.names.length = 0) else namesB s.names && (decide ((1 : Int) ≤ (s.names.length : Int)) && decide ((s.names.length : Int) ≤ 3))
def filterB (f : Flt) : Bool := f.scopes.all scopeB && if f.on then (decide ((1 : Int) ≤ (f.scopes.length : Int)) && decide ((f.scopes.length : Int) ≤ 3)) else decide (f.scopes.length = 0)
theorem namesB_not {l : List (List UInt8)} {k : Nat} (hk : k < l.length) (h : stepB l k = false) : namesB l = false := all_not_at (k := k) (x := k) (by simp [hk]) h
theorem getD_of {l : List (List UInt8)} {k : Nat} {x : List UInt8} (h : l[k]? = some x) : l.getD k [] = x := by rw [List.getD_eq_getElem?_getD, h]; rfl
theorem step_zero {l : List (List UInt8)} {x : List UInt8} (h : l[0]? = some x) : stepB l 0 = nameB x := by unfold stepB; rw [getD_of h]; simp
theorem step_succ {l : List (List UInt8)} {j : Nat} {y x : List UInt8} (hy : l[j]? = some y) (h : l[j + 1]? = some x) : stepB l (j + 1) = (nameB x && Op.bytesLess y x) := by
  unfold stepB
  rw [getD_of h, Nat.add_sub_cancel, getD_of hy]
  rfl
theorem range_all_succ {l : List (List UInt8)} {k : Nat} (h : (List.range k).all (stepB l) = true) (hs : stepB l k = true) : (List.range (k + 1)).all (stepB l) = true := by
  rw [List.range_succ, List.all_append, h]
  simp [hs]

set_option maxHeartbeats 6400000 in
theorem specScopeOk_any (s : Scp) (vn : Value) (w : World) (hr : Rd1 sv w vn s.names) (hl : s.names.length ≤ 140737488355328) (hx : ∀ x ∈ s.names, x.length ≤ 140737488355328) :
    Calls Try.prog 40 #[.agg #[.int .i64 s.kind, vn, .int .i64 s.events]] w fun e w' => e = .returned (.bool (scopeB s)) ∧ Below w.heap.size w w' := by
  obtain ⟨kd, names, ev⟩ := s
  simp only at *
  obtain ⟨p, c, rfl, hp⟩ := hr.ex
  have HX := Lib.hid hx
  have hb1 : Below w.heap.size w (w.alloc (.cells #[.int .i64 kd, .slice p names.length c, .int .i64 ev] 64)) := (Below.refl _ _).alloc (Nat.le_refl _) _
  have hA : (w.alloc (.cells #[.int .i64 kd, .slice p names.length c, .int .i64 ev] 64)).heap[w.heap.size]? = some (.cells #[.int .i64 kd, .slice p names.length c, .int .i64 ev] 64 (0, 0)) := heap_alloc_new w _
  have HA := Lib.hid hA
  have hz1 : (w.alloc (.cells #[.int .i64 kd, .slice p names.length c, .int .i64 ev] 64)).heap.size = w.heap.size + 1 := by simp
  have HZ := Lib.hid hz1
  have HP := Lib.hid hp
  clear hr hp hx hA hz1
  have c1 := fun W => l1In_any kd 1 4 W
  have c2 := fun W => l1In_any ev 1 15 W
  have c3 := fun W => l1In_any (names.length : Int) 1 3 W
  cases h1 : (decide (1 ≤ kd) && decide (kd ≤ 4)) with
  | false =>
    have HV := Lib.hid (show scopeB ⟨kd, names, ev⟩ = false by simp only [scopeB, h1, Bool.false_and])
    rw [h1] at c1
    have C1 := Lib.hid c1
    clear c1 c2 c3 h1
    go_enter Try.func40, Try.ntmps40
    go_wp2_with fail
    refine (C1.out _).mono ?_
    rintro e w' ⟨rfl, rfl⟩
    go_wp2
    go_ret
    exact ⟨by rw [HV.out]; rfl, hb1⟩
  | true =>
    rw [h1] at c1
    have C1 := Lib.hid c1
    cases h2 : (decide (1 ≤ ev) && decide (ev ≤ 15)) with
    | false =>
      have HV := Lib.hid (show scopeB ⟨kd, names, ev⟩ = false by simp only [scopeB, h1, h2, Bool.false_and, Bool.and_false])
      rw [h2] at c2
      have C2 := Lib.hid c2
      clear c1 c2 c3 h1 h2
      go_enter Try.func40, Try.ntmps40
      go_wp2_with fail
      refine (C1.out _).mono ?_
      rintro e w' ⟨rfl, rfl⟩
      go_wp2_with fail
      refine (C2.out _).mono ?_
      rintro e w' ⟨rfl, rfl⟩
      go_wp2
      go_ret
      exact ⟨by rw [HV.out]; rfl, hb1⟩
    | true =>
      rw [h2] at c2
      have C2 := Lib.hid c2
      by_cases h3 : kd < 3
      · have HV := Lib.hid (show scopeB ⟨kd, names, ev⟩ = decide (names.length = 0) by simp only [scopeB, h1, h2, Bool.true_and, if_pos h3])
        clear c1 c2 c3 h1 h2
        by_cases h0 : names.length = 0
        · have hz : ((names.length : Int) == 0) = true := by simp [h0]
          have HV2 := Lib.hid (show scopeB ⟨kd, names, ev⟩ = true by rw [HV.out]; exact decide_eq_true h0)
          clear HV h0
          go_enter Try.func40, Try.ntmps40
          go_wp2_with fail
          refine (C1.out _).mono ?_
          rintro e w' ⟨rfl, rfl⟩
          go_wp2_with fail
          refine (C2.out _).mono ?_
          rintro e w' ⟨rfl, rfl⟩
          go_wp2
          go_ret
          exact ⟨by rw [HV2.out]; rfl, hb1⟩
        · have hz : ((names.length : Int) == 0) = false := by rw [beq_eq_false_iff_ne]; omega
          have HV2 := Lib.hid (show scopeB ⟨kd, names, ev⟩ = false by rw [HV.out]; exact decide_eq_false h0)
          clear HV h0
          go_enter Try.func40, Try.ntmps40
          go_wp2_with fail
          refine (C1.out _).mono ?_
          rintro e w' ⟨rfl, rfl⟩
          go_wp2_with fail
          refine (C2.out _).mono ?_
          rintro e w' ⟨rfl, rfl⟩
          go_wp2
          go_ret
          exact ⟨by rw [HV2.out]; rfl, hb1⟩
      · have HS := Lib.hid (show scopeB ⟨kd, names, ev⟩ = (namesB names && (decide ((1 : Int) ≤ (names.length : Int)) && decide ((names.length : Int) ≤ 3))) by simp only [scopeB, h1, h2, Bool.true_and, if_neg h3])
        have C3 := Lib.hid c3
        clear c1 c2 c3 h1 h2
        go_enter Try.func40, Try.ntmps40
        go_wp2_with fail
        refine (C1.out _).mono ?_
        rintro e w' ⟨rfl, rfl⟩
        go_wp2_with fail
        refine (C2.out _).mono ?_
        rintro e w' ⟨rfl, rfl⟩
        clear C1 C2
        have hbb : Below (w.heap.size + 1) (w.alloc (.cells #[.int .i64 kd, .slice p names.length c, .int .i64 ev] 64)) (w.alloc (.cells #[.int .i64 kd, .slice p names.length c, .int .i64 ev] 64)) := Below.refl _ _
        go_wp2
        go_loopw [3] (fun i wr => ∃ k : Nat, k ≤ names.length ∧ i = .int .i64 k ∧ (List.range k).all (stepB names) = true ∧ Below (w.heap.size + 1) (w.alloc (.cells #[.int .i64 kd, .slice p names.length c, .int .i64 ev] 64)) wr) (fun i _ => names.length - (intOf i).toNat)
        case atStart => exact ⟨0, by omega, rfl, rfl, hbb⟩
        case round =>
          obtain ⟨k, hk, rfl, hall, hbr⟩ := hrel
          have hbw := hb1.trans (hbr.mono (by omega))
          have q1 : wr.cell? ⟨w.heap.size, 1, none⟩ = some (.slice p names.length c) := (Lib.cell_of_heap ((hbr.block w.heap.size (by omega)).trans HA.out) 1).trans rfl
          have Hall := Lib.hid hall
          clear hall hbb
          by_cases hlt : k < names.length
          · obtain ⟨b, off, rfl, hb, hcell⟩ := HP.out.resolve_left (by intro h; subst h; simp at hlt)
            obtain ⟨x, hx⟩ : ∃ x, names[k]? = some x := ⟨_, List.getElem?_eq_getElem hlt⟩
            have hxl := HX.out x (List.mem_of_getElem? hx)
            have f1 : wr.drew.cell? ⟨b, off + k, none⟩ = some (sv x) := (hbw.cell (p := ⟨b, off + k, none⟩) hb).trans (hcell k x hx)
            have d1 : wr.drew.cell? ⟨w.heap.size, 1, none⟩ = some (.slice (some ⟨b, off, none⟩) names.length c) := q1
            have c4 := fun W => specNameOk_any ⟨x.toArray⟩ W (by unfold maxLen; show x.toArray.size ≤ _; simp; omega)
            have c4' : ∀ W, Calls Try.prog 24 #[sv x] W fun e w' => e = .returned (.bool (nameB x)) ∧ W = w' := fun W => by have := c4 W; simpa using this
            have hbd := hbr.drew
            have hbwd : Below w.heap.size w wr.drew := hbw.drew
            clear c4
            cases k with
            | zero =>
              rw [Nat.add_zero] at f1
              cases h4 : nameB x with
              | false =>
                have HV := Lib.hid (show scopeB ⟨kd, names, ev⟩ = false by rw [HS.out, namesB_not hlt (by rw [step_zero hx, h4])]; rfl)
                rw [h4] at c4'
                have C4 := Lib.hid c4'
                clear c4' hx HP hcell h4 hbr hbw HS HX HA HZ Hall C3
                go_wp2
                refine ord_start [(0, true), (1, true), (2, true), (3, true), (4, true), (5, false), (6, true), (7, true), (8, true), (9, true), (10, true), (11, true), (12, true), (13, true), (14, true), (15, true), (16, true), (17, true), (18, true), (19, true), (20, true), (21, true), (22, true), (23, true), (24, true)] (fun W => W.cell? ⟨w.heap.size, 1, none⟩ = some (.slice (some ⟨b, off, none⟩) names.length c) ∧ W.cell? ⟨b, off, none⟩ = some (sv x)) (by kernel_rfl) (by kernel_rfl) rfl (by kernel_rfl) ?_
                intro ops' hops
                simp only [List.map_cons, List.map_nil, pickOp_zero, pickOp_succ]
                iterate 5 (refine ord_flo ?_ (fun _ _ _ h => h) rfl ?_ ⟨d1, f1⟩ ?_; rotate_left; focus (intro W hS; obtain ⟨s1, s2⟩ := hS; go_simp; rfl))
                refine ord_ev (by rw [hops.out]; kernel_rfl) ?_
                go_simp
                refine (C4.out _).mono ?_
                rintro e w1 ⟨rfl, rfl⟩
                refine ⟨⟨d1, f1⟩, ?_⟩
                iterate 2 (refine ord_flo ?_ (fun _ _ _ h => h) rfl ?_ ⟨d1, f1⟩ ?_; rotate_left; focus (intro W hS; obtain ⟨s1, s2⟩ := hS; go_simp; rfl))
                iterate 16 (refine ord_not (fun _ _ _ h => h) (by rw [hops.out]; kernel_rfl) ⟨d1, f1⟩ ?_)
                iterate 1 (refine ord_flo ?_ (fun _ _ _ h => h) rfl ?_ ⟨d1, f1⟩ ?_; rotate_left; focus (intro W hS; obtain ⟨s1, s2⟩ := hS; go_simp; rfl))
                refine ord_done ?_
                go_simp
                go_wp2
                go_ret
                exact ⟨by rw [HV.out]; rfl, hbwd⟩
              | true =>
                have HN := Lib.hid (range_all_succ Hall.out (by rw [step_zero hx, h4]))
                rw [h4] at c4'
                have C4 := Lib.hid c4'
                clear c4' hx hcell h4 hbr hbw Hall
                go_wp2
                refine ord_start [(0, true), (1, true), (2, true), (3, true), (4, true), (5, false), (6, true), (7, true), (8, true), (9, true), (10, true), (11, true), (12, true), (13, true), (14, true), (15, true), (16, true), (17, true), (18, true), (19, true), (20, true), (21, true), (22, true), (23, true), (24, true)] (fun W => W.cell? ⟨w.heap.size, 1, none⟩ = some (.slice (some ⟨b, off, none⟩) names.length c) ∧ W.cell? ⟨b, off, none⟩ = some (sv x)) (by kernel_rfl) (by kernel_rfl) rfl (by kernel_rfl) ?_
                intro ops' hops
                simp only [List.map_cons, List.map_nil, pickOp_zero, pickOp_succ]
                iterate 5 (refine ord_flo ?_ (fun _ _ _ h => h) rfl ?_ ⟨d1, f1⟩ ?_; rotate_left; focus (intro W hS; obtain ⟨s1, s2⟩ := hS; go_simp; rfl))
                refine ord_ev (by rw [hops.out]; kernel_rfl) ?_
                go_simp
                refine (C4.out _).mono ?_
                rintro e w1 ⟨rfl, rfl⟩
                refine ⟨⟨d1, f1⟩, ?_⟩
                iterate 2 (refine ord_flo ?_ (fun _ _ _ h => h) rfl ?_ ⟨d1, f1⟩ ?_; rotate_left; focus (intro W hS; obtain ⟨s1, s2⟩ := hS; go_simp; rfl))
                iterate 3 (refine ord_flo ?_ (fun _ _ _ h => h) (by rw [hops.out]; kernel_rfl) ?_ ⟨d1, f1⟩ ?_; rotate_left; focus (intro W hS; obtain ⟨s1, s2⟩ := hS; go_simp; rfl))
                iterate 12 (refine ord_not (fun _ _ _ h => h) (by rw [hops.out]; kernel_rfl) ⟨d1, f1⟩ ?_)
                iterate 1 (refine ord_flo ?_ (fun _ _ _ h => h) (by rw [hops.out]; kernel_rfl) ?_ ⟨d1, f1⟩ ?_; rotate_left; focus (intro W hS; obtain ⟨s1, s2⟩ := hS; go_simp; rfl))
                iterate 1 (refine ord_flo ?_ (fun _ _ _ h => h) rfl ?_ ⟨d1, f1⟩ ?_; rotate_left; focus (intro W hS; obtain ⟨s1, s2⟩ := hS; go_simp; rfl))
                refine ord_done ?_
                go_simp
                clear d1 f1 q1
                go_wp2
                go_roundw
                case rel => exact ⟨1, by omega, by go_num, HN.out, hbd⟩
                case measure => simp [intOf]; omega
            | succ j =>
              obtain ⟨y, hy⟩ : ∃ y, names[j]? = some y := ⟨_, List.getElem?_eq_getElem (by omega)⟩
              have f0 : wr.drew.cell? ⟨b, off + j, none⟩ = some (sv y) := (hbw.cell (p := ⟨b, off + j, none⟩) hb).trans (hcell j y hy)
              have hstep := step_succ hy hx
              have hjc : ((j + 1 : Nat) : Int) = (j : Int) + 1 := by omega
              have hwr : IntKind.i64.wrap (j : Int) = (j : Int) := IntWalk.i64_in _ (by omega)
              cases h4 : nameB x with
              | false =>
                have HV := Lib.hid (show scopeB ⟨kd, names, ev⟩ = false by rw [HS.out, namesB_not hlt (by rw [hstep, h4]; rfl)]; rfl)
                rw [h4] at c4'
                have C4 := Lib.hid c4'
                clear c4' hx hy HP hcell h4 hbr hbw HS HX HA HZ Hall C3 hstep f0
                go_wp2
                refine ord_start [(0, true), (1, true), (2, true), (3, true), (4, true), (5, false), (6, true), (7, true), (8, true), (9, true), (10, true), (11, true), (12, true), (13, true), (14, true), (15, true), (16, true), (17, true), (18, true), (19, true), (20, true), (21, true), (22, true), (23, true), (24, true)] (fun W => W.cell? ⟨w.heap.size, 1, none⟩ = some (.slice (some ⟨b, off, none⟩) names.length c) ∧ W.cell? ⟨b, off + (j + 1), none⟩ = some (sv x)) (by kernel_rfl) (by kernel_rfl) rfl (by kernel_rfl) ?_
                intro ops' hops
                simp only [List.map_cons, List.map_nil, pickOp_zero, pickOp_succ]
                iterate 5 (refine ord_flo ?_ (fun _ _ _ h => h) rfl ?_ ⟨d1, f1⟩ ?_; rotate_left; focus (intro W hS; obtain ⟨s1, s2⟩ := hS; go_simp; rfl))
                refine ord_ev (by rw [hops.out]; kernel_rfl) ?_
                go_simp
                refine (C4.out _).mono ?_
                rintro e w1 ⟨rfl, rfl⟩
                refine ⟨⟨d1, f1⟩, ?_⟩
                iterate 2 (refine ord_flo ?_ (fun _ _ _ h => h) rfl ?_ ⟨d1, f1⟩ ?_; rotate_left; focus (intro W hS; obtain ⟨s1, s2⟩ := hS; go_simp; rfl))
                iterate 16 (refine ord_not (fun _ _ _ h => h) (by rw [hops.out]; kernel_rfl) ⟨d1, f1⟩ ?_)
                iterate 1 (refine ord_flo ?_ (fun _ _ _ h => h) rfl ?_ ⟨d1, f1⟩ ?_; rotate_left; focus (intro W hS; obtain ⟨s1, s2⟩ := hS; go_simp; rfl))
                refine ord_done ?_
                go_simp
                go_wp2
                go_ret
                exact ⟨by rw [HV.out]; rfl, hbwd⟩
              | true =>
                rw [h4] at c4'
                have C4 := Lib.hid c4'
                cases h5 : Op.bytesLess y x with
                | false =>
                  have HV := Lib.hid (show scopeB ⟨kd, names, ev⟩ = false by rw [HS.out, namesB_not hlt (by rw [hstep, h5, Bool.and_false])]; rfl)
                  clear c4' hx hy HP hcell h4 hbr hbw HS HX HA HZ Hall C3 hstep
                  go_wp2
                  refine ord_start [(0, true), (1, true), (2, true), (3, true), (4, true), (5, false), (6, true), (7, true), (8, true), (9, true), (10, true), (11, true), (12, true), (13, true), (14, true), (15, true), (16, true), (17, true), (18, true), (19, true), (20, true), (21, true), (22, true), (23, true), (24, true)] (fun W => W.cell? ⟨w.heap.size, 1, none⟩ = some (.slice (some ⟨b, off, none⟩) names.length c) ∧ W.cell? ⟨b, off + j, none⟩ = some (sv y) ∧ W.cell? ⟨b, off + (j + 1), none⟩ = some (sv x)) (by kernel_rfl) (by kernel_rfl) rfl (by kernel_rfl) ?_
                  intro ops' hops
                  simp only [List.map_cons, List.map_nil, pickOp_zero, pickOp_succ]
                  iterate 5 (refine ord_flo ?_ (fun _ _ _ h => h) rfl ?_ ⟨d1, f0, f1⟩ ?_; rotate_left; focus (intro W hS; obtain ⟨s1, s2, s3⟩ := hS; go_simp; rfl))
                  refine ord_ev (by rw [hops.out]; kernel_rfl) ?_
                  go_simp
                  refine (C4.out _).mono ?_
                  rintro e w1 ⟨rfl, rfl⟩
                  refine ⟨⟨d1, f0, f1⟩, ?_⟩
                  iterate 2 (refine ord_flo ?_ (fun _ _ _ h => h) rfl ?_ ⟨d1, f0, f1⟩ ?_; rotate_left; focus (intro W hS; obtain ⟨s1, s2, s3⟩ := hS; go_simp; rfl))
                  iterate 7 (refine ord_flo ?_ (fun _ _ _ h => h) (by rw [hops.out]; kernel_rfl) ?_ ⟨d1, f0, f1⟩ ?_; rotate_left; focus (intro W hS; obtain ⟨s1, s2, s3⟩ := hS; go_simp; rfl))
                  refine ord_flo (.pointer (some ⟨b, off + j, none⟩)) (fun _ _ _ h => h) (by rw [hops.out]; kernel_rfl) ?_ ⟨d1, f0, f1⟩ ?_
                  · intro W hS
                    go_simp
                    try (intro h; omega)
                  iterate 4 (refine ord_flo ?_ (fun _ _ _ h => h) (by rw [hops.out]; kernel_rfl) ?_ ⟨d1, f0, f1⟩ ?_; rotate_left; focus (intro W hS; obtain ⟨s1, s2, s3⟩ := hS; go_simp; rfl))
                  refine ord_flo (.pointer (some ⟨b, off + (j + 1), none⟩)) (fun _ _ _ h => h) (by rw [hops.out]; kernel_rfl) ?_ ⟨d1, f0, f1⟩ ?_
                  · intro W hS
                    go_simp
                    try (intro h; omega)
                  iterate 3 (refine ord_flo ?_ (fun _ _ _ h => h) (by rw [hops.out]; kernel_rfl) ?_ ⟨d1, f0, f1⟩ ?_; rotate_left; focus (intro W hS; obtain ⟨s1, s2, s3⟩ := hS; go_simp; rfl))
                  iterate 1 (refine ord_flo ?_ (fun _ _ _ h => h) rfl ?_ ⟨d1, f0, f1⟩ ?_; rotate_left; focus (intro W hS; obtain ⟨s1, s2, s3⟩ := hS; go_simp; rfl))
                  refine ord_done ?_
                  go_simp
                  go_wp2
                  go_ret
                  exact ⟨by rw [HV.out]; rfl, hbwd⟩
                | true =>
                  have HN := Lib.hid (range_all_succ Hall.out (by rw [hstep, h4, h5]; rfl))
                  clear c4' hx hy hcell h4 hbr hbw Hall hstep
                  go_wp2
                  refine ord_start [(0, true), (1, true), (2, true), (3, true), (4, true), (5, false), (6, true), (7, true), (8, true), (9, true), (10, true), (11, true), (12, true), (13, true), (14, true), (15, true), (16, true), (17, true), (18, true), (19, true), (20, true), (21, true), (22, true), (23, true), (24, true)] (fun W => W.cell? ⟨w.heap.size, 1, none⟩ = some (.slice (some ⟨b, off, none⟩) names.length c) ∧ W.cell? ⟨b, off + j, none⟩ = some (sv y) ∧ W.cell? ⟨b, off + (j + 1), none⟩ = some (sv x)) (by kernel_rfl) (by kernel_rfl) rfl (by kernel_rfl) ?_
                  intro ops' hops
                  simp only [List.map_cons, List.map_nil, pickOp_zero, pickOp_succ]
                  iterate 5 (refine ord_flo ?_ (fun _ _ _ h => h) rfl ?_ ⟨d1, f0, f1⟩ ?_; rotate_left; focus (intro W hS; obtain ⟨s1, s2, s3⟩ := hS; go_simp; rfl))
                  refine ord_ev (by rw [hops.out]; kernel_rfl) ?_
                  go_simp
                  refine (C4.out _).mono ?_
                  rintro e w1 ⟨rfl, rfl⟩
                  refine ⟨⟨d1, f0, f1⟩, ?_⟩
                  iterate 2 (refine ord_flo ?_ (fun _ _ _ h => h) rfl ?_ ⟨d1, f0, f1⟩ ?_; rotate_left; focus (intro W hS; obtain ⟨s1, s2, s3⟩ := hS; go_simp; rfl))
                  iterate 7 (refine ord_flo ?_ (fun _ _ _ h => h) (by rw [hops.out]; kernel_rfl) ?_ ⟨d1, f0, f1⟩ ?_; rotate_left; focus (intro W hS; obtain ⟨s1, s2, s3⟩ := hS; go_simp; rfl))
                  refine ord_flo (.pointer (some ⟨b, off + j, none⟩)) (fun _ _ _ h => h) (by rw [hops.out]; kernel_rfl) ?_ ⟨d1, f0, f1⟩ ?_
                  · intro W hS
                    go_simp
                    try (intro h; omega)
                  iterate 4 (refine ord_flo ?_ (fun _ _ _ h => h) (by rw [hops.out]; kernel_rfl) ?_ ⟨d1, f0, f1⟩ ?_; rotate_left; focus (intro W hS; obtain ⟨s1, s2, s3⟩ := hS; go_simp; rfl))
                  refine ord_flo (.pointer (some ⟨b, off + (j + 1), none⟩)) (fun _ _ _ h => h) (by rw [hops.out]; kernel_rfl) ?_ ⟨d1, f0, f1⟩ ?_
                  · intro W hS
                    go_simp
                    try (intro h; omega)
                  iterate 3 (refine ord_flo ?_ (fun _ _ _ h => h) (by rw [hops.out]; kernel_rfl) ?_ ⟨d1, f0, f1⟩ ?_; rotate_left; focus (intro W hS; obtain ⟨s1, s2, s3⟩ := hS; go_simp; rfl))
                  iterate 1 (refine ord_flo ?_ (fun _ _ _ h => h) rfl ?_ ⟨d1, f0, f1⟩ ?_; rotate_left; focus (intro W hS; obtain ⟨s1, s2, s3⟩ := hS; go_simp; rfl))
                  refine ord_done ?_
                  go_simp
                  clear d1 f1 f0 q1
                  go_wp2
                  go_roundw
                  case rel => exact ⟨j + 2, by omega, by go_num, HN.out, hbd⟩
                  case measure => simp [intOf]; omega
          · obtain rfl : k = names.length := by omega
            have HV := Lib.hid (show scopeB ⟨kd, names, ev⟩ = (decide ((1 : Int) ≤ (names.length : Int)) && decide ((names.length : Int) ≤ 3)) by rw [HS.out, show namesB names = true from Hall.out, Bool.true_and])
            clear HS Hall
            go_wp2_with fail
            refine (C3.out _).mono ?_
            rintro e w1 ⟨rfl, rfl⟩
            go_wp2
            go_ret
            exact ⟨by rw [HV.out]; rfl, hbw⟩

end Go.Proofs.Ytidjebepgpbcnaa
