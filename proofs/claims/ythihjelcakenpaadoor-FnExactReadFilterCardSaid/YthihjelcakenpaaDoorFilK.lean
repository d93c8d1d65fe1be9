/-
  Chapter 6: tokens taken one by one (l6Take).
-/
import Derived.Test.YthihjelcakenpaaDoorFilJ
import Derived.Test.YthihjelcakenpaaDoorGc
namespace Go.Proofs.YthihjelcakenpaaDoor
open Go.RowKit

structure In6 (W : World) (g : Nat) (p : Option Addr) (l : List Tok) (cap at_ : Nat) (bad : Bool) : Prop where
  blk : W.heap[g]? = some (.cells #[.slice p l.length cap, .int .i64 at_, .bool bad] 65 (0, 0))
  rd : l = [] ∨ ∃ b off, p = some ⟨b, off, none⟩ ∧ b < g ∧ ∀ i t, l[i]? = some t → W.cell? ⟨b, off + i * 2, none⟩ = some (.int .i64 t.kind) ∧ W.cell? ⟨b, off + i * 2 + 1, none⟩ = some (sv t.text)

def takeV (l : List Tok) (at_ : Nat) (kind : Int) : Option (List UInt8) :=
  match l[at_]? with
  | some t => if t.kind = kind ∧ (kind = 1 ∨ t.text = []) then some t.text else none
  | none => none

theorem In6.set {W : World} {g cap at_ j : Nat} {p : Option Addr} {l : List Tok} {bad bad' : Bool} {at' : Nat} {u : Value} (h : In6 W g p l cap at_ bad) (hu : (#[.slice p l.length cap, .int .i64 at_, .bool bad] : Array Value).setIfInBounds j u = #[.slice p l.length cap, .int .i64 at', .bool bad']) : In6 (W.setCell ⟨g, j, none⟩ u) g p l cap at' bad' := by
  refine ⟨by rw [set_heap h.blk, hu], h.rd.imp id fun ⟨b, off, hp, hb, hc⟩ => ⟨b, off, hp, hb, fun i t ht => ?_⟩⟩
  obtain ⟨h1, h2⟩ := hc i t ht
  exact ⟨(World.cell?_setCell_other W _ _ _ (by intro e; injection e with e _; omega)).trans h1, (World.cell?_setCell_other W _ _ _ (by intro e; injection e with e _; omega)).trans h2⟩
theorem In6.drew {W : World} {g cap at_ : Nat} {p : Option Addr} {l : List Tok} {bad : Bool} (h : In6 W g p l cap at_ bad) : In6 W.drew g p l cap at_ bad := ⟨h.blk, h.rd⟩
def TakePost (W : World) (g : Nat) (p : Option Addr) (l : List Tok) (cap at_ : Nat) (bad : Bool) (kind : Int) (e : Ending) (w' : World) : Prop :=
  W.grownBy w' (some g) ∧ ((∃ x, takeV l at_ kind = some x ∧ e = .returned (sv x) ∧ In6 w' g p l cap (at_ + 1) bad) ∨ (takeV l at_ kind = none ∧ e = .returned (sv []) ∧ In6 w' g p l cap at_ true))

set_option maxHeartbeats 6400000 in
set_option maxRecDepth 4000 in
theorem l6Take_any (g cap at_ : Nat) (p : Option Addr) (l : List Tok) (bad : Bool) (kind : Int) (W : World) (h : In6 W g p l cap at_ bad) (hl : l.length ≤ 140737488355328) (ha : at_ ≤ l.length) :
    Calls Tryd.prog 37 #[.pointer (some ⟨g, 0, none⟩), .int .i64 kind] W fun e w' => TakePost W g p l cap at_ bad kind e w' := by
  have HI := Lib.hid h
  have q0 : W.cell? ⟨g, 0, none⟩ = some (.slice p l.length cap) := (Lib.cell_of_heap h.blk 0).trans rfl
  have q1 : W.cell? ⟨g, 1, none⟩ = some (.int .i64 at_) := (Lib.cell_of_heap h.blk 1).trans rfl
  have q2 : W.cell? ⟨g, 2, none⟩ = some (.bool bad) := (Lib.cell_of_heap h.blk 2).trans rfl
  have z1 : W.frozen? ⟨g, 1, none⟩ = false := Lib.frozen_of_heap h.blk 1
  have z2 : W.frozen? ⟨g, 2, none⟩ = false := Lib.frozen_of_heap h.blk 2
  have HG2 := Lib.hid (show W.grownBy (W.drew.setCell ⟨g, 2, none⟩ (.bool true)) (some g) from ⟨rfl, rfl, rfl, by simp, fun k _ hk => Below.heap_setCell W.drew _ _ k (by intro e; exact hk (by rw [show k = g from e]))⟩)
  have HG1 := Lib.hid (show W.grownBy (W.drew.setCell ⟨g, 1, none⟩ (.int .i64 ((at_ : Int) + 1))).drew (some g) from ⟨rfl, rfl, rfl, by simp, fun k _ hk => Below.heap_setCell W.drew _ _ k (by intro e; exact hk (by rw [show k = g from e]))⟩)
  have HN2 := Lib.hid (show In6 (W.drew.setCell ⟨g, 2, none⟩ (.bool true)) g p l cap at_ true from h.drew.set rfl)
  have d0 : W.drew.cell? ⟨g, 0, none⟩ = some (.slice p l.length cap) := q0
  have d1 : W.drew.cell? ⟨g, 1, none⟩ = some (.int .i64 at_) := q1
  have y2 : W.drew.cell? ⟨g, 2, none⟩ = some (.bool bad) := q2
  have y3 : W.drew.frozen? ⟨g, 2, none⟩ = false := z2
  have y4 : W.drew.frozen? ⟨g, 1, none⟩ = false := z1
  by_cases hlt : at_ < l.length
  · obtain ⟨b, off, rfl, hb, hcell⟩ := h.rd.resolve_left (by intro h; subst h; simp at hlt)
    obtain ⟨t, ht⟩ : ∃ t, l[at_]? = some t := ⟨_, List.getElem?_eq_getElem hlt⟩
    obtain ⟨e0, e1⟩ := hcell at_ t ht
    have f0 : W.drew.cell? ⟨b, off + at_ * 2, none⟩ = some (.int .i64 t.kind) := e0
    have f1 : W.drew.cell? ⟨b, off + at_ * 2 + 1, none⟩ = some (sv t.text) := e1
    have hV : takeV l at_ kind = if t.kind = kind ∧ (kind = 1 ∨ t.text = []) then some t.text else none := by unfold takeV; rw [ht]
    have HN1 := Lib.hid (show In6 (W.drew.setCell ⟨g, 1, none⟩ (.int .i64 ((at_ : Int) + 1))).drew g (some ⟨b, off, none⟩) l cap (at_ + 1) bad from (h.drew.set (j := 1) (by rfl)).drew)
    have k0 : (W.drew.setCell ⟨g, 1, none⟩ (.int .i64 ((at_ : Int) + 1))).drew.cell? ⟨g, 0, none⟩ = some (.slice (some ⟨b, off, none⟩) l.length cap) := (Lib.cell_of_heap HN1.out.blk 0).trans rfl
    have k1 : (W.drew.setCell ⟨g, 1, none⟩ (.int .i64 ((at_ : Int) + 1))).drew.cell? ⟨g, 1, none⟩ = some (.int .i64 ((at_ : Int) + 1)) := (Lib.cell_of_heap HN1.out.blk 1).trans rfl
    have k2 : (W.drew.setCell ⟨g, 1, none⟩ (.int .i64 ((at_ : Int) + 1))).drew.cell? ⟨b, off + at_ * 2 + 1, none⟩ = some (sv t.text) := (World.cell?_setCell_other W.drew _ _ _ (by intro e; injection e with e _; omega)).trans e1
    have hge : ¬ (l.length : Int) ≤ (at_ : Int) := by omega
    have hge2 : ¬ (at_ : Int) ≥ (l.length : Int) := by omega
    have hge3 : decide ((at_ : Int) ≥ (l.length : Int)) = false := decide_eq_false hge2
    have hge5 : ¬ l.length ≤ at_ := by omega
    have hwr : IntKind.i64.wrap (at_ : Int) = (at_ : Int) := IntWalk.i64_in _ (by omega)
    clear h hcell ht
    cases h1 : (t.kind == kind) with
    | false =>
      have h1n := ne_yes h1
      have HV := Lib.hid (hV.trans (if_neg (by intro e; rw [e.1] at h1; simp at h1)))
      clear hV
      go_enter Tryd.func37, Tryd.ntmps37
      go_wp2
      refine ord_start ((0, true) :: (1, true) :: (2, true) :: (3, true) :: (4, true) :: (5, true) :: (6, true) :: (7, true) :: (8, true) :: (9, true) :: (10, true) :: (11, true) :: (12, true) :: (13, true) :: (14, true) :: (15, true) :: (16, true) :: (17, true) :: (18, true) :: (19, true) :: (20, true) :: (21, true) :: (22, true) :: (23, true) :: (24, true) :: (25, true) :: (26, true) :: (27, true) :: (28, true) :: (29, true) :: (30, true) :: (31, true) :: (32, true) :: (33, true) :: (34, true) :: (35, true) :: (36, true) :: (37, true) :: (38, true) :: (39, true) :: (40, true) :: (41, true) :: (42, true) :: []) (fun W => W.cell? ⟨g, 0, none⟩ = some (.slice (some ⟨b, off, none⟩) l.length cap) ∧ W.cell? ⟨g, 1, none⟩ = some (.int .i64 at_) ∧ W.cell? ⟨b, off + at_ * 2, none⟩ = some (.int .i64 t.kind) ∧ W.cell? ⟨b, off + at_ * 2 + 1, none⟩ = some (sv t.text)) (by kernel_rfl) (by kernel_rfl) (by kernel_rfl) (by kernel_rfl) ?_
      intro ops' hops
      simp only [List.map_cons, List.map_nil, pickOp_zero, pickOp_succ]
      iterate 11 (refine ord_flo ?_ (fun _ _ _ h => h) rfl ?_ ⟨d0, d1, f0, f1⟩ ?_; rotate_left; focus (intro W hS; obtain ⟨s0, s1, s2, s3⟩ := hS; go_simp; rfl))
      iterate 13 (refine ord_flo ?_ (fun _ _ _ h => h) (by rw [hops.out]; kernel_rfl) ?_ ⟨d0, d1, f0, f1⟩ ?_; rotate_left; focus (intro W hS; obtain ⟨s0, s1, s2, s3⟩ := hS; go_simp; rfl))
      iterate 2 (refine ord_flo ?_ (fun _ _ _ h => h) rfl ?_ ⟨d0, d1, f0, f1⟩ ?_; rotate_left; focus (intro W hS; obtain ⟨s0, s1, s2, s3⟩ := hS; go_simp; rfl))
      iterate 16 (refine ord_not (fun _ _ _ h => h) (by rw [hops.out]; kernel_rfl) ⟨d0, d1, f0, f1⟩ ?_)
      iterate 1 (refine ord_flo ?_ (fun _ _ _ h => h) rfl ?_ ⟨d0, d1, f0, f1⟩ ?_; rotate_left; focus (intro W hS; obtain ⟨s0, s1, s2, s3⟩ := hS; go_simp; rfl))
      refine ord_done ?_
      go_simp
      go_wp2
      go_ret
      exact ⟨HG2.out, .inr ⟨HV.out, rfl, HN2.out⟩⟩
    | true =>
      have h1n := ne_not h1
      cases h2 : (kind == 1) with
      | true =>
        have h2n := ne_not h2
        have HV := Lib.hid (hV.trans (if_pos ⟨by simpa using h1, .inl (by simpa using h2)⟩))
        clear hV
        go_enter Tryd.func37, Tryd.ntmps37
        go_wp2
        refine ord_start ((0, true) :: (1, true) :: (2, true) :: (3, true) :: (4, true) :: (5, true) :: (6, true) :: (7, true) :: (8, true) :: (9, true) :: (10, true) :: (11, true) :: (12, true) :: (13, true) :: (14, true) :: (15, true) :: (16, true) :: (17, true) :: (18, true) :: (19, true) :: (20, true) :: (21, true) :: (22, true) :: (23, true) :: (24, true) :: (25, true) :: (26, true) :: (27, true) :: (28, true) :: (29, true) :: (30, true) :: (31, true) :: (32, true) :: (33, true) :: (34, true) :: (35, true) :: (36, true) :: (37, true) :: (38, true) :: (39, true) :: (40, true) :: (41, true) :: (42, true) :: []) (fun W => W.cell? ⟨g, 0, none⟩ = some (.slice (some ⟨b, off, none⟩) l.length cap) ∧ W.cell? ⟨g, 1, none⟩ = some (.int .i64 at_) ∧ W.cell? ⟨b, off + at_ * 2, none⟩ = some (.int .i64 t.kind) ∧ W.cell? ⟨b, off + at_ * 2 + 1, none⟩ = some (sv t.text)) (by kernel_rfl) (by kernel_rfl) (by kernel_rfl) (by kernel_rfl) ?_
        intro ops' hops
        simp only [List.map_cons, List.map_nil, pickOp_zero, pickOp_succ]
        iterate 11 (refine ord_flo ?_ (fun _ _ _ h => h) rfl ?_ ⟨d0, d1, f0, f1⟩ ?_; rotate_left; focus (intro W hS; obtain ⟨s0, s1, s2, s3⟩ := hS; go_simp; rfl))
        iterate 13 (refine ord_flo ?_ (fun _ _ _ h => h) (by rw [hops.out]; kernel_rfl) ?_ ⟨d0, d1, f0, f1⟩ ?_; rotate_left; focus (intro W hS; obtain ⟨s0, s1, s2, s3⟩ := hS; go_simp; rfl))
        iterate 2 (refine ord_flo ?_ (fun _ _ _ h => h) rfl ?_ ⟨d0, d1, f0, f1⟩ ?_; rotate_left; focus (intro W hS; obtain ⟨s0, s1, s2, s3⟩ := hS; go_simp; rfl))
        iterate 3 (refine ord_flo ?_ (fun _ _ _ h => h) (by rw [hops.out]; kernel_rfl) ?_ ⟨d0, d1, f0, f1⟩ ?_; rotate_left; focus (intro W hS; obtain ⟨s0, s1, s2, s3⟩ := hS; go_simp; rfl))
        iterate 12 (refine ord_not (fun _ _ _ h => h) (by rw [hops.out]; kernel_rfl) ⟨d0, d1, f0, f1⟩ ?_)
        iterate 1 (refine ord_flo ?_ (fun _ _ _ h => h) (by rw [hops.out]; kernel_rfl) ?_ ⟨d0, d1, f0, f1⟩ ?_; rotate_left; focus (intro W hS; obtain ⟨s0, s1, s2, s3⟩ := hS; go_simp; rfl))
        iterate 1 (refine ord_flo ?_ (fun _ _ _ h => h) rfl ?_ ⟨d0, d1, f0, f1⟩ ?_; rotate_left; focus (intro W hS; obtain ⟨s0, s1, s2, s3⟩ := hS; go_simp; rfl))
        refine ord_done ?_
        go_simp
        go_wp2
        refine ord_start [(0, true), (1, true), (2, true), (3, true), (4, true), (5, true), (6, true), (7, true), (8, true), (9, true), (10, true), (11, true), (12, true)] (fun W => W.cell? ⟨g, 0, none⟩ = some (.slice (some ⟨b, off, none⟩) l.length cap) ∧ W.cell? ⟨g, 1, none⟩ = some (.int .i64 ((at_ : Int) + 1)) ∧ W.cell? ⟨b, off + at_ * 2 + 1, none⟩ = some (sv t.text)) (by kernel_rfl) (by kernel_rfl) rfl (by kernel_rfl) ?_
        intro ops' hops
        clear hops
        simp only [List.map_cons, List.map_nil, pickOp_zero, pickOp_succ]
        iterate 9 (refine ord_flo ?_ (fun _ _ _ h => h) rfl ?_ ⟨k0, k1, k2⟩ ?_; rotate_left; focus (intro W hS; obtain ⟨s0, s1, s2⟩ := hS; go_simp; rfl))
        iterate 4 (refine ord_flo ?_ (fun _ _ _ h => h) rfl ?_ ⟨k0, k1, k2⟩ ?_; rotate_left; focus (intro W hS; obtain ⟨s0, s1, s2⟩ := hS; go_simp; rfl))
        refine ord_done ?_
        go_simp
        go_wp2
        go_ret
        exact ⟨HG1.out, .inl ⟨_, HV.out, rfl, HN1.out⟩⟩
      | false =>
        have h2n := ne_yes h2
        cases h3 : (t.text == ([] : List UInt8)) with
        | false =>
          have HV := Lib.hid (hV.trans (if_neg (by intro e; rcases e.2 with e | e; rw [e] at h2; simp at h2; rw [e] at h3; simp at h3)))
          clear hV
          go_enter Tryd.func37, Tryd.ntmps37
          go_wp2
          refine ord_start ((0, true) :: (1, true) :: (2, true) :: (3, true) :: (4, true) :: (5, true) :: (6, true) :: (7, true) :: (8, true) :: (9, true) :: (10, true) :: (11, true) :: (12, true) :: (13, true) :: (14, true) :: (15, true) :: (16, true) :: (17, true) :: (18, true) :: (19, true) :: (20, true) :: (21, true) :: (22, true) :: (23, true) :: (24, true) :: (25, true) :: (26, true) :: (27, true) :: (28, true) :: (29, true) :: (30, true) :: (31, true) :: (32, true) :: (33, true) :: (34, true) :: (35, true) :: (36, true) :: (37, true) :: (38, true) :: (39, true) :: (40, true) :: (41, true) :: (42, true) :: []) (fun W => W.cell? ⟨g, 0, none⟩ = some (.slice (some ⟨b, off, none⟩) l.length cap) ∧ W.cell? ⟨g, 1, none⟩ = some (.int .i64 at_) ∧ W.cell? ⟨b, off + at_ * 2, none⟩ = some (.int .i64 t.kind) ∧ W.cell? ⟨b, off + at_ * 2 + 1, none⟩ = some (sv t.text)) (by kernel_rfl) (by kernel_rfl) (by kernel_rfl) (by kernel_rfl) ?_
          intro ops' hops
          simp only [List.map_cons, List.map_nil, pickOp_zero, pickOp_succ]
          iterate 11 (refine ord_flo ?_ (fun _ _ _ h => h) rfl ?_ ⟨d0, d1, f0, f1⟩ ?_; rotate_left; focus (intro W hS; obtain ⟨s0, s1, s2, s3⟩ := hS; go_simp; rfl))
          iterate 13 (refine ord_flo ?_ (fun _ _ _ h => h) (by rw [hops.out]; kernel_rfl) ?_ ⟨d0, d1, f0, f1⟩ ?_; rotate_left; focus (intro W hS; obtain ⟨s0, s1, s2, s3⟩ := hS; go_simp; rfl))
          iterate 2 (refine ord_flo ?_ (fun _ _ _ h => h) rfl ?_ ⟨d0, d1, f0, f1⟩ ?_; rotate_left; focus (intro W hS; obtain ⟨s0, s1, s2, s3⟩ := hS; go_simp; rfl))
          iterate 3 (refine ord_flo ?_ (fun _ _ _ h => h) (by rw [hops.out]; kernel_rfl) ?_ ⟨d0, d1, f0, f1⟩ ?_; rotate_left; focus (intro W hS; obtain ⟨s0, s1, s2, s3⟩ := hS; go_simp; rfl))
          iterate 12 (refine ord_flo ?_ (fun _ _ _ h => h) (by rw [hops.out]; kernel_rfl) ?_ ⟨d0, d1, f0, f1⟩ ?_; rotate_left; focus (intro W hS; obtain ⟨s0, s1, s2, s3⟩ := hS; go_simp; rfl))
          iterate 1 (refine ord_flo ?_ (fun _ _ _ h => h) (by rw [hops.out]; kernel_rfl) ?_ ⟨d0, d1, f0, f1⟩ ?_; rotate_left; focus (intro W hS; obtain ⟨s0, s1, s2, s3⟩ := hS; go_simp; rfl))
          iterate 1 (refine ord_flo ?_ (fun _ _ _ h => h) rfl ?_ ⟨d0, d1, f0, f1⟩ ?_; rotate_left; focus (intro W hS; obtain ⟨s0, s1, s2, s3⟩ := hS; go_simp; rfl))
          refine ord_done ?_
          go_simp
          go_wp2
          go_ret
          exact ⟨HG2.out, .inr ⟨HV.out, rfl, HN2.out⟩⟩
        | true =>
          have HV := Lib.hid (hV.trans (if_pos ⟨by simpa using h1, .inr (by simpa using h3)⟩))
          clear hV
          go_enter Tryd.func37, Tryd.ntmps37
          go_wp2
          refine ord_start ((0, true) :: (1, true) :: (2, true) :: (3, true) :: (4, true) :: (5, true) :: (6, true) :: (7, true) :: (8, true) :: (9, true) :: (10, true) :: (11, true) :: (12, true) :: (13, true) :: (14, true) :: (15, true) :: (16, true) :: (17, true) :: (18, true) :: (19, true) :: (20, true) :: (21, true) :: (22, true) :: (23, true) :: (24, true) :: (25, true) :: (26, true) :: (27, true) :: (28, true) :: (29, true) :: (30, true) :: (31, true) :: (32, true) :: (33, true) :: (34, true) :: (35, true) :: (36, true) :: (37, true) :: (38, true) :: (39, true) :: (40, true) :: (41, true) :: (42, true) :: []) (fun W => W.cell? ⟨g, 0, none⟩ = some (.slice (some ⟨b, off, none⟩) l.length cap) ∧ W.cell? ⟨g, 1, none⟩ = some (.int .i64 at_) ∧ W.cell? ⟨b, off + at_ * 2, none⟩ = some (.int .i64 t.kind) ∧ W.cell? ⟨b, off + at_ * 2 + 1, none⟩ = some (sv t.text)) (by kernel_rfl) (by kernel_rfl) (by kernel_rfl) (by kernel_rfl) ?_
          intro ops' hops
          simp only [List.map_cons, List.map_nil, pickOp_zero, pickOp_succ]
          iterate 11 (refine ord_flo ?_ (fun _ _ _ h => h) rfl ?_ ⟨d0, d1, f0, f1⟩ ?_; rotate_left; focus (intro W hS; obtain ⟨s0, s1, s2, s3⟩ := hS; go_simp; rfl))
          iterate 13 (refine ord_flo ?_ (fun _ _ _ h => h) (by rw [hops.out]; kernel_rfl) ?_ ⟨d0, d1, f0, f1⟩ ?_; rotate_left; focus (intro W hS; obtain ⟨s0, s1, s2, s3⟩ := hS; go_simp; rfl))
          iterate 2 (refine ord_flo ?_ (fun _ _ _ h => h) rfl ?_ ⟨d0, d1, f0, f1⟩ ?_; rotate_left; focus (intro W hS; obtain ⟨s0, s1, s2, s3⟩ := hS; go_simp; rfl))
          iterate 3 (refine ord_flo ?_ (fun _ _ _ h => h) (by rw [hops.out]; kernel_rfl) ?_ ⟨d0, d1, f0, f1⟩ ?_; rotate_left; focus (intro W hS; obtain ⟨s0, s1, s2, s3⟩ := hS; go_simp; rfl))
          iterate 12 (refine ord_flo ?_ (fun _ _ _ h => h) (by rw [hops.out]; kernel_rfl) ?_ ⟨d0, d1, f0, f1⟩ ?_; rotate_left; focus (intro W hS; obtain ⟨s0, s1, s2, s3⟩ := hS; go_simp; rfl))
          iterate 1 (refine ord_flo ?_ (fun _ _ _ h => h) (by rw [hops.out]; kernel_rfl) ?_ ⟨d0, d1, f0, f1⟩ ?_; rotate_left; focus (intro W hS; obtain ⟨s0, s1, s2, s3⟩ := hS; go_simp; rfl))
          iterate 1 (refine ord_flo ?_ (fun _ _ _ h => h) rfl ?_ ⟨d0, d1, f0, f1⟩ ?_; rotate_left; focus (intro W hS; obtain ⟨s0, s1, s2, s3⟩ := hS; go_simp; rfl))
          refine ord_done ?_
          go_simp
          go_wp2
          refine ord_start [(0, true), (1, true), (2, true), (3, true), (4, true), (5, true), (6, true), (7, true), (8, true), (9, true), (10, true), (11, true), (12, true)] (fun W => W.cell? ⟨g, 0, none⟩ = some (.slice (some ⟨b, off, none⟩) l.length cap) ∧ W.cell? ⟨g, 1, none⟩ = some (.int .i64 ((at_ : Int) + 1)) ∧ W.cell? ⟨b, off + at_ * 2 + 1, none⟩ = some (sv t.text)) (by kernel_rfl) (by kernel_rfl) rfl (by kernel_rfl) ?_
          intro ops' hops
          clear hops
          simp only [List.map_cons, List.map_nil, pickOp_zero, pickOp_succ]
          iterate 9 (refine ord_flo ?_ (fun _ _ _ h => h) rfl ?_ ⟨k0, k1, k2⟩ ?_; rotate_left; focus (intro W hS; obtain ⟨s0, s1, s2⟩ := hS; go_simp; rfl))
          iterate 4 (refine ord_flo ?_ (fun _ _ _ h => h) rfl ?_ ⟨k0, k1, k2⟩ ?_; rotate_left; focus (intro W hS; obtain ⟨s0, s1, s2⟩ := hS; go_simp; rfl))
          refine ord_done ?_
          go_simp
          go_wp2
          go_ret
          exact ⟨HG1.out, .inl ⟨_, HV.out, rfl, HN1.out⟩⟩
  · obtain rfl : at_ = l.length := by omega
    have HV := Lib.hid (show takeV l l.length kind = none by unfold takeV; rw [List.getElem?_eq_none (Nat.le_refl _)])
    clear h
    have hge3 : decide (((l.length : Nat) : Int) ≥ (l.length : Int)) = true := by simp
    go_enter Tryd.func37, Tryd.ntmps37
    go_wp2
    refine ord_start ((0, true) :: (1, true) :: (2, true) :: (3, true) :: (4, true) :: (5, true) :: (6, true) :: (7, true) :: (8, true) :: (9, true) :: (10, true) :: (11, true) :: (12, true) :: (13, true) :: (14, true) :: (15, true) :: (16, true) :: (17, true) :: (18, true) :: (19, true) :: (20, true) :: (21, true) :: (22, true) :: (23, true) :: (24, true) :: (25, true) :: (26, true) :: (27, true) :: (28, true) :: (29, true) :: (30, true) :: (31, true) :: (32, true) :: (33, true) :: (34, true) :: (35, true) :: (36, true) :: (37, true) :: (38, true) :: (39, true) :: (40, true) :: (41, true) :: (42, true) :: []) (fun W => W.cell? ⟨g, 0, none⟩ = some (.slice p l.length cap) ∧ W.cell? ⟨g, 1, none⟩ = some (.int .i64 (l.length : Nat))) (by kernel_rfl) (by kernel_rfl) (by kernel_rfl) (by kernel_rfl) ?_
    intro ops' hops
    simp only [List.map_cons, List.map_nil, pickOp_zero, pickOp_succ]
    iterate 11 (refine ord_flo ?_ (fun _ _ _ h => h) rfl ?_ ⟨d0, d1⟩ ?_; rotate_left; focus (intro W hS; obtain ⟨s0, s1⟩ := hS; go_simp; rfl))
    iterate 13 (refine ord_not (fun _ _ _ h => h) (by rw [hops.out]; kernel_rfl) ⟨d0, d1⟩ ?_)
    iterate 2 (refine ord_flo ?_ (fun _ _ _ h => h) rfl ?_ ⟨d0, d1⟩ ?_; rotate_left; focus (intro W hS; obtain ⟨s0, s1⟩ := hS; go_simp; rfl))
    iterate 16 (refine ord_not (fun _ _ _ h => h) (by rw [hops.out]; kernel_rfl) ⟨d0, d1⟩ ?_)
    iterate 1 (refine ord_flo ?_ (fun _ _ _ h => h) rfl ?_ ⟨d0, d1⟩ ?_; rotate_left; focus (intro W hS; obtain ⟨s0, s1⟩ := hS; go_simp; rfl))
    refine ord_done ?_
    go_simp
    go_wp2
    go_ret
    exact ⟨HG2.out, .inr ⟨HV.out, rfl, HN2.out⟩⟩

end Go.Proofs.YthihjelcakenpaaDoor
