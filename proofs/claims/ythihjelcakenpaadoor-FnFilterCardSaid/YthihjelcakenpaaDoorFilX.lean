/-
  Chapter 6's draws: a scope.
-/
import Derived.Test.YthihjelcakenpaaDoorGh
import Derived.Test.YthihjelcakenpaaDoorGf
import Derived.Test.YthihjelcakenpaaDoorGa
import Derived.Test.YthihjelcakenpaaDoorSetE
import Derived.Deep.DeepCutAuto
import Derived.Test.YthihjelcakenpaaDoorFilN
import Derived.Handy
namespace Go.Proofs.YthihjelcakenpaaDoor
open Go.RowKit

/-- A scope was drawn: its names are the call's own. -/
def ScpPost (g : Nat) (code : List UInt8) (w : World) (e : Ending) (w' : World) : Prop :=
  ∃ (s : Scp) (vn : Value), e = .returned (.agg #[.int .i64 s.kind, vn, .int .i64 s.events]) ∧ (1 ≤ s.kind ∧ s.kind ≤ 4) ∧ (1 ≤ s.events ∧ s.events ≤ 15) ∧ s.names.length ≤ 2 ∧ (∀ x ∈ s.names, x.length ≤ 41) ∧
    w'.ownsRow w.heap.size 9 1 vn s.names.length (s.names.map sv) ∧ Cur w' g code ∧ w.grownBy w' (some g)

/-- The scope's variable lies in block B, the result's place in block R. -/
structure SB (w : World) (B R : Nat) (k ev : Int) (vn : Value) : Prop where
  b : w.heap[B]? = some (.cells #[.int .i64 k, vn, .int .i64 ev] 55 (0, 0))
  r : w.heap[R]? = some (.cells #[.int .i64 0, .slice none 0 0, .int .i64 0] 55 (0, 0))
theorem SB.grown {w w1 : World} {B R : Nat} {k ev : Int} {vn : Value} {row : Option Nat} (h : SB w B R k ev vn) (hg : w.grownBy w1 row) (hB : some B ≠ row) (hR : some R ≠ row) : SB w1 B R k ev vn :=
  ⟨(hg.block B (Array.getElem?_eq_some_iff.1 h.b).1 hB).trans h.b, (hg.block R (Array.getElem?_eq_some_iff.1 h.r).1 hR).trans h.r⟩
theorem SB.put {w : World} {B R : Nat} {k ev : Int} {vn : Value} (h : SB w B R k ev vn) (hne : ¬ R = B) (u : Value) : SB (w.setCell ⟨B, 1, none⟩ u) B R k ev u :=
  ⟨set_heap h.b, (set_other (by intro e; exact hne e)).trans h.r⟩
theorem SB.cells {w : World} {B R : Nat} {k ev : Int} {vn : Value} (h : SB w B R k ev vn) :
    w.cell? ⟨B, 0, none⟩ = some (.int .i64 k) ∧ w.cell? ⟨B, 1, none⟩ = some vn ∧ w.cell? ⟨B, 2, none⟩ = some (.int .i64 ev) ∧ w.frozen? ⟨B, 1, none⟩ = false :=
  ⟨(Lib.cell_of_heap h.b 0).trans rfl, (Lib.cell_of_heap h.b 1).trans rfl, (Lib.cell_of_heap h.b 2).trans rfl, Lib.frozen_of_heap h.b 1⟩

theorem blk_3s {w : World} {b : Nat} {x0 x1 x2 : Value} {e : TypeId} (h : w.heap[b]? = some (.cells #[x0, x1, x2] e (0, 0))) :
    (w.cell? ⟨b, 0, none⟩ = some x0 ∧ w.cell? ⟨b, 1, none⟩ = some x1 ∧ w.cell? ⟨b, 2, none⟩ = some x2) ∧ (w.frozen? ⟨b, 0, none⟩ = false ∧ w.frozen? ⟨b, 1, none⟩ = false ∧ w.frozen? ⟨b, 2, none⟩ = false) ∧
    (∀ v, (w.setCell ⟨b, 0, none⟩ v).cell? ⟨b, 0, none⟩ = some v) ∧ (∀ v v', ((w.setCell ⟨b, 0, none⟩ v).setCell ⟨b, 1, none⟩ v').cell? ⟨b, 1, none⟩ = some v') ∧ (∀ v v' v'', (((w.setCell ⟨b, 0, none⟩ v).setCell ⟨b, 1, none⟩ v').setCell ⟨b, 2, none⟩ v'').cell? ⟨b, 2, none⟩ = some v'') := by
  refine ⟨⟨(Lib.cell_of_heap h 0).trans rfl, (Lib.cell_of_heap h 1).trans rfl, (Lib.cell_of_heap h 2).trans rfl⟩, ⟨Lib.frozen_of_heap h 0, Lib.frozen_of_heap h 1, Lib.frozen_of_heap h 2⟩, fun v => ?_, fun v v' => ?_, fun v v' v'' => ?_⟩
  · exact (Lib.cell_of_heap (set_heap h) 0).trans rfl
  · exact (Lib.cell_of_heap (set_heap (set_heap h)) 1).trans rfl
  · exact (Lib.cell_of_heap (set_heap (set_heap (set_heap h))) 2).trans rfl
theorem scp_done {g : Nat} {code : List UInt8} {w X : World} {s : Scp} {vn a b c : Value} (hk : 1 ≤ s.kind ∧ s.kind ≤ 4) (he : 1 ≤ s.events ∧ s.events ≤ 15) (hl : s.names.length ≤ 2) (hx : ∀ x ∈ s.names, x.length ≤ 41)
    (ho : X.ownsRow (w.heap.size + 1) 9 1 vn s.names.length (s.names.map sv)) (hc : Cur X g code) (hlt : g < w.heap.size) (hg : w.grownBy X (some g)) :
    ScpPost g code w (.returned (.agg #[.int .i64 s.kind, vn, .int .i64 s.events])) (((X.setCell ⟨w.heap.size, 0, none⟩ a).setCell ⟨w.heap.size, 1, none⟩ b).setCell ⟨w.heap.size, 2, none⟩ c) := by
  have hne : ∀ k, vn.ownBlock = some k → k ≠ w.heap.size := fun k hk => by have := (ho.lt k hk).1; omega
  have ho' : X.ownsRow w.heap.size 9 1 vn s.names.length (s.names.map sv) := ⟨ho.1, ho.2.imp id fun ⟨g, cap, cur, h1, h2, h3⟩ => ⟨g, cap, cur, h1, by omega, h3⟩⟩
  exact ⟨s, vn, rfl, hk, he, hl, hx, own_put2 (own_put2 (own_put2 ho' hne) hne) hne, ((hc.put hlt 0 a).put hlt 1 b).put hlt 2 c, grown_put (grown_put (grown_put hg (Nat.le_refl _) 0 a) (Nat.le_refl _) 1 b) (Nat.le_refl _) 2 c⟩

set_option maxHeartbeats 3200000 in
theorem l6Scope_any (g : Nat) (code : List UInt8) (w : World) (hc : Cur w g code) :
    Calls Tryd.prog 59 #[.pointer (some ⟨g, 0, none⟩)] w fun e w' => ScpPost g code w e w' := by
  have hlt := hc.lt
  have hc0 : Cur (w.alloc (.cells #[.int .i64 0, .slice none 0 0, .int .i64 0] 55)) g code := hc.below ((Below.refl _ _).alloc (Nat.le_refl _) _)
  have hg0 : w.grownBy (w.alloc (.cells #[.int .i64 0, .slice none 0 0, .int .i64 0] 55)) (some g) := World.grownBy_alloc w _ (some g)
  have hr0 := heap_alloc_new w (.cells #[.int .i64 0, .slice none 0 0, .int .i64 0] 55)
  have hz0 : (w.alloc (.cells #[.int .i64 0, .slice none 0 0, .int .i64 0] 55)).heap.size = w.heap.size + 1 := by simp
  have HC := Lib.hid hc0
  have HR := Lib.hid hr0
  have HZ := Lib.hid hz0
  clear hc hc0 hr0 hz0
  go_enter Tryd.func59, Tryd.ntmps59
  go_wp2_with fail
  refine (l1Below_any g code _ 4 (by omega) _ HC.out (by omega) (by omega)).mono ?_
  rintro e w1 ⟨x, rfl, hx, hc1, hg1⟩
  have hr1 := (hg1.block w.heap.size (by rw [HZ.out]; omega) (by intro e; injection e with e; omega)).trans HR.out
  have hz1 := hg1.size
  rw [HZ.out] at hz1
  have hgg := grown_grown hg0 hg1
  clear HC HR hg0 hg1 HZ
  have hwx : IntKind.i64.wrap (1 + (x : Int)) = 1 + (x : Int) := IntWalk.i64_in _ (by omega)
  go_wp2_with fail
  refine (l1Below_any g code _ 15 (by omega) _ hc1 (by omega) (by omega)).mono ?_
  rintro e w2 ⟨y, rfl, hy, hc2, hg2⟩
  have hr2 := (hg2.block w.heap.size (by omega) (by intro e; injection e with e; omega)).trans hr1
  have hz2 := hg2.size
  have hgg2 := grown_grown hgg hg2
  have hlt2 := hc2.lt
  have hwy : IntKind.i64.wrap (1 + (y : Int)) = 1 + (y : Int) := IntWalk.i64_in _ (by omega)
  clear hc1 hr1 hgg hg2
  have hz3 : w.heap.size + 1 ≤ w2.heap.size := by omega
  have hc3 : Cur (w2.alloc (.cells #[.int .i64 (1 + (x : Int)), .slice none 0 0, .int .i64 (1 + (y : Int))] 55)) g code := hc2.below ((Below.refl _ _).alloc (Nat.le_refl _) _)
  have hg3 : w.grownBy (w2.alloc (.cells #[.int .i64 (1 + (x : Int)), .slice none 0 0, .int .i64 (1 + (y : Int))] 55)) (some g) := grown_grown hgg2 (World.grownBy_alloc w2 _ (some g))
  have hsb : SB (w2.alloc (.cells #[.int .i64 (1 + (x : Int)), .slice none 0 0, .int .i64 (1 + (y : Int))] 55)) w2.heap.size w.heap.size (1 + (x : Int)) (1 + (y : Int)) (.slice none 0 0) :=
    ⟨heap_alloc_new w2 _, (Below.heap_alloc _ _ _ (by omega)).trans hr2⟩
  have hzb : (w2.alloc (.cells #[.int .i64 (1 + (x : Int)), .slice none 0 0, .int .i64 (1 + (y : Int))] 55)).heap.size = w2.heap.size + 1 := by simp
  clear hc2 hgg2 hr2
  go_upto_if 13 with fail
  generalize (w2.alloc (.cells #[.int .i64 (1 + (x : Int)), .slice none 0 0, .int .i64 (1 + (y : Int))] 55)) = X at *
  have hgB : ¬ w2.heap.size = g := by omega
  have hgR : ¬ w.heap.size = g := by omega
  have hRB : ¬ w.heap.size = w2.heap.size := by omega
  have hXlt : g < w2.heap.size := hlt2
  obtain ⟨B, hB⟩ : ∃ B, w2.heap.size = B := ⟨_, rfl⟩
  rw [hB] at hsb hzb hgB hRB hz3 hXlt ⊢
  clear hB hz2 hlt2
  by_cases hk : (1 + (x : Int)) < 3
  · obtain ⟨c0, c1, c2⟩ := blk_three hsb.b
    obtain ⟨⟨r0, r1, r2⟩, ⟨f0, f1, f2⟩, s0, s1, s2⟩ := blk_3s hsb.r
    clear hsb
    go_wp2
    exact bodyPost_ret (v := .agg #[.int .i64 (1 + (x : Int)), .slice none 0 0, .int .i64 (1 + (y : Int))]) (by simp [results, Tryd.results59, go_sem, s0, s1, s2]) rfl
      (scp_done (s := ⟨1 + (x : Int), [], 1 + (y : Int)⟩) (by simp only; omega) (by simp only; omega) (by simp) (by simp) (World.ownsRow_nil _ _ _ _) hc3 hlt hg3)
  have hk3 : (3 : Int) ≤ 1 + (x : Int) := by omega
  have hdb := hsb.grown (show X.grownBy X.drew (some g) from ⟨rfl, rfl, rfl, Nat.le_refl _, fun _ _ _ => rfl⟩) (by intro e; injection e with e; exact hgB e) (by intro e; injection e with e; exact hgR e)
  have hdc := hc3.drew
  have hdg := grown_drew hg3
  have hdz : X.drew.heap.size = B + 1 := hzb
  have hcc := hsb.cells
  obtain ⟨c0, c1, c2, cf⟩ := hcc
  clear hsb hc3 hg3
  go_wp2
  clear c0 c1 c2 cf
  refine ordT_start (OTree.flo 0 (.flo 2 (.late 1 3 4 (.ev 5 (.flo 6 (.ev 7 .nil)))))) (fun _ => True) (by kernel_rfl) (by kernel_rfl) rfl (by kernel_rfl) ?_
  intro ops' hops
  generalize X.drew = W0 at *
  have g0 := get_of hops 0
  have g1 := get_of hops 1
  have g2 := get_of hops 2
  have g3 := get_of hops 3
  have g4 := get_of hops 4
  have g5 := get_of hops 5
  have g6 := get_of hops 6
  have g7 := get_of hops 7
  simp only [List.getElem?_toArray, List.getElem?_cons_zero, List.getElem?_cons_succ] at g0 g1 g2 g3 g4 g5 g6 g7
  refine ordT_flo _ g0 ?_ (fun _ _ _ h => h) rfl ?_ trivial ?_; rotate_left; focus (intro _ _; go_simp; rfl)
  refine ordT_flo _ g2 ?_ (fun _ _ _ h => h) rfl ?_ trivial ?_; rotate_left; focus (intro _ _; go_simp; rfl)
  obtain ⟨c0, c1, c2, cf⟩ := hdb.cells
  refine ordT_late (fun W => W.cell? ⟨B, 1, none⟩ = some (.slice none 0 0)) _ _ _ g1 g3 g4 (by rw [hops.out]; kernel_rfl) (by rw [hops.out]; kernel_rfl) (.slice none 0 0) (fun _ _ _ h => h) rfl ?_ c1 trivial rfl ?_
  · intro W hS
    go_simp
  clear c0 c1 c2 cf
  go_simp
  refine (l2Name_any g code _ hdc).mono ?_
  rintro e w3 ⟨u, rfl, hul, hc4, hg4⟩
  replace hdb := hdb.grown hg4 (by intro e; injection e with e; exact hgB e) (by intro e; injection e with e; exact hgR e)
  replace hdg := grown_grown hdg hg4
  have hz4 := hg4.size
  rw [hdz] at hz4
  obtain ⟨c0, c1, c2, cf⟩ := hdb.cells
  clear hg4 hdc
  refine ⟨c1, ?_⟩
  clear c0 c1 c2 cf
  refine LateK.of rfl ?_
  have hd5 := hdb.grown (World.grownBy_alloc w3 (.cells #[sv u] 9) none) (by simp) (by simp)
  have c1 := hd5.cells.2.1
  go_simp
  clear c1 hd5
  refine ordT_ev _ g5 rfl ?_
  refine wp_app1 Tryd.el_string (.tmp 15) (.tmp 18) rfl w3 w3 (.slice none 0 0) 0 [] rfl (World.ownsRow_nil _ (w.heap.size + 1) _ _) (Below.refl _ _) (by omega) #[sv u] (.inr rfl) 1 1 rfl rfl (by simp [Value.oneCell', sv]) (by omega) (by omega) (by omega) ?_
  intro gn cap w5 ho5 hb5 hg5 hor5 hlt5
  have hc5 := hc4.grown hg5 (fun k hk => by cases hk)
  have hd5 := hdb.grown hg5 (by simp [Value.ownBlock]) (by simp [Value.ownBlock])
  have hdg5 := grown_grown hdg (show w3.grownBy w5 (some g) from ⟨hg5.os, hg5.tape, hg5.output, hg5.size, fun k hk _ => hg5.block k hk (by simp [Value.ownBlock])⟩)
  have hgnB : ¬ gn = B := by
    rcases hor5 with h | h
    · cases h
    · omega
  have hz5 := hg5.size
  clear hb5 hg5 hor5 hdb hc4 hdg
  refine ⟨trivial, ?_⟩
  refine ordT_flo _ g6 ?_ (fun _ _ _ h => h) rfl ?_ trivial ?_; rotate_left; focus (intro _ _; go_simp; rfl)
  obtain ⟨c0, c1, c2, cf⟩ := hd5.cells
  refine ordT_ev _ g7 rfl ?_
  go_simp
  clear c0 c1 c2 cf
  refine ordT_done ?_
  clear hops g0 g1 g2 g3 g4 g5 g6 g7
  have hd6 := hd5.put hRB (.slice (some ⟨gn, 0, none⟩) 1 cap)
  have ho6 : (w5.setCell ⟨B, 1, none⟩ (.slice (some ⟨gn, 0, none⟩) 1 cap)).ownsRow (w.heap.size + 1) 9 1 (.slice (some ⟨gn, 0, none⟩) 1 cap) 1 [sv u] := own_put2 ho5 (fun k hk => by simp [Value.ownBlock] at hk; omega)
  have hc6 := hc5.put hXlt 1 (.slice (some ⟨gn, 0, none⟩) 1 cap)
  have hg6 := grown_put hdg5 (show w.heap.size ≤ B by omega) 1 (.slice (some ⟨gn, 0, none⟩) 1 cap)
  have hz6 : B + 1 ≤ (w5.setCell ⟨B, 1, none⟩ (.slice (some ⟨gn, 0, none⟩) 1 cap)).heap.size := by simp; omega
  clear hd5 ho5 hc5 hdg5
  generalize (w5.setCell ⟨B, 1, none⟩ (.slice (some ⟨gn, 0, none⟩) 1 cap)) = X2 at *
  go_wp2_with fail
  refine (l1Once_any g code _ 3 (by omega) _ hc6 (by omega) (by omega)).mono ?_
  rintro e w7 ⟨b, rfl, hc7, hg7⟩
  have hd7 := hd6.grown hg7 (by intro e; injection e with e; exact hgB e) (by intro e; injection e with e; exact hgR e)
  have ho7 := own_draw ho6 (by omega) hg7
  have hgg7 := grown_grown hg6 hg7
  have hz7 := hg7.size
  clear hd6 ho6 hc6 hg6 hg7
  cases b with
  | true =>
    have hd8 := hd7.grown (World.grownBy_alloc w7 (.cells #[.string ⟨#[97]⟩, .string ⟨#[105, 110, 98, 111, 120]⟩] 9) none) (by simp) (by simp)
    have hc8 : Cur (w7.alloc (.cells #[.string ⟨#[97]⟩, .string ⟨#[105, 110, 98, 111, 120]⟩] 9)) g code := hc7.below ((Below.refl _ _).alloc (Nat.le_refl _) _)
    have hg8 := grown_grown hgg7 (World.grownBy_alloc w7 (.cells #[.string ⟨#[97]⟩, .string ⟨#[105, 110, 98, 111, 120]⟩] 9) (some g))
    have ho8 : (w7.alloc (.cells #[.string ⟨#[97]⟩, .string ⟨#[105, 110, 98, 111, 120]⟩] 9)).ownsRow (w.heap.size + 1) 9 1 (.slice (some ⟨w7.heap.size, 0, none⟩) 2 2) 2 [sv [97], sv [105, 110, 98, 111, 120]] :=
      ⟨rfl, .inr ⟨w7.heap.size, 2, _, rfl, by omega, heap_alloc_new w7 _, by omega, by unfold maxLen; omega, rfl, rfl⟩⟩
    have hz8 : ¬ w7.heap.size = B := by omega
    clear hd7 ho7 hc7 hgg7
    obtain ⟨c0, c1, c2, cf⟩ := id hd8.cells
    have hd9 := hd8.put hRB (.slice (some ⟨w7.heap.size, 0, none⟩) 2 2)
    have ho9 := own_put2 (b := B) (j := 1) (x := .slice (some ⟨w7.heap.size, 0, none⟩) 2 2) ho8 (fun k hk => by simp [Value.ownBlock] at hk; omega)
    have hc9 := hc8.put hXlt 1 (.slice (some ⟨w7.heap.size, 0, none⟩) 2 2)
    have hg9 := grown_put hg8 (show w.heap.size ≤ B by omega) 1 (.slice (some ⟨w7.heap.size, 0, none⟩) 2 2)
    clear hd8 ho8 hc8 hg8
    go_upto_region 6 with fail
    generalize ((w7.alloc (.cells #[.string ⟨#[97]⟩, .string ⟨#[105, 110, 98, 111, 120]⟩] 9)).setCell ⟨B, 1, none⟩ (.slice (some ⟨w7.heap.size, 0, none⟩) 2 2)) = X3 at *
    clear c0 c1 c2 cf
    obtain ⟨c0, c1, c2⟩ := blk_three hd9.b
    obtain ⟨⟨r0, r1, r2⟩, ⟨f0, f1, f2⟩, s0, s1, s2⟩ := blk_3s hd9.r
    clear hd9
    go_wp2
    exact bodyPost_ret (v := .agg #[.int .i64 (1 + (x : Int)), .slice (some ⟨w7.heap.size, 0, none⟩) 2 2, .int .i64 (1 + (y : Int))]) (by simp [results, Tryd.results59, go_sem, s0, s1, s2]) rfl
      (scp_done (s := ⟨1 + (x : Int), [[97], [105, 110, 98, 111, 120]], 1 + (y : Int)⟩) (by simp only; omega) (by simp only; omega) (by simp) (by simp) ho9 hc9 hlt hg9)
  | false =>
    obtain ⟨c0, c1, c2⟩ := blk_three hd7.b
    obtain ⟨⟨r0, r1, r2⟩, ⟨f0, f1, f2⟩, s0, s1, s2⟩ := blk_3s hd7.r
    clear hd7
    go_wp2
    exact bodyPost_ret (v := .agg #[.int .i64 (1 + (x : Int)), .slice (some ⟨gn, 0, none⟩) 1 cap, .int .i64 (1 + (y : Int))]) (by simp [results, Tryd.results59, go_sem, s0, s1, s2]) rfl
      (scp_done (s := ⟨1 + (x : Int), [u], 1 + (y : Int)⟩) (by simp only; omega) (by simp only; omega) (by simp) (by simpa using hul) ho7 hc7 hlt hgg7)

end Go.Proofs.YthihjelcakenpaaDoor
