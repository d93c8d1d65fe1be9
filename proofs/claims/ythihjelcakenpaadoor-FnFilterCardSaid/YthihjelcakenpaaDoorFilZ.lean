/-
  Chapter 6's draws: a filter.
-/
import Derived.Test.YthihjelcakenpaaDoorFilY
namespace Go.Proofs.YthihjelcakenpaaDoor
open Go.RowKit

theorem notrow {b g : Nat} (h : ¬ b = g) : some b ≠ some g := by intro e; injection e with e; exact h e

set_option maxHeartbeats 3200000 in
theorem l6Right_any (g : Nat) (code : List UInt8) (w : World) (hc : Cur w g code) :
    Calls Tryd.prog 33 #[.pointer (some ⟨g, 0, none⟩)] w fun e w' => FltDrawn 3 2 g code w e w' := by
  have hlt := hc.lt
  have hc0 : Cur (w.alloc (.cells #[.bool false, .slice none 0 0] 26)) g code := hc.below ((Below.refl _ _).alloc (Nat.le_refl _) _)
  have hg0 : w.grownBy (w.alloc (.cells #[.bool false, .slice none 0 0] 26)) (some g) := World.grownBy_alloc w _ (some g)
  have hr0 := heap_alloc_new w (.cells #[.bool false, .slice none 0 0] 26)
  have hz0 : (w.alloc (.cells #[.bool false, .slice none 0 0] 26)).heap.size = w.heap.size + 1 := by simp
  have HC := Lib.hid hc0
  have HR := Lib.hid hr0
  have HZ := Lib.hid hz0
  clear hc hc0 hr0 hz0
  go_enter Tryd.func33, Tryd.ntmps33
  go_wp2_with fail
  refine (l1Once_any g code _ 5 (by omega) _ HC.out (by omega) (by omega)).mono ?_
  rintro e w1 ⟨b, rfl, hc1, hg1⟩
  have hr1 := (hg1.block w.heap.size (by rw [HZ.out]; omega) (by intro e; injection e with e; omega)).trans HR.out
  have hz1 := hg1.size
  rw [HZ.out] at hz1
  have hgg := grown_grown hg0 hg1
  clear HC HR hg0 hg1 HZ
  obtain ⟨on, hon⟩ : ∃ on, (!b) = on := ⟨_, rfl⟩
  go_upto_region 2 with fail
  clear hon
  have hdf : DfS w g code w1.heap.size on (.slice none 0 0) [] [] (w1.alloc (.cells #[.bool on, .slice none 0 0] 26)) :=
    ⟨hc1.below ((Below.refl _ _).alloc (Nat.le_refl _) _), heap_alloc_new w1 _, (Below.heap_alloc _ _ _ (by omega)).trans hr1, ⟨⟨rfl, [], [], World.ownsRow_nil _ _ _ _, ⟨rfl, rfl⟩, rfl⟩, List.nodup_nil, fun _ h => (by cases h)⟩,
      grown_grown hgg (World.grownBy_alloc w1 _ (some g)), hlt, by omega, by simp⟩
  generalize (w1.alloc (.cells #[.bool on, .slice none 0 0] 26)) = X at *
  clear hc1 hgg hr1
  obtain ⟨cf, hcf⟩ : ∃ cf, w1.heap.size = cf := ⟨_, rfl⟩
  rw [hcf] at hdf hz1 ⊢
  clear hcf
  go_wp2_with fail
  refine (l1Below_any g code _ 3 (by omega) _ hdf.cur (by omega) (by omega)).mono ?_
  rintro e w2 ⟨x, rfl, hx, hc2, hg2⟩
  have hdf2 := hdf.draw hg2 hc2
  clear hdf hg2 hc2
  have hwx : IntKind.i64.wrap (1 + (x : Int)) = 1 + (x : Int) := IntWalk.i64_in _ (by omega)
  go_wp2
  go_loopw [5] (fun i wr => ∃ (k : Nat) (vsc : Value) (scs : List Scp) (fp : List Nat), k ≤ x + 1 ∧ i = .int .i64 k ∧ scs.length = k ∧ (∀ s ∈ scs, ScB 2 s) ∧ DfS w g code cf on vsc scs fp wr) (fun i _ => x + 1 - (intOf i).toNat)
  case atStart => exact ⟨0, _, [], [], by omega, rfl, rfl, by simp, hdf2⟩
  case round =>
    obtain ⟨k, vsc, scs, fp, hk, rfl, hsk, hsb, hdf⟩ := hrel
    obtain ⟨psc, csc, rfl, _⟩ := scps_at hdf.tree.rd
    have HSB := Lib.hid hsb
    have HSK := Lib.hid hsk
    clear hsb hsk hdf2
    obtain ⟨⟨r0, r1⟩, f0, f1, s0, s1⟩ : ((wr.cell? ⟨w.heap.size, 0, none⟩ = some (.bool false) ∧ wr.cell? ⟨w.heap.size, 1, none⟩ = some (.slice none 0 0)) ∧ wr.frozen? ⟨w.heap.size, 0, none⟩ = false ∧ wr.frozen? ⟨w.heap.size, 1, none⟩ = false ∧ (∀ v, (wr.setCell ⟨w.heap.size, 0, none⟩ v).cell? ⟨w.heap.size, 0, none⟩ = some v) ∧ (∀ v v', ((wr.setCell ⟨w.heap.size, 0, none⟩ v).setCell ⟨w.heap.size, 1, none⟩ v').cell? ⟨w.heap.size, 1, none⟩ = some v')) := by
      obtain ⟨a0, a1, a2, a3, a4, a5⟩ := blk_two6 hdf.blkr
      exact ⟨⟨a0, a1⟩, a2, a3, a4, a5⟩
    obtain ⟨c0, c1, _, cfz⟩ := hdf.cells
    by_cases hlt2 : k < x + 1
    · have hlt3 : (k : Int) < 1 + (x : Int) := by omega
      cases on with
      | true =>
        clear r0 r1 f0 f1 s0 s1
        have hdd := hdf.drew
        clear hdf
        go_wp2
        clear c0 c1 cfz
        refine ordT_start (OTree.flo 0 (.flo 2 (.late 1 3 4 (.ev 5 (.flo 6 (.ev 7 .nil)))))) (fun _ => True) (by kernel_rfl) (by kernel_rfl) rfl (by kernel_rfl) ?_
        intro ops' hops
        generalize wr.drew = W0 at *
        have g0 := get_of hops 0
        have g1 := get_of hops 1
        have g2 := get_of hops 2
        have g3 := get_of hops 3
        have g4 := get_of hops 4
        have g5 := get_of hops 5
        have g6 := get_of hops 6
        have g7 := get_of hops 7
        simp only [List.getElem?_toArray, List.getElem?_cons_zero, List.getElem?_cons_succ] at g0 g1 g2 g3 g4 g5 g6 g7
        refine ordT_flo _ g0 ?_ (fun _ _ _ h => h) rfl ?_ trivial ?_; rotate_left; focus (intro _ _; go_simp; rfl)
        refine ordT_flo _ g2 ?_ (fun _ _ _ h => h) rfl ?_ trivial ?_; rotate_left; focus (intro _ _; go_simp; rfl)
        obtain ⟨c0, c1, _, cfz⟩ := hdd.cells
        refine ordT_late (fun W => W.cell? ⟨cf, 1, none⟩ = some (.slice psc scs.length csc)) _ _ _ g1 g3 g4 (by rw [hops.out]; kernel_rfl) (by rw [hops.out]; kernel_rfl) (.slice psc scs.length csc) (fun _ _ _ h => h) rfl ?_ c1 trivial rfl ?_
        · intro W hS
          go_simp
        clear c0 c1 cfz
        go_simp
        have hlt0 := hdd.tree.lt
        have hcl0 := hdd.clt
        refine (l6Scope_any g code _ hdd.cur).mono ?_
        rintro e w3 ⟨s, vn, rfl, hsk, hse, hsl, hsx, hon, hc4, hg4⟩
        have hd4 := hdd.draw hg4 hc4
        clear hdd hg4 hc4
        obtain ⟨xs, fq, hox, hxs, hfp⟩ := hd4.row
        have hbn := ScB.of_post hsk hse hsl hsx
        have c1 := hd4.cells.2.1
        refine ⟨c1, ?_⟩
        clear c1
        refine LateK.of rfl ?_
        have c1 := (hd4.alloc (.cells #[.int .i64 s.kind, vn, .int .i64 s.events] 55)).cells.2.1
        go_simp
        clear c1
        have hcur4 := hd4.cur
        have hclt4 := hd4.clt
        have hzr4 := hd4.grown.size
        have hoc4 := hd4.oc
        refine ordT_ev _ g5 rfl ?_
        refine wp_app1 Tryd.el_scp (.tmp 23) (.tmp 26) rfl w3 w3 (.slice psc scs.length csc) scs.length xs rfl hox (Below.refl _ _) (by omega) #[.int .i64 s.kind, vn, .int .i64 s.events] (.inr rfl) 1 1 rfl rfl (by obtain ⟨pn, cn, e⟩ := own_sl hon; simp [Value.oneCell', e]) (by omega) (by have := HSK.out; omega) (by have := HSK.out; omega) ?_
        intro gn cap w5 ho5 hb5 hg5 hor5 hlt5
        have hadd := hd4.add (kd := s.kind) (ev := s.events) (nm := s.names) hxs hfp hon hlt0 hcl0 ho5 hg5 hor5
        clear hb5 hg5 hor5 hd4 hox hxs hfp ho5 hon
        obtain ⟨fp', hadd, hblk⟩ := hadd
        refine ⟨trivial, ?_⟩
        refine ordT_flo _ g6 ?_ (fun _ _ _ h => h) rfl ?_ trivial ?_; rotate_left; focus (intro _ _; go_simp; rfl)
        have c1 : w5.cell? ⟨cf, 1, none⟩ = some (.slice psc scs.length csc) := (Lib.cell_of_heap hblk 1).trans rfl
        have cfz : w5.frozen? ⟨cf, 1, none⟩ = false := Lib.frozen_of_heap hblk 1
        refine ordT_ev _ g7 rfl ?_
        go_simp
        clear c1 cfz
        refine ordT_done ?_
        clear hops g0 g1 g2 g3 g4 g5 g6 g7
        generalize (w5.setCell ⟨cf, 1, none⟩ (.slice (some ⟨gn, 0, none⟩) (scs.length + 1) cap)) = X3 at *
        go_wp2
        go_roundw
        case rel => exact ⟨k + 1, _, scs ++ [⟨s.kind, s.names, s.events⟩], fp', by omega, by go_num, by simp [HSK.out], by
          intro t ht
          rcases List.mem_append.1 ht with ht | ht
          · exact HSB.out t ht
          · rw [List.mem_singleton.1 ht]; exact hbn, hadd⟩
        case measure => simp [intOf]; omega
      | false =>
        go_wp2
        exact bodyPost_ret (v := .agg #[.bool false, .slice psc scs.length csc]) (by simp [results, Tryd.results33, go_sem, s0, s1]) rfl (hdf.done (by rw [HSK.out]; omega) HSB.out _ _)
    · have hlt3 : ¬ (k : Int) < 1 + (x : Int) := by omega
      go_wp2
      exact bodyPost_ret (v := .agg #[.bool on, .slice psc scs.length csc]) (by simp [results, Tryd.results33, go_sem, s0, s1]) rfl (hdf.done (by rw [HSK.out]; omega) HSB.out _ _)

theorem bentPicked : ∀ x ∈ ([0, 15, 16, -1] : List Int), -9223372036854775808 ≤ x ∧ x ≤ 9223372036854775807 := by decide
/-- The result's cells. -/
theorem DfS.res {w W : World} {g cf : Nat} {code : List UInt8} {on : Bool} {vsc : Value} {scs : List Scp} {fp : List Nat} (h : DfS w g code cf on vsc scs fp W) :
    ((W.cell? ⟨w.heap.size, 0, none⟩ = some (.bool false) ∧ W.cell? ⟨w.heap.size, 1, none⟩ = some (.slice none 0 0)) ∧ W.frozen? ⟨w.heap.size, 0, none⟩ = false ∧ W.frozen? ⟨w.heap.size, 1, none⟩ = false ∧ (∀ v, (W.setCell ⟨w.heap.size, 0, none⟩ v).cell? ⟨w.heap.size, 0, none⟩ = some v) ∧ (∀ v v', ((W.setCell ⟨w.heap.size, 0, none⟩ v).setCell ⟨w.heap.size, 1, none⟩ v').cell? ⟨w.heap.size, 1, none⟩ = some v')) := by
  obtain ⟨a0, a1, a2, a3, a4, a5⟩ := blk_two6 h.blkr
  exact ⟨⟨a0, a1⟩, a2, a3, a4, a5⟩

set_option maxRecDepth 20000 in
set_option maxHeartbeats 6400000 in
theorem l6Bent_any (g : Nat) (code : List UInt8) (w : World) (hc : Cur w g code) :
    Calls Tryd.prog 27 #[.pointer (some ⟨g, 0, none⟩)] w fun e w' => FltDrawn 4 3 g code w e w' := by
  have hlt := hc.lt
  have hc0 : Cur (w.alloc (.cells #[.bool false, .slice none 0 0] 26)) g code := hc.below ((Below.refl _ _).alloc (Nat.le_refl _) _)
  have hg0 : w.grownBy (w.alloc (.cells #[.bool false, .slice none 0 0] 26)) (some g) := World.grownBy_alloc w _ (some g)
  have hr0 := heap_alloc_new w (.cells #[.bool false, .slice none 0 0] 26)
  have hz0 : (w.alloc (.cells #[.bool false, .slice none 0 0] 26)).heap.size = w.heap.size + 1 := by simp
  have HC := Lib.hid hc0
  have HR := Lib.hid hr0
  have HZ := Lib.hid hz0
  clear hc hc0 hr0 hz0
  go_enter Tryd.func27, Tryd.ntmps27
  go_wp2_with fail
  refine (l6Right_any g code _ HC.out).mono ?_
  rintro e w1 ⟨⟨on, scs⟩, vs, fp, rfl, hsl, hsb, htr, hc1, hg1⟩
  rw [HZ.out] at htr
  have hr1 := (hg1.block w.heap.size (by rw [HZ.out]; omega) (by intro e; injection e with e; omega)).trans HR.out
  have hz1 := hg1.size
  rw [HZ.out] at hz1
  have hgg := grown_grown hg0 hg1
  clear HC HR hg0 hg1 HZ
  simp only at hsl hsb htr ⊢
  obtain ⟨psc, csc, rfl, _⟩ := scps_at htr.rd
  have hdf : DfS w g code w1.heap.size on (.slice psc scs.length csc) scs fp (w1.alloc (.cells #[.bool on, .slice psc scs.length csc] 26)) :=
    ⟨hc1.below ((Below.refl _ _).alloc (Nat.le_refl _) _), heap_alloc_new w1 _, (Below.heap_alloc _ _ _ (by omega)).trans hr1, htr.below ((Below.refl _ _).alloc (Nat.le_refl _) _),
      grown_grown hgg (World.grownBy_alloc w1 _ (some g)), hlt, by omega, fun hm => by have := htr.lt _ hm; omega⟩
  have HSB := Lib.hid hsb
  have HSL := Lib.hid hsl
  clear hc1 hgg hr1 htr hsb hsl
  go_upto_region 2 with fail
  generalize (w1.alloc (.cells #[.bool on, .slice psc scs.length csc] 26)) = X at *
  obtain ⟨cf, hcf⟩ : ∃ cf, w1.heap.size = cf := ⟨_, rfl⟩
  rw [hcf] at hdf hz1 ⊢
  clear hcf
  go_wp2_with fail
  refine (l1Below_any g code _ 10 (by omega) _ hdf.cur (by omega) (by omega)).mono ?_
  rintro e w2 ⟨x, rfl, hx, hc2, hg2⟩
  have hdf2 := hdf.draw hg2 hc2
  clear hdf hg2 hc2
  by_cases hx0 : x = 0
  · subst hx0
    have hd3 := hdf2.setOn (!on)
    obtain ⟨c0, c1, f0, f1⟩ := hdf2.cells
    clear hdf2
    go_upto_region 16 with fail
    generalize (w2.setCell ⟨cf, 0, none⟩ (.bool (!on))) = X3 at *
    clear c0 c1 f0 f1
    obtain ⟨c0, c1, _, _⟩ := hd3.cells
    obtain ⟨⟨r0, r1⟩, f0, f1, s0, s1⟩ := hd3.res
    go_wp2
    exact bodyPost_ret (v := .agg #[.bool (!on), .slice psc scs.length csc]) (by simp [results, Tryd.results27, go_sem, s0, s1]) rfl (hd3.done (by have := HSL.out; omega) (fun s hs => (HSB.out s hs).mono (by omega)) _ _)
  have hb0 : ((x : Int) == 0) = false := by simp; omega
  by_cases hx1 : x = 1
  · subst hx1
    have hdd := hdf2.drew
    obtain ⟨c0, c1, _, cfz⟩ := hdf2.cells
    clear hdf2
    go_wp2
    clear c0 c1 cfz
    refine ordT_start (OTree.flo 0 (.flo 2 (.late 1 3 4 (.ev 5 (.flo 6 (.ev 7 .nil)))))) (fun _ => True) (by kernel_rfl) (by kernel_rfl) rfl (by kernel_rfl) ?_
    intro ops' hops
    generalize w2.drew = W0 at *
    have g0 := get_of hops 0
    have g1 := get_of hops 1
    have g2 := get_of hops 2
    have g3 := get_of hops 3
    have g4 := get_of hops 4
    have g5 := get_of hops 5
    have g6 := get_of hops 6
    have g7 := get_of hops 7
    simp only [List.getElem?_toArray, List.getElem?_cons_zero, List.getElem?_cons_succ] at g0 g1 g2 g3 g4 g5 g6 g7
    refine ordT_flo _ g0 ?_ (fun _ _ _ h => h) rfl ?_ trivial ?_; rotate_left; focus (intro _ _; go_simp; rfl)
    refine ordT_flo _ g2 ?_ (fun _ _ _ h => h) rfl ?_ trivial ?_; rotate_left; focus (intro _ _; go_simp; rfl)
    obtain ⟨c0, c1, _, cfz⟩ := hdd.cells
    refine ordT_late (fun W => W.cell? ⟨cf, 1, none⟩ = some (.slice psc scs.length csc)) _ _ _ g1 g3 g4 (by rw [hops.out]; kernel_rfl) (by rw [hops.out]; kernel_rfl) (.slice psc scs.length csc) (fun _ _ _ h => h) rfl ?_ c1 trivial rfl ?_
    · intro W hS
      go_simp
    clear c0 c1 cfz
    go_simp
    have hlt0 := hdd.tree.lt
    have hcl0 := hdd.clt
    refine (l6Scope_any g code _ hdd.cur).mono ?_
    rintro e w3 ⟨s, vn, rfl, hsk, hse, hsl, hsx, hon, hc4, hg4⟩
    have hd4 := hdd.draw hg4 hc4
    clear hdd hg4 hc4
    obtain ⟨xs, fq, hox, hxs, hfp⟩ := hd4.row
    have hbn := (ScB.of_post hsk hse hsl hsx).mono (q' := 3) (by omega)
    have c1 := hd4.cells.2.1
    refine ⟨c1, ?_⟩
    clear c1
    refine LateK.of rfl ?_
    have c1 := (hd4.alloc (.cells #[.int .i64 s.kind, vn, .int .i64 s.events] 55)).cells.2.1
    go_simp
    clear c1
    have hcur4 := hd4.cur
    have hclt4 := hd4.clt
    have hzr4 := hd4.grown.size
    have hoc4 := hd4.oc
    refine ordT_ev _ g5 rfl ?_
    refine wp_app1 Tryd.el_scp (.tmp 17) (.tmp 20) rfl w3 w3 (.slice psc scs.length csc) scs.length xs rfl hox (Below.refl _ _) (by omega) #[.int .i64 s.kind, vn, .int .i64 s.events] (.inr rfl) 1 1 rfl rfl (by obtain ⟨pn, cn, e⟩ := own_sl hon; simp [Value.oneCell', e]) (by omega) (by have := HSL.out; omega) (by have := HSL.out; omega) ?_
    intro gn cap w5 ho5 hb5 hg5 hor5 hlt5
    have hadd := hd4.add (kd := s.kind) (ev := s.events) (nm := s.names) hxs hfp hon hlt0 hcl0 ho5 hg5 hor5
    clear hb5 hg5 hor5 hd4 hox hxs hfp ho5 hon
    obtain ⟨fp', hadd, hblk⟩ := hadd
    refine ⟨trivial, ?_⟩
    refine ordT_flo _ g6 ?_ (fun _ _ _ h => h) rfl ?_ trivial ?_; rotate_left; focus (intro _ _; go_simp; rfl)
    have c1 : w5.cell? ⟨cf, 1, none⟩ = some (.slice psc scs.length csc) := (Lib.cell_of_heap hblk 1).trans rfl
    have cfz : w5.frozen? ⟨cf, 1, none⟩ = false := Lib.frozen_of_heap hblk 1
    refine ordT_ev _ g7 rfl ?_
    go_simp
    clear c1 cfz
    refine ordT_done ?_
    clear hops g0 g1 g2 g3 g4 g5 g6 g7
    generalize (w5.setCell ⟨cf, 1, none⟩ (.slice (some ⟨gn, 0, none⟩) (scs.length + 1) cap)) = X3 at *
    obtain ⟨c0, c1, _, _⟩ := hadd.cells
    obtain ⟨⟨r0, r1⟩, f0, f1, s0, s1⟩ := hadd.res
    go_wp2
    exact bodyPost_ret (v := .agg #[.bool on, .slice (some ⟨gn, 0, none⟩) (scs.length + 1) cap]) (by simp [results, Tryd.results27, go_sem, s0, s1]) rfl (hadd.done (by have := HSL.out; simp; omega) (fun t ht => by
      rcases List.mem_append.1 ht with ht | ht
      · exact (HSB.out t ht).mono (by omega)
      · rw [List.mem_singleton.1 ht]; exact hbn) _ _)
  have hb1 : ((x : Int) == 1) = false := by simp; omega
  by_cases hx2 : x = 2
  · subst hx2
    cases scs with
    | nil =>
      obtain ⟨c0, c1, _, _⟩ := hdf2.cells
      obtain ⟨⟨r0, r1⟩, f0, f1, s0, s1⟩ := hdf2.res
      go_wp2
      exact bodyPost_ret (v := .agg #[.bool on, .slice psc 0 csc]) (by simp [results, Tryd.results27, go_sem, s0, s1]) rfl (hdf2.done (by simp) (by simp) _ _)
    | cons s r =>
      obtain ⟨b, c, _, _, _, hv, _⟩ := hdf2.first
      injection hv with hp _ hcc
      subst hp hcc
      have hd2 : DfS w g code cf on (.slice (some ⟨b, 0, none⟩) (r.length + 1) csc) (s :: r) fp w2.drew := hdf2.drew
      obtain ⟨c0', c1', _, _⟩ := hdf2.cells
      clear hdf2
      rw [List.length_cons] at c1'
      have hlc : (s :: r).length = r.length + 1 := rfl
      rw [hlc]
      go_wp2
      clear c0' c1'
      obtain ⟨c0, c1, _, _⟩ := hd2.cells
      refine ord_start [(0, true), (1, true), (2, true), (3, false), (4, false), (5, true), (6, true), (7, false)] (fun W => W.cell? ⟨cf, 1, none⟩ = some (.slice (some ⟨b, 0, none⟩) (r.length + 1) csc)) (by kernel_rfl) (by kernel_rfl) rfl (by kernel_rfl) ?_
      intro ops' hops
      clear hops
      simp only [List.map_cons, List.map_nil, pickOp_zero, pickOp_succ]
      generalize w2.drew = W0 at *
      iterate 3 (refine ord_flo ?_ (fun _ _ _ h => h) rfl ?_ c1 ?_; rotate_left; focus (intro W hS; obtain s1 := hS; go_simp; rfl))
      have hd2a := hd2.alloc (.cells #[.int .i64 0, .int .i64 15, .int .i64 16, .int .i64 (-1)] 3)
      have hltc := hd2.cur.lt
      have c1a := hd2a.cells.2.1
      refine ord_ev rfl ?_
      go_simp
      refine ord_ev rfl ?_
      go_simp
      refine (l1PickInt_any g code _ [0, 15, 16, -1] _ hd2a.cur (Rd1_lit (b := W0.heap.size) _ (heap_alloc_new W0 _) rfl rfl) (Apart_new hltc) (by simp) (by simp)).mono ?_
      rintro e w3 ⟨y, rfl, hy, hc3, hg3⟩
      have hy64 := bentPicked y hy
      have hd3 := hd2a.draw hg3 hc3
      clear hy hc3 hg3 c0 c1 c1a hd2 hd2a
      have c1 := hd3.cells.2.1
      refine ⟨c1, ?_⟩
      refine ord_flo (.pointer (some ⟨b, 0, none⟩)) (fun _ _ _ h => h) rfl ?_ c1 ?_
      · intro W hS
        go_simp
        try (intro h; omega)
      refine ord_flo (.pointer (some ⟨b, 2, none⟩)) (fun _ _ _ h => h) rfl ?_ c1 ?_
      · intro W hS
        go_simp
      obtain ⟨b', c', vn, us, fr, hv, hox, hon, hrs, hfp⟩ := hd3.first
      injection hv with hp _ hcc
      injection hp with hp
      injection hp with hp
      subst hp hcc
      obtain ⟨fp', hd4, hfz, xx, hxx⟩ := hd3.set0 (s' := ⟨s.kind, s.names, y⟩) hox hon hrs hfp 2 (.int .i64 y) (GrownIn.of_below (Below.refl _ _)) hon (.inl rfl) rfl (by omega) hd3.cur hd3.grown
      have hf2 := hfz 2
      have c14 := hd4.cells.2.1
      refine ord_ev rfl ?_
      go_simp
      refine ord_done ?_
      clear hf2 hfz hxx c1 c14 hox hon hrs hfp hd3
      generalize (w3.setCell ⟨b, 2, none⟩ (.int .i64 y)) = X3 at *
      obtain ⟨c0, c1, _, _⟩ := hd4.cells
      obtain ⟨⟨r0, r1⟩, f0, f1, s0, s1⟩ := hd4.res
      go_wp2
      exact bodyPost_ret (v := .agg #[.bool on, .slice (some ⟨b, 0, none⟩) (r.length + 1) csc]) (by simp [results, Tryd.results27, go_sem, s0, s1]) rfl (hd4.done (by have := HSL.out; rw [List.length_cons] at this ⊢; omega) (fun t ht => by
        rcases List.mem_cons.1 ht with rfl | ht
        · have hs := HSB.out s (List.mem_cons_self ..)
          exact ⟨by have := hs.1; show s.names.length ≤ 3; omega, hs.2.1, hs.2.2.1, hy64⟩
        · exact (HSB.out t (List.mem_cons_of_mem _ ht)).mono (by omega)) _ _)
  have hb2 : ((x : Int) == 2) = false := by simp; omega
  by_cases hx3 : x = 3
  · subst hx3
    cases scs with
    | nil =>
      obtain ⟨c0, c1, _, _⟩ := hdf2.cells
      obtain ⟨⟨r0, r1⟩, f0, f1, s0, s1⟩ := hdf2.res
      go_wp2
      exact bodyPost_ret (v := .agg #[.bool on, .slice psc 0 csc]) (by simp [results, Tryd.results27, go_sem, s0, s1]) rfl (hdf2.done (by simp) (by simp) _ _)
    | cons s r =>
      obtain ⟨b, c, _, _, _, hv, _⟩ := hdf2.first
      injection hv with hp _ hcc
      subst hp hcc
      have hd2 : DfS w g code cf on (.slice (some ⟨b, 0, none⟩) (r.length + 1) csc) (s :: r) fp w2.drew := hdf2.drew
      obtain ⟨c0', c1', _, _⟩ := hdf2.cells
      clear hdf2
      rw [List.length_cons] at c1'
      have hlc : (s :: r).length = r.length + 1 := rfl
      rw [hlc]
      go_wp2
      clear c0' c1'
      refine ordT_start (OTree.flo 0 (.flo 1 (.flo 2 (.flo 3 (.flo 4 (.flo 5 (.flo 7 (.late 6 8 9 (.ev 10 (.flo 11 (.flo 12 (.ev 13 .nil)))))))))))) (fun W => W.cell? ⟨cf, 1, none⟩ = some (.slice (some ⟨b, 0, none⟩) (r.length + 1) csc)) (by kernel_rfl) (by kernel_rfl) rfl (by kernel_rfl) ?_
      intro ops' hops
      generalize w2.drew = W0 at *
      have g0 := get_of hops 0
      have g1 := get_of hops 1
      have g2 := get_of hops 2
      have g3 := get_of hops 3
      have g4 := get_of hops 4
      have g5 := get_of hops 5
      have g6 := get_of hops 6
      have g7 := get_of hops 7
      have g8 := get_of hops 8
      have g9 := get_of hops 9
      have g10 := get_of hops 10
      have g11 := get_of hops 11
      have g12 := get_of hops 12
      have g13 := get_of hops 13
      simp only [List.getElem?_toArray, List.getElem?_cons_zero, List.getElem?_cons_succ] at g0 g1 g2 g3 g4 g5 g6 g7 g8 g9 g10 g11 g12 g13
      have c1 := hd2.cells.2.1
      obtain ⟨b', c', vn, us, fr, hv, hox, hon, hrs, hfp⟩ := hd2.first
      injection hv with hp _ hcc
      injection hp with hp
      injection hp with hp
      subst hp hcc
      have t1 : W0.cell? ⟨b, 1, none⟩ = some vn := (hox.cellAt 1 (by omega)).trans rfl
      have hbcf : ¬ b = cf := fun e => hd2.ocf (by rw [hfp, e]; exact List.mem_cons_self ..)
      have hlow := hd2.lows
      have HOX := Lib.hid hox
      have HON := Lib.hid hon
      have HRS := Lib.hid hrs
      have HFP := Lib.hid hfp
      clear hox hon hrs hfp
      refine ordT_flo _ g0 ?_ (fun _ _ _ h => h) rfl ?_ c1 ?_; rotate_left; focus (intro W hS; go_simp; rfl)
      refine ordT_flo _ g1 ?_ (fun _ _ _ h => h) rfl ?_ c1 ?_; rotate_left; focus (intro W hS; go_simp; rfl)
      refine ordT_flo _ g2 ?_ (fun _ _ _ h => h) rfl ?_ c1 ?_; rotate_left; focus (intro W hS; go_simp; rfl)
      refine ordT_flo _ g3 ?_ (fun _ _ _ h => h) rfl ?_ c1 ?_; rotate_left; focus (intro W hS; go_simp; rfl)
      refine ordT_flo _ g4 (.pointer (some ⟨b, 0, none⟩)) (fun _ _ _ h => h) rfl ?_ c1 ?_
      · intro W hS
        go_simp
        try (intro h; omega)
      refine ordT_flo _ g5 (.pointer (some ⟨b, 1, none⟩)) (fun _ _ _ h => h) rfl ?_ c1 ?_
      · intro W hS
        go_simp
      refine ordT_flo _ g7 ?_ (fun _ _ _ h => h) rfl ?_ c1 ?_; rotate_left; focus (intro W hS; go_simp; rfl)
      refine ordT_late (fun W => W.cell? ⟨b, 1, none⟩ = some vn) _ _ _ g6 g8 g9 (by rw [hops.out]; kernel_rfl) (by rw [hops.out]; kernel_rfl) vn (fun _ _ _ h => h) rfl ?_ t1 c1 rfl ?_
      · intro W hS
        go_simp
      go_simp
      refine (l2Any_any g code _ hd2.cur).mono ?_
      rintro e w3 ⟨u, rfl, hul, hc3, hg3⟩
      have hd3 := hd2.draw hg3 hc3
      have hgi : GrownIn W0 w3 [g] := by have := GrownIn.of_row hg3; simpa using this
      have hox3 := own_draw HOX.out (by omega) hg3
      have hon3 := own_apart HON.out hgi (fun k hk hm => by have h1 := hlow k (by rw [HFP.out]; simp [hk]); have h2 : k = g := (by simpa using hm); omega)
      have hrs3 := LsIn.apart HRS.out hgi (fun k hk hm => by have h1 := hlow k (by rw [HFP.out]; simp [hk]); have h2 : k = g := (by simpa using hm); omega)
      have hlen := (HSB.out s (List.mem_cons_self ..)).1
      have t3 : w3.cell? ⟨b, 1, none⟩ = some vn := (hox3.cellAt 1 (by omega)).trans rfl
      have c13 := hd3.cells.2.1
      clear hgi hc3 hg3 hd2 c1 t1
      refine ⟨⟨t3, c13⟩, ?_⟩
      clear t3 c13
      refine LateK.of rfl ?_
      have t3a : (w3.alloc (.cells #[sv u] 9)).cell? ⟨b, 1, none⟩ = some vn := ((hox3.alloc _).cellAt 1 (by omega)).trans rfl
      have c13a := (hd3.alloc (.cells #[sv u] 9)).cells.2.1
      go_simp
      clear t3a c13a
      refine ordT_ev _ g10 rfl ?_
      refine wp_app1 Tryd.el_string (.tmp 48) (.tmp 51) rfl w3 w3 vn s.names.length (s.names.map sv) rfl hon3 (Below.refl _ _) (Nat.zero_le _) #[sv u] (.inr rfl) 1 1 rfl rfl (by simp [Value.oneCell', sv]) (by omega) (by omega) (by omega) ?_
      intro gn cap w5 ho5 hb5 hg5 hor5 hlt5
      have hvl : ∀ k, vn.ownBlock = some k → w.heap.size + 1 ≤ k := fun k hk => hlow k (by rw [HFP.out]; simp [hk])
      obtain ⟨fp', hd4, hfz, xx, hxx⟩ := hd3.set0 (s' := ⟨s.kind, s.names ++ [u], s.events⟩) hox3 hon3 hrs3 HFP.out 1 (.slice (some ⟨gn, 0, none⟩) (s.names.length + 1) cap) (GrownIn.of_row hg5) (by simpa using ho5)
        (hor5.imp (fun h => by rw [h]; rfl) (fun h k hk => by simp [Value.ownBlock] at hk; omega)) rfl (by omega) (hd3.cur.grown hg5 (fun k hk => by have := hvl k hk; omega)) (grown_young hd3.grown hg5 (fun k hk => by have := hvl k hk; omega))
      have hf1 := hfz 1
      have c15 : w5.cell? ⟨cf, 1, none⟩ = some (.slice (some ⟨b, 0, none⟩) (r.length + 1) csc) := (Lib.cell_of_heap ((hg5.block cf hd3.clt (fun e => hd3.ocf (by rw [HFP.out, ← e]; simp))).trans hd3.blkf) 1).trans rfl
      have c14 := hd4.cells.2.1
      clear ho5 hb5 hg5 hor5 hlt5 hd3 hox3 hon3 hrs3 HOX HON HRS HFP hvl hfz hlow
      refine ⟨c15, ?_⟩
      refine ordT_flo _ g11 (.pointer (some ⟨b, 0, none⟩)) (fun _ _ _ h => h) rfl ?_ c15 ?_
      · intro W hS
        go_simp
        try (intro h; omega)
      refine ordT_flo _ g12 (.pointer (some ⟨b, 1, none⟩)) (fun _ _ _ h => h) rfl ?_ c15 ?_
      · intro W hS
        go_simp
      refine ordT_ev _ g13 rfl ?_
      go_simp
      refine ordT_done ?_
      clear hf1 hxx c15 c14 hops g0 g1 g2 g3 g4 g5 g6 g7 g8 g9 g10 g11 g12 g13
      generalize (w5.setCell ⟨b, 1, none⟩ (.slice (some ⟨gn, 0, none⟩) (s.names.length + 1) cap)) = X3 at *
      obtain ⟨c0, c1, _, _⟩ := hd4.cells
      obtain ⟨⟨r0, r1⟩, f0, f1, s0, s1⟩ := hd4.res
      go_wp2
      exact bodyPost_ret (v := .agg #[.bool on, .slice (some ⟨b, 0, none⟩) (r.length + 1) csc]) (by simp [results, Tryd.results27, go_sem, s0, s1]) rfl (hd4.done (by have := HSL.out; rw [List.length_cons] at this ⊢; omega) (fun t ht => by
        rcases List.mem_cons.1 ht with rfl | ht
        · have hs := HSB.out s (List.mem_cons_self ..)
          exact ⟨by have := hs.1; show (s.names ++ [u]).length ≤ 3; simp; omega, fun y hy => by
            rcases List.mem_append.1 hy with hy | hy
            · exact hs.2.1 y hy
            · rw [List.mem_singleton.1 hy]; exact hul, hs.2.2.1, hs.2.2.2⟩
        · exact (HSB.out t (List.mem_cons_of_mem _ ht)).mono (by omega)) _ _)
  have hb3 : ((x : Int) == 3) = false := by simp; omega
  by_cases hx4 : x = 4
  · subst hx4
    cases scs with
    | nil =>
      obtain ⟨c0, c1, _, _⟩ := hdf2.cells
      obtain ⟨⟨r0, r1⟩, f0, f1, s0, s1⟩ := hdf2.res
      go_wp2
      exact bodyPost_ret (v := .agg #[.bool on, .slice psc 0 csc]) (by simp [results, Tryd.results27, go_sem, s0, s1]) rfl (hdf2.done (by simp) (by simp) _ _)
    | cons s r =>
      obtain ⟨b, c, _, _, _, hv, _⟩ := hdf2.first
      injection hv with hp _ hcc
      subst hp hcc
      have hd2 : DfS w g code cf on (.slice (some ⟨b, 0, none⟩) (r.length + 1) csc) (s :: r) fp w2.drew := hdf2.drew
      obtain ⟨c0', c1', _, _⟩ := hdf2.cells
      clear hdf2
      rw [List.length_cons] at c1'
      have hlc : (s :: r).length = r.length + 1 := rfl
      rw [hlc]
      go_wp2
      clear c0' c1'
      obtain ⟨c0, c1, _, _⟩ := hd2.cells
      refine ord_start [(0, true), (1, true), (2, true), (3, false), (4, true), (5, true), (6, true), (7, false)] (fun W => W.cell? ⟨cf, 1, none⟩ = some (.slice (some ⟨b, 0, none⟩) (r.length + 1) csc)) (by kernel_rfl) (by kernel_rfl) rfl (by kernel_rfl) ?_
      intro ops' hops
      clear hops
      simp only [List.map_cons, List.map_nil, pickOp_zero, pickOp_succ]
      generalize w2.drew = W0 at *
      iterate 3 (refine ord_flo ?_ (fun _ _ _ h => h) rfl ?_ c1 ?_; rotate_left; focus (intro W hS; obtain s1 := hS; go_simp; rfl))
      refine ord_ev rfl ?_
      go_simp
      refine (l1Below_any g code _ 7 (by omega) _ hd2.cur (by omega) (by omega)).mono ?_
      rintro e w3 ⟨y, rfl, hy, hc3, hg3⟩
      have hd3 := hd2.draw hg3 hc3
      have hwy : IntKind.i64.wrap ((y : Int) - 1) = (y : Int) - 1 := IntWalk.i64_in _ (by omega)
      clear hc3 hg3 c0 c1 hd2
      have c1 := hd3.cells.2.1
      refine ⟨c1, ?_⟩
      iterate 1 (refine ord_flo ?_ (fun _ _ _ h => h) rfl ?_ c1 ?_; rotate_left; focus (intro W hS; obtain s1 := hS; go_simp; rfl))
      refine ord_flo (.pointer (some ⟨b, 0, none⟩)) (fun _ _ _ h => h) rfl ?_ c1 ?_
      · intro W hS
        go_simp
        try (intro h; omega)
      refine ord_flo (.pointer (some ⟨b, 0, none⟩)) (fun _ _ _ h => h) rfl ?_ c1 ?_
      · intro W hS
        go_simp
      obtain ⟨b', c', vn, us, fr, hv, hox, hon, hrs, hfp⟩ := hd3.first
      injection hv with hp _ hcc
      injection hp with hp
      injection hp with hp
      subst hp hcc
      obtain ⟨fp', hd4, hfz, xx, hxx⟩ := hd3.set0 (s' := ⟨(y : Int) - 1, s.names, s.events⟩) hox hon hrs hfp 0 (.int .i64 ((y : Int) - 1)) (GrownIn.of_below (Below.refl _ _)) hon (.inl rfl) rfl (by omega) hd3.cur hd3.grown
      have hf2 := hfz 0
      have c14 := hd4.cells.2.1
      refine ord_ev rfl ?_
      go_simp
      refine ord_done ?_
      clear hf2 hfz hxx c1 c14 hox hon hrs hfp hd3 hwy
      generalize (w3.setCell ⟨b, 0, none⟩ (.int .i64 ((y : Int) - 1))) = X3 at *
      obtain ⟨c0, c1, _, _⟩ := hd4.cells
      obtain ⟨⟨r0, r1⟩, f0, f1, s0, s1⟩ := hd4.res
      go_wp2
      exact bodyPost_ret (v := .agg #[.bool on, .slice (some ⟨b, 0, none⟩) (r.length + 1) csc]) (by simp [results, Tryd.results27, go_sem, s0, s1]) rfl (hd4.done (by have := HSL.out; rw [List.length_cons] at this ⊢; omega) (fun t ht => by
        rcases List.mem_cons.1 ht with rfl | ht
        · have hs := HSB.out s (List.mem_cons_self ..)
          exact ⟨by have := hs.1; show s.names.length ≤ 3; omega, hs.2.1, ⟨by show -9223372036854775808 ≤ (y : Int) - 1; omega, by show (y : Int) - 1 ≤ 9223372036854775807; omega⟩, hs.2.2.2⟩
        · exact (HSB.out t (List.mem_cons_of_mem _ ht)).mono (by omega)) _ _)
  have hb4 : ((x : Int) == 4) = false := by simp; omega
  obtain ⟨c0, c1, _, _⟩ := hdf2.cells
  obtain ⟨⟨r0, r1⟩, f0, f1, s0, s1⟩ := hdf2.res
  go_wp2
  exact bodyPost_ret (v := .agg #[.bool on, .slice psc scs.length csc]) (by simp [results, Tryd.results27, go_sem, s0, s1]) rfl (hdf2.done (by have := HSL.out; omega) (fun s hs => (HSB.out s hs).mono (by omega)) _ _)

end Go.Proofs.YthihjelcakenpaaDoor
