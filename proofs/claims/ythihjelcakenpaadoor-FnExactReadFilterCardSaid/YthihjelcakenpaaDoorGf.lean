/-
  Gf: LexE, LexF, LexH.
-/
import Derived.Test.YthihjelcakenpaaDoorGe
import Derived.Test.YthihjelcakenpaaDoorGa
import Derived.Test.YthihjelcakenpaaDoorGd
import Derived.Test.YthihjelcakenpaaDoorGb

/-
  Chapter 3's draws.
-/
namespace Go.Proofs.YthihjelcakenpaaDoor
open Go.RowKit

/-- A token was drawn. -/
def TokPost (g : Nat) (code : List UInt8) (w : World) (e : Ending) (w' : World) : Prop := ∃ t : Tok, e = .returned (tokv t) ∧ t.text.length ≤ 50 ∧ Cur w' g code ∧ w.grownBy w' (some g)

theorem grown_set1 (w : World) (b j : Nat) (v : Value) : w.grownBy (w.setCell ⟨b, j, none⟩ v) (some b) :=
  ⟨rfl, rfl, rfl, by simp, fun k _ hne => Below.heap_setCell w _ v k (by intro e; subst e; exact hne rfl)⟩
/-- A cell of a younger block is set: the old memory stands as it stood. -/
theorem grown_set {w w1 : World} {row : Option Nat} {b : Nat} (h : w.grownBy w1 row) (hb : w.heap.size ≤ b) (j : Nat) (v : Value) : w.grownBy (w1.setCell ⟨b, j, none⟩ v) row :=
  grown_young h (grown_set1 w1 b j v) (fun k hk => by injection hk with hk; omega)
theorem Cur.set {w : World} {g b : Nat} {code : List UInt8} (h : Cur w g code) (hb : g < b) (j : Nat) (v : Value) : Cur (w.setCell ⟨b, j, none⟩ v) g code :=
  h.grown (grown_set1 w b j v) (fun k hk => by injection hk with hk; omega)
/-- Behind a draw the cells of a block that is not the cursor's stand. -/
theorem cells_grown {w w1 : World} {g b : Nat} (hg : w.grownBy w1 (some g)) (hb : b < w.heap.size) (hne : b ≠ g) : (∀ j, w1.cell? ⟨b, j, none⟩ = w.cell? ⟨b, j, none⟩) ∧ (∀ j, w1.frozen? ⟨b, j, none⟩ = w.frozen? ⟨b, j, none⟩) :=
  ⟨fun _ => World.cell?_of_block (hg.block b hb (by intro e; injection e with e; exact hne e)), fun _ => World.frozen?_of_block (hg.block b hb (by intro e; injection e with e; exact hne e))⟩

set_option maxHeartbeats 1600000 in
theorem l3Token_any (g : Nat) (code : List UInt8) (w : World) (hc : Cur w g code) :
    Calls Tryd.prog 72 #[.pointer (some ⟨g, 0, none⟩)] w fun e w' => TokPost g code w e w' := by
  have hlt := hc.lt
  have hc0 : Cur (w.alloc (.cells #[.int .i64 0, .string ⟨#[]⟩] 52)) g code := hc.below ((Below.refl _ _).alloc (Nat.le_refl _) _)
  have hg0 : w.grownBy (w.alloc (.cells #[.int .i64 0, .string ⟨#[]⟩] 52)) (some g) := World.grownBy_alloc w _ (some g)
  have HC := Lib.hid hc0
  clear hc hc0
  go_enter Tryd.func72, Tryd.ntmps72
  go_wp2_with fail
  refine (l1Below_any g code _ 5 (by omega) _ HC.out (by omega) (by omega)).mono ?_
  rintro e w1 ⟨x, rfl, hx, hc1, hg1⟩
  obtain ⟨hc, hf⟩ := cells_grown (b := w.heap.size) hg1 (by simp) (by omega)
  have hc00 := hc 0
  have hc01 := hc 1
  have hf0 := hf 0
  have hf1 := hf 1
  simp [go_sem] at hc00 hc01 hf0 hf1
  have hgg := grown_grown hg0 hg1
  obtain ⟨hs0, hs1⟩ := two_set hc00 hc01
  have hlt1 := hc1.lt
  clear hc hf hg0 hg1 HC
  by_cases h0 : x = 0
  · skip
    subst h0
    go_wp2
    exact bodyPost_ret (v := tokv ⟨3, []⟩) (by simp [results, Tryd.results72, go_sem, hs0, hs1]) rfl ⟨⟨3, []⟩, rfl, by simp, (hc1.set hlt 0 _).set hlt 1 _, grown_set (grown_set hgg (Nat.le_refl _) 0 _) (Nat.le_refl _) 1 _⟩
  have b0 : ((x : Int) == 0) = false := by simp; omega
  by_cases h1 : x = 1
  · skip
    subst h1
    go_wp2
    exact bodyPost_ret (v := tokv ⟨4, []⟩) (by simp [results, Tryd.results72, go_sem, hs0, hs1]) rfl ⟨⟨4, []⟩, rfl, by simp, (hc1.set hlt 0 _).set hlt 1 _, grown_set (grown_set hgg (Nat.le_refl _) 0 _) (Nat.le_refl _) 1 _⟩
  have b1 : ((x : Int) == 1) = false := by simp; omega
  by_cases h2 : x = 2
  · subst h2
    clear hs0 hs1
    go_wp2_with fail
    refine (l2Any_any g code _ hc1).mono ?_
    rintro e w2 ⟨t, rfl, htl, hc2, hg2⟩
    obtain ⟨hc, hf⟩ := cells_grown (b := w.heap.size) hg2 (World.block_lt_of_cell? _ _ hc00) (by omega)
    have d0 := (hc 0).trans hc00
    have d1 := (hc 1).trans hc01
    have e0 := (hf 0).trans hf0
    have e1 := (hf 1).trans hf1
    obtain ⟨hs0, hs1⟩ := two_set d0 d1
    have hgf := grown_grown hgg hg2
    clear hc hf hc00 hc01 hf0 hf1 hc1 hg2 hgg
    go_wp2
    exact bodyPost_ret (v := tokv ⟨2, t⟩) (by simp [results, Tryd.results72, go_sem, hs0, hs1]) rfl ⟨⟨2, t⟩, rfl, by show t.length ≤ 50; omega, (hc2.set hlt 0 _).set hlt 1 _, grown_set (grown_set hgf (Nat.le_refl _) 0 _) (Nat.le_refl _) 1 _⟩
  have b2 : ((x : Int) == 2) = false := by simp; omega
  clear hs0 hs1
  go_wp2_with fail
  refine (l1Pick_any g code _ [[65, 49], [102, 101, 116, 99, 104], [49, 58, 42], [43, 102, 108, 97, 103, 115], [125], [120], [105, 110, 98, 111, 120]] _ (hc1.below ((Below.refl _ _).alloc (Nat.le_refl _) _)) (Rd1_lit (b := w1.heap.size) _ (heap_alloc_new w1 _) rfl rfl) (Apart_new hlt1) (by simp) (by simp)).mono ?_
  rintro e w2 ⟨t, rfl, ht, hc2, hg2⟩
  have htl : t.length ≤ 50 := by simp at ht; rcases ht with rfl | rfl | rfl | rfl | rfl | rfl | rfl <;> simp
  have hwl : w.heap.size < w1.heap.size := World.block_lt_of_cell? _ _ hc00
  obtain ⟨hc, hf⟩ := cells_grown (b := w.heap.size) hg2 (by simp; exact Nat.lt_succ_of_lt hwl) (by omega)
  have d0 := (hc 0).trans ((World.cell?_alloc_lt w1 _ _ (by exact hwl)).trans hc00)
  have d1 := (hc 1).trans ((World.cell?_alloc_lt w1 _ _ (by exact hwl)).trans hc01)
  have e0 := (hf 0).trans ((World.frozen?_of_block (Below.heap_alloc w1 _ _ hwl)).trans hf0)
  have e1 := (hf 1).trans ((World.frozen?_of_block (Below.heap_alloc w1 _ _ hwl)).trans hf1)
  obtain ⟨hs0, hs1⟩ := two_set d0 d1
  have hgf := grown_grown hgg (grown_grown (World.grownBy_alloc w1 _ (some g)) hg2)
  clear hc hf hc00 hc01 hf0 hf1 hc1 hg2 hgg ht hwl
  go_wp2
  exact bodyPost_ret (v := tokv ⟨1, t⟩) (by simp [results, Tryd.results72, go_sem, hs0, hs1]) rfl ⟨⟨1, t⟩, rfl, htl, (hc2.set hlt 0 _).set hlt 1 _, grown_set (grown_set hgf (Nat.le_refl _) 0 _) (Nat.le_refl _) 1 _⟩

def ToksPost (m : Nat) (g : Nat) (code : List UInt8) (w : World) (e : Ending) (w' : World) : Prop := ∃ (v : Value) (n : Nat) (l : List Tok), e = .returned v ∧ n = l.length ∧ n ≤ m ∧ (∀ t ∈ l, t.text.length ≤ 50) ∧ w'.ownsRow w.heap.size 52 2 v n (l.flatMap tokc) ∧ Cur w' g code ∧ w.grownBy w' (some g)

/-- The token's variable lies in block B, the result's place in block R. -/
structure BT (w : World) (B R : Nat) (k : Int) (tx : List UInt8) : Prop where
  p0 : w.cell? ⟨B, 0, none⟩ = some (.int .i64 k)
  p1 : w.cell? ⟨B, 1, none⟩ = some (sv tx)
  q0 : w.frozen? ⟨B, 0, none⟩ = false
  q1 : w.frozen? ⟨B, 1, none⟩ = false
  r0 : w.cell? ⟨R, 0, none⟩ = some (.int .i64 0)
  r1 : w.cell? ⟨R, 1, none⟩ = some (.string ⟨#[]⟩)
  s0 : w.frozen? ⟨R, 0, none⟩ = false
  s1 : w.frozen? ⟨R, 1, none⟩ = false
theorem BT.grown {w w1 : World} {B R g : Nat} {k : Int} {tx : List UInt8} (h : BT w B R k tx) (hg : w.grownBy w1 (some g)) (hB : ¬ B = g) (hR : ¬ R = g) : BT w1 B R k tx := by
  obtain ⟨c1, f1⟩ := cells_grown hg (World.block_lt_of_cell? _ _ h.p0) hB
  obtain ⟨c2, f2⟩ := cells_grown hg (World.block_lt_of_cell? _ _ h.r0) hR
  exact ⟨(c1 0).trans h.p0, (c1 1).trans h.p1, (f1 0).trans h.q0, (f1 1).trans h.q1, (c2 0).trans h.r0, (c2 1).trans h.r1, (f2 0).trans h.s0, (f2 1).trans h.s1⟩
theorem BT.below {w w1 : World} {B R : Nat} {k : Int} {tx : List UInt8} (h : BT w B R k tx) (hb : Below w.heap.size w w1) : BT w1 B R k tx := by
  have hB := World.block_lt_of_cell? _ _ h.p0
  have hR := World.block_lt_of_cell? _ _ h.r0
  exact ⟨(hb.cell (p := ⟨B, 0, none⟩) hB).trans h.p0, (hb.cell (p := ⟨B, 1, none⟩) hB).trans h.p1, (hb.frozen (p := ⟨B, 0, none⟩) hB).trans h.q0, (hb.frozen (p := ⟨B, 1, none⟩) hB).trans h.q1,
    (hb.cell (p := ⟨R, 0, none⟩) hR).trans h.r0, (hb.cell (p := ⟨R, 1, none⟩) hR).trans h.r1, (hb.frozen (p := ⟨R, 0, none⟩) hR).trans h.s0, (hb.frozen (p := ⟨R, 1, none⟩) hR).trans h.s1⟩
theorem BT.sets {w : World} {B R : Nat} {k : Int} {tx : List UInt8} (h : BT w B R k tx) (hne : ¬ R = B) :
    (∀ v, (w.setCell ⟨B, 0, none⟩ v).cell? ⟨B, 0, none⟩ = some v) ∧ (∀ v, (w.setCell ⟨B, 1, none⟩ v).cell? ⟨B, 1, none⟩ = some v) ∧
    (∀ v, (w.setCell ⟨R, 0, none⟩ v).cell? ⟨R, 0, none⟩ = some v) ∧ (∀ v v', ((w.setCell ⟨R, 0, none⟩ v).setCell ⟨R, 1, none⟩ v').cell? ⟨R, 1, none⟩ = some v') ∧
    (∀ u j v, ((w.setCell ⟨B, j, none⟩ u).setCell ⟨R, 0, none⟩ v).cell? ⟨R, 0, none⟩ = some v) ∧ (∀ u j v v', (((w.setCell ⟨B, j, none⟩ u).setCell ⟨R, 0, none⟩ v).setCell ⟨R, 1, none⟩ v').cell? ⟨R, 1, none⟩ = some v') := by
  have hr : ∀ u j i, (w.setCell ⟨B, j, none⟩ u).cell? ⟨R, i, none⟩ = w.cell? ⟨R, i, none⟩ := fun u j i => World.cell?_setCell_other w _ _ _ (by intro e; injection e with e _; exact hne e.symm)
  refine ⟨fun v => World.cell?_setCell_same w _ _ h.p0, fun v => World.cell?_setCell_same w _ _ h.p1, (two_set h.r0 h.r1).1, (two_set h.r0 h.r1).2, fun u j => (two_set ((hr u j 0).trans h.r0) ((hr u j 1).trans h.r1)).1, fun u j => (two_set ((hr u j 0).trans h.r0) ((hr u j 1).trans h.r1)).2⟩

set_option maxHeartbeats 3200000 in
theorem l3Bent_any (g : Nat) (code : List UInt8) (w : World) (hc : Cur w g code) :
    Calls Tryd.prog 35 #[.pointer (some ⟨g, 0, none⟩)] w fun e w' => TokPost g code w e w' := by
  have hlt := hc.lt
  have hc0 : Cur (w.alloc (.cells #[.int .i64 0, .string ⟨#[]⟩] 52)) g code := hc.below ((Below.refl _ _).alloc (Nat.le_refl _) _)
  have hg0 : w.grownBy (w.alloc (.cells #[.int .i64 0, .string ⟨#[]⟩] 52)) (some g) := World.grownBy_alloc w _ (some g)
  have HC := Lib.hid hc0
  clear hc hc0
  go_enter Tryd.func35, Tryd.ntmps35
  go_wp2_with fail
  refine (l3Token_any g code _ HC.out).mono ?_
  rintro e w1 ⟨t, rfl, htl, hc1, hg1⟩
  obtain ⟨hc, hf⟩ := cells_grown (b := w.heap.size) hg1 (by simp) (by omega)
  have a0 := hc 0
  have a1 := hc 1
  have b0 := hf 0
  have b1 := hf 1
  simp [go_sem] at a0 a1 b0 b1
  have hgg := grown_grown hg0 hg1
  have hlt1 := hc1.lt
  have hwl : w.heap.size < w1.heap.size := World.block_lt_of_cell? _ _ a0
  clear hc hf hg0 hg1 HC
  go_wp2_with fail
  refine (l1Below_any g code _ 8 (by omega) _ (hc1.below ((Below.refl _ _).alloc (Nat.le_refl _) _)) (by omega) (by omega)).mono ?_
  rintro e w2 ⟨x, rfl, hx, hc2, hg2⟩
  obtain ⟨hc, hf⟩ := cells_grown (b := w1.heap.size) hg2 (by simp) (by omega)
  have p0 := hc 0
  have p1 := hc 1
  have q0 := hf 0
  have q1 := hf 1
  simp [go_sem] at p0 p1 q0 q1
  obtain ⟨hc', hf'⟩ := cells_grown (b := w.heap.size) hg2 (by simp; omega) (by omega)
  have r0 := (hc' 0).trans ((World.cell?_alloc_lt w1 _ _ (by exact hwl)).trans a0)
  have r1 := (hc' 1).trans ((World.cell?_alloc_lt w1 _ _ (by exact hwl)).trans a1)
  have s0 := (hf' 0).trans ((World.frozen?_of_block (Below.heap_alloc w1 _ _ hwl)).trans b0)
  have s1 := (hf' 1).trans ((World.frozen?_of_block (Below.heap_alloc w1 _ _ hwl)).trans b1)
  have bt : BT w2 w1.heap.size w.heap.size t.kind t.text := ⟨p0, p1, q0, q1, r0, r1, s0, s1⟩
  have hgw := grown_grown hgg (grown_grown (World.grownBy_alloc w1 _ (some g)) hg2)
  have hne : ¬ w.heap.size = w1.heap.size := by omega
  have hne' : ¬ w1.heap.size = w.heap.size := by omega
  have hgb : ¬ w1.heap.size = g := by omega
  have hgr : ¬ w.heap.size = g := by omega
  have hle1 : w.heap.size ≤ w1.heap.size := by omega
  generalize w1.heap.size = B at *
  clear hc hf hc' hf' hgg hg2 hc1 a0 a1 b0 b1 hwl p0 p1 q0 q1 r0 r1 s0 s1
  by_cases h0 : x = 0
  · subst h0
    go_wp2_with fail
    refine (l1Below_any g code _ 7 (by omega) _ hc2 (by omega) (by omega)).mono ?_
    rintro e w3 ⟨y, rfl, hy, hc3, hg3⟩
    replace bt := bt.grown hg3 hgb hgr
    have hgf := grown_grown hgw hg3
    obtain ⟨z0, z1, z2, z3, z4, z5⟩ := bt.sets hne
    obtain ⟨p0, p1, q0, q1, r0, r1, s0, s1⟩ := bt
    clear hgw hg3 hc2
    go_wp2
    exact bodyPost_ret (v := tokv ⟨(y : Int) - 1, t.text⟩) (by simp [results, Tryd.results35, go_sem, z4, z5]) rfl ⟨⟨(y : Int) - 1, t.text⟩, rfl, htl, ((hc3.set hlt1 0 _).set hlt 0 _).set hlt 1 _, grown_set (grown_set (grown_set hgf hle1 0 _) (Nat.le_refl _) 0 _) (Nat.le_refl _) 1 _⟩
  have b0 : ((x : Int) == 0) = false := by simp; omega
  by_cases h1 : x = 1
  · subst h1
    go_wp2_with fail
    refine (l2Any_any g code _ hc2).mono ?_
    rintro e w3 ⟨u, rfl, hul, hc3, hg3⟩
    replace bt := bt.grown hg3 hgb hgr
    have hgf := grown_grown hgw hg3
    obtain ⟨z0, z1, z2, z3, z4, z5⟩ := bt.sets hne
    obtain ⟨p0, p1, q0, q1, r0, r1, s0, s1⟩ := bt
    clear hgw hg3 hc2
    go_wp2
    exact bodyPost_ret (v := tokv ⟨t.kind, u⟩) (by simp [results, Tryd.results35, go_sem, z4, z5]) rfl ⟨⟨t.kind, u⟩, rfl, (by show u.length ≤ 50; omega), ((hc3.set hlt1 1 _).set hlt 0 _).set hlt 1 _, grown_set (grown_set (grown_set hgf hle1 1 _) (Nat.le_refl _) 0 _) (Nat.le_refl _) 1 _⟩
  have b1 : ((x : Int) == 1) = false := by simp; omega
  by_cases h2 : x = 2
  · subst h2
    have hdw : w.grownBy w2.drew (some g) := grown_drew hgw
    have hdc : Cur w2.drew g code := hc2.drew
    have hdb : BT w2.drew B w.heap.size t.kind t.text := bt.below (Below.refl _ _).drew
    clear hgw hc2 bt
    go_wp2
    refine ordT_start (OTree.flo 0 (.flo 4 (.fork 1 (.flo 2 (.flo 3 (.ev 5 (.ev 6 (.flo 7 (.flo 8 (.ev 9 .nil))))))) 5 (.ev 1 (.flo 2 (.flo 3 (.ev 6 (.flo 7 (.flo 8 (.ev 9 .nil)))))))))) (fun _ => True) (by kernel_rfl) (by kernel_rfl) rfl (by kernel_rfl) ?_
    intro ops' hops
    generalize w2.drew = w3 at *
    have g0 := get_of hops 0
    have g1 := get_of hops 1
    have g2 := get_of hops 2
    have g3 := get_of hops 3
    have g4 := get_of hops 4
    have g5 := get_of hops 5
    have g6 := get_of hops 6
    have g7 := get_of hops 7
    have g8 := get_of hops 8
    have g9 := get_of hops 9
    simp only [List.getElem?_toArray, List.getElem?_cons_zero, List.getElem?_cons_succ] at g0 g1 g2 g3 g4 g5 g6 g7 g8 g9
    clear hops
    refine ordT_flo _ g0 ?_ (fun _ _ _ h => h) rfl ?_ trivial ?_; rotate_left; focus (intro _ _; go_simp; rfl)
    refine ordT_flo _ g4 ?_ (fun _ _ _ h => h) rfl ?_ trivial ?_; rotate_left; focus (intro _ _; go_simp; rfl)
    refine ordT_fork _ _ g1 g5 rfl rfl ?_ ?_
    · go_simp
      refine (l1Below_any g code _ 2 (by omega) _ hdc (by omega) (by omega)).mono ?_
      rintro e w4 ⟨y, rfl, hy, hc4, hg4⟩
      replace hdb := hdb.grown hg4 hgb hgr
      have hgf := grown_grown hdw hg4
      clear hdw hdc hg4
      have hwr : IntKind.i64.wrap (40 + (y : Int)) = 40 + (y : Int) := IntWalk.i64_in _ (by omega)
      refine ordT_flo _ g2 ?_ (fun _ _ _ h => h) rfl ?_ trivial ?_; rotate_left; focus (intro _ _; go_simp; rfl)
      obtain ⟨Z, hZ, hZs⟩ : ∃ Z : ByteArray, (⟨#[49, 50, 51, 52, 53, 54, 55, 56, 57, 48, 49, 50, 51, 52, 53, 54, 55, 56, 57, 48, 49, 50, 51, 52, 53, 54, 55, 56, 57, 48, 49, 50, 51, 52, 53, 54, 55, 56, 57, 48, 49]⟩ : ByteArray).extract 0 (40 + y) = Z ∧ Z.size ≤ 41 := ⟨_, rfl, by rw [ByteArray.size_extract]; have : (⟨#[49, 50, 51, 52, 53, 54, 55, 56, 57, 48, 49, 50, 51, 52, 53, 54, 55, 56, 57, 48, 49, 50, 51, 52, 53, 54, 55, 56, 57, 48, 49, 50, 51, 52, 53, 54, 55, 56, 57, 48, 49]⟩ : ByteArray).size = 41 := rfl; omega⟩
      refine ordT_flo _ g3 (.string Z) (fun _ _ _ h => h) rfl ?_ trivial ?_
      · intro _ _
        go_simp
        rw [if_pos (by omega), show (40 + (y : Int)).toNat = 40 + y by omega]
        exact congrArg (fun q => Result.ok (Next.value (Value.string q)) _) hZ
      clear hwr hZ
      refine ordT_ev _ g5 rfl ?_
      go_simp
      refine ordT_ev _ g6 rfl ?_
      have hlt4 := hc4.lt
      go_simp
      refine (l1Pick_any g code _ [[], [10]] _ (hc4.below ((Below.refl _ _).alloc (Nat.le_refl _) _)) (Rd1_lit (b := w4.heap.size) _ (heap_alloc_new w4 _) rfl rfl) (Apart_new hlt4) (by simp) (by simp)).mono ?_
      rintro e w5 ⟨u, rfl, hu, hc5, hg5⟩
      have hul : u.length ≤ 1 := by simp at hu; rcases hu with rfl | rfl <;> simp
      have huz : (ByteArray.mk u.toArray).size = u.length := by show u.toArray.size = _; simp
      replace hdb := (hdb.below ((Below.refl _ _).alloc (Nat.le_refl _) _)).grown hg5 hgb hgr
      replace hgf := grown_grown hgf (grown_grown (World.grownBy_alloc w4 _ (some g)) hg5)
      have hcf := hc5
      clear hu hc5 hg5 hc4
      refine ordT_flo _ g7 (.string (Z ++ ⟨u.toArray⟩)) (fun _ _ _ h => h) rfl ?_ trivial ?_
      · intro _ _
        go_simp
        omega
      refine ordT_flo _ g8 ?_ (fun _ _ _ h => h) rfl ?_ trivial ?_; rotate_left; focus (intro _ _; go_simp; rfl)
      obtain ⟨z0, z1, z2, z3, z4, z5⟩ := hdb.sets hne
      have hcell := hdb.p1
      have hq1 := hdb.q1
      refine ordT_ev _ g9 rfl ?_
      go_simp
      refine ordT_done ?_
      obtain ⟨p0, p1, q0, q1, r0, r1, s0, s1⟩ := hdb
      clear hcell hq1 g0 g1 g2 g3 g4 g5 g6 g7 g8 g9
      go_wp2
      exact bodyPost_ret (v := .agg #[.int .i64 t.kind, .string (Z ++ ⟨u.toArray⟩)]) (by simp [results, Tryd.results35, go_sem, z4, z5]) rfl ⟨⟨t.kind, (Z ++ ⟨u.toArray⟩).data.toList⟩, by show _ = Ending.returned (.agg #[.int .i64 t.kind, sv _]); rw [sv_data], by show (Z ++ (⟨u.toArray⟩ : ByteArray)).data.toList.length ≤ 50; rw [str_len]; simp; omega, ((hcf.set hlt1 1 _).set hlt 0 _).set hlt 1 _, grown_set (grown_set (grown_set hgf hle1 1 _) (Nat.le_refl _) 0 _) (Nat.le_refl _) 1 _⟩
    · go_simp
      refine ordT_ev _ g1 rfl ?_
      go_simp
      have hlt3 := hdc.lt
      refine (l1Below_any g code _ 2 (by omega) _ (hdc.below ((Below.refl _ _).alloc (Nat.le_refl _) _)) (by omega) (by omega)).mono ?_
      rintro e w4 ⟨y, rfl, hy, hc4, hg4⟩
      replace hdb := (hdb.below ((Below.refl _ _).alloc (Nat.le_refl _) _)).grown hg4 hgb hgr
      have hgf := grown_grown hdw (grown_grown (World.grownBy_alloc w3 _ (some g)) hg4)
      have hblk : w4.heap[w3.heap.size]? = _ := (hg4.block w3.heap.size (by simp) (by intro e; injection e with e; omega)).trans (heap_alloc_new w3 _)
      clear hdw hdc hg4
      have hwr : IntKind.i64.wrap (40 + (y : Int)) = 40 + (y : Int) := IntWalk.i64_in _ (by omega)
      refine ordT_flo _ g2 ?_ (fun _ _ _ h => h) rfl ?_ trivial ?_; rotate_left; focus (intro _ _; go_simp; rfl)
      obtain ⟨Z, hZ, hZs⟩ : ∃ Z : ByteArray, (⟨#[49, 50, 51, 52, 53, 54, 55, 56, 57, 48, 49, 50, 51, 52, 53, 54, 55, 56, 57, 48, 49, 50, 51, 52, 53, 54, 55, 56, 57, 48, 49, 50, 51, 52, 53, 54, 55, 56, 57, 48, 49]⟩ : ByteArray).extract 0 (40 + y) = Z ∧ Z.size ≤ 41 := ⟨_, rfl, by rw [ByteArray.size_extract]; have : (⟨#[49, 50, 51, 52, 53, 54, 55, 56, 57, 48, 49, 50, 51, 52, 53, 54, 55, 56, 57, 48, 49, 50, 51, 52, 53, 54, 55, 56, 57, 48, 49, 50, 51, 52, 53, 54, 55, 56, 57, 48, 49]⟩ : ByteArray).size = 41 := rfl; omega⟩
      refine ordT_flo _ g3 (.string Z) (fun _ _ _ h => h) rfl ?_ trivial ?_
      · intro _ _
        go_simp
        rw [if_pos (by omega), show (40 + (y : Int)).toNat = 40 + y by omega]
        exact congrArg (fun q => Result.ok (Next.value (Value.string q)) _) hZ
      clear hwr hZ
      refine ordT_ev _ g6 rfl ?_
      have hlt4 := hc4.lt
      go_simp
      refine (l1Pick_any g code _ [[], [10]] _ hc4 (Rd1_lit (b := w3.heap.size) _ hblk rfl rfl) (Apart_new hlt3) (by simp) (by simp)).mono ?_
      rintro e w5 ⟨u, rfl, hu, hc5, hg5⟩
      have hul : u.length ≤ 1 := by simp at hu; rcases hu with rfl | rfl <;> simp
      have huz : (ByteArray.mk u.toArray).size = u.length := by show u.toArray.size = _; simp
      replace hdb := hdb.grown hg5 hgb hgr
      replace hgf := grown_grown hgf hg5
      have hcf := hc5
      clear hu hc5 hg5 hc4 hblk
      refine ordT_flo _ g7 (.string (Z ++ ⟨u.toArray⟩)) (fun _ _ _ h => h) rfl ?_ trivial ?_
      · intro _ _
        go_simp
        omega
      refine ordT_flo _ g8 ?_ (fun _ _ _ h => h) rfl ?_ trivial ?_; rotate_left; focus (intro _ _; go_simp; rfl)
      obtain ⟨z0, z1, z2, z3, z4, z5⟩ := hdb.sets hne
      have hcell := hdb.p1
      have hq1 := hdb.q1
      refine ordT_ev _ g9 rfl ?_
      go_simp
      refine ordT_done ?_
      obtain ⟨p0, p1, q0, q1, r0, r1, s0, s1⟩ := hdb
      clear hcell hq1 g0 g1 g2 g3 g4 g5 g6 g7 g8 g9
      go_wp2
      exact bodyPost_ret (v := .agg #[.int .i64 t.kind, .string (Z ++ ⟨u.toArray⟩)]) (by simp [results, Tryd.results35, go_sem, z4, z5]) rfl ⟨⟨t.kind, (Z ++ ⟨u.toArray⟩).data.toList⟩, by show _ = Ending.returned (.agg #[.int .i64 t.kind, sv _]); rw [sv_data], by show (Z ++ (⟨u.toArray⟩ : ByteArray)).data.toList.length ≤ 50; rw [str_len]; simp; omega, ((hcf.set hlt1 1 _).set hlt 0 _).set hlt 1 _, grown_set (grown_set (grown_set hgf hle1 1 _) (Nat.le_refl _) 0 _) (Nat.le_refl _) 1 _⟩
  have b2 : ((x : Int) == 2) = false := by simp; omega
  obtain ⟨z0, z1, z2, z3, z4, z5⟩ := bt.sets hne
  obtain ⟨p0, p1, q0, q1, r0, r1, s0, s1⟩ := bt
  go_wp2
  exact bodyPost_ret (v := tokv t) (by simp [results, Tryd.results35, go_sem, z2, z3]) rfl ⟨t, rfl, htl, (hc2.set hlt 0 _).set hlt 1 _, grown_set (grown_set hgw (Nat.le_refl _) 0 _) (Nat.le_refl _) 1 _⟩

end Go.Proofs.YthihjelcakenpaaDoor

/-
  Chapter 3's draws of lines, and sameTokens.
-/
namespace Go.Proofs.YthihjelcakenpaaDoor
open Go.RowKit

def LineDrawn (w : World) (e : Ending) (w' : World) : Prop := ∃ (v : Value) (n : Nat) (l : List Tok), e = .returned v ∧ n = l.length ∧ n ≤ 7 ∧ (∀ t ∈ l, t.text.length ≤ 50) ∧ w'.ownsRow w.heap.size 52 2 v n (l.flatMap tokc) ∧ Below w.heap.size w w'

theorem line_le (l : List Tok) (n : Nat) (h : l.length ≤ n) : (lineL l).length ≤ 101 * n := by
  have key : ∀ (l : List Tok) (p : Option Tok), (lineFrom p l).length ≤ 101 * l.length := by
    intro l
    induction l with
    | nil => intro p; simp [lineFrom]
    | cons t r ih =>
      intro p
      have h1 := sepL_le p t
      have h2 := tokText_le t
      have h3 := ih (some t)
      simp only [lineFrom, List.length_append, List.length_cons]
      omega
  unfold lineL
  split
  · have := key l none; omega
  · simp

set_option maxHeartbeats 800000 in
theorem sameTokens_same (a b : Value) (l : List Tok) (w : World) (ha : Rd 2 tokc w a l) (hb : Rd 2 tokc w b l) (hl : l.length ≤ 140737488355328) :
    Calls Tryd.prog 13 #[a, b] w fun e w' => e = .returned (.bool true) ∧ Below w.heap.size w w' := by
  obtain ⟨p, c1, rfl, hp⟩ := ha.ex
  obtain ⟨q, c2, rfl, hq⟩ := hb.ex
  clear ha hb
  have HP := Lib.hid hp
  have HQ := Lib.hid hq
  clear hp hq
  go_enter Tryd.func13, Tryd.ntmps13
  go_wp2
  go_loopw [5] (fun i wr => ∃ k : Nat, k ≤ l.length ∧ i = .int .i64 k ∧ Below w.heap.size w wr) (fun i _ => l.length - (intOf i).toNat)
  case atStart => exact ⟨0, by omega, rfl, Below.refl _ _⟩
  case round =>
    obtain ⟨k, hk, rfl, hbr⟩ := hrel
    by_cases hlt : k < l.length
    · obtain ⟨b1, o1, rfl, hb1, hc1⟩ := HP.out.resolve_left (by intro h; subst h; simp at hlt)
      obtain ⟨b2, o2, rfl, hb2, hc2⟩ := HQ.out.resolve_left (by intro h; subst h; simp at hlt)
      obtain ⟨x, hx⟩ : ∃ x, l[k]? = some x := ⟨_, List.getElem?_eq_getElem hlt⟩
      have e1 : wr.cell? ⟨b1, o1 + k * 2, none⟩ = some (.int .i64 x.kind) := (hbr.cell (p := ⟨b1, o1 + k * 2, none⟩) hb1).trans (hc1 k x hx 0 _ rfl)
      have e2 : wr.cell? ⟨b1, o1 + k * 2 + 1, none⟩ = some (sv x.text) := (hbr.cell (p := ⟨b1, o1 + k * 2 + 1, none⟩) hb1).trans (hc1 k x hx 1 _ rfl)
      have e3 : wr.cell? ⟨b2, o2 + k * 2, none⟩ = some (.int .i64 x.kind) := (hbr.cell (p := ⟨b2, o2 + k * 2, none⟩) hb2).trans (hc2 k x hx 0 _ rfl)
      have e4 : wr.cell? ⟨b2, o2 + k * 2 + 1, none⟩ = some (sv x.text) := (hbr.cell (p := ⟨b2, o2 + k * 2 + 1, none⟩) hb2).trans (hc2 k x hx 1 _ rfl)
      clear hc1 hc2 hx HP HQ
      go_wp2
      refine ord_start [(0, true), (1, true), (2, true), (3, true), (4, true), (5, true), (6, true), (7, true), (8, true)] (fun W => W.cell? ⟨b1, o1 + k * 2, none⟩ = some (.int .i64 x.kind) ∧ W.cell? ⟨b1, o1 + k * 2 + 1, none⟩ = some (sv x.text) ∧ W.cell? ⟨b2, o2 + k * 2, none⟩ = some (.int .i64 x.kind) ∧ W.cell? ⟨b2, o2 + k * 2 + 1, none⟩ = some (sv x.text)) (by kernel_rfl) (by kernel_rfl) rfl (by kernel_rfl) ?_
      intro ops' hops
      clear hops
      simp only [List.map_cons, List.map_nil, pickOp_zero, pickOp_succ]
      iterate 9 (refine ord_flo ?_ (fun _ _ _ h => h) rfl ?_ ⟨e1, e2, e3, e4⟩ ?_; rotate_left; focus (intro W hS; obtain ⟨s1, s2, s3, s4⟩ := hS; go_simp; rfl))
      refine ord_done ?_
      go_simp
      go_wp2
      go_roundw
      case rel => exact ⟨k + 1, by omega, by go_num, hbr.drew⟩
      case measure => simp [intOf]; omega
    · obtain rfl : k = l.length := by omega
      go_wp2
      go_ret
      exact ⟨rfl, hbr⟩

end Go.Proofs.YthihjelcakenpaaDoor

/-
  The laws' own helpers on tokens: size, copy, equality, marks.
-/
namespace Go.Proofs.YthihjelcakenpaaDoor
open Go.RowKit

/-- How much a list of tokens weighs: one a token, and its bytes. -/
def tkw (l : List Tok) : Nat := (l.map fun t => t.text.length).foldr (· + ·) 0
theorem tkw_snoc (l : List Tok) (x : Tok) : tkw (l ++ [x]) = tkw l + x.text.length := by
  induction l with
  | nil => simp [tkw]
  | cons a l ih => simp only [tkw, List.cons_append, List.map_cons, List.foldr_cons] at ih ⊢; omega
theorem tkw_take (l : List Tok) (k : Nat) : tkw (l.take k) ≤ tkw l := by
  induction l generalizing k with
  | nil => simp
  | cons a l ih =>
    cases k with
    | zero => simp [tkw]
    | succ k => have := ih k; simp only [tkw, List.take_succ_cons, List.map_cons, List.foldr_cons] at this ⊢; omega
theorem tkw_mem (l : List Tok) (t : Tok) (h : t ∈ l) : t.text.length ≤ tkw l := by
  induction l with
  | nil => cases h
  | cons a l ih =>
    simp only [tkw, List.map_cons, List.foldr_cons] at ih ⊢
    rcases List.mem_cons.1 h with rfl | h
    · omega
    · have := ih h; omega
def tkR (left : Nat) (n : Nat) : Int := if n ≤ left then ((left - n : Nat) : Int) else -1
theorem tkR_yes {left n : Nat} (h : n ≤ left) : tkR left n = ((left - n : Nat) : Int) := if_pos h
theorem tkR_no {left n : Nat} (h : ¬ n ≤ left) : tkR left n = -1 := if_neg h

theorem szToken_any (t : Tok) (left : Nat) (w : World) (hx : t.text.length ≤ 9223372036854775807) (hL : left ≤ 1000000000000) :
    Calls Tryd.prog 56 #[tokv t, .int .i64 left] w fun e w' => e = .returned (.int .i64 (tkR left t.text.length)) ∧ Below w.heap.size w w' := by
  have hz : (ByteArray.mk t.text.toArray).size = t.text.length := by show t.text.toArray.size = _; simp
  by_cases h : t.text.length ≤ left
  · have hR := Lib.hid (tkR_yes h)
    have h1 : ¬ (left : Int) - (t.text.length : Int) < 0 := by omega
    have hcast := Lib.hid (show ((left - t.text.length : Nat) : Int) = (left : Int) - (t.text.length : Int) by omega)
    go_enter Tryd.func56, Tryd.ntmps56
    go_wp2
    go_ret
    exact ⟨by rw [hR.out, hcast.out]; rfl, (Below.refl _ _).alloc (Nat.le_refl _) _⟩
  · have hR := Lib.hid (tkR_no h)
    have h1 : (left : Int) - (t.text.length : Int) < 0 := by omega
    go_enter Tryd.func56, Tryd.ntmps56
    go_wp2
    go_ret
    exact ⟨by rw [hR.out]; rfl, (Below.refl _ _).alloc (Nat.le_refl _) _⟩

theorem toToken_any (t : Tok) (w : World) :
    Calls Tryd.prog 57 #[tokv t] w fun e w' => e = .returned (tokv t) ∧ Below w.heap.size w w' := by
  go_enter Tryd.func57, Tryd.ntmps57
  go_wp2
  go_returns
  exact ⟨rfl, (((Below.refl _ _).alloc (Nat.le_refl _) _).alloc (by simp) _).alloc (by simp; omega) _⟩

theorem eqToken_same (t : Tok) (w : World) :
    Calls Tryd.prog 52 #[tokv t, tokv t] w fun e w' => e = .returned (.bool true) ∧ Below w.heap.size w w' := by
  go_enter Tryd.func52, Tryd.ntmps52
  go_wp2
  go_ret
  exact ⟨rfl, ((Below.refl _ _).alloc (Nat.le_refl _) _).alloc (by simp) _⟩

set_option maxHeartbeats 800000 in
theorem eqTokenS_same (a b : Value) (l : List Tok) (w : World) (ha : Rd 2 tokc w a l) (hb : Rd 2 tokc w b l) (hl : l.length ≤ 140737488355328) :
    Calls Tryd.prog 19 #[a, b] w fun e w' => e = .returned (.bool true) ∧ Below w.heap.size w w' := by
  obtain ⟨p, c1, rfl, hp⟩ := ha.ex
  obtain ⟨q, c2, rfl, hq⟩ := hb.ex
  clear ha hb
  have HP := Lib.hid hp
  have HQ := Lib.hid hq
  clear hp hq
  go_enter Tryd.func19, Tryd.ntmps19
  go_wp2
  go_loopw [5] (fun i wr => ∃ k : Nat, k ≤ l.length ∧ i = .int .i64 k ∧ Below w.heap.size w wr) (fun i _ => l.length - (intOf i).toNat)
  case atStart => exact ⟨0, by omega, rfl, Below.refl _ _⟩
  case round =>
    obtain ⟨k, hk, rfl, hbr⟩ := hrel
    have hbr0 := hbr.size
    by_cases hlt : k < l.length
    · obtain ⟨b1, o1, rfl, hb1, hc1⟩ := HP.out.resolve_left (by intro h; subst h; simp at hlt)
      obtain ⟨b2, o2, rfl, hb2, hc2⟩ := HQ.out.resolve_left (by intro h; subst h; simp at hlt)
      obtain ⟨x, hx⟩ : ∃ x, l[k]? = some x := ⟨_, List.getElem?_eq_getElem hlt⟩
      have e1 : wr.cell? ⟨b1, o1 + k * 2, none⟩ = some (.int .i64 x.kind) := (hbr.cell (p := ⟨b1, o1 + k * 2, none⟩) hb1).trans (hc1 k x hx 0 _ rfl)
      have e2 : wr.cell? ⟨b1, o1 + k * 2 + 1, none⟩ = some (sv x.text) := (hbr.cell (p := ⟨b1, o1 + k * 2 + 1, none⟩) hb1).trans (hc1 k x hx 1 _ rfl)
      have e3 : wr.cell? ⟨b2, o2 + k * 2, none⟩ = some (.int .i64 x.kind) := (hbr.cell (p := ⟨b2, o2 + k * 2, none⟩) hb2).trans (hc2 k x hx 0 _ rfl)
      have e4 : wr.cell? ⟨b2, o2 + k * 2 + 1, none⟩ = some (sv x.text) := (hbr.cell (p := ⟨b2, o2 + k * 2 + 1, none⟩) hb2).trans (hc2 k x hx 1 _ rfl)
      clear hc1 hc2 hx HP HQ
      go_wp2
      refine ord_start [(0, true), (1, true), (2, true), (3, true), (4, true), (5, true), (6, true), (7, true), (8, false), (9, true)] (fun W => W.cell? ⟨b1, o1 + k * 2, none⟩ = some (.int .i64 x.kind) ∧ W.cell? ⟨b1, o1 + k * 2 + 1, none⟩ = some (sv x.text) ∧ W.cell? ⟨b2, o2 + k * 2, none⟩ = some (.int .i64 x.kind) ∧ W.cell? ⟨b2, o2 + k * 2 + 1, none⟩ = some (sv x.text)) (by kernel_rfl) (by kernel_rfl) rfl (by kernel_rfl) ?_
      intro ops' hops
      clear hops
      simp only [List.map_cons, List.map_nil, pickOp_zero, pickOp_succ]
      iterate 8 (refine ord_flo ?_ (fun _ _ _ h => h) rfl ?_ ⟨e1, e2, e3, e4⟩ ?_; rotate_left; focus (intro W hS; obtain ⟨s1, s2, s3, s4⟩ := hS; go_simp; rfl))
      refine ord_ev rfl ?_
      go_simp
      refine (eqToken_same x _).mono ?_
      rintro e w2 ⟨rfl, bb⟩
      have hb2' := hbr.drew.trans (bb.mono (by show w.heap.size ≤ wr.heap.size; omega))
      have f1 := (bb.cell (p := ⟨b1, o1 + k * 2, none⟩) (by show b1 < wr.heap.size; omega)).trans e1
      have f2 := (bb.cell (p := ⟨b1, o1 + k * 2 + 1, none⟩) (by show b1 < wr.heap.size; omega)).trans e2
      have f3 := (bb.cell (p := ⟨b2, o2 + k * 2, none⟩) (by show b2 < wr.heap.size; omega)).trans e3
      have f4 := (bb.cell (p := ⟨b2, o2 + k * 2 + 1, none⟩) (by show b2 < wr.heap.size; omega)).trans e4
      refine ⟨⟨f1, f2, f3, f4⟩, ?_⟩
      iterate 1 (refine ord_flo ?_ (fun _ _ _ h => h) rfl ?_ ⟨f1, f2, f3, f4⟩ ?_; rotate_left; focus (intro W hS; obtain ⟨s1, s2, s3, s4⟩ := hS; go_simp; rfl))
      refine ord_done ?_
      go_simp
      clear e1 e2 e3 e4 f1 f2 f3 f4 bb hbr hbr0
      go_wp2
      go_roundw
      case rel => exact ⟨k + 1, by omega, by go_num, hb2'⟩
      case measure => simp [intOf]; omega
    · obtain rfl : k = l.length := by omega
      go_wp2
      go_ret
      exact ⟨rfl, hbr⟩

set_option maxHeartbeats 800000 in
theorem szTokenS_any (v : Value) (l : List Tok) (left : Nat) (w : World) (hr : Rd 2 tokc w v l) (hl : l.length ≤ 9223372036854775807) (hx : ∀ t ∈ l, t.text.length ≤ 9223372036854775807) (hL : left ≤ 1000000000000) :
    Calls Tryd.prog 24 #[v, .int .i64 left] w fun e w' => e = .returned (.int .i64 (tkR left (l.length + tkw l))) ∧ Below w.heap.size w w' := by
  obtain ⟨p, c, rfl, hp⟩ := hr.ex
  have HP := Lib.hid hp
  have HX := Lib.hid hx
  clear hp hr hx
  by_cases hbig : l.length ≤ left
  · have h1 : ¬ (left : Int) - (l.length : Int) < 0 := by omega
    go_enter Tryd.func24, Tryd.ntmps24
    go_wp2
    go_loopw [1, 4, 5] (fun lf r i wr => ∃ j : Nat, j ≤ l.length ∧ i = .int .i64 j ∧ lf = .int .i64 ((left - (l.length + tkw (l.take j)) : Nat) : Int) ∧ l.length + tkw (l.take j) ≤ left ∧ r = .int .i64 0 ∧ Below w.heap.size w wr) (fun _ _ i _ => l.length - (intOf i).toNat)
    case atStart => exact ⟨0, by omega, rfl, by simp [tkw]; omega, by simp [tkw]; omega, rfl, Below.refl _ _⟩
    case round =>
      obtain ⟨j, hj, rfl, rfl, hle, rfl, hbr⟩ := hrel
      have hbr0 := hbr.size
      by_cases hlt : j < l.length
      · obtain ⟨b, o, rfl, hb1, hc1⟩ := HP.out.resolve_left (by intro h; subst h; simp at hlt)
        obtain ⟨x, hx⟩ : ∃ x, l[j]? = some x := ⟨_, List.getElem?_eq_getElem hlt⟩
        have e1 : wr.cell? ⟨b, o + j * 2, none⟩ = some (.int .i64 x.kind) := (hbr.cell (p := ⟨b, o + j * 2, none⟩) hb1).trans (hc1 j x hx 0 _ rfl)
        have e2 : wr.cell? ⟨b, o + j * 2 + 1, none⟩ = some (sv x.text) := (hbr.cell (p := ⟨b, o + j * 2 + 1, none⟩) hb1).trans (hc1 j x hx 1 _ rfl)
        have c1 := fun W => szToken_any x (left - (l.length + tkw (l.take j))) W (HX.out x (List.mem_of_getElem? hx)) (by omega)
        have HT := Lib.hid (show tkw (l.take (j + 1)) = tkw (l.take j) + x.text.length by rw [take_tok hx, tkw_snoc])
        have hle2 := tkw_take l (j + 1)
        rw [HT.out] at hle2
        clear hc1 hx HP HX h1
        by_cases hok : l.length + tkw (l.take j) + x.text.length ≤ left
        · have h2 := tkR_yes (left := left - (l.length + tkw (l.take j))) (n := x.text.length) (by omega)
          rw [h2] at c1
          have C1 := Lib.hid c1
          have h3 : ¬ ((left - (l.length + tkw (l.take j)) - x.text.length : Nat) : Int) < 0 := by omega
          clear c1 h2
          go_wp2_with fail
          refine (C1.out _).mono ?_
          rintro e w2 ⟨rfl, b2⟩
          have hb2 := hbr.trans (b2.mono hbr0)
          clear hbr b2 e1 e2
          go_wp2
          go_roundw
          case rel =>
            refine ⟨j + 1, by omega, by go_num, ?_, by rw [HT.out]; omega, rfl, hb2⟩
            rw [HT.out]
            congr 1
            omega
          case measure => simp [intOf]; omega
        · have h2 := tkR_no (left := left - (l.length + tkw (l.take j))) (n := x.text.length) (by omega)
          rw [h2] at c1
          have C1 := Lib.hid c1
          have hno := Lib.hid (tkR_no (left := left) (n := l.length + tkw l) (by omega))
          clear c1 h2
          go_wp2_with fail
          refine (C1.out _).mono ?_
          rintro e w2 ⟨rfl, b2⟩
          have hb2 := hbr.trans (b2.mono hbr0)
          go_wp2
          go_ret
          exact ⟨by rw [hno.out]; rfl, hb2⟩
      · obtain rfl : j = l.length := by omega
        rw [List.take_length] at hle ⊢
        go_wp2
        go_ret
        refine ⟨?_, hbr⟩
        rw [tkR_yes hle]
        rfl
  · have h1 : (left : Int) - (l.length : Int) < 0 := by omega
    have hno := Lib.hid (tkR_no (left := left) (n := l.length + tkw l) (by omega))
    go_enter Tryd.func24, Tryd.ntmps24
    go_wp2
    go_ret
    exact ⟨by rw [hno.out]; rfl, Below.refl _ _⟩

theorem flat_len (l : List Tok) : (l.flatMap tokc).length = l.length * 2 := by
  induction l with
  | nil => rfl
  | cons a l ih => rw [List.flatMap_cons, List.length_append, ih]; simp [tokc]; omega

/-- make([]Token, n). -/
theorem wpList_toks {w : World} {ops : Array Oper} {rest : List Oper} {o : Oper} {a : Act} {Q : Exit → Act → World → Prop}
    (hgd : o.guard = none) (l c : Operand) (ho : o.op = Op.makeSlice 28 l c) (B : Nat) (W : World) (hb : Below B W w) (hB : B ≤ w.heap.size) (kl kc : IntKind) (n : Nat) (hl : a.eval l = .int kl (n : Int)) (hc : a.eval c = .int kc (n : Int)) (b2 : 24 * n ≤ 281474976710656)
    (h : ∀ w' xs, w'.ownsRow B 52 2 (.slice (some ⟨w.heap.size, 0, none⟩) n n) n xs → Below B W w' → w.heap.size < w'.heap.size → wpList Tryd.prog ops Q rest (a.put o.dst (.slice (some ⟨w.heap.size, 0, none⟩) n n)) w') : wpList Tryd.prog ops Q (o :: rest) a w := by
  obtain ⟨i, h1, h2, h3, h4⟩ := info_parts (show (Tryd.prog.info? 52).map (fun i => (i.zero, i.size, i.bytes)) = some (some (.agg #[.int .i64 0, .string ⟨#[]⟩]), 2, 24) from by kernel_rfl)
  refine wpList_make_full w hgd l c _ ho B 52 i _ 2 Tryd.underlying28 h1 h2 h3 kl kc (n : Int) (n : Int) n hl hc rfl rfl (by rw [h4]; exact b2) (by unfold maxLen; omega) hB ?_
  intro w' k1 k2
  exact h w' _ k1 (hb.grown k2 hB (fun k hk => by cases hk)) ((k1.lt w.heap.size rfl).2)

set_option maxHeartbeats 800000 in
theorem toTokenS_any (v : Value) (l : List Tok) (w : World) (hr : Rd 2 tokc w v l) (hl : l.length ≤ 10000000) :
    Calls Tryd.prog 25 #[v] w fun e w' => ∃ g, e = .returned (.slice (some ⟨g, 0, none⟩) l.length l.length) ∧ w'.ownsRow w.heap.size 52 2 (.slice (some ⟨g, 0, none⟩) l.length l.length) l.length (l.flatMap tokc) ∧ Below w.heap.size w w' := by
  obtain ⟨p, c, rfl, hp⟩ := hr.ex
  have HP := Lib.hid hp
  clear hp hr
  go_enter Tryd.func25, Tryd.ntmps25
  go_wp2_with (refine wpList_toks rfl _ _ rfl w.heap.size w (Below.refl _ _) (Nat.le_refl _) _ _ l.length rfl rfl (by omega) ?_)
  intro w1 xs hown1 hb1 hz1
  go_wp2
  go_loopw [4] (fun i wr => ∃ (j : Nat) (rest : List Value), j ≤ l.length ∧ i = .int .i64 j ∧ wr.ownsRow w.heap.size 52 2 (.slice (some ⟨w.heap.size, 0, none⟩) l.length l.length) l.length ((l.take j).flatMap tokc ++ rest) ∧ Below w.heap.size w wr) (fun i _ => l.length - (intOf i).toNat)
  case atStart => exact ⟨0, xs, by omega, rfl, hown1, hb1⟩
  case round =>
    obtain ⟨j, rest, hj, rfl, hown, hbr⟩ := hrel
    have hbr0 := hbr.size
    clear hown1 hb1 hz1
    by_cases hlt : j < l.length
    · obtain ⟨b, o, rfl, hb1, hc1⟩ := HP.out.resolve_left (by intro h; subst h; simp at hlt)
      obtain ⟨x, hx⟩ : ∃ x, l[j]? = some x := ⟨_, List.getElem?_eq_getElem hlt⟩
      have e1 : wr.cell? ⟨b, o + j * 2, none⟩ = some (.int .i64 x.kind) := (hbr.cell (p := ⟨b, o + j * 2, none⟩) hb1).trans (hc1 j x hx 0 _ rfl)
      have e2 : wr.cell? ⟨b, o + j * 2 + 1, none⟩ = some (sv x.text) := (hbr.cell (p := ⟨b, o + j * 2 + 1, none⟩) hb1).trans (hc1 j x hx 1 _ rfl)
      have HT := Lib.hid (take_tok hx)
      clear hc1 hx HP
      go_wp2_with fail
      refine (toToken_any x _).mono ?_
      rintro e w2 ⟨rfl, b2⟩
      have hown2 := ownsRow_below hown b2
      have hb2 := hbr.trans (b2.mono hbr0)
      obtain ⟨⟨u0, hu0⟩, ⟨u1, hu1⟩, hf0, hf1⟩ := own_cells2 hown2 hlt
      have HO := Lib.hid (own_two hown2 (by rw [flat_len, List.length_take]; omega) hlt (.int .i64 x.kind) (sv x.text))
      clear hbr b2 hown e1 e2 hown2
      go_wp2
      go_roundw
      case rel =>
        obtain ⟨rest', h⟩ := HO.out
        refine ⟨j + 1, rest', by omega, by go_num, ?_, (hb2.setCell (Nat.le_refl _) _).setCell (Nat.le_refl _) _⟩
        rw [HT.out, List.flatMap_append]
        simpa [tokc] using h
      case measure => simp [intOf]; omega
    · obtain rfl : j = l.length := by omega
      have hrest : rest = [] := by
        have := hown.1
        rw [List.take_length, List.length_append, flat_len] at this
        exact List.eq_nil_of_length_eq_zero (by omega)
      subst hrest
      rw [List.take_length, List.append_nil] at hown
      go_wp2
      go_ret
      exact ⟨w.heap.size, rfl, hown, hbr⟩

/-- The marks that the law lays into n tokens from number k on. -/
def tmarks (k n : Nat) : List Tok := (List.range n).map fun i => ⟨((k + 2 * i : Nat) : Int), markB (k + 2 * i + 1)⟩
theorem tmarks_length (k n : Nat) : (tmarks k n).length = n := by simp [tmarks]
theorem tmarks_succ (k n : Nat) : tmarks k (n + 1) = tmarks k n ++ [⟨((k + 2 * n : Nat) : Int), markB (k + 2 * n + 1)⟩] := by simp [tmarks, List.range_succ]
theorem tmarks_at (k n i : Nat) (h : i < n) : (tmarks k n)[i]? = some ⟨((k + 2 * i : Nat) : Int), markB (k + 2 * i + 1)⟩ := by simp [tmarks, h]

set_option maxHeartbeats 1600000 in
theorem markTokenS_any (v : Value) (n : Nat) (xs : List Value) (kk : Int) (k B : Nat) (hkk : kk = (k : Int)) (w : World) (hown : w.ownsRow B 52 2 v n xs) (hk : k ≤ 1000000000000) (hl : n ≤ 1000000000000) :
    Calls Tryd.prog 22 #[v, .int .i64 kk] w fun e w' => e = .returned (.int .i64 (k + 2 * n : Nat)) ∧ w'.ownsRow B 52 2 v n ((tmarks k n).flatMap tokc) ∧ w.grownBy w' v.ownBlock := by
  subst hkk
  have hex : ∃ p c, v = .slice p n c ∧ (0 < n → ∃ g, p = some ⟨g, 0, none⟩) := by
    rcases h : hown.2 with ⟨hv, h0⟩ | ⟨g, cap, cur, hv, _⟩
    · exact ⟨none, 0, by rw [hv, h0], fun h => by omega⟩
    · exact ⟨_, cap, hv, fun _ => ⟨g, rfl⟩⟩
  obtain ⟨p, c, rfl, hp⟩ := hex
  have HP := Lib.hid hp
  clear hp
  go_enter Tryd.func22, Tryd.ntmps22
  go_wp2
  go_loopw [1, 5] (fun kk i wr => ∃ (j : Nat) (rest : List Value), j ≤ n ∧ i = .int .i64 j ∧ kk = .int .i64 (k + 2 * j : Nat) ∧ wr.ownsRow B 52 2 (.slice p n c) n ((tmarks k j).flatMap tokc ++ rest) ∧ w.grownBy wr (Value.ownBlock (.slice p n c))) (fun _ i _ => n - (intOf i).toNat)
  case atStart => exact ⟨0, xs, by omega, rfl, rfl, hown, World.grownBy.refl _ _⟩
  case round =>
    obtain ⟨j, rest, hj, rfl, rfl, hor, hgr⟩ := hrel
    clear hown
    by_cases hlt : j < n
    · obtain ⟨g, rfl⟩ := HP.out (by omega)
      have hqb : k + 2 * j ≤ 3000000000000 := by omega
      generalize hq : k + 2 * j = q at *
      have HQ := Lib.hid hq
      obtain ⟨⟨u0, hu0⟩, ⟨u1, hu1⟩, hf0, hf1⟩ := own_cells2 hor hlt
      have hglt := (hor.lt g rfl).2
      have hset := hor.stored (j * 2) (.int .i64 (q : Int))
      have hcell1 : (wr.setCell ⟨g, j * 2, none⟩ (.int .i64 (q : Int))).cell? ⟨g, j * 2 + 1, none⟩ = some u1 := (World.cell?_setCell_other wr _ _ _ (by intro e; injection e with _ e2; omega)).trans hu1
      have hA : ((tmarks k j).flatMap tokc).length = j * 2 := by rw [flat_len, tmarks_length]
      have hl2 : ((tmarks k j).flatMap tokc ++ rest).length = n * 2 := hor.1
      have HA := Lib.hid hA
      have HL2 := Lib.hid hl2
      have HO := Lib.hid hor
      have HS := Lib.hid hset
      have HG := Lib.hid hgr
      clear hA hset hor hgr HP hq hl2
      go_wp2_with fail
      refine (markText_any (q + 1) _ (by omega)).mono ?_
      rintro e w2 ⟨rfl, b2⟩
      have hs2 := (ownsRow_below HS.out.1 b2)
      have hc2 := (b2.cell (p := ⟨g, j * 2 + 1, none⟩) (by show g < _; simpa using hglt)).trans hcell1
      have hf2 := hs2.frozenAt (j * 2 + 1)
      have HS3 := Lib.hid (hs2.stored (j * 2 + 1) (sv (markB (q + 1))))
      have HG2 := Lib.hid (grown_below (grown_grown HG.out HS.out.2) b2)
      clear hs2 b2 HS HG hcell1 hu0 hu1 hf0 hf1
      go_wp2
      go_roundw
      case rel =>
        obtain ⟨r0, r1, r, hr⟩ : ∃ r0 r1 r, rest = r0 :: r1 :: r := by
          have := HL2.out
          rw [List.length_append, HA.out] at this
          match rest, this with
          | [], hl => simp at hl; omega
          | [_], hl => simp at hl; omega
          | r0 :: r1 :: r, _ => exact ⟨r0, r1, r, rfl⟩
        have hA := HA.out
        have e1 : (((tmarks k j).flatMap tokc ++ rest).set (j * 2) (.int .i64 (q : Int))).set (j * 2 + 1) (sv (markB (q + 1))) = ((tmarks k (j + 1)).flatMap tokc) ++ r := by
          subst hr
          rw [List.set_append_right _ _ (by omega), hA, Nat.sub_self, List.set_cons_zero, List.set_append_right _ _ (by omega), hA, show j * 2 + 1 - j * 2 = 1 by omega, tmarks_succ, HQ.out]
          simp [tokc]
        have h3 := HS3.out
        rw [e1] at h3
        refine ⟨j + 1, r, by omega, by go_num, ?_, h3.1, grown_grown HG2.out h3.2⟩
        have := HQ.out
        congr 1
        omega
      case measure => simp [intOf]; omega
    · obtain rfl : j = n := by omega
      have hrest : rest = [] := by
        have := hor.1
        rw [List.length_append, flat_len, tmarks_length] at this
        exact List.eq_nil_of_length_eq_zero (by omega)
      subst hrest
      rw [List.append_nil] at hor
      go_wp2
      go_ret
      exact ⟨rfl, hor, hgr⟩

set_option maxHeartbeats 1600000 in
theorem heldTokenS_any (v : Value) (kk : Int) (n k : Nat) (hkk : kk = (k : Int)) (w : World) (hr : Rd 2 tokc w v (tmarks k n)) (hk : k ≤ 1000000000000) (hl : n ≤ 1000000000000) :
    Calls Tryd.prog 23 #[v, .int .i64 kk] w fun e w' => e = .returned (.int .i64 (k + 2 * n : Nat)) ∧ Below w.heap.size w w' := by
  subst hkk
  obtain ⟨p, c, hv, hp⟩ := hr.ex
  rw [tmarks_length] at hv
  subst hv
  have HP := Lib.hid hp
  clear hp hr
  go_enter Tryd.func23, Tryd.ntmps23
  go_wp2
  go_loopw [1, 5] (fun kk i wr => ∃ j : Nat, j ≤ n ∧ i = .int .i64 j ∧ kk = .int .i64 (k + 2 * j : Nat) ∧ Below w.heap.size w wr) (fun _ i _ => n - (intOf i).toNat)
  case atStart => exact ⟨0, by omega, rfl, rfl, Below.refl _ _⟩
  case round =>
    obtain ⟨j, hj, rfl, rfl, hbr⟩ := hrel
    have hbr0 := hbr.size
    by_cases hlt : j < n
    · obtain ⟨b, o, rfl, hb1, hc1⟩ := HP.out.resolve_left (by intro h; have := congrArg List.length h; rw [tmarks_length] at this; simp at this; omega)
      have hqb : k + 2 * j ≤ 3000000000000 := by omega
      have e1 : wr.cell? ⟨b, o + j * 2, none⟩ = some (.int .i64 ((k + 2 * j : Nat) : Int)) := (hbr.cell (p := ⟨b, o + j * 2, none⟩) hb1).trans (hc1 j _ (tmarks_at k n j hlt) 0 _ rfl)
      have e2 : wr.cell? ⟨b, o + j * 2 + 1, none⟩ = some (sv (markB (k + 2 * j + 1))) := (hbr.cell (p := ⟨b, o + j * 2 + 1, none⟩) hb1).trans (hc1 j _ (tmarks_at k n j hlt) 1 _ rfl)
      generalize hq : k + 2 * j = q at *
      have HQ := Lib.hid hq
      have hwr : IntKind.i64.wrap ((q : Int) + 1) = (q : Int) + 1 := IntWalk.i64_in _ (by omega)
      clear hc1 HP hq
      go_wp2
      refine ord_start [(0, true), (1, true), (2, true), (3, true), (4, true), (5, true), (6, false), (7, true)] (fun W => W.cell? ⟨b, o + j * 2 + 1, none⟩ = some (sv (markB (q + 1)))) (by kernel_rfl) (by kernel_rfl) rfl (by kernel_rfl) ?_
      intro ops' hops
      clear hops
      simp only [List.map_cons, List.map_nil, pickOp_zero, pickOp_succ]
      iterate 6 (refine ord_flo ?_ (fun _ _ _ h => h) rfl ?_ e2 ?_; rotate_left; focus (intro W hS; obtain s1 := hS; go_simp; rfl))
      refine ord_ev rfl ?_
      go_simp
      refine (markText_any (q + 1) _ (by omega)).mono ?_
      rintro e w1 ⟨rfl, hb2⟩
      have e3 : w1.cell? ⟨b, o + j * 2 + 1, none⟩ = some (sv (markB (q + 1))) := (hb2.cell (p := ⟨b, o + j * 2 + 1, none⟩) (by show b < wr.heap.size; omega)).trans e2
      refine ⟨e3, ?_⟩
      iterate 1 (refine ord_flo ?_ (fun _ _ _ h => h) rfl ?_ e3 ?_; rotate_left; focus (intro W hS; obtain s1 := hS; go_simp; rfl))
      refine ord_done ?_
      go_simp
      have hbf := hbr.drew.trans (Below.mono hb2 (by show w.heap.size ≤ wr.heap.size; omega))
      clear e1 e2 e3 hb2 hbr hbr0 hwr
      go_wp2
      go_roundw
      case rel =>
        refine ⟨j + 1, by omega, by go_num, ?_, hbf⟩
        have := HQ.out
        congr 1
        omega
      case measure => simp [intOf]; omega
    · obtain rfl : j = n := by omega
      go_wp2
      go_ret
      exact ⟨rfl, hbr⟩

end Go.Proofs.YthihjelcakenpaaDoor

