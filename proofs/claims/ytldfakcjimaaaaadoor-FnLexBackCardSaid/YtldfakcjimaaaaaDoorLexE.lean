/-
  Chapter 3's draws.
-/
import Derived.Test.YtldfakcjimaaaaaDoorLexD
import Derived.Test.YtldfakcjimaaaaaDoorOrdT
import Derived.Test.YtldfakcjimaaaaaDoorDraw2
namespace Go.Proofs.YtldfakcjimaaaaaDoor
open Go.RowKit

/-- A token was drawn. -/
def TokPost (g : Nat) (code : List UInt8) (w : World) (e : Ending) (w' : World) : Prop := ∃ t : Tok, e = .returned (tokv t) ∧ t.text.length ≤ 50 ∧ Cur w' g code ∧ w.grownBy w' (some g)

theorem grown_set1 (w : World) (b j : Nat) (v : Value) : w.grownBy (w.setCell ⟨b, j, none⟩ v) (some b) :=
  ⟨rfl, rfl, rfl, by simp, fun k _ hne => Below.heap_setCell w _ v k (by intro e; subst e; exact hne rfl)⟩
/-- A cell of a younger block is set: the old memory stands as it stood. -/
theorem grown_set {w w1 : World} {row : Option Nat} {b : Nat} (h : w.grownBy w1 row) (hb : w.heap.size ≤ b) (j : Nat) (v : Value) : w.grownBy (w1.setCell ⟨b, j, none⟩ v) row :=
  grown_young h (grown_set1 w1 b j v) (fun k hk => by injection hk with hk; omega)
theorem Cur.set {w : World} {g b : Nat} {code : List UInt8} (h : Cur w g code) (hb : g < b) (j : Nat) (v : Value) : Cur (w.setCell ⟨b, j, none⟩ v) g code :=
  h.grown (grown_set1 w b j v) (fun k hk => by injection hk with hk; omega)
/-- Behind a draw the cells of a block that is not the cursor's stand. -/
theorem cells_grown {w w1 : World} {g b : Nat} (hg : w.grownBy w1 (some g)) (hb : b < w.heap.size) (hne : b ≠ g) : (∀ j, w1.cell? ⟨b, j, none⟩ = w.cell? ⟨b, j, none⟩) ∧ (∀ j, w1.frozen? ⟨b, j, none⟩ = w.frozen? ⟨b, j, none⟩) :=
  ⟨fun _ => World.cell?_of_block (hg.block b hb (by intro e; injection e with e; exact hne e)), fun _ => World.frozen?_of_block (hg.block b hb (by intro e; injection e with e; exact hne e))⟩

set_option maxHeartbeats 1600000 in
theorem l3Token_any (g : Nat) (code : List UInt8) (w : World) (hc : Cur w g code) :
    Calls Tryd.prog 41 #[.pointer (some ⟨g, 0, none⟩)] w fun e w' => TokPost g code w e w' := by
  have hlt := hc.lt
  have hc0 : Cur (w.alloc (.cells #[.int .i64 0, .string ⟨#[]⟩] 35)) g code := hc.below ((Below.refl _ _).alloc (Nat.le_refl _) _)
  have hg0 : w.grownBy (w.alloc (.cells #[.int .i64 0, .string ⟨#[]⟩] 35)) (some g) := World.grownBy_alloc w _ (some g)
  have HC := Lib.hid hc0
  clear hc hc0
  go_enter Tryd.func41, Tryd.ntmps41
  go_wp2_with fail
  refine (l1Below_any g code _ 5 (by omega) _ HC.out (by omega) (by omega)).mono ?_
  rintro e w1 ⟨x, rfl, hx, hc1, hg1⟩
  obtain ⟨hc, hf⟩ := cells_grown (b := w.heap.size) hg1 (by simp) (by omega)
  have hc00 := hc 0
  have hc01 := hc 1
  have hf0 := hf 0
  have hf1 := hf 1
  simp [go_sem] at hc00 hc01 hf0 hf1
  have hgg := grown_grown hg0 hg1
  obtain ⟨hs0, hs1⟩ := two_set hc00 hc01
  have hlt1 := hc1.lt
  clear hc hf hg0 hg1 HC
  by_cases h0 : x = 0
  · skip
    subst h0
    go_wp2
    exact bodyPost_ret (v := tokv ⟨3, []⟩) (by simp [results, Tryd.results41, go_sem, hs0, hs1]) rfl ⟨⟨3, []⟩, rfl, by simp, (hc1.set hlt 0 _).set hlt 1 _, grown_set (grown_set hgg (Nat.le_refl _) 0 _) (Nat.le_refl _) 1 _⟩
  have b0 : ((x : Int) == 0) = false := by simp; omega
  by_cases h1 : x = 1
  · skip
    subst h1
    go_wp2
    exact bodyPost_ret (v := tokv ⟨4, []⟩) (by simp [results, Tryd.results41, go_sem, hs0, hs1]) rfl ⟨⟨4, []⟩, rfl, by simp, (hc1.set hlt 0 _).set hlt 1 _, grown_set (grown_set hgg (Nat.le_refl _) 0 _) (Nat.le_refl _) 1 _⟩
  have b1 : ((x : Int) == 1) = false := by simp; omega
  by_cases h2 : x = 2
  · subst h2
    clear hs0 hs1
    go_wp2_with fail
    refine (l2Any_any g code _ hc1).mono ?_
    rintro e w2 ⟨t, rfl, htl, hc2, hg2⟩
    obtain ⟨hc, hf⟩ := cells_grown (b := w.heap.size) hg2 (World.block_lt_of_cell? _ _ hc00) (by omega)
    have d0 := (hc 0).trans hc00
    have d1 := (hc 1).trans hc01
    have e0 := (hf 0).trans hf0
    have e1 := (hf 1).trans hf1
    obtain ⟨hs0, hs1⟩ := two_set d0 d1
    have hgf := grown_grown hgg hg2
    clear hc hf hc00 hc01 hf0 hf1 hc1 hg2 hgg
    go_wp2
    exact bodyPost_ret (v := tokv ⟨2, t⟩) (by simp [results, Tryd.results41, go_sem, hs0, hs1]) rfl ⟨⟨2, t⟩, rfl, by show t.length ≤ 50; omega, (hc2.set hlt 0 _).set hlt 1 _, grown_set (grown_set hgf (Nat.le_refl _) 0 _) (Nat.le_refl _) 1 _⟩
  have b2 : ((x : Int) == 2) = false := by simp; omega
  clear hs0 hs1
  go_wp2_with fail
  refine (l1Pick_any g code _ [[65, 49], [102, 101, 116, 99, 104], [49, 58, 42], [43, 102, 108, 97, 103, 115], [125], [120], [105, 110, 98, 111, 120]] _ (hc1.below ((Below.refl _ _).alloc (Nat.le_refl _) _)) (Rd1_lit (b := w1.heap.size) _ (heap_alloc_new w1 _) rfl rfl) (Apart_new hlt1) (by simp) (by simp)).mono ?_
  rintro e w2 ⟨t, rfl, ht, hc2, hg2⟩
  have htl : t.length ≤ 50 := by simp at ht; rcases ht with rfl | rfl | rfl | rfl | rfl | rfl | rfl <;> simp
  have hwl : w.heap.size < w1.heap.size := World.block_lt_of_cell? _ _ hc00
  obtain ⟨hc, hf⟩ := cells_grown (b := w.heap.size) hg2 (by simp; exact Nat.lt_succ_of_lt hwl) (by omega)
  have d0 := (hc 0).trans ((World.cell?_alloc_lt w1 _ _ (by exact hwl)).trans hc00)
  have d1 := (hc 1).trans ((World.cell?_alloc_lt w1 _ _ (by exact hwl)).trans hc01)
  have e0 := (hf 0).trans ((World.frozen?_of_block (Below.heap_alloc w1 _ _ hwl)).trans hf0)
  have e1 := (hf 1).trans ((World.frozen?_of_block (Below.heap_alloc w1 _ _ hwl)).trans hf1)
  obtain ⟨hs0, hs1⟩ := two_set d0 d1
  have hgf := grown_grown hgg (grown_grown (World.grownBy_alloc w1 _ (some g)) hg2)
  clear hc hf hc00 hc01 hf0 hf1 hc1 hg2 hgg ht hwl
  go_wp2
  exact bodyPost_ret (v := tokv ⟨1, t⟩) (by simp [results, Tryd.results41, go_sem, hs0, hs1]) rfl ⟨⟨1, t⟩, rfl, htl, (hc2.set hlt 0 _).set hlt 1 _, grown_set (grown_set hgf (Nat.le_refl _) 0 _) (Nat.le_refl _) 1 _⟩

def ToksPost (m : Nat) (g : Nat) (code : List UInt8) (w : World) (e : Ending) (w' : World) : Prop := ∃ (v : Value) (n : Nat) (l : List Tok), e = .returned v ∧ n = l.length ∧ n ≤ m ∧ (∀ t ∈ l, t.text.length ≤ 50) ∧ w'.ownsRow w.heap.size 35 2 v n (l.flatMap tokc) ∧ Cur w' g code ∧ w.grownBy w' (some g)

set_option maxHeartbeats 1600000 in
theorem l3List_any (g : Nat) (code : List UInt8) (w : World) (hc : Cur w g code) :
    Calls Tryd.prog 23 #[.pointer (some ⟨g, 0, none⟩)] w fun e w' => ToksPost 6 g code w e w' := by
  have hlt := hc.lt
  have hc0 : Cur (w.alloc (.cells #[] 35)) g code := hc.below ((Below.refl _ _).alloc (Nat.le_refl _) _)
  have hg0 : w.grownBy (w.alloc (.cells #[] 35)) (some g) := World.grownBy_alloc w _ (some g)
  have ho0 := own_empty w 35 w.heap.size 2 (Nat.le_refl _)
  have HC := Lib.hid hc0
  clear hc hc0
  go_enter Tryd.func23, Tryd.ntmps23
  go_wp2_with fail
  refine (l1Below_any g code _ 6 (by omega) _ HC.out (by omega) (by omega)).mono ?_
  rintro e w1 ⟨x, rfl, hx, hc1, hg1⟩
  have ho1 := ho0.kept hg1 (.inr (by simp [Value.ownBlock]; omega))
  have hgg := grown_grown hg0 hg1
  clear HC hg0 ho0 hg1
  go_wp2
  go_loopw [3, 5] (fun v i wr => ∃ (k n : Nat) (l : List Tok), k ≤ x ∧ i = .int .i64 k ∧ n = k ∧ n = l.length ∧ (∀ t ∈ l, t.text.length ≤ 50) ∧ wr.ownsRow w.heap.size 35 2 v n (l.flatMap tokc) ∧ Cur wr g code ∧ w.grownBy wr (some g)) (fun _ i _ => x - (intOf i).toNat)
  case atStart => exact ⟨0, 0, [], by omega, rfl, rfl, rfl, by simp, ho1, hc1, hgg⟩
  case round =>
    obtain ⟨k, n, l, hk, rfl, hnk, hn, htl, hown, hcr, hgr⟩ := hrel
    have hz := hgr.size
    have HN := Lib.hid hn
    have HT := Lib.hid htl
    have hnle : n ≤ k := by omega
    have HK := Lib.hid hnk
    clear hn htl ho1 hc1 hgg hnk
    by_cases hlt2 : k < x
    · go_wp2_with fail
      refine (l3Token_any g code _ hcr).mono ?_
      rintro e w2 ⟨t, rfl, htl, hc2, hg2⟩
      have hz2 := hg2.size
      have ho2 : w2.ownsRow w.heap.size 35 2 u3 n (l.flatMap tokc) := hown.kept hg2 (by
        by_cases hv1 : u3.ownBlock = none
        · exact .inl hv1
        · right
          intro e
          have q2 := (hown.lt g e).1
          omega)
      have hgw := grown_grown hgr hg2
      clear hown hcr hgr hg2
      go_wp2_with (at_builtin; refine wpList_app1 Tryd.el_tok rfl (.tmp 14) (.tmp 17) rfl w2 w2 u3 n _ rfl ho2 (Below.refl _ _) (by omega) #[.int .i64 t.kind, sv t.text] (.inr rfl) 1 1 rfl rfl (by simp [Value.oneCell']) (by omega) (by omega) (by omega) ?_)
      intro g2 cap w' hown' _ hg3 _ _
      have hlo : ∀ j, u3.ownBlock = some j → w.heap.size ≤ j := fun j hj => (ho2.lt j hj).1
      have hc3 := hc2.grown hg3 (fun j hj => by have := hlo j hj; omega)
      have hgw2 := grown_young hgw hg3 hlo
      clear ho2 hc2 hgw hg3
      go_wp2
      go_roundw
      case rel =>
        refine ⟨k + 1, n + 1, l ++ [t], by omega, by go_num, by rw [HK.out], by rw [HN.out]; simp, ?_, by rw [List.flatMap_append]; simpa [tokc] using hown', hc3, hgw2⟩
        intro y hy
        rcases List.mem_append.1 hy with hy | hy
        · exact HT.out y hy
        · simp only [List.mem_singleton] at hy; subst hy; exact htl
      case measure => simp [intOf]; omega
    · go_wp2
      go_ret
      exact ⟨_, n, l, rfl, HN.out, by omega, HT.out, hown, hcr, hgr⟩

/-- The token's variable lies in block B, the result's place in block R. -/
structure BT (w : World) (B R : Nat) (k : Int) (tx : List UInt8) : Prop where
  p0 : w.cell? ⟨B, 0, none⟩ = some (.int .i64 k)
  p1 : w.cell? ⟨B, 1, none⟩ = some (sv tx)
  q0 : w.frozen? ⟨B, 0, none⟩ = false
  q1 : w.frozen? ⟨B, 1, none⟩ = false
  r0 : w.cell? ⟨R, 0, none⟩ = some (.int .i64 0)
  r1 : w.cell? ⟨R, 1, none⟩ = some (.string ⟨#[]⟩)
  s0 : w.frozen? ⟨R, 0, none⟩ = false
  s1 : w.frozen? ⟨R, 1, none⟩ = false
theorem BT.grown {w w1 : World} {B R g : Nat} {k : Int} {tx : List UInt8} (h : BT w B R k tx) (hg : w.grownBy w1 (some g)) (hB : ¬ B = g) (hR : ¬ R = g) : BT w1 B R k tx := by
  obtain ⟨c1, f1⟩ := cells_grown hg (World.block_lt_of_cell? _ _ h.p0) hB
  obtain ⟨c2, f2⟩ := cells_grown hg (World.block_lt_of_cell? _ _ h.r0) hR
  exact ⟨(c1 0).trans h.p0, (c1 1).trans h.p1, (f1 0).trans h.q0, (f1 1).trans h.q1, (c2 0).trans h.r0, (c2 1).trans h.r1, (f2 0).trans h.s0, (f2 1).trans h.s1⟩
theorem BT.below {w w1 : World} {B R : Nat} {k : Int} {tx : List UInt8} (h : BT w B R k tx) (hb : Below w.heap.size w w1) : BT w1 B R k tx := by
  have hB := World.block_lt_of_cell? _ _ h.p0
  have hR := World.block_lt_of_cell? _ _ h.r0
  exact ⟨(hb.cell (p := ⟨B, 0, none⟩) hB).trans h.p0, (hb.cell (p := ⟨B, 1, none⟩) hB).trans h.p1, (hb.frozen (p := ⟨B, 0, none⟩) hB).trans h.q0, (hb.frozen (p := ⟨B, 1, none⟩) hB).trans h.q1,
    (hb.cell (p := ⟨R, 0, none⟩) hR).trans h.r0, (hb.cell (p := ⟨R, 1, none⟩) hR).trans h.r1, (hb.frozen (p := ⟨R, 0, none⟩) hR).trans h.s0, (hb.frozen (p := ⟨R, 1, none⟩) hR).trans h.s1⟩
theorem BT.sets {w : World} {B R : Nat} {k : Int} {tx : List UInt8} (h : BT w B R k tx) (hne : ¬ R = B) :
    (∀ v, (w.setCell ⟨B, 0, none⟩ v).cell? ⟨B, 0, none⟩ = some v) ∧ (∀ v, (w.setCell ⟨B, 1, none⟩ v).cell? ⟨B, 1, none⟩ = some v) ∧
    (∀ v, (w.setCell ⟨R, 0, none⟩ v).cell? ⟨R, 0, none⟩ = some v) ∧ (∀ v v', ((w.setCell ⟨R, 0, none⟩ v).setCell ⟨R, 1, none⟩ v').cell? ⟨R, 1, none⟩ = some v') ∧
    (∀ u j v, ((w.setCell ⟨B, j, none⟩ u).setCell ⟨R, 0, none⟩ v).cell? ⟨R, 0, none⟩ = some v) ∧ (∀ u j v v', (((w.setCell ⟨B, j, none⟩ u).setCell ⟨R, 0, none⟩ v).setCell ⟨R, 1, none⟩ v').cell? ⟨R, 1, none⟩ = some v') := by
  have hr : ∀ u j i, (w.setCell ⟨B, j, none⟩ u).cell? ⟨R, i, none⟩ = w.cell? ⟨R, i, none⟩ := fun u j i => World.cell?_setCell_other w _ _ _ (by intro e; injection e with e _; exact hne e.symm)
  refine ⟨fun v => World.cell?_setCell_same w _ _ h.p0, fun v => World.cell?_setCell_same w _ _ h.p1, (two_set h.r0 h.r1).1, (two_set h.r0 h.r1).2, fun u j => (two_set ((hr u j 0).trans h.r0) ((hr u j 1).trans h.r1)).1, fun u j => (two_set ((hr u j 0).trans h.r0) ((hr u j 1).trans h.r1)).2⟩

set_option maxHeartbeats 3200000 in
theorem l3Bent_any (g : Nat) (code : List UInt8) (w : World) (hc : Cur w g code) :
    Calls Tryd.prog 25 #[.pointer (some ⟨g, 0, none⟩)] w fun e w' => TokPost g code w e w' := by
  have hlt := hc.lt
  have hc0 : Cur (w.alloc (.cells #[.int .i64 0, .string ⟨#[]⟩] 35)) g code := hc.below ((Below.refl _ _).alloc (Nat.le_refl _) _)
  have hg0 : w.grownBy (w.alloc (.cells #[.int .i64 0, .string ⟨#[]⟩] 35)) (some g) := World.grownBy_alloc w _ (some g)
  have HC := Lib.hid hc0
  clear hc hc0
  go_enter Tryd.func25, Tryd.ntmps25
  go_wp2_with fail
  refine (l3Token_any g code _ HC.out).mono ?_
  rintro e w1 ⟨t, rfl, htl, hc1, hg1⟩
  obtain ⟨hc, hf⟩ := cells_grown (b := w.heap.size) hg1 (by simp) (by omega)
  have a0 := hc 0
  have a1 := hc 1
  have b0 := hf 0
  have b1 := hf 1
  simp [go_sem] at a0 a1 b0 b1
  have hgg := grown_grown hg0 hg1
  have hlt1 := hc1.lt
  have hwl : w.heap.size < w1.heap.size := World.block_lt_of_cell? _ _ a0
  clear hc hf hg0 hg1 HC
  go_wp2_with fail
  refine (l1Below_any g code _ 8 (by omega) _ (hc1.below ((Below.refl _ _).alloc (Nat.le_refl _) _)) (by omega) (by omega)).mono ?_
  rintro e w2 ⟨x, rfl, hx, hc2, hg2⟩
  obtain ⟨hc, hf⟩ := cells_grown (b := w1.heap.size) hg2 (by simp) (by omega)
  have p0 := hc 0
  have p1 := hc 1
  have q0 := hf 0
  have q1 := hf 1
  simp [go_sem] at p0 p1 q0 q1
  obtain ⟨hc', hf'⟩ := cells_grown (b := w.heap.size) hg2 (by simp; omega) (by omega)
  have r0 := (hc' 0).trans ((World.cell?_alloc_lt w1 _ _ (by exact hwl)).trans a0)
  have r1 := (hc' 1).trans ((World.cell?_alloc_lt w1 _ _ (by exact hwl)).trans a1)
  have s0 := (hf' 0).trans ((World.frozen?_of_block (Below.heap_alloc w1 _ _ hwl)).trans b0)
  have s1 := (hf' 1).trans ((World.frozen?_of_block (Below.heap_alloc w1 _ _ hwl)).trans b1)
  have bt : BT w2 w1.heap.size w.heap.size t.kind t.text := ⟨p0, p1, q0, q1, r0, r1, s0, s1⟩
  have hgw := grown_grown hgg (grown_grown (World.grownBy_alloc w1 _ (some g)) hg2)
  have hne : ¬ w.heap.size = w1.heap.size := by omega
  have hne' : ¬ w1.heap.size = w.heap.size := by omega
  have hgb : ¬ w1.heap.size = g := by omega
  have hgr : ¬ w.heap.size = g := by omega
  have hle1 : w.heap.size ≤ w1.heap.size := by omega
  generalize w1.heap.size = B at *
  clear hc hf hc' hf' hgg hg2 hc1 a0 a1 b0 b1 hwl p0 p1 q0 q1 r0 r1 s0 s1
  by_cases h0 : x = 0
  · subst h0
    go_wp2_with fail
    refine (l1Below_any g code _ 7 (by omega) _ hc2 (by omega) (by omega)).mono ?_
    rintro e w3 ⟨y, rfl, hy, hc3, hg3⟩
    replace bt := bt.grown hg3 hgb hgr
    have hgf := grown_grown hgw hg3
    obtain ⟨z0, z1, z2, z3, z4, z5⟩ := bt.sets hne
    obtain ⟨p0, p1, q0, q1, r0, r1, s0, s1⟩ := bt
    clear hgw hg3 hc2
    go_wp2
    exact bodyPost_ret (v := tokv ⟨(y : Int) - 1, t.text⟩) (by simp [results, Tryd.results25, go_sem, z4, z5]) rfl ⟨⟨(y : Int) - 1, t.text⟩, rfl, htl, ((hc3.set hlt1 0 _).set hlt 0 _).set hlt 1 _, grown_set (grown_set (grown_set hgf hle1 0 _) (Nat.le_refl _) 0 _) (Nat.le_refl _) 1 _⟩
  have b0 : ((x : Int) == 0) = false := by simp; omega
  by_cases h1 : x = 1
  · subst h1
    go_wp2_with fail
    refine (l2Any_any g code _ hc2).mono ?_
    rintro e w3 ⟨u, rfl, hul, hc3, hg3⟩
    replace bt := bt.grown hg3 hgb hgr
    have hgf := grown_grown hgw hg3
    obtain ⟨z0, z1, z2, z3, z4, z5⟩ := bt.sets hne
    obtain ⟨p0, p1, q0, q1, r0, r1, s0, s1⟩ := bt
    clear hgw hg3 hc2
    go_wp2
    exact bodyPost_ret (v := tokv ⟨t.kind, u⟩) (by simp [results, Tryd.results25, go_sem, z4, z5]) rfl ⟨⟨t.kind, u⟩, rfl, (by show u.length ≤ 50; omega), ((hc3.set hlt1 1 _).set hlt 0 _).set hlt 1 _, grown_set (grown_set (grown_set hgf hle1 1 _) (Nat.le_refl _) 0 _) (Nat.le_refl _) 1 _⟩
  have b1 : ((x : Int) == 1) = false := by simp; omega
  by_cases h2 : x = 2
  · subst h2
    have hdw : w.grownBy w2.drew (some g) := grown_drew hgw
    have hdc : Cur w2.drew g code := hc2.drew
    have hdb : BT w2.drew B w.heap.size t.kind t.text := bt.below (Below.refl _ _).drew
    clear hgw hc2 bt
    go_wp2
    refine ordT_start (OTree.flo 0 (.flo 4 (.fork 1 (.flo 2 (.flo 3 (.ev 5 (.ev 6 (.flo 7 (.flo 8 (.ev 9 .nil))))))) 5 (.ev 1 (.flo 2 (.flo 3 (.ev 6 (.flo 7 (.flo 8 (.ev 9 .nil)))))))))) (fun _ => True) (by kernel_rfl) (by kernel_rfl) rfl (by kernel_rfl) ?_
    intro ops' hops
    generalize w2.drew = w3 at *
    have g0 := get_of hops 0
    have g1 := get_of hops 1
    have g2 := get_of hops 2
    have g3 := get_of hops 3
    have g4 := get_of hops 4
    have g5 := get_of hops 5
    have g6 := get_of hops 6
    have g7 := get_of hops 7
    have g8 := get_of hops 8
    have g9 := get_of hops 9
    simp only [List.getElem?_toArray, List.getElem?_cons_zero, List.getElem?_cons_succ] at g0 g1 g2 g3 g4 g5 g6 g7 g8 g9
    clear hops
    refine ordT_flo _ g0 ?_ (fun _ _ _ h => h) rfl ?_ trivial ?_; rotate_left; focus (intro _ _; go_simp; rfl)
    refine ordT_flo _ g4 ?_ (fun _ _ _ h => h) rfl ?_ trivial ?_; rotate_left; focus (intro _ _; go_simp; rfl)
    refine ordT_fork _ _ g1 g5 rfl rfl ?_ ?_
    · go_simp
      refine (l1Below_any g code _ 2 (by omega) _ hdc (by omega) (by omega)).mono ?_
      rintro e w4 ⟨y, rfl, hy, hc4, hg4⟩
      replace hdb := hdb.grown hg4 hgb hgr
      have hgf := grown_grown hdw hg4
      clear hdw hdc hg4
      have hwr : IntKind.i64.wrap (40 + (y : Int)) = 40 + (y : Int) := IntWalk.i64_in _ (by omega)
      refine ordT_flo _ g2 ?_ (fun _ _ _ h => h) rfl ?_ trivial ?_; rotate_left; focus (intro _ _; go_simp; rfl)
      obtain ⟨Z, hZ, hZs⟩ : ∃ Z : ByteArray, (⟨#[49, 50, 51, 52, 53, 54, 55, 56, 57, 48, 49, 50, 51, 52, 53, 54, 55, 56, 57, 48, 49, 50, 51, 52, 53, 54, 55, 56, 57, 48, 49, 50, 51, 52, 53, 54, 55, 56, 57, 48, 49]⟩ : ByteArray).extract 0 (40 + y) = Z ∧ Z.size ≤ 41 := ⟨_, rfl, by rw [ByteArray.size_extract]; have : (⟨#[49, 50, 51, 52, 53, 54, 55, 56, 57, 48, 49, 50, 51, 52, 53, 54, 55, 56, 57, 48, 49, 50, 51, 52, 53, 54, 55, 56, 57, 48, 49, 50, 51, 52, 53, 54, 55, 56, 57, 48, 49]⟩ : ByteArray).size = 41 := rfl; omega⟩
      refine ordT_flo _ g3 (.string Z) (fun _ _ _ h => h) rfl ?_ trivial ?_
      · intro _ _
        go_simp
        rw [if_pos (by omega), show (40 + (y : Int)).toNat = 40 + y by omega]
        exact congrArg (fun q => Result.ok (Next.value (Value.string q)) _) hZ
      clear hwr hZ
      refine ordT_ev _ g5 rfl ?_
      go_simp
      refine ordT_ev _ g6 rfl ?_
      have hlt4 := hc4.lt
      go_simp
      refine (l1Pick_any g code _ [[], [10]] _ (hc4.below ((Below.refl _ _).alloc (Nat.le_refl _) _)) (Rd1_lit (b := w4.heap.size) _ (heap_alloc_new w4 _) rfl rfl) (Apart_new hlt4) (by simp) (by simp)).mono ?_
      rintro e w5 ⟨u, rfl, hu, hc5, hg5⟩
      have hul : u.length ≤ 1 := by simp at hu; rcases hu with rfl | rfl <;> simp
      have huz : (ByteArray.mk u.toArray).size = u.length := by show u.toArray.size = _; simp
      replace hdb := (hdb.below ((Below.refl _ _).alloc (Nat.le_refl _) _)).grown hg5 hgb hgr
      replace hgf := grown_grown hgf (grown_grown (World.grownBy_alloc w4 _ (some g)) hg5)
      have hcf := hc5
      clear hu hc5 hg5 hc4
      refine ordT_flo _ g7 (.string (Z ++ ⟨u.toArray⟩)) (fun _ _ _ h => h) rfl ?_ trivial ?_
      · intro _ _
        go_simp
        omega
      refine ordT_flo _ g8 ?_ (fun _ _ _ h => h) rfl ?_ trivial ?_; rotate_left; focus (intro _ _; go_simp; rfl)
      obtain ⟨z0, z1, z2, z3, z4, z5⟩ := hdb.sets hne
      have hcell := hdb.p1
      have hq1 := hdb.q1
      refine ordT_ev _ g9 rfl ?_
      go_simp
      refine ordT_done ?_
      obtain ⟨p0, p1, q0, q1, r0, r1, s0, s1⟩ := hdb
      clear hcell hq1 g0 g1 g2 g3 g4 g5 g6 g7 g8 g9
      go_wp2
      exact bodyPost_ret (v := .agg #[.int .i64 t.kind, .string (Z ++ ⟨u.toArray⟩)]) (by simp [results, Tryd.results25, go_sem, z4, z5]) rfl ⟨⟨t.kind, (Z ++ ⟨u.toArray⟩).data.toList⟩, by show _ = Ending.returned (.agg #[.int .i64 t.kind, sv _]); rw [sv_data], by show (Z ++ (⟨u.toArray⟩ : ByteArray)).data.toList.length ≤ 50; rw [str_len]; simp; omega, ((hcf.set hlt1 1 _).set hlt 0 _).set hlt 1 _, grown_set (grown_set (grown_set hgf hle1 1 _) (Nat.le_refl _) 0 _) (Nat.le_refl _) 1 _⟩
    · go_simp
      refine ordT_ev _ g1 rfl ?_
      go_simp
      have hlt3 := hdc.lt
      refine (l1Below_any g code _ 2 (by omega) _ (hdc.below ((Below.refl _ _).alloc (Nat.le_refl _) _)) (by omega) (by omega)).mono ?_
      rintro e w4 ⟨y, rfl, hy, hc4, hg4⟩
      replace hdb := (hdb.below ((Below.refl _ _).alloc (Nat.le_refl _) _)).grown hg4 hgb hgr
      have hgf := grown_grown hdw (grown_grown (World.grownBy_alloc w3 _ (some g)) hg4)
      have hblk : w4.heap[w3.heap.size]? = _ := (hg4.block w3.heap.size (by simp) (by intro e; injection e with e; omega)).trans (heap_alloc_new w3 _)
      clear hdw hdc hg4
      have hwr : IntKind.i64.wrap (40 + (y : Int)) = 40 + (y : Int) := IntWalk.i64_in _ (by omega)
      refine ordT_flo _ g2 ?_ (fun _ _ _ h => h) rfl ?_ trivial ?_; rotate_left; focus (intro _ _; go_simp; rfl)
      obtain ⟨Z, hZ, hZs⟩ : ∃ Z : ByteArray, (⟨#[49, 50, 51, 52, 53, 54, 55, 56, 57, 48, 49, 50, 51, 52, 53, 54, 55, 56, 57, 48, 49, 50, 51, 52, 53, 54, 55, 56, 57, 48, 49, 50, 51, 52, 53, 54, 55, 56, 57, 48, 49]⟩ : ByteArray).extract 0 (40 + y) = Z ∧ Z.size ≤ 41 := ⟨_, rfl, by rw [ByteArray.size_extract]; have : (⟨#[49, 50, 51, 52, 53, 54, 55, 56, 57, 48, 49, 50, 51, 52, 53, 54, 55, 56, 57, 48, 49, 50, 51, 52, 53, 54, 55, 56, 57, 48, 49, 50, 51, 52, 53, 54, 55, 56, 57, 48, 49]⟩ : ByteArray).size = 41 := rfl; omega⟩
      refine ordT_flo _ g3 (.string Z) (fun _ _ _ h => h) rfl ?_ trivial ?_
      · intro _ _
        go_simp
        rw [if_pos (by omega), show (40 + (y : Int)).toNat = 40 + y by omega]
        exact congrArg (fun q => Result.ok (Next.value (Value.string q)) _) hZ
      clear hwr hZ
      refine ordT_ev _ g6 rfl ?_
      have hlt4 := hc4.lt
      go_simp
      refine (l1Pick_any g code _ [[], [10]] _ hc4 (Rd1_lit (b := w3.heap.size) _ hblk rfl rfl) (Apart_new hlt3) (by simp) (by simp)).mono ?_
      rintro e w5 ⟨u, rfl, hu, hc5, hg5⟩
      have hul : u.length ≤ 1 := by simp at hu; rcases hu with rfl | rfl <;> simp
      have huz : (ByteArray.mk u.toArray).size = u.length := by show u.toArray.size = _; simp
      replace hdb := hdb.grown hg5 hgb hgr
      replace hgf := grown_grown hgf hg5
      have hcf := hc5
      clear hu hc5 hg5 hc4 hblk
      refine ordT_flo _ g7 (.string (Z ++ ⟨u.toArray⟩)) (fun _ _ _ h => h) rfl ?_ trivial ?_
      · intro _ _
        go_simp
        omega
      refine ordT_flo _ g8 ?_ (fun _ _ _ h => h) rfl ?_ trivial ?_; rotate_left; focus (intro _ _; go_simp; rfl)
      obtain ⟨z0, z1, z2, z3, z4, z5⟩ := hdb.sets hne
      have hcell := hdb.p1
      have hq1 := hdb.q1
      refine ordT_ev _ g9 rfl ?_
      go_simp
      refine ordT_done ?_
      obtain ⟨p0, p1, q0, q1, r0, r1, s0, s1⟩ := hdb
      clear hcell hq1 g0 g1 g2 g3 g4 g5 g6 g7 g8 g9
      go_wp2
      exact bodyPost_ret (v := .agg #[.int .i64 t.kind, .string (Z ++ ⟨u.toArray⟩)]) (by simp [results, Tryd.results25, go_sem, z4, z5]) rfl ⟨⟨t.kind, (Z ++ ⟨u.toArray⟩).data.toList⟩, by show _ = Ending.returned (.agg #[.int .i64 t.kind, sv _]); rw [sv_data], by show (Z ++ (⟨u.toArray⟩ : ByteArray)).data.toList.length ≤ 50; rw [str_len]; simp; omega, ((hcf.set hlt1 1 _).set hlt 0 _).set hlt 1 _, grown_set (grown_set (grown_set hgf hle1 1 _) (Nat.le_refl _) 0 _) (Nat.le_refl _) 1 _⟩
  have b2 : ((x : Int) == 2) = false := by simp; omega
  obtain ⟨z0, z1, z2, z3, z4, z5⟩ := bt.sets hne
  obtain ⟨p0, p1, q0, q1, r0, r1, s0, s1⟩ := bt
  go_wp2
  exact bodyPost_ret (v := tokv t) (by simp [results, Tryd.results25, go_sem, z2, z3]) rfl ⟨t, rfl, htl, (hc2.set hlt 0 _).set hlt 1 _, grown_set (grown_set hgw (Nat.le_refl _) 0 _) (Nat.le_refl _) 1 _⟩

end Go.Proofs.YtldfakcjimaaaaaDoor
