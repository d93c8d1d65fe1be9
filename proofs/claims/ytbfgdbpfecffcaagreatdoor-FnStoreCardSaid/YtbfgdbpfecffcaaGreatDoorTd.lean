/-
  Td: StoB StoE (what the claim needs of them).
-/
import Derived.Deep.DeepCutAuto
import Derived.Handy
import Derived.Test.YtbfgdbpfecffcaaGreatDoorRows
import Derived.WalkKit
import Derived.WalkSpells
import Derived.WalkLawsBesides
import Derived.Laws.IdiomStrings
import Derived.Lib.Hide
import Derived.Deep.AppendLies
import Derived.OrdersHeld
import Derived.Lib.ItoaNum
import Derived.Lib.ItoaMem
import Derived.Lib.AppendStr
import Derived.Lib.ItoaLen
import Derived.Lib.Strings
import Derived.Lib.Bytealg
import Derived.Lib.OthersKept
import Derived.Laws.RangeAny
import Derived.Laws.BitsAllLaws
import Derived.Laws.BitsLemmas
import Derived.IntWalk
import Derived.Lib.Join
import Derived.Deep.Strs
import Derived.Test.YtbfgdbpfecffcaaGreatDoorProg
import Derived.Laws.Tables
import Derived.Test.YtbfgdbpfecffcaaGreatDoorSb
import Derived.Test.YtbfgdbpfecffcaaGreatDoorSc
import Derived.Test.YtbfgdbpfecffcaaGreatDoorSd
import Derived.Test.YtbfgdbpfecffcaaGreatDoorSe
import Derived.Test.YtbfgdbpfecffcaaGreatDoorSf
import Derived.Test.YtbfgdbpfecffcaaGreatDoorSm
import Derived.Test.YtbfgdbpfecffcaaGreatDoorSo
import Derived.Test.YtbfgdbpfecffcaaGreatDoorSp
import Derived.Test.YtbfgdbpfecffcaaGreatDoorSr
import Derived.Test.YtbfgdbpfecffcaaGreatDoorTa
import Derived.Test.YtbfgdbpfecffcaaGreatDoorTb
import Derived.Test.YtbfgdbpfecffcaaGreatDoorTc

namespace Go.Proofs.YtbfgdbpfecffcaaGreatDoor
open Go.RowKit

def StoOwn (lo : Nat) (W : World) (x : StoD) (z0 z1 : Value) : Prop := ∃ f0 f1, LfIn W (boxsLf x.boxes) z0 f0 ∧ LfIn W (commitsLf x.log) z1 f1 ∧ (f0 ++ f1).Nodup ∧ ∀ q ∈ f0 ++ f1, lo ≤ q
section
variable {lo lo' : Nat} {W W' : World} {x : StoD} {z0 z1 : Value}
theorem StoOwn.below (h : StoOwn lo W x z0 z1) (hb : Below W.heap.size W W') : StoOwn lo W' x z0 z1 := by
  obtain ⟨f0, f1, h0, h1, hn, hl⟩ := h
  exact ⟨f0, f1, h0.below hb, h1.below hb, hn, hl⟩
theorem StoOwn.set (h : StoOwn lo W x z0 z1) {b i : Nat} {u : Value} (hb : b < lo) : StoOwn lo (W.setCell ⟨b, i, none⟩ u) x z0 z1 := by
  obtain ⟨f0, f1, h0, h1, hn, hl⟩ := h
  exact ⟨f0, f1, LfIn.set h0 (fun hm => by have := hl b (List.mem_append_left _ hm); omega), LfIn.set h1 (fun hm => by have := hl b (List.mem_append_right _ hm); omega), hn, hl⟩
theorem StoOwn.lower (h : StoOwn lo W x z0 z1) (hb : lo' ≤ lo) : StoOwn lo' W x z0 z1 := by
  obtain ⟨f0, f1, h0, h1, hn, hl⟩ := h
  exact ⟨f0, f1, h0, h1, hn, fun q hq => Nat.le_trans hb (hl q hq)⟩
theorem StoOwn.slices (h : StoOwn lo W x z0 z1) : ∃ p0 c0 p1 c1, z0 = .slice p0 x.boxes.length c0 ∧ z1 = .slice p1 x.log.length c1 := by
  obtain ⟨f0, f1, h0, h1, _⟩ := h
  obtain ⟨p0, c0, rfl⟩ := LfIn.slice h0
  obtain ⟨p1, c1, rfl⟩ := LfIn.slice h1
  exact ⟨_, _, _, _, rfl, rfl⟩
theorem StoOwn.log (h : StoOwn lo W x z0 z1) : W.ownsRow lo 26 6 z1 x.log.length (x.log.flatMap comc) := by
  obtain ⟨f0, f1, h0, h1, hn, hl⟩ := h
  obtain ⟨ho, rfl⟩ := coms_in.1 h1
  exact own_rebase ho (fun q hq => hl q (List.mem_append_right _ (by rw [hq]; simp)))
/-- Boxes in a tree and a log in a row apart from it. -/
theorem StoOwn.mk' {f0 : List Nat} (h0 : Tree W lo (boxsLf x.boxes) z0 f0) (h1 : W.ownsRow lo 26 6 z1 x.log.length (x.log.flatMap comc)) : StoOwn lo W x z0 z1 := by
  have hd := sto_apart h0.is h1
  refine ⟨f0, z1.ownBlock.toList, h0.is, coms_in.2 ⟨own_base h1, rfl⟩, List.nodup_append.2 ⟨h0.nodup, by cases z1.ownBlock <;> simp, fun a ha b hb e => hd a ha (by subst e; simpa using hb)⟩, fun q hq => ?_⟩
  rcases List.mem_append.1 hq with hq | hq
  · exact h0.low q hq
  · exact (h1.lt q (by simpa using hq)).1
end
theorem blk_3c {w : World} {b : Nat} {x0 x1 x2 : Value} {e : TypeId} (h : w.heap[b]? = some (.cells #[x0, x1, x2] e (0, 0))) :
    (w.cell? ⟨b, 0, none⟩ = some x0 ∧ w.cell? ⟨b, 1, none⟩ = some x1 ∧ w.cell? ⟨b, 2, none⟩ = some x2) ∧ (w.frozen? ⟨b, 0, none⟩ = false ∧ w.frozen? ⟨b, 1, none⟩ = false ∧ w.frozen? ⟨b, 2, none⟩ = false) ∧
    (∀ v, (w.setCell ⟨b, 0, none⟩ v).cell? ⟨b, 0, none⟩ = some v) ∧ (∀ v v', ((w.setCell ⟨b, 0, none⟩ v).setCell ⟨b, 1, none⟩ v').cell? ⟨b, 1, none⟩ = some v') ∧ (∀ v v' v'', (((w.setCell ⟨b, 0, none⟩ v).setCell ⟨b, 1, none⟩ v').setCell ⟨b, 2, none⟩ v'').cell? ⟨b, 2, none⟩ = some v'') := by
  refine ⟨⟨(Lib.cell_of_heap h 0).trans rfl, (Lib.cell_of_heap h 1).trans rfl, (Lib.cell_of_heap h 2).trans rfl⟩, ⟨Lib.frozen_of_heap h 0, Lib.frozen_of_heap h 1, Lib.frozen_of_heap h 2⟩, fun v => ?_, fun v v' => ?_, fun v v' v'' => ?_⟩
  · exact (Lib.cell_of_heap (set_heap h) 0).trans rfl
  · exact (Lib.cell_of_heap (set_heap (set_heap h)) 1).trans rfl
  · exact (Lib.cell_of_heap (set_heap (set_heap (set_heap h))) 2).trans rfl
/-- The boxes and the log of a store are small where the store is. -/
theorem sto_small {x : StoD} (hs : szLs x.lf ≤ 1048576) (hbd : LsBnd x.lf) : (szLf (boxsLf x.boxes) ≤ 1048576 ∧ LfBnd (boxsLf x.boxes)) ∧ (szLf (commitsLf x.log) ≤ 1048576 ∧ LfBnd (commitsLf x.log)) ∧ in64 x.given := by
  rw [StoD.sz] at hs
  exact ⟨⟨by omega, hbd.1⟩, ⟨by omega, hbd.2.1⟩, hbd.2.2.1⟩

def CopyS (x : StoD) (w : World) (e : Ending) (w' : World) : Prop := ∃ z0 z1, e = .returned (.agg #[z0, z1, .int .i64 x.given]) ∧ StoOwn w.heap.size w' x z0 z1 ∧ Below w.heap.size w w'
set_option maxRecDepth 20000 in
set_option maxHeartbeats 6400000 in
theorem l11Copy_any (x : StoD) (r0 r1 : Value) (w : World) (hr0 : LfRd w (boxsLf x.boxes) r0) (hr1 : LfRd w (commitsLf x.log) r1) (hl : x.boxes.length ≤ 1048576) (hm : ∀ b ∈ x.boxes, b.msgs.length ≤ 1048576) (hg : x.log.length ≤ 1048576) :
    Calls Tryz.prog 94 #[.agg #[r0, r1, .int .i64 x.given]] w fun e w' => CopyS x w e w' := by
  obtain ⟨p0, c0, rfl⟩ := LfRd.slice hr0
  obtain ⟨p1, c1, rfl⟩ := LfRd.slice hr1
  have b1 : Below w.heap.size w (w.alloc (.cells #[.slice p0 x.boxes.length c0, .slice p1 x.log.length c1, .int .i64 x.given] 46)) := (Below.refl _ _).alloc (Nat.le_refl _) _
  have b2 : Below w.heap.size w ((w.alloc (.cells #[.slice p0 x.boxes.length c0, .slice p1 x.log.length c1, .int .i64 x.given] 46)).alloc (.cells #[.slice none 0 0, .slice none 0 0, .int .i64 0] 46)) := b1.alloc b1.size _
  have n1 := heap_alloc_new w (.cells #[.slice p0 x.boxes.length c0, .slice p1 x.log.length c1, .int .i64 x.given] 46)
  have n2 := heap_alloc_new (w.alloc (.cells #[.slice p0 x.boxes.length c0, .slice p1 x.log.length c1, .int .i64 x.given] 46)) (.cells #[.slice none 0 0, .slice none 0 0, .int .i64 0] 46)
  have n1' := (Below.heap_alloc _ (.cells #[.slice none 0 0, .slice none 0 0, .int .i64 0] 46) w.heap.size (by simp)).trans n1
  rw [World.size_alloc] at n2
  have hz2 : ((w.alloc (.cells #[.slice p0 x.boxes.length c0, .slice p1 x.log.length c1, .int .i64 x.given] 46)).alloc (.cells #[.slice none 0 0, .slice none 0 0, .int .i64 0] 46)).heap.size = w.heap.size + 2 := by simp
  go_enter Tryz.func94, Tryz.ntmps94
  go_wp2
  refine wp_named1 ?_
  intro X hX
  rw [← hX] at b2 n1' n2 hz2
  have HX := Lib.hid (And.intro b2 (And.intro n1' (And.intro n2 hz2)))
  have CC := Lib.hid (fun W (g : Below w.heap.size w W) => l9Copies_any x.boxes (.slice p0 x.boxes.length c0) W (LfRd.below g _ _ hr0) hl hm)
  have HR1 := Lib.hid hr1
  have HG := Lib.hid hg
  clear hX b1 b2 n1 n2 n1' hz2 hr0 hr1 hl hm hg
  have HS := Lib.hid (show ∀ W, Below X.drew.heap.size X.drew W → (W.cell? ⟨w.heap.size, 0, none⟩ = some (.slice p0 x.boxes.length c0) ∧ W.cell? ⟨w.heap.size, 1, none⟩ = some (.slice p1 x.log.length c1) ∧ W.cell? ⟨w.heap.size, 2, none⟩ = some (.int .i64 x.given)) from fun W g => (blk_3c ((g.block w.heap.size (by show w.heap.size < X.heap.size; have := HX.out.2.2.2; omega)).trans HX.out.2.1)).1)
  have HZ := Lib.hid (show ∀ W, Below X.drew.heap.size X.drew W → W.heap[w.heap.size + 1]? = some (.cells #[.slice none 0 0, .slice none 0 0, .int .i64 0] 46 (0, 0)) from fun W g => (g.block (w.heap.size + 1) (by show w.heap.size + 1 < X.heap.size; have := HX.out.2.2.2; omega)).trans HX.out.2.2.1)
  have HB := Lib.hid (show ∀ W, Below X.drew.heap.size X.drew W → Below w.heap.size w W from fun W g => HX.out.1.trans ((((Below.refl X.heap.size X).drew).trans g).mono HX.out.1.size))
  have hxz : X.drew.heap.size = w.heap.size + 2 := HX.out.2.2.2
  have HXZ := Lib.hid hxz
  clear HX hxz
  refine ordT_start (OTree.flo 0 (.flo 1 (.flo 4 (.flo 5 (.flo 7 (.flo 8 (.fork 2 (.ev 3 (.ev 6 (.flo 9 (.ev 10 .nil)))) 3 (.ev 2 (.ev 6 (.flo 9 (.ev 10 .nil))))))))))) (fun W => W.cell? ⟨w.heap.size, 0, none⟩ = some (.slice p0 x.boxes.length c0) ∧ W.cell? ⟨w.heap.size, 1, none⟩ = some (.slice p1 x.log.length c1) ∧ W.cell? ⟨w.heap.size, 2, none⟩ = some (.int .i64 x.given)) (by kernel_rfl) (by kernel_rfl) rfl (by kernel_rfl) ?_
  intro ops1 hops1
  generalize X.drew = X0 at *
  have g0 := get_of hops1 0
  have g1 := get_of hops1 1
  have g2 := get_of hops1 2
  have g3 := get_of hops1 3
  have g4 := get_of hops1 4
  have g5 := get_of hops1 5
  have g6 := get_of hops1 6
  have g7 := get_of hops1 7
  have g8 := get_of hops1 8
  have g9 := get_of hops1 9
  have g10 := get_of hops1 10
  simp only [List.getElem?_toArray, List.getElem?_cons_zero, List.getElem?_cons_succ] at g0 g1 g2 g3 g4 g5 g6 g7 g8 g9 g10
  clear hops1
  have HN := Lib.hid (HS.out _ (Below.refl _ _))
  refine ordT_flo _ g0 ?_ (fun _ _ _ h => h) rfl ?_ HN.out ?_; rotate_left; focus (intro W hS; go_simp; rfl)
  refine ordT_flo _ g1 ?_ (fun _ _ _ h => h) rfl ?_ HN.out ?_; rotate_left; focus (intro W hS; obtain ⟨s0, s1, s2⟩ := hS; go_simp; rfl)
  refine ordT_flo _ g4 ?_ (fun _ _ _ h => h) rfl ?_ HN.out ?_; rotate_left; focus (intro W hS; go_simp; rfl)
  refine ordT_flo _ g5 ?_ (fun _ _ _ h => h) rfl ?_ HN.out ?_; rotate_left; focus (intro W hS; obtain ⟨s0, s1, s2⟩ := hS; go_simp; rfl)
  refine ordT_flo _ g7 ?_ (fun _ _ _ h => h) rfl ?_ HN.out ?_; rotate_left; focus (intro W hS; go_simp; rfl)
  refine ordT_flo _ g8 ?_ (fun _ _ _ h => h) rfl ?_ HN.out ?_; rotate_left; focus (intro W hS; obtain ⟨s0, s1, s2⟩ := hS; go_simp; rfl)
  refine ordT_fork _ _ g2 g3 rfl rfl ?_ ?_
  · go_simp
    refine (CC.out _ (HB.out _ (Below.refl _ _))).mono ?_
    rintro e w1 ⟨z0, f0, rfl, ht, hb1⟩
    refine ⟨HS.out _ hb1, ?_⟩
    refine ordT_ev _ g3 rfl ?_
    go_simp
    have hb2 := hb1.alloc hb1.size (.cells #[] 26)
    have ho2 : (w1.alloc (.cells #[] 26)).ownsRow w1.heap.size 26 6 (.slice (some ⟨w1.heap.size, 0, none⟩) 0 0) 0 [] := World.ownsRow_made w1 #[] 0 (Nat.le_refl _) (by unfold maxLen; omega) (by simp)
    refine ⟨HS.out _ hb2, ?_⟩
    refine ordT_ev _ g6 rfl ?_
    have hz1 := hb1.size
    refine wp_appR Tryz.el_commit comc_len comc_one (.tmp 6) (.tmp 8) rfl w1 (.slice (some ⟨w1.heap.size, 0, none⟩) 0 0) 0 [] rfl ho2 ((Below.refl _ _).alloc (Nat.le_refl _) _) (by simp) _ x.log rfl ((comc_rd (LfRd.below (HB.out _ hb2) _ _ HR1.out))) (by have := HG.out; omega) (by have := HG.out; omega) ?_
    intro z1 w3 ho3 hb3 hg3
    have hb3' := hb1.trans (hb3.mono hz1)
    refine ⟨HS.out _ hb3', ?_⟩
    have ht3 := ht.below hb3
    have ho3' : w3.ownsRow X0.heap.size 26 6 z1 x.log.length (x.log.flatMap comc) := by
      have := own9_lower ho3 hz1
      simpa using this
    have ht3' := ht3
    clear ho2 hb2 hg3 ht CC hz1
    obtain ⟨p3, c3, rfl⟩ := LfIn.slice ht3.is
    obtain ⟨p4, c4, rfl, -⟩ := own9_form ho3
    refine ordT_flo _ g9 ?_ (fun _ _ _ h => h) rfl ?_ (HS.out _ hb3') ?_; rotate_left; focus (intro W hS; go_simp; rfl)
    obtain ⟨⟨q0, q1, q2⟩, ⟨y0, y1, y2⟩, t0, t1, t2⟩ := blk_3c (HZ.out _ hb3')
    have hsa := HS.out _ hb3'
    have HF := Lib.hid (show ∀ a b c : Value, StoOwn w.heap.size (((w3.setCell ⟨w.heap.size + 1, 0, none⟩ a).setCell ⟨w.heap.size + 1, 1, none⟩ b).setCell ⟨w.heap.size + 1, 2, none⟩ c) x (.slice p3 x.boxes.length c3) (.slice p4 (0 + x.log.length) c4) ∧ Below w.heap.size w (((w3.setCell ⟨w.heap.size + 1, 0, none⟩ a).setCell ⟨w.heap.size + 1, 1, none⟩ b).setCell ⟨w.heap.size + 1, 2, none⟩ c) from fun a b c =>
      ⟨((((StoOwn.mk' (lo := X0.heap.size) ht3' ho3').set (by rw [HXZ.out]; omega)).set (by rw [HXZ.out]; omega)).set (by rw [HXZ.out]; omega)).lower (by rw [HXZ.out]; omega), (((HB.out _ hb3').setCell (by simp) _).setCell (by simp) _).setCell (by simp) _⟩)
    clear ho3' ht3' ht3 ho3 hb3 HR1 HG
    refine ordT_ev _ g10 rfl ?_
    go_simp
    refine ordT_done ?_
    clear g0 g1 g2 g3 g4 g5 g6 g7 g8 g9 g10 hsa q0 q1 q2 y0 y1 y2
    go_wp2_with fail
    exact bodyPost_ret (v := .agg #[.slice p3 x.boxes.length c3, .slice p4 (0 + x.log.length) c4, .int .i64 x.given]) (by simp [results, Tryz.results94, go_sem, t0, t1, t2]) rfl ⟨_, _, rfl, (HF.out _ _ _).1, (HF.out _ _ _).2⟩
  · go_simp
    have hb0 := (Below.refl X0.heap.size X0).alloc (Nat.le_refl _) (.cells #[] 26)
    have ho0 : (X0.alloc (.cells #[] 26)).ownsRow X0.heap.size 26 6 (.slice (some ⟨X0.heap.size, 0, none⟩) 0 0) 0 [] := World.ownsRow_made X0 #[] 0 (Nat.le_refl _) (by unfold maxLen; omega) (by simp)
    have hz0 : (X0.alloc (.cells #[] 26)).heap.size = X0.heap.size + 1 := by simp
    refine ⟨HS.out _ hb0, ?_⟩
    refine ordT_ev _ g2 rfl ?_
    go_simp
    refine (CC.out _ (HB.out _ hb0)).mono ?_
    rintro e w1 ⟨z0, f0, rfl, ht, hb1⟩
    have hb1' := hb0.trans (hb1.mono hb0.size)
    refine ⟨HS.out _ hb1', ?_⟩
    have ho1 := ownsRow_below ho0 hb1
    refine ordT_ev _ g6 rfl ?_
    refine wp_appR Tryz.el_commit comc_len comc_one (.tmp 6) (.tmp 8) rfl w1 (.slice (some ⟨X0.heap.size, 0, none⟩) 0 0) 0 [] rfl ho1 (Below.refl _ _) hb1'.size _ x.log rfl ((comc_rd (LfRd.below (HB.out _ hb1') _ _ HR1.out))) (by have := HG.out; omega) (by have := HG.out; omega) ?_
    intro z1 w3 ho3 hb3 hg3
    have hb3' := hb1'.trans hb3
    refine ⟨HS.out _ hb3', ?_⟩
    have ht3 := ht.apart (GrownIn.of_row hg3) (fun k hk hm => by
      have h1 := ht.low k hk
      have h2 : k = X0.heap.size := by simpa [Value.ownBlock] using hm
      omega)
    have ht3' : Tree w3 X0.heap.size (boxsLf x.boxes) z0 f0 := ⟨ht3.is, ht3.nodup, fun q hq => by have := ht3.low q hq; omega⟩
    have ho3' : w3.ownsRow X0.heap.size 26 6 z1 x.log.length (x.log.flatMap comc) := by simpa using ho3
    clear ho0 ho1 hg3 ht CC hz0 hb0 hb1'
    obtain ⟨p3, c3, rfl⟩ := LfIn.slice ht3.is
    obtain ⟨p4, c4, rfl, -⟩ := own9_form ho3
    refine ordT_flo _ g9 ?_ (fun _ _ _ h => h) rfl ?_ (HS.out _ hb3') ?_; rotate_left; focus (intro W hS; go_simp; rfl)
    obtain ⟨⟨q0, q1, q2⟩, ⟨y0, y1, y2⟩, t0, t1, t2⟩ := blk_3c (HZ.out _ hb3')
    have hsa := HS.out _ hb3'
    have HF := Lib.hid (show ∀ a b c : Value, StoOwn w.heap.size (((w3.setCell ⟨w.heap.size + 1, 0, none⟩ a).setCell ⟨w.heap.size + 1, 1, none⟩ b).setCell ⟨w.heap.size + 1, 2, none⟩ c) x (.slice p3 x.boxes.length c3) (.slice p4 (0 + x.log.length) c4) ∧ Below w.heap.size w (((w3.setCell ⟨w.heap.size + 1, 0, none⟩ a).setCell ⟨w.heap.size + 1, 1, none⟩ b).setCell ⟨w.heap.size + 1, 2, none⟩ c) from fun a b c =>
      ⟨((((StoOwn.mk' (lo := X0.heap.size) ht3' ho3').set (by rw [HXZ.out]; omega)).set (by rw [HXZ.out]; omega)).set (by rw [HXZ.out]; omega)).lower (by rw [HXZ.out]; omega), (((HB.out _ hb3').setCell (by simp) _).setCell (by simp) _).setCell (by simp) _⟩)
    clear ho3' ht3' ht3 ho3 hb3 HR1 HG
    refine ordT_ev _ g10 rfl ?_
    go_simp
    refine ordT_done ?_
    clear g0 g1 g2 g3 g4 g5 g6 g7 g8 g9 g10 hsa q0 q1 q2 y0 y1 y2
    go_wp2_with fail
    exact bodyPost_ret (v := .agg #[.slice p3 x.boxes.length c3, .slice p4 (0 + x.log.length) c4, .int .i64 x.given]) (by simp [results, Tryz.results94, go_sem, t0, t1, t2]) rfl ⟨_, _, rfl, (HF.out _ _ _).1, (HF.out _ _ _).2⟩

end Go.Proofs.YtbfgdbpfecffcaaGreatDoor

namespace Go.Proofs.YtbfgdbpfecffcaaGreatDoor
open Go.RowKit

theorem stor_1 {x : StoD} {m : ComD} (h : appB x.boxes m = false) : storB x m = false := by unfold storB; rw [h]; rfl
theorem stor_2 {x : StoD} {m : ComD} (h : ¬ (x.log.length : Int) < 300) : storB x m = false := by unfold storB; rw [decide_eq_false h]; simp
theorem stor_3 {x : StoD} {m : ComD} (h : m.kind = 1) (h2 : m.validity ≤ x.given) : storB x m = false := by unfold storB; rw [decide_eq_true h2, h]; simp
theorem stor_4 {x : StoD} {m : ComD} (h : appB x.boxes m = true) (h2 : (x.log.length : Int) < 300) (h3 : ¬ (m.kind = 1 ∧ m.validity ≤ x.given)) : storB x m = true := by
  unfold storB
  rw [h, decide_eq_true h2]
  simp only [Bool.and_self, Bool.true_and, Bool.not_eq_true', Bool.and_eq_false_iff, beq_eq_false_iff_ne, decide_eq_false_iff_not]
  by_cases e : m.kind = 1
  · exact .inr (fun hc => h3 ⟨e, hc⟩)
  · exact .inl e
theorem stor_x {x : StoD} {m : ComD} (h : storB x m = false) : storD x m = x := by unfold storD; rw [h]; rfl
theorem stor_y {x : StoD} {m : ComD} (h : storB x m = true) : storD x m = ⟨doneL x.boxes m, x.log ++ [m], maxI x.given m.validity⟩ := by
  unfold storD
  rw [if_pos h]
  congr 1
  unfold maxI
  split <;> split <;> omega
def ComPost (x : StoD) (m : ComD) (w : World) (e : Ending) (w' : World) : Prop := ∃ z0 z1, e = .returned (.tuple #[.agg #[z0, z1, .int .i64 (storD x m).given], .bool (storB x m)]) ∧ StoOwn w.heap.size w' (storD x m) z0 z1 ∧ Below w.heap.size w w'
theorem com_no {x : StoD} {m : ComD} {w w' : World} {z0 z1 : Value} (h : storB x m = false) (ho : StoOwn w.heap.size w' x z0 z1) (hb : Below w.heap.size w w') : ComPost x m w (.returned (.tuple #[.agg #[z0, z1, .int .i64 x.given], .bool false])) w' :=
  ⟨z0, z1, by rw [h, stor_x h], by rw [stor_x h]; exact ho, hb⟩
theorem com_yes {x : StoD} {m : ComD} {w w' : World} {z0 z1 : Value} {l : List BoxD} {lg : List ComD} {g : Int} (h : storB x m = true) (hl : l = doneL x.boxes m) (hlg : lg = x.log ++ [m]) (hg : g = maxI x.given m.validity) (ho : StoOwn w.heap.size w' ⟨l, lg, g⟩ z0 z1) (hb : Below w.heap.size w w') : ComPost x m w (.returned (.tuple #[.agg #[z0, z1, .int .i64 g], .bool true])) w' := by
  subst hl hlg hg
  exact ⟨z0, z1, by rw [h, stor_y h], by rw [stor_y h]; exact ho, hb⟩

set_option maxRecDepth 20000 in
set_option maxHeartbeats 6400000 in
theorem specCommitted_any (x : StoD) (r0 r1 : Value) (m : ComD) (w : World) (hr0 : LfRd w (boxsLf x.boxes) r0) (hcap : CapLe r0) (hr1 : LfRd w (commitsLf x.log) r1) (hs : szLs x.lf ≤ 1048576) (hbd : LsBnd x.lf) (hs2 : szLs m.lf ≤ 1048576) (hbd2 : LsBnd m.lf) :
    Calls Tryz.prog 38 #[.agg #[r0, r1, .int .i64 x.given], .agg #[.int .i64 m.kind, .int .i64 m.validity, .int .i64 m.uid, .int .i64 m.flags, sv m.name, sv m.text]] w fun e w' => ComPost x m w e w' := by
  obtain ⟨⟨hs0, hbd0⟩, ⟨hs1, hbd1⟩, _⟩ := sto_small hs hbd
  obtain ⟨hl, _, _, hsl⟩ := boxes_small hs0 hbd0
  obtain ⟨hlg, _⟩ := coms_small hs1 hbd1
  have CC := Lib.hid (fun W (g : Below w.heap.size w W) => l11Copy_any x r0 r1 W (LfRd.below g _ _ hr0) (LfRd.below g _ _ hr1) hl (box_msgs hsl) hlg)
  have CA := Lib.hid (fun W (g : Below w.heap.size w W) => specApplied_c x.boxes r0 m W trivial (LfRd.below g _ _ hr0) hcap hs0 hbd0 hs2 hbd2)
  obtain ⟨p0, c0, rfl⟩ := LfRd.slice hr0
  obtain ⟨p1, c1, rfl⟩ := LfRd.slice hr1
  have b3 : Below w.heap.size w (((w.alloc (.cells #[.slice p0 x.boxes.length c0, .slice p1 x.log.length c1, .int .i64 x.given] 46)).alloc (.cells #[.int .i64 m.kind, .int .i64 m.validity, .int .i64 m.uid, .int .i64 m.flags, sv m.name, sv m.text] 26)).alloc (.cells #[.slice none 0 0, .slice none 0 0, .int .i64 0] 46)) := (((Below.refl _ _).alloc (Nat.le_refl _) _).alloc (by simp) _).alloc (by simp; omega) _
  have n1 : (((w.alloc (.cells #[.slice p0 x.boxes.length c0, .slice p1 x.log.length c1, .int .i64 x.given] 46)).alloc (.cells #[.int .i64 m.kind, .int .i64 m.validity, .int .i64 m.uid, .int .i64 m.flags, sv m.name, sv m.text] 26)).alloc (.cells #[.slice none 0 0, .slice none 0 0, .int .i64 0] 46)).heap[w.heap.size]? = some (.cells #[.slice p0 x.boxes.length c0, .slice p1 x.log.length c1, .int .i64 x.given] 46 (0, 0)) := (Below.heap_alloc _ _ _ (by simp; omega)).trans ((Below.heap_alloc _ _ _ (by simp)).trans (heap_alloc_new w _))
  have n2 : (((w.alloc (.cells #[.slice p0 x.boxes.length c0, .slice p1 x.log.length c1, .int .i64 x.given] 46)).alloc (.cells #[.int .i64 m.kind, .int .i64 m.validity, .int .i64 m.uid, .int .i64 m.flags, sv m.name, sv m.text] 26)).alloc (.cells #[.slice none 0 0, .slice none 0 0, .int .i64 0] 46)).heap[w.heap.size + 1]? = some (.cells #[.int .i64 m.kind, .int .i64 m.validity, .int .i64 m.uid, .int .i64 m.flags, sv m.name, sv m.text] 26 (0, 0)) := by
    refine (Below.heap_alloc _ _ _ (by simp)).trans ?_
    have := heap_alloc_new (w.alloc (.cells #[.slice p0 x.boxes.length c0, .slice p1 x.log.length c1, .int .i64 x.given] 46)) (.cells #[.int .i64 m.kind, .int .i64 m.validity, .int .i64 m.uid, .int .i64 m.flags, sv m.name, sv m.text] 26)
    rwa [World.size_alloc] at this
  have n3 : (((w.alloc (.cells #[.slice p0 x.boxes.length c0, .slice p1 x.log.length c1, .int .i64 x.given] 46)).alloc (.cells #[.int .i64 m.kind, .int .i64 m.validity, .int .i64 m.uid, .int .i64 m.flags, sv m.name, sv m.text] 26)).alloc (.cells #[.slice none 0 0, .slice none 0 0, .int .i64 0] 46)).heap[w.heap.size + 2]? = some (.cells #[.slice none 0 0, .slice none 0 0, .int .i64 0] 46 (0, 0)) := by
    have := heap_alloc_new ((w.alloc (.cells #[.slice p0 x.boxes.length c0, .slice p1 x.log.length c1, .int .i64 x.given] 46)).alloc (.cells #[.int .i64 m.kind, .int .i64 m.validity, .int .i64 m.uid, .int .i64 m.flags, sv m.name, sv m.text] 26)) (.cells #[.slice none 0 0, .slice none 0 0, .int .i64 0] 46)
    simpa using this
  have hz3 : (((w.alloc (.cells #[.slice p0 x.boxes.length c0, .slice p1 x.log.length c1, .int .i64 x.given] 46)).alloc (.cells #[.int .i64 m.kind, .int .i64 m.validity, .int .i64 m.uid, .int .i64 m.flags, sv m.name, sv m.text] 26)).alloc (.cells #[.slice none 0 0, .slice none 0 0, .int .i64 0] 46)).heap.size = w.heap.size + 3 := by simp
  have HX := Lib.hid (And.intro b3 (And.intro n1 (And.intro n2 (And.intro n3 hz3))))
  clear b3 n1 n2 n3 hz3 hr0 hr1 hcap hs hbd hs2 hbd2 hs0 hbd0 hs1 hbd1 hl hsl
  obtain ⟨X, hX⟩ : ∃ X, (((w.alloc (.cells #[.slice p0 x.boxes.length c0, .slice p1 x.log.length c1, .int .i64 x.given] 46)).alloc (.cells #[.int .i64 m.kind, .int .i64 m.validity, .int .i64 m.uid, .int .i64 m.flags, sv m.name, sv m.text] 26)).alloc (.cells #[.slice none 0 0, .slice none 0 0, .int .i64 0] 46)) = X := ⟨_, rfl⟩
  rw [hX] at HX
  obtain ⟨⟨a0, a1, a2⟩, -⟩ := blk_3c HX.out.2.1
  go_enter Tryz.func38, Tryz.ntmps38
  go_wp2_with fail
  refine (CC.out _ HX.out.1).mono ?_
  rintro e w3 ⟨z0, z1, rfl, hO, hb3⟩
  obtain ⟨p3, c3, p4, c4, rfl, rfl⟩ := hO.slices
  have hbO := (Below.refl w3.heap.size w3).alloc (Nat.le_refl _) (.cells #[.slice p3 x.boxes.length c3, .slice p4 x.log.length c4, .int .i64 x.given] 46)
  have nO := heap_alloc_new w3 (.cells #[.slice p3 x.boxes.length c3, .slice p4 x.log.length c4, .int .i64 x.given] 46)
  have hzO : (w3.alloc (.cells #[.slice p3 x.boxes.length c3, .slice p4 x.log.length c4, .int .i64 x.given] 46)).heap.size = w3.heap.size + 1 := by simp
  obtain ⟨w4, hw4⟩ : ∃ w4, w3.alloc (.cells #[.slice p3 x.boxes.length c3, .slice p4 x.log.length c4, .int .i64 x.given] 46) = w4 := ⟨_, rfl⟩
  rw [hw4] at hbO nO hzO
  have hzX := HX.out.2.2.2.2
  have hz3 : w.heap.size + 3 ≤ w3.heap.size := by have := hb3.size; omega
  have hb4 : Below X.heap.size X w4 := hb3.trans (hbO.mono hb3.size)
  have HL := Lib.hid (show ∀ k, (Value.slice p4 x.log.length c4).ownBlock = some k → w.heap.size + 3 ≤ k ∧ k < w3.heap.size from fun k hk => by have := hO.log.lt k hk; omega)
  have H4 := Lib.hid (show StoOwn (w.heap.size + 3) w4 x (.slice p3 x.boxes.length c3) (.slice p4 x.log.length c4) ∧ Below w.heap.size w w4 ∧ w4.heap[w.heap.size]? = some (.cells #[.slice p0 x.boxes.length c0, .slice p1 x.log.length c1, .int .i64 x.given] 46 (0, 0)) ∧ w4.heap[w.heap.size + 1]? = some (.cells #[.int .i64 m.kind, .int .i64 m.validity, .int .i64 m.uid, .int .i64 m.flags, sv m.name, sv m.text] 26 (0, 0)) ∧ w4.heap[w.heap.size + 2]? = some (.cells #[.slice none 0 0, .slice none 0 0, .int .i64 0] 46 (0, 0)) ∧ w4.heap[w3.heap.size]? = some (.cells #[.slice p3 x.boxes.length c3, .slice p4 x.log.length c4, .int .i64 x.given] 46 (0, 0)) from
    ⟨(hO.below hbO).lower (by omega), HX.out.1.trans (hb4.mono HX.out.1.size), (hb4.block _ (by omega)).trans HX.out.2.1, (hb4.block _ (by omega)).trans HX.out.2.2.1, (hb4.block _ (by omega)).trans HX.out.2.2.2.1, nO⟩)
  have HZ := Lib.hid (And.intro hz3 hzO)
  clear hO hb3 hbO nO hzO hzX hz3 hb4 a0 a1 a2 CC
  obtain ⟨⟨a0, a1, a2⟩, -⟩ := blk_3c H4.out.2.2.1
  obtain ⟨⟨m0, m1, m2, m3, m4, m5⟩, -⟩ := com6 H4.out.2.2.2.1
  go_wp2_with fail
  refine (CA.out _ H4.out.2.1).mono ?_
  rintro e w5 ⟨z, f, rfl, hi, hn, hlo, hb5⟩
  obtain ⟨p5, c5, rfl⟩ := LfIn.slice hi
  have hz4 : w3.heap.size + 1 = w4.heap.size := HZ.out.2.symm
  have hz3 := HZ.out.1
  have HT := Lib.hid (show Tree w5 (w3.heap.size + 1) (boxsLf (appliedL x.boxes m)) (.slice p5 (appliedL x.boxes m).length c5) f from ⟨hi, hn, fun q hq => by have := hlo q hq; omega⟩)
  have H5 := Lib.hid (show StoOwn (w.heap.size + 3) w5 x (.slice p3 x.boxes.length c3) (.slice p4 x.log.length c4) ∧ Below w.heap.size w w5 ∧ w5.heap[w.heap.size]? = some (.cells #[.slice p0 x.boxes.length c0, .slice p1 x.log.length c1, .int .i64 x.given] 46 (0, 0)) ∧ w5.heap[w.heap.size + 1]? = some (.cells #[.int .i64 m.kind, .int .i64 m.validity, .int .i64 m.uid, .int .i64 m.flags, sv m.name, sv m.text] 26 (0, 0)) ∧ w5.heap[w.heap.size + 2]? = some (.cells #[.slice none 0 0, .slice none 0 0, .int .i64 0] 46 (0, 0)) ∧ w5.heap[w3.heap.size]? = some (.cells #[.slice p3 x.boxes.length c3, .slice p4 x.log.length c4, .int .i64 x.given] 46 (0, 0)) from
    ⟨H4.out.1.below hb5, H4.out.2.1.trans (hb5.mono H4.out.2.1.size), (hb5.block _ (by omega)).trans H4.out.2.2.1, (hb5.block _ (by omega)).trans H4.out.2.2.2.1, (hb5.block _ (by omega)).trans H4.out.2.2.2.2.1, (hb5.block _ (by omega)).trans H4.out.2.2.2.2.2⟩)
  clear a0 a1 a2 m0 m1 m2 m3 m4 m5 hi hn hlo hb5 CA H4 hz4 HX hX hw4
  obtain ⟨⟨a0, a1, a2⟩, -⟩ := blk_3c H5.out.2.2.1
  obtain ⟨⟨m0, m1, m2, m3, m4, m5⟩, -⟩ := com6 H5.out.2.2.2.1
  obtain ⟨⟨o0, o1, o2⟩, ⟨v0, v1, v2⟩, -⟩ := blk_3c H5.out.2.2.2.2.2
  obtain ⟨⟨q0, q1, q2⟩, ⟨y0, y1, y2⟩, t0, t1, t2⟩ := blk_3c H5.out.2.2.2.2.1
  have HN := Lib.hid (show storB x m = false → ∀ a b c : Value, ComPost x m w (.returned (.tuple #[.agg #[.slice p3 x.boxes.length c3, .slice p4 x.log.length c4, .int .i64 x.given], .bool false])) (((w5.setCell ⟨w.heap.size + 2, 0, none⟩ a).setCell ⟨w.heap.size + 2, 1, none⟩ b).setCell ⟨w.heap.size + 2, 2, none⟩ c) from fun h a b c =>
    com_no h ((((H5.out.1.set (by omega)).set (by omega)).set (by omega)).lower (by omega)) (((H5.out.2.1.setCell (by simp) _).setCell (by simp) _).setCell (by simp) _))
  cases ha : appB x.boxes m with
  | false =>
    have HS := Lib.hid (stor_1 ha)
    go_wp2_with fail
    exact bodyPost_ret (v := .tuple #[.agg #[.slice p3 x.boxes.length c3, .slice p4 x.log.length c4, .int .i64 x.given], .bool false]) (by simp [results, Tryz.results38, go_sem, t0, t1, t2]) rfl (HN.out HS.out _ _ _)
  | true =>
  have HA := Lib.hid ha
  by_cases hl3 : (x.log.length : Int) < 300
  case neg =>
    have HS := Lib.hid (stor_2 (m := m) hl3)
    have hge : (x.log.length : Int) ≥ 300 := by omega
    clear hl3 ha
    go_wp2_with fail
    exact bodyPost_ret (v := .tuple #[.agg #[.slice p3 x.boxes.length c3, .slice p4 x.log.length c4, .int .i64 x.given], .bool false]) (by simp [results, Tryz.results38, go_sem, t0, t1, t2]) rfl (HN.out HS.out _ _ _)
  have hge : ¬ (x.log.length : Int) ≥ 300 := by omega
  by_cases hk : m.kind = 1
  · have t1k : (m.kind == 1) = true := by rw [hk]; rfl
    by_cases hv : m.validity ≤ x.given
    · have HS := Lib.hid (stor_3 hk hv)
      clear hl3 ha hk
      go_wp2_with fail
      exact bodyPost_ret (v := .tuple #[.agg #[.slice p3 x.boxes.length c3, .slice p4 x.log.length c4, .int .i64 x.given], .bool false]) (by simp [results, Tryz.results38, go_sem, t0, t1, t2]) rfl (HN.out HS.out _ _ _)
    · have HS := Lib.hid (stor_4 ha hl3 (fun h => hv h.2))
      clear ha hk
      go_upto_region 6 with fail
      refine wp_named1 ?_
      intro X6 hX6
      have hz5 : w3.heap.size < w5.heap.size := (Array.getElem?_eq_some_iff.1 H5.out.2.2.2.2.2).1
      have H6 := Lib.hid (show Tree X6 (w3.heap.size + 1) (boxsLf (appliedL x.boxes m)) (.slice p5 (appliedL x.boxes m).length c5) f ∧ X6.ownsRow (w.heap.size + 3) 26 6 (.slice p4 x.log.length c4) x.log.length (x.log.flatMap comc) ∧ Below w.heap.size w X6 ∧ X6.heap[w.heap.size]? = some (.cells #[.slice p0 x.boxes.length c0, .slice p1 x.log.length c1, .int .i64 x.given] 46 (0, 0)) ∧ X6.heap[w.heap.size + 1]? = some (.cells #[.int .i64 m.kind, .int .i64 m.validity, .int .i64 m.uid, .int .i64 m.flags, sv m.name, sv m.text] 26 (0, 0)) ∧ X6.heap[w.heap.size + 2]? = some (.cells #[.slice none 0 0, .slice none 0 0, .int .i64 0] 46 (0, 0)) ∧ X6.heap[w3.heap.size]? = some (.cells #[.slice p5 (appliedL x.boxes m).length c5, .slice p4 x.log.length c4, .int .i64 x.given] 46 (0, 0)) by
        rw [hX6]
        exact ⟨⟨LfIn.set HT.out.is (fun hm => by have := HT.out.low _ hm; omega), HT.out.nodup, HT.out.low⟩, own_frame H5.out.1.log (fun k hk => set_other (by have := HL.out k hk; omega)), H5.out.2.1.setCell (by show w.heap.size ≤ w3.heap.size; omega) _, (set_other (by omega)).trans H5.out.2.2.1, (set_other (by omega)).trans H5.out.2.2.2.1, (set_other (by omega)).trans H5.out.2.2.2.2.1, set_heap H5.out.2.2.2.2.2⟩)
      clear hX6 a0 a1 a2 m0 m1 m2 m3 m4 m5 o0 o1 o2 v0 v1 v2 q0 q1 q2 y0 y1 y2 t0 t1 t2 HN
      obtain ⟨⟨a0, a1, a2⟩, -⟩ := blk_3c H6.out.2.2.2.1
      obtain ⟨⟨m0, m1, m2, m3, m4, m5⟩, -⟩ := com6 H6.out.2.2.2.2.1
      obtain ⟨⟨o0, o1, o2⟩, ⟨v0, v1, v2⟩, -⟩ := blk_3c H6.out.2.2.2.2.2.2
      have hz6 : w3.heap.size < X6.heap.size := (Array.getElem?_eq_some_iff.1 H6.out.2.2.2.2.2.2).1
      have hB6 : w.heap.size + 3 ≤ X6.heap.size := by have := HZ.out; omega
      go_wp2_with (at_builtin; refine wpList_app1 Tryz.el_commit rfl (.tmp 42) (.tmp 44) rfl X6 X6 (.slice p4 x.log.length c4) x.log.length (x.log.flatMap comc) rfl H6.out.2.1 (Below.refl _ _) hB6 #[.int .i64 m.kind, .int .i64 m.validity, .int .i64 m.uid, .int .i64 m.flags, sv m.name, sv m.text] (.inr rfl) 1 1 rfl rfl (by simp [Value.oneCell']) (by omega) (by omega) (by omega) ?_)
      intro gn cap w7 ho7 hb7 hg7 hor7 hlt7
      have hk7 : ∀ k, k < X6.heap.size → (k < w.heap.size + 3 ∨ w3.heap.size ≤ k) → w7.heap[k]? = X6.heap[k]? := fun k hk hor => hg7.block k hk (fun e => by have := HL.out k e.symm; omega)
      have H7 := Lib.hid (show Tree w7 (w3.heap.size + 1) (boxsLf (appliedL x.boxes m)) (.slice p5 (appliedL x.boxes m).length c5) f ∧ w7.ownsRow (w.heap.size + 3) 26 6 (.slice (some ⟨gn, 0, none⟩) (x.log.length + 1) cap) (x.log.length + 1) ((x.log ++ [m]).flatMap comc) ∧ Below w.heap.size w w7 ∧ w7.heap[w.heap.size]? = some (.cells #[.slice p0 x.boxes.length c0, .slice p1 x.log.length c1, .int .i64 x.given] 46 (0, 0)) ∧ w7.heap[w.heap.size + 1]? = some (.cells #[.int .i64 m.kind, .int .i64 m.validity, .int .i64 m.uid, .int .i64 m.flags, sv m.name, sv m.text] 26 (0, 0)) ∧ w7.heap[w.heap.size + 2]? = some (.cells #[.slice none 0 0, .slice none 0 0, .int .i64 0] 46 (0, 0)) ∧ w7.heap[w3.heap.size]? = some (.cells #[.slice p5 (appliedL x.boxes m).length c5, .slice p4 x.log.length c4, .int .i64 x.given] 46 (0, 0)) from
        ⟨H6.out.1.apart (GrownIn.of_row hg7) (fun k hk hm => by have h1 := H6.out.1.low k hk; have h2 := HL.out k (by simpa using hm); omega), by rw [List.flatMap_append]; simpa [comc] using ho7, H6.out.2.2.1.trans (hb7.mono (by omega)), (hk7 _ (by omega) (by omega)).trans H6.out.2.2.2.1, (hk7 _ (by omega) (by omega)).trans H6.out.2.2.2.2.1, (hk7 _ (by omega) (by omega)).trans H6.out.2.2.2.2.2.1, (hk7 _ (by omega) (by omega)).trans H6.out.2.2.2.2.2.2⟩)
      clear ho7 hb7 hg7 hor7 hlt7 hk7 a0 a1 a2 m0 m1 m2 m3 m4 m5 o0 o1 o2 v0 v1 v2
      obtain ⟨⟨o0, o1, o2⟩, ⟨v0, v1, v2⟩, -⟩ := blk_3c H7.out.2.2.2.2.2.2
      go_upto_region 7 with fail
      refine wp_named1 ?_
      intro X8 hX8
      have H8 := Lib.hid (show Tree X8 (w3.heap.size + 1) (boxsLf (appliedL x.boxes m)) (.slice p5 (appliedL x.boxes m).length c5) f ∧ X8.ownsRow (w.heap.size + 3) 26 6 (.slice (some ⟨gn, 0, none⟩) (x.log.length + 1) cap) (x.log.length + 1) ((x.log ++ [m]).flatMap comc) ∧ Below w.heap.size w X8 ∧ X8.heap[w.heap.size]? = some (.cells #[.slice p0 x.boxes.length c0, .slice p1 x.log.length c1, .int .i64 x.given] 46 (0, 0)) ∧ X8.heap[w.heap.size + 1]? = some (.cells #[.int .i64 m.kind, .int .i64 m.validity, .int .i64 m.uid, .int .i64 m.flags, sv m.name, sv m.text] 26 (0, 0)) ∧ X8.heap[w.heap.size + 2]? = some (.cells #[.slice none 0 0, .slice none 0 0, .int .i64 0] 46 (0, 0)) ∧ X8.heap[w3.heap.size]? = some (.cells #[.slice p5 (appliedL x.boxes m).length c5, .slice (some ⟨gn, 0, none⟩) (x.log.length + 1) cap, .int .i64 x.given] 46 (0, 0)) by
        rw [hX8]
        have hgn : gn ≠ w3.heap.size := fun e => by
          obtain ⟨cur, hc⟩ := own_type H7.out.2.1 (show gn ∈ (Value.slice (some ⟨gn, 0, none⟩) (x.log.length + 1) cap).ownBlock.toList by simp [Value.ownBlock])
          rw [e, H7.out.2.2.2.2.2.2] at hc
          injection hc with hc
          injection hc with _ hc _
          exact absurd hc (by decide)
        exact ⟨⟨LfIn.set H7.out.1.is (fun hm => by have := H7.out.1.low _ hm; omega), H7.out.1.nodup, H7.out.1.low⟩, own_frame H7.out.2.1 (fun k hk => set_other (by have : gn = k := (by simpa [Value.ownBlock] using hk); omega)), H7.out.2.2.1.setCell (by show w.heap.size ≤ w3.heap.size; have := HZ.out; omega) _, (set_other (by omega)).trans H7.out.2.2.2.1, (set_other (by omega)).trans H7.out.2.2.2.2.1, (set_other (by omega)).trans H7.out.2.2.2.2.2.1, set_heap H7.out.2.2.2.2.2.2⟩)
      clear hX8 o0 o1 o2 v0 v1 v2
      obtain ⟨⟨a0, a1, a2⟩, -⟩ := blk_3c H8.out.2.2.2.1
      obtain ⟨⟨m0, m1, m2, m3, m4, m5⟩, -⟩ := com6 H8.out.2.2.2.2.1
      obtain ⟨⟨o0, o1, o2⟩, ⟨v0, v1, v2⟩, -⟩ := blk_3c H8.out.2.2.2.2.2.2
      have CM := Lib.hid (fun W => l1Max_any x.given m.validity W)
      go_wp2_with fail
      refine (CM.out _).mono ?_
      rintro e w9 ⟨rfl, rfl⟩
      go_upto_region 8 with fail
      refine wp_named1 ?_
      intro X9 hX9
      have H9 := Lib.hid (show Tree X9 (w3.heap.size + 1) (boxsLf (appliedL x.boxes m)) (.slice p5 (appliedL x.boxes m).length c5) f ∧ X9.ownsRow (w.heap.size + 3) 26 6 (.slice (some ⟨gn, 0, none⟩) (x.log.length + 1) cap) (x.log.length + 1) ((x.log ++ [m]).flatMap comc) ∧ Below w.heap.size w X9 ∧ X9.heap[w.heap.size + 2]? = some (.cells #[.slice none 0 0, .slice none 0 0, .int .i64 0] 46 (0, 0)) ∧ X9.heap[w3.heap.size]? = some (.cells #[.slice p5 (appliedL x.boxes m).length c5, .slice (some ⟨gn, 0, none⟩) (x.log.length + 1) cap, .int .i64 (maxI x.given m.validity)] 46 (0, 0)) by
        rw [hX9]
        have hgn : gn ≠ w3.heap.size := fun e => by
          obtain ⟨cur, hc⟩ := own_type H8.out.2.1 (show gn ∈ (Value.slice (some ⟨gn, 0, none⟩) (x.log.length + 1) cap).ownBlock.toList by simp [Value.ownBlock])
          rw [e, H8.out.2.2.2.2.2.2] at hc
          injection hc with hc
          injection hc with _ hc _
          exact absurd hc (by decide)
        exact ⟨⟨LfIn.set H8.out.1.is (fun hm => by have := H8.out.1.low _ hm; omega), H8.out.1.nodup, H8.out.1.low⟩, own_frame H8.out.2.1 (fun k hk => set_other (by have : gn = k := (by simpa [Value.ownBlock] using hk); omega)), H8.out.2.2.1.setCell (by show w.heap.size ≤ w3.heap.size; have := HZ.out; omega) _, (set_other (by omega)).trans H8.out.2.2.2.2.2.1, set_heap H8.out.2.2.2.2.2.2⟩)
      clear hX9 o0 o1 o2 v0 v1 v2 a0 a1 a2 m0 m1 m2 m3 m4 m5
      obtain ⟨⟨o0, o1, o2⟩, -⟩ := blk_3c H9.out.2.2.2.2
      obtain ⟨⟨q0, q1, q2⟩, ⟨y0, y1, y2⟩, t0, t1, t2⟩ := blk_3c H9.out.2.2.2.1
      have HY := Lib.hid (show ∀ a b c : Value, ComPost x m w (.returned (.tuple #[.agg #[.slice p5 (appliedL x.boxes m).length c5, .slice (some ⟨gn, 0, none⟩) (x.log.length + 1) cap, .int .i64 (maxI x.given m.validity)], .bool true])) (((X9.setCell ⟨w.heap.size + 2, 0, none⟩ a).setCell ⟨w.heap.size + 2, 1, none⟩ b).setCell ⟨w.heap.size + 2, 2, none⟩ c) from fun a b c => by
        have hO : StoOwn (w.heap.size + 3) X9 ⟨appliedL x.boxes m, x.log ++ [m], maxI x.given m.validity⟩ (.slice p5 (appliedL x.boxes m).length c5) (.slice (some ⟨gn, 0, none⟩) (x.log.length + 1) cap) :=
          StoOwn.mk' (f0 := f) ⟨H9.out.1.is, H9.out.1.nodup, fun q hq => by have := H9.out.1.low q hq; have := HZ.out; omega⟩ (by show X9.ownsRow _ _ 6 _ (x.log ++ [m]).length _; rw [List.length_append]; exact H9.out.2.1)
        exact com_yes HS.out (applied_yes HA.out) rfl rfl ((((hO.set (by omega)).set (by omega)).set (by omega)).lower (by omega)) (((H9.out.2.2.1.setCell (by simp) _).setCell (by simp) _).setCell (by simp) _))
      go_wp2_with fail
      exact bodyPost_ret (v := .tuple #[.agg #[.slice p5 (appliedL x.boxes m).length c5, .slice (some ⟨gn, 0, none⟩) (x.log.length + 1) cap, .int .i64 (maxI x.given m.validity)], .bool true]) (by simp [results, Tryz.results38, go_sem, t0, t1, t2]) rfl (HY.out _ _ _)
  · have t1k : (m.kind == 1) = false := by rw [beq_eq_false_iff_ne]; exact hk
    have HS := Lib.hid (stor_4 ha hl3 (fun h => hk h.1))
    clear ha hk
    go_upto_region 6 with fail
    refine wp_named1 ?_
    intro X6 hX6
    have hz5 : w3.heap.size < w5.heap.size := (Array.getElem?_eq_some_iff.1 H5.out.2.2.2.2.2).1
    have H6 := Lib.hid (show Tree X6 (w3.heap.size + 1) (boxsLf (appliedL x.boxes m)) (.slice p5 (appliedL x.boxes m).length c5) f ∧ X6.ownsRow (w.heap.size + 3) 26 6 (.slice p4 x.log.length c4) x.log.length (x.log.flatMap comc) ∧ Below w.heap.size w X6 ∧ X6.heap[w.heap.size]? = some (.cells #[.slice p0 x.boxes.length c0, .slice p1 x.log.length c1, .int .i64 x.given] 46 (0, 0)) ∧ X6.heap[w.heap.size + 1]? = some (.cells #[.int .i64 m.kind, .int .i64 m.validity, .int .i64 m.uid, .int .i64 m.flags, sv m.name, sv m.text] 26 (0, 0)) ∧ X6.heap[w.heap.size + 2]? = some (.cells #[.slice none 0 0, .slice none 0 0, .int .i64 0] 46 (0, 0)) ∧ X6.heap[w3.heap.size]? = some (.cells #[.slice p5 (appliedL x.boxes m).length c5, .slice p4 x.log.length c4, .int .i64 x.given] 46 (0, 0)) by
      rw [hX6]
      exact ⟨⟨LfIn.set HT.out.is (fun hm => by have := HT.out.low _ hm; omega), HT.out.nodup, HT.out.low⟩, own_frame H5.out.1.log (fun k hk => set_other (by have := HL.out k hk; omega)), H5.out.2.1.setCell (by show w.heap.size ≤ w3.heap.size; omega) _, (set_other (by omega)).trans H5.out.2.2.1, (set_other (by omega)).trans H5.out.2.2.2.1, (set_other (by omega)).trans H5.out.2.2.2.2.1, set_heap H5.out.2.2.2.2.2⟩)
    clear hX6 a0 a1 a2 m0 m1 m2 m3 m4 m5 o0 o1 o2 v0 v1 v2 q0 q1 q2 y0 y1 y2 t0 t1 t2 HN
    obtain ⟨⟨a0, a1, a2⟩, -⟩ := blk_3c H6.out.2.2.2.1
    obtain ⟨⟨m0, m1, m2, m3, m4, m5⟩, -⟩ := com6 H6.out.2.2.2.2.1
    obtain ⟨⟨o0, o1, o2⟩, ⟨v0, v1, v2⟩, -⟩ := blk_3c H6.out.2.2.2.2.2.2
    have hz6 : w3.heap.size < X6.heap.size := (Array.getElem?_eq_some_iff.1 H6.out.2.2.2.2.2.2).1
    have hB6 : w.heap.size + 3 ≤ X6.heap.size := by have := HZ.out; omega
    go_wp2_with (at_builtin; refine wpList_app1 Tryz.el_commit rfl (.tmp 42) (.tmp 44) rfl X6 X6 (.slice p4 x.log.length c4) x.log.length (x.log.flatMap comc) rfl H6.out.2.1 (Below.refl _ _) hB6 #[.int .i64 m.kind, .int .i64 m.validity, .int .i64 m.uid, .int .i64 m.flags, sv m.name, sv m.text] (.inr rfl) 1 1 rfl rfl (by simp [Value.oneCell']) (by omega) (by omega) (by omega) ?_)
    intro gn cap w7 ho7 hb7 hg7 hor7 hlt7
    have hk7 : ∀ k, k < X6.heap.size → (k < w.heap.size + 3 ∨ w3.heap.size ≤ k) → w7.heap[k]? = X6.heap[k]? := fun k hk hor => hg7.block k hk (fun e => by have := HL.out k e.symm; omega)
    have H7 := Lib.hid (show Tree w7 (w3.heap.size + 1) (boxsLf (appliedL x.boxes m)) (.slice p5 (appliedL x.boxes m).length c5) f ∧ w7.ownsRow (w.heap.size + 3) 26 6 (.slice (some ⟨gn, 0, none⟩) (x.log.length + 1) cap) (x.log.length + 1) ((x.log ++ [m]).flatMap comc) ∧ Below w.heap.size w w7 ∧ w7.heap[w.heap.size]? = some (.cells #[.slice p0 x.boxes.length c0, .slice p1 x.log.length c1, .int .i64 x.given] 46 (0, 0)) ∧ w7.heap[w.heap.size + 1]? = some (.cells #[.int .i64 m.kind, .int .i64 m.validity, .int .i64 m.uid, .int .i64 m.flags, sv m.name, sv m.text] 26 (0, 0)) ∧ w7.heap[w.heap.size + 2]? = some (.cells #[.slice none 0 0, .slice none 0 0, .int .i64 0] 46 (0, 0)) ∧ w7.heap[w3.heap.size]? = some (.cells #[.slice p5 (appliedL x.boxes m).length c5, .slice p4 x.log.length c4, .int .i64 x.given] 46 (0, 0)) from
      ⟨H6.out.1.apart (GrownIn.of_row hg7) (fun k hk hm => by have h1 := H6.out.1.low k hk; have h2 := HL.out k (by simpa using hm); omega), by rw [List.flatMap_append]; simpa [comc] using ho7, H6.out.2.2.1.trans (hb7.mono (by omega)), (hk7 _ (by omega) (by omega)).trans H6.out.2.2.2.1, (hk7 _ (by omega) (by omega)).trans H6.out.2.2.2.2.1, (hk7 _ (by omega) (by omega)).trans H6.out.2.2.2.2.2.1, (hk7 _ (by omega) (by omega)).trans H6.out.2.2.2.2.2.2⟩)
    clear ho7 hb7 hg7 hor7 hlt7 hk7 a0 a1 a2 m0 m1 m2 m3 m4 m5 o0 o1 o2 v0 v1 v2
    obtain ⟨⟨o0, o1, o2⟩, ⟨v0, v1, v2⟩, -⟩ := blk_3c H7.out.2.2.2.2.2.2
    go_upto_region 7 with fail
    refine wp_named1 ?_
    intro X8 hX8
    have H8 := Lib.hid (show Tree X8 (w3.heap.size + 1) (boxsLf (appliedL x.boxes m)) (.slice p5 (appliedL x.boxes m).length c5) f ∧ X8.ownsRow (w.heap.size + 3) 26 6 (.slice (some ⟨gn, 0, none⟩) (x.log.length + 1) cap) (x.log.length + 1) ((x.log ++ [m]).flatMap comc) ∧ Below w.heap.size w X8 ∧ X8.heap[w.heap.size]? = some (.cells #[.slice p0 x.boxes.length c0, .slice p1 x.log.length c1, .int .i64 x.given] 46 (0, 0)) ∧ X8.heap[w.heap.size + 1]? = some (.cells #[.int .i64 m.kind, .int .i64 m.validity, .int .i64 m.uid, .int .i64 m.flags, sv m.name, sv m.text] 26 (0, 0)) ∧ X8.heap[w.heap.size + 2]? = some (.cells #[.slice none 0 0, .slice none 0 0, .int .i64 0] 46 (0, 0)) ∧ X8.heap[w3.heap.size]? = some (.cells #[.slice p5 (appliedL x.boxes m).length c5, .slice (some ⟨gn, 0, none⟩) (x.log.length + 1) cap, .int .i64 x.given] 46 (0, 0)) by
      rw [hX8]
      have hgn : gn ≠ w3.heap.size := fun e => by
        obtain ⟨cur, hc⟩ := own_type H7.out.2.1 (show gn ∈ (Value.slice (some ⟨gn, 0, none⟩) (x.log.length + 1) cap).ownBlock.toList by simp [Value.ownBlock])
        rw [e, H7.out.2.2.2.2.2.2] at hc
        injection hc with hc
        injection hc with _ hc _
        exact absurd hc (by decide)
      exact ⟨⟨LfIn.set H7.out.1.is (fun hm => by have := H7.out.1.low _ hm; omega), H7.out.1.nodup, H7.out.1.low⟩, own_frame H7.out.2.1 (fun k hk => set_other (by have : gn = k := (by simpa [Value.ownBlock] using hk); omega)), H7.out.2.2.1.setCell (by show w.heap.size ≤ w3.heap.size; have := HZ.out; omega) _, (set_other (by omega)).trans H7.out.2.2.2.1, (set_other (by omega)).trans H7.out.2.2.2.2.1, (set_other (by omega)).trans H7.out.2.2.2.2.2.1, set_heap H7.out.2.2.2.2.2.2⟩)
    clear hX8 o0 o1 o2 v0 v1 v2
    obtain ⟨⟨a0, a1, a2⟩, -⟩ := blk_3c H8.out.2.2.2.1
    obtain ⟨⟨m0, m1, m2, m3, m4, m5⟩, -⟩ := com6 H8.out.2.2.2.2.1
    obtain ⟨⟨o0, o1, o2⟩, ⟨v0, v1, v2⟩, -⟩ := blk_3c H8.out.2.2.2.2.2.2
    have CM := Lib.hid (fun W => l1Max_any x.given m.validity W)
    go_wp2_with fail
    refine (CM.out _).mono ?_
    rintro e w9 ⟨rfl, rfl⟩
    go_upto_region 8 with fail
    refine wp_named1 ?_
    intro X9 hX9
    have H9 := Lib.hid (show Tree X9 (w3.heap.size + 1) (boxsLf (appliedL x.boxes m)) (.slice p5 (appliedL x.boxes m).length c5) f ∧ X9.ownsRow (w.heap.size + 3) 26 6 (.slice (some ⟨gn, 0, none⟩) (x.log.length + 1) cap) (x.log.length + 1) ((x.log ++ [m]).flatMap comc) ∧ Below w.heap.size w X9 ∧ X9.heap[w.heap.size + 2]? = some (.cells #[.slice none 0 0, .slice none 0 0, .int .i64 0] 46 (0, 0)) ∧ X9.heap[w3.heap.size]? = some (.cells #[.slice p5 (appliedL x.boxes m).length c5, .slice (some ⟨gn, 0, none⟩) (x.log.length + 1) cap, .int .i64 (maxI x.given m.validity)] 46 (0, 0)) by
      rw [hX9]
      have hgn : gn ≠ w3.heap.size := fun e => by
        obtain ⟨cur, hc⟩ := own_type H8.out.2.1 (show gn ∈ (Value.slice (some ⟨gn, 0, none⟩) (x.log.length + 1) cap).ownBlock.toList by simp [Value.ownBlock])
        rw [e, H8.out.2.2.2.2.2.2] at hc
        injection hc with hc
        injection hc with _ hc _
        exact absurd hc (by decide)
      exact ⟨⟨LfIn.set H8.out.1.is (fun hm => by have := H8.out.1.low _ hm; omega), H8.out.1.nodup, H8.out.1.low⟩, own_frame H8.out.2.1 (fun k hk => set_other (by have : gn = k := (by simpa [Value.ownBlock] using hk); omega)), H8.out.2.2.1.setCell (by show w.heap.size ≤ w3.heap.size; have := HZ.out; omega) _, (set_other (by omega)).trans H8.out.2.2.2.2.2.1, set_heap H8.out.2.2.2.2.2.2⟩)
    clear hX9 o0 o1 o2 v0 v1 v2 a0 a1 a2 m0 m1 m2 m3 m4 m5
    obtain ⟨⟨o0, o1, o2⟩, -⟩ := blk_3c H9.out.2.2.2.2
    obtain ⟨⟨q0, q1, q2⟩, ⟨y0, y1, y2⟩, t0, t1, t2⟩ := blk_3c H9.out.2.2.2.1
    have HY := Lib.hid (show ∀ a b c : Value, ComPost x m w (.returned (.tuple #[.agg #[.slice p5 (appliedL x.boxes m).length c5, .slice (some ⟨gn, 0, none⟩) (x.log.length + 1) cap, .int .i64 (maxI x.given m.validity)], .bool true])) (((X9.setCell ⟨w.heap.size + 2, 0, none⟩ a).setCell ⟨w.heap.size + 2, 1, none⟩ b).setCell ⟨w.heap.size + 2, 2, none⟩ c) from fun a b c => by
      have hO : StoOwn (w.heap.size + 3) X9 ⟨appliedL x.boxes m, x.log ++ [m], maxI x.given m.validity⟩ (.slice p5 (appliedL x.boxes m).length c5) (.slice (some ⟨gn, 0, none⟩) (x.log.length + 1) cap) :=
        StoOwn.mk' (f0 := f) ⟨H9.out.1.is, H9.out.1.nodup, fun q hq => by have := H9.out.1.low q hq; have := HZ.out; omega⟩ (by show X9.ownsRow _ _ 6 _ (x.log ++ [m]).length _; rw [List.length_append]; exact H9.out.2.1)
      exact com_yes HS.out (applied_yes HA.out) rfl rfl ((((hO.set (by omega)).set (by omega)).set (by omega)).lower (by omega)) (((H9.out.2.2.1.setCell (by simp) _).setCell (by simp) _).setCell (by simp) _))
    go_wp2_with fail
    exact bodyPost_ret (v := .tuple #[.agg #[.slice p5 (appliedL x.boxes m).length c5, .slice (some ⟨gn, 0, none⟩) (x.log.length + 1) cap, .int .i64 (maxI x.given m.validity)], .bool true]) (by simp [results, Tryz.results38, go_sem, t0, t1, t2]) rfl (HY.out _ _ _)

end Go.Proofs.YtbfgdbpfecffcaaGreatDoor
