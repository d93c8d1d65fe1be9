/-
  Tq: StoZ (what the claim needs of them).
-/
import Derived.Handy
import Derived.Maps.OwnIn
import Derived.Sort.KeysCollected
import Derived.RangeFuncNested
import Derived.RangeFuncLeaves
import Derived.RangeFuncWrites
import Derived.WalkKit
import Derived.OwnWalkIn
import Derived.TacticsInMore
import Derived.LoopNIn
import Derived.LoopIn
import Derived.Maps.OwnSet
import Derived.Maps.RangeWalk
import Derived.Sort.OwnSorted
import Derived.Sort.EveryDepth
import Derived.Deep.DeepCutAuto
import Derived.Lib.SliceRun
import Derived.Test.YtbfgdbpfecffcaaGreatDoorRows
import Derived.WalkSpells
import Derived.WalkLawsBesides
import Derived.Laws.IdiomStrings
import Derived.Lib.Hide
import Derived.Deep.AppendLies
import Derived.OrdersHeld
import Derived.Lib.ItoaNum
import Derived.Lib.ItoaMem
import Derived.Lib.AppendStr
import Derived.Lib.ItoaLen
import Derived.Lib.Strings
import Derived.Lib.Bytealg
import Derived.Lib.OthersKept
import Derived.Laws.RangeAny
import Derived.Laws.BitsAllLaws
import Derived.Laws.BitsLemmas
import Derived.IntWalk
import Derived.LaidEql
import Derived.Stop.Asserts
import Derived.RowKitTokens
import Derived.Lib.Join
import Derived.Deep.Strs
import Derived.Test.YtbfgdbpfecffcaaGreatDoorProg
import Derived.Laws.Tables
import Derived.Deep.LoopGhost
import Derived.Deep.Cut
import Derived.Test.YtbfgdbpfecffcaaGreatDoorSb
import Derived.Test.YtbfgdbpfecffcaaGreatDoorSc
import Derived.Test.YtbfgdbpfecffcaaGreatDoorSd
import Derived.Test.YtbfgdbpfecffcaaGreatDoorSe
import Derived.Test.YtbfgdbpfecffcaaGreatDoorSf
import Derived.Test.YtbfgdbpfecffcaaGreatDoorSi
import Derived.Test.YtbfgdbpfecffcaaGreatDoorSm
import Derived.Test.YtbfgdbpfecffcaaGreatDoorSp
import Derived.Test.YtbfgdbpfecffcaaGreatDoorSq
import Derived.Test.YtbfgdbpfecffcaaGreatDoorSr
import Derived.Test.YtbfgdbpfecffcaaGreatDoorSs
import Derived.Test.YtbfgdbpfecffcaaGreatDoorSx
import Derived.Test.YtbfgdbpfecffcaaGreatDoorSy
import Derived.Test.YtbfgdbpfecffcaaGreatDoorSz
import Derived.Test.YtbfgdbpfecffcaaGreatDoorTa
import Derived.Test.YtbfgdbpfecffcaaGreatDoorTb
import Derived.Test.YtbfgdbpfecffcaaGreatDoorTc
import Derived.Test.YtbfgdbpfecffcaaGreatDoorTd
import Derived.Test.YtbfgdbpfecffcaaGreatDoorTe
import Derived.Test.YtbfgdbpfecffcaaGreatDoorTf
import Derived.Test.YtbfgdbpfecffcaaGreatDoorTg
import Derived.Test.YtbfgdbpfecffcaaGreatDoorTh
import Derived.Test.YtbfgdbpfecffcaaGreatDoorTk
import Derived.Test.YtbfgdbpfecffcaaGreatDoorTl
import Derived.Test.YtbfgdbpfecffcaaGreatDoorTm
import Derived.Test.YtbfgdbpfecffcaaGreatDoorTo
import Derived.Test.YtbfgdbpfecffcaaGreatDoorTp

namespace Go.Proofs.YtbfgdbpfecffcaaGreatDoor
open Go.RowKit

set_option maxRecDepth 20000 in
set_option maxHeartbeats 6400000 in
theorem FnStore_any (v : Value) (code : List UInt8) (w : World) (hE : ErrG w) (hr : Rd1 bv w v code) :
    Calls Tryz.prog 6 #[v] w fun e w' => e = .returned (.bool true) ∧ Below w.heap.size w w' := by
  have HR := Lib.hid hr
  have HB := Lib.hid (big_any v code w hr)
  have HE := Lib.hid hE
  clear hr hE
  by_cases hbig : code.length ≤ 1048576
  case neg =>
    have hq : (1048576 : Int) < (code.length : Int) := by omega
    go_enter Tryz.func6, Tryz.ntmps6
    go_wp2_with fail
    refine (HB.out).mono ?_
    rintro e w' ⟨rfl, rfl⟩
    go_wp2
    go_ret
    exact ⟨rfl, Below.refl _ _⟩
  have hq : ¬ (1048576 : Int) < (code.length : Int) := by omega
  go_enter Tryz.func6, Tryz.ntmps6
  go_wp2_with fail
  refine (HB.out).mono ?_
  rintro e w' ⟨rfl, rfl⟩
  clear HB
  go_wp2_with fail
  refine (DrawBoxesAt_any v code _ HR.out hbig).mono ?_
  rintro e w1 ⟨x, z0, z1, n, rfl, hsm, hn, hrd, b1⟩
  obtain ⟨p0, c0, rfl⟩ := LfRd.slice hrd.1
  obtain ⟨p1, c1, rfl⟩ := LfRd.slice hrd.2.2.1
  have HM := Lib.hid hsm
  have HN := Lib.hid hn
  have hb2 := (Below.refl w1.heap.size w1).alloc (Nat.le_refl _) (.cells #[.slice p0 x.boxes.length c0, .slice p1 x.log.length c1, .int .i64 x.given] 46)
  have HX := Lib.hid (show StoRd (w1.alloc (.cells #[.slice p0 x.boxes.length c0, .slice p1 x.log.length c1, .int .i64 x.given] 46)) x (.slice p0 x.boxes.length c0) (.slice p1 x.log.length c1) ∧ ErrG (w1.alloc (.cells #[.slice p0 x.boxes.length c0, .slice p1 x.log.length c1, .int .i64 x.given] 46)) ∧ (w1.alloc (.cells #[.slice p0 x.boxes.length c0, .slice p1 x.log.length c1, .int .i64 x.given] 46)).heap[w1.heap.size]? = some (.cells #[.slice p0 x.boxes.length c0, .slice p1 x.log.length c1, .int .i64 x.given] 46 (0, 0)) ∧ Below w.heap.size w (w1.alloc (.cells #[.slice p0 x.boxes.length c0, .slice p1 x.log.length c1, .int .i64 x.given] 46)) from
    ⟨hrd.below hb2, errG_keeps _ _ (errG_keeps _ _ HE.out b1) hb2, heap_alloc_new w1 _, b1.trans (hb2.mono b1.size)⟩)
  clear hsm hn hrd b1 hb2 HE hq hbig
  go_upto_region 4 with fail
  refine wp_named1 ?_
  intro X hX
  rw [← hX] at HX
  obtain ⟨m, hm⟩ : ∃ m, w1.heap.size = m := ⟨_, rfl⟩
  rw [hm] at HX ⊢
  clear hX hm
  have HF := Lib.hid (HM.out.fine (by omega))
  obtain ⟨t, ht⟩ : ∃ t, storeB x = t := ⟨_, rfl⟩
  obtain ⟨A, hA⟩ : ∃ A, atL x.log n = A := ⟨_, rfl⟩
  have HA := Lib.hid (show szLf (boxsLf A) ≤ 1048576 ∧ LfBnd (boxsLf A) from hA ▸ right_small (all_right0 _))
  have HAA := Lib.hid hA
  have HT := Lib.hid ht
  have HV := Lib.hid (show ∀ W, Below X.drew.heap.size X.drew W → StoRd W x (.slice p0 x.boxes.length c0) (.slice p1 x.log.length c1) ∧ ErrG W ∧ W.heap[m]? = some (.cells #[.slice p0 x.boxes.length c0, .slice p1 x.log.length c1, .int .i64 x.given] 46 (0, 0)) from fun W g => by
    have g2 : Below X.heap.size X W := (Below.refl X.heap.size X).drew.trans g
    exact ⟨HX.out.1.below g2, errG_keeps _ _ HX.out.2.1 g2, (g2.block m (Array.getElem?_eq_some_iff.1 HX.out.2.2.1).1).trans HX.out.2.2.1⟩)
  have HBW := Lib.hid (show Below w.heap.size w X.drew from HX.out.2.2.2.drew)
  have CI := Lib.hid (fun W (g : Below X.drew.heap.size X.drew W) => (implStoreOk_c x (.slice p0 x.boxes.length c0) (.slice p1 x.log.length c1) W (HV.out W g).2.1 (HV.out W g).1.1 (HV.out W g).1.2.1 (HV.out W g).1.2.2.1 (HV.out W g).1.2.2.2 HF.out.1 HF.out.2).mono (R' := fun e w' => e = .returned (.bool t) ∧ Below W.heap.size W w') fun e w' h => by rw [ht] at h; exact h)
  have CS := Lib.hid (fun W (g : Below X.drew.heap.size X.drew W) => (specStoreOk_c x (.slice p0 x.boxes.length c0) (.slice p1 x.log.length c1) W trivial (HV.out W g).1.1 (HV.out W g).1.2.1 (HV.out W g).1.2.2.1 (HV.out W g).1.2.2.2 HF.out.1 HF.out.2).mono (R' := fun e w' => e = .returned (.bool t) ∧ Below W.heap.size W w') fun e w' h => by rw [ht] at h; exact h)
  have BI0 := Lib.hid (fun k (hk : in64 k) W (g : Below X.drew.heap.size X.drew W) => implBoxesAt_c x (.slice p0 x.boxes.length c0) (.slice p1 x.log.length c1) k W (HV.out W g).2.1 (HV.out W g).1.1 (HV.out W g).1.2.1 (HV.out W g).1.2.2.1 (HV.out W g).1.2.2.2 HF.out.1 HF.out.2 hk)
  have BI := Lib.hid (fun W g => (BI0.out n HN.out W g).mono (R' := fun e w' => ∃ z0 f0, e = .returned z0 ∧ LfIn w' (boxsLf A) z0 f0 ∧ f0.Nodup ∧ (∀ q ∈ f0, W.heap.size ≤ q) ∧ Below W.heap.size W w') fun e w' h => by rw [hA] at h; exact h)
  have BS := Lib.hid (fun W (g : Below X.drew.heap.size X.drew W) => (specBoxesAt_c x (.slice p0 x.boxes.length c0) (.slice p1 x.log.length c1) n W trivial (HV.out W g).1.1 (HV.out W g).1.2.1 (HV.out W g).1.2.2.1 (HV.out W g).1.2.2.2 HF.out.1 HF.out.2 HN.out).mono (R' := fun e w' => ∃ z0 f0, e = .returned z0 ∧ LfIn w' (boxsLf A) z0 f0 ∧ f0.Nodup ∧ (∀ q ∈ f0, W.heap.size ≤ q) ∧ Below W.heap.size W w') fun e w' h => by rw [hA] at h; exact h)
  clear HX hA ht
  cases t with
  | false =>
    go_wp2
    refine ord_start [(0, true), (2, true), (1, false), (3, false), (4, true), (5, true), (6, true), (7, true), (9, true), (10, true), (8, false), (11, false), (12, false), (13, true), (14, true)] (fun W => W.cell? ⟨m, 0, none⟩ = some (.slice p0 x.boxes.length c0) ∧ W.cell? ⟨m, 1, none⟩ = some (.slice p1 x.log.length c1) ∧ W.cell? ⟨m, 2, none⟩ = some (.int .i64 x.given)) (by kernel_rfl) (by kernel_rfl) rfl (by kernel_rfl) ?_
    intro ops' hops
    simp only [List.map_cons, List.map_nil, pickOp_zero, pickOp_succ]
    generalize X.drew = D at *
    obtain ⟨⟨d0, d1, d2⟩, -⟩ := blk_3c (HV.out D (Below.refl _ _)).2.2
    have b1X := Below.refl D.heap.size D
    iterate 2 (refine ord_flo ?_ (fun _ _ _ h => h) rfl ?_ ⟨d0, d1, d2⟩ ?_; rotate_left; focus (intro W hS; obtain ⟨s0, s1, s2⟩ := hS; go_simp; rfl))
    refine ord_ev (by rw [hops.out]; kernel_rfl) ?_
    go_simp
    refine (CI.out D b1X).mono ?_
    rintro e w2 ⟨rfl, b2⟩
    have b2X := b1X.trans (b2.mono b1X.size)
    clear d0 d1 d2
    obtain ⟨⟨d0, d1, d2⟩, -⟩ := blk_3c (HV.out w2 b2X).2.2
    refine ⟨⟨d0, d1, d2⟩, ?_⟩
    refine ord_ev (by rw [hops.out]; kernel_rfl) ?_
    go_simp
    refine (CS.out w2 b2X).mono ?_
    rintro e w3 ⟨rfl, b3⟩
    have b3X := b2X.trans (b3.mono b2X.size)
    clear d0 d1 d2
    obtain ⟨⟨d0, d1, d2⟩, -⟩ := blk_3c (HV.out w3 b3X).2.2
    refine ⟨⟨d0, d1, d2⟩, ?_⟩
    iterate 2 (refine ord_flo ?_ (fun _ _ _ h => h) rfl ?_ ⟨d0, d1, d2⟩ ?_; rotate_left; focus (intro W hS; obtain ⟨s0, s1, s2⟩ := hS; go_simp; rfl))
    iterate 4 (refine ord_flo ?_ (fun _ _ _ h => h) (by rw [hops.out]; kernel_rfl) ?_ ⟨d0, d1, d2⟩ ?_; rotate_left; focus (intro W hS; obtain ⟨s0, s1, s2⟩ := hS; go_simp; rfl))
    refine ord_ev (by rw [hops.out]; kernel_rfl) ?_
    go_simp
    refine (BI.out w3 b3X).mono ?_
    rintro e w4 ⟨za, fa, rfl, hza, -, -, b4⟩
    obtain ⟨pa, ca, rfl⟩ := LfIn.slice hza
    have b4X := b3X.trans (b4.mono b3X.size)
    clear d0 d1 d2
    obtain ⟨⟨d0, d1, d2⟩, -⟩ := blk_3c (HV.out w4 b4X).2.2
    refine ⟨⟨d0, d1, d2⟩, ?_⟩
    refine ord_ev (by rw [hops.out]; kernel_rfl) ?_
    go_simp
    refine (BS.out w4 b4X).mono ?_
    rintro e w5 ⟨zb, fb, rfl, hzb, -, -, b5⟩
    obtain ⟨pb, cb, rfl⟩ := LfIn.slice hzb
    have b5X := b4X.trans (b5.mono b4X.size)
    clear d0 d1 d2
    obtain ⟨⟨d0, d1, d2⟩, -⟩ := blk_3c (HV.out w5 b5X).2.2
    have E := Lib.hid ((specSameBoxes_c A (.slice pa A.length ca) A (.slice pb A.length cb) w5 trivial (LfRd.below b5 _ _ (LfIn.rd _ _ _ hza)) HA.out.1 HA.out.2 (LfIn.rd _ _ _ hzb) HA.out.1 HA.out.2).mono (R' := fun e w' => e = .returned (.bool true) ∧ Below w5.heap.size w5 w') fun e w' h => by simpa using h)
    clear hza hzb
    refine ⟨⟨d0, d1, d2⟩, ?_⟩
    refine ord_ev (by rw [hops.out]; kernel_rfl) ?_
    go_simp
    refine (E.out).mono ?_
    rintro e w6 ⟨rfl, b6⟩
    have b6X := b5X.trans (b6.mono b5X.size)
    clear d0 d1 d2
    obtain ⟨⟨d0, d1, d2⟩, -⟩ := blk_3c (HV.out w6 b6X).2.2
    refine ⟨⟨d0, d1, d2⟩, ?_⟩
    iterate 1 (refine ord_flo ?_ (fun _ _ _ h => h) (by rw [hops.out]; kernel_rfl) ?_ ⟨d0, d1, d2⟩ ?_; rotate_left; focus (intro W hS; obtain ⟨s0, s1, s2⟩ := hS; go_simp; rfl))
    iterate 1 (refine ord_flo ?_ (fun _ _ _ h => h) rfl ?_ ⟨d0, d1, d2⟩ ?_; rotate_left; focus (intro W hS; obtain ⟨s0, s1, s2⟩ := hS; go_simp; rfl))
    refine ord_done ?_
    go_simp
    clear CI BS BI E b1X b2X b3X b4X b5X b2 b3 b4 b5 b6
    go_wp2_with fail
    refine (CS.out w6 b6X).mono ?_
    rintro e w7 ⟨rfl, b7⟩
    have hfin := HBW.out.trans ((b6X.trans (b7.mono b6X.size)).mono HBW.out.size)
    clear CS d0 d1 d2 b6X b7
    go_wp2
    go_ret
    exact ⟨rfl, hfin⟩
  | true =>
    go_wp2
    refine ord_start [(0, true), (2, true), (1, false), (3, false), (4, true), (5, true), (6, true), (7, true), (9, true), (10, true), (8, false), (11, false), (12, false), (13, true), (14, true)] (fun W => W.cell? ⟨m, 0, none⟩ = some (.slice p0 x.boxes.length c0) ∧ W.cell? ⟨m, 1, none⟩ = some (.slice p1 x.log.length c1) ∧ W.cell? ⟨m, 2, none⟩ = some (.int .i64 x.given)) (by kernel_rfl) (by kernel_rfl) rfl (by kernel_rfl) ?_
    intro ops' hops
    simp only [List.map_cons, List.map_nil, pickOp_zero, pickOp_succ]
    generalize X.drew = D at *
    obtain ⟨⟨d0, d1, d2⟩, -⟩ := blk_3c (HV.out D (Below.refl _ _)).2.2
    have b1X := Below.refl D.heap.size D
    iterate 2 (refine ord_flo ?_ (fun _ _ _ h => h) rfl ?_ ⟨d0, d1, d2⟩ ?_; rotate_left; focus (intro W hS; obtain ⟨s0, s1, s2⟩ := hS; go_simp; rfl))
    refine ord_ev (by rw [hops.out]; kernel_rfl) ?_
    go_simp
    refine (CI.out D b1X).mono ?_
    rintro e w2 ⟨rfl, b2⟩
    have b2X := b1X.trans (b2.mono b1X.size)
    clear d0 d1 d2
    obtain ⟨⟨d0, d1, d2⟩, -⟩ := blk_3c (HV.out w2 b2X).2.2
    refine ⟨⟨d0, d1, d2⟩, ?_⟩
    refine ord_ev (by rw [hops.out]; kernel_rfl) ?_
    go_simp
    refine (CS.out w2 b2X).mono ?_
    rintro e w3 ⟨rfl, b3⟩
    have b3X := b2X.trans (b3.mono b2X.size)
    clear d0 d1 d2
    obtain ⟨⟨d0, d1, d2⟩, -⟩ := blk_3c (HV.out w3 b3X).2.2
    refine ⟨⟨d0, d1, d2⟩, ?_⟩
    iterate 2 (refine ord_flo ?_ (fun _ _ _ h => h) rfl ?_ ⟨d0, d1, d2⟩ ?_; rotate_left; focus (intro W hS; obtain ⟨s0, s1, s2⟩ := hS; go_simp; rfl))
    iterate 4 (refine ord_flo ?_ (fun _ _ _ h => h) (by rw [hops.out]; kernel_rfl) ?_ ⟨d0, d1, d2⟩ ?_; rotate_left; focus (intro W hS; obtain ⟨s0, s1, s2⟩ := hS; go_simp; rfl))
    refine ord_ev (by rw [hops.out]; kernel_rfl) ?_
    go_simp
    refine (BI.out w3 b3X).mono ?_
    rintro e w4 ⟨za, fa, rfl, hza, -, -, b4⟩
    obtain ⟨pa, ca, rfl⟩ := LfIn.slice hza
    have b4X := b3X.trans (b4.mono b3X.size)
    clear d0 d1 d2
    obtain ⟨⟨d0, d1, d2⟩, -⟩ := blk_3c (HV.out w4 b4X).2.2
    refine ⟨⟨d0, d1, d2⟩, ?_⟩
    refine ord_ev (by rw [hops.out]; kernel_rfl) ?_
    go_simp
    refine (BS.out w4 b4X).mono ?_
    rintro e w5 ⟨zb, fb, rfl, hzb, -, -, b5⟩
    obtain ⟨pb, cb, rfl⟩ := LfIn.slice hzb
    have b5X := b4X.trans (b5.mono b4X.size)
    clear d0 d1 d2
    obtain ⟨⟨d0, d1, d2⟩, -⟩ := blk_3c (HV.out w5 b5X).2.2
    have E := Lib.hid ((specSameBoxes_c A (.slice pa A.length ca) A (.slice pb A.length cb) w5 trivial (LfRd.below b5 _ _ (LfIn.rd _ _ _ hza)) HA.out.1 HA.out.2 (LfIn.rd _ _ _ hzb) HA.out.1 HA.out.2).mono (R' := fun e w' => e = .returned (.bool true) ∧ Below w5.heap.size w5 w') fun e w' h => by simpa using h)
    clear hza hzb
    refine ⟨⟨d0, d1, d2⟩, ?_⟩
    refine ord_ev (by rw [hops.out]; kernel_rfl) ?_
    go_simp
    refine (E.out).mono ?_
    rintro e w6 ⟨rfl, b6⟩
    have b6X := b5X.trans (b6.mono b5X.size)
    clear d0 d1 d2
    obtain ⟨⟨d0, d1, d2⟩, -⟩ := blk_3c (HV.out w6 b6X).2.2
    refine ⟨⟨d0, d1, d2⟩, ?_⟩
    iterate 1 (refine ord_flo ?_ (fun _ _ _ h => h) (by rw [hops.out]; kernel_rfl) ?_ ⟨d0, d1, d2⟩ ?_; rotate_left; focus (intro W hS; obtain ⟨s0, s1, s2⟩ := hS; go_simp; rfl))
    iterate 1 (refine ord_flo ?_ (fun _ _ _ h => h) rfl ?_ ⟨d0, d1, d2⟩ ?_; rotate_left; focus (intro W hS; obtain ⟨s0, s1, s2⟩ := hS; go_simp; rfl))
    refine ord_done ?_
    go_simp
    clear CI BS E b1X b2X b3X b4X b5X b2 b3 b4 b5 b6
    go_wp2_with fail
    refine (CS.out w6 b6X).mono ?_
    rintro e w7 ⟨rfl, b7⟩
    have b7X := b6X.trans (b7.mono b6X.size)
    clear CS d0 d1 d2 b6X b7
    by_cases h0 : n < 0
    case pos =>
      obtain rfl : A = [] := by rw [← HAA.out]; exact at_neg h0
      replace b7X := b7X.drew
      obtain ⟨⟨d0, d1, d2⟩, -⟩ := blk_3c (HV.out _ b7X).2.2
      go_wp2
      refine ord_start [(0, true), (1, true), (2, true), (3, true), (4, true), (5, false), (6, true), (7, true), (8, true), (9, true), (10, true), (11, true), (12, true), (13, true), (14, true), (15, true), (16, true), (17, true), (19, true), (20, true), (18, false), (21, false), (22, true), (23, true), (24, true)] (fun W => W.cell? ⟨m, 0, none⟩ = some (.slice p0 x.boxes.length c0) ∧ W.cell? ⟨m, 1, none⟩ = some (.slice p1 x.log.length c1) ∧ W.cell? ⟨m, 2, none⟩ = some (.int .i64 x.given)) (by kernel_rfl) (by kernel_rfl) rfl (by kernel_rfl) ?_
      intro ops' hops
      simp only [List.map_cons, List.map_nil, pickOp_zero, pickOp_succ]
      iterate 1 (refine ord_flo ?_ (fun _ _ _ h => h) rfl ?_ ⟨d0, d1, d2⟩ ?_; rotate_left; focus (intro W hS; obtain ⟨s0, s1, s2⟩ := hS; go_simp; rfl))
      refine ord_flo (.bool true) (fun _ _ _ h => h) (by rw [hops.out]; kernel_rfl) ?_ ⟨d0, d1, d2⟩ ?_
      · intro W hS
        obtain ⟨s0, s1, s2⟩ := hS
        go_simp <;> omega
      iterate 1 (refine ord_flo ?_ (fun _ _ _ h => h) rfl ?_ ⟨d0, d1, d2⟩ ?_; rotate_left; focus (intro W hS; obtain ⟨s0, s1, s2⟩ := hS; go_simp; rfl))
      iterate 2 (refine ord_flo ?_ (fun _ _ _ h => h) (by rw [hops.out]; kernel_rfl) ?_ ⟨d0, d1, d2⟩ ?_; rotate_left; focus (intro W hS; obtain ⟨s0, s1, s2⟩ := hS; go_simp; rfl))
      refine ord_ev (by rw [hops.out]; kernel_rfl) ?_
      go_simp
      refine (BI.out _ b7X).mono ?_
      rintro e w8 ⟨za, fa, rfl, hza, -, -, b8⟩
      obtain ⟨pa, ca, rfl⟩ := LfIn.slice hza
      clear hza
      have b8X := b7X.trans (b8.mono b7X.size)
      clear d0 d1 d2
      obtain ⟨⟨d0, d1, d2⟩, -⟩ := blk_3c (HV.out w8 b8X).2.2
      refine ⟨⟨d0, d1, d2⟩, ?_⟩
      iterate 2 (refine ord_flo ?_ (fun _ _ _ h => h) (by rw [hops.out]; kernel_rfl) ?_ ⟨d0, d1, d2⟩ ?_; rotate_left; focus (intro W hS; obtain ⟨s0, s1, s2⟩ := hS; go_simp; rfl))
      iterate 2 (refine ord_flo ?_ (fun _ _ _ h => h) rfl ?_ ⟨d0, d1, d2⟩ ?_; rotate_left; focus (intro W hS; obtain ⟨s0, s1, s2⟩ := hS; go_simp; rfl))
      iterate 10 (refine ord_not (fun _ _ _ h => h) (by rw [hops.out]; kernel_rfl) ⟨d0, d1, d2⟩ ?_)
      refine ord_evnot ⟨d0, d1, d2⟩ (by rw [hops.out]; kernel_rfl) ?_
      refine ord_evnot ⟨d0, d1, d2⟩ (by rw [hops.out]; kernel_rfl) ?_
      iterate 1 (refine ord_not (fun _ _ _ h => h) (by rw [hops.out]; kernel_rfl) ⟨d0, d1, d2⟩ ?_)
      iterate 2 (refine ord_flo ?_ (fun _ _ _ h => h) rfl ?_ ⟨d0, d1, d2⟩ ?_; rotate_left; focus (intro W hS; obtain ⟨s0, s1, s2⟩ := hS; go_simp; rfl))
      refine ord_done ?_
      go_simp
      clear d0 d1 d2 BI b7X
      have hfin := HBW.out.trans (b8X.mono HBW.out.size)
      clear b8X b8
      go_wp2
      go_ret
      exact ⟨rfl, hfin⟩
    by_cases hge : (x.log.length : Int) ≤ n
    case pos =>
      obtain rfl : A = x.boxes := by rw [← HAA.out]; exact at_all HT.out hge
      obtain ⟨⟨-, e1, -⟩, -⟩ := blk_3c (HV.out _ b7X).2.2
      replace b7X := b7X.drew
      obtain ⟨⟨d0, d1, d2⟩, -⟩ := blk_3c (HV.out _ b7X).2.2
      have hge2 : n ≥ (x.log.length : Int) := hge
      go_wp2
      clear e1
      refine ord_start [(0, true), (1, true), (2, true), (3, true), (4, true), (5, false), (6, true), (7, true), (8, true), (9, true), (10, true), (11, true), (12, true), (13, true), (14, true), (15, true), (16, true), (17, true), (19, true), (20, true), (18, false), (21, false), (22, true), (23, true), (24, true)] (fun W => W.cell? ⟨m, 0, none⟩ = some (.slice p0 x.boxes.length c0) ∧ W.cell? ⟨m, 1, none⟩ = some (.slice p1 x.log.length c1) ∧ W.cell? ⟨m, 2, none⟩ = some (.int .i64 x.given)) (by kernel_rfl) (by kernel_rfl) rfl (by kernel_rfl) ?_
      intro ops' hops
      simp only [List.map_cons, List.map_nil, pickOp_zero, pickOp_succ]
      iterate 1 (refine ord_flo ?_ (fun _ _ _ h => h) rfl ?_ ⟨d0, d1, d2⟩ ?_; rotate_left; focus (intro W hS; obtain ⟨s0, s1, s2⟩ := hS; go_simp; rfl))
      refine ord_flo (.bool false) (fun _ _ _ h => h) (by rw [hops.out]; kernel_rfl) ?_ ⟨d0, d1, d2⟩ ?_
      · intro W hS
        obtain ⟨s0, s1, s2⟩ := hS
        go_simp <;> omega
      iterate 1 (refine ord_flo ?_ (fun _ _ _ h => h) rfl ?_ ⟨d0, d1, d2⟩ ?_; rotate_left; focus (intro W hS; obtain ⟨s0, s1, s2⟩ := hS; go_simp; rfl))
      iterate 2 (refine ord_not (fun _ _ _ h => h) (by rw [hops.out]; kernel_rfl) ⟨d0, d1, d2⟩ ?_)
      refine ord_evnot ⟨d0, d1, d2⟩ (by rw [hops.out]; kernel_rfl) ?_
      iterate 2 (refine ord_not (fun _ _ _ h => h) (by rw [hops.out]; kernel_rfl) ⟨d0, d1, d2⟩ ?_)
      iterate 2 (refine ord_flo ?_ (fun _ _ _ h => h) rfl ?_ ⟨d0, d1, d2⟩ ?_; rotate_left; focus (intro W hS; obtain ⟨s0, s1, s2⟩ := hS; go_simp; rfl))
      iterate 4 (refine ord_flo ?_ (fun _ _ _ h => h) (by rw [hops.out]; kernel_rfl) ?_ ⟨d0, d1, d2⟩ ?_; rotate_left; focus (intro W hS; obtain ⟨s0, s1, s2⟩ := hS; go_simp; rfl))
      refine ord_flo (.bool true) (fun _ _ _ h => h) (by rw [hops.out]; kernel_rfl) ?_ ⟨d0, d1, d2⟩ ?_
      · intro W hS
        obtain ⟨s0, s1, s2⟩ := hS
        go_simp <;> omega
      iterate 5 (refine ord_flo ?_ (fun _ _ _ h => h) (by rw [hops.out]; kernel_rfl) ?_ ⟨d0, d1, d2⟩ ?_; rotate_left; focus (intro W hS; obtain ⟨s0, s1, s2⟩ := hS; go_simp; rfl))
      refine ord_ev (by rw [hops.out]; kernel_rfl) ?_
      go_simp
      refine (BI.out _ b7X).mono ?_
      rintro e w8 ⟨za, fa, rfl, hza, -, -, b8⟩
      obtain ⟨pa, ca, rfl⟩ := LfIn.slice hza
      have b8X := b7X.trans (b8.mono b7X.size)
      clear d0 d1 d2
      obtain ⟨⟨d0, d1, d2⟩, -⟩ := blk_3c (HV.out w8 b8X).2.2
      have E := Lib.hid ((specSameBoxes_c x.boxes (.slice pa x.boxes.length ca) x.boxes (.slice p0 x.boxes.length c0) w8 trivial (LfIn.rd _ _ _ hza) HA.out.1 HA.out.2 (HV.out w8 b8X).1.1 HA.out.1 HA.out.2).mono (R' := fun e w' => e = .returned (.bool true) ∧ Below w8.heap.size w8 w') fun e w' h => by simpa using h)
      clear hza
      refine ⟨⟨d0, d1, d2⟩, ?_⟩
      refine ord_ev (by rw [hops.out]; kernel_rfl) ?_
      go_simp
      refine (E.out).mono ?_
      rintro e w9 ⟨rfl, b9⟩
      have b9X := b8X.trans (b9.mono b8X.size)
      clear d0 d1 d2
      obtain ⟨⟨d0, d1, d2⟩, -⟩ := blk_3c (HV.out w9 b9X).2.2
      refine ⟨⟨d0, d1, d2⟩, ?_⟩
      iterate 1 (refine ord_flo ?_ (fun _ _ _ h => h) (by rw [hops.out]; kernel_rfl) ?_ ⟨d0, d1, d2⟩ ?_; rotate_left; focus (intro W hS; obtain ⟨s0, s1, s2⟩ := hS; go_simp; rfl))
      iterate 2 (refine ord_flo ?_ (fun _ _ _ h => h) rfl ?_ ⟨d0, d1, d2⟩ ?_; rotate_left; focus (intro W hS; obtain ⟨s0, s1, s2⟩ := hS; go_simp; rfl))
      refine ord_done ?_
      go_simp
      clear d0 d1 d2 BI E b7X b8X b8
      have hfin := HBW.out.trans (b9X.mono HBW.out.size)
      clear b9X b9
      go_wp2
      go_ret
      exact ⟨rfl, hfin⟩
    obtain ⟨k, rfl⟩ : ∃ k : Nat, n = (k : Int) := ⟨n.toNat, by omega⟩
    have hkl : k < x.log.length := by omega
    obtain ⟨y, hy⟩ : ∃ y, x.log[k]? = some y := ⟨_, List.getElem?_eq_getElem hkl⟩
    have HY := Lib.hid ((HM.out.2.1.2 y (List.mem_of_getElem? hy)).fine)
    obtain ⟨A2, hA2⟩ : ∃ A2, atL x.log ((k : Int) + 1) = A2 := ⟨_, rfl⟩
    have HA2 := Lib.hid (show szLf (boxsLf A2) ≤ 1048576 ∧ LfBnd (boxsLf A2) from hA2 ▸ right_small (all_right0 _))
    have HAP := Lib.hid (show appB A y = true ∧ doneL A y = A2 by rw [← HAA.out, ← hA2]; exact at_next hy (store_parts HT.out).2.2.2.1)
    have BK := Lib.hid (fun W g => (BI0.out ((k : Int) + 1) ⟨by omega, by have := HM.out.2.1.1; omega⟩ W g).mono (R' := fun e w' => ∃ z0 f0, e = .returned z0 ∧ LfIn w' (boxsLf A2) z0 f0 ∧ f0.Nodup ∧ (∀ q ∈ f0, W.heap.size ≤ q) ∧ Below W.heap.size W w') fun e w' h => by rw [hA2] at h; exact h)
    have hwr : IntKind.i64.wrap ((k : Int) + 1) = (k : Int) + 1 := IntWalk.i64_in _ (by have := HM.out.2.1.1; omega)
    obtain ⟨b, off, rfl⟩ : ∃ b off, p1 = some ⟨b, off, none⟩ := by
      obtain ⟨p', c', he, hd⟩ := ComD.at (HV.out w7 b7X).1.2.2.1
      injection he with he
      subst he
      rcases hd with hd | ⟨b, off, hb, -⟩
      · rw [hd] at hkl; cases hkl
      · exact ⟨b, off, hb⟩
    have HRW := Lib.hid (show ∀ W, Below D.heap.size D W → W.cell? ⟨b, off + k * 6, none⟩ = some (.int .i64 y.kind) ∧ W.cell? ⟨b, off + k * 6 + 1, none⟩ = some (.int .i64 y.validity) ∧ W.cell? ⟨b, off + k * 6 + 2, none⟩ = some (.int .i64 y.uid) ∧ W.cell? ⟨b, off + k * 6 + 3, none⟩ = some (.int .i64 y.flags) ∧ W.cell? ⟨b, off + k * 6 + 4, none⟩ = some (sv y.name) ∧ W.cell? ⟨b, off + k * 6 + 5, none⟩ = some (sv y.text) from fun W g => by
      obtain ⟨p', c', he, hd⟩ := ComD.at (HV.out W g).1.2.2.1
      injection he with he
      subst he
      rcases hd with hd | ⟨b', off', hb, -, hc⟩
      · rw [hd] at hkl; cases hkl
      · injection hb with hb
        injection hb with e1 e2
        subst e1 e2
        exact hc k y hy)
    have HHL := Lib.hid hkl
    clear hA2 hy
    obtain ⟨⟨-, e1, -⟩, -⟩ := blk_3c (HV.out _ b7X).2.2
    replace b7X := b7X.drew
    obtain ⟨⟨d0, d1, d2⟩, -⟩ := blk_3c (HV.out _ b7X).2.2
    obtain ⟨r0, r1, r2, r3, r4, r5⟩ := HRW.out _ b7X
    go_wp2
    clear e1
    refine ord_start [(0, true), (1, true), (3, true), (4, true), (5, true), (6, true), (7, true), (2, false), (8, false), (9, true), (10, true), (11, true), (12, true), (13, true)] (fun W => W.cell? ⟨m, 0, none⟩ = some (.slice p0 x.boxes.length c0) ∧ W.cell? ⟨m, 1, none⟩ = some (.slice (some ⟨b, off, none⟩) x.log.length c1) ∧ W.cell? ⟨m, 2, none⟩ = some (.int .i64 x.given) ∧ W.cell? ⟨b, off + k * 6, none⟩ = some (.int .i64 y.kind) ∧ W.cell? ⟨b, off + k * 6 + 1, none⟩ = some (.int .i64 y.validity) ∧ W.cell? ⟨b, off + k * 6 + 2, none⟩ = some (.int .i64 y.uid) ∧ W.cell? ⟨b, off + k * 6 + 3, none⟩ = some (.int .i64 y.flags) ∧ W.cell? ⟨b, off + k * 6 + 4, none⟩ = some (sv y.name) ∧ W.cell? ⟨b, off + k * 6 + 5, none⟩ = some (sv y.text)) (by kernel_rfl) (by kernel_rfl) rfl (by kernel_rfl) ?_
    intro ops' hops
    clear hops
    simp only [List.map_cons, List.map_nil, pickOp_zero, pickOp_succ]
    iterate 5 (refine ord_flo ?_ (fun _ _ _ h => h) rfl ?_ ⟨d0, d1, d2, r0, r1, r2, r3, r4, r5⟩ ?_; rotate_left; focus (intro W hS; obtain ⟨s0, s1, s2, u0, u1, u2, u3, u4, u5⟩ := hS; go_simp; rfl))
    refine ord_flo (.pointer (some ⟨b, off + k * 6, none⟩)) (fun _ _ _ h => h) rfl ?_ ⟨d0, d1, d2, r0, r1, r2, r3, r4, r5⟩ ?_
    · intro W hS
      obtain ⟨s0, s1, s2, u0, u1, u2, u3, u4, u5⟩ := hS
      (go_simp; try (intro h; omega))
    iterate 1 (refine ord_flo ?_ (fun _ _ _ h => h) rfl ?_ ⟨d0, d1, d2, r0, r1, r2, r3, r4, r5⟩ ?_; rotate_left; focus (intro W hS; obtain ⟨s0, s1, s2, u0, u1, u2, u3, u4, u5⟩ := hS; go_simp; rfl))
    refine ord_ev rfl ?_
    go_simp
    refine (BI.out _ b7X).mono ?_
    rintro e w8 ⟨za, fa, rfl, hza, -, -, b8⟩
    obtain ⟨pa, ca, rfl⟩ := LfIn.slice hza
    have b8X := b7X.trans (b8.mono b7X.size)
    clear d0 d1 d2 r0 r1 r2 r3 r4 r5
    obtain ⟨⟨d0, d1, d2⟩, -⟩ := blk_3c (HV.out w8 b8X).2.2
    obtain ⟨r0, r1, r2, r3, r4, r5⟩ := HRW.out w8 b8X
    have CA := Lib.hid ((implApplied_c A (.slice pa A.length ca) y w8 (HV.out w8 b8X).2.1 (LfIn.rd _ _ _ hza) (CapLe.of_in hza) HA.out.1 HA.out.2 HY.out.1 HY.out.2).mono (R' := fun e w' => ∃ z0 f0, e = .returned (.tuple #[z0, .bool true]) ∧ LfIn w' (boxsLf A2) z0 f0 ∧ f0.Nodup ∧ (∀ q ∈ f0, w8.heap.size ≤ q) ∧ Below w8.heap.size w8 w') fun e w' h => by rw [applied_yes HAP.out.1, HAP.out.1, HAP.out.2] at h; exact h)
    clear hza
    refine ⟨⟨d0, d1, d2, r0, r1, r2, r3, r4, r5⟩, ?_⟩
    refine ord_ev rfl ?_
    go_simp
    refine (CA.out).mono ?_
    rintro e w9 ⟨zc, fc, rfl, hzc, -, -, b9⟩
    obtain ⟨pc, cc, rfl⟩ := LfIn.slice hzc
    have b9X := b8X.trans (b9.mono b8X.size)
    clear d0 d1 d2 r0 r1 r2 r3 r4 r5
    obtain ⟨⟨d0, d1, d2⟩, -⟩ := blk_3c (HV.out w9 b9X).2.2
    obtain ⟨r0, r1, r2, r3, r4, r5⟩ := HRW.out w9 b9X
    refine ⟨⟨d0, d1, d2, r0, r1, r2, r3, r4, r5⟩, ?_⟩
    iterate 5 (refine ord_flo ?_ (fun _ _ _ h => h) rfl ?_ ⟨d0, d1, d2, r0, r1, r2, r3, r4, r5⟩ ?_; rotate_left; focus (intro W hS; obtain ⟨s0, s1, s2, u0, u1, u2, u3, u4, u5⟩ := hS; go_simp; rfl))
    refine ord_done ?_
    go_simp
    clear r0 r1 r2 r3 r4 r5 BI CA b7X b8X b8
    go_wp2_with fail
    refine (BK.out w9 b9X).mono ?_
    rintro e w10 ⟨zd, fd, rfl, hzd, -, -, b10⟩
    obtain ⟨pd, cd, rfl⟩ := LfIn.slice hzd
    have b10X := b9X.trans (b10.mono b9X.size)
    have E := Lib.hid ((specSameBoxes_c A2 (.slice pc A2.length cc) A2 (.slice pd A2.length cd) w10 trivial (LfRd.below b10 _ _ (LfIn.rd _ _ _ hzc)) HA2.out.1 HA2.out.2 (LfIn.rd _ _ _ hzd) HA2.out.1 HA2.out.2).mono (R' := fun e w' => e = .returned (.bool true) ∧ Below w10.heap.size w10 w') fun e w' h => by simpa using h)
    clear hzc hzd BK d0 d1 d2 b9X b10 b9
    go_wp2_with fail
    refine E.out.mono ?_
    rintro e w11 ⟨rfl, b11⟩
    have hfin := HBW.out.trans ((b10X.trans (b11.mono b10X.size)).mono HBW.out.size)
    clear E b10X b11
    go_wp2
    go_ret
    exact ⟨rfl, hfin⟩

end Go.Proofs.YtbfgdbpfecffcaaGreatDoor
