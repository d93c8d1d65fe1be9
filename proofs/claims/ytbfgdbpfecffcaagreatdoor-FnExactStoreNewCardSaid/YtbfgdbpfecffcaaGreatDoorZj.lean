/-
  Zj: StoP (what the claim needs of them).
-/
import Derived.Maps.OwnIn
import Derived.Sort.KeysCollected
import Derived.RangeFuncNested
import Derived.RangeFuncLeaves
import Derived.RangeFuncWrites
import Derived.WalkKit
import Derived.OwnWalkIn
import Derived.TacticsInMore
import Derived.LoopNIn
import Derived.LoopIn
import Derived.Maps.OwnSet
import Derived.Maps.RangeWalk
import Derived.Sort.OwnSorted
import Derived.Sort.EveryDepth
import Derived.Deep.DeepCutAuto
import Derived.Handy
import Derived.Lib.SliceRun
import Derived.Test.YtbfgdbpfecffcaaGreatDoorRows
import Derived.WalkSpells
import Derived.WalkLawsBesides
import Derived.Laws.IdiomStrings
import Derived.Lib.Hide
import Derived.Deep.AppendLies
import Derived.OrdersHeld
import Derived.Lib.ItoaNum
import Derived.Lib.ItoaMem
import Derived.Lib.AppendStr
import Derived.Lib.ItoaLen
import Derived.Lib.Strings
import Derived.Lib.Bytealg
import Derived.Lib.OthersKept
import Derived.Laws.RangeAny
import Derived.Laws.BitsAllLaws
import Derived.Laws.BitsLemmas
import Derived.IntWalk
import Derived.LaidEql
import Derived.Stop.Asserts
import Derived.RowKitTokens
import Derived.Lib.Join
import Derived.Deep.Strs
import Derived.Test.YtbfgdbpfecffcaaGreatDoorProg
import Derived.Laws.Tables
import Derived.Test.YtbfgdbpfecffcaaGreatDoorYb
import Derived.Test.YtbfgdbpfecffcaaGreatDoorYc
import Derived.Test.YtbfgdbpfecffcaaGreatDoorYd
import Derived.Test.YtbfgdbpfecffcaaGreatDoorYe
import Derived.Test.YtbfgdbpfecffcaaGreatDoorYf
import Derived.Test.YtbfgdbpfecffcaaGreatDoorYk
import Derived.Test.YtbfgdbpfecffcaaGreatDoorYm
import Derived.Test.YtbfgdbpfecffcaaGreatDoorYp
import Derived.Test.YtbfgdbpfecffcaaGreatDoorYq
import Derived.Test.YtbfgdbpfecffcaaGreatDoorYr
import Derived.Test.YtbfgdbpfecffcaaGreatDoorYs
import Derived.Test.YtbfgdbpfecffcaaGreatDoorYu
import Derived.Test.YtbfgdbpfecffcaaGreatDoorYy
import Derived.Test.YtbfgdbpfecffcaaGreatDoorYz
import Derived.Test.YtbfgdbpfecffcaaGreatDoorZa
import Derived.Test.YtbfgdbpfecffcaaGreatDoorZb
import Derived.Test.YtbfgdbpfecffcaaGreatDoorZc
import Derived.Test.YtbfgdbpfecffcaaGreatDoorZd
import Derived.Test.YtbfgdbpfecffcaaGreatDoorZi

namespace Go.Proofs.YtbfgdbpfecffcaaGreatDoor
open Go.RowKit

theorem DraftS.down {B b : Nat} {er : Addr} {W : World} {x : StoD} {v lgv : Value} {ps : List BP} (h : DraftS B b er W x v lgv ps) : StoOwn B W x v lgv := by
  have ht := h.held.own.tree
  rw [h.box] at ht
  exact StoOwn.mk' ht h.log
set_option maxRecDepth 20000 in
set_option maxHeartbeats 6400000 in
theorem implCommitted_any (x : StoD) (r0 r1 : Value) (m : ComD) (er : Addr) (w : World) (he : ErrAt w er) (hr0 : LfRd w (boxsLf x.boxes) r0) (hcap : CapLe r0) (hr1 : LfRd w (commitsLf x.log) r1) (hs : szLs x.lf ≤ 1048576) (hbd : LsBnd x.lf) (hs2 : szLs m.lf ≤ 1048576) (hbd2 : LsBnd m.lf) :
    Calls Tryz.prog 37 #[.agg #[r0, r1, .int .i64 x.given], .agg #[.int .i64 m.kind, .int .i64 m.validity, .int .i64 m.uid, .int .i64 m.flags, sv m.name, sv m.text]] w fun e w' => ComPost x m w e w' := by
  obtain ⟨⟨hs0, hbd0⟩, ⟨hs1, hbd1⟩, _⟩ := sto_small hs hbd
  obtain ⟨hl, _, _, hsl⟩ := boxes_small hs0 hbd0
  obtain ⟨hlg, _⟩ := coms_small hs1 hbd1
  have hgw : 0 < w.heap.size := World.block_lt_of_cell? _ _ he
  have HE := Lib.hid (fun W (g : Below w.heap.size w W) => ((g.cell (p := ⟨0, 0, none⟩) hgw).trans he : ErrAt W er))
  have CD := Lib.hid (fun W (g : Below w.heap.size w W) => draftOf_any x r0 r1 W (LfRd.below g _ _ hr0) (LfRd.below g _ _ hr1) hl (box_msgs hsl) hlg)
  have CB := Lib.hid (fun W (g : Below w.heap.size w W) => implBoxesOk_c (G := fun _ => True) x.boxes r0 W trivial (LfRd.below g _ _ hr0) hcap hs0 hbd0)
  have CM := Lib.hid (fun b v lgv ps W (h : DraftS (w.heap.size + 3) b er W x v lgv ps) (hr : boxesB x.boxes = true) => commit_any (w.heap.size + 3) b er x v lgv ps m W h hr hlg hs2 hbd2)
  obtain ⟨p0, c0, rfl⟩ := LfRd.slice hr0
  obtain ⟨p1, c1, rfl⟩ := LfRd.slice hr1
  have b3 : Below w.heap.size w (((w.alloc (.cells #[.slice p0 x.boxes.length c0, .slice p1 x.log.length c1, .int .i64 x.given] 46)).alloc (.cells #[.int .i64 m.kind, .int .i64 m.validity, .int .i64 m.uid, .int .i64 m.flags, sv m.name, sv m.text] 26)).alloc (.cells #[.slice none 0 0, .slice none 0 0, .int .i64 0] 46)) := (((Below.refl _ _).alloc (Nat.le_refl _) _).alloc (by simp) _).alloc (by simp; omega) _
  have n1 : (((w.alloc (.cells #[.slice p0 x.boxes.length c0, .slice p1 x.log.length c1, .int .i64 x.given] 46)).alloc (.cells #[.int .i64 m.kind, .int .i64 m.validity, .int .i64 m.uid, .int .i64 m.flags, sv m.name, sv m.text] 26)).alloc (.cells #[.slice none 0 0, .slice none 0 0, .int .i64 0] 46)).heap[w.heap.size]? = some (.cells #[.slice p0 x.boxes.length c0, .slice p1 x.log.length c1, .int .i64 x.given] 46 (0, 0)) := (Below.heap_alloc _ _ _ (by simp; omega)).trans ((Below.heap_alloc _ _ _ (by simp)).trans (heap_alloc_new w _))
  have n2 : (((w.alloc (.cells #[.slice p0 x.boxes.length c0, .slice p1 x.log.length c1, .int .i64 x.given] 46)).alloc (.cells #[.int .i64 m.kind, .int .i64 m.validity, .int .i64 m.uid, .int .i64 m.flags, sv m.name, sv m.text] 26)).alloc (.cells #[.slice none 0 0, .slice none 0 0, .int .i64 0] 46)).heap[w.heap.size + 1]? = some (.cells #[.int .i64 m.kind, .int .i64 m.validity, .int .i64 m.uid, .int .i64 m.flags, sv m.name, sv m.text] 26 (0, 0)) := by
    refine (Below.heap_alloc _ _ _ (by simp)).trans ?_
    have := heap_alloc_new (w.alloc (.cells #[.slice p0 x.boxes.length c0, .slice p1 x.log.length c1, .int .i64 x.given] 46)) (.cells #[.int .i64 m.kind, .int .i64 m.validity, .int .i64 m.uid, .int .i64 m.flags, sv m.name, sv m.text] 26)
    rwa [World.size_alloc] at this
  have n3 : (((w.alloc (.cells #[.slice p0 x.boxes.length c0, .slice p1 x.log.length c1, .int .i64 x.given] 46)).alloc (.cells #[.int .i64 m.kind, .int .i64 m.validity, .int .i64 m.uid, .int .i64 m.flags, sv m.name, sv m.text] 26)).alloc (.cells #[.slice none 0 0, .slice none 0 0, .int .i64 0] 46)).heap[w.heap.size + 2]? = some (.cells #[.slice none 0 0, .slice none 0 0, .int .i64 0] 46 (0, 0)) := by
    have := heap_alloc_new ((w.alloc (.cells #[.slice p0 x.boxes.length c0, .slice p1 x.log.length c1, .int .i64 x.given] 46)).alloc (.cells #[.int .i64 m.kind, .int .i64 m.validity, .int .i64 m.uid, .int .i64 m.flags, sv m.name, sv m.text] 26)) (.cells #[.slice none 0 0, .slice none 0 0, .int .i64 0] 46)
    simpa using this
  have hz3 : (((w.alloc (.cells #[.slice p0 x.boxes.length c0, .slice p1 x.log.length c1, .int .i64 x.given] 46)).alloc (.cells #[.int .i64 m.kind, .int .i64 m.validity, .int .i64 m.uid, .int .i64 m.flags, sv m.name, sv m.text] 26)).alloc (.cells #[.slice none 0 0, .slice none 0 0, .int .i64 0] 46)).heap.size = w.heap.size + 3 := by simp
  obtain ⟨X, hX⟩ : ∃ X, (((w.alloc (.cells #[.slice p0 x.boxes.length c0, .slice p1 x.log.length c1, .int .i64 x.given] 46)).alloc (.cells #[.int .i64 m.kind, .int .i64 m.validity, .int .i64 m.uid, .int .i64 m.flags, sv m.name, sv m.text] 26)).alloc (.cells #[.slice none 0 0, .slice none 0 0, .int .i64 0] 46)) = X := ⟨_, rfl⟩
  rw [hX] at b3 n1 n2 n3 hz3
  have HX := Lib.hid (And.intro b3 (And.intro n1 (And.intro n2 (And.intro n3 hz3))))
  clear b3 n1 n2 n3 hz3 hr0 hr1 hcap hs hbd hs2 hbd2 hs0 hbd0 hs1 hbd1 hl hsl he hlg
  obtain ⟨⟨a0, a1, a2⟩, -⟩ := blk_3c HX.out.2.1
  go_enter Tryz.func37, Tryz.ntmps37
  go_wp2_with fail
  refine (CD.out _ HX.out.1).mono ?_
  rintro e w3 ⟨v, ps, lgv, rfl, hbx, hO, hlg, hb3⟩
  obtain ⟨pv, cv, hvv⟩ := LfIn.slice hO.tree.is
  rw [List.length_map] at hvv
  subst hvv
  obtain ⟨pl, cl, rfl, -⟩ := own9_form hlg
  have hzX := HX.out.2.2.2.2
  have hb1 := (Below.refl w3.heap.size w3).alloc (Nat.le_refl _) (.cells #[.slice pv ps.length cv, .slice pl x.log.length cl, .int .i64 x.given] 108)
  have n4 := heap_alloc_new w3 (.cells #[.slice pv ps.length cv, .slice pl x.log.length cl, .int .i64 x.given] 108)
  obtain ⟨w4, hw4⟩ : ∃ w4, w3.alloc (.cells #[.slice pv ps.length cv, .slice pl x.log.length cl, .int .i64 x.given] 108) = w4 := ⟨_, rfl⟩
  rw [hw4] at hb1 n4
  have hb4 : Below X.heap.size X w4 := hb3.trans (hb1.mono hb3.size)
  have H4 := Lib.hid (show DraftS (w.heap.size + 3) w3.heap.size er w4 x (.slice pv ps.length cv) (.slice pl x.log.length cl) ps ∧ Below w.heap.size w w4 ∧ w4.heap[w.heap.size]? = some (.cells #[.slice p0 x.boxes.length c0, .slice p1 x.log.length c1, .int .i64 x.given] 46 (0, 0)) ∧ w4.heap[w.heap.size + 1]? = some (.cells #[.int .i64 m.kind, .int .i64 m.validity, .int .i64 m.uid, .int .i64 m.flags, sv m.name, sv m.text] 26 (0, 0)) ∧ w4.heap[w.heap.size + 2]? = some (.cells #[.slice none 0 0, .slice none 0 0, .int .i64 0] 46 (0, 0)) from
    ⟨⟨⟨(hO.below hb1).lower (by omega), n4, rfl, by decide, by decide, HE.out _ (HX.out.1.trans (hb4.mono HX.out.1.size)), by have := hb3.size; omega, by omega⟩, hbx, own9_lower (ownsRow_below hlg hb1) (by omega)⟩, HX.out.1.trans (hb4.mono HX.out.1.size), (hb4.block _ (by omega)).trans HX.out.2.1, (hb4.block _ (by omega)).trans HX.out.2.2.1, (hb4.block _ (by omega)).trans HX.out.2.2.2.1⟩)
  clear hO hb3 hb1 n4 hb4 a0 a1 a2 CD hlg hzX hbx
  obtain ⟨⟨a0, a1, a2⟩, -⟩ := blk_3c H4.out.2.2.1
  go_wp2_with fail
  refine (CB.out _ H4.out.2.1).mono ?_
  rintro e w5 ⟨rfl, b5⟩
  have H5 := Lib.hid (H4.out.1.dunder b5)
  have HB5 := Lib.hid (H4.out.2.1.trans (b5.mono H4.out.2.1.size))
  have HM5 := Lib.hid ((b5.block _ (Array.getElem?_eq_some_iff.1 H4.out.2.2.2.1).1).trans H4.out.2.2.2.1)
  have HR5 := Lib.hid ((b5.block _ (Array.getElem?_eq_some_iff.1 H4.out.2.2.2.2).1).trans H4.out.2.2.2.2)
  clear a0 a1 a2 b5 CB H4 HX hX hw4
  cases hb : boxesB x.boxes with
  | false =>
    have HS := Lib.hid (stor_1 (m := m) (app_no1 hb))
    clear hb
    have hpl : ps.length = x.boxes.length := by have := congrArg List.length H5.out.box; simpa using this
    rw [hpl] at H5 ⊢
    have CT := Lib.hid (storeOf_any _ _ er _ _ _ _ _ H5.out)
    go_wp2_with fail
    refine CT.out.mono ?_
    rintro e w7 ⟨rfl, b7⟩
    have hrb : w7.heap[w.heap.size + 2]? = some (.cells #[.slice none 0 0, .slice none 0 0, .int .i64 0] 46 (0, 0)) := (b7.block _ (by have := (Array.getElem?_eq_some_iff.1 HR5.out).1; omega)).trans HR5.out
    obtain ⟨⟨q0, q1, q2⟩, ⟨y0, y1, y2⟩, t0, t1, t2⟩ := blk_3c hrb
    have HF := Lib.hid (show ∀ a b c : Value, StoOwn w.heap.size (((w7.setCell ⟨w.heap.size + 2, 0, none⟩ a).setCell ⟨w.heap.size + 2, 1, none⟩ b).setCell ⟨w.heap.size + 2, 2, none⟩ c) x (.slice pv x.boxes.length cv) (.slice pl x.log.length cl) ∧ Below w.heap.size w (((w7.setCell ⟨w.heap.size + 2, 0, none⟩ a).setCell ⟨w.heap.size + 2, 1, none⟩ b).setCell ⟨w.heap.size + 2, 2, none⟩ c) from fun a b c =>
      ⟨(((((H5.out.down.below b7).set (by omega)).set (by omega)).set (by omega)).lower (by omega)), ((((HB5.out.trans (b7.mono HB5.out.size)).setCell (by simp) _).setCell (by simp) _).setCell (by simp) _)⟩)
    clear b7 hrb CT
    go_wp2_with fail
    exact bodyPost_ret (v := .tuple #[.agg #[.slice pv x.boxes.length cv, .slice pl x.log.length cl, .int .i64 x.given], .bool false]) (by simp [results, Tryz.results37, go_sem, t0, t1, t2]) rfl (com_no HS.out (HF.out _ _ _).1 (HF.out _ _ _).2)
  | true =>
    obtain ⟨⟨m0, m1, m2, m3, m4, m5⟩, -⟩ := com6 HM5.out
    go_wp2_with fail
    refine (CM.out _ _ _ _ _ H5.out hb).mono ?_
    rintro e w6 ⟨v', lgv', ps', rfl, hD, hb6⟩
    have H6 := Lib.hid hD
    have HB6 := Lib.hid (HB5.out.trans (hb6.mono (by omega)))
    have HR6 := Lib.hid ((hb6.block _ (by omega)).trans HR5.out)
    clear m0 m1 m2 m3 m4 m5 hD hb6 CM hb H5 HB5 HR5 HM5
    obtain ⟨pv, cv, pl, cl, rfl, rfl⟩ := H6.out.down.slices
    have CT := Lib.hid (storeOf_any _ _ er _ _ _ _ _ H6.out)
    go_wp2_with fail
    refine CT.out.mono ?_
    rintro e w7 ⟨rfl, b7⟩
    have hrb : w7.heap[w.heap.size + 2]? = some (.cells #[.slice none 0 0, .slice none 0 0, .int .i64 0] 46 (0, 0)) := (b7.block _ (by have := (Array.getElem?_eq_some_iff.1 HR6.out).1; omega)).trans HR6.out
    obtain ⟨⟨q0, q1, q2⟩, ⟨y0, y1, y2⟩, t0, t1, t2⟩ := blk_3c hrb
    have HF := Lib.hid (show ∀ a b c : Value, StoOwn w.heap.size (((w7.setCell ⟨w.heap.size + 2, 0, none⟩ a).setCell ⟨w.heap.size + 2, 1, none⟩ b).setCell ⟨w.heap.size + 2, 2, none⟩ c) (storD x m) (.slice pv (storD x m).boxes.length cv) (.slice pl (storD x m).log.length cl) ∧ Below w.heap.size w (((w7.setCell ⟨w.heap.size + 2, 0, none⟩ a).setCell ⟨w.heap.size + 2, 1, none⟩ b).setCell ⟨w.heap.size + 2, 2, none⟩ c) from fun a b c =>
      ⟨(((((H6.out.down.below b7).set (by omega)).set (by omega)).set (by omega)).lower (by omega)), ((((HB6.out.trans (b7.mono HB6.out.size)).setCell (by simp) _).setCell (by simp) _).setCell (by simp) _)⟩)
    clear b7 hrb CT
    go_wp2_with fail
    exact bodyPost_ret (v := .tuple #[.agg #[.slice pv (storD x m).boxes.length cv, .slice pl (storD x m).log.length cl, .int .i64 (storD x m).given], .bool (storB x m)]) (by simp [results, Tryz.results37, go_sem, t0, t1, t2]) rfl ⟨_, _, rfl, (HF.out _ _ _).1, (HF.out _ _ _).2⟩
theorem implCommitted_c0 : ∀ (x : StoD) (r0 r1 : Value) (m : ComD) (W : World), ErrG W → LfRd W (boxsLf x.boxes) r0 → CapLe r0 → LfRd W (commitsLf x.log) r1 → szLs x.lf ≤ 1048576 → LsBnd x.lf → szLs m.lf ≤ 1048576 → LsBnd m.lf →
    Calls Tryz.prog 37 #[.agg #[r0, r1, .int .i64 x.given], .agg #[.int .i64 m.kind, .int .i64 m.validity, .int .i64 m.uid, .int .i64 m.flags, sv m.name, sv m.text]] W fun e w' => ComPost x m W e w' := by
  rintro x r0 r1 m w ⟨er, he⟩ hr0 hcap hr1 hs hbd hs2 hbd2
  exact implCommitted_any x r0 r1 m er w he hr0 hcap hr1 hs hbd hs2 hbd2

end Go.Proofs.YtbfgdbpfecffcaaGreatDoor
