/-
  Zf: StoH (what the claim needs of them).
-/
import Derived.Maps.OwnIn
import Derived.Sort.KeysCollected
import Derived.RangeFuncNested
import Derived.RangeFuncLeaves
import Derived.RangeFuncWrites
import Derived.WalkKit
import Derived.OwnWalkIn
import Derived.TacticsInMore
import Derived.LoopNIn
import Derived.LoopIn
import Derived.Maps.OwnSet
import Derived.Maps.RangeWalk
import Derived.Sort.OwnSorted
import Derived.Sort.EveryDepth
import Derived.Deep.DeepCutAuto
import Derived.Handy
import Derived.Lib.SliceRun
import Derived.Test.YtbfgdbpfecffcaaGreatDoorRows
import Derived.WalkSpells
import Derived.WalkLawsBesides
import Derived.Laws.IdiomStrings
import Derived.Lib.Hide
import Derived.Deep.AppendLies
import Derived.OrdersHeld
import Derived.Lib.ItoaNum
import Derived.Lib.ItoaMem
import Derived.Lib.AppendStr
import Derived.Lib.ItoaLen
import Derived.Lib.Strings
import Derived.Lib.Bytealg
import Derived.Lib.OthersKept
import Derived.Laws.RangeAny
import Derived.Laws.BitsAllLaws
import Derived.Laws.BitsLemmas
import Derived.IntWalk
import Derived.LaidEql
import Derived.Stop.Asserts
import Derived.RowKitTokens
import Derived.Lib.Join
import Derived.Deep.Strs
import Derived.Test.YtbfgdbpfecffcaaGreatDoorProg
import Derived.Laws.Tables
import Derived.Test.YtbfgdbpfecffcaaGreatDoorYb
import Derived.Test.YtbfgdbpfecffcaaGreatDoorYc
import Derived.Test.YtbfgdbpfecffcaaGreatDoorYd
import Derived.Test.YtbfgdbpfecffcaaGreatDoorYe
import Derived.Test.YtbfgdbpfecffcaaGreatDoorYf
import Derived.Test.YtbfgdbpfecffcaaGreatDoorYk
import Derived.Test.YtbfgdbpfecffcaaGreatDoorYm
import Derived.Test.YtbfgdbpfecffcaaGreatDoorYo
import Derived.Test.YtbfgdbpfecffcaaGreatDoorYr
import Derived.Test.YtbfgdbpfecffcaaGreatDoorYs
import Derived.Test.YtbfgdbpfecffcaaGreatDoorYy
import Derived.Test.YtbfgdbpfecffcaaGreatDoorYz
import Derived.Test.YtbfgdbpfecffcaaGreatDoorZa
import Derived.Test.YtbfgdbpfecffcaaGreatDoorZb
import Derived.Test.YtbfgdbpfecffcaaGreatDoorZc
import Derived.Test.YtbfgdbpfecffcaaGreatDoorZd
import Derived.Test.YtbfgdbpfecffcaaGreatDoorZe

namespace Go.Proofs.YtbfgdbpfecffcaaGreatDoor
open Go.RowKit

set_option maxRecDepth 20000 in
set_option maxHeartbeats 3200000 in
theorem implBoxesAt_c : CtrBoxesAt 34 ErrG := by
  intro x r0 r1 i w hG hr0 _ hr1 hcap hs hbd hi
  obtain ⟨_, ⟨hs1, hbd1⟩, _⟩ := sto_small hs hbd
  obtain ⟨p0, c0, rfl⟩ := LfRd.slice hr0
  obtain ⟨p1, c1, rfl⟩ := LfRd.slice hr1
  have hc1 : x.log.length ≤ c1 := hcap _ _ _ rfl
  obtain ⟨k, hkv, hk, htk⟩ := cut_im x.log i
  have hrk := rd_take ComD.len hr1 hk
  obtain ⟨hsk, hbk⟩ := take_small k hs1 hbd1
  have hlen : (x.log.take k).length = k := by rw [List.length_take, Nat.min_eq_left hk]
  have hln : x.log.length ≤ 1048576 := by have h2 : szLf (commitsLf x.log) = x.log.length + szLs (x.log.flatMap ComD.lf) := rfl; omega
  have hAT : atL x.log i = (allL [] (x.log.take k)).1 := by unfold atL; rw [htk]
  have CA := Lib.hid (fun W (g : Below w.heap.size w W) => implAppliedAll_c [] (.slice none 0 0) (x.log.take k) (.slice p1 k c1) W (errG_keeps _ _ hG g) (boxs_nil W) cap_nil (by decide) ⟨by decide, trivial⟩ (LfRd.below g _ _ hrk) (fun p n c h => by injection h with _ h1 h2; omega) hsk hbk)
  have HAT := Lib.hid hAT
  have hb1 : Below w.heap.size w (w.alloc (.cells #[.slice p0 x.boxes.length c0, .slice p1 x.log.length c1, .int .i64 x.given] 46)) := (Below.refl _ _).alloc (Nat.le_refl _) _
  have n1 := heap_alloc_new w (.cells #[.slice p0 x.boxes.length c0, .slice p1 x.log.length c1, .int .i64 x.given] 46)
  have HKD := Lib.hid hkv
  clear hr0 hr1 hcap hs hbd hs1 hbd1 hrk hsk hbk htk hkv hAT hG
  obtain ⟨X, hX⟩ : ∃ X, w.alloc (.cells #[.slice p0 x.boxes.length c0, .slice p1 x.log.length c1, .int .i64 x.given] 46) = X := ⟨_, rfl⟩
  rw [hX] at hb1 n1
  have HB := Lib.hid hb1
  obtain ⟨⟨-, a1, -⟩, -⟩ := blk_3c n1
  clear n1 hb1
  go_enter Tryz.func34, Tryz.ntmps34
  go_wp2_with fail
  rw [HKD.out]
  refine (CA.out _ HB.out).mono ?_
  rintro e w4 ⟨z0, f0, rfl, hi0, hn0, hl0, hb4⟩
  obtain ⟨pz, cz, rfl⟩ := LfIn.slice hi0
  have HF := Lib.hid (show LfIn w4 (boxsLf (atL x.log i)) (.slice pz (allL [] (x.log.take k)).1.length cz) f0 ∧ f0.Nodup ∧ (∀ q ∈ f0, w.heap.size ≤ q) ∧ Below w.heap.size w w4 from ⟨by rw [HAT.out]; exact hi0, hn0, fun q hq => Nat.le_trans HB.out.size (hl0 q hq), HB.out.trans (hb4.mono HB.out.size)⟩)
  clear hi0 hn0 hl0 hb4 a1
  go_wp2
  go_ret
  exact ⟨_, f0, rfl, HF.out.1, HF.out.2.1, HF.out.2.2.1, HF.out.2.2.2⟩

set_option maxRecDepth 20000 in
set_option maxHeartbeats 3200000 in
theorem implBoxAt_c : CtrBoxAt 60 ErrG := by
  intro x r0 r1 v i w hG hr0 hcap0 hr1 hcap1 hs hbd hv hi
  have C1 := Lib.hid (fun W (g : Below w.heap.size w W) => implBoxesAt_c x r0 r1 i W (errG_keeps _ _ hG g) (LfRd.below g _ _ hr0) hcap0 (LfRd.below g _ _ hr1) hcap1 hs hbd hi)
  have C2 := Lib.hid (fun (W : World) (z : Value) (h : LfRd W (boxsLf (atL x.log i)) z) => implBoxWith_c (G := fun _ => True) (atL x.log i) z v W trivial h (right_small (at_right x.log i)).1 (right_small (at_right x.log i)).2 hv)
  obtain ⟨p0, c0, rfl⟩ := LfRd.slice hr0
  obtain ⟨p1, c1, rfl⟩ := LfRd.slice hr1
  have b1 : Below w.heap.size w (w.alloc (.cells #[.slice p0 x.boxes.length c0, .slice p1 x.log.length c1, .int .i64 x.given] 46)) := (Below.refl _ _).alloc (Nat.le_refl _) _
  have b2 : Below w.heap.size w ((w.alloc (.cells #[.slice p0 x.boxes.length c0, .slice p1 x.log.length c1, .int .i64 x.given] 46)).alloc (.cells #[.string ⟨#[]⟩, .int .i64 0, .int .i64 0, .slice none 0 0] 38)) := b1.alloc b1.size _
  have n2 := heap_alloc_new (w.alloc (.cells #[.slice p0 x.boxes.length c0, .slice p1 x.log.length c1, .int .i64 x.given] 46)) (.cells #[.string ⟨#[]⟩, .int .i64 0, .int .i64 0, .slice none 0 0] 38)
  rw [World.size_alloc] at n2
  have hz2 : ((w.alloc (.cells #[.slice p0 x.boxes.length c0, .slice p1 x.log.length c1, .int .i64 x.given] 46)).alloc (.cells #[.string ⟨#[]⟩, .int .i64 0, .int .i64 0, .slice none 0 0] 38)).heap.size = w.heap.size + 2 := by simp
  have HX := Lib.hid (And.intro b2 (And.intro n2 hz2))
  clear b1 b2 n2 hz2 hr0 hr1 hcap0 hcap1 hs hbd hi hv hG
  have hl5 : (atL x.log i).length ≤ 1048576 := by have := ((boxes_iff _).1 (at_right x.log i)).1; omega
  have HY := Lib.hid (fun (h : ¬ bxWith (atL x.log i) v < 0) => boxAt_yes (x := x) (v := v) (i := i) h)
  have HN := Lib.hid (fun (h : bxWith (atL x.log i) v < 0) => boxAt_no (x := x) (v := v) (i := i) h)
  have HWB := Lib.hid (fun (h : ¬ bxWith (atL x.log i) v < 0) => whereB_eq (l := atL x.log i) (v := v) h)
  go_enter Tryz.func60, Tryz.ntmps60
  go_wp2_with fail
  refine (C1.out _ HX.out.1).mono ?_
  rintro e w3 ⟨z0, f0, rfl, hi0, hn0, hl0, hb3⟩
  obtain ⟨pz, cz, rfl⟩ := LfIn.slice hi0
  have HT := Lib.hid (show Tree w3 (w.heap.size + 2) (boxsLf (atL x.log i)) (.slice pz (atL x.log i).length cz) f0 from ⟨hi0, hn0, fun q hq => by have := hl0 q hq; have := HX.out.2.2; omega⟩)
  have HB3 := Lib.hid (show Below w.heap.size w w3 ∧ w3.heap[w.heap.size + 1]? = some (.cells #[.string ⟨#[]⟩, .int .i64 0, .int .i64 0, .slice none 0 0] 38 (0, 0)) from ⟨HX.out.1.trans (hb3.mono HX.out.1.size), (hb3.block (w.heap.size + 1) (by have := HX.out.2.2; omega)).trans HX.out.2.1⟩)
  clear hi0 hn0 hl0 hb3 C1 HX
  go_wp2_with fail
  refine (C2.out _ _ HT.out.rd).mono ?_
  rintro e w4 ⟨rfl, hb4⟩
  have HT4 := Lib.hid (HT.out.below hb4)
  have HB4 := Lib.hid (show Below w.heap.size w w4 ∧ w4.heap[w.heap.size + 1]? = some (.cells #[.string ⟨#[]⟩, .int .i64 0, .int .i64 0, .slice none 0 0] 38 (0, 0)) from ⟨HB3.out.1.trans (hb4.mono HB3.out.1.size), (hb4.block (w.heap.size + 1) (Array.getElem?_eq_some_iff.1 HB3.out.2).1).trans HB3.out.2⟩)
  clear hb4 HT HB3 C2
  obtain ⟨⟨y0, y1, y2, y3⟩, ⟨u0, u1, u2, u3⟩, t0, t1, t2, t3⟩ := blk_4c HB4.out.2
  by_cases hw : bxWith (atL x.log i) v < 0
  case pos =>
    obtain ⟨hd, hbb⟩ := HN.out hw
    have HF := Lib.hid (show ∀ a b c d : Value, Below w.heap.size w ((((w4.setCell ⟨w.heap.size + 1, 0, none⟩ a).setCell ⟨w.heap.size + 1, 1, none⟩ b).setCell ⟨w.heap.size + 1, 2, none⟩ c).setCell ⟨w.heap.size + 1, 3, none⟩ d) from fun a b c d => (((HB4.out.1.setCell (by simp) _).setCell (by simp) _).setCell (by simp) _).setCell (by simp) _)
    have HD := Lib.hid (And.intro hd hbb)
    clear hd hbb HT4 HB4
    generalize bxWith (atL x.log i) v = R at *
    go_wp2_with fail
    exact bodyPost_ret (v := .tuple #[.agg #[sv [], .int .i64 0, .int .i64 0, .slice none 0 0], .bool false]) (by simp [results, Tryz.results60, go_sem, t0, t1, t2, t3]) rfl ⟨.slice none 0 0, [], by rw [HD.out.1, HD.out.2]; rfl, by rw [HD.out.1]; exact msgs_in.2 ⟨World.ownsRow_nil _ _ _ _, rfl⟩, List.nodup_nil, (fun _ h => by cases h), HF.out _ _ _ _⟩
  obtain ⟨y, hy, hd, hbb⟩ := HY.out (by omega)
  have hwk := HWB.out (by omega)
  obtain ⟨k, hk⟩ : ∃ k, whereB (atL x.log i) v = k := ⟨_, rfl⟩
  rw [hk] at hy hwk
  have hkl : k < (atL x.log i).length := (List.getElem?_eq_some_iff.1 hy).1
  obtain ⟨b, q, d, f, rfl, e0, e1, e2, e3, hin, hnf, hlf⟩ := box_of HT4.out hy
  have HF := Lib.hid (show ∀ a1 a2 a3 a4 : Value, LfIn ((((w4.setCell ⟨w.heap.size + 1, 0, none⟩ a1).setCell ⟨w.heap.size + 1, 1, none⟩ a2).setCell ⟨w.heap.size + 1, 2, none⟩ a3).setCell ⟨w.heap.size + 1, 3, none⟩ a4) (msgsLf y.msgs) (.slice q y.msgs.length d) f ∧ Below w.heap.size w ((((w4.setCell ⟨w.heap.size + 1, 0, none⟩ a1).setCell ⟨w.heap.size + 1, 1, none⟩ a2).setCell ⟨w.heap.size + 1, 2, none⟩ a3).setCell ⟨w.heap.size + 1, 3, none⟩ a4) from fun a1 a2 a3 a4 =>
    ⟨LfIn.set (LfIn.set (LfIn.set (LfIn.set hin (fun hm => by have := hlf _ hm; omega)) (fun hm => by have := hlf _ hm; omega)) (fun hm => by have := hlf _ hm; omega)) (fun hm => by have := hlf _ hm; omega), (((HB4.out.1.setCell (by simp) _).setCell (by simp) _).setCell (by simp) _).setCell (by simp) _⟩)
  have HD := Lib.hid (And.intro hd (And.intro hbb (And.intro hnf hlf)))
  rw [hwk]
  have hkn : ¬ (k : Int) < 0 := by omega
  clear hd hbb hin hnf hlf HT4 HB4 hw hwk hy hk HY HN HWB
  generalize (atL x.log i).length = L at *
  go_wp2_with fail
  exact bodyPost_ret (v := .tuple #[.agg #[sv y.name, .int .i64 y.validity, .int .i64 y.next, .slice q y.msgs.length d], .bool true]) (by simp [results, Tryz.results60, go_sem, t0, t1, t2, t3]) rfl ⟨.slice q y.msgs.length d, f, by rw [HD.out.1, HD.out.2.1], by rw [HD.out.1]; exact (HF.out _ _ _ _).1, HD.out.2.2.1, fun q hq => by have := HD.out.2.2.2 q hq; omega, (HF.out _ _ _ _).2⟩

end Go.Proofs.YtbfgdbpfecffcaaGreatDoor
