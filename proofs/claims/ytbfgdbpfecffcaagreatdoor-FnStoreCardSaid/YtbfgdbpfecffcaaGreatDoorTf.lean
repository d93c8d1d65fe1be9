/-
  Tf: StoH (what the claim needs of them).
-/
import Derived.Maps.OwnIn
import Derived.Sort.KeysCollected
import Derived.RangeFuncNested
import Derived.RangeFuncLeaves
import Derived.RangeFuncWrites
import Derived.WalkKit
import Derived.OwnWalkIn
import Derived.TacticsInMore
import Derived.LoopNIn
import Derived.LoopIn
import Derived.Maps.OwnSet
import Derived.Maps.RangeWalk
import Derived.Sort.OwnSorted
import Derived.Sort.EveryDepth
import Derived.Deep.DeepCutAuto
import Derived.Handy
import Derived.Lib.SliceRun
import Derived.Test.YtbfgdbpfecffcaaGreatDoorRows
import Derived.WalkSpells
import Derived.WalkLawsBesides
import Derived.Laws.IdiomStrings
import Derived.Lib.Hide
import Derived.Deep.AppendLies
import Derived.OrdersHeld
import Derived.Lib.ItoaNum
import Derived.Lib.ItoaMem
import Derived.Lib.AppendStr
import Derived.Lib.ItoaLen
import Derived.Lib.Strings
import Derived.Lib.Bytealg
import Derived.Lib.OthersKept
import Derived.Laws.RangeAny
import Derived.Laws.BitsAllLaws
import Derived.Laws.BitsLemmas
import Derived.IntWalk
import Derived.LaidEql
import Derived.Stop.Asserts
import Derived.RowKitTokens
import Derived.Lib.Join
import Derived.Deep.Strs
import Derived.Test.YtbfgdbpfecffcaaGreatDoorProg
import Derived.Laws.Tables
import Derived.Test.YtbfgdbpfecffcaaGreatDoorSb
import Derived.Test.YtbfgdbpfecffcaaGreatDoorSc
import Derived.Test.YtbfgdbpfecffcaaGreatDoorSd
import Derived.Test.YtbfgdbpfecffcaaGreatDoorSe
import Derived.Test.YtbfgdbpfecffcaaGreatDoorSf
import Derived.Test.YtbfgdbpfecffcaaGreatDoorSm
import Derived.Test.YtbfgdbpfecffcaaGreatDoorSs
import Derived.Test.YtbfgdbpfecffcaaGreatDoorSy
import Derived.Test.YtbfgdbpfecffcaaGreatDoorSz
import Derived.Test.YtbfgdbpfecffcaaGreatDoorTa
import Derived.Test.YtbfgdbpfecffcaaGreatDoorTb
import Derived.Test.YtbfgdbpfecffcaaGreatDoorTc
import Derived.Test.YtbfgdbpfecffcaaGreatDoorTd
import Derived.Test.YtbfgdbpfecffcaaGreatDoorTe

namespace Go.Proofs.YtbfgdbpfecffcaaGreatDoor
open Go.RowKit

set_option maxRecDepth 20000 in
set_option maxHeartbeats 3200000 in
theorem implBoxesAt_c : CtrBoxesAt 34 ErrG := by
  intro x r0 r1 i w hG hr0 _ hr1 hcap hs hbd hi
  obtain ⟨_, ⟨hs1, hbd1⟩, _⟩ := sto_small hs hbd
  obtain ⟨p0, c0, rfl⟩ := LfRd.slice hr0
  obtain ⟨p1, c1, rfl⟩ := LfRd.slice hr1
  have hc1 : x.log.length ≤ c1 := hcap _ _ _ rfl
  obtain ⟨k, hkv, hk, htk⟩ := cut_im x.log i
  have hrk := rd_take ComD.len hr1 hk
  obtain ⟨hsk, hbk⟩ := take_small k hs1 hbd1
  have hlen : (x.log.take k).length = k := by rw [List.length_take, Nat.min_eq_left hk]
  have hln : x.log.length ≤ 1048576 := by have h2 : szLf (commitsLf x.log) = x.log.length + szLs (x.log.flatMap ComD.lf) := rfl; omega
  have hAT : atL x.log i = (allL [] (x.log.take k)).1 := by unfold atL; rw [htk]
  have CA := Lib.hid (fun W (g : Below w.heap.size w W) => implAppliedAll_c [] (.slice none 0 0) (x.log.take k) (.slice p1 k c1) W (errG_keeps _ _ hG g) (boxs_nil W) cap_nil (by decide) ⟨by decide, trivial⟩ (LfRd.below g _ _ hrk) (fun p n c h => by injection h with _ h1 h2; omega) hsk hbk)
  have HAT := Lib.hid hAT
  have hb1 : Below w.heap.size w (w.alloc (.cells #[.slice p0 x.boxes.length c0, .slice p1 x.log.length c1, .int .i64 x.given] 46)) := (Below.refl _ _).alloc (Nat.le_refl _) _
  have n1 := heap_alloc_new w (.cells #[.slice p0 x.boxes.length c0, .slice p1 x.log.length c1, .int .i64 x.given] 46)
  have HKD := Lib.hid hkv
  clear hr0 hr1 hcap hs hbd hs1 hbd1 hrk hsk hbk htk hkv hAT hG
  obtain ⟨X, hX⟩ : ∃ X, w.alloc (.cells #[.slice p0 x.boxes.length c0, .slice p1 x.log.length c1, .int .i64 x.given] 46) = X := ⟨_, rfl⟩
  rw [hX] at hb1 n1
  have HB := Lib.hid hb1
  obtain ⟨⟨-, a1, -⟩, -⟩ := blk_3c n1
  clear n1 hb1
  go_enter Tryz.func34, Tryz.ntmps34
  go_wp2_with fail
  rw [HKD.out]
  refine (CA.out _ HB.out).mono ?_
  rintro e w4 ⟨z0, f0, rfl, hi0, hn0, hl0, hb4⟩
  obtain ⟨pz, cz, rfl⟩ := LfIn.slice hi0
  have HF := Lib.hid (show LfIn w4 (boxsLf (atL x.log i)) (.slice pz (allL [] (x.log.take k)).1.length cz) f0 ∧ f0.Nodup ∧ (∀ q ∈ f0, w.heap.size ≤ q) ∧ Below w.heap.size w w4 from ⟨by rw [HAT.out]; exact hi0, hn0, fun q hq => Nat.le_trans HB.out.size (hl0 q hq), HB.out.trans (hb4.mono HB.out.size)⟩)
  clear hi0 hn0 hl0 hb4 a1
  go_wp2
  go_ret
  exact ⟨_, f0, rfl, HF.out.1, HF.out.2.1, HF.out.2.2.1, HF.out.2.2.2⟩

end Go.Proofs.YtbfgdbpfecffcaaGreatDoor
