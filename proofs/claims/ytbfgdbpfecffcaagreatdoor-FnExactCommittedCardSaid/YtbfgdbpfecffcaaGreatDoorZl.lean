/-
  Zl: StoT (what the claim needs of them).
-/
import Derived.Maps.OwnIn
import Derived.Sort.KeysCollected
import Derived.RangeFuncNested
import Derived.RangeFuncLeaves
import Derived.RangeFuncWrites
import Derived.WalkKit
import Derived.OwnWalkIn
import Derived.TacticsInMore
import Derived.LoopNIn
import Derived.LoopIn
import Derived.Maps.OwnSet
import Derived.Maps.RangeWalk
import Derived.Sort.OwnSorted
import Derived.Sort.EveryDepth
import Derived.Deep.DeepCutAuto
import Derived.Handy
import Derived.Lib.SliceRun
import Derived.Test.YtbfgdbpfecffcaaGreatDoorRows
import Derived.WalkSpells
import Derived.WalkLawsBesides
import Derived.Laws.IdiomStrings
import Derived.Lib.Hide
import Derived.Deep.AppendLies
import Derived.OrdersHeld
import Derived.Lib.ItoaNum
import Derived.Lib.ItoaMem
import Derived.Lib.AppendStr
import Derived.Lib.ItoaLen
import Derived.Lib.Strings
import Derived.Lib.Bytealg
import Derived.Lib.OthersKept
import Derived.Laws.RangeAny
import Derived.Laws.BitsAllLaws
import Derived.Laws.BitsLemmas
import Derived.IntWalk
import Derived.LaidEql
import Derived.Stop.Asserts
import Derived.RowKitTokens
import Derived.Lib.Join
import Derived.Deep.Strs
import Derived.Deep.Cut
import Derived.Test.YtbfgdbpfecffcaaGreatDoorProg
import Derived.Laws.Tables
import Derived.Test.YtbfgdbpfecffcaaGreatDoorYb
import Derived.Test.YtbfgdbpfecffcaaGreatDoorYd
import Derived.Test.YtbfgdbpfecffcaaGreatDoorYe
import Derived.Test.YtbfgdbpfecffcaaGreatDoorYf
import Derived.Test.YtbfgdbpfecffcaaGreatDoorYm
import Derived.Test.YtbfgdbpfecffcaaGreatDoorYr
import Derived.Test.YtbfgdbpfecffcaaGreatDoorYs
import Derived.Test.YtbfgdbpfecffcaaGreatDoorZa
import Derived.Test.YtbfgdbpfecffcaaGreatDoorZb
import Derived.Test.YtbfgdbpfecffcaaGreatDoorZc
import Derived.Test.YtbfgdbpfecffcaaGreatDoorZd
import Derived.Test.YtbfgdbpfecffcaaGreatDoorZj
import Derived.Test.YtbfgdbpfecffcaaGreatDoorZk

namespace Go.Proofs.YtbfgdbpfecffcaaGreatDoor
open Go.RowKit

theorem specCommitted_c : CtrCommitted 38 (fun _ => True) := by
  intro x r0 r1 m w _ hr0 hcap hr1 _ hs hbd hs2 hbd2
  refine (specCommitted_any x r0 r1 m w hr0 hcap hr1 hs hbd hs2 hbd2).mono ?_
  rintro e w1 ⟨z0, z1, rfl, ⟨f0, f1, h0, h1, hn, hl⟩, hb⟩
  exact ⟨z0, f0, z1, f1, rfl, h0, h1, hn, hl, hb⟩

theorem implCommitted_c : CtrCommitted 37 ErrG := by
  intro x r0 r1 m w hG hr0 hcap hr1 _ hs hbd hs2 hbd2
  refine (implCommitted_c0 x r0 r1 m w hG hr0 hcap hr1 hs hbd hs2 hbd2).mono ?_
  rintro e w1 ⟨z0, z1, rfl, ⟨f0, f1, h0, h1, hn, hl⟩, hb⟩
  exact ⟨z0, f0, z1, f1, rfl, h0, h1, hn, hl, hb⟩

theorem storD_small {x : StoD} {m : ComD} (h1 : szLs x.lf ≤ 1048576) (h2 : szLs m.lf ≤ 1048576) : szLs (storD x m).lf ≤ 1000000000 := by
  cases hs : storB x m with
  | false => rw [stor_x hs]; omega
  | true =>
    have ha : appB x.boxes m = true := by
      cases hq : appB x.boxes m with
      | true => rfl
      | false => rw [stor_1 hq] at hs; cases hs
    have hb := (right_small (done_right ha)).1
    rw [stor_y hs, StoD.sz]
    rw [StoD.sz] at h1
    have e1 : szLf (commitsLf (x.log ++ [m])) = (x.log ++ [m]).length + szLs ((x.log ++ [m]).flatMap ComD.lf) := rfl
    have e2 : szLf (commitsLf x.log) = x.log.length + szLs (x.log.flatMap ComD.lf) := rfl
    rw [List.flatMap_append, szLs_append, List.length_append] at e1
    simp only [List.flatMap_cons, List.flatMap_nil, List.append_nil, List.length_cons, List.length_nil] at e1
    simp only
    omega

end Go.Proofs.YtbfgdbpfecffcaaGreatDoor
