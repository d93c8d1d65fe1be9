/-
  Tj: FlagB FlagC FlagD (what the claim needs of them).
-/
import Derived.Handy
import Derived.Test.YtbfgdbpfecffcaaGreatDoorRows
import Derived.WalkKit
import Derived.WalkSpells
import Derived.WalkLawsBesides
import Derived.Laws.IdiomStrings
import Derived.Lib.Hide
import Derived.Deep.AppendLies
import Derived.OrdersHeld
import Derived.Lib.ItoaNum
import Derived.Lib.ItoaMem
import Derived.Lib.AppendStr
import Derived.Lib.ItoaLen
import Derived.Lib.Strings
import Derived.Lib.Bytealg
import Derived.Lib.OthersKept
import Derived.Laws.RangeAny
import Derived.Laws.BitsAllLaws
import Derived.Laws.BitsLemmas
import Derived.IntWalk
import Derived.Lib.Join
import Derived.Deep.Strs
import Derived.Test.YtbfgdbpfecffcaaGreatDoorProg
import Derived.Test.YtbfgdbpfecffcaaGreatDoorSb
import Derived.Test.YtbfgdbpfecffcaaGreatDoorSc

namespace Go.Proofs.YtbfgdbpfecffcaaGreatDoor
open Go.RowKit

theorem drawnBits : ∀ x ∈ ([-1, 32, 31, 9223372036854775807, -9223372036854775808] : List Int), -9223372036854775808 ≤ x ∧ x ≤ 9223372036854775807 := by decide

set_option maxRecDepth 20000 in
set_option maxHeartbeats 800000 in
theorem l5Bits_any (g : Nat) (code : List UInt8) (w : World) (hc : Cur w g code) :
    Calls Tryz.prog 128 #[.pointer (some ⟨g, 0, none⟩)] w fun e w' => WholeG g code w e w' := by
  go_enter Tryz.func128, Tryz.ntmps128
  go_wp2_with fail
  refine (l1Once_any g code _ 12 (by omega) _ hc (by omega) (by omega)).mono ?_
  rintro e w1 ⟨b, rfl, hc1, hg1⟩
  have hlt1 := hc1.lt
  cases b with
  | true =>
    go_wp2_with fail
    refine (l1PickInt_any g code _ [-1, 32, 31, 9223372036854775807, -9223372036854775808] _ (hc1.below ((Below.refl _ _).alloc (Nat.le_refl _) _)) (Rd1_lit (b := w1.heap.size) _ (heap_alloc_new w1 _) rfl rfl) (Apart_new hlt1) (by simp) (by simp)).mono ?_
    rintro e w2 ⟨y, rfl, hy, hc2, hg2⟩
    have hy2 := drawnBits y hy
    have hF : w.grownBy w2 (some g) := grown_trans hg1 (grown_trans (World.grownBy_alloc w1 _ (some g)) hg2)
    clear hy hc1 hg1 hg2 hc
    go_wp2
    go_ret
    exact ⟨y, rfl, hy2, hc2, hF⟩
  | false =>
    go_wp2_with fail
    refine (l1Below_any g code _ 32 (by omega) _ hc1 (by omega) (by omega)).mono ?_
    rintro e w2 ⟨y, rfl, hy, hc2, hg2⟩
    have hF : w.grownBy w2 (some g) := grown_trans hg1 hg2
    clear hc1 hg1 hg2 hc
    go_wp2
    go_ret
    exact ⟨_, rfl, ⟨by omega, by omega⟩, hc2, hF⟩

end Go.Proofs.YtbfgdbpfecffcaaGreatDoor
