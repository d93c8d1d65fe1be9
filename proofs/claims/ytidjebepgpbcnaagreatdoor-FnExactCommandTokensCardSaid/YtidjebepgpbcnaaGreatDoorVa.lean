/-
  Va: CmdX CmdX (what the claim needs of them).
-/
import Derived.Handy
import Derived.Laws.IdiomRangeMap
import Derived.Maps.RangeRun
import Derived.WalkKit
import Derived.Maps.RangeWalk
import Derived.Deep.DeepCutAuto
import Derived.Deep.Cut
import Derived.Deep.CutRange
import Derived.Lib.Fields
import Derived.Lib.OwnKind
import Derived.Deep.LoopGhost
import Derived.Test.YtidjebepgpbcnaaGreatDoorRows
import Derived.WalkSpells
import Derived.WalkLawsBesides
import Derived.Laws.IdiomStrings
import Derived.Lib.Hide
import Derived.Deep.AppendLies
import Derived.OrdersHeld
import Derived.Lib.ItoaNum
import Derived.Lib.ItoaMem
import Derived.Lib.AppendStr
import Derived.Lib.ItoaLen
import Derived.Lib.Strings
import Derived.Lib.Bytealg
import Derived.Lib.OthersKept
import Derived.Laws.RangeAny
import Derived.Laws.BitsAllLaws
import Derived.Laws.BitsLemmas
import Derived.IntWalk
import Derived.Lib.Join
import Derived.Deep.Strs
import Derived.ProofKit
import Derived.Lib.SmallJoins
import Derived.Deep.SlicePairs
import Derived.Laws.CopyOwn
import Derived.Test.YtidjebepgpbcnaaGreatDoorProg
import Derived.Lib.LaidTab
import Derived.Lib.AppendIntMem
import Derived.OpenShut
import Derived.WalkSmall
import Derived.ChangeKeysEq
import Derived.Test.YtidjebepgpbcnaaGreatDoorUb
import Derived.Test.YtidjebepgpbcnaaGreatDoorUc
import Derived.Test.YtidjebepgpbcnaaGreatDoorUe
import Derived.Test.YtidjebepgpbcnaaGreatDoorUr
import Derived.Test.YtidjebepgpbcnaaGreatDoorUs
import Derived.Test.YtidjebepgpbcnaaGreatDoorUt
import Derived.Test.YtidjebepgpbcnaaGreatDoorUv
import Derived.Test.YtidjebepgpbcnaaGreatDoorUz
import Derived.Test.YtidjebepgpbcnaaGreatDoorVa0

namespace Go.Proofs.YtidjebepgpbcnaaGreatDoor
open Go.RowKit

theorem toks_in {W : World} {B : Nat} {v : Value} {l : List Tok} (h : W.ownsRow B 48 2 v l.length (l.flatMap tokc)) : LfIn W (toksLf l) v v.ownBlock.toList := by
  have hl : ∀ l : List Tok, LsIn W (l.flatMap Tok.lf) (l.flatMap tokc) [] := by
    intro l
    induction l with
    | nil => exact ⟨rfl, rfl⟩
    | cons t l ih =>
      rw [List.flatMap_cons, List.flatMap_cons]
      exact ⟨_, _, [], [], rfl, ⟨rfl, rfl⟩, ⟨_, _, [], [], rfl, ⟨rfl, rfl⟩, ih, rfl⟩, rfl⟩
  refine ⟨flat_lenM Tok.len l, _, [], own_lower h (Nat.zero_le _), hl l, by simp⟩

theorem tks_in {W w' : World} {e : Ending} {l : List Tok} (h : TksPost l W e w') : ∃ z0 f0, e = .returned z0 ∧ LfIn w' (toksLf l) z0 f0 ∧ f0.Nodup ∧ (∀ q ∈ f0, W.heap.size ≤ q) ∧ Below W.heap.size W w' := by
  obtain ⟨v, rfl, ho, hb⟩ := h
  refine ⟨v, v.ownBlock.toList, rfl, toks_in ho, ?_, ?_, hb⟩
  · cases v.ownBlock <;> simp
  · intro q hq
    rcases ho.2 with ⟨rfl, _⟩ | ⟨g, cap, cur, rfl, h1, _⟩
    · simp [Value.ownBlock] at hq
    · simp [Value.ownBlock] at hq
      omega

theorem specCommandTokens_c : CtrCommandTokens 6 (fun _ => True) := fun x r5 r10 W _ h1 h2 hs _ => (specCommandTokens_at x r5 r10 W h1 h2 hs).mono fun _ _ h => tks_in h

theorem implCommandTokens_c : CtrCommandTokens 8 CtTabs := fun x r5 r10 W hG h1 h2 hs hb => (implCommandTokens_at x r5 r10 W hG h1 h2 hs hb).mono fun _ _ h => tks_in h

end Go.Proofs.YtidjebepgpbcnaaGreatDoor
