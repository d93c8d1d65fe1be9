/-
  Va0: CmdX (what the claim needs of them).
-/
import Derived.Handy
import Derived.Laws.IdiomRangeMap
import Derived.Maps.RangeRun
import Derived.WalkKit
import Derived.Maps.RangeWalk
import Derived.Deep.DeepCutAuto
import Derived.Deep.Cut
import Derived.Deep.CutRange
import Derived.Lib.Fields
import Derived.Lib.OwnKind
import Derived.Deep.LoopGhost
import Derived.Test.YtidjebepgpbcnaaGreatDoorRows
import Derived.WalkSpells
import Derived.WalkLawsBesides
import Derived.Laws.IdiomStrings
import Derived.Lib.Hide
import Derived.Deep.AppendLies
import Derived.OrdersHeld
import Derived.Lib.ItoaNum
import Derived.Lib.ItoaMem
import Derived.Lib.AppendStr
import Derived.Lib.ItoaLen
import Derived.Lib.Strings
import Derived.Lib.Bytealg
import Derived.Lib.OthersKept
import Derived.Laws.RangeAny
import Derived.Laws.BitsAllLaws
import Derived.Laws.BitsLemmas
import Derived.IntWalk
import Derived.Lib.Join
import Derived.Deep.Strs
import Derived.ProofKit
import Derived.Lib.SmallJoins
import Derived.Deep.SlicePairs
import Derived.Laws.CopyOwn
import Derived.Test.YtidjebepgpbcnaaGreatDoorProg
import Derived.Lib.LaidTab
import Derived.Lib.AppendIntMem
import Derived.OpenShut
import Derived.WalkSmall
import Derived.ChangeKeysEq
import Derived.Test.YtidjebepgpbcnaaGreatDoorUb
import Derived.Test.YtidjebepgpbcnaaGreatDoorUc
import Derived.Test.YtidjebepgpbcnaaGreatDoorUe
import Derived.Test.YtidjebepgpbcnaaGreatDoorUg
import Derived.Test.YtidjebepgpbcnaaGreatDoorUr
import Derived.Test.YtidjebepgpbcnaaGreatDoorUs
import Derived.Test.YtidjebepgpbcnaaGreatDoorUt
import Derived.Test.YtidjebepgpbcnaaGreatDoorUu
import Derived.Test.YtidjebepgpbcnaaGreatDoorUv
import Derived.Test.YtidjebepgpbcnaaGreatDoorUw
import Derived.Test.YtidjebepgpbcnaaGreatDoorUx
import Derived.Test.YtidjebepgpbcnaaGreatDoorUy

namespace Go.Proofs.YtidjebepgpbcnaaGreatDoor
open Go.RowKit

set_option maxRecDepth 20000 in
theorem spk_no (x : CmdD) (a5 a10 : Value) (w : World) (hk : cmdB x = false) (ha : LfRd w (spnsLf x.sset) a5) (ha2 : LfRd w (scpsLf x.filter.scopes) a10) (hs : szLs x.lf ≤ 1048576) :
    Calls Tryz.prog 6 #[cmdv x a5 a10] w (TksPost (cmdTks x) w) := by
  have cOK := fun W (h : Below w.heap.size w W) => specCommandOk_at x a5 a10 W (LfRd.below h _ _ ha) (LfRd.below h _ _ ha2) hs
  simp only [hk] at cOK
  obtain ⟨p, c, rfl, _⟩ := Spn.at ha
  obtain ⟨q, d, rfl, _⟩ := scps_at ha2
  have COK := Lib.hid cOK
  have HV := Lib.hid (show cmdTks x = [] from by unfold cmdTks; rw [hk]; rfl)
  have hb : Below w.heap.size w ((w.alloc (.cells #[sv x.tag, .int .i64 x.kind, sv x.box, sv x.dst, .bool x.uid, .slice p x.sset.length c, .int .i64 x.op, .int .i64 x.flags, sv x.text, .bool x.filter.on, .slice q x.filter.scopes.length d] 36)).alloc (.cells #[] 48)) := ((Below.refl _ _).alloc (Nat.le_refl _) _).alloc (by simp) _
  have HO := Lib.hid (show ((w.alloc (.cells #[sv x.tag, .int .i64 x.kind, sv x.box, sv x.dst, .bool x.uid, .slice p x.sset.length c, .int .i64 x.op, .int .i64 x.flags, sv x.text, .bool x.filter.on, .slice q x.filter.scopes.length d] 36)).alloc (.cells #[] 48)).ownsRow w.heap.size 48 2 (.slice (some ⟨w.heap.size + 1, 0, none⟩) 0 0) 0 [] by
    have := World.ownsRow_made (e := 48) (size := 2) (base := w.heap.size + 1) (w.alloc (.cells #[sv x.tag, .int .i64 x.kind, sv x.box, sv x.dst, .bool x.uid, .slice p x.sset.length c, .int .i64 x.op, .int .i64 x.flags, sv x.text, .bool x.filter.on, .slice q x.filter.scopes.length d] 36)) #[] 0 (by simp) (by unfold maxLen; omega) rfl
    rw [World.size_alloc] at this
    exact own_lower this (by omega))
  clear cOK ha ha2 hs hk
  go_enter Tryz.func6, Tryz.ntmps6
  go_wp2_with fail
  refine (COK.out _ hb).mono ?_
  rintro e w1 ⟨rfl, b1⟩
  have ho := ownsRow_below HO.out b1
  have hb2 := hb.trans (b1.mono hb.size)
  clear b1 hb
  go_wp2
  go_ret
  exact ⟨_, rfl, by rw [HV.out]; exact ho, hb2⟩

theorem specCommandTokens_at (x : CmdD) (a5 a10 : Value) (w : World) (ha : LfRd w (spnsLf x.sset) a5) (ha2 : LfRd w (scpsLf x.filter.scopes) a10) (hs : szLs x.lf ≤ 1048576) :
    Calls Tryz.prog 6 #[cmdv x a5 a10] w (TksPost (cmdTks x) w) := by
  cases hok : cmdB x with
  | false => exact spk_no x a5 a10 w hok ha ha2 hs
  | true =>
    by_cases h14 : x.kind = 14
    · exact spk_r x a5 a10 w hok h14 ha ha2 hs
    by_cases h8 : x.kind = 8
    · by_cases hf : x.flags = 0
      · cases hu : x.uid
        · exact spk_s00 x a5 a10 w hok h8 hu hf ha ha2 hs
        · exact spk_s10 x a5 a10 w hok h8 hu hf ha ha2 hs
      · cases hu : x.uid
        · exact spk_s01 x a5 a10 w hok h8 hu hf ha ha2 hs
        · exact spk_s11 x a5 a10 w hok h8 hu hf ha ha2 hs
    by_cases h11 : x.kind = 11
    · by_cases hf : x.flags = 0
      · exact spk_a0 x a5 a10 w hok h11 hf ha ha2 hs
      · exact spk_a1 x a5 a10 w hok h11 hf ha ha2 hs
    by_cases h6 : x.kind = 6
    · exact spk_y x a5 a10 w hok h6 ha ha2 hs
    by_cases h10 : x.kind = 10
    · cases hu : x.uid
      · exact spk_c0 x a5 a10 w hok h10 hu ha ha2 hs
      · exact spk_c1 x a5 a10 w hok h10 hu ha ha2 hs
    by_cases h7 : x.kind = 7
    · cases hu : x.uid
      · exact spk_f0 x a5 a10 w hok h7 hu ha ha2 hs
      · exact spk_f1 x a5 a10 w hok h7 hu ha ha2 hs
    by_cases hb : x.kind = 2 ∨ x.kind = 12 ∨ x.kind = 13
    · exact spk_b x a5 a10 w hok hb ha ha2 hs
    exact spk_n x a5 a10 w hok (by omega) ha ha2 hs

end Go.Proofs.YtidjebepgpbcnaaGreatDoor
