/-
  Vf: CmdY (what the claim needs of them).
-/
import Derived.Lib.Builder
import Derived.Lib.Walk
import Derived.Laws.Externs
import Derived.Handy
import Derived.Laws.IdiomRangeMap
import Derived.Maps.RangeRun
import Derived.WalkKit
import Derived.Maps.RangeWalk
import Derived.Deep.DeepCutAuto
import Derived.Deep.Cut
import Derived.Deep.CutRange
import Derived.Lib.Fields
import Derived.Lib.OwnKind
import Derived.Deep.LoopGhost
import Derived.Test.YtidjebepgpbcnaaGreatDoorRows
import Derived.WalkSpells
import Derived.WalkLawsBesides
import Derived.Laws.IdiomStrings
import Derived.Lib.Hide
import Derived.Deep.AppendLies
import Derived.OrdersHeld
import Derived.Lib.ItoaNum
import Derived.Lib.ItoaMem
import Derived.Lib.AppendStr
import Derived.Lib.ItoaLen
import Derived.Lib.Strings
import Derived.Lib.Bytealg
import Derived.Lib.OthersKept
import Derived.Laws.RangeAny
import Derived.Laws.BitsAllLaws
import Derived.Laws.BitsLemmas
import Derived.IntWalk
import Derived.Lib.Join
import Derived.Deep.Strs
import Derived.ProofKit
import Derived.Lib.SmallJoins
import Derived.Deep.SlicePairs
import Derived.WalkSmall
import Derived.WalkMore
import Derived.ScopeJumps
import Derived.Laws.StructEq
import Derived.Laws.CopyOwn
import Derived.Test.YtidjebepgpbcnaaGreatDoorProg
import Derived.Lib.LaidTab
import Derived.Lib.AppendIntMem
import Derived.OpenShut
import Derived.ChangeKeysEq
import Derived.Test.YtidjebepgpbcnaaGreatDoorUb
import Derived.Test.YtidjebepgpbcnaaGreatDoorUc
import Derived.Test.YtidjebepgpbcnaaGreatDoorUe
import Derived.Test.YtidjebepgpbcnaaGreatDoorUg
import Derived.Test.YtidjebepgpbcnaaGreatDoorUi
import Derived.Test.YtidjebepgpbcnaaGreatDoorUr
import Derived.Test.YtidjebepgpbcnaaGreatDoorUs
import Derived.Test.YtidjebepgpbcnaaGreatDoorUt
import Derived.Test.YtidjebepgpbcnaaGreatDoorUu
import Derived.Test.YtidjebepgpbcnaaGreatDoorUv
import Derived.Test.YtidjebepgpbcnaaGreatDoorVa0
import Derived.Test.YtidjebepgpbcnaaGreatDoorVd
import Derived.Test.YtidjebepgpbcnaaGreatDoorVe

namespace Go.Proofs.YtidjebepgpbcnaaGreatDoor
open Go.RowKit

set_option maxRecDepth 20000 in
theorem specCommandText_c : CtrCommandText 14 (fun _ => True) := by
  intro x a5 a10 w hG ha ha2 hs hbd
  have HT := Lib.hid (cmdTks_text hs)
  have HL := Lib.hid (cmdTks_len x)
  have cT := fun W (h : Below w.heap.size w W) => specCommandTokens_at x a5 a10 W (LfRd.below h _ _ ha) (LfRd.below h _ _ ha2) hs
  obtain ⟨p, c, rfl, _⟩ := Spn.at ha
  obtain ⟨q, d, rfl, _⟩ := scps_at ha2
  have CT' := Lib.hid cT
  have hb : Below w.heap.size w (w.alloc (.cells #[sv x.tag, .int .i64 x.kind, sv x.box, sv x.dst, .bool x.uid, .slice p x.sset.length c, .int .i64 x.op, .int .i64 x.flags, sv x.text, .bool x.filter.on, .slice q x.filter.scopes.length d] 36)) := (Below.refl _ _).alloc (Nat.le_refl _) _
  clear cT ha ha2 hs hbd hG
  go_enter Tryz.func14, Tryz.ntmps14
  go_wp2_with fail
  refine (CT'.out _ hb).mono ?_
  rintro e w1 ⟨v1, rfl, o1, b1⟩
  have hb2 := hb.trans (b1.mono hb.size)
  have R1 := Lib.hid (show Rd 2 tokc _ v1 (cmdTks x) from Rd.of_own (enc := tokc) (fun _ => rfl) rfl o1)
  have CLn := Lib.hid (specLineOf_any v1 (cmdTks x) w1 R1.out (by have := HL.out; omega) HT.out)
  clear o1 b1 hb
  go_wp2_with fail
  refine CLn.out.mono ?_
  rintro e w2 ⟨rfl, b2⟩
  have hb3 := hb2.trans (b2.mono hb2.size)
  clear b2 hb2
  go_wp2
  go_ret
  exact ⟨rfl, hb3⟩

set_option maxRecDepth 20000 in
theorem implCommandText_c : CtrCommandText 15 CtTabs := by
  intro x a5 a10 w hG ha ha2 hs hbd
  have HT := Lib.hid (cmdTks_text hs)
  have HL := Lib.hid (cmdTks_len x)
  have cT := fun W (h : Below w.heap.size w W) => implCommandTokens_at x a5 a10 W (hG.below h) (LfRd.below h _ _ ha) (LfRd.below h _ _ ha2) hs hbd
  obtain ⟨p, c, rfl, _⟩ := Spn.at ha
  obtain ⟨q, d, rfl, _⟩ := scps_at ha2
  have CT' := Lib.hid cT
  have hb : Below w.heap.size w (w.alloc (.cells #[sv x.tag, .int .i64 x.kind, sv x.box, sv x.dst, .bool x.uid, .slice p x.sset.length c, .int .i64 x.op, .int .i64 x.flags, sv x.text, .bool x.filter.on, .slice q x.filter.scopes.length d] 36)) := (Below.refl _ _).alloc (Nat.le_refl _) _
  clear cT ha ha2 hs hbd hG
  go_enter Tryz.func15, Tryz.ntmps15
  go_wp2_with fail
  refine (CT'.out _ hb).mono ?_
  rintro e w1 ⟨v1, rfl, o1, b1⟩
  have hb2 := hb.trans (b1.mono hb.size)
  have R1 := Lib.hid (show Rd 2 tokc _ v1 (cmdTks x) from Rd.of_own (enc := tokc) (fun _ => rfl) rfl o1)
  have CLn := Lib.hid (implLineOf_any v1 (cmdTks x) w1 R1.out (by have := HL.out; omega) HT.out)
  clear o1 b1 hb
  go_wp2_with fail
  refine CLn.out.mono ?_
  rintro e w2 ⟨rfl, b2⟩
  have hb3 := hb2.trans (b2.mono hb2.size)
  clear b2 hb2
  go_wp2
  go_ret
  exact ⟨rfl, hb3⟩

end Go.Proofs.YtidjebepgpbcnaaGreatDoor
