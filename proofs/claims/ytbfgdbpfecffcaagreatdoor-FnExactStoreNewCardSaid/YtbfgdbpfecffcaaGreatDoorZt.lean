/-
  Zt: FnExactStoreNew (what the claim needs of them).
-/
import Derived.Maps.OwnIn
import Derived.Sort.KeysCollected
import Derived.RangeFuncNested
import Derived.RangeFuncLeaves
import Derived.RangeFuncWrites
import Derived.WalkKit
import Derived.OwnWalkIn
import Derived.TacticsInMore
import Derived.LoopNIn
import Derived.LoopIn
import Derived.Maps.OwnSet
import Derived.Maps.RangeWalk
import Derived.Sort.OwnSorted
import Derived.Sort.EveryDepth
import Derived.Test.YtbfgdbpfecffcaaGreatDoorRows
import Derived.Test.YtbfgdbpfecffcaaGreatDoorChecked
import Derived.JoinedCond
import Derived.RowKit
import Derived.Deep.DeepCutAuto
import Derived.Handy
import Derived.Lib.SliceRun
import Derived.Stop.LaidErr
import Derived.RowKitTokens
import Derived.Test.YtbfgdbpfecffcaaGreatDoorCards
import Derived.Test.YtbfgdbpfecffcaaGreatDoorTie
import Derived.Deep.DeepHandedRow
import Derived.Deep.DeepWitnessRowRef
import Derived.Lib.LaidTab
import Derived.WalkSpells
import Derived.WalkLawsBesides
import Derived.Laws.IdiomStrings
import Derived.Lib.Hide
import Derived.Deep.AppendLies
import Derived.OrdersHeld
import Derived.Lib.ItoaNum
import Derived.Lib.ItoaMem
import Derived.Lib.AppendStr
import Derived.Lib.ItoaLen
import Derived.Lib.Strings
import Derived.Lib.Bytealg
import Derived.Lib.OthersKept
import Derived.Laws.RangeAny
import Derived.Laws.BitsAllLaws
import Derived.Laws.BitsLemmas
import Derived.IntWalk
import Derived.LaidEql
import Derived.Stop.Asserts
import Derived.Lib.Join
import Derived.Deep.Strs
import Derived.ProofKit
import Derived.Deep.Cut
import Derived.OpenVars
import Derived.ChangeVars
import Derived.Test.YtbfgdbpfecffcaaGreatDoorProg
import Derived.Laws.Tables
import Derived.Deep.LoopGhost
import Derived.Test.YtbfgdbpfecffcaaGreatDoorYb
import Derived.Test.YtbfgdbpfecffcaaGreatDoorYe
import Derived.Test.YtbfgdbpfecffcaaGreatDoorYm
import Derived.Test.YtbfgdbpfecffcaaGreatDoorYp
import Derived.Test.YtbfgdbpfecffcaaGreatDoorYs
import Derived.Test.YtbfgdbpfecffcaaGreatDoorYy
import Derived.Test.YtbfgdbpfecffcaaGreatDoorYz
import Derived.Test.YtbfgdbpfecffcaaGreatDoorZa
import Derived.Test.YtbfgdbpfecffcaaGreatDoorZb
import Derived.Test.YtbfgdbpfecffcaaGreatDoorZe
import Derived.Test.YtbfgdbpfecffcaaGreatDoorZm
import Derived.Test.YtbfgdbpfecffcaaGreatDoorZn
import Derived.Test.YtbfgdbpfecffcaaGreatDoorZo

namespace Go.Proofs.YtbfgdbpfecffcaaGreatDoor
open Go.ChangeShapes Go.WideShapes Go.ChangeAt Go.RowKit
open Go.ChangeMaps (open_string)
open Go.ChangeShapes

set_option maxRecDepth 100000 in
/-- What the row's list gives. -/
theorem fnExactStoreNew_errInapplicable {W : World} (h : laidMetH Tryz.prog Rows.fnExactStoreNewRow.laid W) : ErrG W :=
  errG_of_laid h

/-- A world for the witness: the listed tables hold what their initialisers lay. -/
noncomputable def fnExactStoreNew_world (os : Os) : World :=
  { World.holding Tryz.prog os ⟨#[.cells #[.string ⟨#[116, 104, 101, 32, 99, 111, 109, 109, 105, 116, 32, 100, 111, 101, 115, 32, 110, 111, 116, 32, 97, 112, 112, 108, 121]⟩] 244], #[], []⟩ with heap := (((World.holding Tryz.prog os ⟨#[.cells #[.string ⟨#[116, 104, 101, 32, 99, 111, 109, 109, 105, 116, 32, 100, 111, 101, 115, 32, 110, 111, 116, 32, 97, 112, 112, 108, 121]⟩] 244], #[], []⟩).heap).modify 0 fun | .cells _ t frozen => .cells #[.iface 219 (.pointer (some ⟨(World.settled Tryz.prog os).heap.size, 0, none⟩))] t frozen | o => o) }
theorem fnExactStoreNew_met (os : Os) : laidMet Tryz.prog Rows.fnExactStoreNewRow.laid ((fnExactStoreNew_world os).forCall (fun _ _ => 0) ⟨#[], #[], []⟩).memory :=
  laidMet_of_run' 10 (by kernel_rfl) (by kernel_rfl)
theorem fnExactStoreNew_reads (os : Os) {H : Type} (enc : TypeId × Value → H) : ∃ ds places, DataW.whole enc Tryz.prog ((fnExactStoreNew_world os).forCall (fun _ _ => 0) ⟨#[], #[], []⟩).memory Tryz.f11.params.toList Rows.fnExactStoreNewSpec.vars false (#[] : Array Value).toList 8 = some (ds, [tok enc (.iface 219 (.pointer (some ⟨(World.settled Tryz.prog os).heap.size, 0, none⟩)))], places) :=
  ⟨[], MemPlace.row ⟨0, 0, none⟩ 1, by kernel_rfl⟩

set_option maxRecDepth 100000 in
theorem fnExactStoreNew_lifted (os : Os) (started : os.Started) (H : Type) (enc : TypeId × Value → H) (F : Stop.Interp) :
    ReturnsInHanded {} Tryz.checked os 11 .any ((OpenSpec.ofChange Rows.fnExactStoreNewSpec).preRow enc Tryz.prog Tryz.f11 Rows.fnExactStoreNewRow.domain false Rows.fnExactStoreNewRow.laid) (((OpenSpec.ofChange Rows.fnExactStoreNewSpec).at F).post enc Tryz.prog Tryz.f11 false true false false) := by
  obtain ⟨ds, places, hx⟩ := fnExactStoreNew_reads os enc
  refine returnsInHanded_of_row (C := Tryz.checked) (s := OpenSpec.ofChange Rows.fnExactStoreNewSpec) Tryz.own started (by kernel_rfl) Tryz.func11
    (witness_row_atRef (enc := enc) (C := Tryz.checked) false (fnExactStoreNew_world os) #[] rfl (by kernel_rfl) (by kernel_rfl) (by kernel_rfl)
      (OpenSpec.preRow_of_cond 8 hx (by kernel_rfl) (fun k hk => by cases hk) (by kernel_rfl) (fnExactStoreNew_met os))) ?_
  clear hx ds places
  intro W base args ds gs before hval0 hW _ _ _ hL _ _
  have hval : ∀ (j : Nat) t v, Tryz.f11.params[j]? = some t → args[j]? = some v → Value.okWide Tryz.prog W .any base t v := hval0
  have hW' := hW
  have hEi := fnExactStoreNew_errInapplicable hL
  obtain ⟨p, q, hA0, hV, rfl, _, _⟩ := hW
  have hA : DataW.TrodAll enc Tryz.prog W 0 (fun _ => true) true Tryz.f11.params.toList args.toList ds p := hA0
  rw [Tryz.params11] at hA hval
  obtain ⟨rfl, rfl, rfl⟩ := trodAll_none hA
  have hV0 := hV
  obtain ⟨_, _, _, _, g0, _, rfl, _⟩ := trodVars_one hV

  refine (FnExactStoreNew_of errG_keeps specStoreNew_c implStoreNew_c  W hEi  (by decide)).mono fun e W' ⟨he, hb⟩ => ?_
  subst he
  exact ⟨_, rfl, law_post_vars Tryz.laidOut Tryz.underlying4 rfl (by rw [Tryz.params11]; intro t ht; simp at ht) (by kernel_rfl) rfl rfl rfl hW' hb⟩

set_option maxRecDepth 100000 in
theorem fnExactStoreNew_k10 : (Rows.fnExactStoreNewRow.inPlace == Tryz.pinned.checked.prog.inPlace 11) = true := by kernel_rfl
set_option maxRecDepth 100000 in
theorem fnExactStoreNew_k11 : (Rows.fnExactStoreNewRow.unfollowed == Tryz.pinned.checked.prog.unfollowed 11) = true := by kernel_rfl
set_option maxRecDepth 100000 in
theorem fnExactStoreNew_k12 : (Rows.fnExactStoreNewRow.recurses == Tryz.pinned.checked.prog.recurses 11) = true := by kernel_rfl
set_option maxRecDepth 100000 in
theorem fnExactStoreNew_k13 : (Rows.fnExactStoreNewRow.named == Tryz.pinned.checked.prog.varsNamed 11) = true := by kernel_rfl
set_option maxRecDepth 100000 in
theorem fnExactStoreNew_kp : (Rows.fnExactStoreNewRow.pinned == Rows.fnExactStoreNewRow.pinnedBy) = true := by kernel_rfl
set_option maxRecDepth 100000 in
theorem fnExactStoreNew_closed : joinedFacts Tryz.pinned.checked.prog 11 Tryz.f11 (OpenSpec.ofChange Rows.fnExactStoreNewSpec).bare Rows.fnExactStoreNewRow = true := by
  have q1 : (Rows.fnExactStoreNewRow.plainKeys == Tryz.pinned.checked.prog.plainKeys) = true := clo_keys
  have q2 : (Rows.fnExactStoreNewRow.lifted == Tryz.pinned.checked.prog.liftsFinal) = true := clo_lifted
  have q3 : (Tryz.pinned.checked.prog.make == some Rows.fnExactStoreNewRow.make) = true := clo_make
  unfold joinedFacts
  rw [fnExactStoreNew_k10, fnExactStoreNew_k11, fnExactStoreNew_k12, fnExactStoreNew_k13, fnExactStoreNew_kp, q1, q2, q3, clo_laid, clo_maps, clo_stops, clo_knobs, clo_heard, clo_enter]
  show _ = true
  kernel_rfl

theorem fnExactStoreNew_said : Rows.FnExactStoreNewSaid :=
  OpenClaim.holds_of_cond 11 Tryz.f11 rfl rfl rfl rfl rfl rfl rfl ⟨rfl, rfl, rfl, rfl, rfl⟩ rfl rfl rfl rfl rfl (by kernel_rfl) Tryz.func11 fnExactStoreNew_closed
    (of_decide_eq_true (by kernel_rfl)) (by unfold Func.isWrapper; first | (rw [if_pos (by decide +kernel)]; kernel_rfl) | (rw [if_neg (by decide +kernel)]; exact ⟨rfl, rfl⟩))
    (fun os started H enc _ F => by rw [OpenClaim.pre_eq_preRow]; exact fnExactStoreNew_lifted os started H enc F)

/-- No parameter wants a stand-in; the program's own looks are off. -/
theorem fnExactStoreNew_plain (f : FuncId) (fn : Func) (hf : Tryz.pinned.checked.prog.funcNamed Rows.fnExactStoreNewRow.func = some f) (hfn : Tryz.pinned.checked.prog.funcs[f]? = some fn) :
    true = Tryz.pinned.checked.prog.looks [] ∧ ∀ (j : Nat) t, fn.params[j]? = some t → Tryz.pinned.checked.prog.wantsStandIn t = false := by
  obtain rfl : f = 11 := Option.some.inj ((show Tryz.prog.funcNamed Rows.fnExactStoreNewRow.func = some 11 by kernel_rfl).symm.trans hf) |>.symm
  obtain rfl : fn = Tryz.f11 := (Option.some.inj (Tryz.func11.symm.trans hfn)).symm
  refine ⟨by kernel_rfl, fun j t ht => ?_⟩
  have hm := Array.mem_toList_iff.2 (Array.mem_of_getElem? ht)
  rw [Tryz.params11] at hm
  simp at hm

/-- The tied card. -/
theorem fnExactStoreNew_holds : Rows.FnExactStoreNewCardSaid :=
  Claim7.holds_tied_plain_at .later [] _ _ _ _ fnExactStoreNew_said (fun _ h => by cases h) (by kernel_rfl) (fun _ h => by cases h) fnExactStoreNew_row_tie rfl ⟨rfl, rfl⟩ (by kernel_rfl) rfl fnExactStoreNew_plain (by kernel_rfl)

end Go.Proofs.YtbfgdbpfecffcaaGreatDoor
