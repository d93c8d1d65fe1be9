/-
  Tt: FnStore (what the claim needs of them).
-/
import Derived.Handy
import Derived.Maps.OwnIn
import Derived.Sort.KeysCollected
import Derived.RangeFuncNested
import Derived.RangeFuncLeaves
import Derived.RangeFuncWrites
import Derived.WalkKit
import Derived.OwnWalkIn
import Derived.TacticsInMore
import Derived.LoopNIn
import Derived.LoopIn
import Derived.Maps.OwnSet
import Derived.Maps.RangeWalk
import Derived.Sort.OwnSorted
import Derived.Sort.EveryDepth
import Derived.Test.YtbfgdbpfecffcaaGreatDoorRows
import Derived.Test.YtbfgdbpfecffcaaGreatDoorChecked
import Derived.JoinedCond
import Derived.RowKit
import Derived.Deep.DeepCutAuto
import Derived.Lib.SliceRun
import Derived.Stop.LaidErr
import Derived.RowKitTokens
import Derived.Test.YtbfgdbpfecffcaaGreatDoorCards
import Derived.Test.YtbfgdbpfecffcaaGreatDoorTie
import Derived.Deep.DeepHandedRow
import Derived.Deep.DeepWitnessRowRef
import Derived.Lib.LaidTab
import Derived.WalkSpells
import Derived.WalkLawsBesides
import Derived.Laws.IdiomStrings
import Derived.Lib.Hide
import Derived.Deep.AppendLies
import Derived.OrdersHeld
import Derived.Lib.ItoaNum
import Derived.Lib.ItoaMem
import Derived.Lib.AppendStr
import Derived.Lib.ItoaLen
import Derived.Lib.Strings
import Derived.Lib.Bytealg
import Derived.Lib.OthersKept
import Derived.Laws.RangeAny
import Derived.Laws.BitsAllLaws
import Derived.Laws.BitsLemmas
import Derived.IntWalk
import Derived.LaidEql
import Derived.Stop.Asserts
import Derived.Lib.Join
import Derived.Deep.Strs
import Derived.ProofKit
import Derived.OpenVars
import Derived.ChangeVars
import Derived.Test.YtbfgdbpfecffcaaGreatDoorProg
import Derived.Laws.Tables
import Derived.Deep.LoopGhost
import Derived.Deep.Cut
import Derived.Test.YtbfgdbpfecffcaaGreatDoorSb
import Derived.Test.YtbfgdbpfecffcaaGreatDoorSd
import Derived.Test.YtbfgdbpfecffcaaGreatDoorSe
import Derived.Test.YtbfgdbpfecffcaaGreatDoorSm
import Derived.Test.YtbfgdbpfecffcaaGreatDoorSp
import Derived.Test.YtbfgdbpfecffcaaGreatDoorSs
import Derived.Test.YtbfgdbpfecffcaaGreatDoorSy
import Derived.Test.YtbfgdbpfecffcaaGreatDoorSz
import Derived.Test.YtbfgdbpfecffcaaGreatDoorTa
import Derived.Test.YtbfgdbpfecffcaaGreatDoorTb
import Derived.Test.YtbfgdbpfecffcaaGreatDoorTk
import Derived.Test.YtbfgdbpfecffcaaGreatDoorTl
import Derived.Test.YtbfgdbpfecffcaaGreatDoorTm
import Derived.Test.YtbfgdbpfecffcaaGreatDoorTo
import Derived.Test.YtbfgdbpfecffcaaGreatDoorTq
import Derived.Test.YtbfgdbpfecffcaaGreatDoorTr
import Derived.Test.YtbfgdbpfecffcaaGreatDoorTs

namespace Go.Proofs.YtbfgdbpfecffcaaGreatDoor
open Go.ChangeShapes Go.WideShapes Go.ChangeAt Go.RowKit
open Go.ChangeMaps (open_string)
open Go.ChangeShapes

set_option maxRecDepth 100000 in
/-- What the row's list gives. -/
theorem fnStore_errInapplicable {W : World} (h : laidMetH Tryz.prog Rows.fnStoreRow.laid W) : ErrG W :=
  errG_of_laid h

/-- A world for the witness: the listed tables hold what their initialisers lay. -/
noncomputable def fnStore_world (os : Os) : World :=
  { World.holding Tryz.prog os ⟨#[.cells #[.string ⟨#[116, 104, 101, 32, 99, 111, 109, 109, 105, 116, 32, 100, 111, 101, 115, 32, 110, 111, 116, 32, 97, 112, 112, 108, 121]⟩] 244], #[], []⟩ with heap := (((World.holding Tryz.prog os ⟨#[.cells #[.string ⟨#[116, 104, 101, 32, 99, 111, 109, 109, 105, 116, 32, 100, 111, 101, 115, 32, 110, 111, 116, 32, 97, 112, 112, 108, 121]⟩] 244], #[], []⟩).heap).modify 0 fun | .cells _ t frozen => .cells #[.iface 219 (.pointer (some ⟨(World.settled Tryz.prog os).heap.size, 0, none⟩))] t frozen | o => o) }
theorem fnStore_met (os : Os) : laidMet Tryz.prog Rows.fnStoreRow.laid ((fnStore_world os).forCall (fun _ _ => 0) ⟨#[], #[.slice none 0 0], []⟩).memory :=
  laidMet_of_run' 10 (by kernel_rfl) (by kernel_rfl)
theorem fnStore_reads (os : Os) {H : Type} (enc : TypeId × Value → H) : ∃ ds places, DataW.whole enc Tryz.prog ((fnStore_world os).forCall (fun _ _ => 0) ⟨#[], #[.slice none 0 0], []⟩).memory Tryz.f6.params.toList Rows.fnStoreSpec.vars false (#[.slice none 0 0] : Array Value).toList 8 = some (ds, [tok enc (.iface 219 (.pointer (some ⟨(World.settled Tryz.prog os).heap.size, 0, none⟩)))], places) :=
  ⟨[.nil], MemPlace.row ⟨0, 0, none⟩ 1, by kernel_rfl⟩

set_option maxRecDepth 100000 in
theorem fnStore_lifted (os : Os) (started : os.Started) (H : Type) (enc : TypeId × Value → H) (F : Stop.Interp) :
    ReturnsInHanded {} Tryz.checked os 6 .any ((OpenSpec.ofChange Rows.fnStoreSpec).preRow enc Tryz.prog Tryz.f6 Rows.fnStoreRow.domain false Rows.fnStoreRow.laid) (((OpenSpec.ofChange Rows.fnStoreSpec).at F).post enc Tryz.prog Tryz.f6 false true false false) := by
  obtain ⟨ds, places, hx⟩ := fnStore_reads os enc
  refine returnsInHanded_of_row (C := Tryz.checked) (s := OpenSpec.ofChange Rows.fnStoreSpec) Tryz.own started (by kernel_rfl) Tryz.func6
    (witness_row_atRef (enc := enc) (C := Tryz.checked) false (fnStore_world os) #[.slice none 0 0] rfl (by kernel_rfl) (by kernel_rfl) (by kernel_rfl)
      (OpenSpec.preRow_of_cond 8 hx (by kernel_rfl) (fun k hk => by cases hk) (by kernel_rfl) (fnStore_met os))) ?_
  clear hx ds places
  intro W base args ds gs before hval0 hW _ _ _ hL _ _
  have hval : ∀ (j : Nat) t v, Tryz.f6.params[j]? = some t → args[j]? = some v → Value.okWide Tryz.prog W .any base t v := hval0
  have hW' := hW
  have hEi := fnStore_errInapplicable hL
  obtain ⟨p, q, hA0, hV, rfl, _, _⟩ := hW
  have hA : DataW.TrodAll enc Tryz.prog W 0 (fun _ => true) true Tryz.f6.params.toList args.toList ds p := hA0
  rw [Tryz.params6] at hA hval
  obtain ⟨v0, d0, rfl, rfl, h0⟩ := trodAll_one hA
  have hV0 := hV
  obtain ⟨_, _, _, _, g0, _, rfl, _⟩ := trodVars_one hV
  obtain ⟨l_B, rl_B⟩ := open_bytes_any Tryz.underlying22 Tryz.underlying5 (by kernel_rfl) (hval 0 22 v0 rfl rfl) h0
  refine (FnStore_any v0 l_B W hEi rl_B).mono fun e W' ⟨he, hb⟩ => ?_
  subst he
  exact ⟨_, rfl, law_post_vars Tryz.laidOut Tryz.underlying4 rfl (by rw [Tryz.params6]; intro t ht; simp at ht; subst ht; exact ⟨by kernel_rfl, of_decide_eq_true (by kernel_rfl)⟩) (by kernel_rfl) rfl rfl rfl hW' hb⟩

set_option maxRecDepth 100000 in
theorem fnStore_k10 : (Rows.fnStoreRow.inPlace == Tryz.pinned.checked.prog.inPlace 6) = true := by kernel_rfl
set_option maxRecDepth 100000 in
theorem fnStore_k11 : (Rows.fnStoreRow.unfollowed == Tryz.pinned.checked.prog.unfollowed 6) = true := by kernel_rfl
set_option maxRecDepth 100000 in
theorem fnStore_k12 : (Rows.fnStoreRow.recurses == Tryz.pinned.checked.prog.recurses 6) = true := by kernel_rfl
set_option maxRecDepth 100000 in
theorem fnStore_k13 : (Rows.fnStoreRow.named == Tryz.pinned.checked.prog.varsNamed 6) = true := by kernel_rfl
set_option maxRecDepth 100000 in
theorem fnStore_kp : (Rows.fnStoreRow.pinned == Rows.fnStoreRow.pinnedBy) = true := by kernel_rfl
set_option maxRecDepth 100000 in
theorem fnStore_closed : joinedFacts Tryz.pinned.checked.prog 6 Tryz.f6 (OpenSpec.ofChange Rows.fnStoreSpec).bare Rows.fnStoreRow = true := by
  have q1 : (Rows.fnStoreRow.plainKeys == Tryz.pinned.checked.prog.plainKeys) = true := clo_keys
  have q2 : (Rows.fnStoreRow.lifted == Tryz.pinned.checked.prog.liftsFinal) = true := clo_lifted
  have q3 : (Tryz.pinned.checked.prog.make == some Rows.fnStoreRow.make) = true := clo_make
  unfold joinedFacts
  rw [fnStore_k10, fnStore_k11, fnStore_k12, fnStore_k13, fnStore_kp, q1, q2, q3, clo_laid, clo_maps, clo_stops, clo_knobs, clo_heard, clo_enter]
  show _ = true
  kernel_rfl

theorem fnStore_said : Rows.FnStoreSaid :=
  OpenClaim.holds_of_cond 6 Tryz.f6 rfl rfl rfl rfl rfl rfl rfl ⟨rfl, rfl, rfl, rfl, rfl⟩ rfl rfl rfl rfl rfl (by kernel_rfl) Tryz.func6 fnStore_closed
    (of_decide_eq_true (by kernel_rfl)) (by unfold Func.isWrapper; first | (rw [if_pos (by decide +kernel)]; kernel_rfl) | (rw [if_neg (by decide +kernel)]; exact ⟨rfl, rfl⟩))
    (fun os started H enc _ F => by rw [OpenClaim.pre_eq_preRow]; exact fnStore_lifted os started H enc F)

/-- No parameter wants a stand-in; the program's own looks are off. -/
theorem fnStore_plain (f : FuncId) (fn : Func) (hf : Tryz.pinned.checked.prog.funcNamed Rows.fnStoreRow.func = some f) (hfn : Tryz.pinned.checked.prog.funcs[f]? = some fn) :
    true = Tryz.pinned.checked.prog.looks [] ∧ ∀ (j : Nat) t, fn.params[j]? = some t → Tryz.pinned.checked.prog.wantsStandIn t = false := by
  obtain rfl : f = 6 := Option.some.inj ((show Tryz.prog.funcNamed Rows.fnStoreRow.func = some 6 by kernel_rfl).symm.trans hf) |>.symm
  obtain rfl : fn = Tryz.f6 := (Option.some.inj (Tryz.func6.symm.trans hfn)).symm
  refine ⟨by kernel_rfl, fun j t ht => ?_⟩
  have hm := Array.mem_toList_iff.2 (Array.mem_of_getElem? ht)
  rw [Tryz.params6] at hm
  simp at hm; subst hm; exact (show Tryz.prog.wantsStandIn 22 = false by kernel_rfl)

/-- The tied card. -/
theorem fnStore_holds : Rows.FnStoreCardSaid :=
  Claim7.holds_tied_plain_at .later [] _ _ _ _ fnStore_said (fun _ h => by cases h) (by kernel_rfl) (fun _ h => by cases h) fnStore_row_tie rfl ⟨rfl, rfl⟩ (by kernel_rfl) rfl fnStore_plain (by kernel_rfl)

end Go.Proofs.YtbfgdbpfecffcaaGreatDoor
