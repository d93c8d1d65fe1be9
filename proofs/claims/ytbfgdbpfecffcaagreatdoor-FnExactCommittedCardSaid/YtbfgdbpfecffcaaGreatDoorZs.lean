/-
  Zs: FnExactCommitted (what the claim needs of them).
-/
import Derived.Maps.OwnIn
import Derived.Sort.KeysCollected
import Derived.RangeFuncNested
import Derived.RangeFuncLeaves
import Derived.RangeFuncWrites
import Derived.WalkKit
import Derived.OwnWalkIn
import Derived.TacticsInMore
import Derived.LoopNIn
import Derived.LoopIn
import Derived.Maps.OwnSet
import Derived.Maps.RangeWalk
import Derived.Sort.OwnSorted
import Derived.Sort.EveryDepth
import Derived.Test.YtbfgdbpfecffcaaGreatDoorRows
import Derived.Test.YtbfgdbpfecffcaaGreatDoorChecked
import Derived.JoinedCond
import Derived.RowKit
import Derived.Deep.DeepCutAuto
import Derived.Handy
import Derived.Lib.SliceRun
import Derived.Stop.LaidErr
import Derived.RowKitTokens
import Derived.Test.YtbfgdbpfecffcaaGreatDoorCards
import Derived.Test.YtbfgdbpfecffcaaGreatDoorTie
import Derived.Deep.DeepHandedRow
import Derived.Deep.DeepWitnessRowRef
import Derived.Lib.LaidTab
import Derived.WalkSpells
import Derived.WalkLawsBesides
import Derived.Laws.IdiomStrings
import Derived.Lib.Hide
import Derived.Deep.AppendLies
import Derived.OrdersHeld
import Derived.Lib.ItoaNum
import Derived.Lib.ItoaMem
import Derived.Lib.AppendStr
import Derived.Lib.ItoaLen
import Derived.Lib.Strings
import Derived.Lib.Bytealg
import Derived.Lib.OthersKept
import Derived.Laws.RangeAny
import Derived.Laws.BitsAllLaws
import Derived.Laws.BitsLemmas
import Derived.IntWalk
import Derived.LaidEql
import Derived.Stop.Asserts
import Derived.Lib.Join
import Derived.Deep.Strs
import Derived.ProofKit
import Derived.Deep.Cut
import Derived.Lib.SmallJoins
import Derived.Deep.SlicePairs
import Derived.OpenVars
import Derived.ChangeVars
import Derived.Test.YtbfgdbpfecffcaaGreatDoorProg
import Derived.Laws.Tables
import Derived.Deep.LoopGhost
import Derived.Test.YtbfgdbpfecffcaaGreatDoorYb
import Derived.Test.YtbfgdbpfecffcaaGreatDoorYd
import Derived.Test.YtbfgdbpfecffcaaGreatDoorYe
import Derived.Test.YtbfgdbpfecffcaaGreatDoorYm
import Derived.Test.YtbfgdbpfecffcaaGreatDoorYp
import Derived.Test.YtbfgdbpfecffcaaGreatDoorYs
import Derived.Test.YtbfgdbpfecffcaaGreatDoorYy
import Derived.Test.YtbfgdbpfecffcaaGreatDoorYz
import Derived.Test.YtbfgdbpfecffcaaGreatDoorZa
import Derived.Test.YtbfgdbpfecffcaaGreatDoorZb
import Derived.Test.YtbfgdbpfecffcaaGreatDoorZk
import Derived.Test.YtbfgdbpfecffcaaGreatDoorZl
import Derived.Test.YtbfgdbpfecffcaaGreatDoorZn
import Derived.Test.YtbfgdbpfecffcaaGreatDoorZo

namespace Go.Proofs.YtbfgdbpfecffcaaGreatDoor
open Go.ChangeShapes Go.WideShapes Go.ChangeAt Go.RowKit
open Go.ChangeMaps (open_string)
open Go.ChangeShapes

set_option maxRecDepth 100000 in
/-- What the row's list gives. -/
theorem fnExactCommitted_errInapplicable {W : World} (h : laidMetH Tryz.prog Rows.fnExactCommittedRow.laid W) : ErrG W :=
  errG_of_laid h

/-- A world for the witness: the listed tables hold what their initialisers lay. -/
noncomputable def fnExactCommitted_world (os : Os) : World :=
  { World.holding Tryz.prog os ⟨#[.cells #[.string ⟨#[116, 104, 101, 32, 99, 111, 109, 109, 105, 116, 32, 100, 111, 101, 115, 32, 110, 111, 116, 32, 97, 112, 112, 108, 121]⟩] 244], #[], []⟩ with heap := (((World.holding Tryz.prog os ⟨#[.cells #[.string ⟨#[116, 104, 101, 32, 99, 111, 109, 109, 105, 116, 32, 100, 111, 101, 115, 32, 110, 111, 116, 32, 97, 112, 112, 108, 121]⟩] 244], #[], []⟩).heap).modify 0 fun | .cells _ t frozen => .cells #[.iface 219 (.pointer (some ⟨(World.settled Tryz.prog os).heap.size, 0, none⟩))] t frozen | o => o) }
theorem fnExactCommitted_met (os : Os) : laidMet Tryz.prog Rows.fnExactCommittedRow.laid ((fnExactCommitted_world os).forCall (fun _ _ => 0) ⟨#[], #[.agg #[.slice none 0 0, .slice none 0 0, .int .i64 0], .agg #[.int .i64 0, .int .i64 0, .int .i64 0, .int .i64 0, .string ⟨#[]⟩, .string ⟨#[]⟩]], []⟩).memory :=
  laidMet_of_run' 10 (by kernel_rfl) (by kernel_rfl)
theorem fnExactCommitted_reads (os : Os) {H : Type} (enc : TypeId × Value → H) : ∃ ds places, DataW.whole enc Tryz.prog ((fnExactCommitted_world os).forCall (fun _ _ => 0) ⟨#[], #[.agg #[.slice none 0 0, .slice none 0 0, .int .i64 0], .agg #[.int .i64 0, .int .i64 0, .int .i64 0, .int .i64 0, .string ⟨#[]⟩, .string ⟨#[]⟩]], []⟩).memory Tryz.f15.params.toList Rows.fnExactCommittedSpec.vars false (#[.agg #[.slice none 0 0, .slice none 0 0, .int .i64 0], .agg #[.int .i64 0, .int .i64 0, .int .i64 0, .int .i64 0, .string ⟨#[]⟩, .string ⟨#[]⟩]] : Array Value).toList 8 = some (ds, [tok enc (.iface 219 (.pointer (some ⟨(World.settled Tryz.prog os).heap.size, 0, none⟩)))], places) :=
  ⟨[.agg [.nil, .nil, .lit (.int .i64 0)], .agg [.lit (.int .i64 0), .lit (.int .i64 0), .lit (.int .i64 0), .lit (.int .i64 0), .lit (.string []), .lit (.string [])]], MemPlace.row ⟨0, 0, none⟩ 1, by kernel_rfl⟩

set_option maxRecDepth 100000 in
theorem fnExactCommitted_lifted (os : Os) (started : os.Started) (H : Type) (enc : TypeId × Value → H) (F : Stop.Interp) :
    ReturnsInHanded {} Tryz.checked os 15 .any ((OpenSpec.ofChange Rows.fnExactCommittedSpec).preRow enc Tryz.prog Tryz.f15 Rows.fnExactCommittedRow.domain false Rows.fnExactCommittedRow.laid) (((OpenSpec.ofChange Rows.fnExactCommittedSpec).at F).post enc Tryz.prog Tryz.f15 false true false false) := by
  obtain ⟨ds, places, hx⟩ := fnExactCommitted_reads os enc
  refine returnsInHanded_of_row (C := Tryz.checked) (s := OpenSpec.ofChange Rows.fnExactCommittedSpec) Tryz.own started (by kernel_rfl) Tryz.func15
    (witness_row_atRef (enc := enc) (C := Tryz.checked) false (fnExactCommitted_world os) #[.agg #[.slice none 0 0, .slice none 0 0, .int .i64 0], .agg #[.int .i64 0, .int .i64 0, .int .i64 0, .int .i64 0, .string ⟨#[]⟩, .string ⟨#[]⟩]] rfl (by kernel_rfl) (by kernel_rfl) (by kernel_rfl)
      (OpenSpec.preRow_of_cond 8 hx (by kernel_rfl) (fun k hk => by cases hk) (by kernel_rfl) (fnExactCommitted_met os))) ?_
  clear hx ds places
  intro W base args ds gs before hval0 hW _ _ _ hL _ _
  have hval : ∀ (j : Nat) t v, Tryz.f15.params[j]? = some t → args[j]? = some v → Value.okWide Tryz.prog W .any base t v := hval0
  have hW' := hW
  have hEi := fnExactCommitted_errInapplicable hL
  obtain ⟨p, q, hA0, hV, rfl, _, _⟩ := hW
  have hA : DataW.TrodAll enc Tryz.prog W 0 (fun _ => true) true Tryz.f15.params.toList args.toList ds p := hA0
  rw [Tryz.params15] at hA hval
  obtain ⟨v0, v1, d0, d1, p0, p1, rfl, rfl, rfl, h0, h1⟩ := trodAll_two hA
  have hV0 := hV
  obtain ⟨_, _, _, _, g0, _, rfl, _⟩ := trodVars_one hV
  obtain ⟨x_S, r_S_0, r_S_1, rfl, h_r_S_0, h_r_S_1, hb_S⟩ := open_Store (hval 0 73 v0 rfl rfl) h0
  obtain ⟨x_M, rfl, hb_M⟩ := open_Commit (hval 1 57 v1 rfl rfl) h1
  refine (FnExactCommitted_of errG_keeps specCommitted_c implCommitted_c x_S r_S_0 r_S_1 x_M W hEi h_r_S_0 h_r_S_1 hb_S hb_M storD_small).mono fun e W' ⟨he, hb⟩ => ?_
  subst he
  exact ⟨_, rfl, law_post_vars Tryz.laidOut Tryz.underlying4 rfl (by rw [Tryz.params15]; intro t ht; simp at ht; rcases ht with rfl | rfl <;> exact ⟨by kernel_rfl, of_decide_eq_true (by kernel_rfl)⟩) (by kernel_rfl) rfl rfl rfl hW' hb⟩

set_option maxRecDepth 100000 in
theorem fnExactCommitted_k10 : (Rows.fnExactCommittedRow.inPlace == Tryz.pinned.checked.prog.inPlace 15) = true := by kernel_rfl
set_option maxRecDepth 100000 in
theorem fnExactCommitted_k11 : (Rows.fnExactCommittedRow.unfollowed == Tryz.pinned.checked.prog.unfollowed 15) = true := by kernel_rfl
set_option maxRecDepth 100000 in
theorem fnExactCommitted_k12 : (Rows.fnExactCommittedRow.recurses == Tryz.pinned.checked.prog.recurses 15) = true := by kernel_rfl
set_option maxRecDepth 100000 in
theorem fnExactCommitted_k13 : (Rows.fnExactCommittedRow.named == Tryz.pinned.checked.prog.varsNamed 15) = true := by kernel_rfl
set_option maxRecDepth 100000 in
theorem fnExactCommitted_kp : (Rows.fnExactCommittedRow.pinned == Rows.fnExactCommittedRow.pinnedBy) = true := by kernel_rfl
set_option maxRecDepth 100000 in
theorem fnExactCommitted_closed : joinedFacts Tryz.pinned.checked.prog 15 Tryz.f15 (OpenSpec.ofChange Rows.fnExactCommittedSpec).bare Rows.fnExactCommittedRow = true := by
  have q1 : (Rows.fnExactCommittedRow.plainKeys == Tryz.pinned.checked.prog.plainKeys) = true := clo_keys
  have q2 : (Rows.fnExactCommittedRow.lifted == Tryz.pinned.checked.prog.liftsFinal) = true := clo_lifted
  have q3 : (Tryz.pinned.checked.prog.make == some Rows.fnExactCommittedRow.make) = true := clo_make
  unfold joinedFacts
  rw [fnExactCommitted_k10, fnExactCommitted_k11, fnExactCommitted_k12, fnExactCommitted_k13, fnExactCommitted_kp, q1, q2, q3, clo_laid, clo_maps, clo_stops, clo_knobs, clo_heard, clo_enter]
  show _ = true
  kernel_rfl

theorem fnExactCommitted_said : Rows.FnExactCommittedSaid :=
  OpenClaim.holds_of_cond 15 Tryz.f15 rfl rfl rfl rfl rfl rfl rfl ⟨rfl, rfl, rfl, rfl, rfl⟩ rfl rfl rfl rfl rfl (by kernel_rfl) Tryz.func15 fnExactCommitted_closed
    (of_decide_eq_true (by kernel_rfl)) (by unfold Func.isWrapper; first | (rw [if_pos (by decide +kernel)]; kernel_rfl) | (rw [if_neg (by decide +kernel)]; exact ⟨rfl, rfl⟩))
    (fun os started H enc _ F => by rw [OpenClaim.pre_eq_preRow]; exact fnExactCommitted_lifted os started H enc F)

/-- No parameter wants a stand-in; the program's own looks are off. -/
theorem fnExactCommitted_plain (f : FuncId) (fn : Func) (hf : Tryz.pinned.checked.prog.funcNamed Rows.fnExactCommittedRow.func = some f) (hfn : Tryz.pinned.checked.prog.funcs[f]? = some fn) :
    true = Tryz.pinned.checked.prog.looks [] ∧ ∀ (j : Nat) t, fn.params[j]? = some t → Tryz.pinned.checked.prog.wantsStandIn t = false := by
  obtain rfl : f = 15 := Option.some.inj ((show Tryz.prog.funcNamed Rows.fnExactCommittedRow.func = some 15 by kernel_rfl).symm.trans hf) |>.symm
  obtain rfl : fn = Tryz.f15 := (Option.some.inj (Tryz.func15.symm.trans hfn)).symm
  refine ⟨by kernel_rfl, fun j t ht => ?_⟩
  have hm := Array.mem_toList_iff.2 (Array.mem_of_getElem? ht)
  rw [Tryz.params15] at hm
  simp at hm; rcases hm with rfl | rfl
  · exact (show Tryz.prog.wantsStandIn 73 = false by kernel_rfl)
  · exact (show Tryz.prog.wantsStandIn 57 = false by kernel_rfl)

/-- The tied card. -/
theorem fnExactCommitted_holds : Rows.FnExactCommittedCardSaid :=
  Claim7.holds_tied_plain_at .later [] _ _ _ _ fnExactCommitted_said (fun _ h => by cases h) (by kernel_rfl) (fun _ h => by cases h) fnExactCommitted_row_tie rfl ⟨rfl, rfl⟩ (by kernel_rfl) rfl fnExactCommitted_plain (by kernel_rfl)

end Go.Proofs.YtbfgdbpfecffcaaGreatDoor
