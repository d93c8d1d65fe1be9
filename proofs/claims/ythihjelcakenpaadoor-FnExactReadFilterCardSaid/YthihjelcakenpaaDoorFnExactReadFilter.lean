/-
  For every input laws.FnExactReadFilter returns true. No condition.
-/
import Derived.Test.YthihjelcakenpaaDoorFipN
import Derived.Test.YthihjelcakenpaaDoorLawS
import Derived.Test.YthihjelcakenpaaDoorLawT
import Derived.Test.YthihjelcakenpaaDoorLawV
import Derived.Test.YthihjelcakenpaaDoorCards
import Derived.Test.YthihjelcakenpaaDoorTie
import Derived.Test.YthihjelcakenpaaDoorFipF
import Derived.Deep.DeepHandedRow
import Derived.Lib.LaidTab
namespace Go.Proofs.YthihjelcakenpaaDoor
open Go.ChangeShapes Go.WideShapes Go.ChangeAt Go.RowKit
open Go.ChangeMaps (open_string)

/-- What the row's list gives. -/
theorem fnExactReadFilter_eventWords {W : World} (h : laidMetH Tryd.prog Rows.fnExactReadFilterRow.laid W) : Ew W :=
  Ew.of_laid (strsIs_of_head (rest := []) gEw gEwType gEwUnder Tryd.underlying9 gEwOne gEwCells (h.filter fun x => x.1 == "loop.example/g00501/impl.eventWords"))

/-- A world for the witness: the listed tables hold what their initialisers lay. -/
noncomputable def fnExactReadFilter_world (os : Os) : World :=
  { World.holding Tryd.prog os ⟨#[], #[], []⟩ with heap := (((World.holding Tryd.prog os ⟨#[], #[], []⟩).heap).modify 0 fun | .cells _ t frozen => .cells #[.string ⟨#[110, 101, 119]⟩, .string ⟨#[103, 111, 110, 101]⟩, .string ⟨#[102, 108, 97, 103, 115]⟩, .string ⟨#[110, 97, 109, 101, 115]⟩] t frozen | o => o) }
theorem fnExactReadFilter_met (os : Os) : laidMet Tryd.prog Rows.fnExactReadFilterRow.laid ((fnExactReadFilter_world os).forCall (fun _ _ => 0) ⟨#[], #[.slice none 0 0], []⟩).memory :=
  laidMet_of_run' 8 (by kernel_rfl) (by kernel_rfl)
theorem fnExactReadFilter_reads (os : Os) {H : Type} (enc : TypeId × Value → H) : ∃ ds places, DataW.whole enc Tryd.prog ((fnExactReadFilter_world os).forCall (fun _ _ => 0) ⟨#[], #[.slice none 0 0], []⟩).memory Tryd.f5.params.toList Rows.fnExactReadFilterSpec.vars false (#[.slice none 0 0] : Array Value).toList 8 = some (ds, [Rows.laid_loop_example_g00501_impl_eventWords], places) :=
  ⟨[.nil], MemPlace.row ⟨0, 0, none⟩ 4, by kernel_rfl⟩

set_option maxRecDepth 100000 in
theorem fnExactReadFilter_lifted (os : Os) (started : os.Started) (H : Type) (enc : TypeId × Value → H) (F : Stop.Interp) :
    ReturnsInHanded {} Tryd.checked os 5 .any ((OpenSpec.ofChange Rows.fnExactReadFilterSpec).preRow enc Tryd.prog Tryd.f5 Rows.fnExactReadFilterRow.domain false Rows.fnExactReadFilterRow.laid) (((OpenSpec.ofChange Rows.fnExactReadFilterSpec).at F).post enc Tryd.prog Tryd.f5 false true false false) := by
  obtain ⟨ds, places, hx⟩ := fnExactReadFilter_reads os enc
  refine returnsInHanded_of_row (C := Tryd.checked) (s := OpenSpec.ofChange Rows.fnExactReadFilterSpec) Tryd.own started (by kernel_rfl) Tryd.func5
    (witness_row_at (enc := enc) (C := Tryd.checked) false (fnExactReadFilter_world os) #[.slice none 0 0] rfl (by kernel_rfl) (by kernel_rfl) (by kernel_rfl)
      (OpenSpec.preRow_of_cond 8 hx (by kernel_rfl) (fun k hk => by cases hk) (by kernel_rfl) (fnExactReadFilter_met os))) ?_
  clear hx ds places
  intro W base args ds gs before hval0 hW _ _ _ hL _ _
  have hval : ∀ (j : Nat) t v, Tryd.f5.params[j]? = some t → args[j]? = some v → Value.okWide Tryd.prog W .any base t v := hval0
  have hW' := hW
  have hE := fnExactReadFilter_eventWords hL
  obtain ⟨p, q, hA0, hV, rfl, _, _⟩ := hW
  have hA : DataW.TrodAll enc Tryd.prog W 0 (fun _ => true) true Tryd.f5.params.toList args.toList ds p := hA0
  rw [Tryd.params5] at hA hval
  obtain ⟨v0, d0, rfl, rfl, h0⟩ := trodAll_one hA
  have hV0 := hV
  obtain ⟨_, _, _, _, g0, _, rfl, _⟩ := trodVars_one hV
  obtain ⟨l, rl, xl, ll⟩ := open_toks Tryd.underlying44 Tryd.underlying86 (by kernel_rfl) rfl rfl (by kernel_rfl) (by kernel_rfl) Tryd.underlying3 Tryd.underlying9 (hval 0 44 v0 rfl rfl) h0
  refine (FnExactReadFilter_of keeps_ew implReadFilter_any v0 l W hE rl ll xl).mono fun e W' ⟨he, hb⟩ => ?_
  subst he
  exact ⟨_, rfl, law_post_vars Tryd.laidOut Tryd.underlying4 rfl (by rw [Tryd.params5]; intro t ht; simp at ht; subst ht; exact ⟨by kernel_rfl, of_decide_eq_true (by kernel_rfl)⟩) (by kernel_rfl) rfl rfl rfl hW' hb⟩

theorem fnExactReadFilter_said : Rows.FnExactReadFilterSaid :=
  OpenClaim.holds_of_cond 5 Tryd.f5 rfl rfl rfl rfl rfl rfl rfl ⟨rfl, rfl, rfl, rfl, rfl⟩ rfl rfl rfl rfl rfl (by kernel_rfl) Tryd.func5 (by kernel_rfl)
    (of_decide_eq_true (by kernel_rfl)) (by unfold Func.isWrapper; first | (rw [if_pos (by decide +kernel)]; kernel_rfl) | (rw [if_neg (by decide +kernel)]; exact ⟨rfl, rfl⟩))
    (fun os started H enc _ F => by rw [OpenClaim.pre_eq_preRow]; exact fnExactReadFilter_lifted os started H enc F)

/-- No parameter wants a stand-in; the program's own looks are off. -/
theorem fnExactReadFilter_plain (f : FuncId) (fn : Func) (hf : Tryd.pinned.checked.prog.funcNamed Rows.fnExactReadFilterRow.func = some f) (hfn : Tryd.pinned.checked.prog.funcs[f]? = some fn) :
    true = Tryd.pinned.checked.prog.looks [] ∧ ∀ (j : Nat) t, fn.params[j]? = some t → Tryd.pinned.checked.prog.wantsStandIn t = false := by
  obtain rfl : f = 5 := Option.some.inj ((show Tryd.prog.funcNamed Rows.fnExactReadFilterRow.func = some 5 by kernel_rfl).symm.trans hf) |>.symm
  obtain rfl : fn = Tryd.f5 := (Option.some.inj (Tryd.func5.symm.trans hfn)).symm
  refine ⟨by kernel_rfl, fun j t ht => ?_⟩
  have hm := Array.mem_toList_iff.2 (Array.mem_of_getElem? ht)
  rw [Tryd.params5] at hm
  simp at hm; subst hm; exact (show Tryd.prog.wantsStandIn 44 = false by kernel_rfl)

/-- The tied card. -/
theorem fnExactReadFilter_holds : Rows.FnExactReadFilterCardSaid :=
  Claim7.holds_tied_plain_at .later [] _ _ _ _ fnExactReadFilter_said (fun _ h => by cases h) (by kernel_rfl) (fun _ h => by cases h) fnExactReadFilter_row_tie rfl ⟨rfl, rfl⟩ (by kernel_rfl) rfl fnExactReadFilter_plain (by kernel_rfl)

end Go.Proofs.YthihjelcakenpaaDoor
