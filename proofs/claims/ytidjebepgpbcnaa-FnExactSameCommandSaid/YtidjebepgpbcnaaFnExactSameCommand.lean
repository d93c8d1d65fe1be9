/-
  For every two commands laws.FnExactSameCommand returns true.
-/
import Derived.Test.YtidjebepgpbcnaaCmdM
import Derived.Test.YtidjebepgpbcnaaLawS
import Derived.Test.YtidjebepgpbcnaaLgO
import Derived.Test.YtidjebepgpbcnaaOpCommand
namespace Go.Proofs.Ytidjebepgpbcnaa
open Go.ChangeShapes Go.WideShapes Go.ChangeAt Go.RowKit
open Go.ChangeMaps (open_string)

set_option maxRecDepth 100000 in
theorem fnExactSameCommand_lifted (os : Os) (started : os.Started) (H : Type) (enc : TypeId × Value → H) :
    ReturnsInHanded {} Try.checked os 5 .any (Rows.fnExactSameCommandSpec.pre6 enc Try.prog Try.f5 Rows.fnExactSameCommandRow.domain false) (Rows.fnExactSameCommandSpec.post enc Try.prog Try.f5 false true false false) := by
  refine returnsInHanded_of_change (C := Try.checked) Try.own started (by kernel_rfl) Try.func5
    (ChangeSpec.witness6 (enc := enc) (C := Try.checked) false ⟨#[], #[.agg #[.string ⟨#[]⟩, .int .i64 0, .string ⟨#[]⟩, .string ⟨#[]⟩, .bool false, .slice none 0 0, .int .i64 0, .int .i64 0, .string ⟨#[]⟩, .bool false, .slice none 0 0], .agg #[.string ⟨#[]⟩, .int .i64 0, .string ⟨#[]⟩, .string ⟨#[]⟩, .bool false, .slice none 0 0, .int .i64 0, .int .i64 0, .string ⟨#[]⟩, .bool false, .slice none 0 0]], []⟩ 8 (by kernel_rfl) (by kernel_rfl) (by kernel_rfl) (by kernel_rfl)) ?_
  intro W base args ds gs before hval0 hW _ _
  have hval : ∀ (j : Nat) t v, Try.f5.params[j]? = some t → args[j]? = some v → Value.okWide Try.prog W .any base t v := hval0
  have hW' := hW
  obtain ⟨p, q, hA0, hV, rfl, _, _⟩ := hW
  have hA : DataW.TrodAll enc Try.prog W 0 (fun _ => true) true Try.f5.params.toList args.toList ds p := hA0
  rw [Try.params5] at hA hval
  obtain ⟨v0, v1, d0, d1, p0, p1, rfl, rfl, rfl, h0, h1⟩ := trodAll_two hA
  obtain ⟨rfl, rfl⟩ := trodVars_none hV
  obtain ⟨x_A, r_A_5, r_A_10, rfl, h_r_A_5, h_r_A_10, hb_A⟩ := open_Command (hval 0 28 v0 rfl rfl) h0
  obtain ⟨x_B, r_B_5, r_B_10, rfl, h_r_B_5, h_r_B_10, hb_B⟩ := open_Command (hval 1 28 v1 rfl rfl) h1
  refine (FnExactSameCommand_of keeps_true specSameCommand_c implSameCommand_c x_A r_A_5 r_A_10 x_B r_B_5 r_B_10 W trivial h_r_A_5 h_r_A_10 hb_A h_r_B_5 h_r_B_10 hb_B).mono fun e W' ⟨he, hb⟩ => ?_
  subst he
  exact ⟨_, rfl, law_post Try.laidOut Try.underlying4 rfl (by rw [Try.params5]; intro t ht; simp at ht; subst ht; exact ⟨by kernel_rfl, of_decide_eq_true (by kernel_rfl)⟩) rfl rfl rfl rfl hW' hb⟩

theorem fnExactSameCommand_holds : Rows.FnExactSameCommandSaid :=
  OpenClaim.holds_of_wide 5 Try.f5 rfl rfl rfl rfl rfl rfl rfl ⟨rfl, rfl, rfl, rfl, rfl⟩ rfl rfl rfl rfl rfl (by kernel_rfl) Try.func5 (by kernel_rfl)
    (of_decide_eq_true (by kernel_rfl)) (by unfold Func.isWrapper; first | (rw [if_pos (by decide +kernel)]; kernel_rfl) | (rw [if_neg (by decide +kernel)]; exact ⟨rfl, rfl⟩))
    (fun os started H enc _ => fnExactSameCommand_lifted os started H enc)

end Go.Proofs.Ytidjebepgpbcnaa
