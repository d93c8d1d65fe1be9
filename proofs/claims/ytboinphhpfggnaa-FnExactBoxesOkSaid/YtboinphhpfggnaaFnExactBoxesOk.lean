/-
  For every slice of mailboxes laws.FnExactBoxesOk returns true.
-/
import Derived.Test.YtboinphhpfggnaaBoxJ
import Derived.Test.YtboinphhpfggnaaBoxC
import Derived.Test.YtboinphhpfggnaaLawS
import Derived.Test.YtboinphhpfggnaaLgO
import Derived.Test.YtboinphhpfggnaaOpBox
namespace Go.Proofs.Ytboinphhpfggnaa
open Go.ChangeShapes Go.WideShapes Go.ChangeAt Go.RowKit
open Go.ChangeMaps (open_string)

set_option maxRecDepth 100000 in
theorem fnExactBoxesOk_lifted (os : Os) (started : os.Started) (H : Type) (enc : TypeId × Value → H) :
    ReturnsInHanded {} Try.checked os 7 .any (Rows.fnExactBoxesOkSpec.pre6 enc Try.prog Try.f7 Rows.fnExactBoxesOkRow.domain false) (Rows.fnExactBoxesOkSpec.post enc Try.prog Try.f7 false true false false) := by
  refine returnsInHanded_of_change (C := Try.checked) Try.own started (by kernel_rfl) Try.func7
    (ChangeSpec.witness6 (enc := enc) (C := Try.checked) false ⟨#[], #[.slice none 0 0], []⟩ 8 (by kernel_rfl) (by kernel_rfl) (by kernel_rfl) (by kernel_rfl)) ?_
  intro W base args ds gs before hval0 hW _ _
  have hval : ∀ (j : Nat) t v, Try.f7.params[j]? = some t → args[j]? = some v → Value.okWide Try.prog W .any base t v := hval0
  have hW' := hW
  obtain ⟨p, q, hA0, hV, rfl, _, _⟩ := hW
  have hA : DataW.TrodAll enc Try.prog W 0 (fun _ => true) true Try.f7.params.toList args.toList ds p := hA0
  rw [Try.params7] at hA hval
  obtain ⟨v0, d0, rfl, rfl, h0⟩ := trodAll_one hA
  obtain ⟨rfl, rfl⟩ := trodVars_none hV
  obtain ⟨l_List, h_v_List, hb_List⟩ := open_BoxS (hval 0 47 v0 rfl rfl) h0
  refine (FnExactBoxesOk_of keeps_true specBoxesOk_c (implBoxesOk_c (G := fun _ => True)) l_List v0 W trivial h_v_List hb_List).mono fun e W' ⟨he, hb⟩ => ?_
  subst he
  exact ⟨_, rfl, law_post Try.laidOut Try.underlying4 rfl (by rw [Try.params7]; intro t ht; simp at ht; subst ht; exact ⟨by kernel_rfl, of_decide_eq_true (by kernel_rfl)⟩) rfl rfl rfl rfl hW' hb⟩

theorem fnExactBoxesOk_holds : Rows.FnExactBoxesOkSaid :=
  OpenClaim.holds_of_wide 7 Try.f7 rfl rfl rfl rfl rfl rfl rfl ⟨rfl, rfl, rfl, rfl, rfl⟩ rfl rfl rfl rfl rfl (by kernel_rfl) Try.func7 (by kernel_rfl)
    (of_decide_eq_true (by kernel_rfl)) (by unfold Func.isWrapper; first | (rw [if_pos (by decide +kernel)]; kernel_rfl) | (rw [if_neg (by decide +kernel)]; exact ⟨rfl, rfl⟩))
    (fun os started H enc _ => fnExactBoxesOk_lifted os started H enc)

end Go.Proofs.Ytboinphhpfggnaa
