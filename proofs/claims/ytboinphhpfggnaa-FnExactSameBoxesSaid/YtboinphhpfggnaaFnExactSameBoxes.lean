/-
  For every two slices of mailboxes laws.FnExactSameBoxes returns true.
-/
import Derived.Test.YtboinphhpfggnaaBoxK
import Derived.Test.YtboinphhpfggnaaBoxC
import Derived.Test.YtboinphhpfggnaaLawS
import Derived.Test.YtboinphhpfggnaaLgO
import Derived.Test.YtboinphhpfggnaaOpBox
namespace Go.Proofs.Ytboinphhpfggnaa
open Go.ChangeShapes Go.WideShapes Go.ChangeAt Go.RowKit
open Go.ChangeMaps (open_string)

set_option maxRecDepth 100000 in
theorem fnExactSameBoxes_lifted (os : Os) (started : os.Started) (H : Type) (enc : TypeId × Value → H) :
    ReturnsInHanded {} Try.checked os 11 .any (Rows.fnExactSameBoxesSpec.pre6 enc Try.prog Try.f11 Rows.fnExactSameBoxesRow.domain false) (Rows.fnExactSameBoxesSpec.post enc Try.prog Try.f11 false true false false) := by
  refine returnsInHanded_of_change (C := Try.checked) Try.own started (by kernel_rfl) Try.func11
    (ChangeSpec.witness6 (enc := enc) (C := Try.checked) false ⟨#[], #[.slice none 0 0, .slice none 0 0], []⟩ 8 (by kernel_rfl) (by kernel_rfl) (by kernel_rfl) (by kernel_rfl)) ?_
  intro W base args ds gs before hval0 hW _ _
  have hval : ∀ (j : Nat) t v, Try.f11.params[j]? = some t → args[j]? = some v → Value.okWide Try.prog W .any base t v := hval0
  have hW' := hW
  obtain ⟨p, q, hA0, hV, rfl, _, _⟩ := hW
  have hA : DataW.TrodAll enc Try.prog W 0 (fun _ => true) true Try.f11.params.toList args.toList ds p := hA0
  rw [Try.params11] at hA hval
  obtain ⟨v0, v1, d0, d1, p0, p1, rfl, rfl, rfl, h0, h1⟩ := trodAll_two hA
  obtain ⟨rfl, rfl⟩ := trodVars_none hV
  obtain ⟨l_A, h_v_A, hb_A⟩ := open_BoxS (hval 0 47 v0 rfl rfl) h0
  obtain ⟨l_B, h_v_B, hb_B⟩ := open_BoxS (hval 1 47 v1 rfl rfl) h1
  refine (FnExactSameBoxes_of keeps_true specSameBoxes_c (implSameBoxes_c (G := fun _ => True)) l_A v0 l_B v1 W trivial h_v_A hb_A h_v_B hb_B).mono fun e W' ⟨he, hb⟩ => ?_
  subst he
  exact ⟨_, rfl, law_post Try.laidOut Try.underlying4 rfl (by rw [Try.params11]; intro t ht; simp at ht; subst ht; exact ⟨by kernel_rfl, of_decide_eq_true (by kernel_rfl)⟩) rfl rfl rfl rfl hW' hb⟩

theorem fnExactSameBoxes_holds : Rows.FnExactSameBoxesSaid :=
  OpenClaim.holds_of_wide 11 Try.f11 rfl rfl rfl rfl rfl rfl rfl ⟨rfl, rfl, rfl, rfl, rfl⟩ rfl rfl rfl rfl rfl (by kernel_rfl) Try.func11 (by kernel_rfl)
    (of_decide_eq_true (by kernel_rfl)) (by unfold Func.isWrapper; first | (rw [if_pos (by decide +kernel)]; kernel_rfl) | (rw [if_neg (by decide +kernel)]; exact ⟨rfl, rfl⟩))
    (fun os started H enc _ => fnExactSameBoxes_lifted os started H enc)

end Go.Proofs.Ytboinphhpfggnaa
