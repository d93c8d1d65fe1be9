/-
  For every slice of mailboxes and every number laws.FnExactBoxWith returns true.
-/
import Derived.Test.YtboinphhpfggnaaBoxI
import Derived.Test.YtboinphhpfggnaaBoxB
import Derived.Test.YtboinphhpfggnaaLawS
import Derived.Test.YtboinphhpfggnaaLgO
import Derived.Test.YtboinphhpfggnaaOpBox
import Derived.Test.YtboinphhpfggnaaLawN
namespace Go.Proofs.Ytboinphhpfggnaa
open Go.ChangeShapes Go.WideShapes Go.ChangeAt Go.RowKit
open Go.ChangeMaps (open_string)

set_option maxRecDepth 100000 in
theorem fnExactBoxWith_lifted (os : Os) (started : os.Started) (H : Type) (enc : TypeId × Value → H) :
    ReturnsInHanded {} Try.checked os 9 .any (Rows.fnExactBoxWithSpec.pre6 enc Try.prog Try.f9 Rows.fnExactBoxWithRow.domain false) (Rows.fnExactBoxWithSpec.post enc Try.prog Try.f9 false true false false) := by
  refine returnsInHanded_of_change (C := Try.checked) Try.own started (by kernel_rfl) Try.func9
    (ChangeSpec.witness6 (enc := enc) (C := Try.checked) false ⟨#[], #[.slice none 0 0, .int .i64 0], []⟩ 8 (by kernel_rfl) (by kernel_rfl) (by kernel_rfl) (by kernel_rfl)) ?_
  intro W base args ds gs before hval0 hW _ _
  have hval : ∀ (j : Nat) t v, Try.f9.params[j]? = some t → args[j]? = some v → Value.okWide Try.prog W .any base t v := hval0
  have hW' := hW
  obtain ⟨p, q, hA0, hV, rfl, _, _⟩ := hW
  have hA : DataW.TrodAll enc Try.prog W 0 (fun _ => true) true Try.f9.params.toList args.toList ds p := hA0
  rw [Try.params9] at hA hval
  obtain ⟨v0, v1, d0, d1, p0, p1, rfl, rfl, rfl, h0, h1⟩ := trodAll_two hA
  obtain ⟨rfl, rfl⟩ := trodVars_none hV
  obtain ⟨l_List, h_v_List, hb_List⟩ := open_BoxS (hval 0 47 v0 rfl rfl) h0
  obtain ⟨n_Validity, rfl, rfl, rfl, hn_Validity⟩ := open_int Try.underlying3 (hval 1 3 v1 rfl rfl) h1
  refine (FnExactBoxWith_of keeps_true specBoxWith_c (implBoxWith_c (G := fun _ => True)) l_List v0 n_Validity W trivial h_v_List hb_List (in64_of hn_Validity)).mono fun e W' ⟨he, hb⟩ => ?_
  subst he
  exact ⟨_, rfl, law_post Try.laidOut Try.underlying4 rfl (by rw [Try.params9]; intro t ht; simp at ht; rcases ht with rfl | rfl <;> exact ⟨by kernel_rfl, of_decide_eq_true (by kernel_rfl)⟩) rfl rfl rfl rfl hW' hb⟩

theorem fnExactBoxWith_holds : Rows.FnExactBoxWithSaid :=
  OpenClaim.holds_of_wide 9 Try.f9 rfl rfl rfl rfl rfl rfl rfl ⟨rfl, rfl, rfl, rfl, rfl⟩ rfl rfl rfl rfl rfl (by kernel_rfl) Try.func9 (by kernel_rfl)
    (of_decide_eq_true (by kernel_rfl)) (by unfold Func.isWrapper; first | (rw [if_pos (by decide +kernel)]; kernel_rfl) | (rw [if_neg (by decide +kernel)]; exact ⟨rfl, rfl⟩))
    (fun os started H enc _ => fnExactBoxWith_lifted os started H enc)

end Go.Proofs.Ytboinphhpfggnaa
