/-
  Chapter 7, the model: SameCommand as its exact law asks it; what a valid command is.
-/
import Derived.Test.YtidjebepgpbcnaaLawSameCommand
import Derived.Test.YtidjebepgpbcnaaGg
namespace Go.Proofs.Ytidjebepgpbcnaa
open Go.RowKit

/-- What the sizes of a command say of its rows. -/
theorem CmdD.small {x : CmdD} (h : szLs x.lf ≤ 1048576) : x.tag.length ≤ 1048576 ∧ x.box.length ≤ 1048576 ∧ x.to.length ≤ 1048576 ∧ x.sset.length ≤ 1048576 ∧ x.text.length ≤ 1048576 ∧ x.filter.scopes.length ≤ 1048576 ∧ ∀ s ∈ x.filter.scopes, s.names.length ≤ 1048576 ∧ ∀ y ∈ s.names, y.length ≤ 1048576 := by
  have h1 := CmdD.sz x
  have h2 : szLf (spnsLf x.sset) = x.sset.length + szLs (x.sset.flatMap Spn.lf) := rfl
  have h3 : szLf (scpsLf x.filter.scopes) = x.filter.scopes.length + szLs (x.filter.scopes.flatMap Scp.lf) := rfl
  refine ⟨by omega, by omega, by omega, by omega, by omega, by omega, fun s hs => ?_⟩
  have h4 := szLs_mem Scp.lf hs
  rw [Scp.sz, szLf_strs] at h4
  refine ⟨by omega, fun y hy => ?_⟩
  have : y.length ≤ szl s.names := by
    clear h4 hs
    generalize s.names = l at hy
    induction l with
    | nil => cases hy
    | cons a l ih =>
      have e : szl (a :: l) = a.length + szl l := by simp [szl]
      rcases List.mem_cons.1 hy with rfl | hy
      · omega
      · have := ih hy; omega
  omega

theorem specSameCommand_c : CtrSameCommand 14 (fun _ => True) := fun x r5 r10 y s5 s10 W _ h1 h2 hs _ h3 h4 _ _ => by
  obtain ⟨_, _, _, b4, _, b6, b7⟩ := CmdD.small hs
  exact specSameCommand_any x y r5 r10 s5 s10 W h1 h2 h3 h4 (by omega) (by omega) (fun s hm => by have := (b7 s hm).1; omega)

/-- A valid command. -/
def cmdB (c : CmdD) : Bool :=
  tagB c.tag && (decide (1 ≤ c.kind) && decide (c.kind ≤ 15)) && decide (saidC c = c) &&
  (!boxedB c.kind || nameB c.box) && (!(c.kind == 14) || nameB c.to) && (!setsB c.kind || setB c.sset) && (!(c.kind == 8) || (decide (1 ≤ c.op) && decide (c.op ≤ 3))) &&
  flB c.flags && decide ((c.text.length : Int) ≤ 40) && filterB c.filter

end Go.Proofs.Ytidjebepgpbcnaa
