/-
  Chapter 6: the exact law of FilterTokens, out of what the program's function answers.
-/
import Derived.Test.YthihjelcakenpaaFilM
import Derived.Test.YthihjelcakenpaaFilN
import Derived.Test.YthihjelcakenpaaGf
namespace Go.Proofs.Ythihjelcakenpaa
open Go.RowKit

theorem mkEnd_scw : ∀ (l : List Scp) (k : Nat), mkEnd l k ≤ k + 2 * l.length + scw l
  | [], k => by simp [mkEnd]
  | s :: r, k => by
    have := mkEnd_scw r (k + 2 + s.names.length)
    simp only [mkEnd, scw, List.length_cons]
    omega
theorem fTks_len (f : Flt) : (fTks f).length ≤ 50 := by
  unfold fTks
  split
  · rename_i h
    obtain ⟨h1, h2⟩ := filter_parts h
    split
    · have := scTks_take h1 f.scopes.length
      rw [List.take_length] at this
      simp only [List.length_cons]
      omega
    · simp
  · simp

end Go.Proofs.Ythihjelcakenpaa
