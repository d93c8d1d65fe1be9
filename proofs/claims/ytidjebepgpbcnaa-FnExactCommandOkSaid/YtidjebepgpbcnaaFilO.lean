/-
  Chapter 6: the exact law of SameFilter, out of what the program's function answers.
-/
import Derived.Test.YtidjebepgpbcnaaFilI
import Derived.Test.YtidjebepgpbcnaaFilN
namespace Go.Proofs.Ytidjebepgpbcnaa
open Go.RowKit

def ImplSameFilter (G : World → Prop) : Prop := ∀ (f g : Flt) (va vb : Value) (W : World), G W → LfRd W (scpsLf f.scopes) va → LfRd W (scpsLf g.scopes) vb → f.scopes.length ≤ 1048576 → g.scopes.length ≤ 1048576 → (∀ s ∈ f.scopes, s.names.length ≤ 1048576 ∧ ∀ x ∈ s.names, x.length ≤ 1048576) → (∀ s ∈ g.scopes, s.names.length ≤ 1048576 ∧ ∀ x ∈ s.names, x.length ≤ 1048576) → (∀ s ∈ f.scopes, in64 s.kind ∧ in64 s.events) → (∀ s ∈ g.scopes, in64 s.kind ∧ in64 s.events) →
  Calls Try.prog 37 #[.agg #[.bool f.on, va], .agg #[.bool g.on, vb]] W fun e w' => e = .returned (.bool (decide (f = g))) ∧ Below W.heap.size W w'

end Go.Proofs.Ytidjebepgpbcnaa
