/-
  Chapter 4: the exact laws of SetOk, Members, MembersOf, out of what the program's functions answer.
-/
import Derived.Test.YtkajjkjimpdbbaaDoorSetF
namespace Go.Proofs.YtkajjkjimpdbbaaDoor
open Go.RowKit

def ImplSetOk (G : World → Prop) : Prop := ∀ (v : Value) (l : List Spn) (W : World), G W → Rd 2 spnc W v l → l.length ≤ 1048576 → (∀ t ∈ l, rgS t) →
  Calls Tryd.prog 12 #[v] W fun e w' => e = .returned (.bool (setB l)) ∧ Below W.heap.size W w'

end Go.Proofs.YtkajjkjimpdbbaaDoor
