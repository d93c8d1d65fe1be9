/-
  Chapter 4: the exact laws of SetOk, Members, MembersOf, out of what the program's functions answer.
-/
import Derived.Test.YtidjebepgpbcnaaSetF
namespace Go.Proofs.Ytidjebepgpbcnaa
open Go.RowKit

def ImplSetOk (G : World → Prop) : Prop := ∀ (v : Value) (l : List Spn) (W : World), G W → Rd 2 spnc W v l → l.length ≤ 1048576 → (∀ t ∈ l, rgS t) →
  Calls Try.prog 45 #[v] W fun e w' => e = .returned (.bool (setB l)) ∧ Below W.heap.size W w'

theorem lenR_yes {left n : Nat} (h : n ≤ left) : lenR left n = ((left - n : Nat) : Int) := if_pos h
theorem lenR_no {left n : Nat} (h : ¬ n ≤ left) : lenR left n = -1 := if_neg h

end Go.Proofs.Ytidjebepgpbcnaa
