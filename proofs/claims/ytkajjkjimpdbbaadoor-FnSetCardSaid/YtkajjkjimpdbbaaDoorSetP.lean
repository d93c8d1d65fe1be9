/-
  Chapter 4: the exact laws of SetText and ReadSet, out of what the program's functions answer.
-/
import Derived.Test.YtkajjkjimpdbbaaDoorSetO
namespace Go.Proofs.YtkajjkjimpdbbaaDoor
open Go.RowKit

def ImplSetText (G : World → Prop) : Prop := ∀ (v : Value) (l : List Spn) (W : World), G W → Rd 2 spnc W v l → l.length ≤ 1048576 → (∀ t ∈ l, rgS t) →
  Calls Tryd.prog 6 #[v] W fun e w' => e = .returned (sv (setT l)) ∧ Below W.heap.size W w'

def ImplReadSet (G : World → Prop) : Prop := ∀ (s : ByteArray) (W : World), G W → s.size ≤ 1048576 →
  Calls Tryd.prog 7 #[.string s] W fun e w' => SetPost (readS s.data.toList) W e w'

end Go.Proofs.YtkajjkjimpdbbaaDoor
