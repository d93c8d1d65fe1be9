/-
  What the library's search in strings asks of the memory: its variable holds some number. No program is read here but its table of variables.
-/
import Derived.Test.YtbgcpdhaihfmpaaGa
namespace Go.Proofs.Ytbgcpdhaihfmpaa
open Go.RowKit

def Mx (W : World) : Prop := ∃ m, W.cell? ⟨0, 0, none⟩ = some (.int .i64 m)
theorem Mx.below {w w' : World} (h : Mx w) (hb : Below w.heap.size w w') : Mx w' := by
  obtain ⟨m, hm⟩ := h
  exact ⟨m, (hb.cell (p := ⟨0, 0, none⟩) (World.block_lt_of_cell? _ _ hm)).trans hm⟩
theorem bdN {B : Nat} {a w : World} (h : Below B a w) (n : Nat) : Below B a (w.drewN n) := ⟨h.os, h.tape, h.output, h.size, h.block⟩

end Go.Proofs.Ytbgcpdhaihfmpaa
