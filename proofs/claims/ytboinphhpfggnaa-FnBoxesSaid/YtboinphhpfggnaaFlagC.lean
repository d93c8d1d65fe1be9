/-
  Chapter 5: draws, the exact laws and FnFlags, out of what the program's functions answer.
-/
import Derived.Test.YtboinphhpfggnaaFlagB
import Derived.Test.YtboinphhpfggnaaGd
import Derived.Test.YtboinphhpfggnaaGa
import Derived.Handy
namespace Go.Proofs.Ytboinphhpfggnaa
open Go.RowKit

def ImplFlagsOk (G : World → Prop) : Prop := ∀ (n : Int) (W : World), G W → in64 n → Calls Try.prog 71 #[.int .i64 n] W fun e w' => e = .returned (.bool (flB n)) ∧ Below W.heap.size W w'

theorem opV_parts (o : Option Int) : ∃ (n : Int) (b : Bool), opV o = .tuple #[.int .i64 n, .bool b] := by
  cases o with
  | none => exact ⟨_, _, rfl⟩
  | some n => exact ⟨_, _, rfl⟩
theorem rdV_parts (o : Option Nat) : ∃ (n : Int) (b : Bool), rdV o = .tuple #[.int .i64 n, .bool b] := by
  cases o with
  | none => exact ⟨_, _, rfl⟩
  | some n => exact ⟨_, _, rfl⟩

theorem szl_mem : ∀ (l : List (List UInt8)) (x : List UInt8), x ∈ l → x.length ≤ szl l
  | a :: l, x, h => by
    have e : szl (a :: l) = a.length + szl l := by simp [szl]
    rcases List.mem_cons.1 h with rfl | h
    · omega
    · have := szl_mem l x h; omega

end Go.Proofs.Ytboinphhpfggnaa
