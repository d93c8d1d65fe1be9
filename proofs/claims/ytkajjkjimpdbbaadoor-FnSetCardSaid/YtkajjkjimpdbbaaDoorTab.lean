/-
  The table that strconv.Itoa reads, and Digits by it.
-/
import Derived.Test.YtkajjkjimpdbbaaDoorDigits
import Derived.Test.YtkajjkjimpdbbaaDoorShelf
import Derived.Lib.LaidTab
import Derived.Lib.AppendIntMem
namespace Go.Proofs.YtkajjkjimpdbbaaDoor
open Go.RowKit
open Go.Lib (decDigits itoa)

theorem gTab : Tryd.prog.globalNamed "internal/strconv.uint64pow10" = some 1 := by kernel_rfl

theorem gTabType : (Tryd.prog.globals[1]?).map (·.type) = some 88 := by kernel_rfl

theorem gTabUnder : Tryd.prog.underlying 88 = some (.array 20 82) := by kernel_rfl

theorem gTabOne : Tryd.prog.cellsOf 82 = 1 := by kernel_rfl

theorem gTabCells : Tryd.prog.cellsOf 88 = 20 := by kernel_rfl

/-- The table of powers of ten stands in the world. -/
structure Tab (w : World) : Prop where
  tab : Lib.TabIs Tryd.prog w "internal/strconv.uint64pow10" .u64 Lib.pow10Tab
  lt : 1 < w.heap.size

theorem Tab.of_laid {w : World} (h : Lib.TabIs Tryd.prog w "internal/strconv.uint64pow10" .u64 Lib.pow10Tab) : Tab w :=
  ⟨h, World.block_lt_of_cell? w _ (h.cell gTab 0 (by decide))⟩

theorem Tab.below {w w' : World} (h : Tab w) (hb : Below w.heap.size w w') : Tab w' :=
  ⟨var?_below hb gTab h.lt h.tab, Nat.lt_of_lt_of_le h.lt hb.size⟩

theorem implDigits_any (n : Int) (w : World) (hT : Tab w) (h0 : -9223372036854775808 ≤ n) (h1 : n ≤ 9223372036854775807) :
    Calls Tryd.prog 39 #[.int .i64 n] w fun e w' => e = .returned (sv (itoa n)) ∧ Below w.heap.size w w' := by
  have HT := Lib.hid hT
  clear hT
  go_enter Tryd.func39, Tryd.ntmps39
  go_wp2_with fail
  refine (Tryd.strconv_Itoa n h0 h1 _ HT.out.tab).mono ?_
  rintro e w1 ⟨rfl, k, os, hw⟩
  have hb : Below w.heap.size w w1 := by rw [hw]; exact Lib.below_grow _ w (Nat.le_refl _) k os
  clear hw
  go_wp2
  go_ret
  exact ⟨rfl, hb⟩

theorem i64_of {n : Int} (h : (Lit.int .i64 n).wf = true) : -9223372036854775808 ≤ n ∧ n ≤ 9223372036854775807 := by
  simpa [Lit.wf, IntKind.min, IntKind.max, IntKind.signed, IntKind.bits] using h

end Go.Proofs.YtkajjkjimpdbbaaDoor
