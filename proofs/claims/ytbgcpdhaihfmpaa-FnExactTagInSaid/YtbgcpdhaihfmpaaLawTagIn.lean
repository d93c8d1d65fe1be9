/-
  The exact law of TagIn out of what the two functions answer (made by tools/lawc.py).
-/
import Derived.Test.YtbgcpdhaihfmpaaTagA
import Derived.Test.YtbgcpdhaihfmpaaGa
namespace Go.Proofs.Ytbgcpdhaihfmpaa
open Go.RowKit

def CtrTagIn (f : FuncId) (G : World → Prop) : Prop := ∀ (s_Line : List UInt8) (W : World), G W → s_Line.length ≤ 1048576 → 
  Calls Try.prog f #[sv s_Line] W fun e w' => e = .returned (sv (tagInL s_Line)) ∧ Below W.heap.size W w'

set_option maxRecDepth 20000 in
set_option maxHeartbeats 12800000 in
theorem FnExactTagIn_of {G : World → Prop} (hK : Keeps G) (SP : CtrTagIn 4 (fun _ => True)) (IM : CtrTagIn 5 G) (s_Line : List UInt8) (w : World) (hG : G w) (hb_Line : s_Line.length ≤ 9223372036854775807) :
    Calls Try.prog 3 #[sv s_Line] w fun e w' => e = .returned (.bool true) ∧ Below w.heap.size w w' := by
  have bz_Line : (ByteArray.mk s_Line.toArray).size = s_Line.length := by show s_Line.toArray.size = _; simp
  by_cases hl_Line : s_Line.length ≤ 1048576
  case neg =>
    have hi_Line : (1048576 : Int) < (s_Line.length : Int) := by omega
    clear SP IM
    have hb : Below w.heap.size w w := Below.refl _ _
    go_enter Try.func3, Try.ntmps3
    have hbz := Lib.hid hb.size
    go_wp2
    go_ret
    exact ⟨rfl, hb⟩
  have hi_Line : ¬ (1048576 : Int) < (s_Line.length : Int) := by omega
  have C_spec := Lib.hid (fun  (W : World)  => SP s_Line W trivial hl_Line)
  have C_impl := Lib.hid (fun  (W : World) (hg : G W)  => IM s_Line W hg hl_Line)
  clear SP IM
  generalize (tagInL s_Line) = R0 at *
  have ne0 : (R0 != R0) = false := by simp
  have hb : Below w.heap.size w w := Below.refl _ _
  go_enter Try.func3, Try.ntmps3
  have hbz := Lib.hid hb.size
  go_wp2_with fail
  refine (C_spec.out _ ).mono ?_
  rintro e w1 ⟨rfl, b2⟩
  have hz3 : w.heap.size ≤ w1.heap.size := b2.size
  replace hb := hb.trans (b2.mono hb.size)
  clear b2
  go_wp2_with fail
  refine (C_impl.out _ (hK _ _ hG hb) ).mono ?_
  rintro e w4 ⟨rfl, b5⟩
  have hz6 : w1.heap.size ≤ w4.heap.size := b5.size
  replace hb := hb.trans (b5.mono hb.size)
  clear b5
  go_wp2
  go_ret
  exact ⟨rfl, hb⟩

end Go.Proofs.Ytbgcpdhaihfmpaa
