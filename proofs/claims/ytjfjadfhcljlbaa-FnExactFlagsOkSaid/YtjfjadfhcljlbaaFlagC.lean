/-
  Chapter 5: draws, the exact laws and FnFlags, out of what the program's functions answer.
-/
import Derived.Test.YtjfjadfhcljlbaaFlagB
import Derived.Test.YtjfjadfhcljlbaaDrawW
import Derived.Test.YtjfjadfhcljlbaaEnv
import Derived.Handy
namespace Go.Proofs.Ytjfjadfhcljlbaa
open Go.RowKit

def ImplFlagsOk (G : World → Prop) : Prop := ∀ (n : Int) (W : World), G W → in64 n → Calls Try.prog 8 #[.int .i64 n] W fun e w' => e = .returned (.bool (flB n)) ∧ Below W.heap.size W w'

def ImplChanged (G : World → Prop) : Prop := ∀ (op old new : Int) (W : World), G W → in64 op → in64 old → in64 new → Calls Try.prog 10 #[.int .i64 op, .int .i64 old, .int .i64 new] W fun e w' => e = .returned (.int .i64 (chg op old new)) ∧ Below W.heap.size W w'

def ImplOpText (G : World → Prop) : Prop := ∀ (op : Int) (W : World), G W → in64 op → Calls Try.prog 12 #[.int .i64 op] W fun e w' => e = .returned (sv (opT op)) ∧ Below W.heap.size W w'

def ImplReadOp (G : World → Prop) : Prop := ∀ (s : List UInt8) (W : World), G W → s.length ≤ 1048576 → Calls Try.prog 14 #[sv s] W fun e w' => e = .returned (opV (rdOp s)) ∧ Below W.heap.size W w'

theorem FnExactFlagsOk_of {G : World → Prop} (IS : ImplFlagsOk G) (n : Int) (w : World) (hG : G w) (hn : in64 n) :
    Calls Try.prog 3 #[.int .i64 n] w fun e w' => e = .returned (.bool true) ∧ Below w.heap.size w w' := by
  have C1 := Lib.hid (fun W => specFlagsOk_any n W)
  have C2 := Lib.hid (IS n w hG hn)
  clear IS
  generalize flB n = b at *
  go_enter Try.func3, Try.ntmps3
  go_wp2_with fail
  refine (C1.out _).mono ?_
  rintro e w1 ⟨rfl, rfl⟩
  go_wp2_with fail
  refine (C2.out).mono ?_
  rintro e w2 ⟨rfl, b2⟩
  go_wp2
  go_ret
  exact ⟨rfl, b2⟩

theorem FnExactChanged_of {G : World → Prop} (IS : ImplChanged G) (op old new : Int) (w : World) (hG : G w) (h1 : in64 op) (h2 : in64 old) (h3 : in64 new) :
    Calls Try.prog 4 #[.int .i64 op, .int .i64 old, .int .i64 new] w fun e w' => e = .returned (.bool true) ∧ Below w.heap.size w w' := by
  have C1 := Lib.hid (fun W => specChanged_any op old new W)
  have C2 := Lib.hid (IS op old new w hG h1 h2 h3)
  clear IS
  generalize chg op old new = b at *
  go_enter Try.func4, Try.ntmps4
  go_wp2_with fail
  refine (C1.out _).mono ?_
  rintro e w1 ⟨rfl, rfl⟩
  go_wp2_with fail
  refine (C2.out).mono ?_
  rintro e w2 ⟨rfl, b2⟩
  go_wp2
  go_ret
  exact ⟨rfl, b2⟩

theorem FnExactOpText_of {G : World → Prop} (hK : Keeps G) (IS : ImplOpText G) (n : Int) (w : World) (hG : G w) (hn : in64 n) :
    Calls Try.prog 5 #[.int .i64 n] w fun e w' => e = .returned (.bool true) ∧ Below w.heap.size w w' := by
  have C1 := Lib.hid (fun W => specOpText_any n W)
  have C2 := Lib.hid (fun W hg => IS n W hg hn)
  clear IS
  generalize opT n = b at *
  go_enter Try.func5, Try.ntmps5
  go_wp2_with fail
  refine (C1.out _).mono ?_
  rintro e w1 ⟨rfl, b1⟩
  go_wp2_with fail
  refine (C2.out _ (hK _ _ hG b1)).mono ?_
  rintro e w2 ⟨rfl, b2⟩
  have hb2 := b1.trans (b2.mono b1.size)
  go_wp2
  go_ret
  exact ⟨rfl, hb2⟩

theorem opV_parts (o : Option Int) : ∃ (n : Int) (b : Bool), opV o = .tuple #[.int .i64 n, .bool b] := by
  cases o with
  | none => exact ⟨_, _, rfl⟩
  | some n => exact ⟨_, _, rfl⟩
theorem rdV_parts (o : Option Nat) : ∃ (n : Int) (b : Bool), rdV o = .tuple #[.int .i64 n, .bool b] := by
  cases o with
  | none => exact ⟨_, _, rfl⟩
  | some n => exact ⟨_, _, rfl⟩

theorem FnExactReadOp_of {G : World → Prop} (hK : Keeps G) (IS : ImplReadOp G) (s : List UInt8) (w : World) (hG : G w) :
    Calls Try.prog 6 #[sv s] w fun e w' => e = .returned (.bool true) ∧ Below w.heap.size w w' := by
  have hz : (ByteArray.mk s.toArray).size = s.length := by show s.toArray.size = _; simp
  by_cases hbig : s.length ≤ 1048576
  · have c1 := fun W => specReadOp_any s W
    have c2 := fun W hg => IS s W hg hbig
    obtain ⟨n, b, hV⟩ := opV_parts (rdOp s)
    rw [hV] at c1 c2
    have C1 := Lib.hid c1
    have C2 := Lib.hid c2
    have hbi : ¬ (1048576 : Int) < (s.length : Int) := by omega
    clear IS c1 c2 hV
    go_enter Try.func6, Try.ntmps6
    go_wp2_with fail
    refine (C1.out _).mono ?_
    rintro e w1 ⟨rfl, b1⟩
    go_wp2_with fail
    refine (C2.out _ (hK _ _ hG b1)).mono ?_
    rintro e w2 ⟨rfl, b2⟩
    have hb2 := b1.trans (b2.mono b1.size)
    go_wp2
    go_ret
    exact ⟨rfl, hb2⟩
  · have hbi : (1048576 : Int) < (s.length : Int) := by omega
    go_enter Try.func6, Try.ntmps6
    go_wp2
    go_ret
    exact ⟨rfl, Below.refl _ _⟩

theorem szl_mem : ∀ (l : List (List UInt8)) (x : List UInt8), x ∈ l → x.length ≤ szl l
  | a :: l, x, h => by
    have e : szl (a :: l) = a.length + szl l := by simp [szl]
    rcases List.mem_cons.1 h with rfl | h
    · omega
    · have := szl_mem l x h; omega

end Go.Proofs.Ytjfjadfhcljlbaa
