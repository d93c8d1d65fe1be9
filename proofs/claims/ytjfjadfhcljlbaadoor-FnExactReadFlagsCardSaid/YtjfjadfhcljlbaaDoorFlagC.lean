/-
  Chapter 5: draws, the exact laws and FnFlags, out of what the program's functions answer.
-/
import Derived.Test.YtjfjadfhcljlbaaDoorFlagB
import Derived.Test.YtjfjadfhcljlbaaDoorDrawW
import Derived.Test.YtjfjadfhcljlbaaDoorEnv
import Derived.Handy
namespace Go.Proofs.YtjfjadfhcljlbaaDoor
open Go.RowKit

def ImplFlagsOk (G : World → Prop) : Prop := ∀ (n : Int) (W : World), G W → in64 n → Calls Tryd.prog 10 #[.int .i64 n] W fun e w' => e = .returned (.bool (flB n)) ∧ Below W.heap.size W w'

def ImplFlagsText (G : World → Prop) : Prop := ∀ (n : Int) (W : World), G W → in64 n → Calls Tryd.prog 12 #[.int .i64 n] W fun e w' => e = .returned (sv (flT n)) ∧ Below W.heap.size W w'

def ImplReadFlags (G : World → Prop) : Prop := ∀ (v : Value) (l : List (List UInt8)) (W : World), G W → Rd1 sv W v l → l.length ≤ 1048576 → (∀ x ∈ l, x.length ≤ 1048576) → Calls Tryd.prog 13 #[v] W fun e w' => e = .returned (rdV (rdF 0 l)) ∧ Below W.heap.size W w'

def ImplChanged (G : World → Prop) : Prop := ∀ (op old new : Int) (W : World), G W → in64 op → in64 old → in64 new → Calls Tryd.prog 8 #[.int .i64 op, .int .i64 old, .int .i64 new] W fun e w' => e = .returned (.int .i64 (chg op old new)) ∧ Below W.heap.size W w'

theorem FnExactFlagsText_of {G : World → Prop} (hK : Keeps G) (IS : ImplFlagsText G) (n : Int) (w : World) (hG : G w) (hn : in64 n) :
    Calls Tryd.prog 4 #[.int .i64 n] w fun e w' => e = .returned (.bool true) ∧ Below w.heap.size w w' := by
  have C1 := Lib.hid (fun W => specFlagsText_any n W)
  have C2 := Lib.hid (fun W hg => IS n W hg hn)
  clear IS
  generalize flT n = b at *
  go_enter Tryd.func4, Tryd.ntmps4
  go_wp2_with fail
  refine (C1.out _).mono ?_
  rintro e w1 ⟨rfl, b1⟩
  go_wp2_with fail
  refine (C2.out _ (hK _ _ hG b1)).mono ?_
  rintro e w2 ⟨rfl, b2⟩
  have hb2 := b1.trans (b2.mono b1.size)
  go_wp2
  go_ret
  exact ⟨rfl, hb2⟩

theorem opV_parts (o : Option Int) : ∃ (n : Int) (b : Bool), opV o = .tuple #[.int .i64 n, .bool b] := by
  cases o with
  | none => exact ⟨_, _, rfl⟩
  | some n => exact ⟨_, _, rfl⟩
theorem rdV_parts (o : Option Nat) : ∃ (n : Int) (b : Bool), rdV o = .tuple #[.int .i64 n, .bool b] := by
  cases o with
  | none => exact ⟨_, _, rfl⟩
  | some n => exact ⟨_, _, rfl⟩

theorem szl_mem : ∀ (l : List (List UInt8)) (x : List UInt8), x ∈ l → x.length ≤ szl l
  | a :: l, x, h => by
    have e : szl (a :: l) = a.length + szl l := by simp [szl]
    rcases List.mem_cons.1 h with rfl | h
    · omega
    · have := szl_mem l x h; omega

set_option maxHeartbeats 1600000 in
theorem FnExactReadFlags_of {G : World → Prop} (hK : Keeps G) (IS : ImplReadFlags G) (v : Value) (l : List (List UInt8)) (w : World) (hG : G w) (hr : Rd1 sv w v l) (hl : l.length ≤ 9223372036854775807) (hx : ∀ x ∈ l, x.length ≤ 9223372036854775807) :
    Calls Tryd.prog 5 #[v] w fun e w' => e = .returned (.bool true) ∧ Below w.heap.size w w' := by
  have c1 := fun W (h : Rd1 sv W v l) => szStringS_any v l 1048576 W h hl hx (by omega)
  have HR := Lib.hid hr
  clear hr
  by_cases hok : l.length + szl l ≤ 1048576
  · rw [szR_yes hok] at c1
    have C1 := Lib.hid c1
    have hsm : ∀ x ∈ l, x.length ≤ 1048576 := fun x hx => by have := szl_mem l x hx; omega
    have CT := Lib.hid (fun W (h : Rd1 sv W v l) => toStringS_any v l W h (by omega))
    have cs := fun u W (h : Rd1 sv W u l) => specReadFlags_any u l W h (by omega) hsm
    have ci := fun u W (hg : G W) (h : Rd1 sv W u l) => IS u l W hg h (by omega) hsm
    obtain ⟨n, b, hV⟩ := rdV_parts (rdF 0 l)
    rw [hV] at cs ci
    have CS := Lib.hid cs
    have CI := Lib.hid ci
    have hnn : ¬ ((1048576 - (l.length + szl l) : Nat) : Int) < 0 := by omega
    have hlen : l.length ≤ 1048576 := by omega
    clear c1 IS hx hsm cs ci hV
    go_enter Tryd.func5, Tryd.ntmps5
    go_wp2_with fail
    refine (C1.out _ HR.out).mono ?_
    rintro e w1 ⟨rfl, b1⟩
    go_wp2_with fail
    refine (CT.out _ (HR.out.below b1)).mono ?_
    rintro e w2 ⟨g2, rfl, o2, b2⟩
    have hb2 := b1.trans (b2.mono b1.size)
    have S2 := Lib.hid (CS.out _ _ (Rd1.of_own o2))
    clear o2 b1 b2
    go_wp2_with fail
    refine (S2.out).mono ?_
    rintro e w3 ⟨rfl, b3⟩
    have hb3 := hb2.trans (b3.mono hb2.size)
    clear hb2 b3 S2
    go_wp2_with fail
    refine (CT.out _ (HR.out.below hb3)).mono ?_
    rintro e w4 ⟨g4, rfl, o4, b4⟩
    have hb4 := hb3.trans (b4.mono hb3.size)
    have S4 := Lib.hid (CI.out _ _ (hK _ _ hG hb4) (Rd1.of_own o4))
    clear hb3 b4
    go_wp2_with fail
    refine (S4.out).mono ?_
    rintro e w5 ⟨rfl, b5⟩
    have o5 := ownsRow_below o4 b5
    have hb5 := hb4.trans (b5.mono hb4.size)
    clear b5 hb4 o4 S4
    go_wp2_with fail
    refine (CT.out _ (HR.out.below hb5)).mono ?_
    rintro e w6 ⟨g6, rfl, o6, b6⟩
    have o5' := ownsRow_below o5 b6
    have E6 := Lib.hid (eqStringS_same _ _ l _ (Rd1.of_own o5') (Rd1.of_own o6) (by omega))
    have hb6 := hb5.trans (b6.mono hb5.size)
    clear b6 hb5 o5 o5' o6
    go_wp2_with fail
    refine (E6.out).mono ?_
    rintro e w7 ⟨rfl, b7⟩
    have hb7 := hb6.trans (b7.mono hb6.size)
    clear b7 hb6 E6 C1 CT CS CI
    go_wp2
    go_ret
    exact ⟨rfl, hb7⟩
  · rw [szR_no hok] at c1
    have C1 := Lib.hid c1
    clear c1
    go_enter Tryd.func5, Tryd.ntmps5
    go_wp2_with fail
    refine (C1.out _ HR.out).mono ?_
    rintro e w1 ⟨rfl, b1⟩
    go_wp2
    go_ret
    exact ⟨rfl, b1⟩

end Go.Proofs.YtjfjadfhcljlbaaDoor
