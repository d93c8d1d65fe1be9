/-
  Chapter 4: the exact laws of SetOk, Members, MembersOf, out of what the program's functions answer.
-/
import Derived.Test.YtmmpfhcohpdcbaaSetF
namespace Go.Proofs.Ytmmpfhcohpdcbaa
open Go.RowKit

def ImplSetOk (G : World → Prop) : Prop := ∀ (v : Value) (l : List Spn) (W : World), G W → Rd 2 spnc W v l → l.length ≤ 1048576 → (∀ t ∈ l, rgS t) →
  Calls Try.prog 11 #[v] W fun e w' => e = .returned (.bool (setB l)) ∧ Below W.heap.size W w'

theorem lenR_yes {left n : Nat} (h : n ≤ left) : lenR left n = ((left - n : Nat) : Int) := if_pos h
theorem lenR_no {left n : Nat} (h : ¬ n ≤ left) : lenR left n = -1 := if_neg h

set_option maxHeartbeats 1600000 in
theorem FnExactSetOk_of {G : World → Prop} (hK : Keeps G) (IS : ImplSetOk G) (v : Value) (l : List Spn) (w : World) (hG : G w) (hr : Rd 2 spnc w v l) (hl : l.length ≤ 9223372036854775807) (hx : ∀ t ∈ l, rgS t) :
    Calls Try.prog 3 #[v] w fun e w' => e = .returned (.bool true) ∧ Below w.heap.size w w' := by
  have c1 := fun W (h : Rd 2 spnc W v l) => szSpanS_any v l 1048576 W h hl (by omega)
  have HR := Lib.hid hr
  clear hr
  by_cases hok : l.length ≤ 1048576
  · rw [lenR_yes hok] at c1
    have C1 := Lib.hid c1
    have CT := Lib.hid (fun W (h : Rd 2 spnc W v l) => toSpanS_any v l W h (by omega))
    have CS := Lib.hid (fun u W (h : Rd 2 spnc W u l) => specSetOk_any u l W h (by omega))
    have CI := Lib.hid (fun u W (hg : G W) (h : Rd 2 spnc W u l) => IS u l W hg h hok hx)
    have hnn : ¬ ((1048576 - l.length : Nat) : Int) < 0 := by omega
    clear c1 IS hx
    generalize setB l = sb at *
    go_enter Try.func3, Try.ntmps3
    go_wp2_with fail
    refine (C1.out _ HR.out).mono ?_
    rintro e w1 ⟨rfl, rfl⟩
    go_wp2_with fail
    refine (CT.out _ HR.out).mono ?_
    rintro e w2 ⟨g2, rfl, o2, b2⟩
    have S2 := Lib.hid (CS.out _ _ (Rd.of_own (fun _ => rfl) rfl o2))
    clear o2
    go_wp2_with fail
    refine (S2.out).mono ?_
    rintro e w3 ⟨rfl, rfl⟩
    go_wp2_with fail
    refine (CT.out _ (HR.out.below b2)).mono ?_
    rintro e w4 ⟨g4, rfl, o4, b4⟩
    have hb4 := b2.trans (b4.mono b2.size)
    have S4 := Lib.hid (CI.out _ _ (hK _ _ hG hb4) (Rd.of_own (fun _ => rfl) rfl o4))
    clear b2 b4 S2
    go_wp2_with fail
    refine (S4.out).mono ?_
    rintro e w5 ⟨rfl, b5⟩
    have o5 := ownsRow_below o4 b5
    have hb5 := hb4.trans (b5.mono hb4.size)
    clear b5 hb4 o4 S4
    go_wp2_with fail
    refine (CT.out _ (HR.out.below hb5)).mono ?_
    rintro e w6 ⟨g6, rfl, o6, b6⟩
    have o5' := ownsRow_below o5 b6
    have E6 := Lib.hid (eqSpanS_same _ _ l _ (Rd.of_own (fun _ => rfl) rfl o5') (Rd.of_own (fun _ => rfl) rfl o6) (by omega))
    have hb6 := hb5.trans (b6.mono hb5.size)
    clear b6 hb5 o5 o5' o6
    go_wp2_with fail
    refine (E6.out).mono ?_
    rintro e w7 ⟨rfl, b7⟩
    have hb7 := hb6.trans (b7.mono hb6.size)
    clear b7 hb6 E6 C1 CT CS CI
    go_wp2
    go_ret
    exact ⟨rfl, hb7⟩
  · rw [lenR_no hok] at c1
    have C1 := Lib.hid c1
    clear c1
    go_enter Try.func3, Try.ntmps3
    go_wp2_with fail
    refine (C1.out _ HR.out).mono ?_
    rintro e w1 ⟨rfl, rfl⟩
    go_wp2
    go_ret
    exact ⟨rfl, Below.refl _ _⟩

set_option maxHeartbeats 3200000 in
theorem FnExactMembers_of {G : World → Prop} (hK : Keeps G) (IM : ImplMembers G) (v : Value) (l : List Spn) (n : Int) (w : World) (hG : G w) (hr : Rd 2 spnc w v l) (hl : l.length ≤ 9223372036854775807) (hx : ∀ t ∈ l, rgS t) (hn : in64 n) :
    Calls Try.prog 4 #[v, .int .i64 n] w fun e w' => e = .returned (.bool true) ∧ Below w.heap.size w w' := by
  have c1 := fun W (h : Rd 2 spnc W v l) => szSpanS_any v l 1048576 W h hl (by omega)
  have HR := Lib.hid hr
  clear hr
  by_cases hok : l.length ≤ 1048576
  · rw [lenR_yes hok] at c1
    have C1 := Lib.hid c1
    have CT := Lib.hid (fun W (h : Rd 2 spnc W v l) => toSpanS_any v l W h (by omega))
    have CS := Lib.hid (fun u W (h : Rd 2 spnc W u l) => specMembers_any u l n W h (by omega))
    have CI := Lib.hid (fun u W (hg : G W) (h : Rd 2 spnc W u l) => IM u l n W hg h hok hx hn)
    have hnn : ¬ ((1048576 - l.length : Nat) : Int) < 0 := by omega
    have hms := membersL_len l n
    clear c1 IM hx
    generalize membersL l n = ms at *
    go_enter Try.func4, Try.ntmps4
    go_wp2_with fail
    refine (C1.out _ HR.out).mono ?_
    rintro e w1 ⟨rfl, rfl⟩
    clear C1
    go_wp2_with fail
    refine (CT.out _ HR.out).mono ?_
    rintro e w2 ⟨g2, rfl, o2, b2⟩
    have S2 := Lib.hid (CS.out _ _ (Rd.of_own (fun _ => rfl) rfl o2))
    clear o2 CS
    go_wp2_with fail
    refine (S2.out).mono ?_
    rintro e w3 ⟨v3, rfl, o3, b3⟩
    have hb3 := b2.trans (b3.mono b2.size)
    have t3 := Lib.hid (own_top o3)
    clear b2 b3 S2
    go_wp2_with fail
    refine (CT.out _ (HR.out.below hb3)).mono ?_
    rintro e w4 ⟨g4, rfl, o4, b4⟩
    have hb4 := hb3.trans (b4.mono hb3.size)
    have hz3 := hb3.size
    have z34 := b4.size
    have t4 := Lib.hid (own_top o4)
    have S4 := Lib.hid (CI.out _ _ (hK _ _ hG hb4) (Rd.of_own (fun _ => rfl) rfl o4))
    have o3 := ownsRow_below o3 b4
    clear b4 hb3
    go_wp2_with fail
    refine (S4.out).mono ?_
    rintro e w5 ⟨v5, rfl, o5, b5⟩
    have o3 := ownsRow_below o3 b5
    have o4 := ownsRow_below o4 b5
    have hb5 := hb4.trans (b5.mono hb4.size)
    have z45 := b5.size
    have E5 := Lib.hid (eqIntS_same v5 v3 ms w5 (Rd1.of_own o5) (Rd1.of_own o3) (by omega))
    clear b5 hb4 S4
    go_wp2_with fail
    refine (E5.out).mono ?_
    rintro e w6 ⟨rfl, b6⟩
    have o3 := ownsRow_below o3 b6
    have o4 := ownsRow_below o4 b6
    have o5 := ownsRow_below o5 b6
    have hb6 := hb5.trans (b6.mono hb5.size)
    have z56 := b6.size
    clear b6 hb5 E5
    go_wp2_with fail
    refine (CT.out _ (HR.out.below hb6)).mono ?_
    rintro e w7 ⟨g7, rfl, o7, b7⟩
    have o3 := ownsRow_below o3 b7
    have o4 := ownsRow_below o4 b7
    have o5 := ownsRow_below o5 b7
    have hb7 := hb6.trans (b7.mono hb6.size)
    have z67 := b7.size
    have E7 := Lib.hid (eqSpanS_same _ _ l _ (Rd.of_own (fun _ => rfl) rfl o4) (Rd.of_own (fun _ => rfl) rfl o7) (by omega))
    clear b7 hb6 o7
    go_wp2_with fail
    refine (E7.out).mono ?_
    rintro e w8 ⟨rfl, b8⟩
    have o3 := ownsRow_below o3 b8
    have o4 := ownsRow_below o4 b8
    have o5 := ownsRow_below o5 b8
    have hb8 := hb7.trans (b8.mono hb7.size)
    have z78 := b8.size
    clear b8 hb7 E7
    go_wp2_with fail
    refine (markSpanS_any _ l.length _ 1 1 _ rfl _ o4 (by omega) (by omega)).mono ?_
    rintro e w9 ⟨rfl, o9, hg9⟩
    have o3 := own_old o3 t3.out o4 (Nat.le_refl _) hg9
    have o5 := own_new o5 (Nat.le_refl _) o4 t4.out hg9
    have hb9 := hb8.grown hg9 (by omega) (fun k hk => by have := (o4.lt k hk).1; omega)
    have z89 := hg9.size
    have E9 := Lib.hid (eqIntS_same v5 v3 ms w9 (Rd1.of_own o5) (Rd1.of_own o3) (by omega))
    clear o9 hg9 hb8 o4
    go_wp2_with fail
    refine (E9.out).mono ?_
    rintro e w10 ⟨rfl, b10⟩
    have o3 := ownsRow_below o3 b10
    have o5 := ownsRow_below o5 b10
    have hb10 := hb9.trans (b10.mono hb9.size)
    have z910 := b10.size
    clear b10 hb9 E9
    go_wp2_with fail
    refine (markIntS_any v5 ms.length _ 1 1 _ rfl _ o5 (by omega) (by omega)).mono ?_
    rintro e w11 ⟨rfl, o11, hg11⟩
    have o3 := own_old o3 t3.out o5 (by omega) hg11
    have hb11 := hb10.grown hg11 (by omega) (fun k hk => by have := (o5.lt k hk).1; omega)
    have H11 := Lib.hid (heldIntS_any v5 1 ms.length 1 rfl w11 (Rd1.of_own o11) (by omega) (by omega))
    clear hg11 hb10 o5
    go_wp2_with fail
    refine (H11.out).mono ?_
    rintro e w11' ⟨rfl, rfl⟩
    clear H11
    go_wp2_with fail
    refine (CT.out _ (HR.out.below hb11)).mono ?_
    rintro e w12 ⟨g12, rfl, o12, b12⟩
    have o3 := ownsRow_below o3 b12
    have o11 := ownsRow_below o11 b12
    have hb12 := hb11.trans (b12.mono hb11.size)
    have S12 := Lib.hid (CI.out _ _ (hK _ _ hG hb12) (Rd.of_own (fun _ => rfl) rfl o12))
    clear b12 hb11 o12 CI CT
    go_wp2_with fail
    refine (S12.out).mono ?_
    rintro e w13 ⟨v13, rfl, o13, b13⟩
    have o3 := ownsRow_below o3 b13
    have o11 := ownsRow_below o11 b13
    have hb13 := hb12.trans (b13.mono hb12.size)
    have E13 := Lib.hid (eqIntS_same v13 v3 ms w13 (Rd1.of_own o13) (Rd1.of_own o3) (by omega))
    clear b13 hb12 S12 o13 o3
    go_wp2_with fail
    refine (E13.out).mono ?_
    rintro e w14 ⟨rfl, b14⟩
    have o11 := ownsRow_below o11 b14
    have hb14 := hb13.trans (b14.mono hb13.size)
    have H14 := Lib.hid (heldIntS_any v5 1 ms.length 1 rfl w14 (Rd1.of_own o11) (by omega) (by omega))
    clear b14 hb13 E13 o11
    go_wp2_with fail
    refine (H14.out).mono ?_
    rintro e w15 ⟨rfl, rfl⟩
    clear H14
    go_wp2
    go_ret
    exact ⟨rfl, hb14⟩
  · rw [lenR_no hok] at c1
    have C1 := Lib.hid c1
    clear c1
    go_enter Try.func4, Try.ntmps4
    go_wp2_with fail
    refine (C1.out _ HR.out).mono ?_
    rintro e w1 ⟨rfl, rfl⟩
    go_wp2
    go_ret
    exact ⟨rfl, Below.refl _ _⟩

end Go.Proofs.Ytmmpfhcohpdcbaa
