/-
  Chapter 4: the exact laws of SetText and ReadSet, out of what the program's functions answer.
-/
import Derived.Test.YtmmpfhcohpdcbaaDoorSetO
namespace Go.Proofs.YtmmpfhcohpdcbaaDoor
open Go.RowKit

def ImplSetText (G : World → Prop) : Prop := ∀ (v : Value) (l : List Spn) (W : World), G W → Rd 2 spnc W v l → l.length ≤ 1048576 → (∀ t ∈ l, rgS t) →
  Calls Tryd.prog 8 #[v] W fun e w' => e = .returned (sv (setT l)) ∧ Below W.heap.size W w'

def ImplReadSet (G : World → Prop) : Prop := ∀ (s : ByteArray) (W : World), G W → s.size ≤ 1048576 →
  Calls Tryd.prog 11 #[.string s] W fun e w' => SetPost (readS s.data.toList) W e w'

/-- What ReadSet hands back, in parts. -/
def SetPost2 (l : List Spn) (ok : Bool) (w : World) (e : Ending) (w' : World) : Prop :=
  ∃ v, e = .returned (.tuple #[v, .bool ok]) ∧ w'.ownsRow w.heap.size 37 2 v l.length (l.flatMap spnc) ∧ Below w.heap.size w w'
theorem readS_parts (s : List UInt8) : ∃ (l : List Spn) (ok : Bool), l.length ≤ 5 ∧ ∀ w e w', SetPost (readS s) w e w' = SetPost2 l ok w e w' := by
  refine ⟨(readS s).getD [], (readS s).isSome, ?_, fun _ _ _ => rfl⟩
  cases hU : readS s with
  | none => simp
  | some l => exact (setB_parts (readS_some hU).1).2.2
theorem lenR_in {left n : Nat} (h : n ≤ left) : lenR left n = ((left - n : Nat) : Int) := if_pos h
theorem lenR_out {left n : Nat} (h : ¬ n ≤ left) : lenR left n = -1 := if_neg h

set_option maxHeartbeats 1600000 in
theorem FnExactSetText_of {G : World → Prop} (hK : Keeps G) (IS : ImplSetText G) (v : Value) (l : List Spn) (w : World) (hG : G w) (hr : Rd 2 spnc w v l) (hl : l.length ≤ 9223372036854775807) (hx : ∀ t ∈ l, rgS t) :
    Calls Tryd.prog 3 #[v] w fun e w' => e = .returned (.bool true) ∧ Below w.heap.size w w' := by
  have c1 := fun W (h : Rd 2 spnc W v l) => szSpanS_any v l 1048576 W h hl (by omega)
  have HR := Lib.hid hr
  clear hr
  by_cases hok : l.length ≤ 1048576
  · rw [lenR_in hok] at c1
    have C1 := Lib.hid c1
    have CT := Lib.hid (fun W (h : Rd 2 spnc W v l) => toSpanS_any v l W h (by omega))
    have CS := Lib.hid (fun u W (h : Rd 2 spnc W u l) => specSetText_any u l W h (by omega))
    have CI := Lib.hid (fun u W (hg : G W) (h : Rd 2 spnc W u l) => IS u l W hg h hok hx)
    have hnn : ¬ ((1048576 - l.length : Nat) : Int) < 0 := by omega
    clear c1 IS hx
    generalize setT l = sb at *
    go_enter Tryd.func3, Tryd.ntmps3
    go_wp2_with fail
    refine (C1.out _ HR.out).mono ?_
    rintro e w1 ⟨rfl, rfl⟩
    go_wp2_with fail
    refine (CT.out _ HR.out).mono ?_
    rintro e w2 ⟨g2, rfl, o2, b2⟩
    have S2 := Lib.hid (CS.out _ _ (Rd.of_own (fun _ => rfl) rfl o2))
    clear o2
    go_wp2_with fail
    refine (S2.out).mono ?_
    rintro e w3 ⟨rfl, b3⟩
    have hb3 := b2.trans (b3.mono b2.size)
    clear b2 b3 S2
    go_wp2_with fail
    refine (CT.out _ (HR.out.below hb3)).mono ?_
    rintro e w4 ⟨g4, rfl, o4, b4⟩
    have hb4 := hb3.trans (b4.mono hb3.size)
    have S4 := Lib.hid (CI.out _ _ (hK _ _ hG hb4) (Rd.of_own (fun _ => rfl) rfl o4))
    clear hb3 b4
    go_wp2_with fail
    refine (S4.out).mono ?_
    rintro e w5 ⟨rfl, b5⟩
    have o5 := ownsRow_below o4 b5
    have hb5 := hb4.trans (b5.mono hb4.size)
    clear b5 hb4 o4 S4
    go_wp2_with fail
    refine (CT.out _ (HR.out.below hb5)).mono ?_
    rintro e w6 ⟨g6, rfl, o6, b6⟩
    have o5' := ownsRow_below o5 b6
    have E6 := Lib.hid (eqSpanS_same _ _ l _ (Rd.of_own (fun _ => rfl) rfl o5') (Rd.of_own (fun _ => rfl) rfl o6) (by omega))
    have hb6 := hb5.trans (b6.mono hb5.size)
    clear b6 hb5 o5 o5' o6
    go_wp2_with fail
    refine (E6.out).mono ?_
    rintro e w7 ⟨rfl, b7⟩
    have hb7 := hb6.trans (b7.mono hb6.size)
    clear b7 hb6 E6 C1 CT CS CI
    go_wp2
    go_ret
    exact ⟨rfl, hb7⟩
  · rw [lenR_out hok] at c1
    have C1 := Lib.hid c1
    clear c1
    go_enter Tryd.func3, Tryd.ntmps3
    go_wp2_with fail
    refine (C1.out _ HR.out).mono ?_
    rintro e w1 ⟨rfl, rfl⟩
    go_wp2
    go_ret
    exact ⟨rfl, Below.refl _ _⟩

set_option maxHeartbeats 1600000 in
theorem FnExactReadSet_of {G : World → Prop} (hK : Keeps G) (IX : ImplReadSet G) (s : ByteArray) (w : World) (hG : G w) (_hs : s.size ≤ maxLen) :
    Calls Tryd.prog 4 #[.string s] w fun e w' => e = .returned (.bool true) ∧ Below w.heap.size w w' := by
  by_cases hbig : s.size ≤ 1048576
  · have c1 := fun W => specReadSet_any s W hbig
    have c2 := fun W hg => IX s W hg hbig
    obtain ⟨ts, ok, hlen, hP⟩ := readS_parts s.data.toList
    simp only [hP] at c1 c2
    have C1 := Lib.hid c1
    have C2 := Lib.hid c2
    clear c1 c2 hP IX
    go_enter Tryd.func4, Tryd.ntmps4
    go_wp2_with fail
    refine (C1.out _).mono ?_
    rintro e w1 ⟨v1, rfl, o1, b1⟩
    have t1 := Lib.hid (own_top o1)
    go_wp2_with fail
    refine (C2.out _ (hK _ _ hG b1)).mono ?_
    rintro e w2 ⟨v2, rfl, o2, b2⟩
    have o1 := ownsRow_below o1 b2
    have hb2 := b1.trans (b2.mono b1.size)
    have z1 := b1.size
    have E1 := Lib.hid (eqSpanS_same v2 v1 ts _ (Rd.of_own (fun _ => rfl) rfl o2) (Rd.of_own (fun _ => rfl) rfl o1) (by omega))
    clear b1
    go_wp2_with fail
    refine (E1.out).mono ?_
    rintro e w3 ⟨rfl, b3⟩
    have o1 := ownsRow_below o1 b3
    have o2 := ownsRow_below o2 b3
    have hb3 := hb2.trans (b3.mono hb2.size)
    have z2 := b2.size
    have z3 := b3.size
    clear b2 b3 hb2 E1
    go_wp2_with fail
    refine (markSpanS_any v2 ts.length _ 1 1 _ rfl _ o2 (by omega) (by omega)).mono ?_
    rintro e w4 ⟨rfl, o4, g4⟩
    have o1 := own_old o1 t1.out o2 (Nat.le_refl _) g4
    have hb4 := hb3.grown g4 (by omega) (fun k hk => by have := (o2.lt k hk).1; omega)
    have H1 := Lib.hid (heldSpanS_any v2 1 ts.length 1 rfl _ (Rd.of_own (fun _ => rfl) (smarks_length _ _) o4) (by omega) (by omega))
    clear g4 hb3 o2
    go_wp2_with fail
    refine (H1.out).mono ?_
    rintro e w5 ⟨rfl, rfl⟩
    clear H1
    go_wp2_with fail
    refine (C2.out _ (hK _ _ hG hb4)).mono ?_
    rintro e w6 ⟨v3, rfl, o3, b6⟩
    have o4 := ownsRow_below o4 b6
    have o1 := ownsRow_below o1 b6
    have hb6 := hb4.trans (b6.mono hb4.size)
    have E2 := Lib.hid (eqSpanS_same v3 v1 ts _ (Rd.of_own (fun _ => rfl) rfl o3) (Rd.of_own (fun _ => rfl) rfl o1) (by omega))
    clear b6 hb4 o3 o1
    go_wp2_with fail
    refine (E2.out).mono ?_
    rintro e w7 ⟨rfl, b7⟩
    have o4 := ownsRow_below o4 b7
    have hb7 := hb6.trans (b7.mono hb6.size)
    have H2 := Lib.hid (heldSpanS_any v2 1 ts.length 1 rfl _ (Rd.of_own (fun _ => rfl) (smarks_length _ _) o4) (by omega) (by omega))
    clear b7 hb6 E2 o4
    go_wp2_with fail
    refine (H2.out).mono ?_
    rintro e w8 ⟨rfl, rfl⟩
    clear H2 C1 C2
    go_wp2
    go_ret
    exact ⟨rfl, hb7⟩
  · go_enter Tryd.func4, Tryd.ntmps4
    go_wp2
    go_ret
    exact ⟨rfl, Below.refl _ _⟩

end Go.Proofs.YtmmpfhcohpdcbaaDoor
