/-
  Chapter 4: the exact law of MembersOf, out of what the program's function answers.
-/
import Derived.Test.YtmmpfhcohpdcbaaSetG
namespace Go.Proofs.Ytmmpfhcohpdcbaa
open Go.RowKit

theorem membersOfL_len (l : List Spn) (ids : List Int) : (membersOfL l ids).length ≤ ids.length := List.length_filter_le _ _

set_option maxHeartbeats 6400000 in
theorem FnExactMembersOf_of {G : World → Prop} (hK : Keeps G) (IM : ImplMembersOf G) (v u : Value) (l : List Spn) (ids : List Int) (w : World) (hG : G w) (hr : Rd 2 spnc w v l) (hu : Rd1 iv w u ids) (hl : l.length ≤ 9223372036854775807) (hi : ids.length ≤ 9223372036854775807) (hx : ∀ t ∈ l, rgS t) (hy : ∀ x ∈ ids, in64 x) :
    Calls Try.prog 5 #[v, u] w fun e w' => e = .returned (.bool true) ∧ Below w.heap.size w w' := by
  have c1 := fun W (h : Rd 2 spnc W v l) => szSpanS_any v l 1048576 W h hl (by omega)
  have HR := Lib.hid hr
  have HU := Lib.hid hu
  obtain ⟨pu, cu, hue, _⟩ := hu.ex
  subst hue
  clear hr hu
  by_cases hid : ids.length ≤ 1048576
  · have hid2 : ¬ (1048576 : Int) < (ids.length : Int) := by omega
    by_cases hok : l.length ≤ 1048576
    · rw [lenR_yes hok] at c1
      have C1 := Lib.hid c1
      have CT := Lib.hid (fun W (h : Rd 2 spnc W v l) => toSpanS_any v l W h (by omega))
      have CN := Lib.hid (fun W (h : Rd1 iv W (.slice pu ids.length cu) ids) => toIntS_any (.slice pu ids.length cu) ids W h (by omega))
      have CS := Lib.hid (fun u1 u2 W (h : Rd 2 spnc W u1 l) (h2 : Rd1 iv W u2 ids) => specMembersOf_any u1 u2 l ids W h h2 (by omega) (by omega))
      have CI := Lib.hid (fun u1 u2 W (hg : G W) (h : Rd 2 spnc W u1 l) (h2 : Rd1 iv W u2 ids) => IM u1 u2 l ids W hg h h2 hok hid hx hy)
      have hnn : ¬ ((1048576 - l.length : Nat) : Int) < 0 := by omega
      have hms := membersOfL_len l ids
      clear c1 IM hx hy
      generalize membersOfL l ids = ms at *
      go_enter Try.func5, Try.ntmps5
      go_wp2_with fail
      refine (C1.out _ HR.out).mono ?_
      rintro e w1 ⟨rfl, rfl⟩
      clear C1
      go_wp2_with fail
      refine (CT.out _ HR.out).mono ?_
      rintro e w2 ⟨g2, rfl, o2, b2⟩
      go_wp2_with fail
      refine (CN.out _ (HU.out.below b2)).mono ?_
      rintro e w3 ⟨g3, rfl, o3, b3⟩
      have hb3 := b2.trans (b3.mono b2.size)
      have S3 := Lib.hid (CS.out _ _ _ (Rd.of_own (fun _ => rfl) rfl (ownsRow_below o2 b3)) (Rd1.of_own o3))
      clear o2 o3 CS b2 b3
      go_wp2_with fail
      refine (S3.out).mono ?_
      rintro e w4 ⟨v4, rfl, o4, b4⟩
      have hb4 := hb3.trans (b4.mono hb3.size)
      have hz4 := hb4.size
      have t4 := Lib.hid (own_top o4)
      clear hb3 b4 S3
      go_wp2_with fail
      refine (CT.out _ (HR.out.below hb4)).mono ?_
      rintro e w5 ⟨g5, rfl, o5, b5⟩
      have hb5 := hb4.trans (b5.mono hb4.size)
      have z45 := b5.size
      have t5 := Lib.hid (own_top o5)
      have o4 := ownsRow_below o4 b5
      clear hb4 b5
      go_wp2_with fail
      refine (CN.out _ (HU.out.below hb5)).mono ?_
      rintro e w6 ⟨g6, rfl, o6, b6⟩
      have hb6 := hb5.trans (b6.mono hb5.size)
      have z56 := b6.size
      have t6 := Lib.hid (own_top o6)
      have o4 := ownsRow_below o4 b6
      have o5 := ownsRow_below o5 b6
      have S6 := Lib.hid (CI.out _ _ _ (hK _ _ hG hb6) (Rd.of_own (fun _ => rfl) rfl o5) (Rd1.of_own o6))
      clear hb5 b6
      go_wp2_with fail
      refine (S6.out).mono ?_
      rintro e w7 ⟨v7, rfl, o7, b7⟩
      have o4 := ownsRow_below o4 b7
      have o5 := ownsRow_below o5 b7
      have o6 := ownsRow_below o6 b7
      have hb7 := hb6.trans (b7.mono hb6.size)
      have z67 := b7.size
      have E7 := Lib.hid (eqIntS_same v7 v4 ms w7 (Rd1.of_own o7) (Rd1.of_own o4) (by omega))
      clear b7 hb6 S6
      go_wp2_with fail
      refine (E7.out).mono ?_
      rintro e w8 ⟨rfl, b8⟩
      have o4 := ownsRow_below o4 b8
      have o5 := ownsRow_below o5 b8
      have o6 := ownsRow_below o6 b8
      have o7 := ownsRow_below o7 b8
      have hb8 := hb7.trans (b8.mono hb7.size)
      have z78 := b8.size
      clear b8 hb7 E7
      go_wp2_with fail
      refine (CT.out _ (HR.out.below hb8)).mono ?_
      rintro e w9 ⟨g9, rfl, o9, b9⟩
      have o4 := ownsRow_below o4 b9
      have o5 := ownsRow_below o5 b9
      have o6 := ownsRow_below o6 b9
      have o7 := ownsRow_below o7 b9
      have hb9 := hb8.trans (b9.mono hb8.size)
      have z89 := b9.size
      have E9 := Lib.hid (eqSpanS_same _ _ l _ (Rd.of_own (fun _ => rfl) rfl o5) (Rd.of_own (fun _ => rfl) rfl o9) (by omega))
      clear b9 hb8 o9
      go_wp2_with fail
      refine (E9.out).mono ?_
      rintro e w10 ⟨rfl, b10⟩
      have o4 := ownsRow_below o4 b10
      have o5 := ownsRow_below o5 b10
      have o6 := ownsRow_below o6 b10
      have o7 := ownsRow_below o7 b10
      have hb10 := hb9.trans (b10.mono hb9.size)
      have z910 := b10.size
      clear b10 hb9 E9
      go_wp2_with fail
      refine (CN.out _ (HU.out.below hb10)).mono ?_
      rintro e w11 ⟨g11, rfl, o11, b11⟩
      have o4 := ownsRow_below o4 b11
      have o5 := ownsRow_below o5 b11
      have o6 := ownsRow_below o6 b11
      have o7 := ownsRow_below o7 b11
      have hb11 := hb10.trans (b11.mono hb10.size)
      have z1011 := b11.size
      have E11 := Lib.hid (eqIntS_same _ _ ids w11 (Rd1.of_own o6) (Rd1.of_own o11) (by omega))
      clear b11 hb10 o11
      go_wp2_with fail
      refine (E11.out).mono ?_
      rintro e w12 ⟨rfl, b12⟩
      have o4 := ownsRow_below o4 b12
      have o5 := ownsRow_below o5 b12
      have o6 := ownsRow_below o6 b12
      have o7 := ownsRow_below o7 b12
      have hb12 := hb11.trans (b12.mono hb11.size)
      have z1112 := b12.size
      clear b12 hb11 E11
      go_wp2_with fail
      refine (markSpanS_any _ l.length _ 1 1 _ rfl _ o5 (by omega) (by omega)).mono ?_
      rintro e w13 ⟨rfl, o13, hg13⟩
      have o4 := own_old o4 t4.out o5 (Nat.le_refl _) hg13
      have o6 := own_new o6 (Nat.le_refl _) o5 t5.out hg13
      have o7 := own_new o7 z56 o5 t5.out hg13
      have hb13 := hb12.grown hg13 (by omega) (fun k hk => by have := (o5.lt k hk).1; omega)
      have z1213 := hg13.size
      clear o13 hg13 hb12 o5
      have hk13 : ((1 + 2 * l.length : Nat) : Int) = 1 + 2 * (l.length : Int) := by omega
      go_wp2_with fail
      refine (markIntS_any _ ids.length _ _ (1 + 2 * l.length) _ (by omega) _ o6 (by omega) (by omega)).mono ?_
      rintro e w14 ⟨rfl, o14, hg14⟩
      have o4 := own_old o4 t4.out o6 (by omega) hg14
      have o7 := own_new o7 (Nat.le_refl _) o6 t6.out hg14
      have hb14 := hb13.grown hg14 (by omega) (fun k hk => by have := (o6.lt k hk).1; omega)
      have z1314 := hg14.size
      have E14 := Lib.hid (eqIntS_same v7 v4 ms w14 (Rd1.of_own o7) (Rd1.of_own o4) (by omega))
      clear o14 hg14 hb13 o6
      go_wp2_with fail
      refine (E14.out).mono ?_
      rintro e w15 ⟨rfl, b15⟩
      have o4 := ownsRow_below o4 b15
      have o7 := ownsRow_below o7 b15
      have hb15 := hb14.trans (b15.mono hb14.size)
      have z1415 := b15.size
      clear b15 hb14 E14
      go_wp2_with fail
      refine (markIntS_any v7 ms.length _ 1 1 _ rfl _ o7 (by omega) (by omega)).mono ?_
      rintro e w16 ⟨rfl, o16, hg16⟩
      have o4 := own_old o4 t4.out o7 (by omega) hg16
      have hb16 := hb15.grown hg16 (by omega) (fun k hk => by have := (o7.lt k hk).1; omega)
      have H16 := Lib.hid (heldIntS_any v7 1 ms.length 1 rfl w16 (Rd1.of_own o16) (by omega) (by omega))
      clear hg16 hb15 o7
      go_wp2_with fail
      refine (H16.out).mono ?_
      rintro e w16' ⟨rfl, rfl⟩
      clear H16
      go_wp2_with fail
      refine (CT.out _ (HR.out.below hb16)).mono ?_
      rintro e w17 ⟨g17, rfl, o17, b17⟩
      have o4 := ownsRow_below o4 b17
      have o16 := ownsRow_below o16 b17
      have hb17 := hb16.trans (b17.mono hb16.size)
      clear b17 hb16
      go_wp2_with fail
      refine (CN.out _ (HU.out.below hb17)).mono ?_
      rintro e w18 ⟨g18, rfl, o18, b18⟩
      have o4 := ownsRow_below o4 b18
      have o16 := ownsRow_below o16 b18
      have hb18 := hb17.trans (b18.mono hb17.size)
      have S18 := Lib.hid (CI.out _ _ _ (hK _ _ hG hb18) (Rd.of_own (fun _ => rfl) rfl (ownsRow_below o17 b18)) (Rd1.of_own o18))
      clear b18 hb17 o17 o18 CI CT CN
      go_wp2_with fail
      refine (S18.out).mono ?_
      rintro e w19 ⟨v19, rfl, o19, b19⟩
      have o4 := ownsRow_below o4 b19
      have o16 := ownsRow_below o16 b19
      have hb19 := hb18.trans (b19.mono hb18.size)
      have E19 := Lib.hid (eqIntS_same v19 v4 ms w19 (Rd1.of_own o19) (Rd1.of_own o4) (by omega))
      clear b19 hb18 S18 o19 o4
      go_wp2_with fail
      refine (E19.out).mono ?_
      rintro e w20 ⟨rfl, b20⟩
      have o16 := ownsRow_below o16 b20
      have hb20 := hb19.trans (b20.mono hb19.size)
      have H20 := Lib.hid (heldIntS_any v7 1 ms.length 1 rfl w20 (Rd1.of_own o16) (by omega) (by omega))
      clear b20 hb19 E19 o16
      go_wp2_with fail
      refine (H20.out).mono ?_
      rintro e w21 ⟨rfl, rfl⟩
      clear H20
      go_wp2
      go_ret
      exact ⟨rfl, hb20⟩
    · rw [lenR_no hok] at c1
      have C1 := Lib.hid c1
      clear c1
      go_enter Try.func5, Try.ntmps5
      go_wp2_with fail
      refine (C1.out _ HR.out).mono ?_
      rintro e w1 ⟨rfl, rfl⟩
      go_wp2
      go_ret
      exact ⟨rfl, Below.refl _ _⟩
  · have hid2 : (1048576 : Int) < (ids.length : Int) := by omega
    clear c1
    go_enter Try.func5, Try.ntmps5
    go_wp2
    go_ret
    exact ⟨rfl, Below.refl _ _⟩

end Go.Proofs.Ytmmpfhcohpdcbaa
