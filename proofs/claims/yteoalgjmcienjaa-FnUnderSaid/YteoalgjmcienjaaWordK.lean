/-
  The law FnUnder.
-/
import Derived.Test.YteoalgjmcienjaaWordJ
namespace Go.Proofs.Yteoalgjmcienjaa
open Go.RowKit

theorem under_name {x y : List UInt8} (h : underB x y = true) : nameB x = true := by unfold underB at h; simp only [Bool.and_eq_true] at h; exact h.1.1
theorem sz_of {t : List UInt8} {n : Nat} (h : t.length ≤ n) : (ByteArray.mk t.toArray).size ≤ n := by show t.toArray.size ≤ n; simpa using h
theorem sz_len {t : List UInt8} (h : t.length ≤ 41) : (ByteArray.mk t.toArray).size ≤ maxLen := by have := sz_of h; unfold maxLen; omega
theorem sz_mid {t : List UInt8} (h : t.length ≤ 41) : (ByteArray.mk t.toArray).size ≤ 1048576 := by have := sz_of h; omega

set_option maxHeartbeats 3200000 in
theorem FnUnder_any (v : Value) (code : List UInt8) (w : World) (hr : Rd1 bv w v code) (hcap : ∀ p n c, v = .slice p n c → n ≤ c) :
    Calls Try.prog 4 #[v] w fun e w' => e = .returned (.bool true) ∧ Below w.heap.size w w' := by
  have HR := Lib.hid hr
  have HB := Lib.hid (big_any v code w hr)
  have HCap := Lib.hid hcap
  clear hr hcap
  by_cases hbig : code.length ≤ 1048576
  · have hq : ¬ (1048576 : Int) < (code.length : Int) := by omega
    go_enter Try.func4, Try.ntmps4
    go_wp2_with fail
    refine (HB.out).mono ?_
    rintro e w' ⟨rfl, rfl⟩
    go_wp2_with fail
    refine (DrawUnder_any v code _ HR.out hbig).mono ?_
    rintro e w1 ⟨a, b, rfl, ha, hb, b1⟩
    have HR1 := Lib.hid (HR.out.below b1)
    clear HR
    go_wp2_with fail
    refine (tail_any v code _ HR1.out HCap.out).mono ?_
    rintro e w' ⟨v2, rfl, hr2, rfl⟩
    have HR2 := Lib.hid hr2
    clear hr2 HR1
    go_wp2_with fail
    refine (DrawUnder_any v2 code.tail _ HR2.out (by rw [List.length_tail]; omega)).mono ?_
    rintro e w2 ⟨c, d, rfl, hc, hd, b2⟩
    have hb0 := b1.trans (b2.mono b1.size)
    clear b1 b2 HR2
    have c1 := fun W => implUnder_any ⟨a.toArray⟩ ⟨b.toArray⟩ W (sz_mid ha) (sz_mid hb)
    have c2 := fun W => specUnder_any ⟨a.toArray⟩ ⟨b.toArray⟩ W (sz_mid ha) (sz_mid hb)
    have c3 := fun W => implNameOk_any ⟨a.toArray⟩ W (sz_len ha)
    have c4 := fun W => specNameOk_any ⟨a.toArray⟩ W (sz_len ha)
    have c5 := fun W => implUnder_any ⟨a.toArray⟩ ⟨a.toArray⟩ W (sz_mid ha) (sz_mid ha)
    have c6 := fun W => implAtomOk_any ⟨a.toArray⟩ W (sz_len ha)
    have c7 := fun W => implWord_any ⟨a.toArray⟩ W (sz_len ha)
    have c8 := fun W => implUnder_any ⟨b.toArray⟩ ⟨c.toArray⟩ W (sz_mid hb) (sz_mid hc)
    have c9 := fun W => implUnder_any ⟨a.toArray⟩ ⟨c.toArray⟩ W (sz_mid ha) (sz_mid hc)
    rw [show (ByteArray.mk a.toArray).data.toList = a from rfl] at c1 c2 c3 c4 c5 c6 c7 c9
    rw [show (ByteArray.mk b.toArray).data.toList = b from rfl] at c1 c2 c8
    rw [show (ByteArray.mk c.toArray).data.toList = c from rfl] at c8 c9
    rw [underB_self] at c5
    cases hab : underB a b with
    | false =>
      rw [hab] at c1 c2
      cases hna : nameB a with
      | false =>
        rw [hna] at c3 c4 c5
        clear hab hna
        have C1 := Lib.hid c1
        have C2 := Lib.hid c2
        have C3 := Lib.hid c3
        have C4 := Lib.hid c4
        have C5 := Lib.hid c5
        clear c1 c2 c3 c4 c5 c6 c7 c8 c9
        go_wp2_with fail
        refine (C1.out _).mono ?_
        rintro e x1 ⟨rfl, y1⟩
        have z1 := hb0.trans (y1.mono hb0.size)
        clear hb0 y1
        go_wp2_with fail
        refine (C2.out _).mono ?_
        rintro e w' ⟨rfl, rfl⟩
        go_wp2_with fail
        refine (C3.out _).mono ?_
        rintro e x3 ⟨rfl, y3⟩
        have z3 := z1.trans (y3.mono z1.size)
        clear z1 y3
        go_wp2_with fail
        refine (C4.out _).mono ?_
        rintro e w' ⟨rfl, rfl⟩
        go_wp2_with fail
        refine (C5.out _).mono ?_
        rintro e x5 ⟨rfl, y5⟩
        have z5 := z3.trans (y5.mono z3.size)
        clear z3 y5
        go_wp2_with fail
        refine (C3.out _).mono ?_
        rintro e x6 ⟨rfl, y6⟩
        have z6 := z5.trans (y6.mono z5.size)
        clear z5 y6
        go_wp2_with fail
        refine (C3.out _).mono ?_
        rintro e x7 ⟨rfl, y7⟩
        have z7 := z6.trans (y7.mono z6.size)
        clear z6 y7
        go_wp2
        go_ret
        exact ⟨rfl, z7⟩
      | true =>
        rw [hna] at c3 c4 c5
        rw [nameB_atomB hna] at c6
        rw [nameB_wordL hna] at c7
        clear hab hna
        have C1 := Lib.hid c1
        have C2 := Lib.hid c2
        have C3 := Lib.hid c3
        have C4 := Lib.hid c4
        have C5 := Lib.hid c5
        have C6 := Lib.hid c6
        have C7 := Lib.hid c7
        clear c1 c2 c3 c4 c5 c6 c7 c8 c9
        go_wp2_with fail
        refine (C1.out _).mono ?_
        rintro e x8 ⟨rfl, y8⟩
        have z8 := hb0.trans (y8.mono hb0.size)
        clear hb0 y8
        go_wp2_with fail
        refine (C2.out _).mono ?_
        rintro e w' ⟨rfl, rfl⟩
        go_wp2_with fail
        refine (C3.out _).mono ?_
        rintro e x10 ⟨rfl, y10⟩
        have z10 := z8.trans (y10.mono z8.size)
        clear z8 y10
        go_wp2_with fail
        refine (C4.out _).mono ?_
        rintro e w' ⟨rfl, rfl⟩
        go_wp2_with fail
        refine (C5.out _).mono ?_
        rintro e x12 ⟨rfl, y12⟩
        have z12 := z10.trans (y12.mono z10.size)
        clear z10 y12
        go_wp2_with fail
        refine (C3.out _).mono ?_
        rintro e x13 ⟨rfl, y13⟩
        have z13 := z12.trans (y13.mono z12.size)
        clear z12 y13
        go_wp2_with fail
        refine (C3.out _).mono ?_
        rintro e x14 ⟨rfl, y14⟩
        have z14 := z13.trans (y14.mono z13.size)
        clear z13 y14
        go_wp2_with fail
        refine (C6.out _).mono ?_
        rintro e x15 ⟨rfl, y15⟩
        have z15 := z14.trans (y15.mono z14.size)
        clear z14 y15
        go_wp2_with fail
        refine (C7.out _).mono ?_
        rintro e x16 ⟨rfl, y16⟩
        have z16 := z15.trans (y16.mono z15.size)
        clear z15 y16
        go_wp2
        go_ret
        exact ⟨rfl, z16⟩
    | true =>
      have hna := under_name hab
      rw [hab] at c1 c2
      rw [hna] at c3 c4 c5
      rw [nameB_atomB hna] at c6
      rw [nameB_wordL hna] at c7
      cases hbc : underB b c with
      | false =>
        rw [hbc] at c8
        clear hab hna hbc
        have C1 := Lib.hid c1
        have C2 := Lib.hid c2
        have C3 := Lib.hid c3
        have C4 := Lib.hid c4
        have C5 := Lib.hid c5
        have C6 := Lib.hid c6
        have C7 := Lib.hid c7
        have C8 := Lib.hid c8
        clear c1 c2 c3 c4 c5 c6 c7 c8 c9
        go_wp2_with fail
        refine (C1.out _).mono ?_
        rintro e x17 ⟨rfl, y17⟩
        have z17 := hb0.trans (y17.mono hb0.size)
        clear hb0 y17
        go_wp2_with fail
        refine (C2.out _).mono ?_
        rintro e w' ⟨rfl, rfl⟩
        go_wp2_with fail
        refine (C3.out _).mono ?_
        rintro e x19 ⟨rfl, y19⟩
        have z19 := z17.trans (y19.mono z17.size)
        clear z17 y19
        go_wp2_with fail
        refine (C4.out _).mono ?_
        rintro e w' ⟨rfl, rfl⟩
        go_wp2_with fail
        refine (C8.out _).mono ?_
        rintro e x21 ⟨rfl, y21⟩
        have z21 := z19.trans (y21.mono z19.size)
        clear z19 y21
        go_wp2_with fail
        refine (C5.out _).mono ?_
        rintro e x22 ⟨rfl, y22⟩
        have z22 := z21.trans (y22.mono z21.size)
        clear z21 y22
        go_wp2_with fail
        refine (C3.out _).mono ?_
        rintro e x23 ⟨rfl, y23⟩
        have z23 := z22.trans (y23.mono z22.size)
        clear z22 y23
        go_wp2_with fail
        refine (C3.out _).mono ?_
        rintro e x24 ⟨rfl, y24⟩
        have z24 := z23.trans (y24.mono z23.size)
        clear z23 y24
        go_wp2_with fail
        refine (C6.out _).mono ?_
        rintro e x25 ⟨rfl, y25⟩
        have z25 := z24.trans (y25.mono z24.size)
        clear z24 y25
        go_wp2_with fail
        refine (C7.out _).mono ?_
        rintro e x26 ⟨rfl, y26⟩
        have z26 := z25.trans (y26.mono z25.size)
        clear z25 y26
        go_wp2
        go_ret
        exact ⟨rfl, z26⟩
      | true =>
        rw [hbc] at c8
        rw [underB_trans a b c hab hbc] at c9
        clear hab hna hbc
        have C1 := Lib.hid c1
        have C2 := Lib.hid c2
        have C3 := Lib.hid c3
        have C4 := Lib.hid c4
        have C5 := Lib.hid c5
        have C6 := Lib.hid c6
        have C7 := Lib.hid c7
        have C8 := Lib.hid c8
        have C9 := Lib.hid c9
        clear c1 c2 c3 c4 c5 c6 c7 c8 c9
        go_wp2_with fail
        refine (C1.out _).mono ?_
        rintro e x27 ⟨rfl, y27⟩
        have z27 := hb0.trans (y27.mono hb0.size)
        clear hb0 y27
        go_wp2_with fail
        refine (C2.out _).mono ?_
        rintro e w' ⟨rfl, rfl⟩
        go_wp2_with fail
        refine (C3.out _).mono ?_
        rintro e x29 ⟨rfl, y29⟩
        have z29 := z27.trans (y29.mono z27.size)
        clear z27 y29
        go_wp2_with fail
        refine (C4.out _).mono ?_
        rintro e w' ⟨rfl, rfl⟩
        go_wp2_with fail
        refine (C8.out _).mono ?_
        rintro e x31 ⟨rfl, y31⟩
        have z31 := z29.trans (y31.mono z29.size)
        clear z29 y31
        go_wp2_with fail
        refine (C9.out _).mono ?_
        rintro e x32 ⟨rfl, y32⟩
        have z32 := z31.trans (y32.mono z31.size)
        clear z31 y32
        go_wp2_with fail
        refine (C5.out _).mono ?_
        rintro e x33 ⟨rfl, y33⟩
        have z33 := z32.trans (y33.mono z32.size)
        clear z32 y33
        go_wp2_with fail
        refine (C3.out _).mono ?_
        rintro e x34 ⟨rfl, y34⟩
        have z34 := z33.trans (y34.mono z33.size)
        clear z33 y34
        go_wp2_with fail
        refine (C3.out _).mono ?_
        rintro e x35 ⟨rfl, y35⟩
        have z35 := z34.trans (y35.mono z34.size)
        clear z34 y35
        go_wp2_with fail
        refine (C6.out _).mono ?_
        rintro e x36 ⟨rfl, y36⟩
        have z36 := z35.trans (y36.mono z35.size)
        clear z35 y36
        go_wp2_with fail
        refine (C7.out _).mono ?_
        rintro e x37 ⟨rfl, y37⟩
        have z37 := z36.trans (y37.mono z36.size)
        clear z36 y37
        go_wp2
        go_ret
        exact ⟨rfl, z37⟩
  · have hq : (1048576 : Int) < (code.length : Int) := by omega
    go_enter Try.func4, Try.ntmps4
    go_wp2_with fail
    refine (HB.out).mono ?_
    rintro e w' ⟨rfl, rfl⟩
    go_wp2
    go_ret
    exact ⟨rfl, Below.refl _ _⟩

end Go.Proofs.Yteoalgjmcienjaa
