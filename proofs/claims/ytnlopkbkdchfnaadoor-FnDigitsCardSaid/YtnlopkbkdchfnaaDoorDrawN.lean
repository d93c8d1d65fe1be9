/-
  Drawn numbers, and the law FnDigits.
-/
import Derived.Test.YtnlopkbkdchfnaaDoorDraw2
import Derived.Test.YtnlopkbkdchfnaaDoorTab
namespace Go.Proofs.YtnlopkbkdchfnaaDoor
open Go.RowKit
open Go.Lib (decDigits itoa)

/-- Some int was drawn. -/
def WholePost (g : Nat) (code : List UInt8) (w : World) (e : Ending) (w' : World) : Prop := ∃ n : Int, e = .returned (.int .i64 n) ∧ -9223372036854775808 ≤ n ∧ n ≤ 9223372036854775807 ∧ Cur w' g code ∧ w.heap.size ≤ w'.heap.size ∧ (∀ B W, Below B W w → B ≤ w.heap.size → B ≤ g → Below B W w')

theorem drawnTexts : ∀ x ∈ ([[], [48, 48], [48, 49], [45, 49], [43, 49], [120], [57, 57, 57, 57, 57, 57, 57, 57, 57], [49, 48, 48, 48, 48, 48, 48, 48, 48, 48], [45, 48], [45], [32, 49], [49, 32]] : List (List UInt8)), x.length ≤ 10 := by decide

theorem drawnInts : ∀ x ∈ ([0, 1, -1, 9, 10, 999999999, 1000000000, 9223372036854775807, -9223372036854775808] : List Int), -9223372036854775808 ≤ x ∧ x ≤ 9223372036854775807 := by decide

set_option maxRecDepth 20000 in
set_option maxHeartbeats 800000 in
theorem l1Whole_any (g : Nat) (code : List UInt8) (w : World) (hc : Cur w g code) :
    Calls Tryd.prog 11 #[.pointer (some ⟨g, 0, none⟩)] w fun e w' => WholePost g code w e w' := by
  go_enter Tryd.func11, Tryd.ntmps11
  go_wp2_with fail
  refine (l1Below_any g code _ 3 (by omega) _ hc (by omega) (by omega)).mono ?_
  rintro e w1 ⟨x, rfl, hx, hc1, hg1⟩
  have hz1 := hg1.size
  have hlt1 := hc1.lt
  by_cases hx0 : x = 0
  · subst hx0
    clear hx
    go_wp2_with fail
    refine (l1PickInt_any g code _ [0, 1, -1, 9, 10, 999999999, 1000000000, 9223372036854775807, -9223372036854775808] _ (hc1.below ((Below.refl _ _).alloc (Nat.le_refl _) _)) (Rd1_lit (b := w1.heap.size) _ (heap_alloc_new w1 _) rfl rfl) (Apart_new hlt1) (by simp) (by simp)).mono ?_
    rintro e w2 ⟨y, rfl, hy, hc2, hg2⟩
    have hy2 := drawnInts y hy
    have hz2 := hg2.size
    have hsz := World.size_alloc w1
    have hF : ∀ B W, Below B W w → B ≤ w.heap.size → B ≤ g → Below B W w2 := fun B W hb hB hg => below_cur ((below_cur hb hg1 hB hg).alloc (by omega) _) hg2 (by rw [World.size_alloc]; omega) hg
    have hz3 : w.heap.size ≤ w2.heap.size := by rw [World.size_alloc] at hz2; omega
    clear hy hc1 hg1 hg2 hc hz2 hsz
    go_wp2
    go_ret
    exact ⟨y, rfl, hy2.1, hy2.2, hc2, hz3, hF⟩
  · have hx0' : ((x : Int) == 0) = false := by simp; omega
    by_cases hx1 : x = 1
    · subst hx1
      clear hx
      go_wp2_with fail
      refine (l1Below_any g code _ 1000000 (by omega) _ hc1 (by omega) (by omega)).mono ?_
      rintro e w2 ⟨y, rfl, hy, hc2, hg2⟩
      have hz2 := hg2.size
      have hF : ∀ B W, Below B W w → B ≤ w.heap.size → B ≤ g → Below B W w2 := fun B W hb hB hg => below_cur (below_cur hb hg1 hB hg) hg2 (by omega) hg
      clear hc1 hg1 hg2 hc
      go_wp2
      go_ret
      exact ⟨_, rfl, by omega, by omega, hc2, by omega, hF⟩
    · have hx1' : ((x : Int) == 1) = false := by simp; omega
      go_wp2_with fail
      refine (l1Below_any g code _ 20 (by omega) _ hc1 (by omega) (by omega)).mono ?_
      rintro e w2 ⟨y, rfl, hy, hc2, hg2⟩
      have hz2 := hg2.size
      have hF : ∀ B W, Below B W w → B ≤ w.heap.size → B ≤ g → Below B W w2 := fun B W hb hB hg => below_cur (below_cur hb hg1 hB hg) hg2 (by omega) hg
      clear hc1 hg1 hg2 hc
      go_wp2
      go_ret
      exact ⟨_, rfl, by omega, by omega, hc2, by omega, hF⟩

set_option maxHeartbeats 400000 in
theorem DrawDigits_any (v : Value) (code : List UInt8) (w : World) (hr : Rd1 bv w v code) (hl : code.length ≤ 1048576) :
    Calls Tryd.prog 6 #[v] w fun e w' => ∃ n : Int, e = .returned (.int .i64 n) ∧ -9223372036854775808 ≤ n ∧ n ≤ 9223372036854775807 ∧ Below w.heap.size w w' := by
  have HR := Lib.hid hr
  clear hr
  go_enter Tryd.func6, Tryd.ntmps6
  go_wp2_with fail
  refine (l1New_any v code _ HR.out hl).mono ?_
  rintro e w1 ⟨g, rfl, hg, hc1, hb1⟩
  go_wp2_with fail
  refine (l1Whole_any g code _ hc1).mono ?_
  rintro e w2 ⟨n, rfl, h0, h1, hc2, hz, hF⟩
  have hb2 := hF _ _ hb1 hb1.size hg
  clear hF hc1 hc2 hb1
  go_wp2
  go_ret
  exact ⟨n, rfl, h0, h1, hb2⟩

set_option maxHeartbeats 800000 in
theorem DrawNumber_any (v : Value) (code : List UInt8) (w : World) (hr : Rd1 bv w v code) (hl : code.length ≤ 1048576) :
    Calls Tryd.prog 9 #[v] w fun e w' => TextPost 24 w e w' := by
  have HR := Lib.hid hr
  clear hr
  go_enter Tryd.func9, Tryd.ntmps9
  go_wp2_with fail
  refine (l1New_any v code _ HR.out hl).mono ?_
  rintro e w1 ⟨g, rfl, hg, hc1, hb1⟩
  go_wp2_with fail
  refine (l1Once_any g code _ 2 (by omega) _ hc1 (by omega) (by omega)).mono ?_
  rintro e w2 ⟨b, rfl, hc2, hg2⟩
  have hb2 := below_cur hb1 hg2 hb1.size hg
  have hz2 := hb2.size
  have hlt2 := hc2.lt
  clear hc1 hg2 hb1
  cases b with
  | true =>
    go_wp2_with fail
    refine (l1Whole_any g code _ hc2).mono ?_
    rintro e w3 ⟨n, rfl, h0, h1, hc3, hz, hF⟩
    have hb3 := hF _ _ hb2 hz2 hg
    clear hF hc2 hc3
    go_wp2_with fail
    refine (specDigits_any n _ h0 h1).mono ?_
    rintro e w4 ⟨rfl, b4⟩
    have hb4 := hb3.trans (b4.mono hb3.size)
    have hlen := Lib.itoa_length_le n h0 h1
    clear hb2 hb3 b4
    go_wp2
    go_ret
    exact ⟨itoa n, rfl, by omega, hb4⟩
  | false =>
    go_wp2_with fail
    refine (l1Pick_any g code _ [[], [48, 48], [48, 49], [45, 49], [43, 49], [120], [57, 57, 57, 57, 57, 57, 57, 57, 57], [49, 48, 48, 48, 48, 48, 48, 48, 48, 48], [45, 48], [45], [32, 49], [49, 32]] _ (hc2.below ((Below.refl _ _).alloc (Nat.le_refl _) _)) (Rd1_lit (b := w2.heap.size) _ (heap_alloc_new w2 _) rfl rfl) (Apart_new hlt2) (by simp) (by simp)).mono ?_
    rintro e w3 ⟨t, rfl, ht, hc3, hg3⟩
    have hfin := below_cur (hb2.alloc hz2 _) hg3 (by rw [World.size_alloc]; omega) hg
    have htl := drawnTexts t ht
    clear ht hc3 hg3 hb2 hc2
    go_wp2
    go_ret
    exact ⟨t, rfl, by omega, hfin⟩


theorem isd_minus : isd 45 = false := by decide

theorem numl_itoa_in (n : Int) (h0 : 0 ≤ n) (h1 : n ≤ 999999999) : numl (itoa n) = some n.toNat := by
  rw [itoa_cases, if_neg (by omega)]
  unfold numl
  rw [(decDigits_facts n.toNat).1, if_pos ⟨canon_dec _, by omega⟩]

theorem numl_itoa_out (n : Int) (h : n < 0 ∨ 999999999 < n) : numl (itoa n) = none := by
  rw [itoa_cases]
  unfold numl
  by_cases hn : n < 0
  · rw [if_pos hn, if_neg]
    rintro ⟨hc, _⟩
    simp [canon, isd_minus] at hc
  · rw [if_neg hn, (decDigits_facts n.toNat).1, if_neg]
    rintro ⟨_, hv⟩
    omega

theorem numl_back {l : List UInt8} {k : Nat} (h : numl l = some k) : decDigits k = l ∧ k ≤ 999999999 := by
  unfold numl at h
  split at h
  · rename_i hc
    cases h
    exact ⟨decDigits_dv l hc.1, hc.2⟩
  · cases h

theorem numl_one0 : numl [48] = some 0 := by decide

set_option maxHeartbeats 1600000 in
theorem FnDigits_any (v : Value) (code : List UInt8) (w : World) (hr : Rd1 bv w v code) (hT : Tab w) :
    Calls Tryd.prog 3 #[v] w fun e w' => e = .returned (.bool true) ∧ Below w.heap.size w w' := by
  have HR := Lib.hid hr
  have HT := Lib.hid hT
  have HB := Lib.hid (big_any v code w hr)
  clear hr hT
  by_cases hbig : code.length ≤ 1048576
  · have hq : ¬ (1048576 : Int) < (code.length : Int) := by omega
    go_enter Tryd.func3, Tryd.ntmps3
    go_wp2_with fail
    refine (HB.out).mono ?_
    rintro e w' ⟨rfl, rfl⟩
    go_wp2_with fail
    refine (DrawDigits_any v code _ HR.out hbig).mono ?_
    rintro e w1 ⟨n, rfl, h0, h1, b1⟩
    go_wp2_with fail
    refine (implDigits_any n _ (HT.out.below b1) h0 h1).mono ?_
    rintro e w2 ⟨rfl, b2⟩
    have hb2 := b1.trans (b2.mono b1.size)
    have HR2 := Lib.hid (HR.out.below hb2)
    have hlen := Lib.itoa_length_le n h0 h1
    have hsz : (ByteArray.mk (itoa n).toArray).size ≤ 1048576 := by show (itoa n).toArray.size ≤ _; simp; omega
    have c1 := fun W => implNumber_any ⟨(itoa n).toArray⟩ W hsz
    rw [show (ByteArray.mk (itoa n).toArray).data.toList = itoa n from rfl] at c1
    clear b1 b2 HR HB hsz
    have hfin : ∃ (m : Int) (ok : Bool), numV (itoa n) = .tuple #[.int .i64 m, .bool ok] ∧ (n < 0 ∨ 999999999 < n → ok = false ∧ m = 0) ∧ (¬ (n < 0 ∨ 999999999 < n) → ok = true ∧ m = n) := by
      by_cases hn : n < 0 ∨ 999999999 < n
      · exact ⟨0, false, numV_none (numl_itoa_out n hn), fun _ => ⟨rfl, rfl⟩, fun h => absurd hn h⟩
      · exact ⟨n, true, by rw [numV_some (numl_itoa_in n (by omega) (by omega)), Int.toNat_of_nonneg (by omega)], fun h => absurd h hn, fun _ => ⟨rfl, rfl⟩⟩
    obtain ⟨m, ok, hV, hin, hout⟩ := hfin
    rw [hV] at c1
    have C1 := Lib.hid c1
    have Hin := Lib.hid hin
    have Hout := Lib.hid hout
    clear hV c1 hin hout hlen
    generalize itoa n = tn at *
    go_wp2_with fail
    refine (C1.out _).mono ?_
    rintro e w3 ⟨rfl, b3⟩
    have hb3 := hb2.trans (b3.mono hb2.size)
    go_wp2_with fail
    refine (DrawNumber_any v code _ (HR2.out.below b3) hbig).mono ?_
    rintro e w4 ⟨s, rfl, hs, b4⟩
    have hb4 := hb3.trans (b4.mono hb3.size)
    have hsz2 : (ByteArray.mk s.toArray).size ≤ 1048576 := by show s.toArray.size ≤ _; simp; omega
    have c2 := fun W => implNumber_any ⟨s.toArray⟩ W hsz2
    rw [show (ByteArray.mk s.toArray).data.toList = s from rfl] at c2
    clear hb2 b3 hb3 b4 C1 HR2 HT hsz2
    have hend : (n < 0 ∧ ok = false ∧ m = 0) ∨ (¬ n < 0 ∧ 999999999 < n ∧ ok = false ∧ m = 0) ∨ (¬ n < 0 ∧ ¬ 999999999 < n ∧ ok = true ∧ m = n) := by
      by_cases h1 : n < 0
      · exact .inl ⟨h1, Hin.out (.inl h1)⟩
      · by_cases h2 : 999999999 < n
        · exact .inr (.inl ⟨h1, h2, Hin.out (.inr h2)⟩)
        · exact .inr (.inr ⟨h1, h2, Hout.out (by omega)⟩)
    have Hend := Lib.hid hend
    clear hend Hin Hout
    cases hu : numl s with
    | none =>
      rw [numV_none hu] at c2
      have C2 := Lib.hid c2
      have hs0 : s ≠ [48] := by intro h; rw [h, numl_one0] at hu; cases hu
      have hs1 : (s == [48]) = false := by simpa using hs0
      have hs2 : ([48] == s) = false := by simpa using Ne.symm hs0
      have hd0 := Lib.hid (fun W => specDigits_any 0 W (by omega) (by omega))
      rw [show itoa 0 = [48] from by rw [itoa_cases, if_neg (by omega)]; exact decDigits_small (by omega)] at hd0
      clear c2 hu hs0
      go_wp2_with fail
      refine (C2.out _).mono ?_
      rintro e w5 ⟨rfl, b5⟩
      have hb5 := hb4.trans (b5.mono hb4.size)
      go_wp2_with fail
      refine (hd0.out _).mono ?_
      rintro e w6 ⟨rfl, b6⟩
      have hb6 := hb5.trans (b6.mono hb5.size)
      clear hb4 b5 hb5 b6 C2 hd0
      rcases Hend.out with ⟨q1, rfl, rfl⟩ | ⟨q1, q2, rfl, rfl⟩ | ⟨q1, q2, rfl, q3⟩
      · go_wp2
        go_ret
        exact ⟨rfl, hb6⟩
      · go_wp2
        go_ret
        exact ⟨rfl, hb6⟩
      · subst q3
        go_wp2
        go_ret
        exact ⟨rfl, hb6⟩
    | some k =>
      rw [numV_some hu] at c2
      have C2 := Lib.hid c2
      obtain ⟨hk1, hk2⟩ := numl_back hu
      have hd0 := Lib.hid (fun W => specDigits_nat k W (by omega))
      rw [hk1] at hd0
      clear c2 hu hk1
      have hs1 : (s == [48]) = false ∨ s = [48] := by
        by_cases h : s = [48]
        · exact .inr h
        · exact .inl (by simpa using h)
      have Hs := Lib.hid hs1
      clear hs1
      go_wp2_with fail
      refine (C2.out _).mono ?_
      rintro e w5 ⟨rfl, b5⟩
      have hb5 := hb4.trans (b5.mono hb4.size)
      go_wp2_with fail
      refine (hd0.out _).mono ?_
      rintro e w6 ⟨rfl, b6⟩
      have hb6 := hb5.trans (b6.mono hb5.size)
      clear hb4 b5 hb5 b6 C2 hd0
      have hk3 : (k : Int) ≤ 999999999 := by omega
      rcases Hs.out with hs1 | rfl
      · rcases Hend.out with ⟨q1, rfl, rfl⟩ | ⟨q1, q2, rfl, rfl⟩ | ⟨q1, q2, rfl, q3⟩
        · go_wp2
          go_ret
          exact ⟨rfl, hb6⟩
        · go_wp2
          go_ret
          exact ⟨rfl, hb6⟩
        · subst q3
          go_wp2
          go_ret
          exact ⟨rfl, hb6⟩
      · rcases Hend.out with ⟨q1, rfl, rfl⟩ | ⟨q1, q2, rfl, rfl⟩ | ⟨q1, q2, rfl, q3⟩
        · go_wp2
          go_ret
          exact ⟨rfl, hb6⟩
        · go_wp2
          go_ret
          exact ⟨rfl, hb6⟩
        · subst q3
          go_wp2
          go_ret
          exact ⟨rfl, hb6⟩
  · have hq : (1048576 : Int) < (code.length : Int) := by omega
    go_enter Tryd.func3, Tryd.ntmps3
    go_wp2_with fail
    refine (HB.out).mono ?_
    rintro e w' ⟨rfl, rfl⟩
    go_wp2
    go_ret
    exact ⟨rfl, Below.refl _ _⟩

end Go.Proofs.YtnlopkbkdchfnaaDoor
