/-
  Chapter 6: the exact law of FilterTokens, out of what the program's function answers.
-/
import Derived.Test.YthihjelcakenpaaDoorFilM
import Derived.Test.YthihjelcakenpaaDoorFilN
import Derived.Test.YthihjelcakenpaaDoorGf
namespace Go.Proofs.YthihjelcakenpaaDoor
open Go.RowKit

def ImplFilterTokens (G : World → Prop) : Prop := ∀ (f : Flt) (vs : Value) (W : World), G W → LfRd W (scpsLf f.scopes) vs → f.scopes.length ≤ 1048576 → (∀ s ∈ f.scopes, s.names.length ≤ 1048576 ∧ ∀ x ∈ s.names, x.length ≤ 1048576) → (∀ s ∈ f.scopes, in64 s.kind ∧ in64 s.events) →
  Calls Tryd.prog 8 #[.agg #[.bool f.on, vs]] W fun e w' => ∃ v, e = .returned v ∧ w'.ownsRow W.heap.size 52 2 v (fTks f).length ((fTks f).flatMap tokc) ∧ Below W.heap.size W w'

theorem mkEnd_scw : ∀ (l : List Scp) (k : Nat), mkEnd l k ≤ k + 2 * l.length + scw l
  | [], k => by simp [mkEnd]
  | s :: r, k => by
    have := mkEnd_scw r (k + 2 + s.names.length)
    simp only [mkEnd, scw, List.length_cons]
    omega
theorem fTks_len (f : Flt) : (fTks f).length ≤ 50 := by
  unfold fTks
  split
  · rename_i h
    obtain ⟨h1, h2⟩ := filter_parts h
    split
    · have := scTks_take h1 f.scopes.length
      rw [List.take_length] at this
      simp only [List.length_cons]
      omega
    · simp
  · simp

set_option maxRecDepth 20000 in
set_option maxHeartbeats 6400000 in
theorem FnExactFilterTokens_of {G : World → Prop} (hK : Keeps G) (IS : ImplFilterTokens G) (f : Flt) (vs : Value) (w : World) (hG : G w) (hr : LfRd w (scpsLf f.scopes) vs)
    (hl : f.scopes.length ≤ 9223372036854775807) (hx : ∀ s ∈ f.scopes, s.names.length ≤ 9223372036854775807 ∧ ∀ x ∈ s.names, x.length ≤ 9223372036854775807) (hi : ∀ s ∈ f.scopes, in64 s.kind ∧ in64 s.events) :
    Calls Tryd.prog 4 #[.agg #[.bool f.on, vs]] w fun e w' => e = .returned (.bool true) ∧ Below w.heap.size w w' := by
  have hb1 : Below w.heap.size w (w.alloc (.cells #[.bool f.on, vs] 38)) := (Below.refl _ _).alloc (Nat.le_refl _) _
  have hA : (w.alloc (.cells #[.bool f.on, vs] 38)).heap[w.heap.size]? = some (.cells #[.bool f.on, vs] 38 (0, 0)) := heap_alloc_new w _
  have hz1 : (w.alloc (.cells #[.bool f.on, vs] 38)).heap.size = w.heap.size + 1 := by simp
  have c1 := fun W (h : LfRd W (scpsLf f.scopes) vs) => szFilter_any f vs 1048576 W h hl hx (by omega)
  have HR := Lib.hid hr
  obtain ⟨pn, cn, rfl, _⟩ := scps_at hr
  by_cases hok : f.scopes.length + scw f.scopes ≤ 1048576
  · have CT := Lib.hid (fun W (h : LfRd W (scpsLf f.scopes) (.slice pn f.scopes.length cn)) => toFilter_any f _ W h (by omega) (fun s hs => by have := scw_in hs; omega))
    have CS := Lib.hid (fun u W (h : LfRd W (scpsLf f.scopes) u) => specFilterTokens_any f u W h (by omega) (fun s hs => by have := scw_in hs; exact ⟨by omega, fun x hx => by have := szl_in hx; omega⟩))
    have CI := Lib.hid (fun u W (hg : G W) (h : LfRd W (scpsLf f.scopes) u) => IS f u W hg h (by omega) (fun s hs => by have := scw_in hs; exact ⟨by omega, fun x hx => by have := szl_in hx; omega⟩) hi)
    have CE := Lib.hid (fun u v W (h : LfRd W (scpsLf f.scopes) u) (h2 : LfRd W (scpsLf f.scopes) v) => eqFilter_same f u v W h h2 (by omega) (fun s hs => by have := scw_in hs; omega))
    have hmk : mkEnd f.scopes 1 ≤ 1000000000 := by have := mkEnd_scw f.scopes 1; omega
    have HMK := Lib.hid hmk
    have hll : f.scopes.length ≤ 1048576 := by omega
    rw [scR_yes hok] at c1
    have hnn : ¬ ((1048576 - (f.scopes.length + scw f.scopes) : Nat) : Int) < 0 := by omega
    have C1 := Lib.hid c1
    have htl := fTks_len f
    clear hr IS c1 hx hi hl hmk
    generalize fTks f = T at *
    obtain ⟨on, l⟩ := f
    simp only at *
    have CET := Lib.hid (fun u v W (h : Rd 2 tokc W u T) (h2 : Rd 2 tokc W v T) => eqTokenS_same u v T W h h2 (by omega))
    obtain ⟨a0, a1⟩ := blk_pair hA
    have HA := Lib.hid hA
    clear hA hok
    go_enter Tryd.func4, Tryd.ntmps4
    go_wp2_with fail
    generalize (w.alloc (.cells #[.bool on, .slice pn l.length cn] 38)) = W1 at *
    refine (C1.out _ (LfRd.below hb1 _ _ HR.out)).mono ?_
    rintro e w1 ⟨rfl, x1⟩
    have hb2 := hb1.trans (x1.mono (by omega))
    have HA1 := Lib.hid ((x1.block w.heap.size (by omega)).trans HA.out)
    have hz2 := Nat.le_trans (Nat.le_of_eq hz1.symm) x1.size
    clear x1 a0 a1
    obtain ⟨a0, a1⟩ := blk_pair HA1.out
    go_wp2_with fail
    refine (CT.out _ (LfRd.below hb2 _ _ HR.out)).mono ?_
    rintro e w2 ⟨v2, f2, rfl, o2, x2⟩
    have hb3 := hb2.trans (x2.mono (by omega))
    have HA2 := Lib.hid ((x2.block w.heap.size (by omega)).trans HA1.out)
    have R2 := Lib.hid o2.rd
    have hz3 := Nat.le_trans hz2 x2.size
    clear x2 o2 a0 a1
    go_wp2_with fail
    refine (CS.out _ _ R2.out).mono ?_
    rintro e w3 ⟨vS, rfl, oS3, x3⟩
    have hb4 := hb3.trans (x3.mono (by omega))
    have HA3 := Lib.hid ((x3.block w.heap.size (by omega)).trans HA2.out)
    have hz4 := Nat.le_trans hz3 x3.size
    have HTS := Lib.hid (own_top oS3)
    clear x3
    obtain ⟨a0, a1⟩ := blk_pair HA3.out
    go_wp2_with fail
    refine (CT.out _ (LfRd.below hb4 _ _ HR.out)).mono ?_
    rintro e w4 ⟨v4, fp, rfl, o4, x4⟩
    have hb5 := hb4.trans (x4.mono (by omega))
    have HA4 := Lib.hid ((x4.block w.heap.size (by omega)).trans HA3.out)
    have oS4 := ownsRow_below oS3 x4
    have O4 := Lib.hid o4
    have hz5 := x4.size
    obtain ⟨p4, q4, rfl, _⟩ := scps_at o4.rd
    clear x4 o4 a0 a1 oS3
    have hbX : Below w4.heap.size w4 (w4.alloc (.cells #[.bool on, .slice p4 l.length q4] 26)) := (Below.refl _ _).alloc (Nat.le_refl _) _
    have HX4 := Lib.hid (show (w4.alloc (.cells #[.bool on, .slice p4 l.length q4] 26)).heap[w4.heap.size]? = some (.cells #[.bool on, .slice p4 l.length q4] 26 (0, 0)) from heap_alloc_new w4 _)
    have hzX : (w4.alloc (.cells #[.bool on, .slice p4 l.length q4] 26)).heap.size = w4.heap.size + 1 := by simp
    go_wp2_with fail
    generalize (w4.alloc (.cells #[.bool on, .slice p4 l.length q4] 26)) = X at *
    have hb6 := hb5.trans (hbX.mono (by omega))
    have HA5 := Lib.hid ((hbX.block w.heap.size (by omega)).trans HA4.out)
    have oS5 := ownsRow_below oS4 hbX
    have O5 := Lib.hid (O4.out.below hbX)
    refine (CI.out _ _ (hK _ _ hG hb6) O5.out.rd).mono ?_
    rintro e w6 ⟨vI, rfl, oI6, x6⟩
    have hb7 := hb6.trans (x6.mono (by omega))
    have HA6 := Lib.hid ((x6.block w.heap.size (by omega)).trans HA5.out)
    have HX6 := Lib.hid ((x6.block w4.heap.size (by omega)).trans HX4.out)
    have oS6 := ownsRow_below oS5 x6
    have O6 := Lib.hid (O5.out.below x6)
    have HIL := Lib.hid (fun k hk => (oI6.lt k hk).1)
    have hz6 := Nat.le_trans (Nat.le_of_eq hzX.symm) x6.size
    have E6 := Lib.hid (CET.out vI vS _ (Rd.of_own (fun _ => rfl) rfl oI6) (Rd.of_own (fun _ => rfl) rfl oS6))
    clear x6 oS4 oS5 hbX
    go_wp2_with fail
    refine (E6.out).mono ?_
    rintro e w7 ⟨rfl, x7⟩
    have hb8 := hb7.trans (x7.mono (by omega))
    have HA7 := Lib.hid ((x7.block w.heap.size (by omega)).trans HA6.out)
    have HX7 := Lib.hid ((x7.block w4.heap.size (by omega)).trans HX6.out)
    have oS7 := ownsRow_below oS6 x7
    have oI7 := ownsRow_below oI6 x7
    have O7 := Lib.hid (O6.out.below x7)
    have hz7 := x7.size
    clear x7 oS6 oI6 E6
    go_wp2
    refine ord_start [(0, true), (1, true), (2, false), (3, false), (4, true)] (fun W => W.heap[w.heap.size]? = some (.cells #[.bool on, .slice pn l.length cn] 38 (0, 0)) ∧ W.heap[w4.heap.size]? = some (.cells #[.bool on, .slice p4 l.length q4] 26 (0, 0))) (by kernel_rfl) (by kernel_rfl) rfl (by kernel_rfl) ?_
    intro ops' hops
    clear hops
    simp only [List.map_cons, List.map_nil, pickOp_zero, pickOp_succ]
    refine ord_flo (.agg #[.bool on, .slice p4 l.length q4]) (fun _ _ _ h => h) rfl ?_ ⟨HA7.out, HX7.out⟩ ?_
    · intro W hS
      obtain ⟨y0, y1⟩ := blk_pair hS.2
      clear hS
      go_simp
    refine ord_flo (.agg #[.bool on, .slice pn l.length cn]) (fun _ _ _ h => h) rfl ?_ ⟨HA7.out, HX7.out⟩ ?_
    · intro W hS
      obtain ⟨y0, y1⟩ := blk_pair hS.1
      clear hS
      go_simp
    refine ord_ev rfl ?_
    go_simp
    refine (CT.out _ (LfRd.below hb8.drew _ _ HR.out)).mono ?_
    rintro e w8 ⟨v8, f8, rfl, o8, x8⟩
    have hb9 := hb8.drew.trans (x8.mono (by show w.heap.size ≤ w7.heap.size; omega))
    have x8' : Below w7.heap.size w7 w8 := below_of_drew x8
    have HA8 := Lib.hid ((x8'.block w.heap.size (by omega)).trans HA7.out)
    have HX8 := Lib.hid ((x8'.block w4.heap.size (by omega)).trans HX7.out)
    have oS8 := ownsRow_below oS7 x8'
    have oI8 := ownsRow_below oI7 x8'
    have O8 := Lib.hid (O7.out.below x8')
    have CEE := Lib.hid (CE.out _ _ _ O8.out.rd o8.rd)
    have hz8 := x8'.size
    refine ⟨⟨HA8.out, HX8.out⟩, ?_⟩
    clear x8 x8' o8 oS7 oI7
    refine ord_ev rfl ?_
    go_simp
    refine (CEE.out).mono ?_
    rintro e w9 ⟨rfl, x9⟩
    have hb10 := hb9.trans (x9.mono (by omega))
    have HA9 := Lib.hid ((x9.block w.heap.size (by omega)).trans HA8.out)
    have HX9 := Lib.hid ((x9.block w4.heap.size (by omega)).trans HX8.out)
    have oS9 := (ownsRow_below oS8 x9).drew
    have oI9 := (ownsRow_below oI8 x9).drew
    have O9 := Lib.hid (O8.out.below x9)
    have hz9 := x9.size
    refine ⟨⟨HA9.out, HX9.out⟩, ?_⟩
    clear x9 CEE oS8 oI8
    iterate 1 (refine ord_flo ?_ (fun _ _ _ h => h) rfl ?_ ⟨HA9.out, HX9.out⟩ ?_; rotate_left; focus (intro W hS; obtain ⟨s1, s2⟩ := hS; go_simp; rfl))
    refine ord_done ?_
    go_simp
    obtain ⟨y0, y1⟩ := blk_pair HX9.out
    have oS9' : w9.ownsRow w2.heap.size 52 2 vS T.length (T.flatMap tokc) := oS9
    have oI9' : w9.ownsRow X.heap.size 52 2 vI T.length (T.flatMap tokc) := oI9
    clear oS9 oI9
    go_wp2_with fail
    refine (markFilter_any on (.slice p4 l.length q4) l 1 1 rfl fp _ O9.out.is O9.out.nodup (by have := HMK.out; omega) (by omega)).mono ?_
    rintro e w10 ⟨rfl, _, g10⟩
    have hb11 := GrownIn.below hb10 g10 (by omega) (fun k hk => by have := O9.out.low k hk; omega)
    have HA10 := Lib.hid ((g10.block w.heap.size (by omega) (fun hm => by have := O9.out.low _ hm; omega)).trans HA9.out)
    have oS10 := own_apart oS9' g10 (fun k hk hm => by have h1 := HTS.out k hk; have h2 := O9.out.low k hm; omega)
    have oI10 := own_apart oI9' g10 (fun k hk hm => by have h1 := HIL.out k hk; have h2 := O4.out.lt k hm; omega)
    have hz10 := g10.size
    have hk0 : ¬ ((mkEnd l 1 : Nat) : Int) < 0 := by omega
    have hk1 : decide (((mkEnd l 1 : Nat) : Int) < 0) = false := decide_eq_false hk0
    have E10 := Lib.hid (CET.out vI vS _ (Rd.of_own (fun _ => rfl) rfl oI10) (Rd.of_own (fun _ => rfl) rfl oS10))
    clear g10 oS9' oI9' y0 y1
    generalize mkEnd l 1 = KE at *
    go_wp2_with fail
    refine (E10.out).mono ?_
    rintro e w11 ⟨rfl, x11⟩
    have hb12 := hb11.trans (x11.mono (by omega))
    have HA11 := Lib.hid ((x11.block w.heap.size (by omega)).trans HA10.out)
    have oS11 := ownsRow_below oS10 x11
    have oI11 := ownsRow_below oI10 x11
    have hz11 := x11.size
    have M11 := Lib.hid (markTokenS_any vI T.length _ 1 1 _ rfl _ oI11 (by omega) (by omega))
    clear x11 E10 oS10 oI10 hk0 hk1
    go_wp2_with fail
    refine (M11.out).mono ?_
    rintro e w12 ⟨rfl, o12, g12⟩
    have hb13 := hb12.grown g12 (by omega) (fun k hk => by have := HIL.out k hk; omega)
    have HA12 := Lib.hid ((g12.block w.heap.size (by omega) (fun e => by have := HIL.out _ e.symm; omega)).trans HA11.out)
    have oS12 := own_old oS11 HTS.out oI11 (by omega) g12
    have hz12 := g12.size
    have H12 := Lib.hid (heldTokenS_any vI 1 T.length 1 rfl _ (Rd.of_own (fun _ => rfl) (tmarks_length _ _) o12) (by omega) (by omega))
    have hk0 : ¬ ((1 + 2 * T.length : Nat) : Int) < 0 := by omega
    clear g12 oS11 oI11 M11
    go_wp2_with fail
    refine (H12.out).mono ?_
    rintro e w13 ⟨rfl, x13⟩
    have hb14 := hb13.trans (x13.mono (by omega))
    have HA13 := Lib.hid ((x13.block w.heap.size (by omega)).trans HA12.out)
    have oS13 := ownsRow_below oS12 x13
    have o13 := ownsRow_below o12 x13
    have hz13 := x13.size
    clear x13 oS12 o12 H12
    obtain ⟨a0, a1⟩ := blk_pair HA13.out
    go_wp2_with fail
    refine (CT.out _ (LfRd.below hb14 _ _ HR.out)).mono ?_
    rintro e w14 ⟨v14, f14, rfl, o14, x14⟩
    have hb15 := hb14.trans (x14.mono (by omega))
    have HA14 := Lib.hid ((x14.block w.heap.size (by omega)).trans HA13.out)
    have oS14 := ownsRow_below oS13 x14
    have o15 := ownsRow_below o13 x14
    have R14 := Lib.hid o14.rd
    have hz14 := x14.size
    clear x14 o14 a0 a1 oS13 o13
    go_wp2_with fail
    refine (CI.out _ _ (hK _ _ hG hb15) R14.out).mono ?_
    rintro e w15 ⟨vJ, rfl, oJ15, x15⟩
    have hb16 := hb15.trans (x15.mono (by omega))
    have oS15 := ownsRow_below oS14 x15
    have o16 := ownsRow_below o15 x15
    have hz15 := x15.size
    have E15 := Lib.hid (CET.out vJ vS _ (Rd.of_own (fun _ => rfl) rfl oJ15) (Rd.of_own (fun _ => rfl) rfl oS15))
    clear x15 oS14 o15
    go_wp2_with fail
    refine (E15.out).mono ?_
    rintro e w16 ⟨rfl, x16⟩
    have hb17 := hb16.trans (x16.mono (by omega))
    have o17 := ownsRow_below o16 x16
    have H16 := Lib.hid (heldTokenS_any vI 1 T.length 1 rfl _ (Rd.of_own (fun _ => rfl) (tmarks_length _ _) o17) (by omega) (by omega))
    have hz16 := x16.size
    clear x16 o16 oS15 oJ15 E15
    go_wp2_with fail
    refine (H16.out).mono ?_
    rintro e w17 ⟨rfl, x17⟩
    have hb18 := hb17.trans (x17.mono (by omega))
    clear x17 H16 C1 CT CS CI CE
    go_wp2
    go_ret
    exact ⟨rfl, hb18⟩
  · rw [scR_no hok] at c1
    have C1 := Lib.hid c1
    clear c1 IS hx hi hr
    obtain ⟨on, l⟩ := f
    simp only at *
    go_enter Tryd.func4, Tryd.ntmps4
    go_wp2_with fail
    refine (C1.out _ (LfRd.below hb1 _ _ HR.out)).mono ?_
    rintro e w1 ⟨rfl, x1⟩
    have hb := hb1.trans (x1.mono (by omega))
    go_wp2
    go_ret
    exact ⟨rfl, hb⟩

end Go.Proofs.YthihjelcakenpaaDoor
