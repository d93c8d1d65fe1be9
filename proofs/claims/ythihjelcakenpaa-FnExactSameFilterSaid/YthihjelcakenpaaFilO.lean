/-
  Chapter 6: the exact law of SameFilter, out of what the program's function answers.
-/
import Derived.Test.YthihjelcakenpaaFilI
import Derived.Test.YthihjelcakenpaaFilN
namespace Go.Proofs.Ythihjelcakenpaa
open Go.RowKit

def ImplSameFilter (G : World → Prop) : Prop := ∀ (f g : Flt) (va vb : Value) (W : World), G W → LfRd W (scpsLf f.scopes) va → LfRd W (scpsLf g.scopes) vb → f.scopes.length ≤ 1048576 → g.scopes.length ≤ 1048576 → (∀ s ∈ f.scopes, s.names.length ≤ 1048576 ∧ ∀ x ∈ s.names, x.length ≤ 1048576) → (∀ s ∈ g.scopes, s.names.length ≤ 1048576 ∧ ∀ x ∈ s.names, x.length ≤ 1048576) → (∀ s ∈ f.scopes, in64 s.kind ∧ in64 s.events) → (∀ s ∈ g.scopes, in64 s.kind ∧ in64 s.events) →
  Calls Try.prog 26 #[.agg #[.bool f.on, va], .agg #[.bool g.on, vb]] W fun e w' => e = .returned (.bool (decide (f = g))) ∧ Below W.heap.size W w'

set_option maxRecDepth 20000 in
set_option maxHeartbeats 6400000 in
theorem FnExactSameFilter_of {G : World → Prop} (hK : Keeps G) (IS : ImplSameFilter G) (f g : Flt) (va vb : Value) (w : World) (hG : G w) (hra : LfRd w (scpsLf f.scopes) va) (hrb : LfRd w (scpsLf g.scopes) vb)
    (hla : f.scopes.length ≤ 9223372036854775807) (hlb : g.scopes.length ≤ 9223372036854775807) (hxa : ∀ s ∈ f.scopes, s.names.length ≤ 9223372036854775807 ∧ ∀ x ∈ s.names, x.length ≤ 9223372036854775807) (hxb : ∀ s ∈ g.scopes, s.names.length ≤ 9223372036854775807 ∧ ∀ x ∈ s.names, x.length ≤ 9223372036854775807)
    (hia : ∀ s ∈ f.scopes, in64 s.kind ∧ in64 s.events) (hib : ∀ s ∈ g.scopes, in64 s.kind ∧ in64 s.events) :
    Calls Try.prog 8 #[.agg #[.bool f.on, va], .agg #[.bool g.on, vb]] w fun e w' => e = .returned (.bool true) ∧ Below w.heap.size w w' := by
  have hb1 : Below w.heap.size w ((w.alloc (.cells #[.bool f.on, va] 42)).alloc (.cells #[.bool g.on, vb] 42)) := ((Below.refl _ _).alloc (Nat.le_refl _) _).alloc (by simp) _
  have hA : ((w.alloc (.cells #[.bool f.on, va] 42)).alloc (.cells #[.bool g.on, vb] 42)).heap[w.heap.size]? = some (.cells #[.bool f.on, va] 42 (0, 0)) := (Below.heap_alloc _ _ _ (by simp)).trans (heap_alloc_new w _)
  have hB : ((w.alloc (.cells #[.bool f.on, va] 42)).alloc (.cells #[.bool g.on, vb] 42)).heap[w.heap.size + 1]? = some (.cells #[.bool g.on, vb] 42 (0, 0)) := by
    have := heap_alloc_new (w.alloc (.cells #[.bool f.on, va] 42)) (.cells #[.bool g.on, vb] 42)
    rwa [World.size_alloc] at this
  have hz1 : ((w.alloc (.cells #[.bool f.on, va] 42)).alloc (.cells #[.bool g.on, vb] 42)).heap.size = w.heap.size + 2 := by simp
  have c1 := fun W (h : LfRd W (scpsLf f.scopes) va) => szFilter_any f va 1048576 W h hla hxa (by omega)
  have HRA := Lib.hid hra
  have HRB := Lib.hid hrb
  obtain ⟨pa, ca, rfl, _⟩ := scps_at hra
  obtain ⟨pb, cb, rfl, _⟩ := scps_at hrb
  by_cases hok : f.scopes.length + scw f.scopes ≤ 1048576
  · rw [scR_yes hok] at c1
    have hnn : ¬ ((1048576 - (f.scopes.length + scw f.scopes) : Nat) : Int) < 0 := by omega
    have C1 := Lib.hid c1
    obtain ⟨left, hleft⟩ : ∃ left, 1048576 - (f.scopes.length + scw f.scopes) = left := ⟨_, rfl⟩
    have c2 := fun W (h : LfRd W (scpsLf g.scopes) (.slice pb g.scopes.length cb)) => szFilter_any g (.slice pb g.scopes.length cb) left W h hlb hxb (by omega)
    rw [hleft] at C1 hnn
    by_cases hok2 : g.scopes.length + scw g.scopes ≤ left
    · rw [scR_yes hok2] at c2
      have hnn2 : ¬ ((left - (g.scopes.length + scw g.scopes) : Nat) : Int) < 0 := by omega
      have C2 := Lib.hid c2
      have CTA := Lib.hid (fun W (h : LfRd W (scpsLf f.scopes) (.slice pa f.scopes.length ca)) => toFilter_any f _ W h (by omega) (fun s hs => by have := scw_in hs; omega))
      have CTB := Lib.hid (fun W (h : LfRd W (scpsLf g.scopes) (.slice pb g.scopes.length cb)) => toFilter_any g _ W h (by omega) (fun s hs => by have := scw_in hs; omega))
      have CS := Lib.hid (fun u v W (h : LfRd W (scpsLf f.scopes) u) (h2 : LfRd W (scpsLf g.scopes) v) => specSameFilter_any f g u v W h h2 (by omega) (fun s hs => by have := scw_in hs; omega))
      have CI := Lib.hid (fun u v W (hg : G W) (h : LfRd W (scpsLf f.scopes) u) (h2 : LfRd W (scpsLf g.scopes) v) => IS f g u v W hg h h2 (by omega) (by omega) (fun s hs => by have := scw_in hs; exact ⟨by omega, fun x hx => by have := szl_in hx; omega⟩) (fun s hs => by have := scw_in hs; exact ⟨by omega, fun x hx => by have := szl_in hx; omega⟩) hia hib)
      have CEA := Lib.hid (fun u v W (h : LfRd W (scpsLf f.scopes) u) (h2 : LfRd W (scpsLf f.scopes) v) => eqFilter_same f u v W h h2 (by omega) (fun s hs => by have := scw_in hs; omega))
      have CEB := Lib.hid (fun u v W (h : LfRd W (scpsLf g.scopes) u) (h2 : LfRd W (scpsLf g.scopes) v) => eqFilter_same g u v W h h2 (by omega) (fun s hs => by have := scw_in hs; omega))
      clear hra hrb IS c1 c2 hxa hxb hia hib
      generalize decide (f = g) = ok at *
      obtain ⟨fo, fl⟩ := f
      obtain ⟨go, gl⟩ := g
      simp only at *
      obtain ⟨a0, a1⟩ := blk_pair hA
      obtain ⟨b0, b1⟩ := blk_pair hB
      have HA := Lib.hid hA
      have HB := Lib.hid hB
      clear hA hB hok hok2 hleft hla hlb
      go_enter Try.func8, Try.ntmps8
      go_wp2_with fail
      generalize ((w.alloc (.cells #[.bool fo, .slice pa fl.length ca] 42)).alloc (.cells #[.bool go, .slice pb gl.length cb] 42)) = W1 at *
      refine (C1.out _ (LfRd.below hb1 _ _ HRA.out)).mono ?_
      rintro e w1 ⟨rfl, x1⟩
      have hb2 := hb1.trans (x1.mono (by omega))
      have HA1 := Lib.hid ((x1.block w.heap.size (by omega)).trans HA.out)
      have HB1 := Lib.hid ((x1.block (w.heap.size + 1) (by omega)).trans HB.out)
      have hz2 := Nat.le_trans (Nat.le_of_eq hz1.symm) x1.size
      clear x1 a0 a1 b0 b1
      obtain ⟨b0, b1⟩ := blk_pair HB1.out
      go_wp2_with fail
      refine (C2.out _ (LfRd.below hb2 _ _ HRB.out)).mono ?_
      rintro e w2 ⟨rfl, x2⟩
      have hb3 := hb2.trans (x2.mono (by omega))
      have HA2 := Lib.hid ((x2.block w.heap.size (by omega)).trans HA1.out)
      have HB2 := Lib.hid ((x2.block (w.heap.size + 1) (by omega)).trans HB1.out)
      have hz3 := Nat.le_trans hz2 x2.size
      clear x2 b0 b1
      go_wp2
      refine ord_start [(0, true), (2, true), (1, false), (3, false), (4, false), (5, true)] (fun W => W.heap[w.heap.size]? = some (.cells #[.bool fo, .slice pa fl.length ca] 42 (0, 0)) ∧ W.heap[w.heap.size + 1]? = some (.cells #[.bool go, .slice pb gl.length cb] 42 (0, 0))) (by kernel_rfl) (by kernel_rfl) rfl (by kernel_rfl) ?_
      intro ops' hops
      clear hops
      simp only [List.map_cons, List.map_nil, pickOp_zero, pickOp_succ]
      refine ord_flo (.agg #[.bool fo, .slice pa fl.length ca]) (fun _ _ _ h => h) rfl ?_ ⟨HA2.out, HB2.out⟩ ?_
      · intro W hS
        obtain ⟨y0, y1⟩ := blk_pair hS.1
        clear hS
        go_simp
      refine ord_flo (.agg #[.bool go, .slice pb gl.length cb]) (fun _ _ _ h => h) rfl ?_ ⟨HA2.out, HB2.out⟩ ?_
      · intro W hS
        obtain ⟨y0, y1⟩ := blk_pair hS.2
        clear hS
        go_simp
      refine ord_ev rfl ?_
      go_simp
      refine (CTA.out _ (LfRd.below hb3.drew _ _ HRA.out)).mono ?_
      rintro e w3 ⟨v3, f3, rfl, o3, x3⟩
      have hb4 := hb3.drew.trans (x3.mono (by show w.heap.size ≤ w2.heap.size; omega))
      have HA3 := Lib.hid ((x3.block w.heap.size (by show _ < w2.heap.size; omega)).trans HA2.out)
      have HB3 := Lib.hid ((x3.block (w.heap.size + 1) (by show _ < w2.heap.size; omega)).trans HB2.out)
      have R3 := Lib.hid o3.rd
      have hz4 : w2.heap.size ≤ w3.heap.size := x3.size
      refine ⟨⟨HA3.out, HB3.out⟩, ?_⟩
      clear x3 o3
      refine ord_ev rfl ?_
      go_simp
      refine (CTB.out _ (LfRd.below hb4 _ _ HRB.out)).mono ?_
      rintro e w4 ⟨v4, f4, rfl, o4, x4⟩
      have hb5 := hb4.trans (x4.mono (by omega))
      have HA4 := Lib.hid ((x4.block w.heap.size (by omega)).trans HA3.out)
      have HB4 := Lib.hid ((x4.block (w.heap.size + 1) (by omega)).trans HB3.out)
      have CSS := Lib.hid (CS.out _ _ _ (LfRd.below x4 _ _ R3.out) o4.rd)
      have hz5 := x4.size
      refine ⟨⟨HA4.out, HB4.out⟩, ?_⟩
      clear x4 o4
      refine ord_ev rfl ?_
      go_simp
      refine (CSS.out).mono ?_
      rintro e w5 ⟨rfl, x5⟩
      have hb6 := hb5.trans (x5.mono (by omega))
      have HA5 := Lib.hid ((x5.block w.heap.size (by omega)).trans HA4.out)
      have HB5 := Lib.hid ((x5.block (w.heap.size + 1) (by omega)).trans HB4.out)
      have hz6 := x5.size
      refine ⟨⟨HA5.out, HB5.out⟩, ?_⟩
      clear x5 CSS
      iterate 1 (refine ord_flo ?_ (fun _ _ _ h => h) rfl ?_ ⟨HA5.out, HB5.out⟩ ?_; rotate_left; focus (intro W hS; obtain ⟨s1, s2⟩ := hS; go_simp; rfl))
      refine ord_done ?_
      go_simp
      obtain ⟨a0, a1⟩ := blk_pair HA5.out
      go_wp2_with fail
      refine (CTA.out _ (LfRd.below hb6 _ _ HRA.out)).mono ?_
      rintro e w6 ⟨v6, f6, rfl, o6, x6⟩
      have hb7 := hb6.trans (x6.mono (by omega))
      have HA6 := Lib.hid ((x6.block w.heap.size (by omega)).trans HA5.out)
      have HB6 := Lib.hid ((x6.block (w.heap.size + 1) (by omega)).trans HB5.out)
      have R6 := Lib.hid o6.rd
      have hz7 := x6.size
      obtain ⟨p6, q6, rfl, _⟩ := scps_at R6.out
      clear x6 o6 a0 a1
      have hbX : Below w6.heap.size w6 (w6.alloc (.cells #[.bool fo, .slice p6 fl.length q6] 26)) := (Below.refl _ _).alloc (Nat.le_refl _) _
      have HX6 := Lib.hid (show (w6.alloc (.cells #[.bool fo, .slice p6 fl.length q6] 26)).heap[w6.heap.size]? = some (.cells #[.bool fo, .slice p6 fl.length q6] 26 (0, 0)) from heap_alloc_new w6 _)
      have hzX : (w6.alloc (.cells #[.bool fo, .slice p6 fl.length q6] 26)).heap.size = w6.heap.size + 1 := by simp
      have HBX := Lib.hid ((hbX.block (w.heap.size + 1) (by omega)).trans HB6.out)
      obtain ⟨b0, b1⟩ := blk_pair HBX.out
      have b0' : w6.cell? ⟨w.heap.size + 1, 0, none⟩ = some (.bool go) := (blk_pair HB6.out).1
      have b1' : w6.cell? ⟨w.heap.size + 1, 1, none⟩ = some (.slice pb gl.length cb) := (blk_pair HB6.out).2
      go_wp2_with fail
      generalize (w6.alloc (.cells #[.bool fo, .slice p6 fl.length q6] 26)) = X at *
      have hb8 := hb7.trans (hbX.mono (by omega))
      have HAX := Lib.hid ((hbX.block w.heap.size (by omega)).trans HA6.out)
      have R7 := Lib.hid (LfRd.below hbX _ _ R6.out)
      refine (CTB.out _ (LfRd.below hb8 _ _ HRB.out)).mono ?_
      rintro e w8 ⟨v8, f8, rfl, o8, x8⟩
      have hb9 := hb8.trans (x8.mono (by omega))
      have HA8 := Lib.hid ((x8.block w.heap.size (by omega)).trans HAX.out)
      have HB8 := Lib.hid ((x8.block (w.heap.size + 1) (by omega)).trans HBX.out)
      have HX8 := Lib.hid ((x8.block w6.heap.size (by omega)).trans HX6.out)
      have R8 := Lib.hid (LfRd.below x8 _ _ R7.out)
      have R8b := Lib.hid o8.rd
      have hz8 := Nat.le_trans (Nat.le_of_eq hzX.symm) x8.size
      obtain ⟨p8, q8, rfl, _⟩ := scps_at R8b.out
      clear x8 o8 b0 b1 b0' b1'
      have hbY : Below w8.heap.size w8 (w8.alloc (.cells #[.bool go, .slice p8 gl.length q8] 26)) := (Below.refl _ _).alloc (Nat.le_refl _) _
      have HY8 := Lib.hid (show (w8.alloc (.cells #[.bool go, .slice p8 gl.length q8] 26)).heap[w8.heap.size]? = some (.cells #[.bool go, .slice p8 gl.length q8] 26 (0, 0)) from heap_alloc_new w8 _)
      have hzY : (w8.alloc (.cells #[.bool go, .slice p8 gl.length q8] 26)).heap.size = w8.heap.size + 1 := by simp
      have HXY := Lib.hid ((hbY.block w6.heap.size (by omega)).trans HX8.out)
      obtain ⟨y0, y1⟩ := blk_pair HXY.out
      have y0' : w8.cell? ⟨w6.heap.size, 0, none⟩ = some (.bool fo) := (blk_pair HX8.out).1
      have y1' : w8.cell? ⟨w6.heap.size, 1, none⟩ = some (.slice p6 fl.length q6) := (blk_pair HX8.out).2
      go_wp2_with fail
      generalize (w8.alloc (.cells #[.bool go, .slice p8 gl.length q8] 26)) = Y at *
      have hb10 := hb9.trans (hbY.mono (by omega))
      have HAY := Lib.hid ((hbY.block w.heap.size (by omega)).trans HA8.out)
      have HBY := Lib.hid ((hbY.block (w.heap.size + 1) (by omega)).trans HB8.out)
      refine (CI.out _ _ _ (hK _ _ hG hb10) (LfRd.below hbY _ _ R8.out) (LfRd.below hbY _ _ R8b.out)).mono ?_
      rintro e w10 ⟨rfl, x10⟩
      have hb11 := hb10.trans (x10.mono (by omega))
      have HA10 := Lib.hid ((x10.block w.heap.size (by omega)).trans HAY.out)
      have HB10 := Lib.hid ((x10.block (w.heap.size + 1) (by omega)).trans HBY.out)
      have HX10 := Lib.hid ((x10.block w6.heap.size (by omega)).trans HXY.out)
      have HY10 := Lib.hid ((x10.block w8.heap.size (by omega)).trans HY8.out)
      have R10 := Lib.hid (LfRd.below x10 _ _ (LfRd.below hbY _ _ R8.out))
      have R10b := Lib.hid (LfRd.below x10 _ _ (LfRd.below hbY _ _ R8b.out))
      have hz10 := Nat.le_trans (Nat.le_of_eq hzY.symm) x10.size
      have hne : (ok != ok) = false := by simp
      clear x10 y0 y1 y0' y1'
      go_wp2
      refine ord_start [(0, true), (1, true), (2, false), (3, false), (4, true)] (fun W => W.heap[w.heap.size]? = some (.cells #[.bool fo, .slice pa fl.length ca] 42 (0, 0)) ∧ W.heap[w6.heap.size]? = some (.cells #[.bool fo, .slice p6 fl.length q6] 26 (0, 0))) (by kernel_rfl) (by kernel_rfl) rfl (by kernel_rfl) ?_
      intro ops' hops
      clear hops
      simp only [List.map_cons, List.map_nil, pickOp_zero, pickOp_succ]
      refine ord_flo (.agg #[.bool fo, .slice p6 fl.length q6]) (fun _ _ _ h => h) rfl ?_ ⟨HA10.out, HX10.out⟩ ?_
      · intro W hS
        obtain ⟨y0, y1⟩ := blk_pair hS.2
        clear hS
        go_simp
      refine ord_flo (.agg #[.bool fo, .slice pa fl.length ca]) (fun _ _ _ h => h) rfl ?_ ⟨HA10.out, HX10.out⟩ ?_
      · intro W hS
        obtain ⟨y0, y1⟩ := blk_pair hS.1
        clear hS
        go_simp
      refine ord_ev rfl ?_
      go_simp
      refine (CTA.out _ (LfRd.below hb11.drew _ _ HRA.out)).mono ?_
      rintro e w11 ⟨v11, f11, rfl, o11, x11⟩
      have hb12 := hb11.drew.trans (x11.mono (by show w.heap.size ≤ w10.heap.size; omega))
      have x11' : Below w10.heap.size w10 w11 := below_of_drew x11
      have HA11 := Lib.hid ((x11'.block w.heap.size (by omega)).trans HA10.out)
      have HB11 := Lib.hid ((x11'.block (w.heap.size + 1) (by omega)).trans HB10.out)
      have HX11 := Lib.hid ((x11'.block w6.heap.size (by omega)).trans HX10.out)
      have HY11 := Lib.hid ((x11'.block w8.heap.size (by omega)).trans HY10.out)
      have CEE := Lib.hid (CEA.out _ _ _ (LfRd.below x11' _ _ R10.out) o11.rd)
      have R11b := Lib.hid (LfRd.below x11' _ _ R10b.out)
      have hz11 := x11'.size
      refine ⟨⟨HA11.out, HX11.out⟩, ?_⟩
      clear x11 x11' o11
      refine ord_ev rfl ?_
      go_simp
      refine (CEE.out).mono ?_
      rintro e w12 ⟨rfl, x12⟩
      have hb13 := hb12.trans (x12.mono (by omega))
      have HA12 := Lib.hid ((x12.block w.heap.size (by omega)).trans HA11.out)
      have HB12 := Lib.hid ((x12.block (w.heap.size + 1) (by omega)).trans HB11.out)
      have HX12 := Lib.hid ((x12.block w6.heap.size (by omega)).trans HX11.out)
      have HY12 := Lib.hid ((x12.block w8.heap.size (by omega)).trans HY11.out)
      have R12b := Lib.hid (LfRd.below x12 _ _ R11b.out)
      have hz12 := x12.size
      refine ⟨⟨HA12.out, HX12.out⟩, ?_⟩
      clear x12 CEE
      iterate 1 (refine ord_flo ?_ (fun _ _ _ h => h) rfl ?_ ⟨HA12.out, HX12.out⟩ ?_; rotate_left; focus (intro W hS; obtain ⟨s1, s2⟩ := hS; go_simp; rfl))
      refine ord_done ?_
      go_simp
      go_wp2
      refine ord_start [(0, true), (1, true), (2, false), (3, false), (4, true)] (fun W => W.heap[w.heap.size + 1]? = some (.cells #[.bool go, .slice pb gl.length cb] 42 (0, 0)) ∧ W.heap[w8.heap.size]? = some (.cells #[.bool go, .slice p8 gl.length q8] 26 (0, 0))) (by kernel_rfl) (by kernel_rfl) rfl (by kernel_rfl) ?_
      intro ops' hops
      clear hops
      simp only [List.map_cons, List.map_nil, pickOp_zero, pickOp_succ]
      refine ord_flo (.agg #[.bool go, .slice p8 gl.length q8]) (fun _ _ _ h => h) rfl ?_ ⟨HB12.out, HY12.out⟩ ?_
      · intro W hS
        obtain ⟨y0, y1⟩ := blk_pair hS.2
        clear hS
        go_simp
      refine ord_flo (.agg #[.bool go, .slice pb gl.length cb]) (fun _ _ _ h => h) rfl ?_ ⟨HB12.out, HY12.out⟩ ?_
      · intro W hS
        obtain ⟨y0, y1⟩ := blk_pair hS.1
        clear hS
        go_simp
      refine ord_ev rfl ?_
      go_simp
      refine (CTB.out _ (LfRd.below hb13.drew _ _ HRB.out)).mono ?_
      rintro e w13 ⟨v13, f13, rfl, o13, x13⟩
      have hb14 := hb13.drew.trans (x13.mono (by show w.heap.size ≤ w12.heap.size; omega))
      have x13' : Below w12.heap.size w12 w13 := below_of_drew x13
      have HB13 := Lib.hid ((x13'.block (w.heap.size + 1) (by omega)).trans HB12.out)
      have HY13 := Lib.hid ((x13'.block w8.heap.size (by omega)).trans HY12.out)
      have CEE := Lib.hid (CEB.out _ _ _ (LfRd.below x13' _ _ R12b.out) o13.rd)
      have hz13 := x13'.size
      refine ⟨⟨HB13.out, HY13.out⟩, ?_⟩
      clear x13 x13' o13
      refine ord_ev rfl ?_
      go_simp
      refine (CEE.out).mono ?_
      rintro e w14 ⟨rfl, x14⟩
      have hb15 := hb14.trans (x14.mono (by omega))
      have HB14 := Lib.hid ((x14.block (w.heap.size + 1) (by omega)).trans HB13.out)
      have HY14 := Lib.hid ((x14.block w8.heap.size (by omega)).trans HY13.out)
      refine ⟨⟨HB14.out, HY14.out⟩, ?_⟩
      clear x14
      iterate 1 (refine ord_flo ?_ (fun _ _ _ h => h) rfl ?_ ⟨HB14.out, HY14.out⟩ ?_; rotate_left; focus (intro W hS; obtain ⟨s1, s2⟩ := hS; go_simp; rfl))
      refine ord_done ?_
      go_simp
      go_wp2
      go_ret
      exact ⟨rfl, hb15⟩
    · rw [scR_no hok2] at c2
      have C2 := Lib.hid c2
      clear hra hrb IS c1 c2 hxa hxb hia hib
      obtain ⟨fo, fl⟩ := f
      obtain ⟨go, gl⟩ := g
      simp only at *
      have HB := Lib.hid hB
      clear hB
      go_enter Try.func8, Try.ntmps8
      go_wp2_with fail
      refine (C1.out _ (LfRd.below hb1 _ _ HRA.out)).mono ?_
      rintro e w1 ⟨rfl, x1⟩
      have hb2 := hb1.trans (x1.mono (by omega))
      have HB1 := Lib.hid ((x1.block (w.heap.size + 1) (by omega)).trans HB.out)
      have hz2 := Nat.le_trans (Nat.le_of_eq hz1.symm) x1.size
      clear x1
      obtain ⟨b0, b1⟩ := blk_pair HB1.out
      go_wp2_with fail
      refine (C2.out _ (LfRd.below hb2 _ _ HRB.out)).mono ?_
      rintro e w2 ⟨rfl, x2⟩
      have hb3 := hb2.trans (x2.mono (by omega))
      go_wp2
      go_ret
      exact ⟨rfl, hb3⟩
  · rw [scR_no hok] at c1
    have C1 := Lib.hid c1
    clear c1 IS hxa hxb hia hib hra hrb
    obtain ⟨fo, fl⟩ := f
    obtain ⟨go, gl⟩ := g
    simp only at *
    go_enter Try.func8, Try.ntmps8
    go_wp2_with fail
    refine (C1.out _ (LfRd.below hb1 _ _ HRA.out)).mono ?_
    rintro e w1 ⟨rfl, x1⟩
    have hb := hb1.trans (x1.mono (by omega))
    go_wp2
    go_ret
    exact ⟨rfl, hb⟩

end Go.Proofs.Ythihjelcakenpaa
