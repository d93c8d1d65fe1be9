/-
  The laws' helpers on records of the type Filter (made by tools/typegen.py).
-/
import Derived.Test.YtidjebepgpbcnaaLg
import Derived.Test.YtidjebepgpbcnaaLgB
import Derived.Test.YtidjebepgpbcnaaTyScope
import Derived.Test.YtidjebepgpbcnaaGh
import Derived.Handy
import Derived.IntWalk
namespace Go.Proofs.Ytidjebepgpbcnaa
open Go.RowKit

def Flt.lf (x : Flt) : List Lf := [.bool x.on, scpsLf x.scopes]
theorem Flt.len (x : Flt) : x.lf.length = 2 := rfl
def filtersLf (l : List Flt) : Lf := .rows 34 2 l.length (l.flatMap Flt.lf)
theorem Flt.fit (x : Flt) : LsFit x.lf := ⟨trivial, scpsLf_fit x.scopes, trivial⟩
theorem filtersLf_fit (l : List Flt) : LfFit (filtersLf l) := ⟨by omega, flat_lenM Flt.len l, LsFit.flat Flt.fit l⟩
theorem Flt.sz (x : Flt) : szLs x.lf = szLf (scpsLf x.scopes) := by simp only [Flt.lf, szLs, szLf_bool] <;> omega
theorem Flt.cnt (x : Flt) : cntLs x.lf = 1 + cntLf (scpsLf x.scopes) := by simp only [Flt.lf, cntLs, cntLf_bool] <;> omega
theorem Flt.rd {W : World} {x : Flt} {vs : List Value} : LsRd W x.lf vs ↔ ∃ r1, vs = [.bool x.on, r1] ∧ LfRd W (scpsLf x.scopes) r1 := by
  constructor
  · rintro ⟨a0, s0, rfl, h0, a1, s1, rfl, h1, rfl⟩
    exact ⟨a1, by rw [h0], h1⟩
  · rintro ⟨r1, rfl, h1⟩
    exact ⟨_, _, rfl, rfl, _, _, rfl, h1, rfl⟩
theorem Flt.mark (x : Flt) (k : Nat) : (markLs x.lf k).1 = [.bool ((k) % 3 == 0), (markLf (scpsLf x.scopes) (k + 1)).1] := by simp only [Flt.lf, markLs, markLf_bool, markLf_cnt]
theorem Flt.rdm {W : World} {x : Flt} {k : Nat} {vs : List Value} : LsRd W (markLs x.lf k).1 vs ↔ ∃ r1, vs = [.bool ((k) % 3 == 0), r1] ∧ LfRd W (markLf (scpsLf x.scopes) (k + 1)).1 r1 := by
  rw [Flt.mark]
  constructor
  · rintro ⟨a0, s0, rfl, h0, a1, s1, rfl, h1, rfl⟩
    exact ⟨a1, by rw [h0], h1⟩
  · rintro ⟨r1, rfl, h1⟩
    exact ⟨_, _, rfl, rfl, _, _, rfl, h1, rfl⟩
theorem Flt.in_of {W : World} {z0 : Bool} {z1 : Lf} {vs : List Value} {fp : List Nat} (h : LsIn W [.bool z0, z1] vs fp) : ∃ r1 f1, vs = [.bool z0, r1] ∧ LfIn W z1 r1 f1 ∧ fp = f1 := by
  obtain ⟨a0, s0, f0, g0, rfl, h0, ⟨a1, s1, f1, g1, rfl, h1, ⟨rfl, rfl⟩, rfl⟩, rfl⟩ := h
  exact ⟨a1, f1, by rw [h0.1], h1, by rw [h0.2]; simp⟩
theorem Flt.in_mk {W : World} {z0 : Bool} {z1 : Lf} {r1 : Value} {f1 : List Nat} (h1 : LfIn W z1 r1 f1) : LsIn W [.bool z0, z1] [.bool z0, r1] (f1) := by
  have h : LsIn W [.bool z0, z1] [.bool z0, r1] ([] ++ (f1 ++ ([]))) := ⟨_, _, [], _, rfl, ⟨rfl, rfl⟩, ⟨_, _, f1, _, rfl, h1, ⟨rfl, rfl⟩, rfl⟩, rfl⟩
  simpa using h

theorem Flt.at {W : World} {l : List Flt} {v : Value} (h : LfRd W (filtersLf l) v) : ∃ p cap, v = .slice p l.length cap ∧ (l = [] ∨ ∃ b off, p = some ⟨b, off, none⟩ ∧ b < W.heap.size ∧ ∀ i x, l[i]? = some x → ∃ r1, LfRd W (scpsLf x.scopes) r1 ∧ W.cell? ⟨b, off + i * 2, none⟩ = some (.bool x.on) ∧ W.cell? ⟨b, off + i * 2 + 1, none⟩ = some (r1)) := by
  obtain ⟨p, cap, hv, hc⟩ := rows_at Flt.len h
  refine ⟨p, cap, hv, hc.imp id fun ⟨b, off, hp, hlt, hc⟩ => ⟨b, off, hp, hlt, fun i x hi => ?_⟩⟩
  obtain ⟨us, h1, h2⟩ := hc i x hi
  obtain ⟨r1, rfl, k1⟩ := Flt.rd.1 h1
  exact ⟨r1, k1, h2 0 _ rfl, h2 1 _ rfl⟩
theorem Flt.atm {W : World} {l : List Flt} {v : Value} {k0 : Nat} (h : LfRd W (markLf (filtersLf l) k0).1 v) : ∃ p cap, v = .slice p l.length cap ∧ (l = [] ∨ ∃ b off, p = some ⟨b, off, none⟩ ∧ b < W.heap.size ∧ ∀ i x k, l[i]? = some x → k = k0 + cntLs ((l.take i).flatMap Flt.lf) → ∃ r1, LfRd W (markLf (scpsLf x.scopes) (k + 1)).1 r1 ∧ W.cell? ⟨b, off + i * 2, none⟩ = some (.bool ((k) % 3 == 0)) ∧ W.cell? ⟨b, off + i * 2 + 1, none⟩ = some (r1)) := by
  obtain ⟨p, cap, hv, hc⟩ := rows_at_mark Flt.len h
  refine ⟨p, cap, hv, hc.imp id fun ⟨b, off, hp, hlt, hc⟩ => ⟨b, off, hp, hlt, fun i x k hi hk => ?_⟩⟩
  obtain ⟨us, h1, h2⟩ := hc i x hi
  rw [← hk] at h1
  obtain ⟨r1, rfl, k1⟩ := Flt.rdm.1 h1
  exact ⟨r1, k1, h2 0 _ rfl, h2 1 _ rfl⟩

set_option maxHeartbeats 1600000 in
theorem szFilter_g (x : Flt) (r1 : Value) (ll : Int) (left : Nat) (hll : ll = (left : Int)) (w : World) (h1 : LfRd w (scpsLf x.scopes) r1) (hin : LsBnd x.lf) (hL : left ≤ 1000000000000) :
    Calls Try.prog 21 #[.agg #[.bool x.on, r1], .int .i64 ll] w fun e w' => e = .returned (.int .i64 (szN left (szLs x.lf))) ∧ Below w.heap.size w w' := by
  subst hll
  have hr1 := h1
  obtain ⟨p1, c1, rfl⟩ := LfRd.slice h1
  have hb1 : Below w.heap.size w (w.alloc (.cells #[.bool x.on, (.slice p1 x.scopes.length c1)] 26)) := (Below.refl _ _).alloc (Nat.le_refl _) _
  have HA1 := Lib.hid (heap_alloc_new w (.cells #[.bool x.on, (.slice p1 x.scopes.length c1)] 26))
  have hsz := Flt.sz x
  have bi_1 : LfBnd (scpsLf x.scopes) := hin.2.1
  clear hin
  by_cases k0 : szLf (scpsLf x.scopes) ≤ left
  · obtain ⟨L1, hL1⟩ : ∃ L, L + szLf (scpsLf x.scopes) = left := ⟨left - szLf (scpsLf x.scopes), by omega⟩
    have q1 := fun (ll : Int) (W : World) (hl : ll = (left : Int)) (g : LfRd W (scpsLf x.scopes) (.slice p1 x.scopes.length c1)) => szScopeS_g (.slice p1 x.scopes.length c1) x.scopes ll left hl W g bi_1 (by omega)
    simp only [show szN left (szLf (scpsLf x.scopes)) = (L1 : Int) from by rw [szN_yes k0]; omega] at q1
    have C1 := Lib.hid q1
    clear q1
    have n0 : ¬ (L1 : Int) < 0 := by omega
    have bL1 : L1 ≤ 1000000000000 := by omega
    have HL1 := Lib.hid hL1
    have HV := Lib.hid (show szN left (szLs x.lf) = (L1 : Int) by rw [hsz, szN_yes (by omega)]; omega)
    clear hsz hL1

    go_enter Try.func21, Try.ntmps21
    go_wp2_with fail
    refine (C1.out _ _ (by have e1 := HL1.out; omega) (LfRd.below hb1 _ _ hr1)).mono ?_
    rintro e w2 ⟨rfl, b2⟩
    have hb2 := hb1.trans (b2.mono hb1.size)
    have HA2 := Lib.hid ((b2.block w.heap.size (by simp)).trans HA1.out)
    have hz2 : w.heap.size < w2.heap.size := (Array.getElem?_eq_some_iff.1 HA2.out).1
    go_wp2
    go_ret
    exact ⟨by rw [HV.out]; rfl, hb2⟩
  · have HV := Lib.hid (show szN left (szLs x.lf) = -1 by rw [hsz]; exact szN_no (by omega))
    have q1 := fun (ll : Int) (W : World) (hl : ll = (left : Int)) (g : LfRd W (scpsLf x.scopes) (.slice p1 x.scopes.length c1)) => szScopeS_g (.slice p1 x.scopes.length c1) x.scopes ll left hl W g bi_1 (by omega)
    simp only [show szN left (szLf (scpsLf x.scopes)) = -1 from szN_no k0] at q1
    have C1 := Lib.hid q1
    clear q1
    clear hsz

    go_enter Try.func21, Try.ntmps21
    go_wp2_with fail
    refine (C1.out _ _ (by omega) (LfRd.below hb1 _ _ hr1)).mono ?_
    rintro e w2 ⟨rfl, b2⟩
    have hb2 := hb1.trans (b2.mono hb1.size)
    have HA2 := Lib.hid ((b2.block w.heap.size (by simp)).trans HA1.out)
    have hz2 : w.heap.size < w2.heap.size := (Array.getElem?_eq_some_iff.1 HA2.out).1
    go_wp2
    go_ret
    exact ⟨by rw [HV.out]; rfl, hb2⟩

set_option maxHeartbeats 1600000 in
theorem eqFilter_g (x : Flt) (ra1 rb1 : Value) (w : World) (ha1 : LfRd w (scpsLf x.scopes) ra1) (hb1 : LfRd w (scpsLf x.scopes) rb1) (hs : szLs x.lf ≤ 1000000000000) :
    Calls Try.prog 33 #[.agg #[.bool x.on, ra1], .agg #[.bool x.on, rb1]] w fun e w' => e = .returned (.bool true) ∧ Below w.heap.size w w' := by
  have ne_on : (x.on != x.on) = false := by simp
  have hra1 := ha1
  have hrb1 := hb1
  obtain ⟨p1a, c1a, rfl⟩ := LfRd.slice ha1
  obtain ⟨p1b, c1b, rfl⟩ := LfRd.slice hb1
  have hb1 : Below w.heap.size w ((w.alloc (.cells #[.bool x.on, (.slice p1a x.scopes.length c1a)] 34)).alloc (.cells #[.bool x.on, (.slice p1b x.scopes.length c1b)] 34)) := ((Below.refl _ _).alloc (Nat.le_refl _) _).alloc (by simp) _
  have HA1 := Lib.hid (show ((w.alloc (.cells #[.bool x.on, (.slice p1a x.scopes.length c1a)] 34)).alloc (.cells #[.bool x.on, (.slice p1b x.scopes.length c1b)] 34)).heap[w.heap.size]? = some (.cells #[.bool x.on, (.slice p1a x.scopes.length c1a)] 34 (0, 0)) from (Below.heap_alloc _ _ _ (by simp)).trans (heap_alloc_new w _))
  have HB1 := Lib.hid (show ((w.alloc (.cells #[.bool x.on, (.slice p1a x.scopes.length c1a)] 34)).alloc (.cells #[.bool x.on, (.slice p1b x.scopes.length c1b)] 34)).heap[w.heap.size + 1]? = some (.cells #[.bool x.on, (.slice p1b x.scopes.length c1b)] 34 (0, 0)) from by
    have := heap_alloc_new (w.alloc (.cells #[.bool x.on, (.slice p1a x.scopes.length c1a)] 34)) (.cells #[.bool x.on, (.slice p1b x.scopes.length c1b)] 34)
    rwa [World.size_alloc] at this)
  have hz1 : ((w.alloc (.cells #[.bool x.on, (.slice p1a x.scopes.length c1a)] 34)).alloc (.cells #[.bool x.on, (.slice p1b x.scopes.length c1b)] 34)).heap.size = w.heap.size + 2 := by simp
  have HZ1 := Lib.hid (Nat.le_of_eq hz1.symm)
  clear hz1
  have hsz := Flt.sz x
  have C1 := Lib.hid (fun W (g : LfRd W (scpsLf x.scopes) (.slice p1a x.scopes.length c1a)) (g2 : LfRd W (scpsLf x.scopes) (.slice p1b x.scopes.length c1b)) => eqScopeS_g _ _ x.scopes W g g2 (by omega))
  clear hs hsz
  go_enter Try.func33, Try.ntmps33
  go_wp2_with fail
  refine (C1.out _ (LfRd.below hb1 _ _ hra1) (LfRd.below hb1 _ _ hrb1)).mono ?_
  rintro e w2 ⟨rfl, b2⟩
  have hb2 := hb1.trans (b2.mono hb1.size)
  have HZ2 := Lib.hid (Nat.le_trans HZ1.out b2.size)
  have HA2 := Lib.hid ((b2.block w.heap.size (by have := HZ1.out; omega)).trans HA1.out)
  have HB2 := Lib.hid ((b2.block (w.heap.size + 1) (by have := HZ1.out; omega)).trans HB1.out)
  clear b2
  go_wp2
  go_ret
  exact ⟨rfl, hb2⟩

set_option maxRecDepth 20000 in
set_option maxHeartbeats 6400000 in
theorem toFilter_g (x : Flt) (r1 : Value) (w : World) (h1 : LfRd w (scpsLf x.scopes) r1) (hs : szLs x.lf ≤ 10000000) :
    Calls Try.prog 30 #[.agg #[.bool x.on, r1]] w fun e w' => ∃ v1 f1, e = .returned (.agg #[.bool x.on, v1]) ∧ LfIn w' (scpsLf x.scopes) v1 f1 ∧ (f1).Nodup ∧ (∀ q ∈ f1, w.heap.size ≤ q) ∧ Below w.heap.size w w' := by
  have HR1 := Lib.hid h1
  obtain ⟨p1, c1, rfl⟩ := LfRd.slice h1
  have hsz := Flt.sz x
  have C1 := Lib.hid (fun W (g : LfRd W (scpsLf x.scopes) (.slice p1 x.scopes.length c1)) => toScopeS_g _ x.scopes W g (by omega))
  clear hs hsz h1
  go_enter Try.func30, Try.ntmps30
  have HA := Lib.hid (heap_alloc_new w (.cells #[.bool x.on, (.slice p1 x.scopes.length c1)] 26))
  go_wp2_with fail
  have hb : Below w.heap.size w (((w.alloc (.cells #[.bool x.on, (.slice p1 x.scopes.length c1)] 26)).alloc (.cells #[.bool false, .slice none 0 0] 34)).alloc (.cells #[.bool x.on, .slice none 0 0] 34)) := (((Below.refl _ _).alloc (Nat.le_refl _) _).alloc (by simp) _).alloc (by simp; omega) _
  have hA : (((w.alloc (.cells #[.bool x.on, (.slice p1 x.scopes.length c1)] 26)).alloc (.cells #[.bool false, .slice none 0 0] 34)).alloc (.cells #[.bool x.on, .slice none 0 0] 34)).heap[w.heap.size]? = some (.cells #[.bool x.on, (.slice p1 x.scopes.length c1)] 26 (0, 0)) := ((Below.heap_alloc _ _ _ (by simp; omega)).trans (Below.heap_alloc _ _ _ (by simp))).trans HA.out
  have hR : (((w.alloc (.cells #[.bool x.on, (.slice p1 x.scopes.length c1)] 26)).alloc (.cells #[.bool false, .slice none 0 0] 34)).alloc (.cells #[.bool x.on, .slice none 0 0] 34)).heap[w.heap.size + 1]? = some (.cells #[.bool false, .slice none 0 0] 34 (0, 0)) := (Below.heap_alloc _ _ _ (by simp)).trans (by have := heap_alloc_new (w.alloc (.cells #[.bool x.on, (.slice p1 x.scopes.length c1)] 26)) (.cells #[.bool false, .slice none 0 0] 34); rwa [World.size_alloc] at this)
  have hT : (((w.alloc (.cells #[.bool x.on, (.slice p1 x.scopes.length c1)] 26)).alloc (.cells #[.bool false, .slice none 0 0] 34)).alloc (.cells #[.bool x.on, .slice none 0 0] 34)).heap[w.heap.size + 1 + 1]? = some (.cells #[.bool x.on, .slice none 0 0] 34 (0, 0)) := by
    have := heap_alloc_new ((w.alloc (.cells #[.bool x.on, (.slice p1 x.scopes.length c1)] 26)).alloc (.cells #[.bool false, .slice none 0 0] 34)) (.cells #[.bool x.on, .slice none 0 0] 34)
    rwa [World.size_alloc, World.size_alloc] at this
  have hz : w.heap.size + 3 ≤ (((w.alloc (.cells #[.bool x.on, (.slice p1 x.scopes.length c1)] 26)).alloc (.cells #[.bool false, .slice none 0 0] 34)).alloc (.cells #[.bool x.on, .slice none 0 0] 34)).heap.size := by simp
  generalize (((w.alloc (.cells #[.bool x.on, (.slice p1 x.scopes.length c1)] 26)).alloc (.cells #[.bool false, .slice none 0 0] 34)).alloc (.cells #[.bool x.on, .slice none 0 0] 34)) = W0 at *
  clear HA
  refine (C1.out _ (LfRd.below hb _ _ HR1.out)).mono ?_
  rintro e w1 ⟨v1, f1, rfl, t1, b1⟩
  have i1 := t1.is
  have n1 := t1.nodup
  have l1 : ∀ q ∈ f1, w.heap.size + 3 ≤ q := fun q hq => by have := t1.low q hq; omega
  obtain ⟨pv1, cv1, rfl⟩ := LfIn.slice i1
  clear t1
  replace hA := (b1.block (w.heap.size) (by omega)).trans hA
  replace hR := (b1.block (w.heap.size + 1) (by omega)).trans hR
  replace hT := (b1.block (w.heap.size + 1 + 1) (by omega)).trans hT
  have nn := n1
  replace hb := hb.trans (b1.mono hb.size)
  replace hz := Nat.le_trans hz b1.size
  clear b1
  have ce1 : w1.cell? ⟨w.heap.size + 1 + 1, 1, none⟩ = some (.slice none 0 0) := (Lib.cell_of_heap hT 1).trans rfl
  have ge1 : w1.frozen? ⟨w.heap.size + 1 + 1, 1, none⟩ = false := Lib.frozen_of_heap hT 1
  have hT1 : (w1.setCell ⟨w.heap.size + 1 + 1, 1, none⟩ (.slice pv1 x.scopes.length cv1)).heap[w.heap.size + 1 + 1]? = some (.cells #[.bool x.on, (.slice pv1 x.scopes.length cv1)] 34 (0, 0)) := set_heap hT
  have hA1 : (w1.setCell ⟨w.heap.size + 1 + 1, 1, none⟩ (.slice pv1 x.scopes.length cv1)).heap[w.heap.size]? = some (.cells #[.bool x.on, (.slice p1 x.scopes.length c1)] 26 (0, 0)) := (set_other (by omega)).trans hA
  have hR1 : (w1.setCell ⟨w.heap.size + 1 + 1, 1, none⟩ (.slice pv1 x.scopes.length cv1)).heap[w.heap.size + 1]? = some (.cells #[.bool false, .slice none 0 0] 34 (0, 0)) := (set_other (by omega)).trans hR
  have gs : GrownIn w1 (w1.setCell ⟨w.heap.size + 1 + 1, 1, none⟩ (.slice pv1 x.scopes.length cv1)) [w.heap.size + 1 + 1] := (GrownIn.refl w1 [w.heap.size + 1 + 1]).trans (GrownIn.set (by simp))
  replace i1 := LfIn.away i1 gs (fun k hk hm => by have := l1 k hk; simp at hm; omega)
  replace hb := GrownIn.below hb gs hb.size (fun k hk => by simp at hk; omega)
  replace hz := Nat.le_trans hz gs.size
  clear hA hR hT gs
  have hA := hA1
  have hR := hR1
  have hT := hT1
  clear hA1 hR1 hT1
  generalize hW1 : (w1.setCell ⟨w.heap.size + 1 + 1, 1, none⟩ (.slice pv1 x.scopes.length cv1)) = W1 at *
  have d0_ : W1.cell? ⟨w.heap.size + 1 + 1, 0, none⟩ = some (.bool x.on) := (Lib.cell_of_heap hT 0).trans rfl
  have d1_ : W1.cell? ⟨w.heap.size + 1 + 1, 1, none⟩ = some ((.slice pv1 x.scopes.length cv1)) := (Lib.cell_of_heap hT 1).trans rfl
  have r0_ : W1.cell? ⟨w.heap.size + 1, 0, none⟩ = some (.bool false) := (Lib.cell_of_heap hR 0).trans rfl
  have q0_ : W1.frozen? ⟨w.heap.size + 1, 0, none⟩ = false := Lib.frozen_of_heap hR 0
  have hR0 : (W1.setCell ⟨w.heap.size + 1, 0, none⟩ (.bool x.on)).heap[w.heap.size + 1]? = some (.cells #[.bool x.on, .slice none 0 0] 34 (0, 0)) := set_heap hR
  have r1_ : (W1.setCell ⟨w.heap.size + 1, 0, none⟩ (.bool x.on)).cell? ⟨w.heap.size + 1, 1, none⟩ = some (.slice none 0 0) := (Lib.cell_of_heap hR0 1).trans rfl
  have q1_ : W1.frozen? ⟨w.heap.size + 1, 1, none⟩ = false := Lib.frozen_of_heap hR 1
  have hR1 : ((W1.setCell ⟨w.heap.size + 1, 0, none⟩ (.bool x.on)).setCell ⟨w.heap.size + 1, 1, none⟩ (.slice pv1 x.scopes.length cv1)).heap[w.heap.size + 1]? = some (.cells #[.bool x.on, (.slice pv1 x.scopes.length cv1)] 34 (0, 0)) := set_heap hR0
  have s0_ := (Lib.cell_of_heap hR1 0).trans (show _ = some (.bool x.on) from rfl)
  have s1_ := (Lib.cell_of_heap hR1 1).trans (show _ = some ((.slice pv1 x.scopes.length cv1)) from rfl)
  have gs : GrownIn W1 ((W1.setCell ⟨w.heap.size + 1, 0, none⟩ (.bool x.on)).setCell ⟨w.heap.size + 1, 1, none⟩ (.slice pv1 x.scopes.length cv1)) [w.heap.size + 1] := ((GrownIn.refl W1 [w.heap.size + 1]).trans (GrownIn.set (by simp))).trans (GrownIn.set (by simp))
  have I1 := Lib.hid (LfIn.away i1 gs (fun k hk hm => by have := l1 k hk; simp at hm; omega))
  have hbf := GrownIn.below hb gs hb.size (fun k hk => by simp at hk; omega)
  clear hA hR hT gs hb hR0 hR1 i1
  go_wp2
  exact bodyPost_ret (v := .agg #[.bool x.on, (.slice pv1 x.scopes.length cv1)]) (by simp [results, Try.results30, go_sem, s0_, s1_]) rfl ⟨_, _, rfl, I1.out, nn, fun q hq => by have := l1 q hq; omega, hbf⟩

end Go.Proofs.Ytidjebepgpbcnaa
