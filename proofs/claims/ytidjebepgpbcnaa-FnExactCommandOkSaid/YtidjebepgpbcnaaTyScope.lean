/-
  The laws' helpers on records of the type Scope (made by tools/typegen.py).
-/
import Derived.Test.YtidjebepgpbcnaaLg
import Derived.Test.YtidjebepgpbcnaaLgB
import Derived.Test.YtidjebepgpbcnaaGh
import Derived.Handy
import Derived.IntWalk
namespace Go.Proofs.Ytidjebepgpbcnaa
open Go.RowKit

theorem Scp.len (x : Scp) : x.lf.length = 3 := rfl
theorem Scp.fit (x : Scp) : LsFit x.lf := ⟨trivial, strsLf_fit x.names, trivial, trivial⟩
theorem scpsLf_fit (l : List Scp) : LfFit (scpsLf l) := ⟨by omega, flat_lenM Scp.len l, LsFit.flat Scp.fit l⟩
theorem Scp.sz (x : Scp) : szLs x.lf = szLf (strsLf x.names) := by simp only [Scp.lf, szLs, szLf_int] <;> omega
theorem Scp.cnt (x : Scp) : cntLs x.lf = 1 + cntLf (strsLf x.names) + 1 := by simp only [Scp.lf, cntLs, cntLf_int] <;> omega
theorem Scp.rd {W : World} {x : Scp} {vs : List Value} : LsRd W x.lf vs ↔ ∃ r1, vs = [.int .i64 x.kind, r1, .int .i64 x.events] ∧ LfRd W (strsLf x.names) r1 := by
  constructor
  · rintro ⟨a0, s0, rfl, h0, a1, s1, rfl, h1, a2, s2, rfl, h2, rfl⟩
    exact ⟨a1, by rw [h0, h2], h1⟩
  · rintro ⟨r1, rfl, h1⟩
    exact ⟨_, _, rfl, rfl, _, _, rfl, h1, _, _, rfl, rfl, rfl⟩
theorem Scp.mark (x : Scp) (k : Nat) : (markLs x.lf k).1 = [.int ((k : Nat) : Int), (markLf (strsLf x.names) (k + 1)).1, .int ((k + 1 + cntLf (strsLf x.names) : Nat) : Int)] := by simp only [Scp.lf, markLs, markLf_int, markLf_cnt]
theorem Scp.rdm {W : World} {x : Scp} {k : Nat} {vs : List Value} : LsRd W (markLs x.lf k).1 vs ↔ ∃ r1, vs = [.int .i64 ((k : Nat) : Int), r1, .int .i64 ((k + 1 + cntLf (strsLf x.names) : Nat) : Int)] ∧ LfRd W (markLf (strsLf x.names) (k + 1)).1 r1 := by
  rw [Scp.mark]
  constructor
  · rintro ⟨a0, s0, rfl, h0, a1, s1, rfl, h1, a2, s2, rfl, h2, rfl⟩
    exact ⟨a1, by rw [h0, h2], h1⟩
  · rintro ⟨r1, rfl, h1⟩
    exact ⟨_, _, rfl, rfl, _, _, rfl, h1, _, _, rfl, rfl, rfl⟩
theorem Scp.in_of {W : World} {z0 : Int} {z1 : Lf} {z2 : Int} {vs : List Value} {fp : List Nat} (h : LsIn W [.int z0, z1, .int z2] vs fp) : ∃ r1 f1, vs = [.int .i64 z0, r1, .int .i64 z2] ∧ LfIn W z1 r1 f1 ∧ fp = f1 := by
  obtain ⟨a0, s0, f0, g0, rfl, h0, ⟨a1, s1, f1, g1, rfl, h1, ⟨a2, s2, f2, g2, rfl, h2, ⟨rfl, rfl⟩, rfl⟩, rfl⟩, rfl⟩ := h
  exact ⟨a1, f1, by rw [h0.1, h2.1], h1, by rw [h0.2, h2.2]; simp⟩
theorem Scp.in_mk {W : World} {z0 : Int} {z1 : Lf} {z2 : Int} {r1 : Value} {f1 : List Nat} (h1 : LfIn W z1 r1 f1) : LsIn W [.int z0, z1, .int z2] [.int .i64 z0, r1, .int .i64 z2] (f1) := by
  have h : LsIn W [.int z0, z1, .int z2] [.int .i64 z0, r1, .int .i64 z2] ([] ++ (f1 ++ ([] ++ ([])))) := ⟨_, _, [], _, rfl, ⟨rfl, rfl⟩, ⟨_, _, f1, _, rfl, h1, ⟨_, _, [], _, rfl, ⟨rfl, rfl⟩, ⟨rfl, rfl⟩, rfl⟩, rfl⟩, rfl⟩
  simpa using h

theorem Try.el_scope : Elem Try.prog 32 64 3 40 := Elem.mk' (z := .agg #[.int .i64 0, .slice none 0 0, .int .i64 0]) Try.underlying32 (by kernel_rfl) rfl (by omega)

theorem Scp.at {W : World} {l : List Scp} {v : Value} (h : LfRd W (scpsLf l) v) : ∃ p cap, v = .slice p l.length cap ∧ (l = [] ∨ ∃ b off, p = some ⟨b, off, none⟩ ∧ b < W.heap.size ∧ ∀ i x, l[i]? = some x → ∃ r1, LfRd W (strsLf x.names) r1 ∧ W.cell? ⟨b, off + i * 3, none⟩ = some (.int .i64 x.kind) ∧ W.cell? ⟨b, off + i * 3 + 1, none⟩ = some (r1) ∧ W.cell? ⟨b, off + i * 3 + 2, none⟩ = some (.int .i64 x.events)) := by
  obtain ⟨p, cap, hv, hc⟩ := rows_at Scp.len h
  refine ⟨p, cap, hv, hc.imp id fun ⟨b, off, hp, hlt, hc⟩ => ⟨b, off, hp, hlt, fun i x hi => ?_⟩⟩
  obtain ⟨us, h1, h2⟩ := hc i x hi
  obtain ⟨r1, rfl, k1⟩ := Scp.rd.1 h1
  exact ⟨r1, k1, h2 0 _ rfl, h2 1 _ rfl, h2 2 _ rfl⟩
theorem Scp.atm {W : World} {l : List Scp} {v : Value} {k0 : Nat} (h : LfRd W (markLf (scpsLf l) k0).1 v) : ∃ p cap, v = .slice p l.length cap ∧ (l = [] ∨ ∃ b off, p = some ⟨b, off, none⟩ ∧ b < W.heap.size ∧ ∀ i x k, l[i]? = some x → k = k0 + cntLs ((l.take i).flatMap Scp.lf) → ∃ r1, LfRd W (markLf (strsLf x.names) (k + 1)).1 r1 ∧ W.cell? ⟨b, off + i * 3, none⟩ = some (.int .i64 ((k : Nat) : Int)) ∧ W.cell? ⟨b, off + i * 3 + 1, none⟩ = some (r1) ∧ W.cell? ⟨b, off + i * 3 + 2, none⟩ = some (.int .i64 ((k + 1 + cntLf (strsLf x.names) : Nat) : Int))) := by
  obtain ⟨p, cap, hv, hc⟩ := rows_at_mark Scp.len h
  refine ⟨p, cap, hv, hc.imp id fun ⟨b, off, hp, hlt, hc⟩ => ⟨b, off, hp, hlt, fun i x k hi hk => ?_⟩⟩
  obtain ⟨us, h1, h2⟩ := hc i x hi
  rw [← hk] at h1
  obtain ⟨r1, rfl, k1⟩ := Scp.rdm.1 h1
  exact ⟨r1, k1, h2 0 _ rfl, h2 1 _ rfl, h2 2 _ rfl⟩

set_option maxHeartbeats 1600000 in
theorem szScope_g (x : Scp) (r1 : Value) (ll : Int) (left : Nat) (hll : ll = (left : Int)) (w : World) (h1 : LfRd w (strsLf x.names) r1) (hin : LsBnd x.lf) (hL : left ≤ 1000000000000) :
    Calls Try.prog 53 #[.agg #[.int .i64 x.kind, r1, .int .i64 x.events], .int .i64 ll] w fun e w' => e = .returned (.int .i64 (szN left (szLs x.lf))) ∧ Below w.heap.size w w' := by
  subst hll
  have hr1 := h1
  obtain ⟨p1, c1, rfl⟩ := LfRd.slice h1
  have hb1 : Below w.heap.size w (w.alloc (.cells #[.int .i64 x.kind, (.slice p1 x.names.length c1), .int .i64 x.events] 74)) := (Below.refl _ _).alloc (Nat.le_refl _) _
  have HA1 := Lib.hid (heap_alloc_new w (.cells #[.int .i64 x.kind, (.slice p1 x.names.length c1), .int .i64 x.events] 74))
  have hsz := Scp.sz x
  have bi_1 : LfBnd (strsLf x.names) := hin.2.1
  clear hin
  by_cases k0 : szLf (strsLf x.names) ≤ left
  · obtain ⟨L1, hL1⟩ : ∃ L, L + szLf (strsLf x.names) = left := ⟨left - szLf (strsLf x.names), by omega⟩
    have q1 := fun (ll : Int) (W : World) (hl : ll = (left : Int)) (g : LfRd W (strsLf x.names) (.slice p1 x.names.length c1)) => szStringS_g (.slice p1 x.names.length c1) x.names ll left hl W g bi_1 (by omega)
    simp only [show szN left (szLf (strsLf x.names)) = (L1 : Int) from by rw [szN_yes k0]; omega] at q1
    have C1 := Lib.hid q1
    clear q1
    have n0 : ¬ (L1 : Int) < 0 := by omega
    have bL1 : L1 ≤ 1000000000000 := by omega
    have HL1 := Lib.hid hL1
    have HV := Lib.hid (show szN left (szLs x.lf) = (L1 : Int) by rw [hsz, szN_yes (by omega)]; omega)
    clear hsz hL1

    go_enter Try.func53, Try.ntmps53
    go_wp2_with fail
    refine (C1.out _ _ (by have e1 := HL1.out; omega) (LfRd.below hb1 _ _ hr1)).mono ?_
    rintro e w2 ⟨rfl, b2⟩
    have hb2 := hb1.trans (b2.mono hb1.size)
    have HA2 := Lib.hid ((b2.block w.heap.size (by simp)).trans HA1.out)
    have hz2 : w.heap.size < w2.heap.size := (Array.getElem?_eq_some_iff.1 HA2.out).1
    go_wp2
    go_ret
    exact ⟨by rw [HV.out]; rfl, hb2⟩
  · have HV := Lib.hid (show szN left (szLs x.lf) = -1 by rw [hsz]; exact szN_no (by omega))
    have q1 := fun (ll : Int) (W : World) (hl : ll = (left : Int)) (g : LfRd W (strsLf x.names) (.slice p1 x.names.length c1)) => szStringS_g (.slice p1 x.names.length c1) x.names ll left hl W g bi_1 (by omega)
    simp only [show szN left (szLf (strsLf x.names)) = -1 from szN_no k0] at q1
    have C1 := Lib.hid q1
    clear q1
    clear hsz

    go_enter Try.func53, Try.ntmps53
    go_wp2_with fail
    refine (C1.out _ _ (by omega) (LfRd.below hb1 _ _ hr1)).mono ?_
    rintro e w2 ⟨rfl, b2⟩
    have hb2 := hb1.trans (b2.mono hb1.size)
    have HA2 := Lib.hid ((b2.block w.heap.size (by simp)).trans HA1.out)
    have hz2 : w.heap.size < w2.heap.size := (Array.getElem?_eq_some_iff.1 HA2.out).1
    go_wp2
    go_ret
    exact ⟨by rw [HV.out]; rfl, hb2⟩

set_option maxHeartbeats 1600000 in
theorem eqScope_g (x : Scp) (ra1 rb1 : Value) (w : World) (ha1 : LfRd w (strsLf x.names) ra1) (hb1 : LfRd w (strsLf x.names) rb1) (hs : szLs x.lf ≤ 1000000000000) :
    Calls Try.prog 57 #[.agg #[.int .i64 x.kind, ra1, .int .i64 x.events], .agg #[.int .i64 x.kind, rb1, .int .i64 x.events]] w fun e w' => e = .returned (.bool true) ∧ Below w.heap.size w w' := by
  have hra1 := ha1
  have hrb1 := hb1
  obtain ⟨p1a, c1a, rfl⟩ := LfRd.slice ha1
  obtain ⟨p1b, c1b, rfl⟩ := LfRd.slice hb1
  have hb1 : Below w.heap.size w ((w.alloc (.cells #[.int .i64 x.kind, (.slice p1a x.names.length c1a), .int .i64 x.events] 64)).alloc (.cells #[.int .i64 x.kind, (.slice p1b x.names.length c1b), .int .i64 x.events] 64)) := ((Below.refl _ _).alloc (Nat.le_refl _) _).alloc (by simp) _
  have HA1 := Lib.hid (show ((w.alloc (.cells #[.int .i64 x.kind, (.slice p1a x.names.length c1a), .int .i64 x.events] 64)).alloc (.cells #[.int .i64 x.kind, (.slice p1b x.names.length c1b), .int .i64 x.events] 64)).heap[w.heap.size]? = some (.cells #[.int .i64 x.kind, (.slice p1a x.names.length c1a), .int .i64 x.events] 64 (0, 0)) from (Below.heap_alloc _ _ _ (by simp)).trans (heap_alloc_new w _))
  have HB1 := Lib.hid (show ((w.alloc (.cells #[.int .i64 x.kind, (.slice p1a x.names.length c1a), .int .i64 x.events] 64)).alloc (.cells #[.int .i64 x.kind, (.slice p1b x.names.length c1b), .int .i64 x.events] 64)).heap[w.heap.size + 1]? = some (.cells #[.int .i64 x.kind, (.slice p1b x.names.length c1b), .int .i64 x.events] 64 (0, 0)) from by
    have := heap_alloc_new (w.alloc (.cells #[.int .i64 x.kind, (.slice p1a x.names.length c1a), .int .i64 x.events] 64)) (.cells #[.int .i64 x.kind, (.slice p1b x.names.length c1b), .int .i64 x.events] 64)
    rwa [World.size_alloc] at this)
  have hz1 : ((w.alloc (.cells #[.int .i64 x.kind, (.slice p1a x.names.length c1a), .int .i64 x.events] 64)).alloc (.cells #[.int .i64 x.kind, (.slice p1b x.names.length c1b), .int .i64 x.events] 64)).heap.size = w.heap.size + 2 := by simp
  have HZ1 := Lib.hid (Nat.le_of_eq hz1.symm)
  clear hz1
  have hsz := Scp.sz x
  have C1 := Lib.hid (fun W (g : LfRd W (strsLf x.names) (.slice p1a x.names.length c1a)) (g2 : LfRd W (strsLf x.names) (.slice p1b x.names.length c1b)) => eqStringS_g _ _ x.names W g g2 (by omega))
  clear hs hsz
  go_enter Try.func57, Try.ntmps57
  go_wp2_with fail
  refine (C1.out _ (LfRd.below hb1 _ _ hra1) (LfRd.below hb1 _ _ hrb1)).mono ?_
  rintro e w2 ⟨rfl, b2⟩
  have hb2 := hb1.trans (b2.mono hb1.size)
  have HZ2 := Lib.hid (Nat.le_trans HZ1.out b2.size)
  have HA2 := Lib.hid ((b2.block w.heap.size (by have := HZ1.out; omega)).trans HA1.out)
  have HB2 := Lib.hid ((b2.block (w.heap.size + 1) (by have := HZ1.out; omega)).trans HB1.out)
  have y2_2 := (Lib.cell_of_heap HA2.out 2).trans (show _ = some (.int .i64 x.events) from rfl)
  have z2_2 := (Lib.cell_of_heap HB2.out 2).trans (show _ = some (.int .i64 x.events) from rfl)
  clear b2
  go_wp2
  go_ret
  exact ⟨rfl, hb2⟩

set_option maxRecDepth 20000 in
set_option maxHeartbeats 6400000 in
theorem toScope_g (x : Scp) (r1 : Value) (w : World) (h1 : LfRd w (strsLf x.names) r1) (hs : szLs x.lf ≤ 10000000) :
    Calls Try.prog 54 #[.agg #[.int .i64 x.kind, r1, .int .i64 x.events]] w fun e w' => ∃ v1 f1, e = .returned (.agg #[.int .i64 x.kind, v1, .int .i64 x.events]) ∧ LfIn w' (strsLf x.names) v1 f1 ∧ (f1).Nodup ∧ (∀ q ∈ f1, w.heap.size ≤ q) ∧ Below w.heap.size w w' := by
  have HR1 := Lib.hid h1
  obtain ⟨p1, c1, rfl⟩ := LfRd.slice h1
  have hsz := Scp.sz x
  have C1 := Lib.hid (fun W (g : LfRd W (strsLf x.names) (.slice p1 x.names.length c1)) => toStringS_g _ x.names W g (by omega))
  clear hs hsz h1
  go_enter Try.func54, Try.ntmps54
  have HA := Lib.hid (heap_alloc_new w (.cells #[.int .i64 x.kind, (.slice p1 x.names.length c1), .int .i64 x.events] 74))
  go_wp2_with fail
  have hb : Below w.heap.size w (((w.alloc (.cells #[.int .i64 x.kind, (.slice p1 x.names.length c1), .int .i64 x.events] 74)).alloc (.cells #[.int .i64 0, .slice none 0 0, .int .i64 0] 64)).alloc (.cells #[.int .i64 x.kind, .slice none 0 0, .int .i64 0] 64)) := (((Below.refl _ _).alloc (Nat.le_refl _) _).alloc (by simp) _).alloc (by simp; omega) _
  have hA : (((w.alloc (.cells #[.int .i64 x.kind, (.slice p1 x.names.length c1), .int .i64 x.events] 74)).alloc (.cells #[.int .i64 0, .slice none 0 0, .int .i64 0] 64)).alloc (.cells #[.int .i64 x.kind, .slice none 0 0, .int .i64 0] 64)).heap[w.heap.size]? = some (.cells #[.int .i64 x.kind, (.slice p1 x.names.length c1), .int .i64 x.events] 74 (0, 0)) := ((Below.heap_alloc _ _ _ (by simp; omega)).trans (Below.heap_alloc _ _ _ (by simp))).trans HA.out
  have hR : (((w.alloc (.cells #[.int .i64 x.kind, (.slice p1 x.names.length c1), .int .i64 x.events] 74)).alloc (.cells #[.int .i64 0, .slice none 0 0, .int .i64 0] 64)).alloc (.cells #[.int .i64 x.kind, .slice none 0 0, .int .i64 0] 64)).heap[w.heap.size + 1]? = some (.cells #[.int .i64 0, .slice none 0 0, .int .i64 0] 64 (0, 0)) := (Below.heap_alloc _ _ _ (by simp)).trans (by have := heap_alloc_new (w.alloc (.cells #[.int .i64 x.kind, (.slice p1 x.names.length c1), .int .i64 x.events] 74)) (.cells #[.int .i64 0, .slice none 0 0, .int .i64 0] 64); rwa [World.size_alloc] at this)
  have hT : (((w.alloc (.cells #[.int .i64 x.kind, (.slice p1 x.names.length c1), .int .i64 x.events] 74)).alloc (.cells #[.int .i64 0, .slice none 0 0, .int .i64 0] 64)).alloc (.cells #[.int .i64 x.kind, .slice none 0 0, .int .i64 0] 64)).heap[w.heap.size + 1 + 1]? = some (.cells #[.int .i64 x.kind, .slice none 0 0, .int .i64 0] 64 (0, 0)) := by
    have := heap_alloc_new ((w.alloc (.cells #[.int .i64 x.kind, (.slice p1 x.names.length c1), .int .i64 x.events] 74)).alloc (.cells #[.int .i64 0, .slice none 0 0, .int .i64 0] 64)) (.cells #[.int .i64 x.kind, .slice none 0 0, .int .i64 0] 64)
    rwa [World.size_alloc, World.size_alloc] at this
  have hz : w.heap.size + 3 ≤ (((w.alloc (.cells #[.int .i64 x.kind, (.slice p1 x.names.length c1), .int .i64 x.events] 74)).alloc (.cells #[.int .i64 0, .slice none 0 0, .int .i64 0] 64)).alloc (.cells #[.int .i64 x.kind, .slice none 0 0, .int .i64 0] 64)).heap.size := by simp
  generalize (((w.alloc (.cells #[.int .i64 x.kind, (.slice p1 x.names.length c1), .int .i64 x.events] 74)).alloc (.cells #[.int .i64 0, .slice none 0 0, .int .i64 0] 64)).alloc (.cells #[.int .i64 x.kind, .slice none 0 0, .int .i64 0] 64)) = W0 at *
  clear HA
  refine (C1.out _ (LfRd.below hb _ _ HR1.out)).mono ?_
  rintro e w1 ⟨v1, f1, rfl, t1, b1⟩
  have i1 := t1.is
  have n1 := t1.nodup
  have l1 : ∀ q ∈ f1, w.heap.size + 3 ≤ q := fun q hq => by have := t1.low q hq; omega
  obtain ⟨pv1, cv1, rfl⟩ := LfIn.slice i1
  clear t1
  replace hA := (b1.block (w.heap.size) (by omega)).trans hA
  replace hR := (b1.block (w.heap.size + 1) (by omega)).trans hR
  replace hT := (b1.block (w.heap.size + 1 + 1) (by omega)).trans hT
  have nn := n1
  replace hb := hb.trans (b1.mono hb.size)
  replace hz := Nat.le_trans hz b1.size
  clear b1
  have ce1 : w1.cell? ⟨w.heap.size + 1 + 1, 1, none⟩ = some (.slice none 0 0) := (Lib.cell_of_heap hT 1).trans rfl
  have ge1 : w1.frozen? ⟨w.heap.size + 1 + 1, 1, none⟩ = false := Lib.frozen_of_heap hT 1
  have hT1 : (w1.setCell ⟨w.heap.size + 1 + 1, 1, none⟩ (.slice pv1 x.names.length cv1)).heap[w.heap.size + 1 + 1]? = some (.cells #[.int .i64 x.kind, (.slice pv1 x.names.length cv1), .int .i64 0] 64 (0, 0)) := set_heap hT
  have hA1 : (w1.setCell ⟨w.heap.size + 1 + 1, 1, none⟩ (.slice pv1 x.names.length cv1)).heap[w.heap.size]? = some (.cells #[.int .i64 x.kind, (.slice p1 x.names.length c1), .int .i64 x.events] 74 (0, 0)) := (set_other (by omega)).trans hA
  have hR1 : (w1.setCell ⟨w.heap.size + 1 + 1, 1, none⟩ (.slice pv1 x.names.length cv1)).heap[w.heap.size + 1]? = some (.cells #[.int .i64 0, .slice none 0 0, .int .i64 0] 64 (0, 0)) := (set_other (by omega)).trans hR
  have ae2 : (w1.setCell ⟨w.heap.size + 1 + 1, 1, none⟩ (.slice pv1 x.names.length cv1)).cell? ⟨w.heap.size, 2, none⟩ = some (.int .i64 x.events) := (Lib.cell_of_heap hA1 2).trans rfl
  have ce2 : (w1.setCell ⟨w.heap.size + 1 + 1, 1, none⟩ (.slice pv1 x.names.length cv1)).cell? ⟨w.heap.size + 1 + 1, 2, none⟩ = some (.int .i64 0) := (Lib.cell_of_heap hT1 2).trans rfl
  have ge2 : (w1.setCell ⟨w.heap.size + 1 + 1, 1, none⟩ (.slice pv1 x.names.length cv1)).frozen? ⟨w.heap.size + 1 + 1, 2, none⟩ = false := Lib.frozen_of_heap hT1 2
  have hT2 : ((w1.setCell ⟨w.heap.size + 1 + 1, 1, none⟩ (.slice pv1 x.names.length cv1)).setCell ⟨w.heap.size + 1 + 1, 2, none⟩ (.int .i64 x.events)).heap[w.heap.size + 1 + 1]? = some (.cells #[.int .i64 x.kind, (.slice pv1 x.names.length cv1), .int .i64 x.events] 64 (0, 0)) := set_heap hT1
  have hA2 : ((w1.setCell ⟨w.heap.size + 1 + 1, 1, none⟩ (.slice pv1 x.names.length cv1)).setCell ⟨w.heap.size + 1 + 1, 2, none⟩ (.int .i64 x.events)).heap[w.heap.size]? = some (.cells #[.int .i64 x.kind, (.slice p1 x.names.length c1), .int .i64 x.events] 74 (0, 0)) := (set_other (by omega)).trans hA1
  have hR2 : ((w1.setCell ⟨w.heap.size + 1 + 1, 1, none⟩ (.slice pv1 x.names.length cv1)).setCell ⟨w.heap.size + 1 + 1, 2, none⟩ (.int .i64 x.events)).heap[w.heap.size + 1]? = some (.cells #[.int .i64 0, .slice none 0 0, .int .i64 0] 64 (0, 0)) := (set_other (by omega)).trans hR1
  have gs : GrownIn w1 ((w1.setCell ⟨w.heap.size + 1 + 1, 1, none⟩ (.slice pv1 x.names.length cv1)).setCell ⟨w.heap.size + 1 + 1, 2, none⟩ (.int .i64 x.events)) [w.heap.size + 1 + 1] := ((GrownIn.refl w1 [w.heap.size + 1 + 1]).trans (GrownIn.set (by simp))).trans (GrownIn.set (by simp))
  replace i1 := LfIn.away i1 gs (fun k hk hm => by have := l1 k hk; simp at hm; omega)
  replace hb := GrownIn.below hb gs hb.size (fun k hk => by simp at hk; omega)
  replace hz := Nat.le_trans hz gs.size
  clear hA hR hT gs hA1 hR1 hT1
  have hA := hA2
  have hR := hR2
  have hT := hT2
  clear hA2 hR2 hT2
  generalize hW1 : ((w1.setCell ⟨w.heap.size + 1 + 1, 1, none⟩ (.slice pv1 x.names.length cv1)).setCell ⟨w.heap.size + 1 + 1, 2, none⟩ (.int .i64 x.events)) = W1 at *
  have d0_ : W1.cell? ⟨w.heap.size + 1 + 1, 0, none⟩ = some (.int .i64 x.kind) := (Lib.cell_of_heap hT 0).trans rfl
  have d1_ : W1.cell? ⟨w.heap.size + 1 + 1, 1, none⟩ = some ((.slice pv1 x.names.length cv1)) := (Lib.cell_of_heap hT 1).trans rfl
  have d2_ : W1.cell? ⟨w.heap.size + 1 + 1, 2, none⟩ = some (.int .i64 x.events) := (Lib.cell_of_heap hT 2).trans rfl
  have r0_ : W1.cell? ⟨w.heap.size + 1, 0, none⟩ = some (.int .i64 0) := (Lib.cell_of_heap hR 0).trans rfl
  have q0_ : W1.frozen? ⟨w.heap.size + 1, 0, none⟩ = false := Lib.frozen_of_heap hR 0
  have hR0 : (W1.setCell ⟨w.heap.size + 1, 0, none⟩ (.int .i64 x.kind)).heap[w.heap.size + 1]? = some (.cells #[.int .i64 x.kind, .slice none 0 0, .int .i64 0] 64 (0, 0)) := set_heap hR
  have r1_ : (W1.setCell ⟨w.heap.size + 1, 0, none⟩ (.int .i64 x.kind)).cell? ⟨w.heap.size + 1, 1, none⟩ = some (.slice none 0 0) := (Lib.cell_of_heap hR0 1).trans rfl
  have q1_ : W1.frozen? ⟨w.heap.size + 1, 1, none⟩ = false := Lib.frozen_of_heap hR 1
  have hR1 : ((W1.setCell ⟨w.heap.size + 1, 0, none⟩ (.int .i64 x.kind)).setCell ⟨w.heap.size + 1, 1, none⟩ (.slice pv1 x.names.length cv1)).heap[w.heap.size + 1]? = some (.cells #[.int .i64 x.kind, (.slice pv1 x.names.length cv1), .int .i64 0] 64 (0, 0)) := set_heap hR0
  have r2_ : ((W1.setCell ⟨w.heap.size + 1, 0, none⟩ (.int .i64 x.kind)).setCell ⟨w.heap.size + 1, 1, none⟩ (.slice pv1 x.names.length cv1)).cell? ⟨w.heap.size + 1, 2, none⟩ = some (.int .i64 0) := (Lib.cell_of_heap hR1 2).trans rfl
  have q2_ : W1.frozen? ⟨w.heap.size + 1, 2, none⟩ = false := Lib.frozen_of_heap hR 2
  have hR2 : (((W1.setCell ⟨w.heap.size + 1, 0, none⟩ (.int .i64 x.kind)).setCell ⟨w.heap.size + 1, 1, none⟩ (.slice pv1 x.names.length cv1)).setCell ⟨w.heap.size + 1, 2, none⟩ (.int .i64 x.events)).heap[w.heap.size + 1]? = some (.cells #[.int .i64 x.kind, (.slice pv1 x.names.length cv1), .int .i64 x.events] 64 (0, 0)) := set_heap hR1
  have s0_ := (Lib.cell_of_heap hR2 0).trans (show _ = some (.int .i64 x.kind) from rfl)
  have s1_ := (Lib.cell_of_heap hR2 1).trans (show _ = some ((.slice pv1 x.names.length cv1)) from rfl)
  have s2_ := (Lib.cell_of_heap hR2 2).trans (show _ = some (.int .i64 x.events) from rfl)
  have gs : GrownIn W1 (((W1.setCell ⟨w.heap.size + 1, 0, none⟩ (.int .i64 x.kind)).setCell ⟨w.heap.size + 1, 1, none⟩ (.slice pv1 x.names.length cv1)).setCell ⟨w.heap.size + 1, 2, none⟩ (.int .i64 x.events)) [w.heap.size + 1] := (((GrownIn.refl W1 [w.heap.size + 1]).trans (GrownIn.set (by simp))).trans (GrownIn.set (by simp))).trans (GrownIn.set (by simp))
  have I1 := Lib.hid (LfIn.away i1 gs (fun k hk hm => by have := l1 k hk; simp at hm; omega))
  have hbf := GrownIn.below hb gs hb.size (fun k hk => by simp at hk; omega)
  clear hA hR hT gs hb hR0 hR1 hR2 i1
  go_wp2
  exact bodyPost_ret (v := .agg #[.int .i64 x.kind, (.slice pv1 x.names.length cv1), .int .i64 x.events]) (by simp [results, Try.results54, go_sem, s0_, s1_, s2_]) rfl ⟨_, _, rfl, I1.out, nn, fun q hq => by have := l1 q hq; omega, hbf⟩

set_option maxHeartbeats 3200000 in
theorem szScopeS_g (v : Value) (l : List Scp) (ll : Int) (left : Nat) (hll : ll = (left : Int)) (w : World) (hr : LfRd w (scpsLf l) v) (hin : LfBnd (scpsLf l)) (hL : left ≤ 1000000000000) :
    Calls Try.prog 39 #[v, .int .i64 ll] w fun e w' => e = .returned (.int .i64 (szN left (szLf (scpsLf l)))) ∧ Below w.heap.size w w' := by
  subst hll
  have HSZ := Lib.hid (show szLf (scpsLf l) = l.length + szLs (l.flatMap Scp.lf) from rfl)
  obtain ⟨p, c, rfl, hp⟩ := Scp.at hr
  have hl : l.length ≤ 9223372036854775807 := hin.1
  have HX := Lib.hid (LsBnd.flat hin.2)
  have HP := Lib.hid hp
  clear hr hp hin
  by_cases hbig : l.length ≤ left
  · have h1 : ¬ (left : Int) - (l.length : Int) < 0 := by omega
    go_enter Try.func39, Try.ntmps39
    go_wp2
    go_loopw [1, 5] (fun lf i wr => ∃ j q : Nat, j ≤ l.length ∧ i = .int .i64 j ∧ lf = .int .i64 (q : Int) ∧ q + (l.length + szLs ((l.take j).flatMap Scp.lf)) = left ∧ Below w.heap.size w wr) (fun _ i _ => l.length - (intOf i).toNat)
    case atStart => exact ⟨0, left - l.length, by omega, rfl, by congr 1; omega, by simp [szLs]; omega, Below.refl _ _⟩
    case round =>
      obtain ⟨j, q, hj, rfl, rfl, hq, hbr⟩ := hrel
      have hbr0 := hbr.size
      have hqL : q ≤ 1000000000000 := by omega
      by_cases hlt : j < l.length
      · obtain ⟨b1, o1, rfl, hb1, hc1⟩ := HP.out.resolve_left (by intro h; subst h; simp at hlt)
        obtain ⟨s, hs⟩ : ∃ s, l[j]? = some s := ⟨_, List.getElem?_eq_getElem hlt⟩
        obtain ⟨v1, n1, x0, x1, x2⟩ := hc1 j s hs
        have e0 : wr.cell? ⟨b1, o1 + j * 3, none⟩ = some (.int .i64 s.kind) := (hbr.cell (p := ⟨b1, o1 + j * 3, none⟩) hb1).trans x0
        have e1 : wr.cell? ⟨b1, o1 + j * 3 + 1, none⟩ = some (v1) := (hbr.cell (p := ⟨b1, o1 + j * 3 + 1, none⟩) hb1).trans x1
        have e2 : wr.cell? ⟨b1, o1 + j * 3 + 2, none⟩ = some (.int .i64 s.events) := (hbr.cell (p := ⟨b1, o1 + j * 3 + 2, none⟩) hb1).trans x2
        have cz := fun ll (hl : ll = (q : Int)) => szScope_g s v1 ll q hl wr (LfRd.below hbr _ _ n1) (HX.out s (List.mem_of_getElem? hs)) hqL
        have htk : szLs ((l.take (j + 1)).flatMap Scp.lf) = szLs ((l.take j).flatMap Scp.lf) + szLs s.lf := by rw [flat_take_succ Scp.lf hs, szLs_append]
        have hmono := szLs_flat_take Scp.lf l (j + 1)
        by_cases hok : szLs s.lf ≤ q
        · obtain ⟨q2, hq2⟩ : ∃ q2, q2 + szLs s.lf = q := ⟨q - szLs s.lf, by omega⟩
          have hqe : q2 + (l.length + szLs ((l.take (j + 1)).flatMap Scp.lf)) = left := by omega
          simp only [show szN q (szLs s.lf) = (q2 : Int) from by rw [szN_yes hok]; omega] at cz
          have CZ := Lib.hid cz
          have hnn : ¬ (q2 : Int) < 0 := by omega
          have HQ := Lib.hid hqe
          clear cz htk hq hq2 hqe hmono hok
          clear hc1 hs HP x0 x1 x2 n1
          go_wp2_with fail
          refine (CZ.out _ rfl).mono ?_
          rintro e w2 ⟨rfl, b2⟩
          have hb2 := hbr.trans (b2.mono hbr0)
          clear CZ b2 hbr e0 e1 e2
          go_wp2
          go_roundw
          case rel => exact ⟨j + 1, q2, by omega, by go_num, rfl, HQ.out, hb2⟩
          case measure => simp [intOf]; omega
        · simp only [show szN q (szLs s.lf) = -1 from szN_no hok] at cz
          have CZ := Lib.hid cz
          have HV := Lib.hid (show szN left (szLf (scpsLf l)) = -1 by rw [HSZ.out]; exact szN_no (by omega))
          clear cz htk hq hmono hok
          clear hc1 hs HP x0 x1 x2 n1
          go_wp2_with fail
          refine (CZ.out _ rfl).mono ?_
          rintro e w2 ⟨rfl, b2⟩
          have hb2 := hbr.trans (b2.mono hbr0)
          clear CZ b2 hbr e0 e1 e2
          go_wp2
          go_ret
          exact ⟨by rw [HV.out]; rfl, hb2⟩
      · obtain rfl : j = l.length := by omega
        rw [List.take_length] at hq
        have HV := Lib.hid (show szN left (szLf (scpsLf l)) = (q : Int) by rw [HSZ.out, szN_yes (by omega)]; omega)
        clear hq
        go_wp2
        go_ret
        exact ⟨by rw [HV.out]; rfl, hbr⟩
  · have h1 : (left : Int) - (l.length : Int) < 0 := by omega
    have HV := Lib.hid (show szN left (szLf (scpsLf l)) = -1 by rw [HSZ.out]; exact szN_no (by omega))
    go_enter Try.func39, Try.ntmps39
    go_wp2
    go_ret
    exact ⟨by rw [HV.out]; rfl, Below.refl _ _⟩

set_option maxHeartbeats 3200000 in
theorem eqScopeS_g (a b : Value) (l : List Scp) (w : World) (ha : LfRd w (scpsLf l) a) (hb : LfRd w (scpsLf l) b) (hs : szLf (scpsLf l) ≤ 1000000000000) :
    Calls Try.prog 49 #[a, b] w fun e w' => e = .returned (.bool true) ∧ Below w.heap.size w w' := by
  have hs2 : l.length + szLs (l.flatMap Scp.lf) ≤ 1000000000000 := hs
  clear hs
  obtain ⟨p, c1, rfl, hp⟩ := Scp.at ha
  obtain ⟨q, c2, rfl, hq⟩ := Scp.at hb
  clear ha hb
  have HP := Lib.hid hp
  have HQ := Lib.hid hq
  clear hp hq
  have HL := Lib.hid hs2
  have hll : l.length ≤ 1000000000000 := by omega
  clear hs2
  go_enter Try.func49, Try.ntmps49
  go_wp2
  go_loopw [5] (fun i wr => ∃ k : Nat, k ≤ l.length ∧ i = .int .i64 k ∧ Below w.heap.size w wr) (fun i _ => l.length - (intOf i).toNat)
  case atStart => exact ⟨0, by omega, rfl, Below.refl _ _⟩
  case round =>
    obtain ⟨k, hk, rfl, hbr⟩ := hrel
    have hbr0 := hbr.size
    by_cases hlt : k < l.length
    · obtain ⟨b1, o1, rfl, hb1, hc1⟩ := HP.out.resolve_left (by intro h; subst h; simp at hlt)
      obtain ⟨b2, o2, rfl, hb2, hc2⟩ := HQ.out.resolve_left (by intro h; subst h; simp at hlt)
      obtain ⟨s, hs⟩ : ∃ s, l[k]? = some s := ⟨_, List.getElem?_eq_getElem hlt⟩
      obtain ⟨v1, n1, x0, x1, x2⟩ := hc1 k s hs
      obtain ⟨u1, t1, y0, y1, y2⟩ := hc2 k s hs
      have e0 : wr.drew.cell? ⟨b1, o1 + k * 3, none⟩ = some (.int .i64 s.kind) := (hbr.cell (p := ⟨b1, o1 + k * 3, none⟩) hb1).trans x0
      have f0 : wr.drew.cell? ⟨b2, o2 + k * 3, none⟩ = some (.int .i64 s.kind) := (hbr.cell (p := ⟨b2, o2 + k * 3, none⟩) hb2).trans y0
      have e1 : wr.drew.cell? ⟨b1, o1 + k * 3 + 1, none⟩ = some (v1) := (hbr.cell (p := ⟨b1, o1 + k * 3 + 1, none⟩) hb1).trans x1
      have f1 : wr.drew.cell? ⟨b2, o2 + k * 3 + 1, none⟩ = some (u1) := (hbr.cell (p := ⟨b2, o2 + k * 3 + 1, none⟩) hb2).trans y1
      have e2 : wr.drew.cell? ⟨b1, o1 + k * 3 + 2, none⟩ = some (.int .i64 s.events) := (hbr.cell (p := ⟨b1, o1 + k * 3 + 2, none⟩) hb1).trans x2
      have f2 : wr.drew.cell? ⟨b2, o2 + k * 3 + 2, none⟩ = some (.int .i64 s.events) := (hbr.cell (p := ⟨b2, o2 + k * 3 + 2, none⟩) hb2).trans y2
      have hsm := szLs_mem Scp.lf (List.mem_of_getElem? hs)
      have CE := Lib.hid (eqScope_g s v1 u1 wr.drew (LfRd.below hbr.drew _ _ n1) (LfRd.below hbr.drew _ _ t1) (by have := HL.out; omega))
      clear hc1 hc2 hs HP HQ hsm x0 y0 x1 y1 x2 y2 n1 t1
      go_wp2
      refine ord_start [(0, true), (1, true), (2, true), (3, true), (4, true), (5, true), (6, true), (7, true), (8, false), (9, true)] (fun W => (W.cell? ⟨b1, o1 + k * 3, none⟩ = some (.int .i64 s.kind) ∧ W.cell? ⟨b1, o1 + k * 3 + 1, none⟩ = some (v1) ∧ W.cell? ⟨b1, o1 + k * 3 + 2, none⟩ = some (.int .i64 s.events)) ∧ W.cell? ⟨b2, o2 + k * 3, none⟩ = some (.int .i64 s.kind) ∧ W.cell? ⟨b2, o2 + k * 3 + 1, none⟩ = some (u1) ∧ W.cell? ⟨b2, o2 + k * 3 + 2, none⟩ = some (.int .i64 s.events)) (by kernel_rfl) (by kernel_rfl) rfl (by kernel_rfl) ?_
      intro ops' hops
      clear hops
      simp only [List.map_cons, List.map_nil, pickOp_zero, pickOp_succ]
      iterate 8 (refine ord_flo ?_ (fun _ _ _ h => h) rfl ?_ ⟨⟨e0, e1, e2⟩, f0, f1, f2⟩ ?_; rotate_left; focus (intro W hS; obtain ⟨⟨s0, s1, s2⟩, t0, t1, t2⟩ := hS; go_simp; rfl))
      refine ord_ev rfl ?_
      go_simp
      refine (CE.out).mono ?_
      rintro e w2 ⟨rfl, bb⟩
      have hb2' := hbr.drew.trans (bb.mono (by show w.heap.size ≤ wr.heap.size; omega))
      have hlt1 : b1 < wr.drew.heap.size := Nat.lt_of_lt_of_le hb1 hbr0
      have hlt2 : b2 < wr.drew.heap.size := Nat.lt_of_lt_of_le hb2 hbr0
      have HE := Lib.hid (show (fun W : World => (W.cell? ⟨b1, o1 + k * 3, none⟩ = some (.int .i64 s.kind) ∧ W.cell? ⟨b1, o1 + k * 3 + 1, none⟩ = some (v1) ∧ W.cell? ⟨b1, o1 + k * 3 + 2, none⟩ = some (.int .i64 s.events)) ∧ W.cell? ⟨b2, o2 + k * 3, none⟩ = some (.int .i64 s.kind) ∧ W.cell? ⟨b2, o2 + k * 3 + 1, none⟩ = some (u1) ∧ W.cell? ⟨b2, o2 + k * 3 + 2, none⟩ = some (.int .i64 s.events)) w2 from ⟨⟨(bb.cell (p := ⟨b1, o1 + k * 3, none⟩) hlt1).trans e0, (bb.cell (p := ⟨b1, o1 + k * 3 + 1, none⟩) hlt1).trans e1, (bb.cell (p := ⟨b1, o1 + k * 3 + 2, none⟩) hlt1).trans e2⟩, (bb.cell (p := ⟨b2, o2 + k * 3, none⟩) hlt2).trans f0, (bb.cell (p := ⟨b2, o2 + k * 3 + 1, none⟩) hlt2).trans f1, (bb.cell (p := ⟨b2, o2 + k * 3 + 2, none⟩) hlt2).trans f2⟩)
      refine ⟨HE.out, ?_⟩
      iterate 1 (refine ord_flo ?_ (fun _ _ _ h => h) rfl ?_ HE.out ?_; rotate_left; focus (intro W hS; obtain ⟨⟨s0, s1, s2⟩, t0, t1, t2⟩ := hS; go_simp; rfl))
      refine ord_done ?_
      go_simp
      clear e0 f0 e1 f1 e2 f2 bb hbr hbr0 CE HE
      go_wp2
      go_roundw
      case rel => exact ⟨k + 1, by omega, by go_num, hb2'⟩
      case measure => simp [intOf]; omega
    · obtain rfl : k = l.length := by omega
      go_wp2
      go_ret
      exact ⟨rfl, hbr⟩

set_option maxRecDepth 20000 in
set_option maxHeartbeats 6400000 in
theorem toScopeS_g (v : Value) (l : List Scp) (w : World) (hr : LfRd w (scpsLf l) v) (hs : szLf (scpsLf l) ≤ 10000000) :
    Calls Try.prog 42 #[v] w fun e w' => ∃ v' fp, e = .returned v' ∧ Tree w' w.heap.size (scpsLf l) v' fp ∧ Below w.heap.size w w' := by
  have hs2 : l.length + szLs (l.flatMap Scp.lf) ≤ 10000000 := hs
  obtain ⟨p, c, rfl, hp⟩ := Scp.at hr
  have HP := Lib.hid hp
  have HL := Lib.hid hs2
  have hll : l.length ≤ 10000000 := by omega
  clear hr hp hs hs2
  go_enter Try.func42, Try.ntmps42
  go_wp2_with (refine wpList_mkn Try.el_scope rfl _ _ rfl w.heap.size w (Below.refl _ _) (Nat.le_refl _) _ _ l.length rfl rfl (by omega) (by omega) ?_)
  intro w1 xs0 hown1 hb1 hlt1
  go_wp2
  go_loopw [4] (fun i wr => ∃ (k : Nat) (A R : List Value) (fq : List Nat), k ≤ l.length ∧ i = .int .i64 k ∧ A.length = k * 3 ∧ wr.ownsRow w.heap.size 64 3 (.slice (some ⟨w.heap.size, 0, none⟩) l.length l.length) l.length (A ++ R) ∧ LsIn wr ((l.take k).flatMap Scp.lf) A fq ∧ fq.Nodup ∧ (∀ q ∈ fq, w.heap.size < q) ∧ Below w.heap.size w wr ∧ w.heap.size < wr.heap.size) (fun i _ => l.length - (intOf i).toNat)
  case atStart => exact ⟨0, [], xs0, [], by omega, rfl, by simp, hown1, ⟨rfl, rfl⟩, by simp, by simp, hb1, hlt1⟩
  case round =>
    obtain ⟨k, A, R, fq, hk, rfl, hA, hown, hin, hnd, hlow, hbr, hzr⟩ := hrel
    have hbr0 := hbr.size
    clear hown1 hb1 hlt1
    by_cases hlt : k < l.length
    · obtain ⟨b1, o1, rfl, hb1, hc1⟩ := HP.out.resolve_left (by intro h; subst h; simp at hlt)
      obtain ⟨s, hs⟩ : ∃ s, l[k]? = some s := ⟨_, List.getElem?_eq_getElem hlt⟩
      obtain ⟨v1, n1, x0, x1, x2⟩ := hc1 k s hs
      have e0 : wr.cell? ⟨b1, o1 + k * 3, none⟩ = some (.int .i64 s.kind) := (hbr.cell (p := ⟨b1, o1 + k * 3, none⟩) hb1).trans x0
      have e1 : wr.cell? ⟨b1, o1 + k * 3 + 1, none⟩ = some (v1) := (hbr.cell (p := ⟨b1, o1 + k * 3 + 1, none⟩) hb1).trans x1
      have e2 : wr.cell? ⟨b1, o1 + k * 3 + 2, none⟩ = some (.int .i64 s.events) := (hbr.cell (p := ⟨b1, o1 + k * 3 + 2, none⟩) hb1).trans x2
      have hsm := szLs_mem Scp.lf (List.mem_of_getElem? hs)
      have CT := Lib.hid (toScope_g s v1 wr (LfRd.below hbr _ _ n1) (by have := HL.out; omega))
      have HTK := Lib.hid (flat_take_succ Scp.lf hs)
      clear hc1 hs HP hsm x0 x1 x2 n1
      go_wp2_with fail
      refine (CT.out).mono ?_
      rintro e w2 ⟨z1, f1, rfl, i1, nd, lo, b2⟩
      have hown2 := ownsRow_below hown b2
      have hin2 := LsIn.frame _ _ _ (fun q hq => b2.block q (LsIn.lt _ _ _ hin q hq)) hin
      have hqz : ∀ q ∈ fq, q < wr.heap.size := fun q hq => LsIn.lt _ _ _ hin q hq
      have hb2 := hbr.trans (b2.mono hbr0)
      have hz2 := b2.size
      obtain ⟨pv1, cv1, rfl⟩ := LfIn.slice i1
      obtain ⟨R1, R2, rfl, hR1⟩ := rest_split hown2.1 hA hlt
      obtain ⟨y0, y1, y2, rfl⟩ : ∃ y0 y1 y2, R1 = [y0, y1, y2] := by
        match R1, hR1 with
        | [a0, a1, a2], _ => exact ⟨a0, a1, a2, rfl⟩
      simp only [List.cons_append, List.nil_append] at hown2
      clear hown hin b2 CT hR1 e0 e1 e2
      have c0 : w2.cell? ⟨w.heap.size, k * 3, none⟩ = some y0 := own_cell (L := y0 :: y1 :: y2 :: R2) hown2 hA 0 _ rfl
      have q0 : w2.frozen? ⟨w.heap.size, k * 3, none⟩ = false := own_free hown2 _
      have p0 : (w2.setCell ⟨w.heap.size, k * 3, none⟩ (.int .i64 s.kind)).ownsRow w.heap.size 64 3 (.slice (some ⟨w.heap.size, 0, none⟩) l.length l.length) l.length (A ++ (.int .i64 s.kind) :: y1 :: y2 :: R2) := own_at (L := y0 :: y1 :: y2 :: R2) hown2 hA 0 (.int .i64 s.kind)
      have c1 : (w2.setCell ⟨w.heap.size, k * 3, none⟩ (.int .i64 s.kind)).cell? ⟨w.heap.size, k * 3 + 1, none⟩ = some y1 := own_cell (L := (.int .i64 s.kind) :: y1 :: y2 :: R2) p0 hA 1 _ rfl
      have q1 : (w2.setCell ⟨w.heap.size, k * 3, none⟩ (.int .i64 s.kind)).frozen? ⟨w.heap.size, k * 3 + 1, none⟩ = false := own_free p0 _
      have p1 : ((w2.setCell ⟨w.heap.size, k * 3, none⟩ (.int .i64 s.kind)).setCell ⟨w.heap.size, k * 3 + 1, none⟩ (.slice pv1 s.names.length cv1)).ownsRow w.heap.size 64 3 (.slice (some ⟨w.heap.size, 0, none⟩) l.length l.length) l.length (A ++ (.int .i64 s.kind) :: (.slice pv1 s.names.length cv1) :: y2 :: R2) := own_at (L := (.int .i64 s.kind) :: y1 :: y2 :: R2) p0 hA 1 (.slice pv1 s.names.length cv1)
      have c2 : ((w2.setCell ⟨w.heap.size, k * 3, none⟩ (.int .i64 s.kind)).setCell ⟨w.heap.size, k * 3 + 1, none⟩ (.slice pv1 s.names.length cv1)).cell? ⟨w.heap.size, k * 3 + 2, none⟩ = some y2 := own_cell (L := (.int .i64 s.kind) :: (.slice pv1 s.names.length cv1) :: y2 :: R2) p1 hA 2 _ rfl
      have q2 : ((w2.setCell ⟨w.heap.size, k * 3, none⟩ (.int .i64 s.kind)).setCell ⟨w.heap.size, k * 3 + 1, none⟩ (.slice pv1 s.names.length cv1)).frozen? ⟨w.heap.size, k * 3 + 2, none⟩ = false := own_free p1 _
      have p2 : (((w2.setCell ⟨w.heap.size, k * 3, none⟩ (.int .i64 s.kind)).setCell ⟨w.heap.size, k * 3 + 1, none⟩ (.slice pv1 s.names.length cv1)).setCell ⟨w.heap.size, k * 3 + 2, none⟩ (.int .i64 s.events)).ownsRow w.heap.size 64 3 (.slice (some ⟨w.heap.size, 0, none⟩) l.length l.length) l.length (A ++ (.int .i64 s.kind) :: (.slice pv1 s.names.length cv1) :: (.int .i64 s.events) :: R2) := own_at (L := (.int .i64 s.kind) :: (.slice pv1 s.names.length cv1) :: y2 :: R2) p1 hA 2 (.int .i64 s.events)
      have gs : GrownIn w2 (((w2.setCell ⟨w.heap.size, k * 3, none⟩ (.int .i64 s.kind)).setCell ⟨w.heap.size, k * 3 + 1, none⟩ (.slice pv1 s.names.length cv1)).setCell ⟨w.heap.size, k * 3 + 2, none⟩ (.int .i64 s.events)) [w.heap.size] := (((GrownIn.refl w2 [w.heap.size]).trans (GrownIn.set (by simp))).trans (GrownIn.set (by simp))).trans (GrownIn.set (by simp))
      have lo1 : ∀ q ∈ f1, wr.heap.size ≤ q := fun q hq => lo q (by simp [hq])
      have I1 := Lib.hid (LfIn.away i1 gs (fun q hq hm => by have := lo1 q hq; simp at hm; omega))
      have IA := Lib.hid (LsIn.apart hin2 gs (fun q hq hm => by have := hlow q hq; simp at hm; omega))
      have hb3 := GrownIn.below hb2 gs hb2.size (fun q hq => by simp at hq; omega)
      have hz3 : w.heap.size < (((w2.setCell ⟨w.heap.size, k * 3, none⟩ (.int .i64 s.kind)).setCell ⟨w.heap.size, k * 3 + 1, none⟩ (.slice pv1 s.names.length cv1)).setCell ⟨w.heap.size, k * 3 + 2, none⟩ (.int .i64 s.events)).heap.size := Nat.lt_of_lt_of_le (Nat.lt_of_lt_of_le hzr hz2) gs.size
      have PP := Lib.hid p2
      clear hown2 hin2 hb2 gs p0 p1 p2 i1
      go_wp2
      go_roundw
      case rel =>
        refine ⟨k + 1, A ++ [(.int .i64 s.kind), (.slice pv1 s.names.length cv1), (.int .i64 s.events)], R2, fq ++ (f1), by omega, by go_num, by simp; omega, by simpa using PP.out, ?_, ?_, ?_, hb3, hz3⟩
        · rw [HTK.out]
          exact LsIn.append.2 ⟨A, _, fq, _, rfl, IA.out, Scp.in_mk (h1 := I1.out), rfl⟩
        · exact List.nodup_append.2 ⟨hnd, nd, fun x hx y hy e => by have h1 := hqz x hx; have h2 := lo y hy; omega⟩
        · intro q hq
          rcases List.mem_append.1 hq with hq | hq
          · exact hlow q hq
          · have := lo q hq; omega
      case measure => simp [intOf]; omega
    · obtain rfl : k = l.length := by omega
      have hR0 : R = [] := by
        have := hown.1
        rw [List.length_append, hA] at this
        exact List.eq_nil_of_length_eq_zero (by omega)
      subst hR0
      rw [List.append_nil] at hown
      rw [List.take_length] at hin
      have hT : Tree wr w.heap.size (scpsLf l) (.slice (some ⟨w.heap.size, 0, none⟩) l.length l.length) (w.heap.size :: fq) := by
        refine ⟨⟨flat_lenM Scp.len l, A, fq, own_base hown, hin, rfl⟩, List.nodup_cons.2 ⟨fun hm => by have := hlow _ hm; omega, hnd⟩, fun q hq => ?_⟩
        rcases List.mem_cons.1 hq with rfl | hq
        · exact Nat.le_refl _
        · exact Nat.le_of_lt (hlow q hq)
      have HT := Lib.hid hT
      clear hT hown hin hA
      go_wp2
      go_ret
      exact ⟨_, _, rfl, HT.out, hbr⟩

end Go.Proofs.Ytidjebepgpbcnaa
