/-
  Um: TyStore (what the claim needs of them).
-/
import Derived.Test.YtbfgdbpfecffcaaRows
import Derived.WalkKit
import Derived.WalkSpells
import Derived.WalkLawsBesides
import Derived.Laws.IdiomStrings
import Derived.Lib.Hide
import Derived.Deep.AppendLies
import Derived.OrdersHeld
import Derived.Lib.ItoaNum
import Derived.Lib.ItoaMem
import Derived.Lib.AppendStr
import Derived.Lib.ItoaLen
import Derived.Lib.Strings
import Derived.Lib.Bytealg
import Derived.Lib.OthersKept
import Derived.Laws.RangeAny
import Derived.Laws.BitsAllLaws
import Derived.Laws.BitsLemmas
import Derived.IntWalk
import Derived.Handy
import Derived.Lib.Join
import Derived.Deep.Strs
import Derived.Test.YtbfgdbpfecffcaaProg
import Derived.Test.YtbfgdbpfecffcaaUa
import Derived.Test.YtbfgdbpfecffcaaUb
import Derived.Test.YtbfgdbpfecffcaaUc
import Derived.Test.YtbfgdbpfecffcaaUd

namespace Go.Proofs.Ytbfgdbpfecffcaa
open Go.RowKit

structure StoD where
  boxes : List BoxD
  log : List ComD
  given : Int

def StoD.lf (x : StoD) : List Lf := [boxsLf x.boxes, commitsLf x.log, .int x.given]
theorem StoD.len (x : StoD) : x.lf.length = 3 := rfl
def storesLf (l : List StoD) : Lf := .rows 32 3 l.length (l.flatMap StoD.lf)
theorem StoD.fit (x : StoD) : LsFit x.lf := ⟨boxsLf_fit x.boxes, commitsLf_fit x.log, trivial, trivial⟩
theorem storesLf_fit (l : List StoD) : LfFit (storesLf l) := ⟨by omega, flat_lenM StoD.len l, LsFit.flat StoD.fit l⟩
theorem StoD.sz (x : StoD) : szLs x.lf = szLf (boxsLf x.boxes) + szLf (commitsLf x.log) := by simp only [StoD.lf, szLs, szLf_int] <;> omega
theorem StoD.cnt (x : StoD) : cntLs x.lf = cntLf (boxsLf x.boxes) + cntLf (commitsLf x.log) + 1 := by simp only [StoD.lf, cntLs, cntLf_int] <;> omega
theorem StoD.rd {W : World} {x : StoD} {vs : List Value} : LsRd W x.lf vs ↔ ∃ r0, ∃ r1, vs = [r0, r1, .int .i64 x.given] ∧ LfRd W (boxsLf x.boxes) r0 ∧ LfRd W (commitsLf x.log) r1 := by
  constructor
  · rintro ⟨a0, s0, rfl, h0, a1, s1, rfl, h1, a2, s2, rfl, h2, rfl⟩
    exact ⟨a0, a1, by rw [h2], h0, h1⟩
  · rintro ⟨r0, r1, rfl, h0, h1⟩
    exact ⟨_, _, rfl, h0, _, _, rfl, h1, _, _, rfl, rfl, rfl⟩
theorem StoD.mark (x : StoD) (k : Nat) : (markLs x.lf k).1 = [(markLf (boxsLf x.boxes) (k)).1, (markLf (commitsLf x.log) (k + cntLf (boxsLf x.boxes))).1, .int ((k + cntLf (boxsLf x.boxes) + cntLf (commitsLf x.log) : Nat) : Int)] := by simp only [StoD.lf, markLs, markLf_int, markLf_cnt]
theorem StoD.rdm {W : World} {x : StoD} {k : Nat} {vs : List Value} : LsRd W (markLs x.lf k).1 vs ↔ ∃ r0, ∃ r1, vs = [r0, r1, .int .i64 ((k + cntLf (boxsLf x.boxes) + cntLf (commitsLf x.log) : Nat) : Int)] ∧ LfRd W (markLf (boxsLf x.boxes) (k)).1 r0 ∧ LfRd W (markLf (commitsLf x.log) (k + cntLf (boxsLf x.boxes))).1 r1 := by
  rw [StoD.mark]
  constructor
  · rintro ⟨a0, s0, rfl, h0, a1, s1, rfl, h1, a2, s2, rfl, h2, rfl⟩
    exact ⟨a0, a1, by rw [h2], h0, h1⟩
  · rintro ⟨r0, r1, rfl, h0, h1⟩
    exact ⟨_, _, rfl, h0, _, _, rfl, h1, _, _, rfl, rfl, rfl⟩
theorem StoD.in_of {W : World} {z0 : Lf} {z1 : Lf} {z2 : Int} {vs : List Value} {fp : List Nat} (h : LsIn W [z0, z1, .int z2] vs fp) : ∃ r0 f0, ∃ r1 f1, vs = [r0, r1, .int .i64 z2] ∧ LfIn W z0 r0 f0 ∧ LfIn W z1 r1 f1 ∧ fp = f0 ++ f1 := by
  obtain ⟨a0, s0, f0, g0, rfl, h0, ⟨a1, s1, f1, g1, rfl, h1, ⟨a2, s2, f2, g2, rfl, h2, ⟨rfl, rfl⟩, rfl⟩, rfl⟩, rfl⟩ := h
  exact ⟨a0, f0, a1, f1, by rw [h2.1], h0, h1, by rw [h2.2]; simp⟩
theorem StoD.in_mk {W : World} {z0 : Lf} {z1 : Lf} {z2 : Int} {r0 : Value} {f0 : List Nat} (h0 : LfIn W z0 r0 f0) {r1 : Value} {f1 : List Nat} (h1 : LfIn W z1 r1 f1) : LsIn W [z0, z1, .int z2] [r0, r1, .int .i64 z2] (f0 ++ f1) := by
  have h : LsIn W [z0, z1, .int z2] [r0, r1, .int .i64 z2] (f0 ++ (f1 ++ ([] ++ ([])))) := ⟨_, _, f0, _, rfl, h0, ⟨_, _, f1, _, rfl, h1, ⟨_, _, [], _, rfl, ⟨rfl, rfl⟩, ⟨rfl, rfl⟩, rfl⟩, rfl⟩, rfl⟩
  simpa using h

theorem StoD.at {W : World} {l : List StoD} {v : Value} (h : LfRd W (storesLf l) v) : ∃ p cap, v = .slice p l.length cap ∧ (l = [] ∨ ∃ b off, p = some ⟨b, off, none⟩ ∧ b < W.heap.size ∧ ∀ i x, l[i]? = some x → ∃ r0, ∃ r1, LfRd W (boxsLf x.boxes) r0 ∧ LfRd W (commitsLf x.log) r1 ∧ W.cell? ⟨b, off + i * 3, none⟩ = some (r0) ∧ W.cell? ⟨b, off + i * 3 + 1, none⟩ = some (r1) ∧ W.cell? ⟨b, off + i * 3 + 2, none⟩ = some (.int .i64 x.given)) := by
  obtain ⟨p, cap, hv, hc⟩ := rows_at StoD.len h
  refine ⟨p, cap, hv, hc.imp id fun ⟨b, off, hp, hlt, hc⟩ => ⟨b, off, hp, hlt, fun i x hi => ?_⟩⟩
  obtain ⟨us, h1, h2⟩ := hc i x hi
  obtain ⟨r0, r1, rfl, k0, k1⟩ := StoD.rd.1 h1
  exact ⟨r0, r1, k0, k1, h2 0 _ rfl, h2 1 _ rfl, h2 2 _ rfl⟩
theorem StoD.atm {W : World} {l : List StoD} {v : Value} {k0 : Nat} (h : LfRd W (markLf (storesLf l) k0).1 v) : ∃ p cap, v = .slice p l.length cap ∧ (l = [] ∨ ∃ b off, p = some ⟨b, off, none⟩ ∧ b < W.heap.size ∧ ∀ i x k, l[i]? = some x → k = k0 + cntLs ((l.take i).flatMap StoD.lf) → ∃ r0, ∃ r1, LfRd W (markLf (boxsLf x.boxes) (k)).1 r0 ∧ LfRd W (markLf (commitsLf x.log) (k + cntLf (boxsLf x.boxes))).1 r1 ∧ W.cell? ⟨b, off + i * 3, none⟩ = some (r0) ∧ W.cell? ⟨b, off + i * 3 + 1, none⟩ = some (r1) ∧ W.cell? ⟨b, off + i * 3 + 2, none⟩ = some (.int .i64 ((k + cntLf (boxsLf x.boxes) + cntLf (commitsLf x.log) : Nat) : Int))) := by
  obtain ⟨p, cap, hv, hc⟩ := rows_at_mark StoD.len h
  refine ⟨p, cap, hv, hc.imp id fun ⟨b, off, hp, hlt, hc⟩ => ⟨b, off, hp, hlt, fun i x k hi hk => ?_⟩⟩
  obtain ⟨us, h1, h2⟩ := hc i x hi
  rw [← hk] at h1
  obtain ⟨r0, r1, rfl, k0, k1⟩ := StoD.rdm.1 h1
  exact ⟨r0, r1, k0, k1, h2 0 _ rfl, h2 1 _ rfl, h2 2 _ rfl⟩

set_option maxHeartbeats 1600000 in
theorem szStore_g (x : StoD) (r0 : Value) (r1 : Value) (ll : Int) (left : Nat) (hll : ll = (left : Int)) (w : World) (h0 : LfRd w (boxsLf x.boxes) r0) (h1 : LfRd w (commitsLf x.log) r1) (hin : LsBnd x.lf) (hL : left ≤ 1000000000000) :
    Calls Try.prog 5 #[.agg #[r0, r1, .int .i64 x.given], .int .i64 ll] w fun e w' => e = .returned (.int .i64 (szN left (szLs x.lf))) ∧ Below w.heap.size w w' := by
  subst hll
  have hr0 := h0
  have hr1 := h1
  obtain ⟨p0, c0, rfl⟩ := LfRd.slice h0
  obtain ⟨p1, c1, rfl⟩ := LfRd.slice h1
  have hb1 : Below w.heap.size w (w.alloc (.cells #[(.slice p0 x.boxes.length c0), (.slice p1 x.log.length c1), .int .i64 x.given] 25)) := (Below.refl _ _).alloc (Nat.le_refl _) _
  have HA1 := Lib.hid (heap_alloc_new w (.cells #[(.slice p0 x.boxes.length c0), (.slice p1 x.log.length c1), .int .i64 x.given] 25))
  have hsz := StoD.sz x
  have bi_0 : LfBnd (boxsLf x.boxes) := hin.1
  have bi_1 : LfBnd (commitsLf x.log) := hin.2.1
  clear hin
  by_cases k0 : szLf (boxsLf x.boxes) ≤ left
  · obtain ⟨L1, hL1⟩ : ∃ L, L + szLf (boxsLf x.boxes) = left := ⟨left - szLf (boxsLf x.boxes), by omega⟩
    have q0 := fun (ll : Int) (W : World) (hl : ll = (left : Int)) (g : LfRd W (boxsLf x.boxes) (.slice p0 x.boxes.length c0)) => szBoxS_g (.slice p0 x.boxes.length c0) x.boxes ll left hl W g bi_0 (by omega)
    simp only [show szN left (szLf (boxsLf x.boxes)) = (L1 : Int) from by rw [szN_yes k0]; omega] at q0
    have C0 := Lib.hid q0
    clear q0
    have n0 : ¬ (L1 : Int) < 0 := by omega
    have bL1 : L1 ≤ 1000000000000 := by omega
    have HL1 := Lib.hid hL1
    by_cases k1 : szLf (commitsLf x.log) ≤ L1
    · obtain ⟨L2, hL2⟩ : ∃ L, L + szLf (commitsLf x.log) = L1 := ⟨L1 - szLf (commitsLf x.log), by omega⟩
      have q1 := fun (ll : Int) (W : World) (hl : ll = (L1 : Int)) (g : LfRd W (commitsLf x.log) (.slice p1 x.log.length c1)) => szCommitS_g (.slice p1 x.log.length c1) x.log ll L1 hl W g bi_1 (by omega)
      simp only [show szN L1 (szLf (commitsLf x.log)) = (L2 : Int) from by rw [szN_yes k1]; omega] at q1
      have C1 := Lib.hid q1
      clear q1
      have n1 : ¬ (L2 : Int) < 0 := by omega
      have bL2 : L2 ≤ 1000000000000 := by omega
      have HL2 := Lib.hid hL2
      have HV := Lib.hid (show szN left (szLs x.lf) = (L2 : Int) by rw [hsz, szN_yes (by omega)]; omega)
      clear hsz hL1 hL2

      go_enter Try.func5, Try.ntmps5
      go_wp2_with fail
      refine (C0.out _ _ (by have e1 := HL1.out; have e2 := HL2.out; omega) (LfRd.below hb1 _ _ hr0)).mono ?_
      rintro e w2 ⟨rfl, b2⟩
      have hb2 := hb1.trans (b2.mono hb1.size)
      have HA2 := Lib.hid ((b2.block w.heap.size (by simp)).trans HA1.out)
      have hz2 : w.heap.size < w2.heap.size := (Array.getElem?_eq_some_iff.1 HA2.out).1
      have y2_1 := (Lib.cell_of_heap HA2.out 1).trans (show _ = some ((.slice p1 x.log.length c1)) from rfl)
      go_wp2_with fail
      refine (C1.out _ _ (by have e1 := HL1.out; have e2 := HL2.out; omega) (LfRd.below hb2 _ _ hr1)).mono ?_
      rintro e w3 ⟨rfl, b3⟩
      have hb3 := hb2.trans (b3.mono hb2.size)
      have HA3 := Lib.hid ((b3.block w.heap.size (by have := hz2; omega)).trans HA2.out)
      have hz3 : w.heap.size < w3.heap.size := (Array.getElem?_eq_some_iff.1 HA3.out).1
      clear y2_1
      go_wp2
      go_ret
      exact ⟨by rw [HV.out]; rfl, hb3⟩
    · have HV := Lib.hid (show szN left (szLs x.lf) = -1 by rw [hsz]; exact szN_no (by omega))
      have q1 := fun (ll : Int) (W : World) (hl : ll = (L1 : Int)) (g : LfRd W (commitsLf x.log) (.slice p1 x.log.length c1)) => szCommitS_g (.slice p1 x.log.length c1) x.log ll L1 hl W g bi_1 (by omega)
      simp only [show szN L1 (szLf (commitsLf x.log)) = -1 from szN_no k1] at q1
      have C1 := Lib.hid q1
      clear q1
      clear hsz hL1

      go_enter Try.func5, Try.ntmps5
      go_wp2_with fail
      refine (C0.out _ _ (by have e1 := HL1.out; omega) (LfRd.below hb1 _ _ hr0)).mono ?_
      rintro e w2 ⟨rfl, b2⟩
      have hb2 := hb1.trans (b2.mono hb1.size)
      have HA2 := Lib.hid ((b2.block w.heap.size (by simp)).trans HA1.out)
      have hz2 : w.heap.size < w2.heap.size := (Array.getElem?_eq_some_iff.1 HA2.out).1
      have y2_1 := (Lib.cell_of_heap HA2.out 1).trans (show _ = some ((.slice p1 x.log.length c1)) from rfl)
      go_wp2_with fail
      refine (C1.out _ _ (by have e1 := HL1.out; omega) (LfRd.below hb2 _ _ hr1)).mono ?_
      rintro e w3 ⟨rfl, b3⟩
      have hb3 := hb2.trans (b3.mono hb2.size)
      have HA3 := Lib.hid ((b3.block w.heap.size (by have := hz2; omega)).trans HA2.out)
      have hz3 : w.heap.size < w3.heap.size := (Array.getElem?_eq_some_iff.1 HA3.out).1
      clear y2_1
      go_wp2
      go_ret
      exact ⟨by rw [HV.out]; rfl, hb3⟩
  · have HV := Lib.hid (show szN left (szLs x.lf) = -1 by rw [hsz]; exact szN_no (by omega))
    have q0 := fun (ll : Int) (W : World) (hl : ll = (left : Int)) (g : LfRd W (boxsLf x.boxes) (.slice p0 x.boxes.length c0)) => szBoxS_g (.slice p0 x.boxes.length c0) x.boxes ll left hl W g bi_0 (by omega)
    simp only [show szN left (szLf (boxsLf x.boxes)) = -1 from szN_no k0] at q0
    have C0 := Lib.hid q0
    clear q0
    clear hsz

    go_enter Try.func5, Try.ntmps5
    go_wp2_with fail
    refine (C0.out _ _ (by omega) (LfRd.below hb1 _ _ hr0)).mono ?_
    rintro e w2 ⟨rfl, b2⟩
    have hb2 := hb1.trans (b2.mono hb1.size)
    have HA2 := Lib.hid ((b2.block w.heap.size (by simp)).trans HA1.out)
    have hz2 : w.heap.size < w2.heap.size := (Array.getElem?_eq_some_iff.1 HA2.out).1
    have y2_1 := (Lib.cell_of_heap HA2.out 1).trans (show _ = some ((.slice p1 x.log.length c1)) from rfl)
    go_wp2
    go_ret
    exact ⟨by rw [HV.out]; rfl, hb2⟩

set_option maxHeartbeats 1600000 in
theorem eqStore_g (x : StoD) (ra0 rb0 : Value) (ra1 rb1 : Value) (w : World) (ha0 : LfRd w (boxsLf x.boxes) ra0) (hb0 : LfRd w (boxsLf x.boxes) rb0) (ha1 : LfRd w (commitsLf x.log) ra1) (hb1 : LfRd w (commitsLf x.log) rb1) (hs : szLs x.lf ≤ 1000000000000) :
    Calls Try.prog 10 #[.agg #[ra0, ra1, .int .i64 x.given], .agg #[rb0, rb1, .int .i64 x.given]] w fun e w' => e = .returned (.bool true) ∧ Below w.heap.size w w' := by
  have hra0 := ha0
  have hrb0 := hb0
  have hra1 := ha1
  have hrb1 := hb1
  obtain ⟨p0a, c0a, rfl⟩ := LfRd.slice ha0
  obtain ⟨p0b, c0b, rfl⟩ := LfRd.slice hb0
  obtain ⟨p1a, c1a, rfl⟩ := LfRd.slice ha1
  obtain ⟨p1b, c1b, rfl⟩ := LfRd.slice hb1
  have hb1 : Below w.heap.size w ((w.alloc (.cells #[(.slice p0a x.boxes.length c0a), (.slice p1a x.log.length c1a), .int .i64 x.given] 32)).alloc (.cells #[(.slice p0b x.boxes.length c0b), (.slice p1b x.log.length c1b), .int .i64 x.given] 32)) := ((Below.refl _ _).alloc (Nat.le_refl _) _).alloc (by simp) _
  have HA1 := Lib.hid (show ((w.alloc (.cells #[(.slice p0a x.boxes.length c0a), (.slice p1a x.log.length c1a), .int .i64 x.given] 32)).alloc (.cells #[(.slice p0b x.boxes.length c0b), (.slice p1b x.log.length c1b), .int .i64 x.given] 32)).heap[w.heap.size]? = some (.cells #[(.slice p0a x.boxes.length c0a), (.slice p1a x.log.length c1a), .int .i64 x.given] 32 (0, 0)) from (Below.heap_alloc _ _ _ (by simp)).trans (heap_alloc_new w _))
  have HB1 := Lib.hid (show ((w.alloc (.cells #[(.slice p0a x.boxes.length c0a), (.slice p1a x.log.length c1a), .int .i64 x.given] 32)).alloc (.cells #[(.slice p0b x.boxes.length c0b), (.slice p1b x.log.length c1b), .int .i64 x.given] 32)).heap[w.heap.size + 1]? = some (.cells #[(.slice p0b x.boxes.length c0b), (.slice p1b x.log.length c1b), .int .i64 x.given] 32 (0, 0)) from by
    have := heap_alloc_new (w.alloc (.cells #[(.slice p0a x.boxes.length c0a), (.slice p1a x.log.length c1a), .int .i64 x.given] 32)) (.cells #[(.slice p0b x.boxes.length c0b), (.slice p1b x.log.length c1b), .int .i64 x.given] 32)
    rwa [World.size_alloc] at this)
  have hz1 : ((w.alloc (.cells #[(.slice p0a x.boxes.length c0a), (.slice p1a x.log.length c1a), .int .i64 x.given] 32)).alloc (.cells #[(.slice p0b x.boxes.length c0b), (.slice p1b x.log.length c1b), .int .i64 x.given] 32)).heap.size = w.heap.size + 2 := by simp
  have HZ1 := Lib.hid (Nat.le_of_eq hz1.symm)
  clear hz1
  have hsz := StoD.sz x
  have C0 := Lib.hid (fun W (g : LfRd W (boxsLf x.boxes) (.slice p0a x.boxes.length c0a)) (g2 : LfRd W (boxsLf x.boxes) (.slice p0b x.boxes.length c0b)) => eqBoxS_g _ _ x.boxes W g g2 (by omega))
  have C1 := Lib.hid (fun W (g : LfRd W (commitsLf x.log) (.slice p1a x.log.length c1a)) (g2 : LfRd W (commitsLf x.log) (.slice p1b x.log.length c1b)) => eqCommitS_g _ _ x.log W g g2 (by omega))
  clear hs hsz
  go_enter Try.func10, Try.ntmps10
  go_wp2_with fail
  refine (C0.out _ (LfRd.below hb1 _ _ hra0) (LfRd.below hb1 _ _ hrb0)).mono ?_
  rintro e w2 ⟨rfl, b2⟩
  have hb2 := hb1.trans (b2.mono hb1.size)
  have HZ2 := Lib.hid (Nat.le_trans HZ1.out b2.size)
  have HA2 := Lib.hid ((b2.block w.heap.size (by have := HZ1.out; omega)).trans HA1.out)
  have HB2 := Lib.hid ((b2.block (w.heap.size + 1) (by have := HZ1.out; omega)).trans HB1.out)
  have y2_1 := (Lib.cell_of_heap HA2.out 1).trans (show _ = some ((.slice p1a x.log.length c1a)) from rfl)
  have z2_1 := (Lib.cell_of_heap HB2.out 1).trans (show _ = some ((.slice p1b x.log.length c1b)) from rfl)
  have y2_2 := (Lib.cell_of_heap HA2.out 2).trans (show _ = some (.int .i64 x.given) from rfl)
  have z2_2 := (Lib.cell_of_heap HB2.out 2).trans (show _ = some (.int .i64 x.given) from rfl)
  clear b2
  go_wp2_with fail
  refine (C1.out _ (LfRd.below hb2 _ _ hra1) (LfRd.below hb2 _ _ hrb1)).mono ?_
  rintro e w3 ⟨rfl, b3⟩
  have hb3 := hb2.trans (b3.mono hb2.size)
  have HZ3 := Lib.hid (Nat.le_trans HZ2.out b3.size)
  have HA3 := Lib.hid ((b3.block w.heap.size (by have := HZ2.out; omega)).trans HA2.out)
  have HB3 := Lib.hid ((b3.block (w.heap.size + 1) (by have := HZ2.out; omega)).trans HB2.out)
  clear y2_1 z2_1 y2_2 z2_2
  have y3_2 := (Lib.cell_of_heap HA3.out 2).trans (show _ = some (.int .i64 x.given) from rfl)
  have z3_2 := (Lib.cell_of_heap HB3.out 2).trans (show _ = some (.int .i64 x.given) from rfl)
  clear b3
  go_wp2
  go_ret
  exact ⟨rfl, hb3⟩

set_option maxRecDepth 20000 in
set_option maxHeartbeats 6400000 in
theorem toStore_g (x : StoD) (r0 : Value) (r1 : Value) (w : World) (h0 : LfRd w (boxsLf x.boxes) r0) (h1 : LfRd w (commitsLf x.log) r1) (hs : szLs x.lf ≤ 10000000) :
    Calls Try.prog 7 #[.agg #[r0, r1, .int .i64 x.given]] w fun e w' => ∃ v0 f0, ∃ v1 f1, e = .returned (.agg #[v0, v1, .int .i64 x.given]) ∧ LfIn w' (boxsLf x.boxes) v0 f0 ∧ LfIn w' (commitsLf x.log) v1 f1 ∧ (f0 ++ f1).Nodup ∧ (∀ q ∈ f0 ++ f1, w.heap.size ≤ q) ∧ Below w.heap.size w w' := by
  have HR0 := Lib.hid h0
  have HR1 := Lib.hid h1
  obtain ⟨p0, c0, rfl⟩ := LfRd.slice h0
  obtain ⟨p1, c1, rfl⟩ := LfRd.slice h1
  have hsz := StoD.sz x
  have C0 := Lib.hid (fun W (g : LfRd W (boxsLf x.boxes) (.slice p0 x.boxes.length c0)) => toBoxS_g _ x.boxes W g (by omega))
  have C1 := Lib.hid (fun W (g : LfRd W (commitsLf x.log) (.slice p1 x.log.length c1)) => toCommitS_g _ x.log W g (by omega))
  clear hs hsz h0 h1
  go_enter Try.func7, Try.ntmps7
  have HA := Lib.hid (heap_alloc_new w (.cells #[(.slice p0 x.boxes.length c0), (.slice p1 x.log.length c1), .int .i64 x.given] 25))
  go_wp2_with fail
  have hb : Below w.heap.size w (((w.alloc (.cells #[(.slice p0 x.boxes.length c0), (.slice p1 x.log.length c1), .int .i64 x.given] 25)).alloc (.cells #[.slice none 0 0, .slice none 0 0, .int .i64 0] 32)).alloc (.cells #[.slice none 0 0, .slice none 0 0, .int .i64 0] 32)) := (((Below.refl _ _).alloc (Nat.le_refl _) _).alloc (by simp) _).alloc (by simp; omega) _
  have hA : (((w.alloc (.cells #[(.slice p0 x.boxes.length c0), (.slice p1 x.log.length c1), .int .i64 x.given] 25)).alloc (.cells #[.slice none 0 0, .slice none 0 0, .int .i64 0] 32)).alloc (.cells #[.slice none 0 0, .slice none 0 0, .int .i64 0] 32)).heap[w.heap.size]? = some (.cells #[(.slice p0 x.boxes.length c0), (.slice p1 x.log.length c1), .int .i64 x.given] 25 (0, 0)) := ((Below.heap_alloc _ _ _ (by simp; omega)).trans (Below.heap_alloc _ _ _ (by simp))).trans HA.out
  have hR : (((w.alloc (.cells #[(.slice p0 x.boxes.length c0), (.slice p1 x.log.length c1), .int .i64 x.given] 25)).alloc (.cells #[.slice none 0 0, .slice none 0 0, .int .i64 0] 32)).alloc (.cells #[.slice none 0 0, .slice none 0 0, .int .i64 0] 32)).heap[w.heap.size + 1]? = some (.cells #[.slice none 0 0, .slice none 0 0, .int .i64 0] 32 (0, 0)) := (Below.heap_alloc _ _ _ (by simp)).trans (by have := heap_alloc_new (w.alloc (.cells #[(.slice p0 x.boxes.length c0), (.slice p1 x.log.length c1), .int .i64 x.given] 25)) (.cells #[.slice none 0 0, .slice none 0 0, .int .i64 0] 32); rwa [World.size_alloc] at this)
  have hT : (((w.alloc (.cells #[(.slice p0 x.boxes.length c0), (.slice p1 x.log.length c1), .int .i64 x.given] 25)).alloc (.cells #[.slice none 0 0, .slice none 0 0, .int .i64 0] 32)).alloc (.cells #[.slice none 0 0, .slice none 0 0, .int .i64 0] 32)).heap[w.heap.size + 1 + 1]? = some (.cells #[.slice none 0 0, .slice none 0 0, .int .i64 0] 32 (0, 0)) := by
    have := heap_alloc_new ((w.alloc (.cells #[(.slice p0 x.boxes.length c0), (.slice p1 x.log.length c1), .int .i64 x.given] 25)).alloc (.cells #[.slice none 0 0, .slice none 0 0, .int .i64 0] 32)) (.cells #[.slice none 0 0, .slice none 0 0, .int .i64 0] 32)
    rwa [World.size_alloc, World.size_alloc] at this
  have hz : w.heap.size + 3 ≤ (((w.alloc (.cells #[(.slice p0 x.boxes.length c0), (.slice p1 x.log.length c1), .int .i64 x.given] 25)).alloc (.cells #[.slice none 0 0, .slice none 0 0, .int .i64 0] 32)).alloc (.cells #[.slice none 0 0, .slice none 0 0, .int .i64 0] 32)).heap.size := by simp
  generalize (((w.alloc (.cells #[(.slice p0 x.boxes.length c0), (.slice p1 x.log.length c1), .int .i64 x.given] 25)).alloc (.cells #[.slice none 0 0, .slice none 0 0, .int .i64 0] 32)).alloc (.cells #[.slice none 0 0, .slice none 0 0, .int .i64 0] 32)) = W0 at *
  clear HA
  refine (C0.out _ (LfRd.below hb _ _ HR0.out)).mono ?_
  rintro e w1 ⟨v0, f0, rfl, t0, b1⟩
  have i0 := t0.is
  have n0 := t0.nodup
  have l0 : ∀ q ∈ f0, w.heap.size + 3 ≤ q := fun q hq => by have := t0.low q hq; omega
  obtain ⟨pv0, cv0, rfl⟩ := LfIn.slice i0
  clear t0
  replace hA := (b1.block (w.heap.size) (by omega)).trans hA
  replace hR := (b1.block (w.heap.size + 1) (by omega)).trans hR
  replace hT := (b1.block (w.heap.size + 1 + 1) (by omega)).trans hT
  have nn := n0
  replace hb := hb.trans (b1.mono hb.size)
  replace hz := Nat.le_trans hz b1.size
  clear b1
  have ce0 : w1.cell? ⟨w.heap.size + 1 + 1, 0, none⟩ = some (.slice none 0 0) := (Lib.cell_of_heap hT 0).trans rfl
  have ge0 : w1.frozen? ⟨w.heap.size + 1 + 1, 0, none⟩ = false := Lib.frozen_of_heap hT 0
  have hT0 : (w1.setCell ⟨w.heap.size + 1 + 1, 0, none⟩ (.slice pv0 x.boxes.length cv0)).heap[w.heap.size + 1 + 1]? = some (.cells #[(.slice pv0 x.boxes.length cv0), .slice none 0 0, .int .i64 0] 32 (0, 0)) := set_heap hT
  have hA0 : (w1.setCell ⟨w.heap.size + 1 + 1, 0, none⟩ (.slice pv0 x.boxes.length cv0)).heap[w.heap.size]? = some (.cells #[(.slice p0 x.boxes.length c0), (.slice p1 x.log.length c1), .int .i64 x.given] 25 (0, 0)) := (set_other (by omega)).trans hA
  have hR0 : (w1.setCell ⟨w.heap.size + 1 + 1, 0, none⟩ (.slice pv0 x.boxes.length cv0)).heap[w.heap.size + 1]? = some (.cells #[.slice none 0 0, .slice none 0 0, .int .i64 0] 32 (0, 0)) := (set_other (by omega)).trans hR
  have gs : GrownIn w1 (w1.setCell ⟨w.heap.size + 1 + 1, 0, none⟩ (.slice pv0 x.boxes.length cv0)) [w.heap.size + 1 + 1] := (GrownIn.refl w1 [w.heap.size + 1 + 1]).trans (GrownIn.set (by simp))
  replace i0 := LfIn.away i0 gs (fun k hk hm => by have := l0 k hk; simp at hm; omega)
  replace hb := GrownIn.below hb gs hb.size (fun k hk => by simp at hk; omega)
  replace hz := Nat.le_trans hz gs.size
  clear hA hR hT gs
  have hA := hA0
  have hR := hR0
  have hT := hT0
  clear hA0 hR0 hT0
  generalize hW1 : (w1.setCell ⟨w.heap.size + 1 + 1, 0, none⟩ (.slice pv0 x.boxes.length cv0)) = W1 at *
  have ag1 : W1.cell? ⟨w.heap.size, 1, none⟩ = some ((.slice p1 x.log.length c1)) := (Lib.cell_of_heap hA 1).trans rfl
  have I0 := Lib.hid i0
  clear i0
  have HA := Lib.hid hA
  have HB := Lib.hid hR
  have HT := Lib.hid hT
  clear hA hR hT
  go_wp2_with fail
  have i0 := I0.out
  clear I0
  have hA := HA.out
  have hR := HB.out
  have hT := HT.out
  clear HA HB HT ce0 ge0 ag1
  refine (C1.out _ (LfRd.below hb _ _ HR1.out)).mono ?_
  rintro e w2 ⟨v1, f1, rfl, t1, b1⟩
  have i1 := t1.is
  have n1 := t1.nodup
  have l1 : ∀ q ∈ f1, w.heap.size + 3 ≤ q := fun q hq => by have := t1.low q hq; omega
  have d1 : ∀ q ∈ f1, W1.heap.size ≤ q := t1.low
  obtain ⟨pv1, cv1, rfl⟩ := LfIn.slice i1
  clear t1
  replace hA := (b1.block (w.heap.size) (by omega)).trans hA
  replace hR := (b1.block (w.heap.size + 1) (by omega)).trans hR
  replace hT := (b1.block (w.heap.size + 1 + 1) (by omega)).trans hT
  have u0 : ∀ q ∈ f0, q < W1.heap.size := fun q hq => LfIn.lt _ _ _ i0 q hq
  replace i0 := LfIn.below i0 b1
  have nn1 : (f0 ++ f1).Nodup := List.nodup_append.2 ⟨nn, n1, fun x hx y hy e => by have h2 := d1 y hy; have h1 := u0 x hx; omega⟩
  clear nn
  have nn := nn1
  replace hb := hb.trans (b1.mono hb.size)
  replace hz := Nat.le_trans hz b1.size
  clear b1
  have ce1 : w2.cell? ⟨w.heap.size + 1 + 1, 1, none⟩ = some (.slice none 0 0) := (Lib.cell_of_heap hT 1).trans rfl
  have ge1 : w2.frozen? ⟨w.heap.size + 1 + 1, 1, none⟩ = false := Lib.frozen_of_heap hT 1
  have hT1 : (w2.setCell ⟨w.heap.size + 1 + 1, 1, none⟩ (.slice pv1 x.log.length cv1)).heap[w.heap.size + 1 + 1]? = some (.cells #[(.slice pv0 x.boxes.length cv0), (.slice pv1 x.log.length cv1), .int .i64 0] 32 (0, 0)) := set_heap hT
  have hA1 : (w2.setCell ⟨w.heap.size + 1 + 1, 1, none⟩ (.slice pv1 x.log.length cv1)).heap[w.heap.size]? = some (.cells #[(.slice p0 x.boxes.length c0), (.slice p1 x.log.length c1), .int .i64 x.given] 25 (0, 0)) := (set_other (by omega)).trans hA
  have hR1 : (w2.setCell ⟨w.heap.size + 1 + 1, 1, none⟩ (.slice pv1 x.log.length cv1)).heap[w.heap.size + 1]? = some (.cells #[.slice none 0 0, .slice none 0 0, .int .i64 0] 32 (0, 0)) := (set_other (by omega)).trans hR
  have ae2 : (w2.setCell ⟨w.heap.size + 1 + 1, 1, none⟩ (.slice pv1 x.log.length cv1)).cell? ⟨w.heap.size, 2, none⟩ = some (.int .i64 x.given) := (Lib.cell_of_heap hA1 2).trans rfl
  have ce2 : (w2.setCell ⟨w.heap.size + 1 + 1, 1, none⟩ (.slice pv1 x.log.length cv1)).cell? ⟨w.heap.size + 1 + 1, 2, none⟩ = some (.int .i64 0) := (Lib.cell_of_heap hT1 2).trans rfl
  have ge2 : (w2.setCell ⟨w.heap.size + 1 + 1, 1, none⟩ (.slice pv1 x.log.length cv1)).frozen? ⟨w.heap.size + 1 + 1, 2, none⟩ = false := Lib.frozen_of_heap hT1 2
  have hT2 : ((w2.setCell ⟨w.heap.size + 1 + 1, 1, none⟩ (.slice pv1 x.log.length cv1)).setCell ⟨w.heap.size + 1 + 1, 2, none⟩ (.int .i64 x.given)).heap[w.heap.size + 1 + 1]? = some (.cells #[(.slice pv0 x.boxes.length cv0), (.slice pv1 x.log.length cv1), .int .i64 x.given] 32 (0, 0)) := set_heap hT1
  have hA2 : ((w2.setCell ⟨w.heap.size + 1 + 1, 1, none⟩ (.slice pv1 x.log.length cv1)).setCell ⟨w.heap.size + 1 + 1, 2, none⟩ (.int .i64 x.given)).heap[w.heap.size]? = some (.cells #[(.slice p0 x.boxes.length c0), (.slice p1 x.log.length c1), .int .i64 x.given] 25 (0, 0)) := (set_other (by omega)).trans hA1
  have hR2 : ((w2.setCell ⟨w.heap.size + 1 + 1, 1, none⟩ (.slice pv1 x.log.length cv1)).setCell ⟨w.heap.size + 1 + 1, 2, none⟩ (.int .i64 x.given)).heap[w.heap.size + 1]? = some (.cells #[.slice none 0 0, .slice none 0 0, .int .i64 0] 32 (0, 0)) := (set_other (by omega)).trans hR1
  have gs : GrownIn w2 ((w2.setCell ⟨w.heap.size + 1 + 1, 1, none⟩ (.slice pv1 x.log.length cv1)).setCell ⟨w.heap.size + 1 + 1, 2, none⟩ (.int .i64 x.given)) [w.heap.size + 1 + 1] := ((GrownIn.refl w2 [w.heap.size + 1 + 1]).trans (GrownIn.set (by simp))).trans (GrownIn.set (by simp))
  replace i0 := LfIn.away i0 gs (fun k hk hm => by have := l0 k hk; simp at hm; omega)
  replace i1 := LfIn.away i1 gs (fun k hk hm => by have := l1 k hk; simp at hm; omega)
  replace hb := GrownIn.below hb gs hb.size (fun k hk => by simp at hk; omega)
  replace hz := Nat.le_trans hz gs.size
  clear hA hR hT gs hA1 hR1 hT1
  have hA := hA2
  have hR := hR2
  have hT := hT2
  clear hA2 hR2 hT2
  generalize hW2 : ((w2.setCell ⟨w.heap.size + 1 + 1, 1, none⟩ (.slice pv1 x.log.length cv1)).setCell ⟨w.heap.size + 1 + 1, 2, none⟩ (.int .i64 x.given)) = W2 at *
  have d0_ : W2.cell? ⟨w.heap.size + 1 + 1, 0, none⟩ = some ((.slice pv0 x.boxes.length cv0)) := (Lib.cell_of_heap hT 0).trans rfl
  have d1_ : W2.cell? ⟨w.heap.size + 1 + 1, 1, none⟩ = some ((.slice pv1 x.log.length cv1)) := (Lib.cell_of_heap hT 1).trans rfl
  have d2_ : W2.cell? ⟨w.heap.size + 1 + 1, 2, none⟩ = some (.int .i64 x.given) := (Lib.cell_of_heap hT 2).trans rfl
  have r0_ : W2.cell? ⟨w.heap.size + 1, 0, none⟩ = some (.slice none 0 0) := (Lib.cell_of_heap hR 0).trans rfl
  have q0_ : W2.frozen? ⟨w.heap.size + 1, 0, none⟩ = false := Lib.frozen_of_heap hR 0
  have hR0 : (W2.setCell ⟨w.heap.size + 1, 0, none⟩ (.slice pv0 x.boxes.length cv0)).heap[w.heap.size + 1]? = some (.cells #[(.slice pv0 x.boxes.length cv0), .slice none 0 0, .int .i64 0] 32 (0, 0)) := set_heap hR
  have r1_ : (W2.setCell ⟨w.heap.size + 1, 0, none⟩ (.slice pv0 x.boxes.length cv0)).cell? ⟨w.heap.size + 1, 1, none⟩ = some (.slice none 0 0) := (Lib.cell_of_heap hR0 1).trans rfl
  have q1_ : W2.frozen? ⟨w.heap.size + 1, 1, none⟩ = false := Lib.frozen_of_heap hR 1
  have hR1 : ((W2.setCell ⟨w.heap.size + 1, 0, none⟩ (.slice pv0 x.boxes.length cv0)).setCell ⟨w.heap.size + 1, 1, none⟩ (.slice pv1 x.log.length cv1)).heap[w.heap.size + 1]? = some (.cells #[(.slice pv0 x.boxes.length cv0), (.slice pv1 x.log.length cv1), .int .i64 0] 32 (0, 0)) := set_heap hR0
  have r2_ : ((W2.setCell ⟨w.heap.size + 1, 0, none⟩ (.slice pv0 x.boxes.length cv0)).setCell ⟨w.heap.size + 1, 1, none⟩ (.slice pv1 x.log.length cv1)).cell? ⟨w.heap.size + 1, 2, none⟩ = some (.int .i64 0) := (Lib.cell_of_heap hR1 2).trans rfl
  have q2_ : W2.frozen? ⟨w.heap.size + 1, 2, none⟩ = false := Lib.frozen_of_heap hR 2
  have hR2 : (((W2.setCell ⟨w.heap.size + 1, 0, none⟩ (.slice pv0 x.boxes.length cv0)).setCell ⟨w.heap.size + 1, 1, none⟩ (.slice pv1 x.log.length cv1)).setCell ⟨w.heap.size + 1, 2, none⟩ (.int .i64 x.given)).heap[w.heap.size + 1]? = some (.cells #[(.slice pv0 x.boxes.length cv0), (.slice pv1 x.log.length cv1), .int .i64 x.given] 32 (0, 0)) := set_heap hR1
  have s0_ := (Lib.cell_of_heap hR2 0).trans (show _ = some ((.slice pv0 x.boxes.length cv0)) from rfl)
  have s1_ := (Lib.cell_of_heap hR2 1).trans (show _ = some ((.slice pv1 x.log.length cv1)) from rfl)
  have s2_ := (Lib.cell_of_heap hR2 2).trans (show _ = some (.int .i64 x.given) from rfl)
  have gs : GrownIn W2 (((W2.setCell ⟨w.heap.size + 1, 0, none⟩ (.slice pv0 x.boxes.length cv0)).setCell ⟨w.heap.size + 1, 1, none⟩ (.slice pv1 x.log.length cv1)).setCell ⟨w.heap.size + 1, 2, none⟩ (.int .i64 x.given)) [w.heap.size + 1] := (((GrownIn.refl W2 [w.heap.size + 1]).trans (GrownIn.set (by simp))).trans (GrownIn.set (by simp))).trans (GrownIn.set (by simp))
  have I0 := Lib.hid (LfIn.away i0 gs (fun k hk hm => by have := l0 k hk; simp at hm; omega))
  have I1 := Lib.hid (LfIn.away i1 gs (fun k hk hm => by have := l1 k hk; simp at hm; omega))
  have hbf := GrownIn.below hb gs hb.size (fun k hk => by simp at hk; omega)
  clear hA hR hT gs hb hR0 hR1 hR2 i0 i1
  go_wp2
  exact bodyPost_ret (v := .agg #[(.slice pv0 x.boxes.length cv0), (.slice pv1 x.log.length cv1), .int .i64 x.given]) (by simp [results, Try.results7, go_sem, s0_, s1_, s2_]) rfl ⟨_, _, _, _, rfl, I0.out, I1.out, by simpa using nn, fun q hq => by simp only [List.mem_append] at hq; rcases hq with hq | hq <;> first | (have h1 := l0 q hq; omega) | (have h1 := l1 q hq; omega), hbf⟩

set_option maxHeartbeats 1600000 in
theorem markStore_g (x : StoD) (r0 : Value) (r1 : Value) (kk : Int) (k : Nat) (hkk : kk = (k : Int)) (f0 : List Nat) (f1 : List Nat) (w : World) (h0 : LfIn w (boxsLf x.boxes) r0 f0) (h1 : LfIn w (commitsLf x.log) r1 f1) (hnd : (f0 ++ f1).Nodup) (hk : k + cntLf (boxsLf x.boxes) + cntLf (commitsLf x.log) ≤ 1000000000000) (hs : szLs x.lf ≤ 1000000000000) :
    Calls Try.prog 11 #[.agg #[r0, r1, .int .i64 x.given], .int .i64 kk] w fun e w' => e = .returned (.int .i64 ((k + cntLf (boxsLf x.boxes) + cntLf (commitsLf x.log) : Nat) : Int)) ∧ LfIn w' (markLf (boxsLf x.boxes) (k)).1 r0 f0 ∧ LfIn w' (markLf (commitsLf x.log) (k + cntLf (boxsLf x.boxes))).1 r1 f1 ∧ GrownIn w w' (f0 ++ f1) := by
  subst hkk
  have hsz := StoD.sz x
  obtain ⟨p0, c0, rfl⟩ := LfIn.slice h0
  obtain ⟨p1, c1, rfl⟩ := LfIn.slice h1
  have hb1 : Below w.heap.size w (w.alloc (.cells #[(.slice p0 x.boxes.length c0), (.slice p1 x.log.length c1), .int .i64 x.given] 32)) := (Below.refl _ _).alloc (Nat.le_refl _) _
  have HA1 := Lib.hid (heap_alloc_new w (.cells #[(.slice p0 x.boxes.length c0), (.slice p1 x.log.length c1), .int .i64 x.given] 32))
  have u0 : ∀ q ∈ f0, q < w.heap.size := fun q hq => LfIn.lt _ _ _ h0 q hq
  have I0 := Lib.hid (LfIn.below h0 hb1)
  clear h0
  have u1 : ∀ q ∈ f1, q < w.heap.size := fun q hq => LfIn.lt _ _ _ h1 q hq
  have I1 := Lib.hid (LfIn.below h1 hb1)
  clear h1
  obtain ⟨dd0, nd_0, rr0⟩ := nd_parts hnd
  have d_0_1 : ∀ q ∈ f0, q ∉ f1 := fun q hq hm => dd0 q hq (by simp [hm])
  have d_1_0 : ∀ q ∈ f1, q ∉ f0 := fun q hq hm => dd0 q hm (by simp [hq])
  have nd_1 := rr0
  have hg1 : GrownIn w (w.alloc (.cells #[(.slice p0 x.boxes.length c0), (.slice p1 x.log.length c1), .int .i64 x.given] 32)) (f0 ++ f1) := GrownIn.of_below hb1
  have hz1 : w.heap.size < (w.alloc (.cells #[(.slice p0 x.boxes.length c0), (.slice p1 x.log.length c1), .int .i64 x.given] 32)).heap.size := by simp
  obtain ⟨q0, hq0⟩ : ∃ q, q = k + cntLf (boxsLf x.boxes) := ⟨_, rfl⟩
  rw [← hq0] at hk
  rw [← hq0]
  have HQ0 := Lib.hid hq0
  obtain ⟨q1, hq1⟩ : ∃ q, q = q0 + cntLf (commitsLf x.log) := ⟨_, rfl⟩
  rw [← hq1] at hk
  rw [← hq1]
  have HQ1 := Lib.hid hq1
  have hn0 : ¬ (q0 : Int) < 0 := by omega
  have hn1 : ¬ (q1 : Int) < 0 := by omega
  have C0 := Lib.hid (fun (kk : Int) (hkk : kk = (k : Int)) W (h : LfIn W (boxsLf x.boxes) (.slice p0 x.boxes.length c0) f0) => markBoxS_g (.slice p0 x.boxes.length c0) x.boxes kk k hkk f0 W h nd_0 (by omega) (by omega))
  simp only [← hq0] at C0
  have C1 := Lib.hid (fun (kk : Int) (hkk : kk = (q0 : Int)) W (h : LfIn W (commitsLf x.log) (.slice p1 x.log.length c1) f1) => markCommitS_g (.slice p1 x.log.length c1) x.log kk q0 hkk f1 W h nd_1 (by omega) (by omega))
  simp only [← hq1] at C1
  clear hk hs hsz hq0 hq1
  go_enter Try.func11, Try.ntmps11
  go_wp2_with fail
  refine (C0.out _ rfl _ I0.out).mono ?_
  rintro e w2 ⟨rfl, i0, g2⟩
  have hg2 := hg1.trans (g2.mono (fun q hq => by simp [hq]))
  have HA2 := Lib.hid ((g2.block w.heap.size (by omega) (fun hm => by have := u0 _ hm; omega)).trans HA1.out)
  have hz2 := Nat.lt_of_lt_of_le hz1 g2.size
  have J1 := Lib.hid (LfIn.away I1.out g2 d_1_0)
  clear I1
  have I1 := J1
  clear J1
  clear I0
  have I0 := Lib.hid i0
  clear i0 g2
  have y2_1 := (Lib.cell_of_heap HA2.out 1).trans (show _ = some ((.slice p1 x.log.length c1)) from rfl)
  have y2_2 := (Lib.cell_of_heap HA2.out 2).trans (show _ = some (.int .i64 x.given) from rfl)
  go_wp2_with fail
  refine (C1.out _ rfl _ I1.out).mono ?_
  rintro e w3 ⟨rfl, i1, g3⟩
  have hg3 := hg2.trans (g3.mono (fun q hq => by simp [hq]))
  have HA3 := Lib.hid ((g3.block w.heap.size (by omega) (fun hm => by have := u1 _ hm; omega)).trans HA2.out)
  have hz3 := Nat.lt_of_lt_of_le hz2 g3.size
  have J0 := Lib.hid (LfIn.away I0.out g3 d_0_1)
  clear I0
  have I0 := J0
  clear J0
  clear I1
  have I1 := Lib.hid i1
  clear i1 g3
  clear y2_1 y2_2
  have y3_2 := (Lib.cell_of_heap HA3.out 2).trans (show _ = some (.int .i64 x.given) from rfl)
  go_wp2
  go_ret
  exact ⟨rfl, I0.out, I1.out, hg3⟩

end Go.Proofs.Ytbfgdbpfecffcaa
