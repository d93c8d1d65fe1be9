/-
  The laws' helpers on records of the type Box (made by tools/typegen.py).
-/
import Derived.Test.YtboinphhpfggnaaLg
import Derived.Test.YtboinphhpfggnaaLgB
import Derived.Test.YtboinphhpfggnaaTyMsg
import Derived.Handy
import Derived.IntWalk
namespace Go.Proofs.Ytboinphhpfggnaa
open Go.RowKit

structure BoxD where
  name : List UInt8
  validity : Int
  next : Int
  msgs : List MsgD

def BoxD.lf (x : BoxD) : List Lf := [.str x.name, .int x.validity, .int x.next, msgsLf x.msgs]
theorem BoxD.len (x : BoxD) : x.lf.length = 4 := rfl
def boxsLf (l : List BoxD) : Lf := .rows 30 4 l.length (l.flatMap BoxD.lf)
theorem BoxD.fit (x : BoxD) : LsFit x.lf := ⟨trivial, trivial, trivial, msgsLf_fit x.msgs, trivial⟩
theorem boxsLf_fit (l : List BoxD) : LfFit (boxsLf l) := ⟨by omega, flat_lenM BoxD.len l, LsFit.flat BoxD.fit l⟩
theorem BoxD.sz (x : BoxD) : szLs x.lf = x.name.length + szLf (msgsLf x.msgs) := by simp only [BoxD.lf, szLs, szLf_int, szLf_str] <;> omega
theorem BoxD.cnt (x : BoxD) : cntLs x.lf = 1 + 1 + 1 + cntLf (msgsLf x.msgs) := by simp only [BoxD.lf, cntLs, cntLf_int, cntLf_str] <;> omega
theorem BoxD.rd {W : World} {x : BoxD} {vs : List Value} : LsRd W x.lf vs ↔ ∃ r3, vs = [sv x.name, .int .i64 x.validity, .int .i64 x.next, r3] ∧ LfRd W (msgsLf x.msgs) r3 := by
  constructor
  · rintro ⟨a0, s0, rfl, h0, a1, s1, rfl, h1, a2, s2, rfl, h2, a3, s3, rfl, h3, rfl⟩
    exact ⟨a3, by rw [h0, h1, h2], h3⟩
  · rintro ⟨r3, rfl, h3⟩
    exact ⟨_, _, rfl, rfl, _, _, rfl, rfl, _, _, rfl, rfl, _, _, rfl, h3, rfl⟩
theorem BoxD.mark (x : BoxD) (k : Nat) : (markLs x.lf k).1 = [.str (markB (k)), .int ((k + 1 : Nat) : Int), .int ((k + 1 + 1 : Nat) : Int), (markLf (msgsLf x.msgs) (k + 1 + 1 + 1)).1] := by simp only [BoxD.lf, markLs, markLf_int, markLf_str, markLf_cnt]
theorem BoxD.rdm {W : World} {x : BoxD} {k : Nat} {vs : List Value} : LsRd W (markLs x.lf k).1 vs ↔ ∃ r3, vs = [sv (markB (k)), .int .i64 ((k + 1 : Nat) : Int), .int .i64 ((k + 1 + 1 : Nat) : Int), r3] ∧ LfRd W (markLf (msgsLf x.msgs) (k + 1 + 1 + 1)).1 r3 := by
  rw [BoxD.mark]
  constructor
  · rintro ⟨a0, s0, rfl, h0, a1, s1, rfl, h1, a2, s2, rfl, h2, a3, s3, rfl, h3, rfl⟩
    exact ⟨a3, by rw [h0, h1, h2], h3⟩
  · rintro ⟨r3, rfl, h3⟩
    exact ⟨_, _, rfl, rfl, _, _, rfl, rfl, _, _, rfl, rfl, _, _, rfl, h3, rfl⟩
theorem BoxD.in_of {W : World} {z0 : List UInt8} {z1 : Int} {z2 : Int} {z3 : Lf} {vs : List Value} {fp : List Nat} (h : LsIn W [.str z0, .int z1, .int z2, z3] vs fp) : ∃ r3 f3, vs = [sv z0, .int .i64 z1, .int .i64 z2, r3] ∧ LfIn W z3 r3 f3 ∧ fp = f3 := by
  obtain ⟨a0, s0, f0, g0, rfl, h0, ⟨a1, s1, f1, g1, rfl, h1, ⟨a2, s2, f2, g2, rfl, h2, ⟨a3, s3, f3, g3, rfl, h3, ⟨rfl, rfl⟩, rfl⟩, rfl⟩, rfl⟩, rfl⟩ := h
  exact ⟨a3, f3, by rw [h0.1, h1.1, h2.1], h3, by rw [h0.2, h1.2, h2.2]; simp⟩
theorem BoxD.in_mk {W : World} {z0 : List UInt8} {z1 : Int} {z2 : Int} {z3 : Lf} {r3 : Value} {f3 : List Nat} (h3 : LfIn W z3 r3 f3) : LsIn W [.str z0, .int z1, .int z2, z3] [sv z0, .int .i64 z1, .int .i64 z2, r3] (f3) := by
  have h : LsIn W [.str z0, .int z1, .int z2, z3] [sv z0, .int .i64 z1, .int .i64 z2, r3] ([] ++ ([] ++ ([] ++ (f3 ++ ([]))))) := ⟨_, _, [], _, rfl, ⟨rfl, rfl⟩, ⟨_, _, [], _, rfl, ⟨rfl, rfl⟩, ⟨_, _, [], _, rfl, ⟨rfl, rfl⟩, ⟨_, _, f3, _, rfl, h3, ⟨rfl, rfl⟩, rfl⟩, rfl⟩, rfl⟩, rfl⟩
  simpa using h

theorem Try.el_box : Elem Try.prog 24 30 4 56 := Elem.mk' (z := .agg #[.string ⟨#[]⟩, .int .i64 0, .int .i64 0, .slice none 0 0]) Try.underlying24 (by kernel_rfl) rfl (by omega)

theorem BoxD.at {W : World} {l : List BoxD} {v : Value} (h : LfRd W (boxsLf l) v) : ∃ p cap, v = .slice p l.length cap ∧ (l = [] ∨ ∃ b off, p = some ⟨b, off, none⟩ ∧ b < W.heap.size ∧ ∀ i x, l[i]? = some x → ∃ r3, LfRd W (msgsLf x.msgs) r3 ∧ W.cell? ⟨b, off + i * 4, none⟩ = some (sv x.name) ∧ W.cell? ⟨b, off + i * 4 + 1, none⟩ = some (.int .i64 x.validity) ∧ W.cell? ⟨b, off + i * 4 + 2, none⟩ = some (.int .i64 x.next) ∧ W.cell? ⟨b, off + i * 4 + 3, none⟩ = some (r3)) := by
  obtain ⟨p, cap, hv, hc⟩ := rows_at BoxD.len h
  refine ⟨p, cap, hv, hc.imp id fun ⟨b, off, hp, hlt, hc⟩ => ⟨b, off, hp, hlt, fun i x hi => ?_⟩⟩
  obtain ⟨us, h1, h2⟩ := hc i x hi
  obtain ⟨r3, rfl, k3⟩ := BoxD.rd.1 h1
  exact ⟨r3, k3, h2 0 _ rfl, h2 1 _ rfl, h2 2 _ rfl, h2 3 _ rfl⟩
theorem BoxD.atm {W : World} {l : List BoxD} {v : Value} {k0 : Nat} (h : LfRd W (markLf (boxsLf l) k0).1 v) : ∃ p cap, v = .slice p l.length cap ∧ (l = [] ∨ ∃ b off, p = some ⟨b, off, none⟩ ∧ b < W.heap.size ∧ ∀ i x k, l[i]? = some x → k = k0 + cntLs ((l.take i).flatMap BoxD.lf) → ∃ r3, LfRd W (markLf (msgsLf x.msgs) (k + 1 + 1 + 1)).1 r3 ∧ W.cell? ⟨b, off + i * 4, none⟩ = some (sv (markB (k))) ∧ W.cell? ⟨b, off + i * 4 + 1, none⟩ = some (.int .i64 ((k + 1 : Nat) : Int)) ∧ W.cell? ⟨b, off + i * 4 + 2, none⟩ = some (.int .i64 ((k + 1 + 1 : Nat) : Int)) ∧ W.cell? ⟨b, off + i * 4 + 3, none⟩ = some (r3)) := by
  obtain ⟨p, cap, hv, hc⟩ := rows_at_mark BoxD.len h
  refine ⟨p, cap, hv, hc.imp id fun ⟨b, off, hp, hlt, hc⟩ => ⟨b, off, hp, hlt, fun i x k hi hk => ?_⟩⟩
  obtain ⟨us, h1, h2⟩ := hc i x hi
  rw [← hk] at h1
  obtain ⟨r3, rfl, k3⟩ := BoxD.rdm.1 h1
  exact ⟨r3, k3, h2 0 _ rfl, h2 1 _ rfl, h2 2 _ rfl, h2 3 _ rfl⟩

set_option maxHeartbeats 1600000 in
theorem szBox_g (x : BoxD) (r3 : Value) (ll : Int) (left : Nat) (hll : ll = (left : Int)) (w : World) (h3 : LfRd w (msgsLf x.msgs) r3) (hin : LsBnd x.lf) (hL : left ≤ 1000000000000) :
    Calls Try.prog 22 #[.agg #[sv x.name, .int .i64 x.validity, .int .i64 x.next, r3], .int .i64 ll] w fun e w' => e = .returned (.int .i64 (szN left (szLs x.lf))) ∧ Below w.heap.size w w' := by
  subst hll
  have hr3 := h3
  obtain ⟨p3, c3, rfl⟩ := LfRd.slice h3
  have hb1 : Below w.heap.size w (w.alloc (.cells #[sv x.name, .int .i64 x.validity, .int .i64 x.next, (.slice p3 x.msgs.length c3)] 39)) := (Below.refl _ _).alloc (Nat.le_refl _) _
  have HA1 := Lib.hid (heap_alloc_new w (.cells #[sv x.name, .int .i64 x.validity, .int .i64 x.next, (.slice p3 x.msgs.length c3)] 39))
  have hsz := BoxD.sz x
  have bn_0 : x.name.length ≤ 9223372036854775807 := hin.1
  have bz_0 : (ByteArray.mk x.name.toArray).size = x.name.length := by show x.name.toArray.size = _; simp
  have bi_3 : LfBnd (msgsLf x.msgs) := hin.2.2.2.1
  clear hin
  by_cases k0 : x.name.length ≤ left
  · obtain ⟨L1, hL1⟩ : ∃ L, L + x.name.length = left := ⟨left - x.name.length, by omega⟩
    have n0 : ¬ (left : Int) - (x.name.length : Int) < 0 := by omega
    have bL1 : L1 ≤ 1000000000000 := by omega
    have HL1 := Lib.hid hL1
    by_cases k1 : szLf (msgsLf x.msgs) ≤ L1
    · obtain ⟨L2, hL2⟩ : ∃ L, L + szLf (msgsLf x.msgs) = L1 := ⟨L1 - szLf (msgsLf x.msgs), by omega⟩
      have q3 := fun (ll : Int) (W : World) (hl : ll = (L1 : Int)) (g : LfRd W (msgsLf x.msgs) (.slice p3 x.msgs.length c3)) => szMsgS_g (.slice p3 x.msgs.length c3) x.msgs ll L1 hl W g bi_3 (by omega)
      simp only [show szN L1 (szLf (msgsLf x.msgs)) = (L2 : Int) from by rw [szN_yes k1]; omega] at q3
      have C3 := Lib.hid q3
      clear q3
      have n1 : ¬ (L2 : Int) < 0 := by omega
      have bL2 : L2 ≤ 1000000000000 := by omega
      have HL2 := Lib.hid hL2
      have HV := Lib.hid (show szN left (szLs x.lf) = (L2 : Int) by rw [hsz, szN_yes (by omega)]; omega)
      clear hsz hL1 hL2

      go_enter Try.func22, Try.ntmps22
      go_wp2_with fail
      refine (C3.out _ _ (by have e1 := HL1.out; have e2 := HL2.out; omega) (LfRd.below hb1 _ _ hr3)).mono ?_
      rintro e w2 ⟨rfl, b2⟩
      have hb2 := hb1.trans (b2.mono hb1.size)
      have HA2 := Lib.hid ((b2.block w.heap.size (by simp)).trans HA1.out)
      have hz2 : w.heap.size < w2.heap.size := (Array.getElem?_eq_some_iff.1 HA2.out).1
      go_wp2
      go_ret
      exact ⟨by rw [HV.out]; rfl, hb2⟩
    · have HV := Lib.hid (show szN left (szLs x.lf) = -1 by rw [hsz]; exact szN_no (by omega))
      have q3 := fun (ll : Int) (W : World) (hl : ll = (L1 : Int)) (g : LfRd W (msgsLf x.msgs) (.slice p3 x.msgs.length c3)) => szMsgS_g (.slice p3 x.msgs.length c3) x.msgs ll L1 hl W g bi_3 (by omega)
      simp only [show szN L1 (szLf (msgsLf x.msgs)) = -1 from szN_no k1] at q3
      have C3 := Lib.hid q3
      clear q3
      clear hsz hL1

      go_enter Try.func22, Try.ntmps22
      go_wp2_with fail
      refine (C3.out _ _ (by have e1 := HL1.out; omega) (LfRd.below hb1 _ _ hr3)).mono ?_
      rintro e w2 ⟨rfl, b2⟩
      have hb2 := hb1.trans (b2.mono hb1.size)
      have HA2 := Lib.hid ((b2.block w.heap.size (by simp)).trans HA1.out)
      have hz2 : w.heap.size < w2.heap.size := (Array.getElem?_eq_some_iff.1 HA2.out).1
      go_wp2
      go_ret
      exact ⟨by rw [HV.out]; rfl, hb2⟩
  · have HV := Lib.hid (show szN left (szLs x.lf) = -1 by rw [hsz]; exact szN_no (by omega))
    have n0 : (left : Int) - (x.name.length : Int) < 0 := by omega
    clear hsz

    go_enter Try.func22, Try.ntmps22
    go_wp2
    go_ret
    exact ⟨by rw [HV.out]; rfl, hb1⟩

set_option maxHeartbeats 1600000 in
theorem eqBox_g (x : BoxD) (ra3 rb3 : Value) (w : World) (ha3 : LfRd w (msgsLf x.msgs) ra3) (hb3 : LfRd w (msgsLf x.msgs) rb3) (hs : szLs x.lf ≤ 1000000000000) :
    Calls Try.prog 25 #[.agg #[sv x.name, .int .i64 x.validity, .int .i64 x.next, ra3], .agg #[sv x.name, .int .i64 x.validity, .int .i64 x.next, rb3]] w fun e w' => e = .returned (.bool true) ∧ Below w.heap.size w w' := by
  have hra3 := ha3
  have hrb3 := hb3
  obtain ⟨p3a, c3a, rfl⟩ := LfRd.slice ha3
  obtain ⟨p3b, c3b, rfl⟩ := LfRd.slice hb3
  have hb1 : Below w.heap.size w ((w.alloc (.cells #[sv x.name, .int .i64 x.validity, .int .i64 x.next, (.slice p3a x.msgs.length c3a)] 30)).alloc (.cells #[sv x.name, .int .i64 x.validity, .int .i64 x.next, (.slice p3b x.msgs.length c3b)] 30)) := ((Below.refl _ _).alloc (Nat.le_refl _) _).alloc (by simp) _
  have HA1 := Lib.hid (show ((w.alloc (.cells #[sv x.name, .int .i64 x.validity, .int .i64 x.next, (.slice p3a x.msgs.length c3a)] 30)).alloc (.cells #[sv x.name, .int .i64 x.validity, .int .i64 x.next, (.slice p3b x.msgs.length c3b)] 30)).heap[w.heap.size]? = some (.cells #[sv x.name, .int .i64 x.validity, .int .i64 x.next, (.slice p3a x.msgs.length c3a)] 30 (0, 0)) from (Below.heap_alloc _ _ _ (by simp)).trans (heap_alloc_new w _))
  have HB1 := Lib.hid (show ((w.alloc (.cells #[sv x.name, .int .i64 x.validity, .int .i64 x.next, (.slice p3a x.msgs.length c3a)] 30)).alloc (.cells #[sv x.name, .int .i64 x.validity, .int .i64 x.next, (.slice p3b x.msgs.length c3b)] 30)).heap[w.heap.size + 1]? = some (.cells #[sv x.name, .int .i64 x.validity, .int .i64 x.next, (.slice p3b x.msgs.length c3b)] 30 (0, 0)) from by
    have := heap_alloc_new (w.alloc (.cells #[sv x.name, .int .i64 x.validity, .int .i64 x.next, (.slice p3a x.msgs.length c3a)] 30)) (.cells #[sv x.name, .int .i64 x.validity, .int .i64 x.next, (.slice p3b x.msgs.length c3b)] 30)
    rwa [World.size_alloc] at this)
  have hz1 : ((w.alloc (.cells #[sv x.name, .int .i64 x.validity, .int .i64 x.next, (.slice p3a x.msgs.length c3a)] 30)).alloc (.cells #[sv x.name, .int .i64 x.validity, .int .i64 x.next, (.slice p3b x.msgs.length c3b)] 30)).heap.size = w.heap.size + 2 := by simp
  have HZ1 := Lib.hid (Nat.le_of_eq hz1.symm)
  clear hz1
  have hsz := BoxD.sz x
  have C3 := Lib.hid (fun W (g : LfRd W (msgsLf x.msgs) (.slice p3a x.msgs.length c3a)) (g2 : LfRd W (msgsLf x.msgs) (.slice p3b x.msgs.length c3b)) => eqMsgS_g _ _ x.msgs W g g2 (by omega))
  clear hs hsz
  go_enter Try.func25, Try.ntmps25
  go_wp2_with fail
  refine (C3.out _ (LfRd.below hb1 _ _ hra3) (LfRd.below hb1 _ _ hrb3)).mono ?_
  rintro e w2 ⟨rfl, b2⟩
  have hb2 := hb1.trans (b2.mono hb1.size)
  have HZ2 := Lib.hid (Nat.le_trans HZ1.out b2.size)
  have HA2 := Lib.hid ((b2.block w.heap.size (by have := HZ1.out; omega)).trans HA1.out)
  have HB2 := Lib.hid ((b2.block (w.heap.size + 1) (by have := HZ1.out; omega)).trans HB1.out)
  clear b2
  go_wp2
  go_ret
  exact ⟨rfl, hb2⟩

set_option maxRecDepth 20000 in
set_option maxHeartbeats 6400000 in
theorem toBox_g (x : BoxD) (r3 : Value) (w : World) (h3 : LfRd w (msgsLf x.msgs) r3) (hs : szLs x.lf ≤ 10000000) :
    Calls Try.prog 24 #[.agg #[sv x.name, .int .i64 x.validity, .int .i64 x.next, r3]] w fun e w' => ∃ v3 f3, e = .returned (.agg #[sv x.name, .int .i64 x.validity, .int .i64 x.next, v3]) ∧ LfIn w' (msgsLf x.msgs) v3 f3 ∧ (f3).Nodup ∧ (∀ q ∈ f3, w.heap.size ≤ q) ∧ Below w.heap.size w w' := by
  have HR3 := Lib.hid h3
  obtain ⟨p3, c3, rfl⟩ := LfRd.slice h3
  have hsz := BoxD.sz x
  have C3 := Lib.hid (fun W (g : LfRd W (msgsLf x.msgs) (.slice p3 x.msgs.length c3)) => toMsgS_g _ x.msgs W g (by omega))
  clear hs hsz h3
  go_enter Try.func24, Try.ntmps24
  have HA := Lib.hid (heap_alloc_new w (.cells #[sv x.name, .int .i64 x.validity, .int .i64 x.next, (.slice p3 x.msgs.length c3)] 39))
  go_wp2_with fail
  have hb : Below w.heap.size w (((w.alloc (.cells #[sv x.name, .int .i64 x.validity, .int .i64 x.next, (.slice p3 x.msgs.length c3)] 39)).alloc (.cells #[sv [], .int .i64 0, .int .i64 0, .slice none 0 0] 30)).alloc (.cells #[sv x.name, .int .i64 x.validity, .int .i64 x.next, .slice none 0 0] 30)) := (((Below.refl _ _).alloc (Nat.le_refl _) _).alloc (by simp) _).alloc (by simp; omega) _
  have hA : (((w.alloc (.cells #[sv x.name, .int .i64 x.validity, .int .i64 x.next, (.slice p3 x.msgs.length c3)] 39)).alloc (.cells #[sv [], .int .i64 0, .int .i64 0, .slice none 0 0] 30)).alloc (.cells #[sv x.name, .int .i64 x.validity, .int .i64 x.next, .slice none 0 0] 30)).heap[w.heap.size]? = some (.cells #[sv x.name, .int .i64 x.validity, .int .i64 x.next, (.slice p3 x.msgs.length c3)] 39 (0, 0)) := ((Below.heap_alloc _ _ _ (by simp; omega)).trans (Below.heap_alloc _ _ _ (by simp))).trans HA.out
  have hR : (((w.alloc (.cells #[sv x.name, .int .i64 x.validity, .int .i64 x.next, (.slice p3 x.msgs.length c3)] 39)).alloc (.cells #[sv [], .int .i64 0, .int .i64 0, .slice none 0 0] 30)).alloc (.cells #[sv x.name, .int .i64 x.validity, .int .i64 x.next, .slice none 0 0] 30)).heap[w.heap.size + 1]? = some (.cells #[sv [], .int .i64 0, .int .i64 0, .slice none 0 0] 30 (0, 0)) := (Below.heap_alloc _ _ _ (by simp)).trans (by have := heap_alloc_new (w.alloc (.cells #[sv x.name, .int .i64 x.validity, .int .i64 x.next, (.slice p3 x.msgs.length c3)] 39)) (.cells #[sv [], .int .i64 0, .int .i64 0, .slice none 0 0] 30); rwa [World.size_alloc] at this)
  have hT : (((w.alloc (.cells #[sv x.name, .int .i64 x.validity, .int .i64 x.next, (.slice p3 x.msgs.length c3)] 39)).alloc (.cells #[sv [], .int .i64 0, .int .i64 0, .slice none 0 0] 30)).alloc (.cells #[sv x.name, .int .i64 x.validity, .int .i64 x.next, .slice none 0 0] 30)).heap[w.heap.size + 1 + 1]? = some (.cells #[sv x.name, .int .i64 x.validity, .int .i64 x.next, .slice none 0 0] 30 (0, 0)) := by
    have := heap_alloc_new ((w.alloc (.cells #[sv x.name, .int .i64 x.validity, .int .i64 x.next, (.slice p3 x.msgs.length c3)] 39)).alloc (.cells #[sv [], .int .i64 0, .int .i64 0, .slice none 0 0] 30)) (.cells #[sv x.name, .int .i64 x.validity, .int .i64 x.next, .slice none 0 0] 30)
    rwa [World.size_alloc, World.size_alloc] at this
  have hz : w.heap.size + 3 ≤ (((w.alloc (.cells #[sv x.name, .int .i64 x.validity, .int .i64 x.next, (.slice p3 x.msgs.length c3)] 39)).alloc (.cells #[sv [], .int .i64 0, .int .i64 0, .slice none 0 0] 30)).alloc (.cells #[sv x.name, .int .i64 x.validity, .int .i64 x.next, .slice none 0 0] 30)).heap.size := by simp
  generalize (((w.alloc (.cells #[sv x.name, .int .i64 x.validity, .int .i64 x.next, (.slice p3 x.msgs.length c3)] 39)).alloc (.cells #[sv [], .int .i64 0, .int .i64 0, .slice none 0 0] 30)).alloc (.cells #[sv x.name, .int .i64 x.validity, .int .i64 x.next, .slice none 0 0] 30)) = W0 at *
  clear HA
  refine (C3.out _ (LfRd.below hb _ _ HR3.out)).mono ?_
  rintro e w1 ⟨v3, f3, rfl, t3, b1⟩
  have i3 := t3.is
  have n3 := t3.nodup
  have l3 : ∀ q ∈ f3, w.heap.size + 3 ≤ q := fun q hq => by have := t3.low q hq; omega
  obtain ⟨pv3, cv3, rfl⟩ := LfIn.slice i3
  clear t3
  replace hA := (b1.block (w.heap.size) (by omega)).trans hA
  replace hR := (b1.block (w.heap.size + 1) (by omega)).trans hR
  replace hT := (b1.block (w.heap.size + 1 + 1) (by omega)).trans hT
  have nn := n3
  replace hb := hb.trans (b1.mono hb.size)
  replace hz := Nat.le_trans hz b1.size
  clear b1
  have ce3 : w1.cell? ⟨w.heap.size + 1 + 1, 3, none⟩ = some (.slice none 0 0) := (Lib.cell_of_heap hT 3).trans rfl
  have ge3 : w1.frozen? ⟨w.heap.size + 1 + 1, 3, none⟩ = false := Lib.frozen_of_heap hT 3
  have hT3 : (w1.setCell ⟨w.heap.size + 1 + 1, 3, none⟩ (.slice pv3 x.msgs.length cv3)).heap[w.heap.size + 1 + 1]? = some (.cells #[sv x.name, .int .i64 x.validity, .int .i64 x.next, (.slice pv3 x.msgs.length cv3)] 30 (0, 0)) := set_heap hT
  have hA3 : (w1.setCell ⟨w.heap.size + 1 + 1, 3, none⟩ (.slice pv3 x.msgs.length cv3)).heap[w.heap.size]? = some (.cells #[sv x.name, .int .i64 x.validity, .int .i64 x.next, (.slice p3 x.msgs.length c3)] 39 (0, 0)) := (set_other (by omega)).trans hA
  have hR3 : (w1.setCell ⟨w.heap.size + 1 + 1, 3, none⟩ (.slice pv3 x.msgs.length cv3)).heap[w.heap.size + 1]? = some (.cells #[sv [], .int .i64 0, .int .i64 0, .slice none 0 0] 30 (0, 0)) := (set_other (by omega)).trans hR
  have gs : GrownIn w1 (w1.setCell ⟨w.heap.size + 1 + 1, 3, none⟩ (.slice pv3 x.msgs.length cv3)) [w.heap.size + 1 + 1] := (GrownIn.refl w1 [w.heap.size + 1 + 1]).trans (GrownIn.set (by simp))
  replace i3 := LfIn.away i3 gs (fun k hk hm => by have := l3 k hk; simp at hm; omega)
  replace hb := GrownIn.below hb gs hb.size (fun k hk => by simp at hk; omega)
  replace hz := Nat.le_trans hz gs.size
  clear hA hR hT gs
  have hA := hA3
  have hR := hR3
  have hT := hT3
  clear hA3 hR3 hT3
  generalize hW1 : (w1.setCell ⟨w.heap.size + 1 + 1, 3, none⟩ (.slice pv3 x.msgs.length cv3)) = W1 at *
  have d0_ : W1.cell? ⟨w.heap.size + 1 + 1, 0, none⟩ = some (sv x.name) := (Lib.cell_of_heap hT 0).trans rfl
  have d1_ : W1.cell? ⟨w.heap.size + 1 + 1, 1, none⟩ = some (.int .i64 x.validity) := (Lib.cell_of_heap hT 1).trans rfl
  have d2_ : W1.cell? ⟨w.heap.size + 1 + 1, 2, none⟩ = some (.int .i64 x.next) := (Lib.cell_of_heap hT 2).trans rfl
  have d3_ : W1.cell? ⟨w.heap.size + 1 + 1, 3, none⟩ = some ((.slice pv3 x.msgs.length cv3)) := (Lib.cell_of_heap hT 3).trans rfl
  have r0_ : W1.cell? ⟨w.heap.size + 1, 0, none⟩ = some (sv []) := (Lib.cell_of_heap hR 0).trans rfl
  have q0_ : W1.frozen? ⟨w.heap.size + 1, 0, none⟩ = false := Lib.frozen_of_heap hR 0
  have hR0 : (W1.setCell ⟨w.heap.size + 1, 0, none⟩ (sv x.name)).heap[w.heap.size + 1]? = some (.cells #[sv x.name, .int .i64 0, .int .i64 0, .slice none 0 0] 30 (0, 0)) := set_heap hR
  have r1_ : (W1.setCell ⟨w.heap.size + 1, 0, none⟩ (sv x.name)).cell? ⟨w.heap.size + 1, 1, none⟩ = some (.int .i64 0) := (Lib.cell_of_heap hR0 1).trans rfl
  have q1_ : W1.frozen? ⟨w.heap.size + 1, 1, none⟩ = false := Lib.frozen_of_heap hR 1
  have hR1 : ((W1.setCell ⟨w.heap.size + 1, 0, none⟩ (sv x.name)).setCell ⟨w.heap.size + 1, 1, none⟩ (.int .i64 x.validity)).heap[w.heap.size + 1]? = some (.cells #[sv x.name, .int .i64 x.validity, .int .i64 0, .slice none 0 0] 30 (0, 0)) := set_heap hR0
  have r2_ : ((W1.setCell ⟨w.heap.size + 1, 0, none⟩ (sv x.name)).setCell ⟨w.heap.size + 1, 1, none⟩ (.int .i64 x.validity)).cell? ⟨w.heap.size + 1, 2, none⟩ = some (.int .i64 0) := (Lib.cell_of_heap hR1 2).trans rfl
  have q2_ : W1.frozen? ⟨w.heap.size + 1, 2, none⟩ = false := Lib.frozen_of_heap hR 2
  have hR2 : (((W1.setCell ⟨w.heap.size + 1, 0, none⟩ (sv x.name)).setCell ⟨w.heap.size + 1, 1, none⟩ (.int .i64 x.validity)).setCell ⟨w.heap.size + 1, 2, none⟩ (.int .i64 x.next)).heap[w.heap.size + 1]? = some (.cells #[sv x.name, .int .i64 x.validity, .int .i64 x.next, .slice none 0 0] 30 (0, 0)) := set_heap hR1
  have r3_ : (((W1.setCell ⟨w.heap.size + 1, 0, none⟩ (sv x.name)).setCell ⟨w.heap.size + 1, 1, none⟩ (.int .i64 x.validity)).setCell ⟨w.heap.size + 1, 2, none⟩ (.int .i64 x.next)).cell? ⟨w.heap.size + 1, 3, none⟩ = some (.slice none 0 0) := (Lib.cell_of_heap hR2 3).trans rfl
  have q3_ : W1.frozen? ⟨w.heap.size + 1, 3, none⟩ = false := Lib.frozen_of_heap hR 3
  have hR3 : ((((W1.setCell ⟨w.heap.size + 1, 0, none⟩ (sv x.name)).setCell ⟨w.heap.size + 1, 1, none⟩ (.int .i64 x.validity)).setCell ⟨w.heap.size + 1, 2, none⟩ (.int .i64 x.next)).setCell ⟨w.heap.size + 1, 3, none⟩ (.slice pv3 x.msgs.length cv3)).heap[w.heap.size + 1]? = some (.cells #[sv x.name, .int .i64 x.validity, .int .i64 x.next, (.slice pv3 x.msgs.length cv3)] 30 (0, 0)) := set_heap hR2
  have s0_ := (Lib.cell_of_heap hR3 0).trans (show _ = some (sv x.name) from rfl)
  have s1_ := (Lib.cell_of_heap hR3 1).trans (show _ = some (.int .i64 x.validity) from rfl)
  have s2_ := (Lib.cell_of_heap hR3 2).trans (show _ = some (.int .i64 x.next) from rfl)
  have s3_ := (Lib.cell_of_heap hR3 3).trans (show _ = some ((.slice pv3 x.msgs.length cv3)) from rfl)
  have gs : GrownIn W1 ((((W1.setCell ⟨w.heap.size + 1, 0, none⟩ (sv x.name)).setCell ⟨w.heap.size + 1, 1, none⟩ (.int .i64 x.validity)).setCell ⟨w.heap.size + 1, 2, none⟩ (.int .i64 x.next)).setCell ⟨w.heap.size + 1, 3, none⟩ (.slice pv3 x.msgs.length cv3)) [w.heap.size + 1] := ((((GrownIn.refl W1 [w.heap.size + 1]).trans (GrownIn.set (by simp))).trans (GrownIn.set (by simp))).trans (GrownIn.set (by simp))).trans (GrownIn.set (by simp))
  have I3 := Lib.hid (LfIn.away i3 gs (fun k hk hm => by have := l3 k hk; simp at hm; omega))
  have hbf := GrownIn.below hb gs hb.size (fun k hk => by simp at hk; omega)
  clear hA hR hT gs hb hR0 hR1 hR2 hR3 i3
  go_wp2
  exact bodyPost_ret (v := .agg #[sv x.name, .int .i64 x.validity, .int .i64 x.next, (.slice pv3 x.msgs.length cv3)]) (by simp [results, Try.results24, go_sem, s0_, s1_, s2_, s3_]) rfl ⟨_, _, rfl, I3.out, nn, fun q hq => by have := l3 q hq; omega, hbf⟩

set_option maxHeartbeats 1600000 in
theorem markBox_g (x : BoxD) (r3 : Value) (kk : Int) (k : Nat) (hkk : kk = (k : Int)) (f3 : List Nat) (w : World) (h3 : LfIn w (msgsLf x.msgs) r3 f3) (hnd : (f3).Nodup) (hk : k + cntLf (msgsLf x.msgs) ≤ 1000000000000) (hs : szLs x.lf ≤ 1000000000000) :
    Calls Try.prog 28 #[.agg #[sv x.name, .int .i64 x.validity, .int .i64 x.next, r3], .int .i64 kk] w fun e w' => e = .returned (.int .i64 ((k + cntLf (msgsLf x.msgs) : Nat) : Int)) ∧ LfIn w' (markLf (msgsLf x.msgs) (k)).1 r3 f3 ∧ GrownIn w w' (f3) := by
  subst hkk
  have hsz := BoxD.sz x
  obtain ⟨p3, c3, rfl⟩ := LfIn.slice h3
  have hb1 : Below w.heap.size w (w.alloc (.cells #[sv x.name, .int .i64 x.validity, .int .i64 x.next, (.slice p3 x.msgs.length c3)] 30)) := (Below.refl _ _).alloc (Nat.le_refl _) _
  have HA1 := Lib.hid (heap_alloc_new w (.cells #[sv x.name, .int .i64 x.validity, .int .i64 x.next, (.slice p3 x.msgs.length c3)] 30))
  have u3 : ∀ q ∈ f3, q < w.heap.size := fun q hq => LfIn.lt _ _ _ h3 q hq
  have I3 := Lib.hid (LfIn.below h3 hb1)
  clear h3
  have nd_3 := hnd
  have hg1 : GrownIn w (w.alloc (.cells #[sv x.name, .int .i64 x.validity, .int .i64 x.next, (.slice p3 x.msgs.length c3)] 30)) (f3) := GrownIn.of_below hb1
  have hz1 : w.heap.size < (w.alloc (.cells #[sv x.name, .int .i64 x.validity, .int .i64 x.next, (.slice p3 x.msgs.length c3)] 30)).heap.size := by simp
  obtain ⟨q3, hq3⟩ : ∃ q, q = k + cntLf (msgsLf x.msgs) := ⟨_, rfl⟩
  rw [← hq3] at hk
  rw [← hq3]
  have HQ3 := Lib.hid hq3
  have hn3 : ¬ (q3 : Int) < 0 := by omega
  have C3 := Lib.hid (fun (kk : Int) (hkk : kk = (k : Int)) W (h : LfIn W (msgsLf x.msgs) (.slice p3 x.msgs.length c3) f3) => markMsgS_g (.slice p3 x.msgs.length c3) x.msgs kk k hkk f3 W h nd_3 (by omega) (by omega))
  simp only [← hq3] at C3
  clear hk hs hsz hq3
  go_enter Try.func28, Try.ntmps28
  go_wp2_with fail
  refine (C3.out _ rfl _ I3.out).mono ?_
  rintro e w2 ⟨rfl, i3, g2⟩
  have hg2 := hg1.trans (g2.mono (fun q hq => by simp [hq]))
  have HA2 := Lib.hid ((g2.block w.heap.size (by omega) (fun hm => by have := u3 _ hm; omega)).trans HA1.out)
  have hz2 := Nat.lt_of_lt_of_le hz1 g2.size
  clear I3
  have I3 := Lib.hid i3
  clear i3 g2
  go_wp2
  go_ret
  exact ⟨rfl, I3.out, hg2⟩

set_option maxHeartbeats 3200000 in
theorem szBoxS_g (v : Value) (l : List BoxD) (ll : Int) (left : Nat) (hll : ll = (left : Int)) (w : World) (hr : LfRd w (boxsLf l) v) (hin : LfBnd (boxsLf l)) (hL : left ≤ 1000000000000) :
    Calls Try.prog 32 #[v, .int .i64 ll] w fun e w' => e = .returned (.int .i64 (szN left (szLf (boxsLf l)))) ∧ Below w.heap.size w w' := by
  subst hll
  have HSZ := Lib.hid (show szLf (boxsLf l) = l.length + szLs (l.flatMap BoxD.lf) from rfl)
  obtain ⟨p, c, rfl, hp⟩ := BoxD.at hr
  have hl : l.length ≤ 9223372036854775807 := hin.1
  have HX := Lib.hid (LsBnd.flat hin.2)
  have HP := Lib.hid hp
  clear hr hp hin
  by_cases hbig : l.length ≤ left
  · have h1 : ¬ (left : Int) - (l.length : Int) < 0 := by omega
    go_enter Try.func32, Try.ntmps32
    go_wp2
    go_loopw [1, 5] (fun lf i wr => ∃ j q : Nat, j ≤ l.length ∧ i = .int .i64 j ∧ lf = .int .i64 (q : Int) ∧ q + (l.length + szLs ((l.take j).flatMap BoxD.lf)) = left ∧ Below w.heap.size w wr) (fun _ i _ => l.length - (intOf i).toNat)
    case atStart => exact ⟨0, left - l.length, by omega, rfl, by congr 1; omega, by simp [szLs]; omega, Below.refl _ _⟩
    case round =>
      obtain ⟨j, q, hj, rfl, rfl, hq, hbr⟩ := hrel
      have hbr0 := hbr.size
      have hqL : q ≤ 1000000000000 := by omega
      by_cases hlt : j < l.length
      · obtain ⟨b1, o1, rfl, hb1, hc1⟩ := HP.out.resolve_left (by intro h; subst h; simp at hlt)
        obtain ⟨s, hs⟩ : ∃ s, l[j]? = some s := ⟨_, List.getElem?_eq_getElem hlt⟩
        obtain ⟨v3, n3, x0, x1, x2, x3⟩ := hc1 j s hs
        have e0 : wr.cell? ⟨b1, o1 + j * 4, none⟩ = some (sv s.name) := (hbr.cell (p := ⟨b1, o1 + j * 4, none⟩) hb1).trans x0
        have e1 : wr.cell? ⟨b1, o1 + j * 4 + 1, none⟩ = some (.int .i64 s.validity) := (hbr.cell (p := ⟨b1, o1 + j * 4 + 1, none⟩) hb1).trans x1
        have e2 : wr.cell? ⟨b1, o1 + j * 4 + 2, none⟩ = some (.int .i64 s.next) := (hbr.cell (p := ⟨b1, o1 + j * 4 + 2, none⟩) hb1).trans x2
        have e3 : wr.cell? ⟨b1, o1 + j * 4 + 3, none⟩ = some (v3) := (hbr.cell (p := ⟨b1, o1 + j * 4 + 3, none⟩) hb1).trans x3
        have cz := fun ll (hl : ll = (q : Int)) => szBox_g s v3 ll q hl wr (LfRd.below hbr _ _ n3) (HX.out s (List.mem_of_getElem? hs)) hqL
        have htk : szLs ((l.take (j + 1)).flatMap BoxD.lf) = szLs ((l.take j).flatMap BoxD.lf) + szLs s.lf := by rw [flat_take_succ BoxD.lf hs, szLs_append]
        have hmono := szLs_flat_take BoxD.lf l (j + 1)
        by_cases hok : szLs s.lf ≤ q
        · obtain ⟨q2, hq2⟩ : ∃ q2, q2 + szLs s.lf = q := ⟨q - szLs s.lf, by omega⟩
          have hqe : q2 + (l.length + szLs ((l.take (j + 1)).flatMap BoxD.lf)) = left := by omega
          simp only [show szN q (szLs s.lf) = (q2 : Int) from by rw [szN_yes hok]; omega] at cz
          have CZ := Lib.hid cz
          have hnn : ¬ (q2 : Int) < 0 := by omega
          have HQ := Lib.hid hqe
          clear cz htk hq hq2 hqe hmono hok
          clear hc1 hs HP x0 x1 x2 x3 n3
          go_wp2_with fail
          refine (CZ.out _ rfl).mono ?_
          rintro e w2 ⟨rfl, b2⟩
          have hb2 := hbr.trans (b2.mono hbr0)
          clear CZ b2 hbr e0 e1 e2 e3
          go_wp2
          go_roundw
          case rel => exact ⟨j + 1, q2, by omega, by go_num, rfl, HQ.out, hb2⟩
          case measure => simp [intOf]; omega
        · simp only [show szN q (szLs s.lf) = -1 from szN_no hok] at cz
          have CZ := Lib.hid cz
          have HV := Lib.hid (show szN left (szLf (boxsLf l)) = -1 by rw [HSZ.out]; exact szN_no (by omega))
          clear cz htk hq hmono hok
          clear hc1 hs HP x0 x1 x2 x3 n3
          go_wp2_with fail
          refine (CZ.out _ rfl).mono ?_
          rintro e w2 ⟨rfl, b2⟩
          have hb2 := hbr.trans (b2.mono hbr0)
          clear CZ b2 hbr e0 e1 e2 e3
          go_wp2
          go_ret
          exact ⟨by rw [HV.out]; rfl, hb2⟩
      · obtain rfl : j = l.length := by omega
        rw [List.take_length] at hq
        have HV := Lib.hid (show szN left (szLf (boxsLf l)) = (q : Int) by rw [HSZ.out, szN_yes (by omega)]; omega)
        clear hq
        go_wp2
        go_ret
        exact ⟨by rw [HV.out]; rfl, hbr⟩
  · have h1 : (left : Int) - (l.length : Int) < 0 := by omega
    have HV := Lib.hid (show szN left (szLf (boxsLf l)) = -1 by rw [HSZ.out]; exact szN_no (by omega))
    go_enter Try.func32, Try.ntmps32
    go_wp2
    go_ret
    exact ⟨by rw [HV.out]; rfl, Below.refl _ _⟩

set_option maxHeartbeats 3200000 in
theorem eqBoxS_g (a b : Value) (l : List BoxD) (w : World) (ha : LfRd w (boxsLf l) a) (hb : LfRd w (boxsLf l) b) (hs : szLf (boxsLf l) ≤ 1000000000000) :
    Calls Try.prog 34 #[a, b] w fun e w' => e = .returned (.bool true) ∧ Below w.heap.size w w' := by
  have hs2 : l.length + szLs (l.flatMap BoxD.lf) ≤ 1000000000000 := hs
  clear hs
  obtain ⟨p, c1, rfl, hp⟩ := BoxD.at ha
  obtain ⟨q, c2, rfl, hq⟩ := BoxD.at hb
  clear ha hb
  have HP := Lib.hid hp
  have HQ := Lib.hid hq
  clear hp hq
  have HL := Lib.hid hs2
  have hll : l.length ≤ 1000000000000 := by omega
  clear hs2
  go_enter Try.func34, Try.ntmps34
  go_wp2
  go_loopw [5] (fun i wr => ∃ k : Nat, k ≤ l.length ∧ i = .int .i64 k ∧ Below w.heap.size w wr) (fun i _ => l.length - (intOf i).toNat)
  case atStart => exact ⟨0, by omega, rfl, Below.refl _ _⟩
  case round =>
    obtain ⟨k, hk, rfl, hbr⟩ := hrel
    have hbr0 := hbr.size
    by_cases hlt : k < l.length
    · obtain ⟨b1, o1, rfl, hb1, hc1⟩ := HP.out.resolve_left (by intro h; subst h; simp at hlt)
      obtain ⟨b2, o2, rfl, hb2, hc2⟩ := HQ.out.resolve_left (by intro h; subst h; simp at hlt)
      obtain ⟨s, hs⟩ : ∃ s, l[k]? = some s := ⟨_, List.getElem?_eq_getElem hlt⟩
      obtain ⟨v3, n3, x0, x1, x2, x3⟩ := hc1 k s hs
      obtain ⟨u3, t3, y0, y1, y2, y3⟩ := hc2 k s hs
      have e0 : wr.drew.cell? ⟨b1, o1 + k * 4, none⟩ = some (sv s.name) := (hbr.cell (p := ⟨b1, o1 + k * 4, none⟩) hb1).trans x0
      have f0 : wr.drew.cell? ⟨b2, o2 + k * 4, none⟩ = some (sv s.name) := (hbr.cell (p := ⟨b2, o2 + k * 4, none⟩) hb2).trans y0
      have e1 : wr.drew.cell? ⟨b1, o1 + k * 4 + 1, none⟩ = some (.int .i64 s.validity) := (hbr.cell (p := ⟨b1, o1 + k * 4 + 1, none⟩) hb1).trans x1
      have f1 : wr.drew.cell? ⟨b2, o2 + k * 4 + 1, none⟩ = some (.int .i64 s.validity) := (hbr.cell (p := ⟨b2, o2 + k * 4 + 1, none⟩) hb2).trans y1
      have e2 : wr.drew.cell? ⟨b1, o1 + k * 4 + 2, none⟩ = some (.int .i64 s.next) := (hbr.cell (p := ⟨b1, o1 + k * 4 + 2, none⟩) hb1).trans x2
      have f2 : wr.drew.cell? ⟨b2, o2 + k * 4 + 2, none⟩ = some (.int .i64 s.next) := (hbr.cell (p := ⟨b2, o2 + k * 4 + 2, none⟩) hb2).trans y2
      have e3 : wr.drew.cell? ⟨b1, o1 + k * 4 + 3, none⟩ = some (v3) := (hbr.cell (p := ⟨b1, o1 + k * 4 + 3, none⟩) hb1).trans x3
      have f3 : wr.drew.cell? ⟨b2, o2 + k * 4 + 3, none⟩ = some (u3) := (hbr.cell (p := ⟨b2, o2 + k * 4 + 3, none⟩) hb2).trans y3
      have hsm := szLs_mem BoxD.lf (List.mem_of_getElem? hs)
      have CE := Lib.hid (eqBox_g s v3 u3 wr.drew (LfRd.below hbr.drew _ _ n3) (LfRd.below hbr.drew _ _ t3) (by have := HL.out; omega))
      clear hc1 hc2 hs HP HQ hsm x0 y0 x1 y1 x2 y2 x3 y3 n3 t3
      go_wp2
      refine ord_start [(0, true), (1, true), (2, true), (3, true), (4, true), (5, true), (6, true), (7, true), (8, false), (9, true)] (fun W => (W.cell? ⟨b1, o1 + k * 4, none⟩ = some (sv s.name) ∧ W.cell? ⟨b1, o1 + k * 4 + 1, none⟩ = some (.int .i64 s.validity) ∧ W.cell? ⟨b1, o1 + k * 4 + 2, none⟩ = some (.int .i64 s.next) ∧ W.cell? ⟨b1, o1 + k * 4 + 3, none⟩ = some (v3)) ∧ W.cell? ⟨b2, o2 + k * 4, none⟩ = some (sv s.name) ∧ W.cell? ⟨b2, o2 + k * 4 + 1, none⟩ = some (.int .i64 s.validity) ∧ W.cell? ⟨b2, o2 + k * 4 + 2, none⟩ = some (.int .i64 s.next) ∧ W.cell? ⟨b2, o2 + k * 4 + 3, none⟩ = some (u3)) (by kernel_rfl) (by kernel_rfl) rfl (by kernel_rfl) ?_
      intro ops' hops
      clear hops
      simp only [List.map_cons, List.map_nil, pickOp_zero, pickOp_succ]
      iterate 8 (refine ord_flo ?_ (fun _ _ _ h => h) rfl ?_ ⟨⟨e0, e1, e2, e3⟩, f0, f1, f2, f3⟩ ?_; rotate_left; focus (intro W hS; obtain ⟨⟨s0, s1, s2, s3⟩, t0, t1, t2, t3⟩ := hS; go_simp; rfl))
      refine ord_ev rfl ?_
      go_simp
      refine (CE.out).mono ?_
      rintro e w2 ⟨rfl, bb⟩
      have hb2' := hbr.drew.trans (bb.mono (by show w.heap.size ≤ wr.heap.size; omega))
      have hlt1 : b1 < wr.drew.heap.size := Nat.lt_of_lt_of_le hb1 hbr0
      have hlt2 : b2 < wr.drew.heap.size := Nat.lt_of_lt_of_le hb2 hbr0
      have HE := Lib.hid (show (fun W : World => (W.cell? ⟨b1, o1 + k * 4, none⟩ = some (sv s.name) ∧ W.cell? ⟨b1, o1 + k * 4 + 1, none⟩ = some (.int .i64 s.validity) ∧ W.cell? ⟨b1, o1 + k * 4 + 2, none⟩ = some (.int .i64 s.next) ∧ W.cell? ⟨b1, o1 + k * 4 + 3, none⟩ = some (v3)) ∧ W.cell? ⟨b2, o2 + k * 4, none⟩ = some (sv s.name) ∧ W.cell? ⟨b2, o2 + k * 4 + 1, none⟩ = some (.int .i64 s.validity) ∧ W.cell? ⟨b2, o2 + k * 4 + 2, none⟩ = some (.int .i64 s.next) ∧ W.cell? ⟨b2, o2 + k * 4 + 3, none⟩ = some (u3)) w2 from ⟨⟨(bb.cell (p := ⟨b1, o1 + k * 4, none⟩) hlt1).trans e0, (bb.cell (p := ⟨b1, o1 + k * 4 + 1, none⟩) hlt1).trans e1, (bb.cell (p := ⟨b1, o1 + k * 4 + 2, none⟩) hlt1).trans e2, (bb.cell (p := ⟨b1, o1 + k * 4 + 3, none⟩) hlt1).trans e3⟩, (bb.cell (p := ⟨b2, o2 + k * 4, none⟩) hlt2).trans f0, (bb.cell (p := ⟨b2, o2 + k * 4 + 1, none⟩) hlt2).trans f1, (bb.cell (p := ⟨b2, o2 + k * 4 + 2, none⟩) hlt2).trans f2, (bb.cell (p := ⟨b2, o2 + k * 4 + 3, none⟩) hlt2).trans f3⟩)
      refine ⟨HE.out, ?_⟩
      iterate 1 (refine ord_flo ?_ (fun _ _ _ h => h) rfl ?_ HE.out ?_; rotate_left; focus (intro W hS; obtain ⟨⟨s0, s1, s2, s3⟩, t0, t1, t2, t3⟩ := hS; go_simp; rfl))
      refine ord_done ?_
      go_simp
      clear e0 f0 e1 f1 e2 f2 e3 f3 bb hbr hbr0 CE HE
      go_wp2
      go_roundw
      case rel => exact ⟨k + 1, by omega, by go_num, hb2'⟩
      case measure => simp [intOf]; omega
    · obtain rfl : k = l.length := by omega
      go_wp2
      go_ret
      exact ⟨rfl, hbr⟩

set_option maxRecDepth 20000 in
set_option maxHeartbeats 6400000 in
theorem toBoxS_g (v : Value) (l : List BoxD) (w : World) (hr : LfRd w (boxsLf l) v) (hs : szLf (boxsLf l) ≤ 10000000) :
    Calls Try.prog 33 #[v] w fun e w' => ∃ v' fp, e = .returned v' ∧ Tree w' w.heap.size (boxsLf l) v' fp ∧ Below w.heap.size w w' := by
  have hs2 : l.length + szLs (l.flatMap BoxD.lf) ≤ 10000000 := hs
  obtain ⟨p, c, rfl, hp⟩ := BoxD.at hr
  have HP := Lib.hid hp
  have HL := Lib.hid hs2
  have hll : l.length ≤ 10000000 := by omega
  clear hr hp hs hs2
  go_enter Try.func33, Try.ntmps33
  go_wp2_with (refine wpList_mkn Try.el_box rfl _ _ rfl w.heap.size w (Below.refl _ _) (Nat.le_refl _) _ _ l.length rfl rfl (by omega) (by omega) ?_)
  intro w1 xs0 hown1 hb1 hlt1
  go_wp2
  go_loopw [4] (fun i wr => ∃ (k : Nat) (A R : List Value) (fq : List Nat), k ≤ l.length ∧ i = .int .i64 k ∧ A.length = k * 4 ∧ wr.ownsRow w.heap.size 30 4 (.slice (some ⟨w.heap.size, 0, none⟩) l.length l.length) l.length (A ++ R) ∧ LsIn wr ((l.take k).flatMap BoxD.lf) A fq ∧ fq.Nodup ∧ (∀ q ∈ fq, w.heap.size < q) ∧ Below w.heap.size w wr ∧ w.heap.size < wr.heap.size) (fun i _ => l.length - (intOf i).toNat)
  case atStart => exact ⟨0, [], xs0, [], by omega, rfl, by simp, hown1, ⟨rfl, rfl⟩, by simp, by simp, hb1, hlt1⟩
  case round =>
    obtain ⟨k, A, R, fq, hk, rfl, hA, hown, hin, hnd, hlow, hbr, hzr⟩ := hrel
    have hbr0 := hbr.size
    clear hown1 hb1 hlt1
    by_cases hlt : k < l.length
    · obtain ⟨b1, o1, rfl, hb1, hc1⟩ := HP.out.resolve_left (by intro h; subst h; simp at hlt)
      obtain ⟨s, hs⟩ : ∃ s, l[k]? = some s := ⟨_, List.getElem?_eq_getElem hlt⟩
      obtain ⟨v3, n3, x0, x1, x2, x3⟩ := hc1 k s hs
      have e0 : wr.cell? ⟨b1, o1 + k * 4, none⟩ = some (sv s.name) := (hbr.cell (p := ⟨b1, o1 + k * 4, none⟩) hb1).trans x0
      have e1 : wr.cell? ⟨b1, o1 + k * 4 + 1, none⟩ = some (.int .i64 s.validity) := (hbr.cell (p := ⟨b1, o1 + k * 4 + 1, none⟩) hb1).trans x1
      have e2 : wr.cell? ⟨b1, o1 + k * 4 + 2, none⟩ = some (.int .i64 s.next) := (hbr.cell (p := ⟨b1, o1 + k * 4 + 2, none⟩) hb1).trans x2
      have e3 : wr.cell? ⟨b1, o1 + k * 4 + 3, none⟩ = some (v3) := (hbr.cell (p := ⟨b1, o1 + k * 4 + 3, none⟩) hb1).trans x3
      have hsm := szLs_mem BoxD.lf (List.mem_of_getElem? hs)
      have CT := Lib.hid (toBox_g s v3 wr (LfRd.below hbr _ _ n3) (by have := HL.out; omega))
      have HTK := Lib.hid (flat_take_succ BoxD.lf hs)
      clear hc1 hs HP hsm x0 x1 x2 x3 n3
      go_wp2_with fail
      refine (CT.out).mono ?_
      rintro e w2 ⟨z3, f3, rfl, i3, nd, lo, b2⟩
      have hown2 := ownsRow_below hown b2
      have hin2 := LsIn.frame _ _ _ (fun q hq => b2.block q (LsIn.lt _ _ _ hin q hq)) hin
      have hqz : ∀ q ∈ fq, q < wr.heap.size := fun q hq => LsIn.lt _ _ _ hin q hq
      have hb2 := hbr.trans (b2.mono hbr0)
      have hz2 := b2.size
      obtain ⟨pv3, cv3, rfl⟩ := LfIn.slice i3
      obtain ⟨R1, R2, rfl, hR1⟩ := rest_split hown2.1 hA hlt
      obtain ⟨y0, y1, y2, y3, rfl⟩ : ∃ y0 y1 y2 y3, R1 = [y0, y1, y2, y3] := by
        match R1, hR1 with
        | [a0, a1, a2, a3], _ => exact ⟨a0, a1, a2, a3, rfl⟩
      simp only [List.cons_append, List.nil_append] at hown2
      clear hown hin b2 CT hR1 e0 e1 e2 e3
      have c0 : w2.cell? ⟨w.heap.size, k * 4, none⟩ = some y0 := own_cell (L := y0 :: y1 :: y2 :: y3 :: R2) hown2 hA 0 _ rfl
      have q0 : w2.frozen? ⟨w.heap.size, k * 4, none⟩ = false := own_free hown2 _
      have p0 : (w2.setCell ⟨w.heap.size, k * 4, none⟩ (sv s.name)).ownsRow w.heap.size 30 4 (.slice (some ⟨w.heap.size, 0, none⟩) l.length l.length) l.length (A ++ (sv s.name) :: y1 :: y2 :: y3 :: R2) := own_at (L := y0 :: y1 :: y2 :: y3 :: R2) hown2 hA 0 (sv s.name)
      have c1 : (w2.setCell ⟨w.heap.size, k * 4, none⟩ (sv s.name)).cell? ⟨w.heap.size, k * 4 + 1, none⟩ = some y1 := own_cell (L := (sv s.name) :: y1 :: y2 :: y3 :: R2) p0 hA 1 _ rfl
      have q1 : (w2.setCell ⟨w.heap.size, k * 4, none⟩ (sv s.name)).frozen? ⟨w.heap.size, k * 4 + 1, none⟩ = false := own_free p0 _
      have p1 : ((w2.setCell ⟨w.heap.size, k * 4, none⟩ (sv s.name)).setCell ⟨w.heap.size, k * 4 + 1, none⟩ (.int .i64 s.validity)).ownsRow w.heap.size 30 4 (.slice (some ⟨w.heap.size, 0, none⟩) l.length l.length) l.length (A ++ (sv s.name) :: (.int .i64 s.validity) :: y2 :: y3 :: R2) := own_at (L := (sv s.name) :: y1 :: y2 :: y3 :: R2) p0 hA 1 (.int .i64 s.validity)
      have c2 : ((w2.setCell ⟨w.heap.size, k * 4, none⟩ (sv s.name)).setCell ⟨w.heap.size, k * 4 + 1, none⟩ (.int .i64 s.validity)).cell? ⟨w.heap.size, k * 4 + 2, none⟩ = some y2 := own_cell (L := (sv s.name) :: (.int .i64 s.validity) :: y2 :: y3 :: R2) p1 hA 2 _ rfl
      have q2 : ((w2.setCell ⟨w.heap.size, k * 4, none⟩ (sv s.name)).setCell ⟨w.heap.size, k * 4 + 1, none⟩ (.int .i64 s.validity)).frozen? ⟨w.heap.size, k * 4 + 2, none⟩ = false := own_free p1 _
      have p2 : (((w2.setCell ⟨w.heap.size, k * 4, none⟩ (sv s.name)).setCell ⟨w.heap.size, k * 4 + 1, none⟩ (.int .i64 s.validity)).setCell ⟨w.heap.size, k * 4 + 2, none⟩ (.int .i64 s.next)).ownsRow w.heap.size 30 4 (.slice (some ⟨w.heap.size, 0, none⟩) l.length l.length) l.length (A ++ (sv s.name) :: (.int .i64 s.validity) :: (.int .i64 s.next) :: y3 :: R2) := own_at (L := (sv s.name) :: (.int .i64 s.validity) :: y2 :: y3 :: R2) p1 hA 2 (.int .i64 s.next)
      have c3 : (((w2.setCell ⟨w.heap.size, k * 4, none⟩ (sv s.name)).setCell ⟨w.heap.size, k * 4 + 1, none⟩ (.int .i64 s.validity)).setCell ⟨w.heap.size, k * 4 + 2, none⟩ (.int .i64 s.next)).cell? ⟨w.heap.size, k * 4 + 3, none⟩ = some y3 := own_cell (L := (sv s.name) :: (.int .i64 s.validity) :: (.int .i64 s.next) :: y3 :: R2) p2 hA 3 _ rfl
      have q3 : (((w2.setCell ⟨w.heap.size, k * 4, none⟩ (sv s.name)).setCell ⟨w.heap.size, k * 4 + 1, none⟩ (.int .i64 s.validity)).setCell ⟨w.heap.size, k * 4 + 2, none⟩ (.int .i64 s.next)).frozen? ⟨w.heap.size, k * 4 + 3, none⟩ = false := own_free p2 _
      have p3 : ((((w2.setCell ⟨w.heap.size, k * 4, none⟩ (sv s.name)).setCell ⟨w.heap.size, k * 4 + 1, none⟩ (.int .i64 s.validity)).setCell ⟨w.heap.size, k * 4 + 2, none⟩ (.int .i64 s.next)).setCell ⟨w.heap.size, k * 4 + 3, none⟩ (.slice pv3 s.msgs.length cv3)).ownsRow w.heap.size 30 4 (.slice (some ⟨w.heap.size, 0, none⟩) l.length l.length) l.length (A ++ (sv s.name) :: (.int .i64 s.validity) :: (.int .i64 s.next) :: (.slice pv3 s.msgs.length cv3) :: R2) := own_at (L := (sv s.name) :: (.int .i64 s.validity) :: (.int .i64 s.next) :: y3 :: R2) p2 hA 3 (.slice pv3 s.msgs.length cv3)
      have gs : GrownIn w2 ((((w2.setCell ⟨w.heap.size, k * 4, none⟩ (sv s.name)).setCell ⟨w.heap.size, k * 4 + 1, none⟩ (.int .i64 s.validity)).setCell ⟨w.heap.size, k * 4 + 2, none⟩ (.int .i64 s.next)).setCell ⟨w.heap.size, k * 4 + 3, none⟩ (.slice pv3 s.msgs.length cv3)) [w.heap.size] := ((((GrownIn.refl w2 [w.heap.size]).trans (GrownIn.set (by simp))).trans (GrownIn.set (by simp))).trans (GrownIn.set (by simp))).trans (GrownIn.set (by simp))
      have lo3 : ∀ q ∈ f3, wr.heap.size ≤ q := fun q hq => lo q (by simp [hq])
      have I3 := Lib.hid (LfIn.away i3 gs (fun q hq hm => by have := lo3 q hq; simp at hm; omega))
      have IA := Lib.hid (LsIn.apart hin2 gs (fun q hq hm => by have := hlow q hq; simp at hm; omega))
      have hb3 := GrownIn.below hb2 gs hb2.size (fun q hq => by simp at hq; omega)
      have hz3 : w.heap.size < ((((w2.setCell ⟨w.heap.size, k * 4, none⟩ (sv s.name)).setCell ⟨w.heap.size, k * 4 + 1, none⟩ (.int .i64 s.validity)).setCell ⟨w.heap.size, k * 4 + 2, none⟩ (.int .i64 s.next)).setCell ⟨w.heap.size, k * 4 + 3, none⟩ (.slice pv3 s.msgs.length cv3)).heap.size := Nat.lt_of_lt_of_le (Nat.lt_of_lt_of_le hzr hz2) gs.size
      have PP := Lib.hid p3
      clear hown2 hin2 hb2 gs p0 p1 p2 p3 i3
      go_wp2
      go_roundw
      case rel =>
        refine ⟨k + 1, A ++ [(sv s.name), (.int .i64 s.validity), (.int .i64 s.next), (.slice pv3 s.msgs.length cv3)], R2, fq ++ (f3), by omega, by go_num, by simp; omega, by simpa using PP.out, ?_, ?_, ?_, hb3, hz3⟩
        · rw [HTK.out]
          exact LsIn.append.2 ⟨A, _, fq, _, rfl, IA.out, BoxD.in_mk (h3 := I3.out), rfl⟩
        · exact List.nodup_append.2 ⟨hnd, nd, fun x hx y hy e => by have h1 := hqz x hx; have h2 := lo y hy; omega⟩
        · intro q hq
          rcases List.mem_append.1 hq with hq | hq
          · exact hlow q hq
          · have := lo q hq; omega
      case measure => simp [intOf]; omega
    · obtain rfl : k = l.length := by omega
      have hR0 : R = [] := by
        have := hown.1
        rw [List.length_append, hA] at this
        exact List.eq_nil_of_length_eq_zero (by omega)
      subst hR0
      rw [List.append_nil] at hown
      rw [List.take_length] at hin
      have hT : Tree wr w.heap.size (boxsLf l) (.slice (some ⟨w.heap.size, 0, none⟩) l.length l.length) (w.heap.size :: fq) := by
        refine ⟨⟨flat_lenM BoxD.len l, A, fq, own_base hown, hin, rfl⟩, List.nodup_cons.2 ⟨fun hm => by have := hlow _ hm; omega, hnd⟩, fun q hq => ?_⟩
        rcases List.mem_cons.1 hq with rfl | hq
        · exact Nat.le_refl _
        · exact Nat.le_of_lt (hlow q hq)
      have HT := Lib.hid hT
      clear hT hown hin hA
      go_wp2
      go_ret
      exact ⟨_, _, rfl, HT.out, hbr⟩

end Go.Proofs.Ytboinphhpfggnaa
