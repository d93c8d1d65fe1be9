/-
  The laws' helpers on records of the type Command (made by tools/typegen.py).
-/
import Derived.Test.YtidjebepgpbcnaaLg
import Derived.Test.YtidjebepgpbcnaaLgB
import Derived.Test.YtidjebepgpbcnaaTySpan
import Derived.Test.YtidjebepgpbcnaaTyFilter
import Derived.Handy
import Derived.IntWalk
namespace Go.Proofs.Ytidjebepgpbcnaa
open Go.RowKit

structure CmdD where
  tag : List UInt8
  kind : Int
  box : List UInt8
  to : List UInt8
  uid : Bool
  sset : List Spn
  op : Int
  flags : Int
  text : List UInt8
  filter : Flt

def CmdD.lf (x : CmdD) : List Lf := [.str x.tag, .int x.kind, .str x.box, .str x.to, .bool x.uid, spnsLf x.sset, .int x.op, .int x.flags, .str x.text, .bool x.filter.on, scpsLf x.filter.scopes]
theorem CmdD.len (x : CmdD) : x.lf.length = 11 := rfl
def commandsLf (l : List CmdD) : Lf := .rows 36 11 l.length (l.flatMap CmdD.lf)
theorem CmdD.fit (x : CmdD) : LsFit x.lf := ⟨trivial, trivial, trivial, trivial, trivial, spnsLf_fit x.sset, trivial, trivial, trivial, trivial, scpsLf_fit x.filter.scopes, trivial⟩
theorem commandsLf_fit (l : List CmdD) : LfFit (commandsLf l) := ⟨by omega, flat_lenM CmdD.len l, LsFit.flat CmdD.fit l⟩
theorem CmdD.sz (x : CmdD) : szLs x.lf = x.tag.length + x.box.length + x.to.length + szLf (spnsLf x.sset) + x.text.length + szLf (scpsLf x.filter.scopes) := by simp only [CmdD.lf, szLs, szLf_int, szLf_bool, szLf_str] <;> omega
theorem CmdD.cnt (x : CmdD) : cntLs x.lf = 1 + 1 + 1 + 1 + 1 + cntLf (spnsLf x.sset) + 1 + 1 + 1 + 1 + cntLf (scpsLf x.filter.scopes) := by simp only [CmdD.lf, cntLs, cntLf_int, cntLf_bool, cntLf_str] <;> omega
theorem CmdD.rd {W : World} {x : CmdD} {vs : List Value} : LsRd W x.lf vs ↔ ∃ r5, ∃ r10, vs = [sv x.tag, .int .i64 x.kind, sv x.box, sv x.to, .bool x.uid, r5, .int .i64 x.op, .int .i64 x.flags, sv x.text, .bool x.filter.on, r10] ∧ LfRd W (spnsLf x.sset) r5 ∧ LfRd W (scpsLf x.filter.scopes) r10 := by
  constructor
  · rintro ⟨a0, s0, rfl, h0, a1, s1, rfl, h1, a2, s2, rfl, h2, a3, s3, rfl, h3, a4, s4, rfl, h4, a5, s5, rfl, h5, a6, s6, rfl, h6, a7, s7, rfl, h7, a8, s8, rfl, h8, a9, s9, rfl, h9, a10, s10, rfl, h10, rfl⟩
    exact ⟨a5, a10, by rw [h0, h1, h2, h3, h4, h6, h7, h8, h9], h5, h10⟩
  · rintro ⟨r5, r10, rfl, h5, h10⟩
    exact ⟨_, _, rfl, rfl, _, _, rfl, rfl, _, _, rfl, rfl, _, _, rfl, rfl, _, _, rfl, rfl, _, _, rfl, h5, _, _, rfl, rfl, _, _, rfl, rfl, _, _, rfl, rfl, _, _, rfl, rfl, _, _, rfl, h10, rfl⟩
theorem CmdD.mark (x : CmdD) (k : Nat) : (markLs x.lf k).1 = [.str (markB (k)), .int ((k + 1 : Nat) : Int), .str (markB (k + 1 + 1)), .str (markB (k + 1 + 1 + 1)), .bool ((k + 1 + 1 + 1 + 1) % 3 == 0), (markLf (spnsLf x.sset) (k + 1 + 1 + 1 + 1 + 1)).1, .int ((k + 1 + 1 + 1 + 1 + 1 + cntLf (spnsLf x.sset) : Nat) : Int), .int ((k + 1 + 1 + 1 + 1 + 1 + cntLf (spnsLf x.sset) + 1 : Nat) : Int), .str (markB (k + 1 + 1 + 1 + 1 + 1 + cntLf (spnsLf x.sset) + 1 + 1)), .bool ((k + 1 + 1 + 1 + 1 + 1 + cntLf (spnsLf x.sset) + 1 + 1 + 1) % 3 == 0), (markLf (scpsLf x.filter.scopes) (k + 1 + 1 + 1 + 1 + 1 + cntLf (spnsLf x.sset) + 1 + 1 + 1 + 1)).1] := by simp only [CmdD.lf, markLs, markLf_int, markLf_bool, markLf_str, markLf_cnt]
theorem CmdD.rdm {W : World} {x : CmdD} {k : Nat} {vs : List Value} : LsRd W (markLs x.lf k).1 vs ↔ ∃ r5, ∃ r10, vs = [sv (markB (k)), .int .i64 ((k + 1 : Nat) : Int), sv (markB (k + 1 + 1)), sv (markB (k + 1 + 1 + 1)), .bool ((k + 1 + 1 + 1 + 1) % 3 == 0), r5, .int .i64 ((k + 1 + 1 + 1 + 1 + 1 + cntLf (spnsLf x.sset) : Nat) : Int), .int .i64 ((k + 1 + 1 + 1 + 1 + 1 + cntLf (spnsLf x.sset) + 1 : Nat) : Int), sv (markB (k + 1 + 1 + 1 + 1 + 1 + cntLf (spnsLf x.sset) + 1 + 1)), .bool ((k + 1 + 1 + 1 + 1 + 1 + cntLf (spnsLf x.sset) + 1 + 1 + 1) % 3 == 0), r10] ∧ LfRd W (markLf (spnsLf x.sset) (k + 1 + 1 + 1 + 1 + 1)).1 r5 ∧ LfRd W (markLf (scpsLf x.filter.scopes) (k + 1 + 1 + 1 + 1 + 1 + cntLf (spnsLf x.sset) + 1 + 1 + 1 + 1)).1 r10 := by
  rw [CmdD.mark]
  constructor
  · rintro ⟨a0, s0, rfl, h0, a1, s1, rfl, h1, a2, s2, rfl, h2, a3, s3, rfl, h3, a4, s4, rfl, h4, a5, s5, rfl, h5, a6, s6, rfl, h6, a7, s7, rfl, h7, a8, s8, rfl, h8, a9, s9, rfl, h9, a10, s10, rfl, h10, rfl⟩
    exact ⟨a5, a10, by rw [h0, h1, h2, h3, h4, h6, h7, h8, h9], h5, h10⟩
  · rintro ⟨r5, r10, rfl, h5, h10⟩
    exact ⟨_, _, rfl, rfl, _, _, rfl, rfl, _, _, rfl, rfl, _, _, rfl, rfl, _, _, rfl, rfl, _, _, rfl, h5, _, _, rfl, rfl, _, _, rfl, rfl, _, _, rfl, rfl, _, _, rfl, rfl, _, _, rfl, h10, rfl⟩
theorem CmdD.in_of {W : World} {z0 : List UInt8} {z1 : Int} {z2 : List UInt8} {z3 : List UInt8} {z4 : Bool} {z5 : Lf} {z6 : Int} {z7 : Int} {z8 : List UInt8} {z9 : Bool} {z10 : Lf} {vs : List Value} {fp : List Nat} (h : LsIn W [.str z0, .int z1, .str z2, .str z3, .bool z4, z5, .int z6, .int z7, .str z8, .bool z9, z10] vs fp) : ∃ r5 f5, ∃ r10 f10, vs = [sv z0, .int .i64 z1, sv z2, sv z3, .bool z4, r5, .int .i64 z6, .int .i64 z7, sv z8, .bool z9, r10] ∧ LfIn W z5 r5 f5 ∧ LfIn W z10 r10 f10 ∧ fp = f5 ++ f10 := by
  obtain ⟨a0, s0, f0, g0, rfl, h0, ⟨a1, s1, f1, g1, rfl, h1, ⟨a2, s2, f2, g2, rfl, h2, ⟨a3, s3, f3, g3, rfl, h3, ⟨a4, s4, f4, g4, rfl, h4, ⟨a5, s5, f5, g5, rfl, h5, ⟨a6, s6, f6, g6, rfl, h6, ⟨a7, s7, f7, g7, rfl, h7, ⟨a8, s8, f8, g8, rfl, h8, ⟨a9, s9, f9, g9, rfl, h9, ⟨a10, s10, f10, g10, rfl, h10, ⟨rfl, rfl⟩, rfl⟩, rfl⟩, rfl⟩, rfl⟩, rfl⟩, rfl⟩, rfl⟩, rfl⟩, rfl⟩, rfl⟩, rfl⟩ := h
  exact ⟨a5, f5, a10, f10, by rw [h0.1, h1.1, h2.1, h3.1, h4.1, h6.1, h7.1, h8.1, h9.1], h5, h10, by rw [h0.2, h1.2, h2.2, h3.2, h4.2, h6.2, h7.2, h8.2, h9.2]; simp⟩
theorem CmdD.in_mk {W : World} {z0 : List UInt8} {z1 : Int} {z2 : List UInt8} {z3 : List UInt8} {z4 : Bool} {z5 : Lf} {z6 : Int} {z7 : Int} {z8 : List UInt8} {z9 : Bool} {z10 : Lf} {r5 : Value} {f5 : List Nat} (h5 : LfIn W z5 r5 f5) {r10 : Value} {f10 : List Nat} (h10 : LfIn W z10 r10 f10) : LsIn W [.str z0, .int z1, .str z2, .str z3, .bool z4, z5, .int z6, .int z7, .str z8, .bool z9, z10] [sv z0, .int .i64 z1, sv z2, sv z3, .bool z4, r5, .int .i64 z6, .int .i64 z7, sv z8, .bool z9, r10] (f5 ++ f10) := by
  have h : LsIn W [.str z0, .int z1, .str z2, .str z3, .bool z4, z5, .int z6, .int z7, .str z8, .bool z9, z10] [sv z0, .int .i64 z1, sv z2, sv z3, .bool z4, r5, .int .i64 z6, .int .i64 z7, sv z8, .bool z9, r10] ([] ++ ([] ++ ([] ++ ([] ++ ([] ++ (f5 ++ ([] ++ ([] ++ ([] ++ ([] ++ (f10 ++ ([])))))))))))) := ⟨_, _, [], _, rfl, ⟨rfl, rfl⟩, ⟨_, _, [], _, rfl, ⟨rfl, rfl⟩, ⟨_, _, [], _, rfl, ⟨rfl, rfl⟩, ⟨_, _, [], _, rfl, ⟨rfl, rfl⟩, ⟨_, _, [], _, rfl, ⟨rfl, rfl⟩, ⟨_, _, f5, _, rfl, h5, ⟨_, _, [], _, rfl, ⟨rfl, rfl⟩, ⟨_, _, [], _, rfl, ⟨rfl, rfl⟩, ⟨_, _, [], _, rfl, ⟨rfl, rfl⟩, ⟨_, _, [], _, rfl, ⟨rfl, rfl⟩, ⟨_, _, f10, _, rfl, h10, ⟨rfl, rfl⟩, rfl⟩, rfl⟩, rfl⟩, rfl⟩, rfl⟩, rfl⟩, rfl⟩, rfl⟩, rfl⟩, rfl⟩, rfl⟩
  simpa using h

theorem CmdD.at {W : World} {l : List CmdD} {v : Value} (h : LfRd W (commandsLf l) v) : ∃ p cap, v = .slice p l.length cap ∧ (l = [] ∨ ∃ b off, p = some ⟨b, off, none⟩ ∧ b < W.heap.size ∧ ∀ i x, l[i]? = some x → ∃ r5, ∃ r10, LfRd W (spnsLf x.sset) r5 ∧ LfRd W (scpsLf x.filter.scopes) r10 ∧ W.cell? ⟨b, off + i * 11, none⟩ = some (sv x.tag) ∧ W.cell? ⟨b, off + i * 11 + 1, none⟩ = some (.int .i64 x.kind) ∧ W.cell? ⟨b, off + i * 11 + 2, none⟩ = some (sv x.box) ∧ W.cell? ⟨b, off + i * 11 + 3, none⟩ = some (sv x.to) ∧ W.cell? ⟨b, off + i * 11 + 4, none⟩ = some (.bool x.uid) ∧ W.cell? ⟨b, off + i * 11 + 5, none⟩ = some (r5) ∧ W.cell? ⟨b, off + i * 11 + 6, none⟩ = some (.int .i64 x.op) ∧ W.cell? ⟨b, off + i * 11 + 7, none⟩ = some (.int .i64 x.flags) ∧ W.cell? ⟨b, off + i * 11 + 8, none⟩ = some (sv x.text) ∧ W.cell? ⟨b, off + i * 11 + 9, none⟩ = some (.bool x.filter.on) ∧ W.cell? ⟨b, off + i * 11 + 10, none⟩ = some (r10)) := by
  obtain ⟨p, cap, hv, hc⟩ := rows_at CmdD.len h
  refine ⟨p, cap, hv, hc.imp id fun ⟨b, off, hp, hlt, hc⟩ => ⟨b, off, hp, hlt, fun i x hi => ?_⟩⟩
  obtain ⟨us, h1, h2⟩ := hc i x hi
  obtain ⟨r5, r10, rfl, k5, k10⟩ := CmdD.rd.1 h1
  exact ⟨r5, r10, k5, k10, h2 0 _ rfl, h2 1 _ rfl, h2 2 _ rfl, h2 3 _ rfl, h2 4 _ rfl, h2 5 _ rfl, h2 6 _ rfl, h2 7 _ rfl, h2 8 _ rfl, h2 9 _ rfl, h2 10 _ rfl⟩
theorem CmdD.atm {W : World} {l : List CmdD} {v : Value} {k0 : Nat} (h : LfRd W (markLf (commandsLf l) k0).1 v) : ∃ p cap, v = .slice p l.length cap ∧ (l = [] ∨ ∃ b off, p = some ⟨b, off, none⟩ ∧ b < W.heap.size ∧ ∀ i x k, l[i]? = some x → k = k0 + cntLs ((l.take i).flatMap CmdD.lf) → ∃ r5, ∃ r10, LfRd W (markLf (spnsLf x.sset) (k + 1 + 1 + 1 + 1 + 1)).1 r5 ∧ LfRd W (markLf (scpsLf x.filter.scopes) (k + 1 + 1 + 1 + 1 + 1 + cntLf (spnsLf x.sset) + 1 + 1 + 1 + 1)).1 r10 ∧ W.cell? ⟨b, off + i * 11, none⟩ = some (sv (markB (k))) ∧ W.cell? ⟨b, off + i * 11 + 1, none⟩ = some (.int .i64 ((k + 1 : Nat) : Int)) ∧ W.cell? ⟨b, off + i * 11 + 2, none⟩ = some (sv (markB (k + 1 + 1))) ∧ W.cell? ⟨b, off + i * 11 + 3, none⟩ = some (sv (markB (k + 1 + 1 + 1))) ∧ W.cell? ⟨b, off + i * 11 + 4, none⟩ = some (.bool ((k + 1 + 1 + 1 + 1) % 3 == 0)) ∧ W.cell? ⟨b, off + i * 11 + 5, none⟩ = some (r5) ∧ W.cell? ⟨b, off + i * 11 + 6, none⟩ = some (.int .i64 ((k + 1 + 1 + 1 + 1 + 1 + cntLf (spnsLf x.sset) : Nat) : Int)) ∧ W.cell? ⟨b, off + i * 11 + 7, none⟩ = some (.int .i64 ((k + 1 + 1 + 1 + 1 + 1 + cntLf (spnsLf x.sset) + 1 : Nat) : Int)) ∧ W.cell? ⟨b, off + i * 11 + 8, none⟩ = some (sv (markB (k + 1 + 1 + 1 + 1 + 1 + cntLf (spnsLf x.sset) + 1 + 1))) ∧ W.cell? ⟨b, off + i * 11 + 9, none⟩ = some (.bool ((k + 1 + 1 + 1 + 1 + 1 + cntLf (spnsLf x.sset) + 1 + 1 + 1) % 3 == 0)) ∧ W.cell? ⟨b, off + i * 11 + 10, none⟩ = some (r10)) := by
  obtain ⟨p, cap, hv, hc⟩ := rows_at_mark CmdD.len h
  refine ⟨p, cap, hv, hc.imp id fun ⟨b, off, hp, hlt, hc⟩ => ⟨b, off, hp, hlt, fun i x k hi hk => ?_⟩⟩
  obtain ⟨us, h1, h2⟩ := hc i x hi
  rw [← hk] at h1
  obtain ⟨r5, r10, rfl, k5, k10⟩ := CmdD.rdm.1 h1
  exact ⟨r5, r10, k5, k10, h2 0 _ rfl, h2 1 _ rfl, h2 2 _ rfl, h2 3 _ rfl, h2 4 _ rfl, h2 5 _ rfl, h2 6 _ rfl, h2 7 _ rfl, h2 8 _ rfl, h2 9 _ rfl, h2 10 _ rfl⟩

set_option maxHeartbeats 1600000 in
theorem szCommand_g (x : CmdD) (r5 : Value) (r10 : Value) (ll : Int) (left : Nat) (hll : ll = (left : Int)) (w : World) (h5 : LfRd w (spnsLf x.sset) r5) (h10 : LfRd w (scpsLf x.filter.scopes) r10) (hin : LsBnd x.lf) (hL : left ≤ 1000000000000) :
    Calls Try.prog 9 #[.agg #[sv x.tag, .int .i64 x.kind, sv x.box, sv x.to, .bool x.uid, r5, .int .i64 x.op, .int .i64 x.flags, sv x.text, .bool x.filter.on, r10], .int .i64 ll] w fun e w' => e = .returned (.int .i64 (szN left (szLs x.lf))) ∧ Below w.heap.size w w' := by
  subst hll
  have hr5 := h5
  have hr10 := h10
  obtain ⟨p5, c5, rfl⟩ := LfRd.slice h5
  obtain ⟨p10, c10, rfl⟩ := LfRd.slice h10
  have hb1 : Below w.heap.size w (w.alloc (.cells #[sv x.tag, .int .i64 x.kind, sv x.box, sv x.to, .bool x.uid, (.slice p5 x.sset.length c5), .int .i64 x.op, .int .i64 x.flags, sv x.text, .bool x.filter.on, (.slice p10 x.filter.scopes.length c10)] 28)) := (Below.refl _ _).alloc (Nat.le_refl _) _
  have HA1 := Lib.hid (heap_alloc_new w (.cells #[sv x.tag, .int .i64 x.kind, sv x.box, sv x.to, .bool x.uid, (.slice p5 x.sset.length c5), .int .i64 x.op, .int .i64 x.flags, sv x.text, .bool x.filter.on, (.slice p10 x.filter.scopes.length c10)] 28))
  have hsz := CmdD.sz x
  have bn_0 : x.tag.length ≤ 9223372036854775807 := hin.1
  have bz_0 : (ByteArray.mk x.tag.toArray).size = x.tag.length := by show x.tag.toArray.size = _; simp
  have bn_2 : x.box.length ≤ 9223372036854775807 := hin.2.2.1
  have bz_2 : (ByteArray.mk x.box.toArray).size = x.box.length := by show x.box.toArray.size = _; simp
  have bn_3 : x.to.length ≤ 9223372036854775807 := hin.2.2.2.1
  have bz_3 : (ByteArray.mk x.to.toArray).size = x.to.length := by show x.to.toArray.size = _; simp
  have bi_5 : LfBnd (spnsLf x.sset) := hin.2.2.2.2.2.1
  have bn_8 : x.text.length ≤ 9223372036854775807 := hin.2.2.2.2.2.2.2.2.1
  have bz_8 : (ByteArray.mk x.text.toArray).size = x.text.length := by show x.text.toArray.size = _; simp
  have bi_9 : LsBnd x.filter.lf := ⟨hin.2.2.2.2.2.2.2.2.2.1, hin.2.2.2.2.2.2.2.2.2.2.1, trivial⟩
  have hsz_9 := Flt.sz x.filter
  clear hin
  by_cases k0 : x.tag.length ≤ left
  · obtain ⟨L1, hL1⟩ : ∃ L, L + x.tag.length = left := ⟨left - x.tag.length, by omega⟩
    have n0 : ¬ (left : Int) - (x.tag.length : Int) < 0 := by omega
    have bL1 : L1 ≤ 1000000000000 := by omega
    have HL1 := Lib.hid hL1
    by_cases k1 : x.box.length ≤ L1
    · obtain ⟨L2, hL2⟩ : ∃ L, L + x.box.length = L1 := ⟨L1 - x.box.length, by omega⟩
      have n1 : ¬ (left : Int) - (x.tag.length : Int) - (x.box.length : Int) < 0 := by omega
      have bL2 : L2 ≤ 1000000000000 := by omega
      have HL2 := Lib.hid hL2
      by_cases k2 : x.to.length ≤ L2
      · obtain ⟨L3, hL3⟩ : ∃ L, L + x.to.length = L2 := ⟨L2 - x.to.length, by omega⟩
        have n2 : ¬ (left : Int) - (x.tag.length : Int) - (x.box.length : Int) - (x.to.length : Int) < 0 := by omega
        have bL3 : L3 ≤ 1000000000000 := by omega
        have HL3 := Lib.hid hL3
        by_cases k3 : szLf (spnsLf x.sset) ≤ L3
        · obtain ⟨L4, hL4⟩ : ∃ L, L + szLf (spnsLf x.sset) = L3 := ⟨L3 - szLf (spnsLf x.sset), by omega⟩
          have q5 := fun (ll : Int) (W : World) (hl : ll = (L3 : Int)) (g : LfRd W (spnsLf x.sset) (.slice p5 x.sset.length c5)) => szSpanS_g (.slice p5 x.sset.length c5) x.sset ll L3 hl W g bi_5 (by omega)
          simp only [show szN L3 (szLf (spnsLf x.sset)) = (L4 : Int) from by rw [szN_yes k3]; omega] at q5
          have C5 := Lib.hid q5
          clear q5
          have n3 : ¬ (L4 : Int) < 0 := by omega
          have bL4 : L4 ≤ 1000000000000 := by omega
          have HL4 := Lib.hid hL4
          by_cases k4 : x.text.length ≤ L4
          · obtain ⟨L5, hL5⟩ : ∃ L, L + x.text.length = L4 := ⟨L4 - x.text.length, by omega⟩
            have n4 : ¬ (L4 : Int) - (x.text.length : Int) < 0 := by omega
            have bL5 : L5 ≤ 1000000000000 := by omega
            have HL5 := Lib.hid hL5
            by_cases k5 : szLs x.filter.lf ≤ L5
            · obtain ⟨L6, hL6⟩ : ∃ L, L + szLs x.filter.lf = L5 := ⟨L5 - szLs x.filter.lf, by omega⟩
              have q9 := fun (ll : Int) (W : World) (hl : ll = (L5 : Int)) (g10 : LfRd W (scpsLf x.filter.scopes) (.slice p10 x.filter.scopes.length c10)) => szFilter_g x.filter (.slice p10 x.filter.scopes.length c10) ll L5 hl W g10 bi_9 (by omega)
              simp only [show szN L5 (szLs x.filter.lf) = (L6 : Int) from by rw [szN_yes k5]; omega] at q9
              have C9 := Lib.hid q9
              clear q9
              have n5 : ¬ (L6 : Int) < 0 := by omega
              have bL6 : L6 ≤ 1000000000000 := by omega
              have HL6 := Lib.hid hL6
              have HV := Lib.hid (show szN left (szLs x.lf) = (L6 : Int) by rw [hsz, szN_yes (by omega)]; omega)
              clear hsz hL1 hL2 hL3 hL4 hL5 hL6
               hsz_9
              go_enter Try.func9, Try.ntmps9
              go_wp2_with fail
              refine (C5.out _ _ (by have e1 := HL1.out; have e2 := HL2.out; have e3 := HL3.out; have e4 := HL4.out; have e5 := HL5.out; have e6 := HL6.out; omega) (LfRd.below hb1 _ _ hr5)).mono ?_
              rintro e w2 ⟨rfl, b2⟩
              have hb2 := hb1.trans (b2.mono hb1.size)
              have HA2 := Lib.hid ((b2.block w.heap.size (by simp)).trans HA1.out)
              have hz2 : w.heap.size < w2.heap.size := (Array.getElem?_eq_some_iff.1 HA2.out).1
              have y2_8 := (Lib.cell_of_heap HA2.out 8).trans (show _ = some (sv x.text) from rfl)
              have y2_9 := (Lib.cell_of_heap HA2.out 9).trans (show _ = some (.bool x.filter.on) from rfl)
              have y2_10 := (Lib.cell_of_heap HA2.out 10).trans (show _ = some ((.slice p10 x.filter.scopes.length c10)) from rfl)
              go_wp2_with fail
              refine (C9.out _ _ (by have e1 := HL1.out; have e2 := HL2.out; have e3 := HL3.out; have e4 := HL4.out; have e5 := HL5.out; have e6 := HL6.out; omega) (LfRd.below hb2 _ _ hr10)).mono ?_
              rintro e w3 ⟨rfl, b3⟩
              have hb3 := hb2.trans (b3.mono hb2.size)
              have HA3 := Lib.hid ((b3.block w.heap.size (by have := hz2; omega)).trans HA2.out)
              have hz3 : w.heap.size < w3.heap.size := (Array.getElem?_eq_some_iff.1 HA3.out).1
              clear y2_9 y2_10
              go_wp2
              go_ret
              exact ⟨by rw [HV.out]; rfl, hb3⟩
            · have HV := Lib.hid (show szN left (szLs x.lf) = -1 by rw [hsz]; exact szN_no (by omega))
              have q9 := fun (ll : Int) (W : World) (hl : ll = (L5 : Int)) (g10 : LfRd W (scpsLf x.filter.scopes) (.slice p10 x.filter.scopes.length c10)) => szFilter_g x.filter (.slice p10 x.filter.scopes.length c10) ll L5 hl W g10 bi_9 (by omega)
              simp only [show szN L5 (szLs x.filter.lf) = -1 from szN_no k5] at q9
              have C9 := Lib.hid q9
              clear q9
              clear hsz hL1 hL2 hL3 hL4 hL5
               hsz_9
              go_enter Try.func9, Try.ntmps9
              go_wp2_with fail
              refine (C5.out _ _ (by have e1 := HL1.out; have e2 := HL2.out; have e3 := HL3.out; have e4 := HL4.out; have e5 := HL5.out; omega) (LfRd.below hb1 _ _ hr5)).mono ?_
              rintro e w2 ⟨rfl, b2⟩
              have hb2 := hb1.trans (b2.mono hb1.size)
              have HA2 := Lib.hid ((b2.block w.heap.size (by simp)).trans HA1.out)
              have hz2 : w.heap.size < w2.heap.size := (Array.getElem?_eq_some_iff.1 HA2.out).1
              have y2_8 := (Lib.cell_of_heap HA2.out 8).trans (show _ = some (sv x.text) from rfl)
              have y2_9 := (Lib.cell_of_heap HA2.out 9).trans (show _ = some (.bool x.filter.on) from rfl)
              have y2_10 := (Lib.cell_of_heap HA2.out 10).trans (show _ = some ((.slice p10 x.filter.scopes.length c10)) from rfl)
              go_wp2_with fail
              refine (C9.out _ _ (by have e1 := HL1.out; have e2 := HL2.out; have e3 := HL3.out; have e4 := HL4.out; have e5 := HL5.out; omega) (LfRd.below hb2 _ _ hr10)).mono ?_
              rintro e w3 ⟨rfl, b3⟩
              have hb3 := hb2.trans (b3.mono hb2.size)
              have HA3 := Lib.hid ((b3.block w.heap.size (by have := hz2; omega)).trans HA2.out)
              have hz3 : w.heap.size < w3.heap.size := (Array.getElem?_eq_some_iff.1 HA3.out).1
              clear y2_9 y2_10
              go_wp2
              go_ret
              exact ⟨by rw [HV.out]; rfl, hb3⟩
          · have HV := Lib.hid (show szN left (szLs x.lf) = -1 by rw [hsz]; exact szN_no (by omega))
            have n4 : (L4 : Int) - (x.text.length : Int) < 0 := by omega
            clear hsz hL1 hL2 hL3 hL4
             hsz_9
            go_enter Try.func9, Try.ntmps9
            go_wp2_with fail
            refine (C5.out _ _ (by have e1 := HL1.out; have e2 := HL2.out; have e3 := HL3.out; have e4 := HL4.out; omega) (LfRd.below hb1 _ _ hr5)).mono ?_
            rintro e w2 ⟨rfl, b2⟩
            have hb2 := hb1.trans (b2.mono hb1.size)
            have HA2 := Lib.hid ((b2.block w.heap.size (by simp)).trans HA1.out)
            have hz2 : w.heap.size < w2.heap.size := (Array.getElem?_eq_some_iff.1 HA2.out).1
            have y2_8 := (Lib.cell_of_heap HA2.out 8).trans (show _ = some (sv x.text) from rfl)
            have y2_9 := (Lib.cell_of_heap HA2.out 9).trans (show _ = some (.bool x.filter.on) from rfl)
            have y2_10 := (Lib.cell_of_heap HA2.out 10).trans (show _ = some ((.slice p10 x.filter.scopes.length c10)) from rfl)
            go_wp2
            go_ret
            exact ⟨by rw [HV.out]; rfl, hb2⟩
        · have HV := Lib.hid (show szN left (szLs x.lf) = -1 by rw [hsz]; exact szN_no (by omega))
          have q5 := fun (ll : Int) (W : World) (hl : ll = (L3 : Int)) (g : LfRd W (spnsLf x.sset) (.slice p5 x.sset.length c5)) => szSpanS_g (.slice p5 x.sset.length c5) x.sset ll L3 hl W g bi_5 (by omega)
          simp only [show szN L3 (szLf (spnsLf x.sset)) = -1 from szN_no k3] at q5
          have C5 := Lib.hid q5
          clear q5
          clear hsz hL1 hL2 hL3
           hsz_9
          go_enter Try.func9, Try.ntmps9
          go_wp2_with fail
          refine (C5.out _ _ (by have e1 := HL1.out; have e2 := HL2.out; have e3 := HL3.out; omega) (LfRd.below hb1 _ _ hr5)).mono ?_
          rintro e w2 ⟨rfl, b2⟩
          have hb2 := hb1.trans (b2.mono hb1.size)
          have HA2 := Lib.hid ((b2.block w.heap.size (by simp)).trans HA1.out)
          have hz2 : w.heap.size < w2.heap.size := (Array.getElem?_eq_some_iff.1 HA2.out).1
          have y2_8 := (Lib.cell_of_heap HA2.out 8).trans (show _ = some (sv x.text) from rfl)
          have y2_9 := (Lib.cell_of_heap HA2.out 9).trans (show _ = some (.bool x.filter.on) from rfl)
          have y2_10 := (Lib.cell_of_heap HA2.out 10).trans (show _ = some ((.slice p10 x.filter.scopes.length c10)) from rfl)
          go_wp2
          go_ret
          exact ⟨by rw [HV.out]; rfl, hb2⟩
      · have HV := Lib.hid (show szN left (szLs x.lf) = -1 by rw [hsz]; exact szN_no (by omega))
        have n2 : (left : Int) - (x.tag.length : Int) - (x.box.length : Int) - (x.to.length : Int) < 0 := by omega
        clear hsz hL1 hL2
         hsz_9
        go_enter Try.func9, Try.ntmps9
        go_wp2
        go_ret
        exact ⟨by rw [HV.out]; rfl, hb1⟩
    · have HV := Lib.hid (show szN left (szLs x.lf) = -1 by rw [hsz]; exact szN_no (by omega))
      have n1 : (left : Int) - (x.tag.length : Int) - (x.box.length : Int) < 0 := by omega
      clear hsz hL1
       hsz_9
      go_enter Try.func9, Try.ntmps9
      go_wp2
      go_ret
      exact ⟨by rw [HV.out]; rfl, hb1⟩
  · have HV := Lib.hid (show szN left (szLs x.lf) = -1 by rw [hsz]; exact szN_no (by omega))
    have n0 : (left : Int) - (x.tag.length : Int) < 0 := by omega
    clear hsz
     hsz_9
    go_enter Try.func9, Try.ntmps9
    go_wp2
    go_ret
    exact ⟨by rw [HV.out]; rfl, hb1⟩

set_option maxHeartbeats 1600000 in
theorem eqCommand_g (x : CmdD) (ra5 rb5 : Value) (ra10 rb10 : Value) (w : World) (ha5 : LfRd w (spnsLf x.sset) ra5) (hb5 : LfRd w (spnsLf x.sset) rb5) (ha10 : LfRd w (scpsLf x.filter.scopes) ra10) (hb10 : LfRd w (scpsLf x.filter.scopes) rb10) (hs : szLs x.lf ≤ 1000000000000) :
    Calls Try.prog 13 #[.agg #[sv x.tag, .int .i64 x.kind, sv x.box, sv x.to, .bool x.uid, ra5, .int .i64 x.op, .int .i64 x.flags, sv x.text, .bool x.filter.on, ra10], .agg #[sv x.tag, .int .i64 x.kind, sv x.box, sv x.to, .bool x.uid, rb5, .int .i64 x.op, .int .i64 x.flags, sv x.text, .bool x.filter.on, rb10]] w fun e w' => e = .returned (.bool true) ∧ Below w.heap.size w w' := by
  have ne_uid : (x.uid != x.uid) = false := by simp
  have ne_filter_on : (x.filter.on != x.filter.on) = false := by simp
  have hra5 := ha5
  have hrb5 := hb5
  have hra10 := ha10
  have hrb10 := hb10
  obtain ⟨p5a, c5a, rfl⟩ := LfRd.slice ha5
  obtain ⟨p5b, c5b, rfl⟩ := LfRd.slice hb5
  obtain ⟨p10a, c10a, rfl⟩ := LfRd.slice ha10
  obtain ⟨p10b, c10b, rfl⟩ := LfRd.slice hb10
  have hb1 : Below w.heap.size w ((w.alloc (.cells #[sv x.tag, .int .i64 x.kind, sv x.box, sv x.to, .bool x.uid, (.slice p5a x.sset.length c5a), .int .i64 x.op, .int .i64 x.flags, sv x.text, .bool x.filter.on, (.slice p10a x.filter.scopes.length c10a)] 36)).alloc (.cells #[sv x.tag, .int .i64 x.kind, sv x.box, sv x.to, .bool x.uid, (.slice p5b x.sset.length c5b), .int .i64 x.op, .int .i64 x.flags, sv x.text, .bool x.filter.on, (.slice p10b x.filter.scopes.length c10b)] 36)) := ((Below.refl _ _).alloc (Nat.le_refl _) _).alloc (by simp) _
  have HA1 := Lib.hid (show ((w.alloc (.cells #[sv x.tag, .int .i64 x.kind, sv x.box, sv x.to, .bool x.uid, (.slice p5a x.sset.length c5a), .int .i64 x.op, .int .i64 x.flags, sv x.text, .bool x.filter.on, (.slice p10a x.filter.scopes.length c10a)] 36)).alloc (.cells #[sv x.tag, .int .i64 x.kind, sv x.box, sv x.to, .bool x.uid, (.slice p5b x.sset.length c5b), .int .i64 x.op, .int .i64 x.flags, sv x.text, .bool x.filter.on, (.slice p10b x.filter.scopes.length c10b)] 36)).heap[w.heap.size]? = some (.cells #[sv x.tag, .int .i64 x.kind, sv x.box, sv x.to, .bool x.uid, (.slice p5a x.sset.length c5a), .int .i64 x.op, .int .i64 x.flags, sv x.text, .bool x.filter.on, (.slice p10a x.filter.scopes.length c10a)] 36 (0, 0)) from (Below.heap_alloc _ _ _ (by simp)).trans (heap_alloc_new w _))
  have HB1 := Lib.hid (show ((w.alloc (.cells #[sv x.tag, .int .i64 x.kind, sv x.box, sv x.to, .bool x.uid, (.slice p5a x.sset.length c5a), .int .i64 x.op, .int .i64 x.flags, sv x.text, .bool x.filter.on, (.slice p10a x.filter.scopes.length c10a)] 36)).alloc (.cells #[sv x.tag, .int .i64 x.kind, sv x.box, sv x.to, .bool x.uid, (.slice p5b x.sset.length c5b), .int .i64 x.op, .int .i64 x.flags, sv x.text, .bool x.filter.on, (.slice p10b x.filter.scopes.length c10b)] 36)).heap[w.heap.size + 1]? = some (.cells #[sv x.tag, .int .i64 x.kind, sv x.box, sv x.to, .bool x.uid, (.slice p5b x.sset.length c5b), .int .i64 x.op, .int .i64 x.flags, sv x.text, .bool x.filter.on, (.slice p10b x.filter.scopes.length c10b)] 36 (0, 0)) from by
    have := heap_alloc_new (w.alloc (.cells #[sv x.tag, .int .i64 x.kind, sv x.box, sv x.to, .bool x.uid, (.slice p5a x.sset.length c5a), .int .i64 x.op, .int .i64 x.flags, sv x.text, .bool x.filter.on, (.slice p10a x.filter.scopes.length c10a)] 36)) (.cells #[sv x.tag, .int .i64 x.kind, sv x.box, sv x.to, .bool x.uid, (.slice p5b x.sset.length c5b), .int .i64 x.op, .int .i64 x.flags, sv x.text, .bool x.filter.on, (.slice p10b x.filter.scopes.length c10b)] 36)
    rwa [World.size_alloc] at this)
  have hz1 : ((w.alloc (.cells #[sv x.tag, .int .i64 x.kind, sv x.box, sv x.to, .bool x.uid, (.slice p5a x.sset.length c5a), .int .i64 x.op, .int .i64 x.flags, sv x.text, .bool x.filter.on, (.slice p10a x.filter.scopes.length c10a)] 36)).alloc (.cells #[sv x.tag, .int .i64 x.kind, sv x.box, sv x.to, .bool x.uid, (.slice p5b x.sset.length c5b), .int .i64 x.op, .int .i64 x.flags, sv x.text, .bool x.filter.on, (.slice p10b x.filter.scopes.length c10b)] 36)).heap.size = w.heap.size + 2 := by simp
  have HZ1 := Lib.hid (Nat.le_of_eq hz1.symm)
  clear hz1
  have hsz := CmdD.sz x
  have hsz_9 := Flt.sz x.filter
  have C5 := Lib.hid (fun W (g : LfRd W (spnsLf x.sset) (.slice p5a x.sset.length c5a)) (g2 : LfRd W (spnsLf x.sset) (.slice p5b x.sset.length c5b)) => eqSpanS_g _ _ x.sset W g g2 (by omega))
  have C9 := Lib.hid (fun W (g10 : LfRd W (scpsLf x.filter.scopes) (.slice p10a x.filter.scopes.length c10a)) (k10 : LfRd W (scpsLf x.filter.scopes) (.slice p10b x.filter.scopes.length c10b)) => eqFilter_g x.filter (.slice p10a x.filter.scopes.length c10a) (.slice p10b x.filter.scopes.length c10b) W g10 k10 (by omega))
  clear hs hsz hsz_9
  go_enter Try.func13, Try.ntmps13
  go_wp2_with fail
  refine (C5.out _ (LfRd.below hb1 _ _ hra5) (LfRd.below hb1 _ _ hrb5)).mono ?_
  rintro e w2 ⟨rfl, b2⟩
  have hb2 := hb1.trans (b2.mono hb1.size)
  have HZ2 := Lib.hid (Nat.le_trans HZ1.out b2.size)
  have HA2 := Lib.hid ((b2.block w.heap.size (by have := HZ1.out; omega)).trans HA1.out)
  have HB2 := Lib.hid ((b2.block (w.heap.size + 1) (by have := HZ1.out; omega)).trans HB1.out)
  have y2_6 := (Lib.cell_of_heap HA2.out 6).trans (show _ = some (.int .i64 x.op) from rfl)
  have z2_6 := (Lib.cell_of_heap HB2.out 6).trans (show _ = some (.int .i64 x.op) from rfl)
  have y2_7 := (Lib.cell_of_heap HA2.out 7).trans (show _ = some (.int .i64 x.flags) from rfl)
  have z2_7 := (Lib.cell_of_heap HB2.out 7).trans (show _ = some (.int .i64 x.flags) from rfl)
  have y2_8 := (Lib.cell_of_heap HA2.out 8).trans (show _ = some (sv x.text) from rfl)
  have z2_8 := (Lib.cell_of_heap HB2.out 8).trans (show _ = some (sv x.text) from rfl)
  have y2_9 := (Lib.cell_of_heap HA2.out 9).trans (show _ = some (.bool x.filter.on) from rfl)
  have z2_9 := (Lib.cell_of_heap HB2.out 9).trans (show _ = some (.bool x.filter.on) from rfl)
  have y2_10 := (Lib.cell_of_heap HA2.out 10).trans (show _ = some ((.slice p10a x.filter.scopes.length c10a)) from rfl)
  have z2_10 := (Lib.cell_of_heap HB2.out 10).trans (show _ = some ((.slice p10b x.filter.scopes.length c10b)) from rfl)
  clear b2
  go_wp2_with fail
  refine (C9.out _ (LfRd.below hb2 _ _ hra10) (LfRd.below hb2 _ _ hrb10)).mono ?_
  rintro e w3 ⟨rfl, b3⟩
  have hb3 := hb2.trans (b3.mono hb2.size)
  have HZ3 := Lib.hid (Nat.le_trans HZ2.out b3.size)
  have HA3 := Lib.hid ((b3.block w.heap.size (by have := HZ2.out; omega)).trans HA2.out)
  have HB3 := Lib.hid ((b3.block (w.heap.size + 1) (by have := HZ2.out; omega)).trans HB2.out)
  clear y2_6 z2_6 y2_7 z2_7 y2_8 z2_8 y2_9 z2_9 y2_10 z2_10
  clear b3
  go_wp2
  go_ret
  exact ⟨rfl, hb3⟩

set_option maxRecDepth 20000 in
set_option maxHeartbeats 6400000 in
theorem toCommand_g (x : CmdD) (r5 : Value) (r10 : Value) (w : World) (h5 : LfRd w (spnsLf x.sset) r5) (h10 : LfRd w (scpsLf x.filter.scopes) r10) (hs : szLs x.lf ≤ 10000000) :
    Calls Try.prog 11 #[.agg #[sv x.tag, .int .i64 x.kind, sv x.box, sv x.to, .bool x.uid, r5, .int .i64 x.op, .int .i64 x.flags, sv x.text, .bool x.filter.on, r10]] w fun e w' => ∃ v5 f5, ∃ v10 f10, e = .returned (.agg #[sv x.tag, .int .i64 x.kind, sv x.box, sv x.to, .bool x.uid, v5, .int .i64 x.op, .int .i64 x.flags, sv x.text, .bool x.filter.on, v10]) ∧ LfIn w' (spnsLf x.sset) v5 f5 ∧ LfIn w' (scpsLf x.filter.scopes) v10 f10 ∧ (f5 ++ f10).Nodup ∧ (∀ q ∈ f5 ++ f10, w.heap.size ≤ q) ∧ Below w.heap.size w w' := by
  have HR5 := Lib.hid h5
  have HR10 := Lib.hid h10
  obtain ⟨p5, c5, rfl⟩ := LfRd.slice h5
  obtain ⟨p10, c10, rfl⟩ := LfRd.slice h10
  have hsz := CmdD.sz x
  have hsz_9 := Flt.sz x.filter
  have C5 := Lib.hid (fun W (g : LfRd W (spnsLf x.sset) (.slice p5 x.sset.length c5)) => toSpanS_g _ x.sset W g (by omega))
  have C9 := Lib.hid (fun W (g10 : LfRd W (scpsLf x.filter.scopes) (.slice p10 x.filter.scopes.length c10)) => toFilter_g x.filter (.slice p10 x.filter.scopes.length c10) W g10 (by omega))
  clear hs hsz hsz_9 h5 h10
  go_enter Try.func11, Try.ntmps11
  have HA := Lib.hid (heap_alloc_new w (.cells #[sv x.tag, .int .i64 x.kind, sv x.box, sv x.to, .bool x.uid, (.slice p5 x.sset.length c5), .int .i64 x.op, .int .i64 x.flags, sv x.text, .bool x.filter.on, (.slice p10 x.filter.scopes.length c10)] 28))
  go_wp2_with fail
  have hb : Below w.heap.size w (((w.alloc (.cells #[sv x.tag, .int .i64 x.kind, sv x.box, sv x.to, .bool x.uid, (.slice p5 x.sset.length c5), .int .i64 x.op, .int .i64 x.flags, sv x.text, .bool x.filter.on, (.slice p10 x.filter.scopes.length c10)] 28)).alloc (.cells #[sv [], .int .i64 0, sv [], sv [], .bool false, .slice none 0 0, .int .i64 0, .int .i64 0, sv [], .bool false, .slice none 0 0] 36)).alloc (.cells #[sv x.tag, .int .i64 x.kind, sv x.box, sv x.to, .bool x.uid, .slice none 0 0, .int .i64 0, .int .i64 0, sv [], .bool false, .slice none 0 0] 36)) := (((Below.refl _ _).alloc (Nat.le_refl _) _).alloc (by simp) _).alloc (by simp; omega) _
  have hA : (((w.alloc (.cells #[sv x.tag, .int .i64 x.kind, sv x.box, sv x.to, .bool x.uid, (.slice p5 x.sset.length c5), .int .i64 x.op, .int .i64 x.flags, sv x.text, .bool x.filter.on, (.slice p10 x.filter.scopes.length c10)] 28)).alloc (.cells #[sv [], .int .i64 0, sv [], sv [], .bool false, .slice none 0 0, .int .i64 0, .int .i64 0, sv [], .bool false, .slice none 0 0] 36)).alloc (.cells #[sv x.tag, .int .i64 x.kind, sv x.box, sv x.to, .bool x.uid, .slice none 0 0, .int .i64 0, .int .i64 0, sv [], .bool false, .slice none 0 0] 36)).heap[w.heap.size]? = some (.cells #[sv x.tag, .int .i64 x.kind, sv x.box, sv x.to, .bool x.uid, (.slice p5 x.sset.length c5), .int .i64 x.op, .int .i64 x.flags, sv x.text, .bool x.filter.on, (.slice p10 x.filter.scopes.length c10)] 28 (0, 0)) := ((Below.heap_alloc _ _ _ (by simp; omega)).trans (Below.heap_alloc _ _ _ (by simp))).trans HA.out
  have hR : (((w.alloc (.cells #[sv x.tag, .int .i64 x.kind, sv x.box, sv x.to, .bool x.uid, (.slice p5 x.sset.length c5), .int .i64 x.op, .int .i64 x.flags, sv x.text, .bool x.filter.on, (.slice p10 x.filter.scopes.length c10)] 28)).alloc (.cells #[sv [], .int .i64 0, sv [], sv [], .bool false, .slice none 0 0, .int .i64 0, .int .i64 0, sv [], .bool false, .slice none 0 0] 36)).alloc (.cells #[sv x.tag, .int .i64 x.kind, sv x.box, sv x.to, .bool x.uid, .slice none 0 0, .int .i64 0, .int .i64 0, sv [], .bool false, .slice none 0 0] 36)).heap[w.heap.size + 1]? = some (.cells #[sv [], .int .i64 0, sv [], sv [], .bool false, .slice none 0 0, .int .i64 0, .int .i64 0, sv [], .bool false, .slice none 0 0] 36 (0, 0)) := (Below.heap_alloc _ _ _ (by simp)).trans (by have := heap_alloc_new (w.alloc (.cells #[sv x.tag, .int .i64 x.kind, sv x.box, sv x.to, .bool x.uid, (.slice p5 x.sset.length c5), .int .i64 x.op, .int .i64 x.flags, sv x.text, .bool x.filter.on, (.slice p10 x.filter.scopes.length c10)] 28)) (.cells #[sv [], .int .i64 0, sv [], sv [], .bool false, .slice none 0 0, .int .i64 0, .int .i64 0, sv [], .bool false, .slice none 0 0] 36); rwa [World.size_alloc] at this)
  have hT : (((w.alloc (.cells #[sv x.tag, .int .i64 x.kind, sv x.box, sv x.to, .bool x.uid, (.slice p5 x.sset.length c5), .int .i64 x.op, .int .i64 x.flags, sv x.text, .bool x.filter.on, (.slice p10 x.filter.scopes.length c10)] 28)).alloc (.cells #[sv [], .int .i64 0, sv [], sv [], .bool false, .slice none 0 0, .int .i64 0, .int .i64 0, sv [], .bool false, .slice none 0 0] 36)).alloc (.cells #[sv x.tag, .int .i64 x.kind, sv x.box, sv x.to, .bool x.uid, .slice none 0 0, .int .i64 0, .int .i64 0, sv [], .bool false, .slice none 0 0] 36)).heap[w.heap.size + 1 + 1]? = some (.cells #[sv x.tag, .int .i64 x.kind, sv x.box, sv x.to, .bool x.uid, .slice none 0 0, .int .i64 0, .int .i64 0, sv [], .bool false, .slice none 0 0] 36 (0, 0)) := by
    have := heap_alloc_new ((w.alloc (.cells #[sv x.tag, .int .i64 x.kind, sv x.box, sv x.to, .bool x.uid, (.slice p5 x.sset.length c5), .int .i64 x.op, .int .i64 x.flags, sv x.text, .bool x.filter.on, (.slice p10 x.filter.scopes.length c10)] 28)).alloc (.cells #[sv [], .int .i64 0, sv [], sv [], .bool false, .slice none 0 0, .int .i64 0, .int .i64 0, sv [], .bool false, .slice none 0 0] 36)) (.cells #[sv x.tag, .int .i64 x.kind, sv x.box, sv x.to, .bool x.uid, .slice none 0 0, .int .i64 0, .int .i64 0, sv [], .bool false, .slice none 0 0] 36)
    rwa [World.size_alloc, World.size_alloc] at this
  have hz : w.heap.size + 3 ≤ (((w.alloc (.cells #[sv x.tag, .int .i64 x.kind, sv x.box, sv x.to, .bool x.uid, (.slice p5 x.sset.length c5), .int .i64 x.op, .int .i64 x.flags, sv x.text, .bool x.filter.on, (.slice p10 x.filter.scopes.length c10)] 28)).alloc (.cells #[sv [], .int .i64 0, sv [], sv [], .bool false, .slice none 0 0, .int .i64 0, .int .i64 0, sv [], .bool false, .slice none 0 0] 36)).alloc (.cells #[sv x.tag, .int .i64 x.kind, sv x.box, sv x.to, .bool x.uid, .slice none 0 0, .int .i64 0, .int .i64 0, sv [], .bool false, .slice none 0 0] 36)).heap.size := by simp
  generalize (((w.alloc (.cells #[sv x.tag, .int .i64 x.kind, sv x.box, sv x.to, .bool x.uid, (.slice p5 x.sset.length c5), .int .i64 x.op, .int .i64 x.flags, sv x.text, .bool x.filter.on, (.slice p10 x.filter.scopes.length c10)] 28)).alloc (.cells #[sv [], .int .i64 0, sv [], sv [], .bool false, .slice none 0 0, .int .i64 0, .int .i64 0, sv [], .bool false, .slice none 0 0] 36)).alloc (.cells #[sv x.tag, .int .i64 x.kind, sv x.box, sv x.to, .bool x.uid, .slice none 0 0, .int .i64 0, .int .i64 0, sv [], .bool false, .slice none 0 0] 36)) = W0 at *
  clear HA
  refine (C5.out _ (LfRd.below hb _ _ HR5.out)).mono ?_
  rintro e w1 ⟨v5, f5, rfl, t5, b1⟩
  have i5 := t5.is
  have n5 := t5.nodup
  have l5 : ∀ q ∈ f5, w.heap.size + 3 ≤ q := fun q hq => by have := t5.low q hq; omega
  obtain ⟨pv5, cv5, rfl⟩ := LfIn.slice i5
  clear t5
  replace hA := (b1.block (w.heap.size) (by omega)).trans hA
  replace hR := (b1.block (w.heap.size + 1) (by omega)).trans hR
  replace hT := (b1.block (w.heap.size + 1 + 1) (by omega)).trans hT
  have nn := n5
  replace hb := hb.trans (b1.mono hb.size)
  replace hz := Nat.le_trans hz b1.size
  clear b1
  have ce5 : w1.cell? ⟨w.heap.size + 1 + 1, 5, none⟩ = some (.slice none 0 0) := (Lib.cell_of_heap hT 5).trans rfl
  have ge5 : w1.frozen? ⟨w.heap.size + 1 + 1, 5, none⟩ = false := Lib.frozen_of_heap hT 5
  have hT5 : (w1.setCell ⟨w.heap.size + 1 + 1, 5, none⟩ (.slice pv5 x.sset.length cv5)).heap[w.heap.size + 1 + 1]? = some (.cells #[sv x.tag, .int .i64 x.kind, sv x.box, sv x.to, .bool x.uid, (.slice pv5 x.sset.length cv5), .int .i64 0, .int .i64 0, sv [], .bool false, .slice none 0 0] 36 (0, 0)) := set_heap hT
  have hA5 : (w1.setCell ⟨w.heap.size + 1 + 1, 5, none⟩ (.slice pv5 x.sset.length cv5)).heap[w.heap.size]? = some (.cells #[sv x.tag, .int .i64 x.kind, sv x.box, sv x.to, .bool x.uid, (.slice p5 x.sset.length c5), .int .i64 x.op, .int .i64 x.flags, sv x.text, .bool x.filter.on, (.slice p10 x.filter.scopes.length c10)] 28 (0, 0)) := (set_other (by omega)).trans hA
  have hR5 : (w1.setCell ⟨w.heap.size + 1 + 1, 5, none⟩ (.slice pv5 x.sset.length cv5)).heap[w.heap.size + 1]? = some (.cells #[sv [], .int .i64 0, sv [], sv [], .bool false, .slice none 0 0, .int .i64 0, .int .i64 0, sv [], .bool false, .slice none 0 0] 36 (0, 0)) := (set_other (by omega)).trans hR
  have ae6 : (w1.setCell ⟨w.heap.size + 1 + 1, 5, none⟩ (.slice pv5 x.sset.length cv5)).cell? ⟨w.heap.size, 6, none⟩ = some (.int .i64 x.op) := (Lib.cell_of_heap hA5 6).trans rfl
  have ce6 : (w1.setCell ⟨w.heap.size + 1 + 1, 5, none⟩ (.slice pv5 x.sset.length cv5)).cell? ⟨w.heap.size + 1 + 1, 6, none⟩ = some (.int .i64 0) := (Lib.cell_of_heap hT5 6).trans rfl
  have ge6 : (w1.setCell ⟨w.heap.size + 1 + 1, 5, none⟩ (.slice pv5 x.sset.length cv5)).frozen? ⟨w.heap.size + 1 + 1, 6, none⟩ = false := Lib.frozen_of_heap hT5 6
  have hT6 : ((w1.setCell ⟨w.heap.size + 1 + 1, 5, none⟩ (.slice pv5 x.sset.length cv5)).setCell ⟨w.heap.size + 1 + 1, 6, none⟩ (.int .i64 x.op)).heap[w.heap.size + 1 + 1]? = some (.cells #[sv x.tag, .int .i64 x.kind, sv x.box, sv x.to, .bool x.uid, (.slice pv5 x.sset.length cv5), .int .i64 x.op, .int .i64 0, sv [], .bool false, .slice none 0 0] 36 (0, 0)) := set_heap hT5
  have hA6 : ((w1.setCell ⟨w.heap.size + 1 + 1, 5, none⟩ (.slice pv5 x.sset.length cv5)).setCell ⟨w.heap.size + 1 + 1, 6, none⟩ (.int .i64 x.op)).heap[w.heap.size]? = some (.cells #[sv x.tag, .int .i64 x.kind, sv x.box, sv x.to, .bool x.uid, (.slice p5 x.sset.length c5), .int .i64 x.op, .int .i64 x.flags, sv x.text, .bool x.filter.on, (.slice p10 x.filter.scopes.length c10)] 28 (0, 0)) := (set_other (by omega)).trans hA5
  have hR6 : ((w1.setCell ⟨w.heap.size + 1 + 1, 5, none⟩ (.slice pv5 x.sset.length cv5)).setCell ⟨w.heap.size + 1 + 1, 6, none⟩ (.int .i64 x.op)).heap[w.heap.size + 1]? = some (.cells #[sv [], .int .i64 0, sv [], sv [], .bool false, .slice none 0 0, .int .i64 0, .int .i64 0, sv [], .bool false, .slice none 0 0] 36 (0, 0)) := (set_other (by omega)).trans hR5
  have ae7 : ((w1.setCell ⟨w.heap.size + 1 + 1, 5, none⟩ (.slice pv5 x.sset.length cv5)).setCell ⟨w.heap.size + 1 + 1, 6, none⟩ (.int .i64 x.op)).cell? ⟨w.heap.size, 7, none⟩ = some (.int .i64 x.flags) := (Lib.cell_of_heap hA6 7).trans rfl
  have ce7 : ((w1.setCell ⟨w.heap.size + 1 + 1, 5, none⟩ (.slice pv5 x.sset.length cv5)).setCell ⟨w.heap.size + 1 + 1, 6, none⟩ (.int .i64 x.op)).cell? ⟨w.heap.size + 1 + 1, 7, none⟩ = some (.int .i64 0) := (Lib.cell_of_heap hT6 7).trans rfl
  have ge7 : ((w1.setCell ⟨w.heap.size + 1 + 1, 5, none⟩ (.slice pv5 x.sset.length cv5)).setCell ⟨w.heap.size + 1 + 1, 6, none⟩ (.int .i64 x.op)).frozen? ⟨w.heap.size + 1 + 1, 7, none⟩ = false := Lib.frozen_of_heap hT6 7
  have hT7 : (((w1.setCell ⟨w.heap.size + 1 + 1, 5, none⟩ (.slice pv5 x.sset.length cv5)).setCell ⟨w.heap.size + 1 + 1, 6, none⟩ (.int .i64 x.op)).setCell ⟨w.heap.size + 1 + 1, 7, none⟩ (.int .i64 x.flags)).heap[w.heap.size + 1 + 1]? = some (.cells #[sv x.tag, .int .i64 x.kind, sv x.box, sv x.to, .bool x.uid, (.slice pv5 x.sset.length cv5), .int .i64 x.op, .int .i64 x.flags, sv [], .bool false, .slice none 0 0] 36 (0, 0)) := set_heap hT6
  have hA7 : (((w1.setCell ⟨w.heap.size + 1 + 1, 5, none⟩ (.slice pv5 x.sset.length cv5)).setCell ⟨w.heap.size + 1 + 1, 6, none⟩ (.int .i64 x.op)).setCell ⟨w.heap.size + 1 + 1, 7, none⟩ (.int .i64 x.flags)).heap[w.heap.size]? = some (.cells #[sv x.tag, .int .i64 x.kind, sv x.box, sv x.to, .bool x.uid, (.slice p5 x.sset.length c5), .int .i64 x.op, .int .i64 x.flags, sv x.text, .bool x.filter.on, (.slice p10 x.filter.scopes.length c10)] 28 (0, 0)) := (set_other (by omega)).trans hA6
  have hR7 : (((w1.setCell ⟨w.heap.size + 1 + 1, 5, none⟩ (.slice pv5 x.sset.length cv5)).setCell ⟨w.heap.size + 1 + 1, 6, none⟩ (.int .i64 x.op)).setCell ⟨w.heap.size + 1 + 1, 7, none⟩ (.int .i64 x.flags)).heap[w.heap.size + 1]? = some (.cells #[sv [], .int .i64 0, sv [], sv [], .bool false, .slice none 0 0, .int .i64 0, .int .i64 0, sv [], .bool false, .slice none 0 0] 36 (0, 0)) := (set_other (by omega)).trans hR6
  have ae8 : (((w1.setCell ⟨w.heap.size + 1 + 1, 5, none⟩ (.slice pv5 x.sset.length cv5)).setCell ⟨w.heap.size + 1 + 1, 6, none⟩ (.int .i64 x.op)).setCell ⟨w.heap.size + 1 + 1, 7, none⟩ (.int .i64 x.flags)).cell? ⟨w.heap.size, 8, none⟩ = some (sv x.text) := (Lib.cell_of_heap hA7 8).trans rfl
  have ce8 : (((w1.setCell ⟨w.heap.size + 1 + 1, 5, none⟩ (.slice pv5 x.sset.length cv5)).setCell ⟨w.heap.size + 1 + 1, 6, none⟩ (.int .i64 x.op)).setCell ⟨w.heap.size + 1 + 1, 7, none⟩ (.int .i64 x.flags)).cell? ⟨w.heap.size + 1 + 1, 8, none⟩ = some (sv []) := (Lib.cell_of_heap hT7 8).trans rfl
  have ge8 : (((w1.setCell ⟨w.heap.size + 1 + 1, 5, none⟩ (.slice pv5 x.sset.length cv5)).setCell ⟨w.heap.size + 1 + 1, 6, none⟩ (.int .i64 x.op)).setCell ⟨w.heap.size + 1 + 1, 7, none⟩ (.int .i64 x.flags)).frozen? ⟨w.heap.size + 1 + 1, 8, none⟩ = false := Lib.frozen_of_heap hT7 8
  have hT8 : ((((w1.setCell ⟨w.heap.size + 1 + 1, 5, none⟩ (.slice pv5 x.sset.length cv5)).setCell ⟨w.heap.size + 1 + 1, 6, none⟩ (.int .i64 x.op)).setCell ⟨w.heap.size + 1 + 1, 7, none⟩ (.int .i64 x.flags)).setCell ⟨w.heap.size + 1 + 1, 8, none⟩ (sv x.text)).heap[w.heap.size + 1 + 1]? = some (.cells #[sv x.tag, .int .i64 x.kind, sv x.box, sv x.to, .bool x.uid, (.slice pv5 x.sset.length cv5), .int .i64 x.op, .int .i64 x.flags, sv x.text, .bool false, .slice none 0 0] 36 (0, 0)) := set_heap hT7
  have hA8 : ((((w1.setCell ⟨w.heap.size + 1 + 1, 5, none⟩ (.slice pv5 x.sset.length cv5)).setCell ⟨w.heap.size + 1 + 1, 6, none⟩ (.int .i64 x.op)).setCell ⟨w.heap.size + 1 + 1, 7, none⟩ (.int .i64 x.flags)).setCell ⟨w.heap.size + 1 + 1, 8, none⟩ (sv x.text)).heap[w.heap.size]? = some (.cells #[sv x.tag, .int .i64 x.kind, sv x.box, sv x.to, .bool x.uid, (.slice p5 x.sset.length c5), .int .i64 x.op, .int .i64 x.flags, sv x.text, .bool x.filter.on, (.slice p10 x.filter.scopes.length c10)] 28 (0, 0)) := (set_other (by omega)).trans hA7
  have hR8 : ((((w1.setCell ⟨w.heap.size + 1 + 1, 5, none⟩ (.slice pv5 x.sset.length cv5)).setCell ⟨w.heap.size + 1 + 1, 6, none⟩ (.int .i64 x.op)).setCell ⟨w.heap.size + 1 + 1, 7, none⟩ (.int .i64 x.flags)).setCell ⟨w.heap.size + 1 + 1, 8, none⟩ (sv x.text)).heap[w.heap.size + 1]? = some (.cells #[sv [], .int .i64 0, sv [], sv [], .bool false, .slice none 0 0, .int .i64 0, .int .i64 0, sv [], .bool false, .slice none 0 0] 36 (0, 0)) := (set_other (by omega)).trans hR7
  have gs : GrownIn w1 ((((w1.setCell ⟨w.heap.size + 1 + 1, 5, none⟩ (.slice pv5 x.sset.length cv5)).setCell ⟨w.heap.size + 1 + 1, 6, none⟩ (.int .i64 x.op)).setCell ⟨w.heap.size + 1 + 1, 7, none⟩ (.int .i64 x.flags)).setCell ⟨w.heap.size + 1 + 1, 8, none⟩ (sv x.text)) [w.heap.size + 1 + 1] := ((((GrownIn.refl w1 [w.heap.size + 1 + 1]).trans (GrownIn.set (by simp))).trans (GrownIn.set (by simp))).trans (GrownIn.set (by simp))).trans (GrownIn.set (by simp))
  replace i5 := LfIn.away i5 gs (fun k hk hm => by have := l5 k hk; simp at hm; omega)
  replace hb := GrownIn.below hb gs hb.size (fun k hk => by simp at hk; omega)
  replace hz := Nat.le_trans hz gs.size
  clear hA hR hT gs hA5 hR5 hT5 hA6 hR6 hT6 hA7 hR7 hT7
  have hA := hA8
  have hR := hR8
  have hT := hT8
  clear hA8 hR8 hT8
  generalize hW1 : ((((w1.setCell ⟨w.heap.size + 1 + 1, 5, none⟩ (.slice pv5 x.sset.length cv5)).setCell ⟨w.heap.size + 1 + 1, 6, none⟩ (.int .i64 x.op)).setCell ⟨w.heap.size + 1 + 1, 7, none⟩ (.int .i64 x.flags)).setCell ⟨w.heap.size + 1 + 1, 8, none⟩ (sv x.text)) = W1 at *
  have ag9 : W1.cell? ⟨w.heap.size, 9, none⟩ = some (.bool x.filter.on) := (Lib.cell_of_heap hA 9).trans rfl
  have ag10 : W1.cell? ⟨w.heap.size, 10, none⟩ = some ((.slice p10 x.filter.scopes.length c10)) := (Lib.cell_of_heap hA 10).trans rfl
  have I5 := Lib.hid i5
  clear i5
  have HA := Lib.hid hA
  have HB := Lib.hid hR
  have HT := Lib.hid hT
  clear hA hR hT
  go_wp2_with fail
  have i5 := I5.out
  clear I5
  have hA := HA.out
  have hR := HB.out
  have hT := HT.out
  clear HA HB HT ce5 ge5 ae6 ce6 ge6 ae7 ce7 ge7 ae8 ce8 ge8 ag9 ag10
  refine (C9.out _ (LfRd.below hb _ _ HR10.out)).mono ?_
  rintro e w2 ⟨v10, f10, rfl, i10, nd9, lo9, b1⟩
  have d10 : ∀ q ∈ f10, W1.heap.size ≤ q := fun q hq => lo9 q (by simp [hq])
  have l10 : ∀ q ∈ f10, w.heap.size + 3 ≤ q := fun q hq => by have := d10 q hq; omega
  obtain ⟨pv10, cv10, rfl⟩ := LfIn.slice i10
  have n10 := nd9
  replace hA := (b1.block (w.heap.size) (by omega)).trans hA
  replace hR := (b1.block (w.heap.size + 1) (by omega)).trans hR
  replace hT := (b1.block (w.heap.size + 1 + 1) (by omega)).trans hT
  have u5 : ∀ q ∈ f5, q < W1.heap.size := fun q hq => LfIn.lt _ _ _ i5 q hq
  replace i5 := LfIn.below i5 b1
  have nn10 : (f5 ++ f10).Nodup := List.nodup_append.2 ⟨nn, n10, fun x hx y hy e => by have h2 := d10 y hy; have h1 := u5 x hx; omega⟩
  clear nn
  have nn := nn10
  replace hb := hb.trans (b1.mono hb.size)
  replace hz := Nat.le_trans hz b1.size
  clear b1
  have ce9 : w2.cell? ⟨w.heap.size + 1 + 1, 9, none⟩ = some (.bool false) := (Lib.cell_of_heap hT 9).trans rfl
  have ge9 : w2.frozen? ⟨w.heap.size + 1 + 1, 9, none⟩ = false := Lib.frozen_of_heap hT 9
  have hT9 : (w2.setCell ⟨w.heap.size + 1 + 1, 9, none⟩ (.bool x.filter.on)).heap[w.heap.size + 1 + 1]? = some (.cells #[sv x.tag, .int .i64 x.kind, sv x.box, sv x.to, .bool x.uid, (.slice pv5 x.sset.length cv5), .int .i64 x.op, .int .i64 x.flags, sv x.text, .bool x.filter.on, .slice none 0 0] 36 (0, 0)) := set_heap hT
  have hA9 : (w2.setCell ⟨w.heap.size + 1 + 1, 9, none⟩ (.bool x.filter.on)).heap[w.heap.size]? = some (.cells #[sv x.tag, .int .i64 x.kind, sv x.box, sv x.to, .bool x.uid, (.slice p5 x.sset.length c5), .int .i64 x.op, .int .i64 x.flags, sv x.text, .bool x.filter.on, (.slice p10 x.filter.scopes.length c10)] 28 (0, 0)) := (set_other (by omega)).trans hA
  have hR9 : (w2.setCell ⟨w.heap.size + 1 + 1, 9, none⟩ (.bool x.filter.on)).heap[w.heap.size + 1]? = some (.cells #[sv [], .int .i64 0, sv [], sv [], .bool false, .slice none 0 0, .int .i64 0, .int .i64 0, sv [], .bool false, .slice none 0 0] 36 (0, 0)) := (set_other (by omega)).trans hR
  have ce10 : (w2.setCell ⟨w.heap.size + 1 + 1, 9, none⟩ (.bool x.filter.on)).cell? ⟨w.heap.size + 1 + 1, 10, none⟩ = some (.slice none 0 0) := (Lib.cell_of_heap hT9 10).trans rfl
  have ge10 : (w2.setCell ⟨w.heap.size + 1 + 1, 9, none⟩ (.bool x.filter.on)).frozen? ⟨w.heap.size + 1 + 1, 10, none⟩ = false := Lib.frozen_of_heap hT9 10
  have hT10 : ((w2.setCell ⟨w.heap.size + 1 + 1, 9, none⟩ (.bool x.filter.on)).setCell ⟨w.heap.size + 1 + 1, 10, none⟩ (.slice pv10 x.filter.scopes.length cv10)).heap[w.heap.size + 1 + 1]? = some (.cells #[sv x.tag, .int .i64 x.kind, sv x.box, sv x.to, .bool x.uid, (.slice pv5 x.sset.length cv5), .int .i64 x.op, .int .i64 x.flags, sv x.text, .bool x.filter.on, (.slice pv10 x.filter.scopes.length cv10)] 36 (0, 0)) := set_heap hT9
  have hA10 : ((w2.setCell ⟨w.heap.size + 1 + 1, 9, none⟩ (.bool x.filter.on)).setCell ⟨w.heap.size + 1 + 1, 10, none⟩ (.slice pv10 x.filter.scopes.length cv10)).heap[w.heap.size]? = some (.cells #[sv x.tag, .int .i64 x.kind, sv x.box, sv x.to, .bool x.uid, (.slice p5 x.sset.length c5), .int .i64 x.op, .int .i64 x.flags, sv x.text, .bool x.filter.on, (.slice p10 x.filter.scopes.length c10)] 28 (0, 0)) := (set_other (by omega)).trans hA9
  have hR10 : ((w2.setCell ⟨w.heap.size + 1 + 1, 9, none⟩ (.bool x.filter.on)).setCell ⟨w.heap.size + 1 + 1, 10, none⟩ (.slice pv10 x.filter.scopes.length cv10)).heap[w.heap.size + 1]? = some (.cells #[sv [], .int .i64 0, sv [], sv [], .bool false, .slice none 0 0, .int .i64 0, .int .i64 0, sv [], .bool false, .slice none 0 0] 36 (0, 0)) := (set_other (by omega)).trans hR9
  have gs : GrownIn w2 ((w2.setCell ⟨w.heap.size + 1 + 1, 9, none⟩ (.bool x.filter.on)).setCell ⟨w.heap.size + 1 + 1, 10, none⟩ (.slice pv10 x.filter.scopes.length cv10)) [w.heap.size + 1 + 1] := ((GrownIn.refl w2 [w.heap.size + 1 + 1]).trans (GrownIn.set (by simp))).trans (GrownIn.set (by simp))
  replace i5 := LfIn.away i5 gs (fun k hk hm => by have := l5 k hk; simp at hm; omega)
  replace i10 := LfIn.away i10 gs (fun k hk hm => by have := l10 k hk; simp at hm; omega)
  replace hb := GrownIn.below hb gs hb.size (fun k hk => by simp at hk; omega)
  replace hz := Nat.le_trans hz gs.size
  clear hA hR hT gs hA9 hR9 hT9
  have hA := hA10
  have hR := hR10
  have hT := hT10
  clear hA10 hR10 hT10
  generalize hW2 : ((w2.setCell ⟨w.heap.size + 1 + 1, 9, none⟩ (.bool x.filter.on)).setCell ⟨w.heap.size + 1 + 1, 10, none⟩ (.slice pv10 x.filter.scopes.length cv10)) = W2 at *
  have d0_ : W2.cell? ⟨w.heap.size + 1 + 1, 0, none⟩ = some (sv x.tag) := (Lib.cell_of_heap hT 0).trans rfl
  have d1_ : W2.cell? ⟨w.heap.size + 1 + 1, 1, none⟩ = some (.int .i64 x.kind) := (Lib.cell_of_heap hT 1).trans rfl
  have d2_ : W2.cell? ⟨w.heap.size + 1 + 1, 2, none⟩ = some (sv x.box) := (Lib.cell_of_heap hT 2).trans rfl
  have d3_ : W2.cell? ⟨w.heap.size + 1 + 1, 3, none⟩ = some (sv x.to) := (Lib.cell_of_heap hT 3).trans rfl
  have d4_ : W2.cell? ⟨w.heap.size + 1 + 1, 4, none⟩ = some (.bool x.uid) := (Lib.cell_of_heap hT 4).trans rfl
  have d5_ : W2.cell? ⟨w.heap.size + 1 + 1, 5, none⟩ = some ((.slice pv5 x.sset.length cv5)) := (Lib.cell_of_heap hT 5).trans rfl
  have d6_ : W2.cell? ⟨w.heap.size + 1 + 1, 6, none⟩ = some (.int .i64 x.op) := (Lib.cell_of_heap hT 6).trans rfl
  have d7_ : W2.cell? ⟨w.heap.size + 1 + 1, 7, none⟩ = some (.int .i64 x.flags) := (Lib.cell_of_heap hT 7).trans rfl
  have d8_ : W2.cell? ⟨w.heap.size + 1 + 1, 8, none⟩ = some (sv x.text) := (Lib.cell_of_heap hT 8).trans rfl
  have d9_ : W2.cell? ⟨w.heap.size + 1 + 1, 9, none⟩ = some (.bool x.filter.on) := (Lib.cell_of_heap hT 9).trans rfl
  have d10_ : W2.cell? ⟨w.heap.size + 1 + 1, 10, none⟩ = some ((.slice pv10 x.filter.scopes.length cv10)) := (Lib.cell_of_heap hT 10).trans rfl
  have r0_ : W2.cell? ⟨w.heap.size + 1, 0, none⟩ = some (sv []) := (Lib.cell_of_heap hR 0).trans rfl
  have q0_ : W2.frozen? ⟨w.heap.size + 1, 0, none⟩ = false := Lib.frozen_of_heap hR 0
  have hR0 : (W2.setCell ⟨w.heap.size + 1, 0, none⟩ (sv x.tag)).heap[w.heap.size + 1]? = some (.cells #[sv x.tag, .int .i64 0, sv [], sv [], .bool false, .slice none 0 0, .int .i64 0, .int .i64 0, sv [], .bool false, .slice none 0 0] 36 (0, 0)) := set_heap hR
  have r1_ : (W2.setCell ⟨w.heap.size + 1, 0, none⟩ (sv x.tag)).cell? ⟨w.heap.size + 1, 1, none⟩ = some (.int .i64 0) := (Lib.cell_of_heap hR0 1).trans rfl
  have q1_ : W2.frozen? ⟨w.heap.size + 1, 1, none⟩ = false := Lib.frozen_of_heap hR 1
  have hR1 : ((W2.setCell ⟨w.heap.size + 1, 0, none⟩ (sv x.tag)).setCell ⟨w.heap.size + 1, 1, none⟩ (.int .i64 x.kind)).heap[w.heap.size + 1]? = some (.cells #[sv x.tag, .int .i64 x.kind, sv [], sv [], .bool false, .slice none 0 0, .int .i64 0, .int .i64 0, sv [], .bool false, .slice none 0 0] 36 (0, 0)) := set_heap hR0
  have r2_ : ((W2.setCell ⟨w.heap.size + 1, 0, none⟩ (sv x.tag)).setCell ⟨w.heap.size + 1, 1, none⟩ (.int .i64 x.kind)).cell? ⟨w.heap.size + 1, 2, none⟩ = some (sv []) := (Lib.cell_of_heap hR1 2).trans rfl
  have q2_ : W2.frozen? ⟨w.heap.size + 1, 2, none⟩ = false := Lib.frozen_of_heap hR 2
  have hR2 : (((W2.setCell ⟨w.heap.size + 1, 0, none⟩ (sv x.tag)).setCell ⟨w.heap.size + 1, 1, none⟩ (.int .i64 x.kind)).setCell ⟨w.heap.size + 1, 2, none⟩ (sv x.box)).heap[w.heap.size + 1]? = some (.cells #[sv x.tag, .int .i64 x.kind, sv x.box, sv [], .bool false, .slice none 0 0, .int .i64 0, .int .i64 0, sv [], .bool false, .slice none 0 0] 36 (0, 0)) := set_heap hR1
  have r3_ : (((W2.setCell ⟨w.heap.size + 1, 0, none⟩ (sv x.tag)).setCell ⟨w.heap.size + 1, 1, none⟩ (.int .i64 x.kind)).setCell ⟨w.heap.size + 1, 2, none⟩ (sv x.box)).cell? ⟨w.heap.size + 1, 3, none⟩ = some (sv []) := (Lib.cell_of_heap hR2 3).trans rfl
  have q3_ : W2.frozen? ⟨w.heap.size + 1, 3, none⟩ = false := Lib.frozen_of_heap hR 3
  have hR3 : ((((W2.setCell ⟨w.heap.size + 1, 0, none⟩ (sv x.tag)).setCell ⟨w.heap.size + 1, 1, none⟩ (.int .i64 x.kind)).setCell ⟨w.heap.size + 1, 2, none⟩ (sv x.box)).setCell ⟨w.heap.size + 1, 3, none⟩ (sv x.to)).heap[w.heap.size + 1]? = some (.cells #[sv x.tag, .int .i64 x.kind, sv x.box, sv x.to, .bool false, .slice none 0 0, .int .i64 0, .int .i64 0, sv [], .bool false, .slice none 0 0] 36 (0, 0)) := set_heap hR2
  have r4_ : ((((W2.setCell ⟨w.heap.size + 1, 0, none⟩ (sv x.tag)).setCell ⟨w.heap.size + 1, 1, none⟩ (.int .i64 x.kind)).setCell ⟨w.heap.size + 1, 2, none⟩ (sv x.box)).setCell ⟨w.heap.size + 1, 3, none⟩ (sv x.to)).cell? ⟨w.heap.size + 1, 4, none⟩ = some (.bool false) := (Lib.cell_of_heap hR3 4).trans rfl
  have q4_ : W2.frozen? ⟨w.heap.size + 1, 4, none⟩ = false := Lib.frozen_of_heap hR 4
  have hR4 : (((((W2.setCell ⟨w.heap.size + 1, 0, none⟩ (sv x.tag)).setCell ⟨w.heap.size + 1, 1, none⟩ (.int .i64 x.kind)).setCell ⟨w.heap.size + 1, 2, none⟩ (sv x.box)).setCell ⟨w.heap.size + 1, 3, none⟩ (sv x.to)).setCell ⟨w.heap.size + 1, 4, none⟩ (.bool x.uid)).heap[w.heap.size + 1]? = some (.cells #[sv x.tag, .int .i64 x.kind, sv x.box, sv x.to, .bool x.uid, .slice none 0 0, .int .i64 0, .int .i64 0, sv [], .bool false, .slice none 0 0] 36 (0, 0)) := set_heap hR3
  have r5_ : (((((W2.setCell ⟨w.heap.size + 1, 0, none⟩ (sv x.tag)).setCell ⟨w.heap.size + 1, 1, none⟩ (.int .i64 x.kind)).setCell ⟨w.heap.size + 1, 2, none⟩ (sv x.box)).setCell ⟨w.heap.size + 1, 3, none⟩ (sv x.to)).setCell ⟨w.heap.size + 1, 4, none⟩ (.bool x.uid)).cell? ⟨w.heap.size + 1, 5, none⟩ = some (.slice none 0 0) := (Lib.cell_of_heap hR4 5).trans rfl
  have q5_ : W2.frozen? ⟨w.heap.size + 1, 5, none⟩ = false := Lib.frozen_of_heap hR 5
  have hR5 : ((((((W2.setCell ⟨w.heap.size + 1, 0, none⟩ (sv x.tag)).setCell ⟨w.heap.size + 1, 1, none⟩ (.int .i64 x.kind)).setCell ⟨w.heap.size + 1, 2, none⟩ (sv x.box)).setCell ⟨w.heap.size + 1, 3, none⟩ (sv x.to)).setCell ⟨w.heap.size + 1, 4, none⟩ (.bool x.uid)).setCell ⟨w.heap.size + 1, 5, none⟩ (.slice pv5 x.sset.length cv5)).heap[w.heap.size + 1]? = some (.cells #[sv x.tag, .int .i64 x.kind, sv x.box, sv x.to, .bool x.uid, (.slice pv5 x.sset.length cv5), .int .i64 0, .int .i64 0, sv [], .bool false, .slice none 0 0] 36 (0, 0)) := set_heap hR4
  have r6_ : ((((((W2.setCell ⟨w.heap.size + 1, 0, none⟩ (sv x.tag)).setCell ⟨w.heap.size + 1, 1, none⟩ (.int .i64 x.kind)).setCell ⟨w.heap.size + 1, 2, none⟩ (sv x.box)).setCell ⟨w.heap.size + 1, 3, none⟩ (sv x.to)).setCell ⟨w.heap.size + 1, 4, none⟩ (.bool x.uid)).setCell ⟨w.heap.size + 1, 5, none⟩ (.slice pv5 x.sset.length cv5)).cell? ⟨w.heap.size + 1, 6, none⟩ = some (.int .i64 0) := (Lib.cell_of_heap hR5 6).trans rfl
  have q6_ : W2.frozen? ⟨w.heap.size + 1, 6, none⟩ = false := Lib.frozen_of_heap hR 6
  have hR6 : (((((((W2.setCell ⟨w.heap.size + 1, 0, none⟩ (sv x.tag)).setCell ⟨w.heap.size + 1, 1, none⟩ (.int .i64 x.kind)).setCell ⟨w.heap.size + 1, 2, none⟩ (sv x.box)).setCell ⟨w.heap.size + 1, 3, none⟩ (sv x.to)).setCell ⟨w.heap.size + 1, 4, none⟩ (.bool x.uid)).setCell ⟨w.heap.size + 1, 5, none⟩ (.slice pv5 x.sset.length cv5)).setCell ⟨w.heap.size + 1, 6, none⟩ (.int .i64 x.op)).heap[w.heap.size + 1]? = some (.cells #[sv x.tag, .int .i64 x.kind, sv x.box, sv x.to, .bool x.uid, (.slice pv5 x.sset.length cv5), .int .i64 x.op, .int .i64 0, sv [], .bool false, .slice none 0 0] 36 (0, 0)) := set_heap hR5
  have r7_ : (((((((W2.setCell ⟨w.heap.size + 1, 0, none⟩ (sv x.tag)).setCell ⟨w.heap.size + 1, 1, none⟩ (.int .i64 x.kind)).setCell ⟨w.heap.size + 1, 2, none⟩ (sv x.box)).setCell ⟨w.heap.size + 1, 3, none⟩ (sv x.to)).setCell ⟨w.heap.size + 1, 4, none⟩ (.bool x.uid)).setCell ⟨w.heap.size + 1, 5, none⟩ (.slice pv5 x.sset.length cv5)).setCell ⟨w.heap.size + 1, 6, none⟩ (.int .i64 x.op)).cell? ⟨w.heap.size + 1, 7, none⟩ = some (.int .i64 0) := (Lib.cell_of_heap hR6 7).trans rfl
  have q7_ : W2.frozen? ⟨w.heap.size + 1, 7, none⟩ = false := Lib.frozen_of_heap hR 7
  have hR7 : ((((((((W2.setCell ⟨w.heap.size + 1, 0, none⟩ (sv x.tag)).setCell ⟨w.heap.size + 1, 1, none⟩ (.int .i64 x.kind)).setCell ⟨w.heap.size + 1, 2, none⟩ (sv x.box)).setCell ⟨w.heap.size + 1, 3, none⟩ (sv x.to)).setCell ⟨w.heap.size + 1, 4, none⟩ (.bool x.uid)).setCell ⟨w.heap.size + 1, 5, none⟩ (.slice pv5 x.sset.length cv5)).setCell ⟨w.heap.size + 1, 6, none⟩ (.int .i64 x.op)).setCell ⟨w.heap.size + 1, 7, none⟩ (.int .i64 x.flags)).heap[w.heap.size + 1]? = some (.cells #[sv x.tag, .int .i64 x.kind, sv x.box, sv x.to, .bool x.uid, (.slice pv5 x.sset.length cv5), .int .i64 x.op, .int .i64 x.flags, sv [], .bool false, .slice none 0 0] 36 (0, 0)) := set_heap hR6
  have r8_ : ((((((((W2.setCell ⟨w.heap.size + 1, 0, none⟩ (sv x.tag)).setCell ⟨w.heap.size + 1, 1, none⟩ (.int .i64 x.kind)).setCell ⟨w.heap.size + 1, 2, none⟩ (sv x.box)).setCell ⟨w.heap.size + 1, 3, none⟩ (sv x.to)).setCell ⟨w.heap.size + 1, 4, none⟩ (.bool x.uid)).setCell ⟨w.heap.size + 1, 5, none⟩ (.slice pv5 x.sset.length cv5)).setCell ⟨w.heap.size + 1, 6, none⟩ (.int .i64 x.op)).setCell ⟨w.heap.size + 1, 7, none⟩ (.int .i64 x.flags)).cell? ⟨w.heap.size + 1, 8, none⟩ = some (sv []) := (Lib.cell_of_heap hR7 8).trans rfl
  have q8_ : W2.frozen? ⟨w.heap.size + 1, 8, none⟩ = false := Lib.frozen_of_heap hR 8
  have hR8 : (((((((((W2.setCell ⟨w.heap.size + 1, 0, none⟩ (sv x.tag)).setCell ⟨w.heap.size + 1, 1, none⟩ (.int .i64 x.kind)).setCell ⟨w.heap.size + 1, 2, none⟩ (sv x.box)).setCell ⟨w.heap.size + 1, 3, none⟩ (sv x.to)).setCell ⟨w.heap.size + 1, 4, none⟩ (.bool x.uid)).setCell ⟨w.heap.size + 1, 5, none⟩ (.slice pv5 x.sset.length cv5)).setCell ⟨w.heap.size + 1, 6, none⟩ (.int .i64 x.op)).setCell ⟨w.heap.size + 1, 7, none⟩ (.int .i64 x.flags)).setCell ⟨w.heap.size + 1, 8, none⟩ (sv x.text)).heap[w.heap.size + 1]? = some (.cells #[sv x.tag, .int .i64 x.kind, sv x.box, sv x.to, .bool x.uid, (.slice pv5 x.sset.length cv5), .int .i64 x.op, .int .i64 x.flags, sv x.text, .bool false, .slice none 0 0] 36 (0, 0)) := set_heap hR7
  have r9_ : (((((((((W2.setCell ⟨w.heap.size + 1, 0, none⟩ (sv x.tag)).setCell ⟨w.heap.size + 1, 1, none⟩ (.int .i64 x.kind)).setCell ⟨w.heap.size + 1, 2, none⟩ (sv x.box)).setCell ⟨w.heap.size + 1, 3, none⟩ (sv x.to)).setCell ⟨w.heap.size + 1, 4, none⟩ (.bool x.uid)).setCell ⟨w.heap.size + 1, 5, none⟩ (.slice pv5 x.sset.length cv5)).setCell ⟨w.heap.size + 1, 6, none⟩ (.int .i64 x.op)).setCell ⟨w.heap.size + 1, 7, none⟩ (.int .i64 x.flags)).setCell ⟨w.heap.size + 1, 8, none⟩ (sv x.text)).cell? ⟨w.heap.size + 1, 9, none⟩ = some (.bool false) := (Lib.cell_of_heap hR8 9).trans rfl
  have q9_ : W2.frozen? ⟨w.heap.size + 1, 9, none⟩ = false := Lib.frozen_of_heap hR 9
  have hR9 : ((((((((((W2.setCell ⟨w.heap.size + 1, 0, none⟩ (sv x.tag)).setCell ⟨w.heap.size + 1, 1, none⟩ (.int .i64 x.kind)).setCell ⟨w.heap.size + 1, 2, none⟩ (sv x.box)).setCell ⟨w.heap.size + 1, 3, none⟩ (sv x.to)).setCell ⟨w.heap.size + 1, 4, none⟩ (.bool x.uid)).setCell ⟨w.heap.size + 1, 5, none⟩ (.slice pv5 x.sset.length cv5)).setCell ⟨w.heap.size + 1, 6, none⟩ (.int .i64 x.op)).setCell ⟨w.heap.size + 1, 7, none⟩ (.int .i64 x.flags)).setCell ⟨w.heap.size + 1, 8, none⟩ (sv x.text)).setCell ⟨w.heap.size + 1, 9, none⟩ (.bool x.filter.on)).heap[w.heap.size + 1]? = some (.cells #[sv x.tag, .int .i64 x.kind, sv x.box, sv x.to, .bool x.uid, (.slice pv5 x.sset.length cv5), .int .i64 x.op, .int .i64 x.flags, sv x.text, .bool x.filter.on, .slice none 0 0] 36 (0, 0)) := set_heap hR8
  have r10_ : ((((((((((W2.setCell ⟨w.heap.size + 1, 0, none⟩ (sv x.tag)).setCell ⟨w.heap.size + 1, 1, none⟩ (.int .i64 x.kind)).setCell ⟨w.heap.size + 1, 2, none⟩ (sv x.box)).setCell ⟨w.heap.size + 1, 3, none⟩ (sv x.to)).setCell ⟨w.heap.size + 1, 4, none⟩ (.bool x.uid)).setCell ⟨w.heap.size + 1, 5, none⟩ (.slice pv5 x.sset.length cv5)).setCell ⟨w.heap.size + 1, 6, none⟩ (.int .i64 x.op)).setCell ⟨w.heap.size + 1, 7, none⟩ (.int .i64 x.flags)).setCell ⟨w.heap.size + 1, 8, none⟩ (sv x.text)).setCell ⟨w.heap.size + 1, 9, none⟩ (.bool x.filter.on)).cell? ⟨w.heap.size + 1, 10, none⟩ = some (.slice none 0 0) := (Lib.cell_of_heap hR9 10).trans rfl
  have q10_ : W2.frozen? ⟨w.heap.size + 1, 10, none⟩ = false := Lib.frozen_of_heap hR 10
  have hR10 : (((((((((((W2.setCell ⟨w.heap.size + 1, 0, none⟩ (sv x.tag)).setCell ⟨w.heap.size + 1, 1, none⟩ (.int .i64 x.kind)).setCell ⟨w.heap.size + 1, 2, none⟩ (sv x.box)).setCell ⟨w.heap.size + 1, 3, none⟩ (sv x.to)).setCell ⟨w.heap.size + 1, 4, none⟩ (.bool x.uid)).setCell ⟨w.heap.size + 1, 5, none⟩ (.slice pv5 x.sset.length cv5)).setCell ⟨w.heap.size + 1, 6, none⟩ (.int .i64 x.op)).setCell ⟨w.heap.size + 1, 7, none⟩ (.int .i64 x.flags)).setCell ⟨w.heap.size + 1, 8, none⟩ (sv x.text)).setCell ⟨w.heap.size + 1, 9, none⟩ (.bool x.filter.on)).setCell ⟨w.heap.size + 1, 10, none⟩ (.slice pv10 x.filter.scopes.length cv10)).heap[w.heap.size + 1]? = some (.cells #[sv x.tag, .int .i64 x.kind, sv x.box, sv x.to, .bool x.uid, (.slice pv5 x.sset.length cv5), .int .i64 x.op, .int .i64 x.flags, sv x.text, .bool x.filter.on, (.slice pv10 x.filter.scopes.length cv10)] 36 (0, 0)) := set_heap hR9
  have s0_ := (Lib.cell_of_heap hR10 0).trans (show _ = some (sv x.tag) from rfl)
  have s1_ := (Lib.cell_of_heap hR10 1).trans (show _ = some (.int .i64 x.kind) from rfl)
  have s2_ := (Lib.cell_of_heap hR10 2).trans (show _ = some (sv x.box) from rfl)
  have s3_ := (Lib.cell_of_heap hR10 3).trans (show _ = some (sv x.to) from rfl)
  have s4_ := (Lib.cell_of_heap hR10 4).trans (show _ = some (.bool x.uid) from rfl)
  have s5_ := (Lib.cell_of_heap hR10 5).trans (show _ = some ((.slice pv5 x.sset.length cv5)) from rfl)
  have s6_ := (Lib.cell_of_heap hR10 6).trans (show _ = some (.int .i64 x.op) from rfl)
  have s7_ := (Lib.cell_of_heap hR10 7).trans (show _ = some (.int .i64 x.flags) from rfl)
  have s8_ := (Lib.cell_of_heap hR10 8).trans (show _ = some (sv x.text) from rfl)
  have s9_ := (Lib.cell_of_heap hR10 9).trans (show _ = some (.bool x.filter.on) from rfl)
  have s10_ := (Lib.cell_of_heap hR10 10).trans (show _ = some ((.slice pv10 x.filter.scopes.length cv10)) from rfl)
  have gs : GrownIn W2 (((((((((((W2.setCell ⟨w.heap.size + 1, 0, none⟩ (sv x.tag)).setCell ⟨w.heap.size + 1, 1, none⟩ (.int .i64 x.kind)).setCell ⟨w.heap.size + 1, 2, none⟩ (sv x.box)).setCell ⟨w.heap.size + 1, 3, none⟩ (sv x.to)).setCell ⟨w.heap.size + 1, 4, none⟩ (.bool x.uid)).setCell ⟨w.heap.size + 1, 5, none⟩ (.slice pv5 x.sset.length cv5)).setCell ⟨w.heap.size + 1, 6, none⟩ (.int .i64 x.op)).setCell ⟨w.heap.size + 1, 7, none⟩ (.int .i64 x.flags)).setCell ⟨w.heap.size + 1, 8, none⟩ (sv x.text)).setCell ⟨w.heap.size + 1, 9, none⟩ (.bool x.filter.on)).setCell ⟨w.heap.size + 1, 10, none⟩ (.slice pv10 x.filter.scopes.length cv10)) [w.heap.size + 1] := (((((((((((GrownIn.refl W2 [w.heap.size + 1]).trans (GrownIn.set (by simp))).trans (GrownIn.set (by simp))).trans (GrownIn.set (by simp))).trans (GrownIn.set (by simp))).trans (GrownIn.set (by simp))).trans (GrownIn.set (by simp))).trans (GrownIn.set (by simp))).trans (GrownIn.set (by simp))).trans (GrownIn.set (by simp))).trans (GrownIn.set (by simp))).trans (GrownIn.set (by simp))
  have I5 := Lib.hid (LfIn.away i5 gs (fun k hk hm => by have := l5 k hk; simp at hm; omega))
  have I10 := Lib.hid (LfIn.away i10 gs (fun k hk hm => by have := l10 k hk; simp at hm; omega))
  have hbf := GrownIn.below hb gs hb.size (fun k hk => by simp at hk; omega)
  clear hA hR hT gs hb hR0 hR1 hR2 hR3 hR4 hR5 hR6 hR7 hR8 hR9 hR10 i5 i10
  go_wp2
  exact bodyPost_ret (v := .agg #[sv x.tag, .int .i64 x.kind, sv x.box, sv x.to, .bool x.uid, (.slice pv5 x.sset.length cv5), .int .i64 x.op, .int .i64 x.flags, sv x.text, .bool x.filter.on, (.slice pv10 x.filter.scopes.length cv10)]) (by simp [results, Try.results11, go_sem, s0_, s1_, s2_, s3_, s4_, s5_, s6_, s7_, s8_, s9_, s10_]) rfl ⟨_, _, _, _, rfl, I5.out, I10.out, by simpa using nn, fun q hq => by simp only [List.mem_append] at hq; rcases hq with hq | hq <;> first | (have h1 := l5 q hq; omega) | (have h1 := l10 q hq; omega), hbf⟩

end Go.Proofs.Ytidjebepgpbcnaa
