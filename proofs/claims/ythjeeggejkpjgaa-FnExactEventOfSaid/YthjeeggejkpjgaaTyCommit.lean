/-
  The laws' helpers on records of the type Commit (made by tools/typegen.py).
-/
import Derived.Test.YthjeeggejkpjgaaLg
import Derived.Test.YthjeeggejkpjgaaLgB
import Derived.Handy
import Derived.IntWalk
namespace Go.Proofs.Ythjeeggejkpjgaa
open Go.RowKit

structure ComD where
  kind : Int
  validity : Int
  uid : Int
  flags : Int
  name : List UInt8
  text : List UInt8

def ComD.lf (x : ComD) : List Lf := [.int x.kind, .int x.validity, .int x.uid, .int x.flags, .str x.name, .str x.text]
theorem ComD.len (x : ComD) : x.lf.length = 6 := rfl
def commitsLf (l : List ComD) : Lf := .rows 26 6 l.length (l.flatMap ComD.lf)
theorem ComD.fit (x : ComD) : LsFit x.lf := ⟨trivial, trivial, trivial, trivial, trivial, trivial, trivial⟩
theorem commitsLf_fit (l : List ComD) : LfFit (commitsLf l) := ⟨by omega, flat_lenM ComD.len l, LsFit.flat ComD.fit l⟩
theorem ComD.sz (x : ComD) : szLs x.lf = x.name.length + x.text.length := by simp only [ComD.lf, szLs, szLf_int, szLf_str] <;> omega
theorem ComD.cnt (x : ComD) : cntLs x.lf = 1 + 1 + 1 + 1 + 1 + 1 := by simp only [ComD.lf, cntLs, cntLf_int, cntLf_str] <;> omega
theorem ComD.rd {W : World} {x : ComD} {vs : List Value} : LsRd W x.lf vs ↔ vs = [.int .i64 x.kind, .int .i64 x.validity, .int .i64 x.uid, .int .i64 x.flags, sv x.name, sv x.text] := by
  constructor
  · rintro ⟨a0, s0, rfl, h0, a1, s1, rfl, h1, a2, s2, rfl, h2, a3, s3, rfl, h3, a4, s4, rfl, h4, a5, s5, rfl, h5, rfl⟩
    exact by rw [h0, h1, h2, h3, h4, h5]
  · rintro rfl
    exact ⟨_, _, rfl, rfl, _, _, rfl, rfl, _, _, rfl, rfl, _, _, rfl, rfl, _, _, rfl, rfl, _, _, rfl, rfl, rfl⟩
theorem ComD.mark (x : ComD) (k : Nat) : (markLs x.lf k).1 = [.int ((k : Nat) : Int), .int ((k + 1 : Nat) : Int), .int ((k + 1 + 1 : Nat) : Int), .int ((k + 1 + 1 + 1 : Nat) : Int), .str (markB (k + 1 + 1 + 1 + 1)), .str (markB (k + 1 + 1 + 1 + 1 + 1))] := by simp only [ComD.lf, markLs, markLf_int, markLf_str]
theorem ComD.rdm {W : World} {x : ComD} {k : Nat} {vs : List Value} : LsRd W (markLs x.lf k).1 vs ↔ vs = [.int .i64 ((k : Nat) : Int), .int .i64 ((k + 1 : Nat) : Int), .int .i64 ((k + 1 + 1 : Nat) : Int), .int .i64 ((k + 1 + 1 + 1 : Nat) : Int), sv (markB (k + 1 + 1 + 1 + 1)), sv (markB (k + 1 + 1 + 1 + 1 + 1))] := by
  rw [ComD.mark]
  constructor
  · rintro ⟨a0, s0, rfl, h0, a1, s1, rfl, h1, a2, s2, rfl, h2, a3, s3, rfl, h3, a4, s4, rfl, h4, a5, s5, rfl, h5, rfl⟩
    exact by rw [h0, h1, h2, h3, h4, h5]
  · rintro rfl
    exact ⟨_, _, rfl, rfl, _, _, rfl, rfl, _, _, rfl, rfl, _, _, rfl, rfl, _, _, rfl, rfl, _, _, rfl, rfl, rfl⟩
theorem ComD.in_of {W : World} {z0 : Int} {z1 : Int} {z2 : Int} {z3 : Int} {z4 : List UInt8} {z5 : List UInt8} {vs : List Value} {fp : List Nat} (h : LsIn W [.int z0, .int z1, .int z2, .int z3, .str z4, .str z5] vs fp) : vs = [.int .i64 z0, .int .i64 z1, .int .i64 z2, .int .i64 z3, sv z4, sv z5] ∧ fp = [] := by
  obtain ⟨a0, s0, f0, g0, rfl, h0, ⟨a1, s1, f1, g1, rfl, h1, ⟨a2, s2, f2, g2, rfl, h2, ⟨a3, s3, f3, g3, rfl, h3, ⟨a4, s4, f4, g4, rfl, h4, ⟨a5, s5, f5, g5, rfl, h5, ⟨rfl, rfl⟩, rfl⟩, rfl⟩, rfl⟩, rfl⟩, rfl⟩, rfl⟩ := h
  exact ⟨by rw [h0.1, h1.1, h2.1, h3.1, h4.1, h5.1], by rw [h0.2, h1.2, h2.2, h3.2, h4.2, h5.2]; simp⟩
theorem ComD.in_mk {W : World} {z0 : Int} {z1 : Int} {z2 : Int} {z3 : Int} {z4 : List UInt8} {z5 : List UInt8}  : LsIn W [.int z0, .int z1, .int z2, .int z3, .str z4, .str z5] [.int .i64 z0, .int .i64 z1, .int .i64 z2, .int .i64 z3, sv z4, sv z5] ([]) := by
  have h : LsIn W [.int z0, .int z1, .int z2, .int z3, .str z4, .str z5] [.int .i64 z0, .int .i64 z1, .int .i64 z2, .int .i64 z3, sv z4, sv z5] ([] ++ ([] ++ ([] ++ ([] ++ ([] ++ ([] ++ ([]))))))) := ⟨_, _, [], _, rfl, ⟨rfl, rfl⟩, ⟨_, _, [], _, rfl, ⟨rfl, rfl⟩, ⟨_, _, [], _, rfl, ⟨rfl, rfl⟩, ⟨_, _, [], _, rfl, ⟨rfl, rfl⟩, ⟨_, _, [], _, rfl, ⟨rfl, rfl⟩, ⟨_, _, [], _, rfl, ⟨rfl, rfl⟩, ⟨rfl, rfl⟩, rfl⟩, rfl⟩, rfl⟩, rfl⟩, rfl⟩, rfl⟩
  simpa using h

theorem ComD.at {W : World} {l : List ComD} {v : Value} (h : LfRd W (commitsLf l) v) : ∃ p cap, v = .slice p l.length cap ∧ (l = [] ∨ ∃ b off, p = some ⟨b, off, none⟩ ∧ b < W.heap.size ∧ ∀ i x, l[i]? = some x → W.cell? ⟨b, off + i * 6, none⟩ = some (.int .i64 x.kind) ∧ W.cell? ⟨b, off + i * 6 + 1, none⟩ = some (.int .i64 x.validity) ∧ W.cell? ⟨b, off + i * 6 + 2, none⟩ = some (.int .i64 x.uid) ∧ W.cell? ⟨b, off + i * 6 + 3, none⟩ = some (.int .i64 x.flags) ∧ W.cell? ⟨b, off + i * 6 + 4, none⟩ = some (sv x.name) ∧ W.cell? ⟨b, off + i * 6 + 5, none⟩ = some (sv x.text)) := by
  obtain ⟨p, cap, hv, hc⟩ := rows_at ComD.len h
  refine ⟨p, cap, hv, hc.imp id fun ⟨b, off, hp, hlt, hc⟩ => ⟨b, off, hp, hlt, fun i x hi => ?_⟩⟩
  obtain ⟨us, h1, h2⟩ := hc i x hi
  obtain rfl := ComD.rd.1 h1
  exact ⟨h2 0 _ rfl, h2 1 _ rfl, h2 2 _ rfl, h2 3 _ rfl, h2 4 _ rfl, h2 5 _ rfl⟩
theorem ComD.atm {W : World} {l : List ComD} {v : Value} {k0 : Nat} (h : LfRd W (markLf (commitsLf l) k0).1 v) : ∃ p cap, v = .slice p l.length cap ∧ (l = [] ∨ ∃ b off, p = some ⟨b, off, none⟩ ∧ b < W.heap.size ∧ ∀ i x k, l[i]? = some x → k = k0 + cntLs ((l.take i).flatMap ComD.lf) → W.cell? ⟨b, off + i * 6, none⟩ = some (.int .i64 ((k : Nat) : Int)) ∧ W.cell? ⟨b, off + i * 6 + 1, none⟩ = some (.int .i64 ((k + 1 : Nat) : Int)) ∧ W.cell? ⟨b, off + i * 6 + 2, none⟩ = some (.int .i64 ((k + 1 + 1 : Nat) : Int)) ∧ W.cell? ⟨b, off + i * 6 + 3, none⟩ = some (.int .i64 ((k + 1 + 1 + 1 : Nat) : Int)) ∧ W.cell? ⟨b, off + i * 6 + 4, none⟩ = some (sv (markB (k + 1 + 1 + 1 + 1))) ∧ W.cell? ⟨b, off + i * 6 + 5, none⟩ = some (sv (markB (k + 1 + 1 + 1 + 1 + 1)))) := by
  obtain ⟨p, cap, hv, hc⟩ := rows_at_mark ComD.len h
  refine ⟨p, cap, hv, hc.imp id fun ⟨b, off, hp, hlt, hc⟩ => ⟨b, off, hp, hlt, fun i x k hi hk => ?_⟩⟩
  obtain ⟨us, h1, h2⟩ := hc i x hi
  rw [← hk] at h1
  obtain rfl := ComD.rdm.1 h1
  exact ⟨h2 0 _ rfl, h2 1 _ rfl, h2 2 _ rfl, h2 3 _ rfl, h2 4 _ rfl, h2 5 _ rfl⟩

set_option maxHeartbeats 1600000 in
theorem szCommit_g (x : ComD) (ll : Int) (left : Nat) (hll : ll = (left : Int)) (w : World) (hin : LsBnd x.lf) (hL : left ≤ 1000000000000) :
    Calls Try.prog 5 #[.agg #[.int .i64 x.kind, .int .i64 x.validity, .int .i64 x.uid, .int .i64 x.flags, sv x.name, sv x.text], .int .i64 ll] w fun e w' => e = .returned (.int .i64 (szN left (szLs x.lf))) ∧ Below w.heap.size w w' := by
  subst hll
  have hb1 : Below w.heap.size w (w.alloc (.cells #[.int .i64 x.kind, .int .i64 x.validity, .int .i64 x.uid, .int .i64 x.flags, sv x.name, sv x.text] 23)) := (Below.refl _ _).alloc (Nat.le_refl _) _
  have HA1 := Lib.hid (heap_alloc_new w (.cells #[.int .i64 x.kind, .int .i64 x.validity, .int .i64 x.uid, .int .i64 x.flags, sv x.name, sv x.text] 23))
  have hsz := ComD.sz x
  have bn_4 : x.name.length ≤ 9223372036854775807 := hin.2.2.2.2.1
  have bz_4 : (ByteArray.mk x.name.toArray).size = x.name.length := by show x.name.toArray.size = _; simp
  have bn_5 : x.text.length ≤ 9223372036854775807 := hin.2.2.2.2.2.1
  have bz_5 : (ByteArray.mk x.text.toArray).size = x.text.length := by show x.text.toArray.size = _; simp
  clear hin
  by_cases k0 : x.name.length ≤ left
  · obtain ⟨L1, hL1⟩ : ∃ L, L + x.name.length = left := ⟨left - x.name.length, by omega⟩
    have n0 : ¬ (left : Int) - (x.name.length : Int) < 0 := by omega
    have bL1 : L1 ≤ 1000000000000 := by omega
    have HL1 := Lib.hid hL1
    by_cases k1 : x.text.length ≤ L1
    · obtain ⟨L2, hL2⟩ : ∃ L, L + x.text.length = L1 := ⟨L1 - x.text.length, by omega⟩
      have n1 : ¬ (left : Int) - (x.name.length : Int) - (x.text.length : Int) < 0 := by omega
      have bL2 : L2 ≤ 1000000000000 := by omega
      have HL2 := Lib.hid hL2
      have HV := Lib.hid (show szN left (szLs x.lf) = (left : Int) - (x.name.length : Int) - (x.text.length : Int) by rw [hsz, szN_yes (by omega)]; omega)
      clear hsz hL1 hL2

      go_enter Try.func5, Try.ntmps5
      go_wp2
      go_ret
      exact ⟨by rw [HV.out]; rfl, hb1⟩
    · have HV := Lib.hid (show szN left (szLs x.lf) = -1 by rw [hsz]; exact szN_no (by omega))
      have n1 : (left : Int) - (x.name.length : Int) - (x.text.length : Int) < 0 := by omega
      clear hsz hL1

      go_enter Try.func5, Try.ntmps5
      go_wp2
      go_ret
      exact ⟨by rw [HV.out]; rfl, hb1⟩
  · have HV := Lib.hid (show szN left (szLs x.lf) = -1 by rw [hsz]; exact szN_no (by omega))
    have n0 : (left : Int) - (x.name.length : Int) < 0 := by omega
    clear hsz

    go_enter Try.func5, Try.ntmps5
    go_wp2
    go_ret
    exact ⟨by rw [HV.out]; rfl, hb1⟩

set_option maxRecDepth 20000 in
set_option maxHeartbeats 6400000 in
theorem toCommit_g (x : ComD) (w : World) (_hs : szLs x.lf ≤ 10000000) :
    Calls Try.prog 7 #[.agg #[.int .i64 x.kind, .int .i64 x.validity, .int .i64 x.uid, .int .i64 x.flags, sv x.name, sv x.text]] w fun e w' => e = .returned (.agg #[.int .i64 x.kind, .int .i64 x.validity, .int .i64 x.uid, .int .i64 x.flags, sv x.name, sv x.text]) ∧ Below w.heap.size w w' := by
  go_enter Try.func7, Try.ntmps7
  go_wp2
  go_returns
  exact ⟨rfl, (((Below.refl _ _).alloc (Nat.le_refl _) _).alloc (by simp) _).alloc (by simp; omega) _⟩

end Go.Proofs.Ythjeeggejkpjgaa
