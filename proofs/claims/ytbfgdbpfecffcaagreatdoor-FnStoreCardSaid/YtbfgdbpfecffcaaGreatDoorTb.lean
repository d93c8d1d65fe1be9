/-
  Tb: TyStore (what the claim needs of them).
-/
import Derived.Test.YtbfgdbpfecffcaaGreatDoorRows
import Derived.WalkKit
import Derived.WalkSpells
import Derived.WalkLawsBesides
import Derived.Laws.IdiomStrings
import Derived.Lib.Hide
import Derived.Deep.AppendLies
import Derived.OrdersHeld
import Derived.Lib.ItoaNum
import Derived.Lib.ItoaMem
import Derived.Lib.AppendStr
import Derived.Lib.ItoaLen
import Derived.Lib.Strings
import Derived.Lib.Bytealg
import Derived.Lib.OthersKept
import Derived.Laws.RangeAny
import Derived.Laws.BitsAllLaws
import Derived.Laws.BitsLemmas
import Derived.IntWalk
import Derived.Handy
import Derived.Lib.Join
import Derived.Deep.Strs
import Derived.Test.YtbfgdbpfecffcaaGreatDoorProg
import Derived.Test.YtbfgdbpfecffcaaGreatDoorSb
import Derived.Test.YtbfgdbpfecffcaaGreatDoorSd
import Derived.Test.YtbfgdbpfecffcaaGreatDoorSe

namespace Go.Proofs.YtbfgdbpfecffcaaGreatDoor
open Go.RowKit

structure StoD where
  boxes : List BoxD
  log : List ComD
  given : Int

def StoD.lf (x : StoD) : List Lf := [boxsLf x.boxes, commitsLf x.log, .int x.given]
theorem StoD.len (x : StoD) : x.lf.length = 3 := rfl
def storesLf (l : List StoD) : Lf := .rows 46 3 l.length (l.flatMap StoD.lf)
theorem StoD.fit (x : StoD) : LsFit x.lf := ⟨boxsLf_fit x.boxes, commitsLf_fit x.log, trivial, trivial⟩
theorem storesLf_fit (l : List StoD) : LfFit (storesLf l) := ⟨by omega, flat_lenM StoD.len l, LsFit.flat StoD.fit l⟩
theorem StoD.sz (x : StoD) : szLs x.lf = szLf (boxsLf x.boxes) + szLf (commitsLf x.log) := by simp only [StoD.lf, szLs, szLf_int] <;> omega
theorem StoD.cnt (x : StoD) : cntLs x.lf = cntLf (boxsLf x.boxes) + cntLf (commitsLf x.log) + 1 := by simp only [StoD.lf, cntLs, cntLf_int] <;> omega
theorem StoD.rd {W : World} {x : StoD} {vs : List Value} : LsRd W x.lf vs ↔ ∃ r0, ∃ r1, vs = [r0, r1, .int .i64 x.given] ∧ LfRd W (boxsLf x.boxes) r0 ∧ LfRd W (commitsLf x.log) r1 := by
  constructor
  · rintro ⟨a0, s0, rfl, h0, a1, s1, rfl, h1, a2, s2, rfl, h2, rfl⟩
    exact ⟨a0, a1, by rw [h2], h0, h1⟩
  · rintro ⟨r0, r1, rfl, h0, h1⟩
    exact ⟨_, _, rfl, h0, _, _, rfl, h1, _, _, rfl, rfl, rfl⟩
theorem StoD.mark (x : StoD) (k : Nat) : (markLs x.lf k).1 = [(markLf (boxsLf x.boxes) (k)).1, (markLf (commitsLf x.log) (k + cntLf (boxsLf x.boxes))).1, .int ((k + cntLf (boxsLf x.boxes) + cntLf (commitsLf x.log) : Nat) : Int)] := by simp only [StoD.lf, markLs, markLf_int, markLf_cnt]
theorem StoD.rdm {W : World} {x : StoD} {k : Nat} {vs : List Value} : LsRd W (markLs x.lf k).1 vs ↔ ∃ r0, ∃ r1, vs = [r0, r1, .int .i64 ((k + cntLf (boxsLf x.boxes) + cntLf (commitsLf x.log) : Nat) : Int)] ∧ LfRd W (markLf (boxsLf x.boxes) (k)).1 r0 ∧ LfRd W (markLf (commitsLf x.log) (k + cntLf (boxsLf x.boxes))).1 r1 := by
  rw [StoD.mark]
  constructor
  · rintro ⟨a0, s0, rfl, h0, a1, s1, rfl, h1, a2, s2, rfl, h2, rfl⟩
    exact ⟨a0, a1, by rw [h2], h0, h1⟩
  · rintro ⟨r0, r1, rfl, h0, h1⟩
    exact ⟨_, _, rfl, h0, _, _, rfl, h1, _, _, rfl, rfl, rfl⟩
theorem StoD.in_of {W : World} {z0 : Lf} {z1 : Lf} {z2 : Int} {vs : List Value} {fp : List Nat} (h : LsIn W [z0, z1, .int z2] vs fp) : ∃ r0 f0, ∃ r1 f1, vs = [r0, r1, .int .i64 z2] ∧ LfIn W z0 r0 f0 ∧ LfIn W z1 r1 f1 ∧ fp = f0 ++ f1 := by
  obtain ⟨a0, s0, f0, g0, rfl, h0, ⟨a1, s1, f1, g1, rfl, h1, ⟨a2, s2, f2, g2, rfl, h2, ⟨rfl, rfl⟩, rfl⟩, rfl⟩, rfl⟩ := h
  exact ⟨a0, f0, a1, f1, by rw [h2.1], h0, h1, by rw [h2.2]; simp⟩
theorem StoD.in_mk {W : World} {z0 : Lf} {z1 : Lf} {z2 : Int} {r0 : Value} {f0 : List Nat} (h0 : LfIn W z0 r0 f0) {r1 : Value} {f1 : List Nat} (h1 : LfIn W z1 r1 f1) : LsIn W [z0, z1, .int z2] [r0, r1, .int .i64 z2] (f0 ++ f1) := by
  have h : LsIn W [z0, z1, .int z2] [r0, r1, .int .i64 z2] (f0 ++ (f1 ++ ([] ++ ([])))) := ⟨_, _, f0, _, rfl, h0, ⟨_, _, f1, _, rfl, h1, ⟨_, _, [], _, rfl, ⟨rfl, rfl⟩, ⟨rfl, rfl⟩, rfl⟩, rfl⟩, rfl⟩
  simpa using h

theorem StoD.at {W : World} {l : List StoD} {v : Value} (h : LfRd W (storesLf l) v) : ∃ p cap, v = .slice p l.length cap ∧ (l = [] ∨ ∃ b off, p = some ⟨b, off, none⟩ ∧ b < W.heap.size ∧ ∀ i x, l[i]? = some x → ∃ r0, ∃ r1, LfRd W (boxsLf x.boxes) r0 ∧ LfRd W (commitsLf x.log) r1 ∧ W.cell? ⟨b, off + i * 3, none⟩ = some (r0) ∧ W.cell? ⟨b, off + i * 3 + 1, none⟩ = some (r1) ∧ W.cell? ⟨b, off + i * 3 + 2, none⟩ = some (.int .i64 x.given)) := by
  obtain ⟨p, cap, hv, hc⟩ := rows_at StoD.len h
  refine ⟨p, cap, hv, hc.imp id fun ⟨b, off, hp, hlt, hc⟩ => ⟨b, off, hp, hlt, fun i x hi => ?_⟩⟩
  obtain ⟨us, h1, h2⟩ := hc i x hi
  obtain ⟨r0, r1, rfl, k0, k1⟩ := StoD.rd.1 h1
  exact ⟨r0, r1, k0, k1, h2 0 _ rfl, h2 1 _ rfl, h2 2 _ rfl⟩
theorem StoD.atm {W : World} {l : List StoD} {v : Value} {k0 : Nat} (h : LfRd W (markLf (storesLf l) k0).1 v) : ∃ p cap, v = .slice p l.length cap ∧ (l = [] ∨ ∃ b off, p = some ⟨b, off, none⟩ ∧ b < W.heap.size ∧ ∀ i x k, l[i]? = some x → k = k0 + cntLs ((l.take i).flatMap StoD.lf) → ∃ r0, ∃ r1, LfRd W (markLf (boxsLf x.boxes) (k)).1 r0 ∧ LfRd W (markLf (commitsLf x.log) (k + cntLf (boxsLf x.boxes))).1 r1 ∧ W.cell? ⟨b, off + i * 3, none⟩ = some (r0) ∧ W.cell? ⟨b, off + i * 3 + 1, none⟩ = some (r1) ∧ W.cell? ⟨b, off + i * 3 + 2, none⟩ = some (.int .i64 ((k + cntLf (boxsLf x.boxes) + cntLf (commitsLf x.log) : Nat) : Int))) := by
  obtain ⟨p, cap, hv, hc⟩ := rows_at_mark StoD.len h
  refine ⟨p, cap, hv, hc.imp id fun ⟨b, off, hp, hlt, hc⟩ => ⟨b, off, hp, hlt, fun i x k hi hk => ?_⟩⟩
  obtain ⟨us, h1, h2⟩ := hc i x hi
  rw [← hk] at h1
  obtain ⟨r0, r1, rfl, k0, k1⟩ := StoD.rdm.1 h1
  exact ⟨r0, r1, k0, k1, h2 0 _ rfl, h2 1 _ rfl, h2 2 _ rfl⟩

end Go.Proofs.YtbfgdbpfecffcaaGreatDoor
