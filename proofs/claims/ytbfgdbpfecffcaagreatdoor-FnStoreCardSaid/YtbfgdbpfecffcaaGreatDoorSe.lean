/-
  Se: TyCommit TyMsg TyBox FlagA (what the claim needs of them).
-/
import Derived.Test.YtbfgdbpfecffcaaGreatDoorRows
import Derived.WalkKit
import Derived.WalkSpells
import Derived.WalkLawsBesides
import Derived.Laws.IdiomStrings
import Derived.Lib.Hide
import Derived.Deep.AppendLies
import Derived.OrdersHeld
import Derived.Lib.ItoaNum
import Derived.Lib.ItoaMem
import Derived.Lib.AppendStr
import Derived.Lib.ItoaLen
import Derived.Lib.Strings
import Derived.Lib.Bytealg
import Derived.Lib.OthersKept
import Derived.Laws.RangeAny
import Derived.Laws.BitsAllLaws
import Derived.Laws.BitsLemmas
import Derived.IntWalk
import Derived.Handy
import Derived.Lib.Join
import Derived.Deep.Strs
import Derived.Test.YtbfgdbpfecffcaaGreatDoorProg
import Derived.Test.YtbfgdbpfecffcaaGreatDoorSb
import Derived.Test.YtbfgdbpfecffcaaGreatDoorSc
import Derived.Test.YtbfgdbpfecffcaaGreatDoorSd

namespace Go.Proofs.YtbfgdbpfecffcaaGreatDoor
open Go.RowKit

structure ComD where
  kind : Int
  validity : Int
  uid : Int
  flags : Int
  name : List UInt8
  text : List UInt8

def ComD.lf (x : ComD) : List Lf := [.int x.kind, .int x.validity, .int x.uid, .int x.flags, .str x.name, .str x.text]
theorem ComD.len (x : ComD) : x.lf.length = 6 := rfl
def commitsLf (l : List ComD) : Lf := .rows 26 6 l.length (l.flatMap ComD.lf)
theorem ComD.fit (x : ComD) : LsFit x.lf := ⟨trivial, trivial, trivial, trivial, trivial, trivial, trivial⟩
theorem commitsLf_fit (l : List ComD) : LfFit (commitsLf l) := ⟨by omega, flat_lenM ComD.len l, LsFit.flat ComD.fit l⟩
theorem ComD.sz (x : ComD) : szLs x.lf = x.name.length + x.text.length := by simp only [ComD.lf, szLs, szLf_int, szLf_str] <;> omega
theorem ComD.cnt (x : ComD) : cntLs x.lf = 1 + 1 + 1 + 1 + 1 + 1 := by simp only [ComD.lf, cntLs, cntLf_int, cntLf_str] <;> omega
theorem ComD.rd {W : World} {x : ComD} {vs : List Value} : LsRd W x.lf vs ↔ vs = [.int .i64 x.kind, .int .i64 x.validity, .int .i64 x.uid, .int .i64 x.flags, sv x.name, sv x.text] := by
  constructor
  · rintro ⟨a0, s0, rfl, h0, a1, s1, rfl, h1, a2, s2, rfl, h2, a3, s3, rfl, h3, a4, s4, rfl, h4, a5, s5, rfl, h5, rfl⟩
    exact by rw [h0, h1, h2, h3, h4, h5]
  · rintro rfl
    exact ⟨_, _, rfl, rfl, _, _, rfl, rfl, _, _, rfl, rfl, _, _, rfl, rfl, _, _, rfl, rfl, _, _, rfl, rfl, rfl⟩
theorem ComD.mark (x : ComD) (k : Nat) : (markLs x.lf k).1 = [.int ((k : Nat) : Int), .int ((k + 1 : Nat) : Int), .int ((k + 1 + 1 : Nat) : Int), .int ((k + 1 + 1 + 1 : Nat) : Int), .str (markB (k + 1 + 1 + 1 + 1)), .str (markB (k + 1 + 1 + 1 + 1 + 1))] := by simp only [ComD.lf, markLs, markLf_int, markLf_str]
theorem ComD.rdm {W : World} {x : ComD} {k : Nat} {vs : List Value} : LsRd W (markLs x.lf k).1 vs ↔ vs = [.int .i64 ((k : Nat) : Int), .int .i64 ((k + 1 : Nat) : Int), .int .i64 ((k + 1 + 1 : Nat) : Int), .int .i64 ((k + 1 + 1 + 1 : Nat) : Int), sv (markB (k + 1 + 1 + 1 + 1)), sv (markB (k + 1 + 1 + 1 + 1 + 1))] := by
  rw [ComD.mark]
  constructor
  · rintro ⟨a0, s0, rfl, h0, a1, s1, rfl, h1, a2, s2, rfl, h2, a3, s3, rfl, h3, a4, s4, rfl, h4, a5, s5, rfl, h5, rfl⟩
    exact by rw [h0, h1, h2, h3, h4, h5]
  · rintro rfl
    exact ⟨_, _, rfl, rfl, _, _, rfl, rfl, _, _, rfl, rfl, _, _, rfl, rfl, _, _, rfl, rfl, _, _, rfl, rfl, rfl⟩
theorem ComD.in_of {W : World} {z0 : Int} {z1 : Int} {z2 : Int} {z3 : Int} {z4 : List UInt8} {z5 : List UInt8} {vs : List Value} {fp : List Nat} (h : LsIn W [.int z0, .int z1, .int z2, .int z3, .str z4, .str z5] vs fp) : vs = [.int .i64 z0, .int .i64 z1, .int .i64 z2, .int .i64 z3, sv z4, sv z5] ∧ fp = [] := by
  obtain ⟨a0, s0, f0, g0, rfl, h0, ⟨a1, s1, f1, g1, rfl, h1, ⟨a2, s2, f2, g2, rfl, h2, ⟨a3, s3, f3, g3, rfl, h3, ⟨a4, s4, f4, g4, rfl, h4, ⟨a5, s5, f5, g5, rfl, h5, ⟨rfl, rfl⟩, rfl⟩, rfl⟩, rfl⟩, rfl⟩, rfl⟩, rfl⟩ := h
  exact ⟨by rw [h0.1, h1.1, h2.1, h3.1, h4.1, h5.1], by rw [h0.2, h1.2, h2.2, h3.2, h4.2, h5.2]; simp⟩
theorem ComD.in_mk {W : World} {z0 : Int} {z1 : Int} {z2 : Int} {z3 : Int} {z4 : List UInt8} {z5 : List UInt8}  : LsIn W [.int z0, .int z1, .int z2, .int z3, .str z4, .str z5] [.int .i64 z0, .int .i64 z1, .int .i64 z2, .int .i64 z3, sv z4, sv z5] ([]) := by
  have h : LsIn W [.int z0, .int z1, .int z2, .int z3, .str z4, .str z5] [.int .i64 z0, .int .i64 z1, .int .i64 z2, .int .i64 z3, sv z4, sv z5] ([] ++ ([] ++ ([] ++ ([] ++ ([] ++ ([] ++ ([]))))))) := ⟨_, _, [], _, rfl, ⟨rfl, rfl⟩, ⟨_, _, [], _, rfl, ⟨rfl, rfl⟩, ⟨_, _, [], _, rfl, ⟨rfl, rfl⟩, ⟨_, _, [], _, rfl, ⟨rfl, rfl⟩, ⟨_, _, [], _, rfl, ⟨rfl, rfl⟩, ⟨_, _, [], _, rfl, ⟨rfl, rfl⟩, ⟨rfl, rfl⟩, rfl⟩, rfl⟩, rfl⟩, rfl⟩, rfl⟩, rfl⟩
  simpa using h

theorem Tryz.el_commit : Elem Tryz.prog 40 26 6 64 := Elem.mk' (z := .agg #[.int .i64 0, .int .i64 0, .int .i64 0, .int .i64 0, .string ⟨#[]⟩, .string ⟨#[]⟩]) Tryz.underlying40 (by kernel_rfl) rfl (by omega)

theorem ComD.at {W : World} {l : List ComD} {v : Value} (h : LfRd W (commitsLf l) v) : ∃ p cap, v = .slice p l.length cap ∧ (l = [] ∨ ∃ b off, p = some ⟨b, off, none⟩ ∧ b < W.heap.size ∧ ∀ i x, l[i]? = some x → W.cell? ⟨b, off + i * 6, none⟩ = some (.int .i64 x.kind) ∧ W.cell? ⟨b, off + i * 6 + 1, none⟩ = some (.int .i64 x.validity) ∧ W.cell? ⟨b, off + i * 6 + 2, none⟩ = some (.int .i64 x.uid) ∧ W.cell? ⟨b, off + i * 6 + 3, none⟩ = some (.int .i64 x.flags) ∧ W.cell? ⟨b, off + i * 6 + 4, none⟩ = some (sv x.name) ∧ W.cell? ⟨b, off + i * 6 + 5, none⟩ = some (sv x.text)) := by
  obtain ⟨p, cap, hv, hc⟩ := rows_at ComD.len h
  refine ⟨p, cap, hv, hc.imp id fun ⟨b, off, hp, hlt, hc⟩ => ⟨b, off, hp, hlt, fun i x hi => ?_⟩⟩
  obtain ⟨us, h1, h2⟩ := hc i x hi
  obtain rfl := ComD.rd.1 h1
  exact ⟨h2 0 _ rfl, h2 1 _ rfl, h2 2 _ rfl, h2 3 _ rfl, h2 4 _ rfl, h2 5 _ rfl⟩
theorem ComD.atm {W : World} {l : List ComD} {v : Value} {k0 : Nat} (h : LfRd W (markLf (commitsLf l) k0).1 v) : ∃ p cap, v = .slice p l.length cap ∧ (l = [] ∨ ∃ b off, p = some ⟨b, off, none⟩ ∧ b < W.heap.size ∧ ∀ i x k, l[i]? = some x → k = k0 + cntLs ((l.take i).flatMap ComD.lf) → W.cell? ⟨b, off + i * 6, none⟩ = some (.int .i64 ((k : Nat) : Int)) ∧ W.cell? ⟨b, off + i * 6 + 1, none⟩ = some (.int .i64 ((k + 1 : Nat) : Int)) ∧ W.cell? ⟨b, off + i * 6 + 2, none⟩ = some (.int .i64 ((k + 1 + 1 : Nat) : Int)) ∧ W.cell? ⟨b, off + i * 6 + 3, none⟩ = some (.int .i64 ((k + 1 + 1 + 1 : Nat) : Int)) ∧ W.cell? ⟨b, off + i * 6 + 4, none⟩ = some (sv (markB (k + 1 + 1 + 1 + 1))) ∧ W.cell? ⟨b, off + i * 6 + 5, none⟩ = some (sv (markB (k + 1 + 1 + 1 + 1 + 1)))) := by
  obtain ⟨p, cap, hv, hc⟩ := rows_at_mark ComD.len h
  refine ⟨p, cap, hv, hc.imp id fun ⟨b, off, hp, hlt, hc⟩ => ⟨b, off, hp, hlt, fun i x k hi hk => ?_⟩⟩
  obtain ⟨us, h1, h2⟩ := hc i x hi
  rw [← hk] at h1
  obtain rfl := ComD.rdm.1 h1
  exact ⟨h2 0 _ rfl, h2 1 _ rfl, h2 2 _ rfl, h2 3 _ rfl, h2 4 _ rfl, h2 5 _ rfl⟩

end Go.Proofs.YtbfgdbpfecffcaaGreatDoor

namespace Go.Proofs.YtbfgdbpfecffcaaGreatDoor
open Go.RowKit

structure MsgD where
  uid : Int
  flags : Int
  text : List UInt8

def MsgD.lf (x : MsgD) : List Lf := [.int x.uid, .int x.flags, .str x.text]
theorem MsgD.len (x : MsgD) : x.lf.length = 3 := rfl
def msgsLf (l : List MsgD) : Lf := .rows 87 3 l.length (l.flatMap MsgD.lf)
theorem MsgD.fit (x : MsgD) : LsFit x.lf := ⟨trivial, trivial, trivial, trivial⟩
theorem msgsLf_fit (l : List MsgD) : LfFit (msgsLf l) := ⟨by omega, flat_lenM MsgD.len l, LsFit.flat MsgD.fit l⟩
theorem MsgD.sz (x : MsgD) : szLs x.lf = x.text.length := by simp only [MsgD.lf, szLs, szLf_int, szLf_str] <;> omega
theorem MsgD.cnt (x : MsgD) : cntLs x.lf = 1 + 1 + 1 := by simp only [MsgD.lf, cntLs, cntLf_int, cntLf_str] <;> omega
theorem MsgD.rd {W : World} {x : MsgD} {vs : List Value} : LsRd W x.lf vs ↔ vs = [.int .i64 x.uid, .int .i64 x.flags, sv x.text] := by
  constructor
  · rintro ⟨a0, s0, rfl, h0, a1, s1, rfl, h1, a2, s2, rfl, h2, rfl⟩
    exact by rw [h0, h1, h2]
  · rintro rfl
    exact ⟨_, _, rfl, rfl, _, _, rfl, rfl, _, _, rfl, rfl, rfl⟩
theorem MsgD.mark (x : MsgD) (k : Nat) : (markLs x.lf k).1 = [.int ((k : Nat) : Int), .int ((k + 1 : Nat) : Int), .str (markB (k + 1 + 1))] := by simp only [MsgD.lf, markLs, markLf_int, markLf_str]
theorem MsgD.rdm {W : World} {x : MsgD} {k : Nat} {vs : List Value} : LsRd W (markLs x.lf k).1 vs ↔ vs = [.int .i64 ((k : Nat) : Int), .int .i64 ((k + 1 : Nat) : Int), sv (markB (k + 1 + 1))] := by
  rw [MsgD.mark]
  constructor
  · rintro ⟨a0, s0, rfl, h0, a1, s1, rfl, h1, a2, s2, rfl, h2, rfl⟩
    exact by rw [h0, h1, h2]
  · rintro rfl
    exact ⟨_, _, rfl, rfl, _, _, rfl, rfl, _, _, rfl, rfl, rfl⟩
theorem MsgD.in_of {W : World} {z0 : Int} {z1 : Int} {z2 : List UInt8} {vs : List Value} {fp : List Nat} (h : LsIn W [.int z0, .int z1, .str z2] vs fp) : vs = [.int .i64 z0, .int .i64 z1, sv z2] ∧ fp = [] := by
  obtain ⟨a0, s0, f0, g0, rfl, h0, ⟨a1, s1, f1, g1, rfl, h1, ⟨a2, s2, f2, g2, rfl, h2, ⟨rfl, rfl⟩, rfl⟩, rfl⟩, rfl⟩ := h
  exact ⟨by rw [h0.1, h1.1, h2.1], by rw [h0.2, h1.2, h2.2]; simp⟩
theorem MsgD.in_mk {W : World} {z0 : Int} {z1 : Int} {z2 : List UInt8}  : LsIn W [.int z0, .int z1, .str z2] [.int .i64 z0, .int .i64 z1, sv z2] ([]) := by
  have h : LsIn W [.int z0, .int z1, .str z2] [.int .i64 z0, .int .i64 z1, sv z2] ([] ++ ([] ++ ([] ++ ([])))) := ⟨_, _, [], _, rfl, ⟨rfl, rfl⟩, ⟨_, _, [], _, rfl, ⟨rfl, rfl⟩, ⟨_, _, [], _, rfl, ⟨rfl, rfl⟩, ⟨rfl, rfl⟩, rfl⟩, rfl⟩, rfl⟩
  simpa using h

theorem Tryz.el_msg : Elem Tryz.prog 36 87 3 32 := Elem.mk' (z := .agg #[.int .i64 0, .int .i64 0, .string ⟨#[]⟩]) Tryz.underlying36 (by kernel_rfl) rfl (by omega)

theorem MsgD.at {W : World} {l : List MsgD} {v : Value} (h : LfRd W (msgsLf l) v) : ∃ p cap, v = .slice p l.length cap ∧ (l = [] ∨ ∃ b off, p = some ⟨b, off, none⟩ ∧ b < W.heap.size ∧ ∀ i x, l[i]? = some x → W.cell? ⟨b, off + i * 3, none⟩ = some (.int .i64 x.uid) ∧ W.cell? ⟨b, off + i * 3 + 1, none⟩ = some (.int .i64 x.flags) ∧ W.cell? ⟨b, off + i * 3 + 2, none⟩ = some (sv x.text)) := by
  obtain ⟨p, cap, hv, hc⟩ := rows_at MsgD.len h
  refine ⟨p, cap, hv, hc.imp id fun ⟨b, off, hp, hlt, hc⟩ => ⟨b, off, hp, hlt, fun i x hi => ?_⟩⟩
  obtain ⟨us, h1, h2⟩ := hc i x hi
  obtain rfl := MsgD.rd.1 h1
  exact ⟨h2 0 _ rfl, h2 1 _ rfl, h2 2 _ rfl⟩
theorem MsgD.atm {W : World} {l : List MsgD} {v : Value} {k0 : Nat} (h : LfRd W (markLf (msgsLf l) k0).1 v) : ∃ p cap, v = .slice p l.length cap ∧ (l = [] ∨ ∃ b off, p = some ⟨b, off, none⟩ ∧ b < W.heap.size ∧ ∀ i x k, l[i]? = some x → k = k0 + cntLs ((l.take i).flatMap MsgD.lf) → W.cell? ⟨b, off + i * 3, none⟩ = some (.int .i64 ((k : Nat) : Int)) ∧ W.cell? ⟨b, off + i * 3 + 1, none⟩ = some (.int .i64 ((k + 1 : Nat) : Int)) ∧ W.cell? ⟨b, off + i * 3 + 2, none⟩ = some (sv (markB (k + 1 + 1)))) := by
  obtain ⟨p, cap, hv, hc⟩ := rows_at_mark MsgD.len h
  refine ⟨p, cap, hv, hc.imp id fun ⟨b, off, hp, hlt, hc⟩ => ⟨b, off, hp, hlt, fun i x k hi hk => ?_⟩⟩
  obtain ⟨us, h1, h2⟩ := hc i x hi
  rw [← hk] at h1
  obtain rfl := MsgD.rdm.1 h1
  exact ⟨h2 0 _ rfl, h2 1 _ rfl, h2 2 _ rfl⟩

end Go.Proofs.YtbfgdbpfecffcaaGreatDoor

namespace Go.Proofs.YtbfgdbpfecffcaaGreatDoor
open Go.RowKit

structure BoxD where
  name : List UInt8
  validity : Int
  next : Int
  msgs : List MsgD

def BoxD.lf (x : BoxD) : List Lf := [.str x.name, .int x.validity, .int x.next, msgsLf x.msgs]
theorem BoxD.len (x : BoxD) : x.lf.length = 4 := rfl
def boxsLf (l : List BoxD) : Lf := .rows 38 4 l.length (l.flatMap BoxD.lf)
theorem BoxD.fit (x : BoxD) : LsFit x.lf := ⟨trivial, trivial, trivial, msgsLf_fit x.msgs, trivial⟩
theorem boxsLf_fit (l : List BoxD) : LfFit (boxsLf l) := ⟨by omega, flat_lenM BoxD.len l, LsFit.flat BoxD.fit l⟩
theorem BoxD.sz (x : BoxD) : szLs x.lf = x.name.length + szLf (msgsLf x.msgs) := by simp only [BoxD.lf, szLs, szLf_int, szLf_str] <;> omega
theorem BoxD.cnt (x : BoxD) : cntLs x.lf = 1 + 1 + 1 + cntLf (msgsLf x.msgs) := by simp only [BoxD.lf, cntLs, cntLf_int, cntLf_str] <;> omega
theorem BoxD.rd {W : World} {x : BoxD} {vs : List Value} : LsRd W x.lf vs ↔ ∃ r3, vs = [sv x.name, .int .i64 x.validity, .int .i64 x.next, r3] ∧ LfRd W (msgsLf x.msgs) r3 := by
  constructor
  · rintro ⟨a0, s0, rfl, h0, a1, s1, rfl, h1, a2, s2, rfl, h2, a3, s3, rfl, h3, rfl⟩
    exact ⟨a3, by rw [h0, h1, h2], h3⟩
  · rintro ⟨r3, rfl, h3⟩
    exact ⟨_, _, rfl, rfl, _, _, rfl, rfl, _, _, rfl, rfl, _, _, rfl, h3, rfl⟩
theorem BoxD.mark (x : BoxD) (k : Nat) : (markLs x.lf k).1 = [.str (markB (k)), .int ((k + 1 : Nat) : Int), .int ((k + 1 + 1 : Nat) : Int), (markLf (msgsLf x.msgs) (k + 1 + 1 + 1)).1] := by simp only [BoxD.lf, markLs, markLf_int, markLf_str, markLf_cnt]
theorem BoxD.rdm {W : World} {x : BoxD} {k : Nat} {vs : List Value} : LsRd W (markLs x.lf k).1 vs ↔ ∃ r3, vs = [sv (markB (k)), .int .i64 ((k + 1 : Nat) : Int), .int .i64 ((k + 1 + 1 : Nat) : Int), r3] ∧ LfRd W (markLf (msgsLf x.msgs) (k + 1 + 1 + 1)).1 r3 := by
  rw [BoxD.mark]
  constructor
  · rintro ⟨a0, s0, rfl, h0, a1, s1, rfl, h1, a2, s2, rfl, h2, a3, s3, rfl, h3, rfl⟩
    exact ⟨a3, by rw [h0, h1, h2], h3⟩
  · rintro ⟨r3, rfl, h3⟩
    exact ⟨_, _, rfl, rfl, _, _, rfl, rfl, _, _, rfl, rfl, _, _, rfl, h3, rfl⟩
theorem BoxD.in_of {W : World} {z0 : List UInt8} {z1 : Int} {z2 : Int} {z3 : Lf} {vs : List Value} {fp : List Nat} (h : LsIn W [.str z0, .int z1, .int z2, z3] vs fp) : ∃ r3 f3, vs = [sv z0, .int .i64 z1, .int .i64 z2, r3] ∧ LfIn W z3 r3 f3 ∧ fp = f3 := by
  obtain ⟨a0, s0, f0, g0, rfl, h0, ⟨a1, s1, f1, g1, rfl, h1, ⟨a2, s2, f2, g2, rfl, h2, ⟨a3, s3, f3, g3, rfl, h3, ⟨rfl, rfl⟩, rfl⟩, rfl⟩, rfl⟩, rfl⟩ := h
  exact ⟨a3, f3, by rw [h0.1, h1.1, h2.1], h3, by rw [h0.2, h1.2, h2.2]; simp⟩
theorem BoxD.in_mk {W : World} {z0 : List UInt8} {z1 : Int} {z2 : Int} {z3 : Lf} {r3 : Value} {f3 : List Nat} (h3 : LfIn W z3 r3 f3) : LsIn W [.str z0, .int z1, .int z2, z3] [sv z0, .int .i64 z1, .int .i64 z2, r3] (f3) := by
  have h : LsIn W [.str z0, .int z1, .int z2, z3] [sv z0, .int .i64 z1, .int .i64 z2, r3] ([] ++ ([] ++ ([] ++ (f3 ++ ([]))))) := ⟨_, _, [], _, rfl, ⟨rfl, rfl⟩, ⟨_, _, [], _, rfl, ⟨rfl, rfl⟩, ⟨_, _, [], _, rfl, ⟨rfl, rfl⟩, ⟨_, _, f3, _, rfl, h3, ⟨rfl, rfl⟩, rfl⟩, rfl⟩, rfl⟩, rfl⟩
  simpa using h

theorem Tryz.el_box : Elem Tryz.prog 24 38 4 56 := Elem.mk' (z := .agg #[.string ⟨#[]⟩, .int .i64 0, .int .i64 0, .slice none 0 0]) Tryz.underlying24 (by kernel_rfl) rfl (by omega)

theorem BoxD.at {W : World} {l : List BoxD} {v : Value} (h : LfRd W (boxsLf l) v) : ∃ p cap, v = .slice p l.length cap ∧ (l = [] ∨ ∃ b off, p = some ⟨b, off, none⟩ ∧ b < W.heap.size ∧ ∀ i x, l[i]? = some x → ∃ r3, LfRd W (msgsLf x.msgs) r3 ∧ W.cell? ⟨b, off + i * 4, none⟩ = some (sv x.name) ∧ W.cell? ⟨b, off + i * 4 + 1, none⟩ = some (.int .i64 x.validity) ∧ W.cell? ⟨b, off + i * 4 + 2, none⟩ = some (.int .i64 x.next) ∧ W.cell? ⟨b, off + i * 4 + 3, none⟩ = some (r3)) := by
  obtain ⟨p, cap, hv, hc⟩ := rows_at BoxD.len h
  refine ⟨p, cap, hv, hc.imp id fun ⟨b, off, hp, hlt, hc⟩ => ⟨b, off, hp, hlt, fun i x hi => ?_⟩⟩
  obtain ⟨us, h1, h2⟩ := hc i x hi
  obtain ⟨r3, rfl, k3⟩ := BoxD.rd.1 h1
  exact ⟨r3, k3, h2 0 _ rfl, h2 1 _ rfl, h2 2 _ rfl, h2 3 _ rfl⟩
theorem BoxD.atm {W : World} {l : List BoxD} {v : Value} {k0 : Nat} (h : LfRd W (markLf (boxsLf l) k0).1 v) : ∃ p cap, v = .slice p l.length cap ∧ (l = [] ∨ ∃ b off, p = some ⟨b, off, none⟩ ∧ b < W.heap.size ∧ ∀ i x k, l[i]? = some x → k = k0 + cntLs ((l.take i).flatMap BoxD.lf) → ∃ r3, LfRd W (markLf (msgsLf x.msgs) (k + 1 + 1 + 1)).1 r3 ∧ W.cell? ⟨b, off + i * 4, none⟩ = some (sv (markB (k))) ∧ W.cell? ⟨b, off + i * 4 + 1, none⟩ = some (.int .i64 ((k + 1 : Nat) : Int)) ∧ W.cell? ⟨b, off + i * 4 + 2, none⟩ = some (.int .i64 ((k + 1 + 1 : Nat) : Int)) ∧ W.cell? ⟨b, off + i * 4 + 3, none⟩ = some (r3)) := by
  obtain ⟨p, cap, hv, hc⟩ := rows_at_mark BoxD.len h
  refine ⟨p, cap, hv, hc.imp id fun ⟨b, off, hp, hlt, hc⟩ => ⟨b, off, hp, hlt, fun i x k hi hk => ?_⟩⟩
  obtain ⟨us, h1, h2⟩ := hc i x hi
  rw [← hk] at h1
  obtain ⟨r3, rfl, k3⟩ := BoxD.rdm.1 h1
  exact ⟨r3, k3, h2 0 _ rfl, h2 1 _ rfl, h2 2 _ rfl, h2 3 _ rfl⟩

end Go.Proofs.YtbfgdbpfecffcaaGreatDoor

namespace Go.Proofs.YtbfgdbpfecffcaaGreatDoor
open Go.RowKit

def flB (n : Int) : Bool := decide (0 ≤ n) && decide (n ≤ 31)
def flW : List (List UInt8) := [[115, 101, 101, 110], [97, 110, 115, 119, 101, 114, 101, 100], [102, 108, 97, 103, 103, 101, 100], [100, 101, 108, 101, 116, 101, 100], [100, 114, 97, 102, 116]]
def flAt (i : Nat) : List UInt8 := flW.getD i []
/-- The words of the first k flags that are set. -/
def flTo (n k : Nat) : List (List UInt8) := ((List.range k).filter fun i => n.testBit i).map flAt
def flT (n : Int) : List UInt8 := if flB n = true then Lib.join (flTo n.toNat 5) [32] else []
theorem flTo_yes {n k : Nat} (h : n.testBit k = true) : flTo n (k + 1) = flTo n k ++ [flAt k] := by unfold flTo; rw [List.range_succ, List.filter_append, List.map_append]; simp [h]
theorem flTo_no {n k : Nat} (h : n.testBit k = false) : flTo n (k + 1) = flTo n k := by unfold flTo; rw [List.range_succ, List.filter_append, List.map_append]; simp [h]
theorem flTo_len (n k : Nat) : (flTo n k).length ≤ k := by unfold flTo; rw [List.length_map]; have := List.length_filter_le (fun i => n.testBit i) (List.range k); simpa using this
theorem flB_nat {n : Int} (h : flB n = true) : ∃ m : Nat, n = (m : Int) ∧ m ≤ 31 := by
  unfold flB at h
  simp only [Bool.and_eq_true, decide_eq_true_eq] at h
  exact ⟨n.toNat, by omega, by omega⟩

theorem specFlagsOk_any (n : Int) (w : World) :
    Calls Tryz.prog 115 #[.int .i64 n] w fun e w' => e = .returned (.bool (flB n)) ∧ w = w' := by
  have C1 := Lib.hid (fun W => l1In_any n 0 31 W)
  go_enter Tryz.func115, Tryz.ntmps115
  go_wp2_with fail
  refine (C1.out _).mono ?_
  rintro e w1 ⟨rfl, rfl⟩
  go_wp2
  go_ret
  exact ⟨rfl, rfl⟩

end Go.Proofs.YtbfgdbpfecffcaaGreatDoor
