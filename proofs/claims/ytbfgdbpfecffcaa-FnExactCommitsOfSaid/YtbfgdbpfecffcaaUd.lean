/-
  Ud: TyCommit TyMsg TyBox FlagA (what the claim needs of them).
-/
import Derived.Test.YtbfgdbpfecffcaaRows
import Derived.WalkKit
import Derived.WalkSpells
import Derived.WalkLawsBesides
import Derived.Laws.IdiomStrings
import Derived.Lib.Hide
import Derived.Deep.AppendLies
import Derived.OrdersHeld
import Derived.Lib.ItoaNum
import Derived.Lib.ItoaMem
import Derived.Lib.AppendStr
import Derived.Lib.ItoaLen
import Derived.Lib.Strings
import Derived.Lib.Bytealg
import Derived.Lib.OthersKept
import Derived.Laws.RangeAny
import Derived.Laws.BitsAllLaws
import Derived.Laws.BitsLemmas
import Derived.IntWalk
import Derived.Handy
import Derived.Lib.Join
import Derived.Deep.Strs
import Derived.Test.YtbfgdbpfecffcaaProg
import Derived.Test.YtbfgdbpfecffcaaUa
import Derived.Test.YtbfgdbpfecffcaaUb
import Derived.Test.YtbfgdbpfecffcaaUc

namespace Go.Proofs.Ytbfgdbpfecffcaa
open Go.RowKit

structure ComD where
  kind : Int
  validity : Int
  uid : Int
  flags : Int
  name : List UInt8
  text : List UInt8

def ComD.lf (x : ComD) : List Lf := [.int x.kind, .int x.validity, .int x.uid, .int x.flags, .str x.name, .str x.text]
theorem ComD.len (x : ComD) : x.lf.length = 6 := rfl
def commitsLf (l : List ComD) : Lf := .rows 44 6 l.length (l.flatMap ComD.lf)
theorem ComD.fit (x : ComD) : LsFit x.lf := ⟨trivial, trivial, trivial, trivial, trivial, trivial, trivial⟩
theorem commitsLf_fit (l : List ComD) : LfFit (commitsLf l) := ⟨by omega, flat_lenM ComD.len l, LsFit.flat ComD.fit l⟩
theorem ComD.sz (x : ComD) : szLs x.lf = x.name.length + x.text.length := by simp only [ComD.lf, szLs, szLf_int, szLf_str] <;> omega
theorem ComD.cnt (x : ComD) : cntLs x.lf = 1 + 1 + 1 + 1 + 1 + 1 := by simp only [ComD.lf, cntLs, cntLf_int, cntLf_str] <;> omega
theorem ComD.rd {W : World} {x : ComD} {vs : List Value} : LsRd W x.lf vs ↔ vs = [.int .i64 x.kind, .int .i64 x.validity, .int .i64 x.uid, .int .i64 x.flags, sv x.name, sv x.text] := by
  constructor
  · rintro ⟨a0, s0, rfl, h0, a1, s1, rfl, h1, a2, s2, rfl, h2, a3, s3, rfl, h3, a4, s4, rfl, h4, a5, s5, rfl, h5, rfl⟩
    exact by rw [h0, h1, h2, h3, h4, h5]
  · rintro rfl
    exact ⟨_, _, rfl, rfl, _, _, rfl, rfl, _, _, rfl, rfl, _, _, rfl, rfl, _, _, rfl, rfl, _, _, rfl, rfl, rfl⟩
theorem ComD.mark (x : ComD) (k : Nat) : (markLs x.lf k).1 = [.int ((k : Nat) : Int), .int ((k + 1 : Nat) : Int), .int ((k + 1 + 1 : Nat) : Int), .int ((k + 1 + 1 + 1 : Nat) : Int), .str (markB (k + 1 + 1 + 1 + 1)), .str (markB (k + 1 + 1 + 1 + 1 + 1))] := by simp only [ComD.lf, markLs, markLf_int, markLf_str]
theorem ComD.rdm {W : World} {x : ComD} {k : Nat} {vs : List Value} : LsRd W (markLs x.lf k).1 vs ↔ vs = [.int .i64 ((k : Nat) : Int), .int .i64 ((k + 1 : Nat) : Int), .int .i64 ((k + 1 + 1 : Nat) : Int), .int .i64 ((k + 1 + 1 + 1 : Nat) : Int), sv (markB (k + 1 + 1 + 1 + 1)), sv (markB (k + 1 + 1 + 1 + 1 + 1))] := by
  rw [ComD.mark]
  constructor
  · rintro ⟨a0, s0, rfl, h0, a1, s1, rfl, h1, a2, s2, rfl, h2, a3, s3, rfl, h3, a4, s4, rfl, h4, a5, s5, rfl, h5, rfl⟩
    exact by rw [h0, h1, h2, h3, h4, h5]
  · rintro rfl
    exact ⟨_, _, rfl, rfl, _, _, rfl, rfl, _, _, rfl, rfl, _, _, rfl, rfl, _, _, rfl, rfl, _, _, rfl, rfl, rfl⟩
theorem ComD.in_of {W : World} {z0 : Int} {z1 : Int} {z2 : Int} {z3 : Int} {z4 : List UInt8} {z5 : List UInt8} {vs : List Value} {fp : List Nat} (h : LsIn W [.int z0, .int z1, .int z2, .int z3, .str z4, .str z5] vs fp) : vs = [.int .i64 z0, .int .i64 z1, .int .i64 z2, .int .i64 z3, sv z4, sv z5] ∧ fp = [] := by
  obtain ⟨a0, s0, f0, g0, rfl, h0, ⟨a1, s1, f1, g1, rfl, h1, ⟨a2, s2, f2, g2, rfl, h2, ⟨a3, s3, f3, g3, rfl, h3, ⟨a4, s4, f4, g4, rfl, h4, ⟨a5, s5, f5, g5, rfl, h5, ⟨rfl, rfl⟩, rfl⟩, rfl⟩, rfl⟩, rfl⟩, rfl⟩, rfl⟩ := h
  exact ⟨by rw [h0.1, h1.1, h2.1, h3.1, h4.1, h5.1], by rw [h0.2, h1.2, h2.2, h3.2, h4.2, h5.2]; simp⟩
theorem ComD.in_mk {W : World} {z0 : Int} {z1 : Int} {z2 : Int} {z3 : Int} {z4 : List UInt8} {z5 : List UInt8}  : LsIn W [.int z0, .int z1, .int z2, .int z3, .str z4, .str z5] [.int .i64 z0, .int .i64 z1, .int .i64 z2, .int .i64 z3, sv z4, sv z5] ([]) := by
  have h : LsIn W [.int z0, .int z1, .int z2, .int z3, .str z4, .str z5] [.int .i64 z0, .int .i64 z1, .int .i64 z2, .int .i64 z3, sv z4, sv z5] ([] ++ ([] ++ ([] ++ ([] ++ ([] ++ ([] ++ ([]))))))) := ⟨_, _, [], _, rfl, ⟨rfl, rfl⟩, ⟨_, _, [], _, rfl, ⟨rfl, rfl⟩, ⟨_, _, [], _, rfl, ⟨rfl, rfl⟩, ⟨_, _, [], _, rfl, ⟨rfl, rfl⟩, ⟨_, _, [], _, rfl, ⟨rfl, rfl⟩, ⟨_, _, [], _, rfl, ⟨rfl, rfl⟩, ⟨rfl, rfl⟩, rfl⟩, rfl⟩, rfl⟩, rfl⟩, rfl⟩, rfl⟩
  simpa using h

theorem Try.el_commit : Elem Try.prog 30 44 6 64 := Elem.mk' (z := .agg #[.int .i64 0, .int .i64 0, .int .i64 0, .int .i64 0, .string ⟨#[]⟩, .string ⟨#[]⟩]) Try.underlying30 (by kernel_rfl) rfl (by omega)

theorem ComD.at {W : World} {l : List ComD} {v : Value} (h : LfRd W (commitsLf l) v) : ∃ p cap, v = .slice p l.length cap ∧ (l = [] ∨ ∃ b off, p = some ⟨b, off, none⟩ ∧ b < W.heap.size ∧ ∀ i x, l[i]? = some x → W.cell? ⟨b, off + i * 6, none⟩ = some (.int .i64 x.kind) ∧ W.cell? ⟨b, off + i * 6 + 1, none⟩ = some (.int .i64 x.validity) ∧ W.cell? ⟨b, off + i * 6 + 2, none⟩ = some (.int .i64 x.uid) ∧ W.cell? ⟨b, off + i * 6 + 3, none⟩ = some (.int .i64 x.flags) ∧ W.cell? ⟨b, off + i * 6 + 4, none⟩ = some (sv x.name) ∧ W.cell? ⟨b, off + i * 6 + 5, none⟩ = some (sv x.text)) := by
  obtain ⟨p, cap, hv, hc⟩ := rows_at ComD.len h
  refine ⟨p, cap, hv, hc.imp id fun ⟨b, off, hp, hlt, hc⟩ => ⟨b, off, hp, hlt, fun i x hi => ?_⟩⟩
  obtain ⟨us, h1, h2⟩ := hc i x hi
  obtain rfl := ComD.rd.1 h1
  exact ⟨h2 0 _ rfl, h2 1 _ rfl, h2 2 _ rfl, h2 3 _ rfl, h2 4 _ rfl, h2 5 _ rfl⟩
theorem ComD.atm {W : World} {l : List ComD} {v : Value} {k0 : Nat} (h : LfRd W (markLf (commitsLf l) k0).1 v) : ∃ p cap, v = .slice p l.length cap ∧ (l = [] ∨ ∃ b off, p = some ⟨b, off, none⟩ ∧ b < W.heap.size ∧ ∀ i x k, l[i]? = some x → k = k0 + cntLs ((l.take i).flatMap ComD.lf) → W.cell? ⟨b, off + i * 6, none⟩ = some (.int .i64 ((k : Nat) : Int)) ∧ W.cell? ⟨b, off + i * 6 + 1, none⟩ = some (.int .i64 ((k + 1 : Nat) : Int)) ∧ W.cell? ⟨b, off + i * 6 + 2, none⟩ = some (.int .i64 ((k + 1 + 1 : Nat) : Int)) ∧ W.cell? ⟨b, off + i * 6 + 3, none⟩ = some (.int .i64 ((k + 1 + 1 + 1 : Nat) : Int)) ∧ W.cell? ⟨b, off + i * 6 + 4, none⟩ = some (sv (markB (k + 1 + 1 + 1 + 1))) ∧ W.cell? ⟨b, off + i * 6 + 5, none⟩ = some (sv (markB (k + 1 + 1 + 1 + 1 + 1)))) := by
  obtain ⟨p, cap, hv, hc⟩ := rows_at_mark ComD.len h
  refine ⟨p, cap, hv, hc.imp id fun ⟨b, off, hp, hlt, hc⟩ => ⟨b, off, hp, hlt, fun i x k hi hk => ?_⟩⟩
  obtain ⟨us, h1, h2⟩ := hc i x hi
  rw [← hk] at h1
  obtain rfl := ComD.rdm.1 h1
  exact ⟨h2 0 _ rfl, h2 1 _ rfl, h2 2 _ rfl, h2 3 _ rfl, h2 4 _ rfl, h2 5 _ rfl⟩

set_option maxHeartbeats 1600000 in
theorem szCommit_g (x : ComD) (ll : Int) (left : Nat) (hll : ll = (left : Int)) (w : World) (hin : LsBnd x.lf) (hL : left ≤ 1000000000000) :
    Calls Try.prog 31 #[.agg #[.int .i64 x.kind, .int .i64 x.validity, .int .i64 x.uid, .int .i64 x.flags, sv x.name, sv x.text], .int .i64 ll] w fun e w' => e = .returned (.int .i64 (szN left (szLs x.lf))) ∧ Below w.heap.size w w' := by
  subst hll
  have hb1 : Below w.heap.size w (w.alloc (.cells #[.int .i64 x.kind, .int .i64 x.validity, .int .i64 x.uid, .int .i64 x.flags, sv x.name, sv x.text] 58)) := (Below.refl _ _).alloc (Nat.le_refl _) _
  have HA1 := Lib.hid (heap_alloc_new w (.cells #[.int .i64 x.kind, .int .i64 x.validity, .int .i64 x.uid, .int .i64 x.flags, sv x.name, sv x.text] 58))
  have hsz := ComD.sz x
  have bn_4 : x.name.length ≤ 9223372036854775807 := hin.2.2.2.2.1
  have bz_4 : (ByteArray.mk x.name.toArray).size = x.name.length := by show x.name.toArray.size = _; simp
  have bn_5 : x.text.length ≤ 9223372036854775807 := hin.2.2.2.2.2.1
  have bz_5 : (ByteArray.mk x.text.toArray).size = x.text.length := by show x.text.toArray.size = _; simp
  clear hin
  by_cases k0 : x.name.length ≤ left
  · obtain ⟨L1, hL1⟩ : ∃ L, L + x.name.length = left := ⟨left - x.name.length, by omega⟩
    have n0 : ¬ (left : Int) - (x.name.length : Int) < 0 := by omega
    have bL1 : L1 ≤ 1000000000000 := by omega
    have HL1 := Lib.hid hL1
    by_cases k1 : x.text.length ≤ L1
    · obtain ⟨L2, hL2⟩ : ∃ L, L + x.text.length = L1 := ⟨L1 - x.text.length, by omega⟩
      have n1 : ¬ (left : Int) - (x.name.length : Int) - (x.text.length : Int) < 0 := by omega
      have bL2 : L2 ≤ 1000000000000 := by omega
      have HL2 := Lib.hid hL2
      have HV := Lib.hid (show szN left (szLs x.lf) = (left : Int) - (x.name.length : Int) - (x.text.length : Int) by rw [hsz, szN_yes (by omega)]; omega)
      clear hsz hL1 hL2

      go_enter Try.func31, Try.ntmps31
      go_wp2
      go_ret
      exact ⟨by rw [HV.out]; rfl, hb1⟩
    · have HV := Lib.hid (show szN left (szLs x.lf) = -1 by rw [hsz]; exact szN_no (by omega))
      have n1 : (left : Int) - (x.name.length : Int) - (x.text.length : Int) < 0 := by omega
      clear hsz hL1

      go_enter Try.func31, Try.ntmps31
      go_wp2
      go_ret
      exact ⟨by rw [HV.out]; rfl, hb1⟩
  · have HV := Lib.hid (show szN left (szLs x.lf) = -1 by rw [hsz]; exact szN_no (by omega))
    have n0 : (left : Int) - (x.name.length : Int) < 0 := by omega
    clear hsz

    go_enter Try.func31, Try.ntmps31
    go_wp2
    go_ret
    exact ⟨by rw [HV.out]; rfl, hb1⟩

set_option maxHeartbeats 1600000 in
theorem eqCommit_g (x : ComD) (w : World) (_hs : szLs x.lf ≤ 1000000000000) :
    Calls Try.prog 35 #[.agg #[.int .i64 x.kind, .int .i64 x.validity, .int .i64 x.uid, .int .i64 x.flags, sv x.name, sv x.text], .agg #[.int .i64 x.kind, .int .i64 x.validity, .int .i64 x.uid, .int .i64 x.flags, sv x.name, sv x.text]] w fun e w' => e = .returned (.bool true) ∧ Below w.heap.size w w' := by
  go_enter Try.func35, Try.ntmps35
  go_wp2
  go_ret
  exact ⟨rfl, ((Below.refl _ _).alloc (Nat.le_refl _) _).alloc (by simp) _⟩

set_option maxRecDepth 20000 in
set_option maxHeartbeats 6400000 in
theorem toCommit_g (x : ComD) (w : World) (_hs : szLs x.lf ≤ 10000000) :
    Calls Try.prog 33 #[.agg #[.int .i64 x.kind, .int .i64 x.validity, .int .i64 x.uid, .int .i64 x.flags, sv x.name, sv x.text]] w fun e w' => e = .returned (.agg #[.int .i64 x.kind, .int .i64 x.validity, .int .i64 x.uid, .int .i64 x.flags, sv x.name, sv x.text]) ∧ Below w.heap.size w w' := by
  go_enter Try.func33, Try.ntmps33
  go_wp2
  go_returns
  exact ⟨rfl, (((Below.refl _ _).alloc (Nat.le_refl _) _).alloc (by simp) _).alloc (by simp; omega) _⟩

set_option maxHeartbeats 3200000 in
theorem szCommitS_g (v : Value) (l : List ComD) (ll : Int) (left : Nat) (hll : ll = (left : Int)) (w : World) (hr : LfRd w (commitsLf l) v) (hin : LfBnd (commitsLf l)) (hL : left ≤ 1000000000000) :
    Calls Try.prog 17 #[v, .int .i64 ll] w fun e w' => e = .returned (.int .i64 (szN left (szLf (commitsLf l)))) ∧ Below w.heap.size w w' := by
  subst hll
  have HSZ := Lib.hid (show szLf (commitsLf l) = l.length + szLs (l.flatMap ComD.lf) from rfl)
  obtain ⟨p, c, rfl, hp⟩ := ComD.at hr
  have hl : l.length ≤ 9223372036854775807 := hin.1
  have HX := Lib.hid (LsBnd.flat hin.2)
  have HP := Lib.hid hp
  clear hr hp hin
  by_cases hbig : l.length ≤ left
  · have h1 : ¬ (left : Int) - (l.length : Int) < 0 := by omega
    go_enter Try.func17, Try.ntmps17
    go_wp2
    go_loopw [1, 5] (fun lf i wr => ∃ j q : Nat, j ≤ l.length ∧ i = .int .i64 j ∧ lf = .int .i64 (q : Int) ∧ q + (l.length + szLs ((l.take j).flatMap ComD.lf)) = left ∧ Below w.heap.size w wr) (fun _ i _ => l.length - (intOf i).toNat)
    case atStart => exact ⟨0, left - l.length, by omega, rfl, by congr 1; omega, by simp [szLs]; omega, Below.refl _ _⟩
    case round =>
      obtain ⟨j, q, hj, rfl, rfl, hq, hbr⟩ := hrel
      have hbr0 := hbr.size
      have hqL : q ≤ 1000000000000 := by omega
      by_cases hlt : j < l.length
      · obtain ⟨b1, o1, rfl, hb1, hc1⟩ := HP.out.resolve_left (by intro h; subst h; simp at hlt)
        obtain ⟨s, hs⟩ : ∃ s, l[j]? = some s := ⟨_, List.getElem?_eq_getElem hlt⟩
        obtain ⟨x0, x1, x2, x3, x4, x5⟩ := hc1 j s hs
        have e0 : wr.cell? ⟨b1, o1 + j * 6, none⟩ = some (.int .i64 s.kind) := (hbr.cell (p := ⟨b1, o1 + j * 6, none⟩) hb1).trans x0
        have e1 : wr.cell? ⟨b1, o1 + j * 6 + 1, none⟩ = some (.int .i64 s.validity) := (hbr.cell (p := ⟨b1, o1 + j * 6 + 1, none⟩) hb1).trans x1
        have e2 : wr.cell? ⟨b1, o1 + j * 6 + 2, none⟩ = some (.int .i64 s.uid) := (hbr.cell (p := ⟨b1, o1 + j * 6 + 2, none⟩) hb1).trans x2
        have e3 : wr.cell? ⟨b1, o1 + j * 6 + 3, none⟩ = some (.int .i64 s.flags) := (hbr.cell (p := ⟨b1, o1 + j * 6 + 3, none⟩) hb1).trans x3
        have e4 : wr.cell? ⟨b1, o1 + j * 6 + 4, none⟩ = some (sv s.name) := (hbr.cell (p := ⟨b1, o1 + j * 6 + 4, none⟩) hb1).trans x4
        have e5 : wr.cell? ⟨b1, o1 + j * 6 + 5, none⟩ = some (sv s.text) := (hbr.cell (p := ⟨b1, o1 + j * 6 + 5, none⟩) hb1).trans x5
        have cz := fun ll (hl : ll = (q : Int)) => szCommit_g s ll q hl wr (HX.out s (List.mem_of_getElem? hs)) hqL
        have htk : szLs ((l.take (j + 1)).flatMap ComD.lf) = szLs ((l.take j).flatMap ComD.lf) + szLs s.lf := by rw [flat_take_succ ComD.lf hs, szLs_append]
        have hmono := szLs_flat_take ComD.lf l (j + 1)
        by_cases hok : szLs s.lf ≤ q
        · obtain ⟨q2, hq2⟩ : ∃ q2, q2 + szLs s.lf = q := ⟨q - szLs s.lf, by omega⟩
          have hqe : q2 + (l.length + szLs ((l.take (j + 1)).flatMap ComD.lf)) = left := by omega
          simp only [show szN q (szLs s.lf) = (q2 : Int) from by rw [szN_yes hok]; omega] at cz
          have CZ := Lib.hid cz
          have hnn : ¬ (q2 : Int) < 0 := by omega
          have HQ := Lib.hid hqe
          clear cz htk hq hq2 hqe hmono hok
          clear hc1 hs HP x0 x1 x2 x3 x4 x5
          go_wp2_with fail
          refine (CZ.out _ rfl).mono ?_
          rintro e w2 ⟨rfl, b2⟩
          have hb2 := hbr.trans (b2.mono hbr0)
          clear CZ b2 hbr e0 e1 e2 e3 e4 e5
          go_wp2
          go_roundw
          case rel => exact ⟨j + 1, q2, by omega, by go_num, rfl, HQ.out, hb2⟩
          case measure => simp [intOf]; omega
        · simp only [show szN q (szLs s.lf) = -1 from szN_no hok] at cz
          have CZ := Lib.hid cz
          have HV := Lib.hid (show szN left (szLf (commitsLf l)) = -1 by rw [HSZ.out]; exact szN_no (by omega))
          clear cz htk hq hmono hok
          clear hc1 hs HP x0 x1 x2 x3 x4 x5
          go_wp2_with fail
          refine (CZ.out _ rfl).mono ?_
          rintro e w2 ⟨rfl, b2⟩
          have hb2 := hbr.trans (b2.mono hbr0)
          clear CZ b2 hbr e0 e1 e2 e3 e4 e5
          go_wp2
          go_ret
          exact ⟨by rw [HV.out]; rfl, hb2⟩
      · obtain rfl : j = l.length := by omega
        rw [List.take_length] at hq
        have HV := Lib.hid (show szN left (szLf (commitsLf l)) = (q : Int) by rw [HSZ.out, szN_yes (by omega)]; omega)
        clear hq
        go_wp2
        go_ret
        exact ⟨by rw [HV.out]; rfl, hbr⟩
  · have h1 : (left : Int) - (l.length : Int) < 0 := by omega
    have HV := Lib.hid (show szN left (szLf (commitsLf l)) = -1 by rw [HSZ.out]; exact szN_no (by omega))
    go_enter Try.func17, Try.ntmps17
    go_wp2
    go_ret
    exact ⟨by rw [HV.out]; rfl, Below.refl _ _⟩

set_option maxHeartbeats 3200000 in
theorem eqCommitS_g (a b : Value) (l : List ComD) (w : World) (ha : LfRd w (commitsLf l) a) (hb : LfRd w (commitsLf l) b) (hs : szLf (commitsLf l) ≤ 1000000000000) :
    Calls Try.prog 24 #[a, b] w fun e w' => e = .returned (.bool true) ∧ Below w.heap.size w w' := by
  have hs2 : l.length + szLs (l.flatMap ComD.lf) ≤ 1000000000000 := hs
  clear hs
  obtain ⟨p, c1, rfl, hp⟩ := ComD.at ha
  obtain ⟨q, c2, rfl, hq⟩ := ComD.at hb
  clear ha hb
  have HP := Lib.hid hp
  have HQ := Lib.hid hq
  clear hp hq
  have HL := Lib.hid hs2
  have hll : l.length ≤ 1000000000000 := by omega
  clear hs2
  go_enter Try.func24, Try.ntmps24
  go_wp2
  go_loopw [5] (fun i wr => ∃ k : Nat, k ≤ l.length ∧ i = .int .i64 k ∧ Below w.heap.size w wr) (fun i _ => l.length - (intOf i).toNat)
  case atStart => exact ⟨0, by omega, rfl, Below.refl _ _⟩
  case round =>
    obtain ⟨k, hk, rfl, hbr⟩ := hrel
    have hbr0 := hbr.size
    by_cases hlt : k < l.length
    · obtain ⟨b1, o1, rfl, hb1, hc1⟩ := HP.out.resolve_left (by intro h; subst h; simp at hlt)
      obtain ⟨b2, o2, rfl, hb2, hc2⟩ := HQ.out.resolve_left (by intro h; subst h; simp at hlt)
      obtain ⟨s, hs⟩ : ∃ s, l[k]? = some s := ⟨_, List.getElem?_eq_getElem hlt⟩
      obtain ⟨x0, x1, x2, x3, x4, x5⟩ := hc1 k s hs
      obtain ⟨y0, y1, y2, y3, y4, y5⟩ := hc2 k s hs
      have e0 : wr.drew.cell? ⟨b1, o1 + k * 6, none⟩ = some (.int .i64 s.kind) := (hbr.cell (p := ⟨b1, o1 + k * 6, none⟩) hb1).trans x0
      have f0 : wr.drew.cell? ⟨b2, o2 + k * 6, none⟩ = some (.int .i64 s.kind) := (hbr.cell (p := ⟨b2, o2 + k * 6, none⟩) hb2).trans y0
      have e1 : wr.drew.cell? ⟨b1, o1 + k * 6 + 1, none⟩ = some (.int .i64 s.validity) := (hbr.cell (p := ⟨b1, o1 + k * 6 + 1, none⟩) hb1).trans x1
      have f1 : wr.drew.cell? ⟨b2, o2 + k * 6 + 1, none⟩ = some (.int .i64 s.validity) := (hbr.cell (p := ⟨b2, o2 + k * 6 + 1, none⟩) hb2).trans y1
      have e2 : wr.drew.cell? ⟨b1, o1 + k * 6 + 2, none⟩ = some (.int .i64 s.uid) := (hbr.cell (p := ⟨b1, o1 + k * 6 + 2, none⟩) hb1).trans x2
      have f2 : wr.drew.cell? ⟨b2, o2 + k * 6 + 2, none⟩ = some (.int .i64 s.uid) := (hbr.cell (p := ⟨b2, o2 + k * 6 + 2, none⟩) hb2).trans y2
      have e3 : wr.drew.cell? ⟨b1, o1 + k * 6 + 3, none⟩ = some (.int .i64 s.flags) := (hbr.cell (p := ⟨b1, o1 + k * 6 + 3, none⟩) hb1).trans x3
      have f3 : wr.drew.cell? ⟨b2, o2 + k * 6 + 3, none⟩ = some (.int .i64 s.flags) := (hbr.cell (p := ⟨b2, o2 + k * 6 + 3, none⟩) hb2).trans y3
      have e4 : wr.drew.cell? ⟨b1, o1 + k * 6 + 4, none⟩ = some (sv s.name) := (hbr.cell (p := ⟨b1, o1 + k * 6 + 4, none⟩) hb1).trans x4
      have f4 : wr.drew.cell? ⟨b2, o2 + k * 6 + 4, none⟩ = some (sv s.name) := (hbr.cell (p := ⟨b2, o2 + k * 6 + 4, none⟩) hb2).trans y4
      have e5 : wr.drew.cell? ⟨b1, o1 + k * 6 + 5, none⟩ = some (sv s.text) := (hbr.cell (p := ⟨b1, o1 + k * 6 + 5, none⟩) hb1).trans x5
      have f5 : wr.drew.cell? ⟨b2, o2 + k * 6 + 5, none⟩ = some (sv s.text) := (hbr.cell (p := ⟨b2, o2 + k * 6 + 5, none⟩) hb2).trans y5
      have hsm := szLs_mem ComD.lf (List.mem_of_getElem? hs)
      have CE := Lib.hid (eqCommit_g s wr.drew (by have := HL.out; omega))
      clear hc1 hc2 hs HP HQ hsm x0 y0 x1 y1 x2 y2 x3 y3 x4 y4 x5 y5
      go_wp2
      refine ord_start [(0, true), (1, true), (2, true), (3, true), (4, true), (5, true), (6, true), (7, true), (8, false), (9, true)] (fun W => (W.cell? ⟨b1, o1 + k * 6, none⟩ = some (.int .i64 s.kind) ∧ W.cell? ⟨b1, o1 + k * 6 + 1, none⟩ = some (.int .i64 s.validity) ∧ W.cell? ⟨b1, o1 + k * 6 + 2, none⟩ = some (.int .i64 s.uid) ∧ W.cell? ⟨b1, o1 + k * 6 + 3, none⟩ = some (.int .i64 s.flags) ∧ W.cell? ⟨b1, o1 + k * 6 + 4, none⟩ = some (sv s.name) ∧ W.cell? ⟨b1, o1 + k * 6 + 5, none⟩ = some (sv s.text)) ∧ W.cell? ⟨b2, o2 + k * 6, none⟩ = some (.int .i64 s.kind) ∧ W.cell? ⟨b2, o2 + k * 6 + 1, none⟩ = some (.int .i64 s.validity) ∧ W.cell? ⟨b2, o2 + k * 6 + 2, none⟩ = some (.int .i64 s.uid) ∧ W.cell? ⟨b2, o2 + k * 6 + 3, none⟩ = some (.int .i64 s.flags) ∧ W.cell? ⟨b2, o2 + k * 6 + 4, none⟩ = some (sv s.name) ∧ W.cell? ⟨b2, o2 + k * 6 + 5, none⟩ = some (sv s.text)) (by kernel_rfl) (by kernel_rfl) rfl (by kernel_rfl) ?_
      intro ops' hops
      clear hops
      simp only [List.map_cons, List.map_nil, pickOp_zero, pickOp_succ]
      iterate 8 (refine ord_flo ?_ (fun _ _ _ h => h) rfl ?_ ⟨⟨e0, e1, e2, e3, e4, e5⟩, f0, f1, f2, f3, f4, f5⟩ ?_; rotate_left; focus (intro W hS; obtain ⟨⟨s0, s1, s2, s3, s4, s5⟩, t0, t1, t2, t3, t4, t5⟩ := hS; go_simp; rfl))
      refine ord_ev rfl ?_
      go_simp
      refine (CE.out).mono ?_
      rintro e w2 ⟨rfl, bb⟩
      have hb2' := hbr.drew.trans (bb.mono (by show w.heap.size ≤ wr.heap.size; omega))
      have hlt1 : b1 < wr.drew.heap.size := Nat.lt_of_lt_of_le hb1 hbr0
      have hlt2 : b2 < wr.drew.heap.size := Nat.lt_of_lt_of_le hb2 hbr0
      have HE := Lib.hid (show (fun W : World => (W.cell? ⟨b1, o1 + k * 6, none⟩ = some (.int .i64 s.kind) ∧ W.cell? ⟨b1, o1 + k * 6 + 1, none⟩ = some (.int .i64 s.validity) ∧ W.cell? ⟨b1, o1 + k * 6 + 2, none⟩ = some (.int .i64 s.uid) ∧ W.cell? ⟨b1, o1 + k * 6 + 3, none⟩ = some (.int .i64 s.flags) ∧ W.cell? ⟨b1, o1 + k * 6 + 4, none⟩ = some (sv s.name) ∧ W.cell? ⟨b1, o1 + k * 6 + 5, none⟩ = some (sv s.text)) ∧ W.cell? ⟨b2, o2 + k * 6, none⟩ = some (.int .i64 s.kind) ∧ W.cell? ⟨b2, o2 + k * 6 + 1, none⟩ = some (.int .i64 s.validity) ∧ W.cell? ⟨b2, o2 + k * 6 + 2, none⟩ = some (.int .i64 s.uid) ∧ W.cell? ⟨b2, o2 + k * 6 + 3, none⟩ = some (.int .i64 s.flags) ∧ W.cell? ⟨b2, o2 + k * 6 + 4, none⟩ = some (sv s.name) ∧ W.cell? ⟨b2, o2 + k * 6 + 5, none⟩ = some (sv s.text)) w2 from ⟨⟨(bb.cell (p := ⟨b1, o1 + k * 6, none⟩) hlt1).trans e0, (bb.cell (p := ⟨b1, o1 + k * 6 + 1, none⟩) hlt1).trans e1, (bb.cell (p := ⟨b1, o1 + k * 6 + 2, none⟩) hlt1).trans e2, (bb.cell (p := ⟨b1, o1 + k * 6 + 3, none⟩) hlt1).trans e3, (bb.cell (p := ⟨b1, o1 + k * 6 + 4, none⟩) hlt1).trans e4, (bb.cell (p := ⟨b1, o1 + k * 6 + 5, none⟩) hlt1).trans e5⟩, (bb.cell (p := ⟨b2, o2 + k * 6, none⟩) hlt2).trans f0, (bb.cell (p := ⟨b2, o2 + k * 6 + 1, none⟩) hlt2).trans f1, (bb.cell (p := ⟨b2, o2 + k * 6 + 2, none⟩) hlt2).trans f2, (bb.cell (p := ⟨b2, o2 + k * 6 + 3, none⟩) hlt2).trans f3, (bb.cell (p := ⟨b2, o2 + k * 6 + 4, none⟩) hlt2).trans f4, (bb.cell (p := ⟨b2, o2 + k * 6 + 5, none⟩) hlt2).trans f5⟩)
      refine ⟨HE.out, ?_⟩
      iterate 1 (refine ord_flo ?_ (fun _ _ _ h => h) rfl ?_ HE.out ?_; rotate_left; focus (intro W hS; obtain ⟨⟨s0, s1, s2, s3, s4, s5⟩, t0, t1, t2, t3, t4, t5⟩ := hS; go_simp; rfl))
      refine ord_done ?_
      go_simp
      clear e0 f0 e1 f1 e2 f2 e3 f3 e4 f4 e5 f5 bb hbr hbr0 CE HE
      go_wp2
      go_roundw
      case rel => exact ⟨k + 1, by omega, by go_num, hb2'⟩
      case measure => simp [intOf]; omega
    · obtain rfl : k = l.length := by omega
      go_wp2
      go_ret
      exact ⟨rfl, hbr⟩

set_option maxRecDepth 20000 in
set_option maxHeartbeats 6400000 in
theorem toCommitS_g (v : Value) (l : List ComD) (w : World) (hr : LfRd w (commitsLf l) v) (hs : szLf (commitsLf l) ≤ 10000000) :
    Calls Try.prog 21 #[v] w fun e w' => ∃ v' fp, e = .returned v' ∧ Tree w' w.heap.size (commitsLf l) v' fp ∧ Below w.heap.size w w' := by
  have hs2 : l.length + szLs (l.flatMap ComD.lf) ≤ 10000000 := hs
  obtain ⟨p, c, rfl, hp⟩ := ComD.at hr
  have HP := Lib.hid hp
  have HL := Lib.hid hs2
  have hll : l.length ≤ 10000000 := by omega
  clear hr hp hs hs2
  go_enter Try.func21, Try.ntmps21
  go_wp2_with (refine wpList_mkn Try.el_commit rfl _ _ rfl w.heap.size w (Below.refl _ _) (Nat.le_refl _) _ _ l.length rfl rfl (by omega) (by omega) ?_)
  intro w1 xs0 hown1 hb1 hlt1
  go_wp2
  go_loopw [4] (fun i wr => ∃ (k : Nat) (A R : List Value) (fq : List Nat), k ≤ l.length ∧ i = .int .i64 k ∧ A.length = k * 6 ∧ wr.ownsRow w.heap.size 44 6 (.slice (some ⟨w.heap.size, 0, none⟩) l.length l.length) l.length (A ++ R) ∧ LsIn wr ((l.take k).flatMap ComD.lf) A fq ∧ fq.Nodup ∧ (∀ q ∈ fq, w.heap.size < q) ∧ Below w.heap.size w wr ∧ w.heap.size < wr.heap.size) (fun i _ => l.length - (intOf i).toNat)
  case atStart => exact ⟨0, [], xs0, [], by omega, rfl, by simp, hown1, ⟨rfl, rfl⟩, by simp, by simp, hb1, hlt1⟩
  case round =>
    obtain ⟨k, A, R, fq, hk, rfl, hA, hown, hin, hnd, hlow, hbr, hzr⟩ := hrel
    have hbr0 := hbr.size
    clear hown1 hb1 hlt1
    by_cases hlt : k < l.length
    · obtain ⟨b1, o1, rfl, hb1, hc1⟩ := HP.out.resolve_left (by intro h; subst h; simp at hlt)
      obtain ⟨s, hs⟩ : ∃ s, l[k]? = some s := ⟨_, List.getElem?_eq_getElem hlt⟩
      obtain ⟨x0, x1, x2, x3, x4, x5⟩ := hc1 k s hs
      have e0 : wr.cell? ⟨b1, o1 + k * 6, none⟩ = some (.int .i64 s.kind) := (hbr.cell (p := ⟨b1, o1 + k * 6, none⟩) hb1).trans x0
      have e1 : wr.cell? ⟨b1, o1 + k * 6 + 1, none⟩ = some (.int .i64 s.validity) := (hbr.cell (p := ⟨b1, o1 + k * 6 + 1, none⟩) hb1).trans x1
      have e2 : wr.cell? ⟨b1, o1 + k * 6 + 2, none⟩ = some (.int .i64 s.uid) := (hbr.cell (p := ⟨b1, o1 + k * 6 + 2, none⟩) hb1).trans x2
      have e3 : wr.cell? ⟨b1, o1 + k * 6 + 3, none⟩ = some (.int .i64 s.flags) := (hbr.cell (p := ⟨b1, o1 + k * 6 + 3, none⟩) hb1).trans x3
      have e4 : wr.cell? ⟨b1, o1 + k * 6 + 4, none⟩ = some (sv s.name) := (hbr.cell (p := ⟨b1, o1 + k * 6 + 4, none⟩) hb1).trans x4
      have e5 : wr.cell? ⟨b1, o1 + k * 6 + 5, none⟩ = some (sv s.text) := (hbr.cell (p := ⟨b1, o1 + k * 6 + 5, none⟩) hb1).trans x5
      have hsm := szLs_mem ComD.lf (List.mem_of_getElem? hs)
      have CT := Lib.hid (toCommit_g s wr (by have := HL.out; omega))
      have HTK := Lib.hid (flat_take_succ ComD.lf hs)
      clear hc1 hs HP hsm x0 x1 x2 x3 x4 x5
      go_wp2_with fail
      refine (CT.out).mono ?_
      rintro e w2 ⟨rfl, b2⟩
      have hown2 := ownsRow_below hown b2
      have hin2 := LsIn.frame _ _ _ (fun q hq => b2.block q (LsIn.lt _ _ _ hin q hq)) hin
      have hqz : ∀ q ∈ fq, q < wr.heap.size := fun q hq => LsIn.lt _ _ _ hin q hq
      have hb2 := hbr.trans (b2.mono hbr0)
      have hz2 := b2.size
      obtain ⟨R1, R2, rfl, hR1⟩ := rest_split hown2.1 hA hlt
      obtain ⟨y0, y1, y2, y3, y4, y5, rfl⟩ : ∃ y0 y1 y2 y3 y4 y5, R1 = [y0, y1, y2, y3, y4, y5] := by
        match R1, hR1 with
        | [a0, a1, a2, a3, a4, a5], _ => exact ⟨a0, a1, a2, a3, a4, a5, rfl⟩
      simp only [List.cons_append, List.nil_append] at hown2
      clear hown hin b2 CT hR1 e0 e1 e2 e3 e4 e5
      have c0 : w2.cell? ⟨w.heap.size, k * 6, none⟩ = some y0 := own_cell (L := y0 :: y1 :: y2 :: y3 :: y4 :: y5 :: R2) hown2 hA 0 _ rfl
      have q0 : w2.frozen? ⟨w.heap.size, k * 6, none⟩ = false := own_free hown2 _
      have p0 : (w2.setCell ⟨w.heap.size, k * 6, none⟩ (.int .i64 s.kind)).ownsRow w.heap.size 44 6 (.slice (some ⟨w.heap.size, 0, none⟩) l.length l.length) l.length (A ++ (.int .i64 s.kind) :: y1 :: y2 :: y3 :: y4 :: y5 :: R2) := own_at (L := y0 :: y1 :: y2 :: y3 :: y4 :: y5 :: R2) hown2 hA 0 (.int .i64 s.kind)
      have c1 : (w2.setCell ⟨w.heap.size, k * 6, none⟩ (.int .i64 s.kind)).cell? ⟨w.heap.size, k * 6 + 1, none⟩ = some y1 := own_cell (L := (.int .i64 s.kind) :: y1 :: y2 :: y3 :: y4 :: y5 :: R2) p0 hA 1 _ rfl
      have q1 : (w2.setCell ⟨w.heap.size, k * 6, none⟩ (.int .i64 s.kind)).frozen? ⟨w.heap.size, k * 6 + 1, none⟩ = false := own_free p0 _
      have p1 : ((w2.setCell ⟨w.heap.size, k * 6, none⟩ (.int .i64 s.kind)).setCell ⟨w.heap.size, k * 6 + 1, none⟩ (.int .i64 s.validity)).ownsRow w.heap.size 44 6 (.slice (some ⟨w.heap.size, 0, none⟩) l.length l.length) l.length (A ++ (.int .i64 s.kind) :: (.int .i64 s.validity) :: y2 :: y3 :: y4 :: y5 :: R2) := own_at (L := (.int .i64 s.kind) :: y1 :: y2 :: y3 :: y4 :: y5 :: R2) p0 hA 1 (.int .i64 s.validity)
      have c2 : ((w2.setCell ⟨w.heap.size, k * 6, none⟩ (.int .i64 s.kind)).setCell ⟨w.heap.size, k * 6 + 1, none⟩ (.int .i64 s.validity)).cell? ⟨w.heap.size, k * 6 + 2, none⟩ = some y2 := own_cell (L := (.int .i64 s.kind) :: (.int .i64 s.validity) :: y2 :: y3 :: y4 :: y5 :: R2) p1 hA 2 _ rfl
      have q2 : ((w2.setCell ⟨w.heap.size, k * 6, none⟩ (.int .i64 s.kind)).setCell ⟨w.heap.size, k * 6 + 1, none⟩ (.int .i64 s.validity)).frozen? ⟨w.heap.size, k * 6 + 2, none⟩ = false := own_free p1 _
      have p2 : (((w2.setCell ⟨w.heap.size, k * 6, none⟩ (.int .i64 s.kind)).setCell ⟨w.heap.size, k * 6 + 1, none⟩ (.int .i64 s.validity)).setCell ⟨w.heap.size, k * 6 + 2, none⟩ (.int .i64 s.uid)).ownsRow w.heap.size 44 6 (.slice (some ⟨w.heap.size, 0, none⟩) l.length l.length) l.length (A ++ (.int .i64 s.kind) :: (.int .i64 s.validity) :: (.int .i64 s.uid) :: y3 :: y4 :: y5 :: R2) := own_at (L := (.int .i64 s.kind) :: (.int .i64 s.validity) :: y2 :: y3 :: y4 :: y5 :: R2) p1 hA 2 (.int .i64 s.uid)
      have c3 : (((w2.setCell ⟨w.heap.size, k * 6, none⟩ (.int .i64 s.kind)).setCell ⟨w.heap.size, k * 6 + 1, none⟩ (.int .i64 s.validity)).setCell ⟨w.heap.size, k * 6 + 2, none⟩ (.int .i64 s.uid)).cell? ⟨w.heap.size, k * 6 + 3, none⟩ = some y3 := own_cell (L := (.int .i64 s.kind) :: (.int .i64 s.validity) :: (.int .i64 s.uid) :: y3 :: y4 :: y5 :: R2) p2 hA 3 _ rfl
      have q3 : (((w2.setCell ⟨w.heap.size, k * 6, none⟩ (.int .i64 s.kind)).setCell ⟨w.heap.size, k * 6 + 1, none⟩ (.int .i64 s.validity)).setCell ⟨w.heap.size, k * 6 + 2, none⟩ (.int .i64 s.uid)).frozen? ⟨w.heap.size, k * 6 + 3, none⟩ = false := own_free p2 _
      have p3 : ((((w2.setCell ⟨w.heap.size, k * 6, none⟩ (.int .i64 s.kind)).setCell ⟨w.heap.size, k * 6 + 1, none⟩ (.int .i64 s.validity)).setCell ⟨w.heap.size, k * 6 + 2, none⟩ (.int .i64 s.uid)).setCell ⟨w.heap.size, k * 6 + 3, none⟩ (.int .i64 s.flags)).ownsRow w.heap.size 44 6 (.slice (some ⟨w.heap.size, 0, none⟩) l.length l.length) l.length (A ++ (.int .i64 s.kind) :: (.int .i64 s.validity) :: (.int .i64 s.uid) :: (.int .i64 s.flags) :: y4 :: y5 :: R2) := own_at (L := (.int .i64 s.kind) :: (.int .i64 s.validity) :: (.int .i64 s.uid) :: y3 :: y4 :: y5 :: R2) p2 hA 3 (.int .i64 s.flags)
      have c4 : ((((w2.setCell ⟨w.heap.size, k * 6, none⟩ (.int .i64 s.kind)).setCell ⟨w.heap.size, k * 6 + 1, none⟩ (.int .i64 s.validity)).setCell ⟨w.heap.size, k * 6 + 2, none⟩ (.int .i64 s.uid)).setCell ⟨w.heap.size, k * 6 + 3, none⟩ (.int .i64 s.flags)).cell? ⟨w.heap.size, k * 6 + 4, none⟩ = some y4 := own_cell (L := (.int .i64 s.kind) :: (.int .i64 s.validity) :: (.int .i64 s.uid) :: (.int .i64 s.flags) :: y4 :: y5 :: R2) p3 hA 4 _ rfl
      have q4 : ((((w2.setCell ⟨w.heap.size, k * 6, none⟩ (.int .i64 s.kind)).setCell ⟨w.heap.size, k * 6 + 1, none⟩ (.int .i64 s.validity)).setCell ⟨w.heap.size, k * 6 + 2, none⟩ (.int .i64 s.uid)).setCell ⟨w.heap.size, k * 6 + 3, none⟩ (.int .i64 s.flags)).frozen? ⟨w.heap.size, k * 6 + 4, none⟩ = false := own_free p3 _
      have p4 : (((((w2.setCell ⟨w.heap.size, k * 6, none⟩ (.int .i64 s.kind)).setCell ⟨w.heap.size, k * 6 + 1, none⟩ (.int .i64 s.validity)).setCell ⟨w.heap.size, k * 6 + 2, none⟩ (.int .i64 s.uid)).setCell ⟨w.heap.size, k * 6 + 3, none⟩ (.int .i64 s.flags)).setCell ⟨w.heap.size, k * 6 + 4, none⟩ (sv s.name)).ownsRow w.heap.size 44 6 (.slice (some ⟨w.heap.size, 0, none⟩) l.length l.length) l.length (A ++ (.int .i64 s.kind) :: (.int .i64 s.validity) :: (.int .i64 s.uid) :: (.int .i64 s.flags) :: (sv s.name) :: y5 :: R2) := own_at (L := (.int .i64 s.kind) :: (.int .i64 s.validity) :: (.int .i64 s.uid) :: (.int .i64 s.flags) :: y4 :: y5 :: R2) p3 hA 4 (sv s.name)
      have c5 : (((((w2.setCell ⟨w.heap.size, k * 6, none⟩ (.int .i64 s.kind)).setCell ⟨w.heap.size, k * 6 + 1, none⟩ (.int .i64 s.validity)).setCell ⟨w.heap.size, k * 6 + 2, none⟩ (.int .i64 s.uid)).setCell ⟨w.heap.size, k * 6 + 3, none⟩ (.int .i64 s.flags)).setCell ⟨w.heap.size, k * 6 + 4, none⟩ (sv s.name)).cell? ⟨w.heap.size, k * 6 + 5, none⟩ = some y5 := own_cell (L := (.int .i64 s.kind) :: (.int .i64 s.validity) :: (.int .i64 s.uid) :: (.int .i64 s.flags) :: (sv s.name) :: y5 :: R2) p4 hA 5 _ rfl
      have q5 : (((((w2.setCell ⟨w.heap.size, k * 6, none⟩ (.int .i64 s.kind)).setCell ⟨w.heap.size, k * 6 + 1, none⟩ (.int .i64 s.validity)).setCell ⟨w.heap.size, k * 6 + 2, none⟩ (.int .i64 s.uid)).setCell ⟨w.heap.size, k * 6 + 3, none⟩ (.int .i64 s.flags)).setCell ⟨w.heap.size, k * 6 + 4, none⟩ (sv s.name)).frozen? ⟨w.heap.size, k * 6 + 5, none⟩ = false := own_free p4 _
      have p5 : ((((((w2.setCell ⟨w.heap.size, k * 6, none⟩ (.int .i64 s.kind)).setCell ⟨w.heap.size, k * 6 + 1, none⟩ (.int .i64 s.validity)).setCell ⟨w.heap.size, k * 6 + 2, none⟩ (.int .i64 s.uid)).setCell ⟨w.heap.size, k * 6 + 3, none⟩ (.int .i64 s.flags)).setCell ⟨w.heap.size, k * 6 + 4, none⟩ (sv s.name)).setCell ⟨w.heap.size, k * 6 + 5, none⟩ (sv s.text)).ownsRow w.heap.size 44 6 (.slice (some ⟨w.heap.size, 0, none⟩) l.length l.length) l.length (A ++ (.int .i64 s.kind) :: (.int .i64 s.validity) :: (.int .i64 s.uid) :: (.int .i64 s.flags) :: (sv s.name) :: (sv s.text) :: R2) := own_at (L := (.int .i64 s.kind) :: (.int .i64 s.validity) :: (.int .i64 s.uid) :: (.int .i64 s.flags) :: (sv s.name) :: y5 :: R2) p4 hA 5 (sv s.text)
      have gs : GrownIn w2 ((((((w2.setCell ⟨w.heap.size, k * 6, none⟩ (.int .i64 s.kind)).setCell ⟨w.heap.size, k * 6 + 1, none⟩ (.int .i64 s.validity)).setCell ⟨w.heap.size, k * 6 + 2, none⟩ (.int .i64 s.uid)).setCell ⟨w.heap.size, k * 6 + 3, none⟩ (.int .i64 s.flags)).setCell ⟨w.heap.size, k * 6 + 4, none⟩ (sv s.name)).setCell ⟨w.heap.size, k * 6 + 5, none⟩ (sv s.text)) [w.heap.size] := ((((((GrownIn.refl w2 [w.heap.size]).trans (GrownIn.set (by simp))).trans (GrownIn.set (by simp))).trans (GrownIn.set (by simp))).trans (GrownIn.set (by simp))).trans (GrownIn.set (by simp))).trans (GrownIn.set (by simp))
      have IA := Lib.hid (LsIn.apart hin2 gs (fun q hq hm => by have := hlow q hq; simp at hm; omega))
      have hb3 := GrownIn.below hb2 gs hb2.size (fun q hq => by simp at hq; omega)
      have hz3 : w.heap.size < ((((((w2.setCell ⟨w.heap.size, k * 6, none⟩ (.int .i64 s.kind)).setCell ⟨w.heap.size, k * 6 + 1, none⟩ (.int .i64 s.validity)).setCell ⟨w.heap.size, k * 6 + 2, none⟩ (.int .i64 s.uid)).setCell ⟨w.heap.size, k * 6 + 3, none⟩ (.int .i64 s.flags)).setCell ⟨w.heap.size, k * 6 + 4, none⟩ (sv s.name)).setCell ⟨w.heap.size, k * 6 + 5, none⟩ (sv s.text)).heap.size := Nat.lt_of_lt_of_le (Nat.lt_of_lt_of_le hzr hz2) gs.size
      have PP := Lib.hid p5
      clear hown2 hin2 hb2 gs p0 p1 p2 p3 p4 p5 
      go_wp2
      go_roundw
      case rel =>
        refine ⟨k + 1, A ++ [(.int .i64 s.kind), (.int .i64 s.validity), (.int .i64 s.uid), (.int .i64 s.flags), (sv s.name), (sv s.text)], R2, fq ++ ([]), by omega, by go_num, by simp; omega, by simpa using PP.out, ?_, ?_, ?_, hb3, hz3⟩
        · rw [HTK.out]
          exact LsIn.append.2 ⟨A, _, fq, _, rfl, IA.out, ComD.in_mk, rfl⟩
        · simpa using hnd
        · simpa using hlow
      case measure => simp [intOf]; omega
    · obtain rfl : k = l.length := by omega
      have hR0 : R = [] := by
        have := hown.1
        rw [List.length_append, hA] at this
        exact List.eq_nil_of_length_eq_zero (by omega)
      subst hR0
      rw [List.append_nil] at hown
      rw [List.take_length] at hin
      have hT : Tree wr w.heap.size (commitsLf l) (.slice (some ⟨w.heap.size, 0, none⟩) l.length l.length) (w.heap.size :: fq) := by
        refine ⟨⟨flat_lenM ComD.len l, A, fq, own_base hown, hin, rfl⟩, List.nodup_cons.2 ⟨fun hm => by have := hlow _ hm; omega, hnd⟩, fun q hq => ?_⟩
        rcases List.mem_cons.1 hq with rfl | hq
        · exact Nat.le_refl _
        · exact Nat.le_of_lt (hlow q hq)
      have HT := Lib.hid hT
      clear hT hown hin hA
      go_wp2
      go_ret
      exact ⟨_, _, rfl, HT.out, hbr⟩

set_option maxRecDepth 20000 in
set_option maxHeartbeats 6400000 in
theorem markCommitS_g (v : Value) (l : List ComD) (kk : Int) (k : Nat) (hkk : kk = (k : Int)) (fp : List Nat) (w : World) (hi : LfIn w (commitsLf l) v fp) (hnd : fp.Nodup) (hk : k + cntLf (commitsLf l) ≤ 1000000000000) (hs : szLf (commitsLf l) ≤ 1000000000000) :
    Calls Try.prog 26 #[v, .int .i64 kk] w fun e w' => e = .returned (.int .i64 ((k + cntLf (commitsLf l) : Nat) : Int)) ∧ LfIn w' (markLf (commitsLf l) k).1 v fp ∧ GrownIn w w' fp := by
  subst hkk
  have hs2 : l.length + szLs (l.flatMap ComD.lf) ≤ 1000000000000 := hs
  have hll : l.length ≤ 1000000000000 := by omega
  have HSZ := Lib.hid hs2
  have HCN := Lib.hid (show k + cntLs (l.flatMap ComD.lf) ≤ 1000000000000 from hk)
  clear hk hs hs2
  obtain ⟨hfl, xs, fq, hown0, hin0, rfl⟩ := hi
  have hex : ∃ p c, v = .slice p l.length c ∧ (0 < l.length → ∃ g, p = some ⟨g, 0, none⟩) := by
    rcases h : hown0.2 with ⟨hv, h0⟩ | ⟨g, cap, cur, hv, _⟩
    · exact ⟨none, 0, by rw [hv, h0], fun h => by omega⟩
    · exact ⟨_, cap, hv, fun _ => ⟨g, rfl⟩⟩
  obtain ⟨p, c, rfl, hp⟩ := hex
  have HP := Lib.hid hp
  have HND := Lib.hid hnd
  clear hp hnd hfl
  generalize hFP : (Value.slice p l.length c).ownBlock.toList ++ fq = fp at *
  have HFP := Lib.hid hFP
  clear hFP
  go_enter Try.func26, Try.ntmps26
  go_wp2
  go_loopw [1, 5] (fun kk i wr => ∃ (j q : Nat) (A R : List Value) (fA fR : List Nat), j ≤ l.length ∧ i = .int .i64 j ∧ kk = .int .i64 (q : Int) ∧ q = k + cntLs ((l.take j).flatMap ComD.lf) ∧ A.length = j * 6 ∧ wr.ownsRow 0 44 6 (.slice p l.length c) l.length (A ++ R) ∧ LsIn wr (markLs ((l.take j).flatMap ComD.lf) k).1 A fA ∧ LsIn wr ((l.drop j).flatMap ComD.lf) R fR ∧ fA ++ fR = fq ∧ GrownIn w wr fp) (fun _ i _ => l.length - (intOf i).toNat)
  case atStart => exact ⟨0, k, [], xs, [], fq, by omega, rfl, rfl, by simp [cntLs], by simp, hown0, ⟨rfl, rfl⟩, hin0, rfl, GrownIn.refl _ _⟩
  case round =>
    obtain ⟨j, q, A, R, fA, fR, hj, rfl, rfl, hq, hA, hown, hiA, hiR, hff, hgr⟩ := hrel
    clear hown0 hin0
    by_cases hlt : j < l.length
    · obtain ⟨g, rfl⟩ := HP.out (by omega)
      obtain ⟨s, hs⟩ : ∃ s, l[j]? = some s := ⟨_, List.getElem?_eq_getElem hlt⟩
      have hdr : l.drop j = s :: l.drop (j + 1) := by
        obtain ⟨h1, h2⟩ := List.getElem?_eq_some_iff.1 hs
        rw [List.drop_eq_getElem_cons h1, h2]
      rw [hdr, List.flatMap_cons] at hiR
      obtain ⟨u1, R2, f_, f2, rfl, hi1, hiR2, rfl⟩ := LsIn.append.1 hiR
      obtain ⟨rfl, rfl⟩ := ComD.in_of hi1
      simp only [List.cons_append, List.nil_append] at hown
      have HMK := Lib.hid (show (markLs ((l.take (j + 1)).flatMap ComD.lf) k).1 = (markLs ((l.take j).flatMap ComD.lf) k).1 ++ (markLs s.lf q).1 by rw [flat_take_succ ComD.lf hs, markLs_app, hq])
      have HEN := Lib.hid (show k + cntLs ((l.take (j + 1)).flatMap ComD.lf) = q + cntLs s.lf by rw [flat_take_succ ComD.lf hs, cntLs_append, hq]; omega)
      have hcb : q + cntLs s.lf ≤ 1000000000000 := by have h1 := cntLs_flat_take ComD.lf l (j + 1); have h2 := HEN.out; have h3 := HCN.out; omega
      rw [ComD.cnt] at hcb
      have hsb : szLs s.lf ≤ 1000000000000 := by have h1 := szLs_mem ComD.lf (List.mem_of_getElem? hs); have h2 := HSZ.out; omega
      rw [ComD.sz] at hsb
      have hnd2 : (g :: (fA ++ ([] ++ f2))).Nodup := by have h1 := HND.out; have h2 := HFP.out; rw [← hff] at h2; rw [← h2] at h1; exact h1
      obtain ⟨hg0, hn0⟩ := List.nodup_cons.1 hnd2
      obtain ⟨dA, _, hn1⟩ := nd_parts hn0
      obtain ⟨dF, hnr, _⟩ := nd_parts hn1
      have gA : g ∉ fA := fun hm => hg0 (by simp [hm])
      have gF : g ∉ f2 := fun hm => hg0 (by simp [hm])
      have hgf : g ∈ fp := by rw [← HFP.out]; simp [Value.ownBlock]
      have HQ := Lib.hid hq
      have HFF := Lib.hid hff
      have HCB := Lib.hid hcb
      have HSB := Lib.hid hsb
      have hqb : q ≤ 1000000000000 := by omega
      clear hq hff hcb hsb hs hdr hi1 hiR hnd2 hn0 hn1 hnr HP
      have c0 := own_cell (L := (.int .i64 s.kind) :: (.int .i64 s.validity) :: (.int .i64 s.uid) :: (.int .i64 s.flags) :: (sv s.name) :: (sv s.text) :: R2) hown hA 0 _ rfl
      have z0 : wr.frozen? ⟨g, j * 6, none⟩ = false := own_free hown _
      rw [Nat.add_zero] at c0
      have p0 : (wr.setCell ⟨g, j * 6, none⟩ (.int .i64 (q : Int))).ownsRow 0 44 6 (.slice (some ⟨g, 0, none⟩) l.length c) l.length (A ++ (.int .i64 (q : Int)) :: (.int .i64 s.validity) :: (.int .i64 s.uid) :: (.int .i64 s.flags) :: (sv s.name) :: (sv s.text) :: R2) := own_at (L := (.int .i64 s.kind) :: (.int .i64 s.validity) :: (.int .i64 s.uid) :: (.int .i64 s.flags) :: (sv s.name) :: (sv s.text) :: R2) hown hA 0 (.int .i64 (q : Int))
      have c1 := own_cell (L := (.int .i64 (q : Int)) :: (.int .i64 s.validity) :: (.int .i64 s.uid) :: (.int .i64 s.flags) :: (sv s.name) :: (sv s.text) :: R2) p0 hA 1 _ rfl
      have z1 : (wr.setCell ⟨g, j * 6, none⟩ (.int .i64 (q : Int))).frozen? ⟨g, j * 6 + 1, none⟩ = false := own_free p0 _
      have p1 : ((wr.setCell ⟨g, j * 6, none⟩ (.int .i64 (q : Int))).setCell ⟨g, j * 6 + 1, none⟩ (.int .i64 ((q : Int) + 1))).ownsRow 0 44 6 (.slice (some ⟨g, 0, none⟩) l.length c) l.length (A ++ (.int .i64 (q : Int)) :: (.int .i64 ((q : Int) + 1)) :: (.int .i64 s.uid) :: (.int .i64 s.flags) :: (sv s.name) :: (sv s.text) :: R2) := own_at (L := (.int .i64 (q : Int)) :: (.int .i64 s.validity) :: (.int .i64 s.uid) :: (.int .i64 s.flags) :: (sv s.name) :: (sv s.text) :: R2) p0 hA 1 (.int .i64 ((q : Int) + 1))
      have c2 := own_cell (L := (.int .i64 (q : Int)) :: (.int .i64 ((q : Int) + 1)) :: (.int .i64 s.uid) :: (.int .i64 s.flags) :: (sv s.name) :: (sv s.text) :: R2) p1 hA 2 _ rfl
      have z2 : ((wr.setCell ⟨g, j * 6, none⟩ (.int .i64 (q : Int))).setCell ⟨g, j * 6 + 1, none⟩ (.int .i64 ((q : Int) + 1))).frozen? ⟨g, j * 6 + 2, none⟩ = false := own_free p1 _
      have p2 : (((wr.setCell ⟨g, j * 6, none⟩ (.int .i64 (q : Int))).setCell ⟨g, j * 6 + 1, none⟩ (.int .i64 ((q : Int) + 1))).setCell ⟨g, j * 6 + 2, none⟩ (.int .i64 ((q : Int) + 1 + 1))).ownsRow 0 44 6 (.slice (some ⟨g, 0, none⟩) l.length c) l.length (A ++ (.int .i64 (q : Int)) :: (.int .i64 ((q : Int) + 1)) :: (.int .i64 ((q : Int) + 1 + 1)) :: (.int .i64 s.flags) :: (sv s.name) :: (sv s.text) :: R2) := own_at (L := (.int .i64 (q : Int)) :: (.int .i64 ((q : Int) + 1)) :: (.int .i64 s.uid) :: (.int .i64 s.flags) :: (sv s.name) :: (sv s.text) :: R2) p1 hA 2 (.int .i64 ((q : Int) + 1 + 1))
      have c3 := own_cell (L := (.int .i64 (q : Int)) :: (.int .i64 ((q : Int) + 1)) :: (.int .i64 ((q : Int) + 1 + 1)) :: (.int .i64 s.flags) :: (sv s.name) :: (sv s.text) :: R2) p2 hA 3 _ rfl
      have z3 : (((wr.setCell ⟨g, j * 6, none⟩ (.int .i64 (q : Int))).setCell ⟨g, j * 6 + 1, none⟩ (.int .i64 ((q : Int) + 1))).setCell ⟨g, j * 6 + 2, none⟩ (.int .i64 ((q : Int) + 1 + 1))).frozen? ⟨g, j * 6 + 3, none⟩ = false := own_free p2 _
      have p3 : ((((wr.setCell ⟨g, j * 6, none⟩ (.int .i64 (q : Int))).setCell ⟨g, j * 6 + 1, none⟩ (.int .i64 ((q : Int) + 1))).setCell ⟨g, j * 6 + 2, none⟩ (.int .i64 ((q : Int) + 1 + 1))).setCell ⟨g, j * 6 + 3, none⟩ (.int .i64 ((q : Int) + 1 + 1 + 1))).ownsRow 0 44 6 (.slice (some ⟨g, 0, none⟩) l.length c) l.length (A ++ (.int .i64 (q : Int)) :: (.int .i64 ((q : Int) + 1)) :: (.int .i64 ((q : Int) + 1 + 1)) :: (.int .i64 ((q : Int) + 1 + 1 + 1)) :: (sv s.name) :: (sv s.text) :: R2) := own_at (L := (.int .i64 (q : Int)) :: (.int .i64 ((q : Int) + 1)) :: (.int .i64 ((q : Int) + 1 + 1)) :: (.int .i64 s.flags) :: (sv s.name) :: (sv s.text) :: R2) p2 hA 3 (.int .i64 ((q : Int) + 1 + 1 + 1))
      have gs : GrownIn wr ((((wr.setCell ⟨g, j * 6, none⟩ (.int .i64 (q : Int))).setCell ⟨g, j * 6 + 1, none⟩ (.int .i64 ((q : Int) + 1))).setCell ⟨g, j * 6 + 2, none⟩ (.int .i64 ((q : Int) + 1 + 1))).setCell ⟨g, j * 6 + 3, none⟩ (.int .i64 ((q : Int) + 1 + 1 + 1))) [g] := ((((GrownIn.refl wr [g]).trans (GrownIn.set (by simp))).trans (GrownIn.set (by simp))).trans (GrownIn.set (by simp))).trans (GrownIn.set (by simp))
      replace hiA := LsIn.apart hiA gs (fun q hq hm => by simp at hm; exact gA (hm ▸ hq))
      replace hiR2 := LsIn.apart hiR2 gs (fun q hq hm => by simp at hm; exact gF (hm ▸ hq))
      replace hgr := hgr.trans (gs.mono (fun q hq => by simp at hq; exact hq ▸ hgf))
      clear gs
      have PP := Lib.hid p3
      have IA := Lib.hid hiA
      have IR := Lib.hid hiR2
      have GR := Lib.hid hgr
      clear hiA hiR2 hgr hown p0 p1 p2 p3 
      go_wp2_with fail
      refine (markText_k _ (q + 4) (by omega) _ (by omega)).mono ?_
      rintro e w1 ⟨rfl, b1⟩
      have hiA := IA.out
      have hiR2 := IR.out
      have hgr := GR.out
      have hown := PP.out
      clear IA IR GR PP c0 z0 c1 z1 c2 z2 c3 z3
      have gb : GrownIn ((((wr.setCell ⟨g, j * 6, none⟩ (.int .i64 (q : Int))).setCell ⟨g, j * 6 + 1, none⟩ (.int .i64 ((q : Int) + 1))).setCell ⟨g, j * 6 + 2, none⟩ (.int .i64 ((q : Int) + 1 + 1))).setCell ⟨g, j * 6 + 3, none⟩ (.int .i64 ((q : Int) + 1 + 1 + 1))) w1 [] := GrownIn.of_below b1
      replace hown := ownsRow_below hown b1
      replace hiA := LsIn.apart hiA gb (fun _ _ h => by cases h)
      replace hiR2 := LsIn.apart hiR2 gb (fun _ _ h => by cases h)
      replace hgr := hgr.trans (gb.mono (fun _ h => by cases h))
      clear b1 gb
      have c4 := own_cell (L := (.int .i64 (q : Int)) :: (.int .i64 ((q : Int) + 1)) :: (.int .i64 ((q : Int) + 1 + 1)) :: (.int .i64 ((q : Int) + 1 + 1 + 1)) :: (sv s.name) :: (sv s.text) :: R2) hown hA 4 _ rfl
      have z4 : w1.frozen? ⟨g, j * 6 + 4, none⟩ = false := own_free hown _
      have p4 : (w1.setCell ⟨g, j * 6 + 4, none⟩ (sv (markB (q + 4)))).ownsRow 0 44 6 (.slice (some ⟨g, 0, none⟩) l.length c) l.length (A ++ (.int .i64 (q : Int)) :: (.int .i64 ((q : Int) + 1)) :: (.int .i64 ((q : Int) + 1 + 1)) :: (.int .i64 ((q : Int) + 1 + 1 + 1)) :: (sv (markB (q + 4))) :: (sv s.text) :: R2) := own_at (L := (.int .i64 (q : Int)) :: (.int .i64 ((q : Int) + 1)) :: (.int .i64 ((q : Int) + 1 + 1)) :: (.int .i64 ((q : Int) + 1 + 1 + 1)) :: (sv s.name) :: (sv s.text) :: R2) hown hA 4 (sv (markB (q + 4)))
      have gs : GrownIn w1 (w1.setCell ⟨g, j * 6 + 4, none⟩ (sv (markB (q + 4)))) [g] := (GrownIn.refl w1 [g]).trans (GrownIn.set (by simp))
      replace hiA := LsIn.apart hiA gs (fun q hq hm => by simp at hm; exact gA (hm ▸ hq))
      replace hiR2 := LsIn.apart hiR2 gs (fun q hq hm => by simp at hm; exact gF (hm ▸ hq))
      replace hgr := hgr.trans (gs.mono (fun q hq => by simp at hq; exact hq ▸ hgf))
      clear gs
      have PP := Lib.hid p4
      have IA := Lib.hid hiA
      have IR := Lib.hid hiR2
      have GR := Lib.hid hgr
      clear hiA hiR2 hgr hown p4 
      go_wp2_with fail
      refine (markText_k _ (q + 5) (by omega) _ (by omega)).mono ?_
      rintro e w2 ⟨rfl, b1⟩
      have hiA := IA.out
      have hiR2 := IR.out
      have hgr := GR.out
      have hown := PP.out
      clear IA IR GR PP c4 z4
      have gb : GrownIn (w1.setCell ⟨g, j * 6 + 4, none⟩ (sv (markB (q + 4)))) w2 [] := GrownIn.of_below b1
      replace hown := ownsRow_below hown b1
      replace hiA := LsIn.apart hiA gb (fun _ _ h => by cases h)
      replace hiR2 := LsIn.apart hiR2 gb (fun _ _ h => by cases h)
      replace hgr := hgr.trans (gb.mono (fun _ h => by cases h))
      clear b1 gb
      have c5 := own_cell (L := (.int .i64 (q : Int)) :: (.int .i64 ((q : Int) + 1)) :: (.int .i64 ((q : Int) + 1 + 1)) :: (.int .i64 ((q : Int) + 1 + 1 + 1)) :: (sv (markB (q + 4))) :: (sv s.text) :: R2) hown hA 5 _ rfl
      have z5 : w2.frozen? ⟨g, j * 6 + 5, none⟩ = false := own_free hown _
      have p5 : (w2.setCell ⟨g, j * 6 + 5, none⟩ (sv (markB (q + 5)))).ownsRow 0 44 6 (.slice (some ⟨g, 0, none⟩) l.length c) l.length (A ++ (.int .i64 (q : Int)) :: (.int .i64 ((q : Int) + 1)) :: (.int .i64 ((q : Int) + 1 + 1)) :: (.int .i64 ((q : Int) + 1 + 1 + 1)) :: (sv (markB (q + 4))) :: (sv (markB (q + 5))) :: R2) := own_at (L := (.int .i64 (q : Int)) :: (.int .i64 ((q : Int) + 1)) :: (.int .i64 ((q : Int) + 1 + 1)) :: (.int .i64 ((q : Int) + 1 + 1 + 1)) :: (sv (markB (q + 4))) :: (sv s.text) :: R2) hown hA 5 (sv (markB (q + 5)))
      have gs : GrownIn w2 (w2.setCell ⟨g, j * 6 + 5, none⟩ (sv (markB (q + 5)))) [g] := (GrownIn.refl w2 [g]).trans (GrownIn.set (by simp))
      replace hiA := LsIn.apart hiA gs (fun q hq hm => by simp at hm; exact gA (hm ▸ hq))
      replace hiR2 := LsIn.apart hiR2 gs (fun q hq hm => by simp at hm; exact gF (hm ▸ hq))
      replace hgr := hgr.trans (gs.mono (fun q hq => by simp at hq; exact hq ▸ hgf))
      clear gs
      have PP := Lib.hid p5
      have IA := Lib.hid hiA
      have IR := Lib.hid hiR2
      have GR := Lib.hid hgr
      clear hiA hiR2 hgr hown p5 
      go_wp2
      go_roundw
      case rel =>
        refine ⟨j + 1, q + cntLs s.lf, A ++ [(.int .i64 (q : Int)), (.int .i64 ((q : Int) + 1)), (.int .i64 ((q : Int) + 1 + 1)), (.int .i64 ((q : Int) + 1 + 1 + 1)), (sv (markB (q + 4))), (sv (markB (q + 5)))], R2, fA ++ ([]), f2, by omega, by go_num, ?_, HEN.out.symm, by simp; omega, by simpa using PP.out, ?_, IR.out, by rw [List.append_assoc]; exact HFF.out, GR.out⟩
        · rw [ComD.cnt]
          congr 1 <;> omega
        · rw [HMK.out, ComD.mark]
          exact LsIn.append.2 ⟨A, _, fA, _, rfl, IA.out, ComD.in_mk, rfl⟩
      case measure => simp [intOf]; omega
    · obtain rfl : j = l.length := by omega
      have hR0 : R = [] ∧ fR = [] := by rw [List.drop_length] at hiR; exact hiR
      obtain ⟨rfl, rfl⟩ := hR0
      rw [List.append_nil] at hown hff
      rw [List.take_length] at hiA hq
      subst hff
      have HT := Lib.hid (show LfIn wr (markLf (commitsLf l) k).1 (.slice p l.length c) fp from ⟨by rw [markLs_length]; exact flat_lenM ComD.len l, A, fA, own_base hown, hiA, HFP.out.symm⟩)
      have HV := Lib.hid (show q = k + cntLf (commitsLf l) from hq)
      clear hiA hiR hown hA hq
      go_wp2
      go_ret
      exact ⟨by rw [HV.out]; rfl, HT.out, hgr⟩

end Go.Proofs.Ytbfgdbpfecffcaa

namespace Go.Proofs.Ytbfgdbpfecffcaa
open Go.RowKit

structure MsgD where
  uid : Int
  flags : Int
  text : List UInt8

def MsgD.lf (x : MsgD) : List Lf := [.int x.uid, .int x.flags, .str x.text]
theorem MsgD.len (x : MsgD) : x.lf.length = 3 := rfl
def msgsLf (l : List MsgD) : Lf := .rows 74 3 l.length (l.flatMap MsgD.lf)
theorem MsgD.fit (x : MsgD) : LsFit x.lf := ⟨trivial, trivial, trivial, trivial⟩
theorem msgsLf_fit (l : List MsgD) : LfFit (msgsLf l) := ⟨by omega, flat_lenM MsgD.len l, LsFit.flat MsgD.fit l⟩
theorem MsgD.sz (x : MsgD) : szLs x.lf = x.text.length := by simp only [MsgD.lf, szLs, szLf_int, szLf_str] <;> omega
theorem MsgD.cnt (x : MsgD) : cntLs x.lf = 1 + 1 + 1 := by simp only [MsgD.lf, cntLs, cntLf_int, cntLf_str] <;> omega
theorem MsgD.rd {W : World} {x : MsgD} {vs : List Value} : LsRd W x.lf vs ↔ vs = [.int .i64 x.uid, .int .i64 x.flags, sv x.text] := by
  constructor
  · rintro ⟨a0, s0, rfl, h0, a1, s1, rfl, h1, a2, s2, rfl, h2, rfl⟩
    exact by rw [h0, h1, h2]
  · rintro rfl
    exact ⟨_, _, rfl, rfl, _, _, rfl, rfl, _, _, rfl, rfl, rfl⟩
theorem MsgD.mark (x : MsgD) (k : Nat) : (markLs x.lf k).1 = [.int ((k : Nat) : Int), .int ((k + 1 : Nat) : Int), .str (markB (k + 1 + 1))] := by simp only [MsgD.lf, markLs, markLf_int, markLf_str]
theorem MsgD.rdm {W : World} {x : MsgD} {k : Nat} {vs : List Value} : LsRd W (markLs x.lf k).1 vs ↔ vs = [.int .i64 ((k : Nat) : Int), .int .i64 ((k + 1 : Nat) : Int), sv (markB (k + 1 + 1))] := by
  rw [MsgD.mark]
  constructor
  · rintro ⟨a0, s0, rfl, h0, a1, s1, rfl, h1, a2, s2, rfl, h2, rfl⟩
    exact by rw [h0, h1, h2]
  · rintro rfl
    exact ⟨_, _, rfl, rfl, _, _, rfl, rfl, _, _, rfl, rfl, rfl⟩
theorem MsgD.in_of {W : World} {z0 : Int} {z1 : Int} {z2 : List UInt8} {vs : List Value} {fp : List Nat} (h : LsIn W [.int z0, .int z1, .str z2] vs fp) : vs = [.int .i64 z0, .int .i64 z1, sv z2] ∧ fp = [] := by
  obtain ⟨a0, s0, f0, g0, rfl, h0, ⟨a1, s1, f1, g1, rfl, h1, ⟨a2, s2, f2, g2, rfl, h2, ⟨rfl, rfl⟩, rfl⟩, rfl⟩, rfl⟩ := h
  exact ⟨by rw [h0.1, h1.1, h2.1], by rw [h0.2, h1.2, h2.2]; simp⟩
theorem MsgD.in_mk {W : World} {z0 : Int} {z1 : Int} {z2 : List UInt8}  : LsIn W [.int z0, .int z1, .str z2] [.int .i64 z0, .int .i64 z1, sv z2] ([]) := by
  have h : LsIn W [.int z0, .int z1, .str z2] [.int .i64 z0, .int .i64 z1, sv z2] ([] ++ ([] ++ ([] ++ ([])))) := ⟨_, _, [], _, rfl, ⟨rfl, rfl⟩, ⟨_, _, [], _, rfl, ⟨rfl, rfl⟩, ⟨_, _, [], _, rfl, ⟨rfl, rfl⟩, ⟨rfl, rfl⟩, rfl⟩, rfl⟩, rfl⟩
  simpa using h

theorem Try.el_msg : Elem Try.prog 59 74 3 32 := Elem.mk' (z := .agg #[.int .i64 0, .int .i64 0, .string ⟨#[]⟩]) Try.underlying59 (by kernel_rfl) rfl (by omega)

theorem MsgD.at {W : World} {l : List MsgD} {v : Value} (h : LfRd W (msgsLf l) v) : ∃ p cap, v = .slice p l.length cap ∧ (l = [] ∨ ∃ b off, p = some ⟨b, off, none⟩ ∧ b < W.heap.size ∧ ∀ i x, l[i]? = some x → W.cell? ⟨b, off + i * 3, none⟩ = some (.int .i64 x.uid) ∧ W.cell? ⟨b, off + i * 3 + 1, none⟩ = some (.int .i64 x.flags) ∧ W.cell? ⟨b, off + i * 3 + 2, none⟩ = some (sv x.text)) := by
  obtain ⟨p, cap, hv, hc⟩ := rows_at MsgD.len h
  refine ⟨p, cap, hv, hc.imp id fun ⟨b, off, hp, hlt, hc⟩ => ⟨b, off, hp, hlt, fun i x hi => ?_⟩⟩
  obtain ⟨us, h1, h2⟩ := hc i x hi
  obtain rfl := MsgD.rd.1 h1
  exact ⟨h2 0 _ rfl, h2 1 _ rfl, h2 2 _ rfl⟩
theorem MsgD.atm {W : World} {l : List MsgD} {v : Value} {k0 : Nat} (h : LfRd W (markLf (msgsLf l) k0).1 v) : ∃ p cap, v = .slice p l.length cap ∧ (l = [] ∨ ∃ b off, p = some ⟨b, off, none⟩ ∧ b < W.heap.size ∧ ∀ i x k, l[i]? = some x → k = k0 + cntLs ((l.take i).flatMap MsgD.lf) → W.cell? ⟨b, off + i * 3, none⟩ = some (.int .i64 ((k : Nat) : Int)) ∧ W.cell? ⟨b, off + i * 3 + 1, none⟩ = some (.int .i64 ((k + 1 : Nat) : Int)) ∧ W.cell? ⟨b, off + i * 3 + 2, none⟩ = some (sv (markB (k + 1 + 1)))) := by
  obtain ⟨p, cap, hv, hc⟩ := rows_at_mark MsgD.len h
  refine ⟨p, cap, hv, hc.imp id fun ⟨b, off, hp, hlt, hc⟩ => ⟨b, off, hp, hlt, fun i x k hi hk => ?_⟩⟩
  obtain ⟨us, h1, h2⟩ := hc i x hi
  rw [← hk] at h1
  obtain rfl := MsgD.rdm.1 h1
  exact ⟨h2 0 _ rfl, h2 1 _ rfl, h2 2 _ rfl⟩

set_option maxHeartbeats 1600000 in
theorem szMsg_g (x : MsgD) (ll : Int) (left : Nat) (hll : ll = (left : Int)) (w : World) (hin : LsBnd x.lf) (hL : left ≤ 1000000000000) :
    Calls Try.prog 45 #[.agg #[.int .i64 x.uid, .int .i64 x.flags, sv x.text], .int .i64 ll] w fun e w' => e = .returned (.int .i64 (szN left (szLs x.lf))) ∧ Below w.heap.size w w' := by
  subst hll
  have hb1 : Below w.heap.size w (w.alloc (.cells #[.int .i64 x.uid, .int .i64 x.flags, sv x.text] 76)) := (Below.refl _ _).alloc (Nat.le_refl _) _
  have HA1 := Lib.hid (heap_alloc_new w (.cells #[.int .i64 x.uid, .int .i64 x.flags, sv x.text] 76))
  have hsz := MsgD.sz x
  have bn_2 : x.text.length ≤ 9223372036854775807 := hin.2.2.1
  have bz_2 : (ByteArray.mk x.text.toArray).size = x.text.length := by show x.text.toArray.size = _; simp
  clear hin
  by_cases k0 : x.text.length ≤ left
  · obtain ⟨L1, hL1⟩ : ∃ L, L + x.text.length = left := ⟨left - x.text.length, by omega⟩
    have n0 : ¬ (left : Int) - (x.text.length : Int) < 0 := by omega
    have bL1 : L1 ≤ 1000000000000 := by omega
    have HL1 := Lib.hid hL1
    have HV := Lib.hid (show szN left (szLs x.lf) = (left : Int) - (x.text.length : Int) by rw [hsz, szN_yes (by omega)]; omega)
    clear hsz hL1

    go_enter Try.func45, Try.ntmps45
    go_wp2
    go_ret
    exact ⟨by rw [HV.out]; rfl, hb1⟩
  · have HV := Lib.hid (show szN left (szLs x.lf) = -1 by rw [hsz]; exact szN_no (by omega))
    have n0 : (left : Int) - (x.text.length : Int) < 0 := by omega
    clear hsz

    go_enter Try.func45, Try.ntmps45
    go_wp2
    go_ret
    exact ⟨by rw [HV.out]; rfl, hb1⟩

set_option maxHeartbeats 1600000 in
theorem eqMsg_g (x : MsgD) (w : World) (_hs : szLs x.lf ≤ 1000000000000) :
    Calls Try.prog 47 #[.agg #[.int .i64 x.uid, .int .i64 x.flags, sv x.text], .agg #[.int .i64 x.uid, .int .i64 x.flags, sv x.text]] w fun e w' => e = .returned (.bool true) ∧ Below w.heap.size w w' := by
  go_enter Try.func47, Try.ntmps47
  go_wp2
  go_ret
  exact ⟨rfl, ((Below.refl _ _).alloc (Nat.le_refl _) _).alloc (by simp) _⟩

set_option maxRecDepth 20000 in
set_option maxHeartbeats 6400000 in
theorem toMsg_g (x : MsgD) (w : World) (_hs : szLs x.lf ≤ 10000000) :
    Calls Try.prog 46 #[.agg #[.int .i64 x.uid, .int .i64 x.flags, sv x.text]] w fun e w' => e = .returned (.agg #[.int .i64 x.uid, .int .i64 x.flags, sv x.text]) ∧ Below w.heap.size w w' := by
  go_enter Try.func46, Try.ntmps46
  go_wp2
  go_returns
  exact ⟨rfl, (((Below.refl _ _).alloc (Nat.le_refl _) _).alloc (by simp) _).alloc (by simp; omega) _⟩

set_option maxHeartbeats 3200000 in
theorem szMsgS_g (v : Value) (l : List MsgD) (ll : Int) (left : Nat) (hll : ll = (left : Int)) (w : World) (hr : LfRd w (msgsLf l) v) (hin : LfBnd (msgsLf l)) (hL : left ≤ 1000000000000) :
    Calls Try.prog 41 #[v, .int .i64 ll] w fun e w' => e = .returned (.int .i64 (szN left (szLf (msgsLf l)))) ∧ Below w.heap.size w w' := by
  subst hll
  have HSZ := Lib.hid (show szLf (msgsLf l) = l.length + szLs (l.flatMap MsgD.lf) from rfl)
  obtain ⟨p, c, rfl, hp⟩ := MsgD.at hr
  have hl : l.length ≤ 9223372036854775807 := hin.1
  have HX := Lib.hid (LsBnd.flat hin.2)
  have HP := Lib.hid hp
  clear hr hp hin
  by_cases hbig : l.length ≤ left
  · have h1 : ¬ (left : Int) - (l.length : Int) < 0 := by omega
    go_enter Try.func41, Try.ntmps41
    go_wp2
    go_loopw [1, 5] (fun lf i wr => ∃ j q : Nat, j ≤ l.length ∧ i = .int .i64 j ∧ lf = .int .i64 (q : Int) ∧ q + (l.length + szLs ((l.take j).flatMap MsgD.lf)) = left ∧ Below w.heap.size w wr) (fun _ i _ => l.length - (intOf i).toNat)
    case atStart => exact ⟨0, left - l.length, by omega, rfl, by congr 1; omega, by simp [szLs]; omega, Below.refl _ _⟩
    case round =>
      obtain ⟨j, q, hj, rfl, rfl, hq, hbr⟩ := hrel
      have hbr0 := hbr.size
      have hqL : q ≤ 1000000000000 := by omega
      by_cases hlt : j < l.length
      · obtain ⟨b1, o1, rfl, hb1, hc1⟩ := HP.out.resolve_left (by intro h; subst h; simp at hlt)
        obtain ⟨s, hs⟩ : ∃ s, l[j]? = some s := ⟨_, List.getElem?_eq_getElem hlt⟩
        obtain ⟨x0, x1, x2⟩ := hc1 j s hs
        have e0 : wr.cell? ⟨b1, o1 + j * 3, none⟩ = some (.int .i64 s.uid) := (hbr.cell (p := ⟨b1, o1 + j * 3, none⟩) hb1).trans x0
        have e1 : wr.cell? ⟨b1, o1 + j * 3 + 1, none⟩ = some (.int .i64 s.flags) := (hbr.cell (p := ⟨b1, o1 + j * 3 + 1, none⟩) hb1).trans x1
        have e2 : wr.cell? ⟨b1, o1 + j * 3 + 2, none⟩ = some (sv s.text) := (hbr.cell (p := ⟨b1, o1 + j * 3 + 2, none⟩) hb1).trans x2
        have cz := fun ll (hl : ll = (q : Int)) => szMsg_g s ll q hl wr (HX.out s (List.mem_of_getElem? hs)) hqL
        have htk : szLs ((l.take (j + 1)).flatMap MsgD.lf) = szLs ((l.take j).flatMap MsgD.lf) + szLs s.lf := by rw [flat_take_succ MsgD.lf hs, szLs_append]
        have hmono := szLs_flat_take MsgD.lf l (j + 1)
        by_cases hok : szLs s.lf ≤ q
        · obtain ⟨q2, hq2⟩ : ∃ q2, q2 + szLs s.lf = q := ⟨q - szLs s.lf, by omega⟩
          have hqe : q2 + (l.length + szLs ((l.take (j + 1)).flatMap MsgD.lf)) = left := by omega
          simp only [show szN q (szLs s.lf) = (q2 : Int) from by rw [szN_yes hok]; omega] at cz
          have CZ := Lib.hid cz
          have hnn : ¬ (q2 : Int) < 0 := by omega
          have HQ := Lib.hid hqe
          clear cz htk hq hq2 hqe hmono hok
          clear hc1 hs HP x0 x1 x2
          go_wp2_with fail
          refine (CZ.out _ rfl).mono ?_
          rintro e w2 ⟨rfl, b2⟩
          have hb2 := hbr.trans (b2.mono hbr0)
          clear CZ b2 hbr e0 e1 e2
          go_wp2
          go_roundw
          case rel => exact ⟨j + 1, q2, by omega, by go_num, rfl, HQ.out, hb2⟩
          case measure => simp [intOf]; omega
        · simp only [show szN q (szLs s.lf) = -1 from szN_no hok] at cz
          have CZ := Lib.hid cz
          have HV := Lib.hid (show szN left (szLf (msgsLf l)) = -1 by rw [HSZ.out]; exact szN_no (by omega))
          clear cz htk hq hmono hok
          clear hc1 hs HP x0 x1 x2
          go_wp2_with fail
          refine (CZ.out _ rfl).mono ?_
          rintro e w2 ⟨rfl, b2⟩
          have hb2 := hbr.trans (b2.mono hbr0)
          clear CZ b2 hbr e0 e1 e2
          go_wp2
          go_ret
          exact ⟨by rw [HV.out]; rfl, hb2⟩
      · obtain rfl : j = l.length := by omega
        rw [List.take_length] at hq
        have HV := Lib.hid (show szN left (szLf (msgsLf l)) = (q : Int) by rw [HSZ.out, szN_yes (by omega)]; omega)
        clear hq
        go_wp2
        go_ret
        exact ⟨by rw [HV.out]; rfl, hbr⟩
  · have h1 : (left : Int) - (l.length : Int) < 0 := by omega
    have HV := Lib.hid (show szN left (szLf (msgsLf l)) = -1 by rw [HSZ.out]; exact szN_no (by omega))
    go_enter Try.func41, Try.ntmps41
    go_wp2
    go_ret
    exact ⟨by rw [HV.out]; rfl, Below.refl _ _⟩

set_option maxHeartbeats 3200000 in
theorem eqMsgS_g (a b : Value) (l : List MsgD) (w : World) (ha : LfRd w (msgsLf l) a) (hb : LfRd w (msgsLf l) b) (hs : szLf (msgsLf l) ≤ 1000000000000) :
    Calls Try.prog 43 #[a, b] w fun e w' => e = .returned (.bool true) ∧ Below w.heap.size w w' := by
  have hs2 : l.length + szLs (l.flatMap MsgD.lf) ≤ 1000000000000 := hs
  clear hs
  obtain ⟨p, c1, rfl, hp⟩ := MsgD.at ha
  obtain ⟨q, c2, rfl, hq⟩ := MsgD.at hb
  clear ha hb
  have HP := Lib.hid hp
  have HQ := Lib.hid hq
  clear hp hq
  have HL := Lib.hid hs2
  have hll : l.length ≤ 1000000000000 := by omega
  clear hs2
  go_enter Try.func43, Try.ntmps43
  go_wp2
  go_loopw [5] (fun i wr => ∃ k : Nat, k ≤ l.length ∧ i = .int .i64 k ∧ Below w.heap.size w wr) (fun i _ => l.length - (intOf i).toNat)
  case atStart => exact ⟨0, by omega, rfl, Below.refl _ _⟩
  case round =>
    obtain ⟨k, hk, rfl, hbr⟩ := hrel
    have hbr0 := hbr.size
    by_cases hlt : k < l.length
    · obtain ⟨b1, o1, rfl, hb1, hc1⟩ := HP.out.resolve_left (by intro h; subst h; simp at hlt)
      obtain ⟨b2, o2, rfl, hb2, hc2⟩ := HQ.out.resolve_left (by intro h; subst h; simp at hlt)
      obtain ⟨s, hs⟩ : ∃ s, l[k]? = some s := ⟨_, List.getElem?_eq_getElem hlt⟩
      obtain ⟨x0, x1, x2⟩ := hc1 k s hs
      obtain ⟨y0, y1, y2⟩ := hc2 k s hs
      have e0 : wr.drew.cell? ⟨b1, o1 + k * 3, none⟩ = some (.int .i64 s.uid) := (hbr.cell (p := ⟨b1, o1 + k * 3, none⟩) hb1).trans x0
      have f0 : wr.drew.cell? ⟨b2, o2 + k * 3, none⟩ = some (.int .i64 s.uid) := (hbr.cell (p := ⟨b2, o2 + k * 3, none⟩) hb2).trans y0
      have e1 : wr.drew.cell? ⟨b1, o1 + k * 3 + 1, none⟩ = some (.int .i64 s.flags) := (hbr.cell (p := ⟨b1, o1 + k * 3 + 1, none⟩) hb1).trans x1
      have f1 : wr.drew.cell? ⟨b2, o2 + k * 3 + 1, none⟩ = some (.int .i64 s.flags) := (hbr.cell (p := ⟨b2, o2 + k * 3 + 1, none⟩) hb2).trans y1
      have e2 : wr.drew.cell? ⟨b1, o1 + k * 3 + 2, none⟩ = some (sv s.text) := (hbr.cell (p := ⟨b1, o1 + k * 3 + 2, none⟩) hb1).trans x2
      have f2 : wr.drew.cell? ⟨b2, o2 + k * 3 + 2, none⟩ = some (sv s.text) := (hbr.cell (p := ⟨b2, o2 + k * 3 + 2, none⟩) hb2).trans y2
      have hsm := szLs_mem MsgD.lf (List.mem_of_getElem? hs)
      have CE := Lib.hid (eqMsg_g s wr.drew (by have := HL.out; omega))
      clear hc1 hc2 hs HP HQ hsm x0 y0 x1 y1 x2 y2
      go_wp2
      refine ord_start [(0, true), (1, true), (2, true), (3, true), (4, true), (5, true), (6, true), (7, true), (8, false), (9, true)] (fun W => (W.cell? ⟨b1, o1 + k * 3, none⟩ = some (.int .i64 s.uid) ∧ W.cell? ⟨b1, o1 + k * 3 + 1, none⟩ = some (.int .i64 s.flags) ∧ W.cell? ⟨b1, o1 + k * 3 + 2, none⟩ = some (sv s.text)) ∧ W.cell? ⟨b2, o2 + k * 3, none⟩ = some (.int .i64 s.uid) ∧ W.cell? ⟨b2, o2 + k * 3 + 1, none⟩ = some (.int .i64 s.flags) ∧ W.cell? ⟨b2, o2 + k * 3 + 2, none⟩ = some (sv s.text)) (by kernel_rfl) (by kernel_rfl) rfl (by kernel_rfl) ?_
      intro ops' hops
      clear hops
      simp only [List.map_cons, List.map_nil, pickOp_zero, pickOp_succ]
      iterate 8 (refine ord_flo ?_ (fun _ _ _ h => h) rfl ?_ ⟨⟨e0, e1, e2⟩, f0, f1, f2⟩ ?_; rotate_left; focus (intro W hS; obtain ⟨⟨s0, s1, s2⟩, t0, t1, t2⟩ := hS; go_simp; rfl))
      refine ord_ev rfl ?_
      go_simp
      refine (CE.out).mono ?_
      rintro e w2 ⟨rfl, bb⟩
      have hb2' := hbr.drew.trans (bb.mono (by show w.heap.size ≤ wr.heap.size; omega))
      have hlt1 : b1 < wr.drew.heap.size := Nat.lt_of_lt_of_le hb1 hbr0
      have hlt2 : b2 < wr.drew.heap.size := Nat.lt_of_lt_of_le hb2 hbr0
      have HE := Lib.hid (show (fun W : World => (W.cell? ⟨b1, o1 + k * 3, none⟩ = some (.int .i64 s.uid) ∧ W.cell? ⟨b1, o1 + k * 3 + 1, none⟩ = some (.int .i64 s.flags) ∧ W.cell? ⟨b1, o1 + k * 3 + 2, none⟩ = some (sv s.text)) ∧ W.cell? ⟨b2, o2 + k * 3, none⟩ = some (.int .i64 s.uid) ∧ W.cell? ⟨b2, o2 + k * 3 + 1, none⟩ = some (.int .i64 s.flags) ∧ W.cell? ⟨b2, o2 + k * 3 + 2, none⟩ = some (sv s.text)) w2 from ⟨⟨(bb.cell (p := ⟨b1, o1 + k * 3, none⟩) hlt1).trans e0, (bb.cell (p := ⟨b1, o1 + k * 3 + 1, none⟩) hlt1).trans e1, (bb.cell (p := ⟨b1, o1 + k * 3 + 2, none⟩) hlt1).trans e2⟩, (bb.cell (p := ⟨b2, o2 + k * 3, none⟩) hlt2).trans f0, (bb.cell (p := ⟨b2, o2 + k * 3 + 1, none⟩) hlt2).trans f1, (bb.cell (p := ⟨b2, o2 + k * 3 + 2, none⟩) hlt2).trans f2⟩)
      refine ⟨HE.out, ?_⟩
      iterate 1 (refine ord_flo ?_ (fun _ _ _ h => h) rfl ?_ HE.out ?_; rotate_left; focus (intro W hS; obtain ⟨⟨s0, s1, s2⟩, t0, t1, t2⟩ := hS; go_simp; rfl))
      refine ord_done ?_
      go_simp
      clear e0 f0 e1 f1 e2 f2 bb hbr hbr0 CE HE
      go_wp2
      go_roundw
      case rel => exact ⟨k + 1, by omega, by go_num, hb2'⟩
      case measure => simp [intOf]; omega
    · obtain rfl : k = l.length := by omega
      go_wp2
      go_ret
      exact ⟨rfl, hbr⟩

set_option maxRecDepth 20000 in
set_option maxHeartbeats 6400000 in
theorem toMsgS_g (v : Value) (l : List MsgD) (w : World) (hr : LfRd w (msgsLf l) v) (hs : szLf (msgsLf l) ≤ 10000000) :
    Calls Try.prog 42 #[v] w fun e w' => ∃ v' fp, e = .returned v' ∧ Tree w' w.heap.size (msgsLf l) v' fp ∧ Below w.heap.size w w' := by
  have hs2 : l.length + szLs (l.flatMap MsgD.lf) ≤ 10000000 := hs
  obtain ⟨p, c, rfl, hp⟩ := MsgD.at hr
  have HP := Lib.hid hp
  have HL := Lib.hid hs2
  have hll : l.length ≤ 10000000 := by omega
  clear hr hp hs hs2
  go_enter Try.func42, Try.ntmps42
  go_wp2_with (refine wpList_mkn Try.el_msg rfl _ _ rfl w.heap.size w (Below.refl _ _) (Nat.le_refl _) _ _ l.length rfl rfl (by omega) (by omega) ?_)
  intro w1 xs0 hown1 hb1 hlt1
  go_wp2
  go_loopw [4] (fun i wr => ∃ (k : Nat) (A R : List Value) (fq : List Nat), k ≤ l.length ∧ i = .int .i64 k ∧ A.length = k * 3 ∧ wr.ownsRow w.heap.size 74 3 (.slice (some ⟨w.heap.size, 0, none⟩) l.length l.length) l.length (A ++ R) ∧ LsIn wr ((l.take k).flatMap MsgD.lf) A fq ∧ fq.Nodup ∧ (∀ q ∈ fq, w.heap.size < q) ∧ Below w.heap.size w wr ∧ w.heap.size < wr.heap.size) (fun i _ => l.length - (intOf i).toNat)
  case atStart => exact ⟨0, [], xs0, [], by omega, rfl, by simp, hown1, ⟨rfl, rfl⟩, by simp, by simp, hb1, hlt1⟩
  case round =>
    obtain ⟨k, A, R, fq, hk, rfl, hA, hown, hin, hnd, hlow, hbr, hzr⟩ := hrel
    have hbr0 := hbr.size
    clear hown1 hb1 hlt1
    by_cases hlt : k < l.length
    · obtain ⟨b1, o1, rfl, hb1, hc1⟩ := HP.out.resolve_left (by intro h; subst h; simp at hlt)
      obtain ⟨s, hs⟩ : ∃ s, l[k]? = some s := ⟨_, List.getElem?_eq_getElem hlt⟩
      obtain ⟨x0, x1, x2⟩ := hc1 k s hs
      have e0 : wr.cell? ⟨b1, o1 + k * 3, none⟩ = some (.int .i64 s.uid) := (hbr.cell (p := ⟨b1, o1 + k * 3, none⟩) hb1).trans x0
      have e1 : wr.cell? ⟨b1, o1 + k * 3 + 1, none⟩ = some (.int .i64 s.flags) := (hbr.cell (p := ⟨b1, o1 + k * 3 + 1, none⟩) hb1).trans x1
      have e2 : wr.cell? ⟨b1, o1 + k * 3 + 2, none⟩ = some (sv s.text) := (hbr.cell (p := ⟨b1, o1 + k * 3 + 2, none⟩) hb1).trans x2
      have hsm := szLs_mem MsgD.lf (List.mem_of_getElem? hs)
      have CT := Lib.hid (toMsg_g s wr (by have := HL.out; omega))
      have HTK := Lib.hid (flat_take_succ MsgD.lf hs)
      clear hc1 hs HP hsm x0 x1 x2
      go_wp2_with fail
      refine (CT.out).mono ?_
      rintro e w2 ⟨rfl, b2⟩
      have hown2 := ownsRow_below hown b2
      have hin2 := LsIn.frame _ _ _ (fun q hq => b2.block q (LsIn.lt _ _ _ hin q hq)) hin
      have hqz : ∀ q ∈ fq, q < wr.heap.size := fun q hq => LsIn.lt _ _ _ hin q hq
      have hb2 := hbr.trans (b2.mono hbr0)
      have hz2 := b2.size
      obtain ⟨R1, R2, rfl, hR1⟩ := rest_split hown2.1 hA hlt
      obtain ⟨y0, y1, y2, rfl⟩ : ∃ y0 y1 y2, R1 = [y0, y1, y2] := by
        match R1, hR1 with
        | [a0, a1, a2], _ => exact ⟨a0, a1, a2, rfl⟩
      simp only [List.cons_append, List.nil_append] at hown2
      clear hown hin b2 CT hR1 e0 e1 e2
      have c0 : w2.cell? ⟨w.heap.size, k * 3, none⟩ = some y0 := own_cell (L := y0 :: y1 :: y2 :: R2) hown2 hA 0 _ rfl
      have q0 : w2.frozen? ⟨w.heap.size, k * 3, none⟩ = false := own_free hown2 _
      have p0 : (w2.setCell ⟨w.heap.size, k * 3, none⟩ (.int .i64 s.uid)).ownsRow w.heap.size 74 3 (.slice (some ⟨w.heap.size, 0, none⟩) l.length l.length) l.length (A ++ (.int .i64 s.uid) :: y1 :: y2 :: R2) := own_at (L := y0 :: y1 :: y2 :: R2) hown2 hA 0 (.int .i64 s.uid)
      have c1 : (w2.setCell ⟨w.heap.size, k * 3, none⟩ (.int .i64 s.uid)).cell? ⟨w.heap.size, k * 3 + 1, none⟩ = some y1 := own_cell (L := (.int .i64 s.uid) :: y1 :: y2 :: R2) p0 hA 1 _ rfl
      have q1 : (w2.setCell ⟨w.heap.size, k * 3, none⟩ (.int .i64 s.uid)).frozen? ⟨w.heap.size, k * 3 + 1, none⟩ = false := own_free p0 _
      have p1 : ((w2.setCell ⟨w.heap.size, k * 3, none⟩ (.int .i64 s.uid)).setCell ⟨w.heap.size, k * 3 + 1, none⟩ (.int .i64 s.flags)).ownsRow w.heap.size 74 3 (.slice (some ⟨w.heap.size, 0, none⟩) l.length l.length) l.length (A ++ (.int .i64 s.uid) :: (.int .i64 s.flags) :: y2 :: R2) := own_at (L := (.int .i64 s.uid) :: y1 :: y2 :: R2) p0 hA 1 (.int .i64 s.flags)
      have c2 : ((w2.setCell ⟨w.heap.size, k * 3, none⟩ (.int .i64 s.uid)).setCell ⟨w.heap.size, k * 3 + 1, none⟩ (.int .i64 s.flags)).cell? ⟨w.heap.size, k * 3 + 2, none⟩ = some y2 := own_cell (L := (.int .i64 s.uid) :: (.int .i64 s.flags) :: y2 :: R2) p1 hA 2 _ rfl
      have q2 : ((w2.setCell ⟨w.heap.size, k * 3, none⟩ (.int .i64 s.uid)).setCell ⟨w.heap.size, k * 3 + 1, none⟩ (.int .i64 s.flags)).frozen? ⟨w.heap.size, k * 3 + 2, none⟩ = false := own_free p1 _
      have p2 : (((w2.setCell ⟨w.heap.size, k * 3, none⟩ (.int .i64 s.uid)).setCell ⟨w.heap.size, k * 3 + 1, none⟩ (.int .i64 s.flags)).setCell ⟨w.heap.size, k * 3 + 2, none⟩ (sv s.text)).ownsRow w.heap.size 74 3 (.slice (some ⟨w.heap.size, 0, none⟩) l.length l.length) l.length (A ++ (.int .i64 s.uid) :: (.int .i64 s.flags) :: (sv s.text) :: R2) := own_at (L := (.int .i64 s.uid) :: (.int .i64 s.flags) :: y2 :: R2) p1 hA 2 (sv s.text)
      have gs : GrownIn w2 (((w2.setCell ⟨w.heap.size, k * 3, none⟩ (.int .i64 s.uid)).setCell ⟨w.heap.size, k * 3 + 1, none⟩ (.int .i64 s.flags)).setCell ⟨w.heap.size, k * 3 + 2, none⟩ (sv s.text)) [w.heap.size] := (((GrownIn.refl w2 [w.heap.size]).trans (GrownIn.set (by simp))).trans (GrownIn.set (by simp))).trans (GrownIn.set (by simp))
      have IA := Lib.hid (LsIn.apart hin2 gs (fun q hq hm => by have := hlow q hq; simp at hm; omega))
      have hb3 := GrownIn.below hb2 gs hb2.size (fun q hq => by simp at hq; omega)
      have hz3 : w.heap.size < (((w2.setCell ⟨w.heap.size, k * 3, none⟩ (.int .i64 s.uid)).setCell ⟨w.heap.size, k * 3 + 1, none⟩ (.int .i64 s.flags)).setCell ⟨w.heap.size, k * 3 + 2, none⟩ (sv s.text)).heap.size := Nat.lt_of_lt_of_le (Nat.lt_of_lt_of_le hzr hz2) gs.size
      have PP := Lib.hid p2
      clear hown2 hin2 hb2 gs p0 p1 p2 
      go_wp2
      go_roundw
      case rel =>
        refine ⟨k + 1, A ++ [(.int .i64 s.uid), (.int .i64 s.flags), (sv s.text)], R2, fq ++ ([]), by omega, by go_num, by simp; omega, by simpa using PP.out, ?_, ?_, ?_, hb3, hz3⟩
        · rw [HTK.out]
          exact LsIn.append.2 ⟨A, _, fq, _, rfl, IA.out, MsgD.in_mk, rfl⟩
        · simpa using hnd
        · simpa using hlow
      case measure => simp [intOf]; omega
    · obtain rfl : k = l.length := by omega
      have hR0 : R = [] := by
        have := hown.1
        rw [List.length_append, hA] at this
        exact List.eq_nil_of_length_eq_zero (by omega)
      subst hR0
      rw [List.append_nil] at hown
      rw [List.take_length] at hin
      have hT : Tree wr w.heap.size (msgsLf l) (.slice (some ⟨w.heap.size, 0, none⟩) l.length l.length) (w.heap.size :: fq) := by
        refine ⟨⟨flat_lenM MsgD.len l, A, fq, own_base hown, hin, rfl⟩, List.nodup_cons.2 ⟨fun hm => by have := hlow _ hm; omega, hnd⟩, fun q hq => ?_⟩
        rcases List.mem_cons.1 hq with rfl | hq
        · exact Nat.le_refl _
        · exact Nat.le_of_lt (hlow q hq)
      have HT := Lib.hid hT
      clear hT hown hin hA
      go_wp2
      go_ret
      exact ⟨_, _, rfl, HT.out, hbr⟩

set_option maxRecDepth 20000 in
set_option maxHeartbeats 6400000 in
theorem markMsgS_g (v : Value) (l : List MsgD) (kk : Int) (k : Nat) (hkk : kk = (k : Int)) (fp : List Nat) (w : World) (hi : LfIn w (msgsLf l) v fp) (hnd : fp.Nodup) (hk : k + cntLf (msgsLf l) ≤ 1000000000000) (hs : szLf (msgsLf l) ≤ 1000000000000) :
    Calls Try.prog 37 #[v, .int .i64 kk] w fun e w' => e = .returned (.int .i64 ((k + cntLf (msgsLf l) : Nat) : Int)) ∧ LfIn w' (markLf (msgsLf l) k).1 v fp ∧ GrownIn w w' fp := by
  subst hkk
  have hs2 : l.length + szLs (l.flatMap MsgD.lf) ≤ 1000000000000 := hs
  have hll : l.length ≤ 1000000000000 := by omega
  have HSZ := Lib.hid hs2
  have HCN := Lib.hid (show k + cntLs (l.flatMap MsgD.lf) ≤ 1000000000000 from hk)
  clear hk hs hs2
  obtain ⟨hfl, xs, fq, hown0, hin0, rfl⟩ := hi
  have hex : ∃ p c, v = .slice p l.length c ∧ (0 < l.length → ∃ g, p = some ⟨g, 0, none⟩) := by
    rcases h : hown0.2 with ⟨hv, h0⟩ | ⟨g, cap, cur, hv, _⟩
    · exact ⟨none, 0, by rw [hv, h0], fun h => by omega⟩
    · exact ⟨_, cap, hv, fun _ => ⟨g, rfl⟩⟩
  obtain ⟨p, c, rfl, hp⟩ := hex
  have HP := Lib.hid hp
  have HND := Lib.hid hnd
  clear hp hnd hfl
  generalize hFP : (Value.slice p l.length c).ownBlock.toList ++ fq = fp at *
  have HFP := Lib.hid hFP
  clear hFP
  go_enter Try.func37, Try.ntmps37
  go_wp2
  go_loopw [1, 5] (fun kk i wr => ∃ (j q : Nat) (A R : List Value) (fA fR : List Nat), j ≤ l.length ∧ i = .int .i64 j ∧ kk = .int .i64 (q : Int) ∧ q = k + cntLs ((l.take j).flatMap MsgD.lf) ∧ A.length = j * 3 ∧ wr.ownsRow 0 74 3 (.slice p l.length c) l.length (A ++ R) ∧ LsIn wr (markLs ((l.take j).flatMap MsgD.lf) k).1 A fA ∧ LsIn wr ((l.drop j).flatMap MsgD.lf) R fR ∧ fA ++ fR = fq ∧ GrownIn w wr fp) (fun _ i _ => l.length - (intOf i).toNat)
  case atStart => exact ⟨0, k, [], xs, [], fq, by omega, rfl, rfl, by simp [cntLs], by simp, hown0, ⟨rfl, rfl⟩, hin0, rfl, GrownIn.refl _ _⟩
  case round =>
    obtain ⟨j, q, A, R, fA, fR, hj, rfl, rfl, hq, hA, hown, hiA, hiR, hff, hgr⟩ := hrel
    clear hown0 hin0
    by_cases hlt : j < l.length
    · obtain ⟨g, rfl⟩ := HP.out (by omega)
      obtain ⟨s, hs⟩ : ∃ s, l[j]? = some s := ⟨_, List.getElem?_eq_getElem hlt⟩
      have hdr : l.drop j = s :: l.drop (j + 1) := by
        obtain ⟨h1, h2⟩ := List.getElem?_eq_some_iff.1 hs
        rw [List.drop_eq_getElem_cons h1, h2]
      rw [hdr, List.flatMap_cons] at hiR
      obtain ⟨u1, R2, f_, f2, rfl, hi1, hiR2, rfl⟩ := LsIn.append.1 hiR
      obtain ⟨rfl, rfl⟩ := MsgD.in_of hi1
      simp only [List.cons_append, List.nil_append] at hown
      have HMK := Lib.hid (show (markLs ((l.take (j + 1)).flatMap MsgD.lf) k).1 = (markLs ((l.take j).flatMap MsgD.lf) k).1 ++ (markLs s.lf q).1 by rw [flat_take_succ MsgD.lf hs, markLs_app, hq])
      have HEN := Lib.hid (show k + cntLs ((l.take (j + 1)).flatMap MsgD.lf) = q + cntLs s.lf by rw [flat_take_succ MsgD.lf hs, cntLs_append, hq]; omega)
      have hcb : q + cntLs s.lf ≤ 1000000000000 := by have h1 := cntLs_flat_take MsgD.lf l (j + 1); have h2 := HEN.out; have h3 := HCN.out; omega
      rw [MsgD.cnt] at hcb
      have hsb : szLs s.lf ≤ 1000000000000 := by have h1 := szLs_mem MsgD.lf (List.mem_of_getElem? hs); have h2 := HSZ.out; omega
      rw [MsgD.sz] at hsb
      have hnd2 : (g :: (fA ++ ([] ++ f2))).Nodup := by have h1 := HND.out; have h2 := HFP.out; rw [← hff] at h2; rw [← h2] at h1; exact h1
      obtain ⟨hg0, hn0⟩ := List.nodup_cons.1 hnd2
      obtain ⟨dA, _, hn1⟩ := nd_parts hn0
      obtain ⟨dF, hnr, _⟩ := nd_parts hn1
      have gA : g ∉ fA := fun hm => hg0 (by simp [hm])
      have gF : g ∉ f2 := fun hm => hg0 (by simp [hm])
      have hgf : g ∈ fp := by rw [← HFP.out]; simp [Value.ownBlock]
      have HQ := Lib.hid hq
      have HFF := Lib.hid hff
      have HCB := Lib.hid hcb
      have HSB := Lib.hid hsb
      have hqb : q ≤ 1000000000000 := by omega
      clear hq hff hcb hsb hs hdr hi1 hiR hnd2 hn0 hn1 hnr HP
      have c0 := own_cell (L := (.int .i64 s.uid) :: (.int .i64 s.flags) :: (sv s.text) :: R2) hown hA 0 _ rfl
      have z0 : wr.frozen? ⟨g, j * 3, none⟩ = false := own_free hown _
      rw [Nat.add_zero] at c0
      have p0 : (wr.setCell ⟨g, j * 3, none⟩ (.int .i64 (q : Int))).ownsRow 0 74 3 (.slice (some ⟨g, 0, none⟩) l.length c) l.length (A ++ (.int .i64 (q : Int)) :: (.int .i64 s.flags) :: (sv s.text) :: R2) := own_at (L := (.int .i64 s.uid) :: (.int .i64 s.flags) :: (sv s.text) :: R2) hown hA 0 (.int .i64 (q : Int))
      have c1 := own_cell (L := (.int .i64 (q : Int)) :: (.int .i64 s.flags) :: (sv s.text) :: R2) p0 hA 1 _ rfl
      have z1 : (wr.setCell ⟨g, j * 3, none⟩ (.int .i64 (q : Int))).frozen? ⟨g, j * 3 + 1, none⟩ = false := own_free p0 _
      have p1 : ((wr.setCell ⟨g, j * 3, none⟩ (.int .i64 (q : Int))).setCell ⟨g, j * 3 + 1, none⟩ (.int .i64 ((q : Int) + 1))).ownsRow 0 74 3 (.slice (some ⟨g, 0, none⟩) l.length c) l.length (A ++ (.int .i64 (q : Int)) :: (.int .i64 ((q : Int) + 1)) :: (sv s.text) :: R2) := own_at (L := (.int .i64 (q : Int)) :: (.int .i64 s.flags) :: (sv s.text) :: R2) p0 hA 1 (.int .i64 ((q : Int) + 1))
      have gs : GrownIn wr ((wr.setCell ⟨g, j * 3, none⟩ (.int .i64 (q : Int))).setCell ⟨g, j * 3 + 1, none⟩ (.int .i64 ((q : Int) + 1))) [g] := ((GrownIn.refl wr [g]).trans (GrownIn.set (by simp))).trans (GrownIn.set (by simp))
      replace hiA := LsIn.apart hiA gs (fun q hq hm => by simp at hm; exact gA (hm ▸ hq))
      replace hiR2 := LsIn.apart hiR2 gs (fun q hq hm => by simp at hm; exact gF (hm ▸ hq))
      replace hgr := hgr.trans (gs.mono (fun q hq => by simp at hq; exact hq ▸ hgf))
      clear gs
      have PP := Lib.hid p1
      have IA := Lib.hid hiA
      have IR := Lib.hid hiR2
      have GR := Lib.hid hgr
      clear hiA hiR2 hgr hown p0 p1 
      go_wp2_with fail
      refine (markText_k _ (q + 2) (by omega) _ (by omega)).mono ?_
      rintro e w1 ⟨rfl, b1⟩
      have hiA := IA.out
      have hiR2 := IR.out
      have hgr := GR.out
      have hown := PP.out
      clear IA IR GR PP c0 z0 c1 z1
      have gb : GrownIn ((wr.setCell ⟨g, j * 3, none⟩ (.int .i64 (q : Int))).setCell ⟨g, j * 3 + 1, none⟩ (.int .i64 ((q : Int) + 1))) w1 [] := GrownIn.of_below b1
      replace hown := ownsRow_below hown b1
      replace hiA := LsIn.apart hiA gb (fun _ _ h => by cases h)
      replace hiR2 := LsIn.apart hiR2 gb (fun _ _ h => by cases h)
      replace hgr := hgr.trans (gb.mono (fun _ h => by cases h))
      clear b1 gb
      have c2 := own_cell (L := (.int .i64 (q : Int)) :: (.int .i64 ((q : Int) + 1)) :: (sv s.text) :: R2) hown hA 2 _ rfl
      have z2 : w1.frozen? ⟨g, j * 3 + 2, none⟩ = false := own_free hown _
      have p2 : (w1.setCell ⟨g, j * 3 + 2, none⟩ (sv (markB (q + 2)))).ownsRow 0 74 3 (.slice (some ⟨g, 0, none⟩) l.length c) l.length (A ++ (.int .i64 (q : Int)) :: (.int .i64 ((q : Int) + 1)) :: (sv (markB (q + 2))) :: R2) := own_at (L := (.int .i64 (q : Int)) :: (.int .i64 ((q : Int) + 1)) :: (sv s.text) :: R2) hown hA 2 (sv (markB (q + 2)))
      have gs : GrownIn w1 (w1.setCell ⟨g, j * 3 + 2, none⟩ (sv (markB (q + 2)))) [g] := (GrownIn.refl w1 [g]).trans (GrownIn.set (by simp))
      replace hiA := LsIn.apart hiA gs (fun q hq hm => by simp at hm; exact gA (hm ▸ hq))
      replace hiR2 := LsIn.apart hiR2 gs (fun q hq hm => by simp at hm; exact gF (hm ▸ hq))
      replace hgr := hgr.trans (gs.mono (fun q hq => by simp at hq; exact hq ▸ hgf))
      clear gs
      have PP := Lib.hid p2
      have IA := Lib.hid hiA
      have IR := Lib.hid hiR2
      have GR := Lib.hid hgr
      clear hiA hiR2 hgr hown p2 
      go_wp2
      go_roundw
      case rel =>
        refine ⟨j + 1, q + cntLs s.lf, A ++ [(.int .i64 (q : Int)), (.int .i64 ((q : Int) + 1)), (sv (markB (q + 2)))], R2, fA ++ ([]), f2, by omega, by go_num, ?_, HEN.out.symm, by simp; omega, by simpa using PP.out, ?_, IR.out, by rw [List.append_assoc]; exact HFF.out, GR.out⟩
        · rw [MsgD.cnt]
          congr 1 <;> omega
        · rw [HMK.out, MsgD.mark]
          exact LsIn.append.2 ⟨A, _, fA, _, rfl, IA.out, MsgD.in_mk, rfl⟩
      case measure => simp [intOf]; omega
    · obtain rfl : j = l.length := by omega
      have hR0 : R = [] ∧ fR = [] := by rw [List.drop_length] at hiR; exact hiR
      obtain ⟨rfl, rfl⟩ := hR0
      rw [List.append_nil] at hown hff
      rw [List.take_length] at hiA hq
      subst hff
      have HT := Lib.hid (show LfIn wr (markLf (msgsLf l) k).1 (.slice p l.length c) fp from ⟨by rw [markLs_length]; exact flat_lenM MsgD.len l, A, fA, own_base hown, hiA, HFP.out.symm⟩)
      have HV := Lib.hid (show q = k + cntLf (msgsLf l) from hq)
      clear hiA hiR hown hA hq
      go_wp2
      go_ret
      exact ⟨by rw [HV.out]; rfl, HT.out, hgr⟩

end Go.Proofs.Ytbfgdbpfecffcaa

namespace Go.Proofs.Ytbfgdbpfecffcaa
open Go.RowKit

structure BoxD where
  name : List UInt8
  validity : Int
  next : Int
  msgs : List MsgD

def BoxD.lf (x : BoxD) : List Lf := [.str x.name, .int x.validity, .int x.next, msgsLf x.msgs]
theorem BoxD.len (x : BoxD) : x.lf.length = 4 := rfl
def boxsLf (l : List BoxD) : Lf := .rows 61 4 l.length (l.flatMap BoxD.lf)
theorem BoxD.fit (x : BoxD) : LsFit x.lf := ⟨trivial, trivial, trivial, msgsLf_fit x.msgs, trivial⟩
theorem boxsLf_fit (l : List BoxD) : LfFit (boxsLf l) := ⟨by omega, flat_lenM BoxD.len l, LsFit.flat BoxD.fit l⟩
theorem BoxD.sz (x : BoxD) : szLs x.lf = x.name.length + szLf (msgsLf x.msgs) := by simp only [BoxD.lf, szLs, szLf_int, szLf_str] <;> omega
theorem BoxD.cnt (x : BoxD) : cntLs x.lf = 1 + 1 + 1 + cntLf (msgsLf x.msgs) := by simp only [BoxD.lf, cntLs, cntLf_int, cntLf_str] <;> omega
theorem BoxD.rd {W : World} {x : BoxD} {vs : List Value} : LsRd W x.lf vs ↔ ∃ r3, vs = [sv x.name, .int .i64 x.validity, .int .i64 x.next, r3] ∧ LfRd W (msgsLf x.msgs) r3 := by
  constructor
  · rintro ⟨a0, s0, rfl, h0, a1, s1, rfl, h1, a2, s2, rfl, h2, a3, s3, rfl, h3, rfl⟩
    exact ⟨a3, by rw [h0, h1, h2], h3⟩
  · rintro ⟨r3, rfl, h3⟩
    exact ⟨_, _, rfl, rfl, _, _, rfl, rfl, _, _, rfl, rfl, _, _, rfl, h3, rfl⟩
theorem BoxD.mark (x : BoxD) (k : Nat) : (markLs x.lf k).1 = [.str (markB (k)), .int ((k + 1 : Nat) : Int), .int ((k + 1 + 1 : Nat) : Int), (markLf (msgsLf x.msgs) (k + 1 + 1 + 1)).1] := by simp only [BoxD.lf, markLs, markLf_int, markLf_str, markLf_cnt]
theorem BoxD.rdm {W : World} {x : BoxD} {k : Nat} {vs : List Value} : LsRd W (markLs x.lf k).1 vs ↔ ∃ r3, vs = [sv (markB (k)), .int .i64 ((k + 1 : Nat) : Int), .int .i64 ((k + 1 + 1 : Nat) : Int), r3] ∧ LfRd W (markLf (msgsLf x.msgs) (k + 1 + 1 + 1)).1 r3 := by
  rw [BoxD.mark]
  constructor
  · rintro ⟨a0, s0, rfl, h0, a1, s1, rfl, h1, a2, s2, rfl, h2, a3, s3, rfl, h3, rfl⟩
    exact ⟨a3, by rw [h0, h1, h2], h3⟩
  · rintro ⟨r3, rfl, h3⟩
    exact ⟨_, _, rfl, rfl, _, _, rfl, rfl, _, _, rfl, rfl, _, _, rfl, h3, rfl⟩
theorem BoxD.in_of {W : World} {z0 : List UInt8} {z1 : Int} {z2 : Int} {z3 : Lf} {vs : List Value} {fp : List Nat} (h : LsIn W [.str z0, .int z1, .int z2, z3] vs fp) : ∃ r3 f3, vs = [sv z0, .int .i64 z1, .int .i64 z2, r3] ∧ LfIn W z3 r3 f3 ∧ fp = f3 := by
  obtain ⟨a0, s0, f0, g0, rfl, h0, ⟨a1, s1, f1, g1, rfl, h1, ⟨a2, s2, f2, g2, rfl, h2, ⟨a3, s3, f3, g3, rfl, h3, ⟨rfl, rfl⟩, rfl⟩, rfl⟩, rfl⟩, rfl⟩ := h
  exact ⟨a3, f3, by rw [h0.1, h1.1, h2.1], h3, by rw [h0.2, h1.2, h2.2]; simp⟩
theorem BoxD.in_mk {W : World} {z0 : List UInt8} {z1 : Int} {z2 : Int} {z3 : Lf} {r3 : Value} {f3 : List Nat} (h3 : LfIn W z3 r3 f3) : LsIn W [.str z0, .int z1, .int z2, z3] [sv z0, .int .i64 z1, .int .i64 z2, r3] (f3) := by
  have h : LsIn W [.str z0, .int z1, .int z2, z3] [sv z0, .int .i64 z1, .int .i64 z2, r3] ([] ++ ([] ++ ([] ++ (f3 ++ ([]))))) := ⟨_, _, [], _, rfl, ⟨rfl, rfl⟩, ⟨_, _, [], _, rfl, ⟨rfl, rfl⟩, ⟨_, _, [], _, rfl, ⟨rfl, rfl⟩, ⟨_, _, f3, _, rfl, h3, ⟨rfl, rfl⟩, rfl⟩, rfl⟩, rfl⟩, rfl⟩
  simpa using h

theorem Try.el_box : Elem Try.prog 29 61 4 56 := Elem.mk' (z := .agg #[.string ⟨#[]⟩, .int .i64 0, .int .i64 0, .slice none 0 0]) Try.underlying29 (by kernel_rfl) rfl (by omega)

theorem BoxD.at {W : World} {l : List BoxD} {v : Value} (h : LfRd W (boxsLf l) v) : ∃ p cap, v = .slice p l.length cap ∧ (l = [] ∨ ∃ b off, p = some ⟨b, off, none⟩ ∧ b < W.heap.size ∧ ∀ i x, l[i]? = some x → ∃ r3, LfRd W (msgsLf x.msgs) r3 ∧ W.cell? ⟨b, off + i * 4, none⟩ = some (sv x.name) ∧ W.cell? ⟨b, off + i * 4 + 1, none⟩ = some (.int .i64 x.validity) ∧ W.cell? ⟨b, off + i * 4 + 2, none⟩ = some (.int .i64 x.next) ∧ W.cell? ⟨b, off + i * 4 + 3, none⟩ = some (r3)) := by
  obtain ⟨p, cap, hv, hc⟩ := rows_at BoxD.len h
  refine ⟨p, cap, hv, hc.imp id fun ⟨b, off, hp, hlt, hc⟩ => ⟨b, off, hp, hlt, fun i x hi => ?_⟩⟩
  obtain ⟨us, h1, h2⟩ := hc i x hi
  obtain ⟨r3, rfl, k3⟩ := BoxD.rd.1 h1
  exact ⟨r3, k3, h2 0 _ rfl, h2 1 _ rfl, h2 2 _ rfl, h2 3 _ rfl⟩
theorem BoxD.atm {W : World} {l : List BoxD} {v : Value} {k0 : Nat} (h : LfRd W (markLf (boxsLf l) k0).1 v) : ∃ p cap, v = .slice p l.length cap ∧ (l = [] ∨ ∃ b off, p = some ⟨b, off, none⟩ ∧ b < W.heap.size ∧ ∀ i x k, l[i]? = some x → k = k0 + cntLs ((l.take i).flatMap BoxD.lf) → ∃ r3, LfRd W (markLf (msgsLf x.msgs) (k + 1 + 1 + 1)).1 r3 ∧ W.cell? ⟨b, off + i * 4, none⟩ = some (sv (markB (k))) ∧ W.cell? ⟨b, off + i * 4 + 1, none⟩ = some (.int .i64 ((k + 1 : Nat) : Int)) ∧ W.cell? ⟨b, off + i * 4 + 2, none⟩ = some (.int .i64 ((k + 1 + 1 : Nat) : Int)) ∧ W.cell? ⟨b, off + i * 4 + 3, none⟩ = some (r3)) := by
  obtain ⟨p, cap, hv, hc⟩ := rows_at_mark BoxD.len h
  refine ⟨p, cap, hv, hc.imp id fun ⟨b, off, hp, hlt, hc⟩ => ⟨b, off, hp, hlt, fun i x k hi hk => ?_⟩⟩
  obtain ⟨us, h1, h2⟩ := hc i x hi
  rw [← hk] at h1
  obtain ⟨r3, rfl, k3⟩ := BoxD.rdm.1 h1
  exact ⟨r3, k3, h2 0 _ rfl, h2 1 _ rfl, h2 2 _ rfl, h2 3 _ rfl⟩

set_option maxHeartbeats 1600000 in
theorem szBox_g (x : BoxD) (r3 : Value) (ll : Int) (left : Nat) (hll : ll = (left : Int)) (w : World) (h3 : LfRd w (msgsLf x.msgs) r3) (hin : LsBnd x.lf) (hL : left ≤ 1000000000000) :
    Calls Try.prog 30 #[.agg #[sv x.name, .int .i64 x.validity, .int .i64 x.next, r3], .int .i64 ll] w fun e w' => e = .returned (.int .i64 (szN left (szLs x.lf))) ∧ Below w.heap.size w w' := by
  subst hll
  have hr3 := h3
  obtain ⟨p3, c3, rfl⟩ := LfRd.slice h3
  have hb1 : Below w.heap.size w (w.alloc (.cells #[sv x.name, .int .i64 x.validity, .int .i64 x.next, (.slice p3 x.msgs.length c3)] 56)) := (Below.refl _ _).alloc (Nat.le_refl _) _
  have HA1 := Lib.hid (heap_alloc_new w (.cells #[sv x.name, .int .i64 x.validity, .int .i64 x.next, (.slice p3 x.msgs.length c3)] 56))
  have hsz := BoxD.sz x
  have bn_0 : x.name.length ≤ 9223372036854775807 := hin.1
  have bz_0 : (ByteArray.mk x.name.toArray).size = x.name.length := by show x.name.toArray.size = _; simp
  have bi_3 : LfBnd (msgsLf x.msgs) := hin.2.2.2.1
  clear hin
  by_cases k0 : x.name.length ≤ left
  · obtain ⟨L1, hL1⟩ : ∃ L, L + x.name.length = left := ⟨left - x.name.length, by omega⟩
    have n0 : ¬ (left : Int) - (x.name.length : Int) < 0 := by omega
    have bL1 : L1 ≤ 1000000000000 := by omega
    have HL1 := Lib.hid hL1
    by_cases k1 : szLf (msgsLf x.msgs) ≤ L1
    · obtain ⟨L2, hL2⟩ : ∃ L, L + szLf (msgsLf x.msgs) = L1 := ⟨L1 - szLf (msgsLf x.msgs), by omega⟩
      have q3 := fun (ll : Int) (W : World) (hl : ll = (L1 : Int)) (g : LfRd W (msgsLf x.msgs) (.slice p3 x.msgs.length c3)) => szMsgS_g (.slice p3 x.msgs.length c3) x.msgs ll L1 hl W g bi_3 (by omega)
      simp only [show szN L1 (szLf (msgsLf x.msgs)) = (L2 : Int) from by rw [szN_yes k1]; omega] at q3
      have C3 := Lib.hid q3
      clear q3
      have n1 : ¬ (L2 : Int) < 0 := by omega
      have bL2 : L2 ≤ 1000000000000 := by omega
      have HL2 := Lib.hid hL2
      have HV := Lib.hid (show szN left (szLs x.lf) = (L2 : Int) by rw [hsz, szN_yes (by omega)]; omega)
      clear hsz hL1 hL2

      go_enter Try.func30, Try.ntmps30
      go_wp2_with fail
      refine (C3.out _ _ (by have e1 := HL1.out; have e2 := HL2.out; omega) (LfRd.below hb1 _ _ hr3)).mono ?_
      rintro e w2 ⟨rfl, b2⟩
      have hb2 := hb1.trans (b2.mono hb1.size)
      have HA2 := Lib.hid ((b2.block w.heap.size (by simp)).trans HA1.out)
      have hz2 : w.heap.size < w2.heap.size := (Array.getElem?_eq_some_iff.1 HA2.out).1
      go_wp2
      go_ret
      exact ⟨by rw [HV.out]; rfl, hb2⟩
    · have HV := Lib.hid (show szN left (szLs x.lf) = -1 by rw [hsz]; exact szN_no (by omega))
      have q3 := fun (ll : Int) (W : World) (hl : ll = (L1 : Int)) (g : LfRd W (msgsLf x.msgs) (.slice p3 x.msgs.length c3)) => szMsgS_g (.slice p3 x.msgs.length c3) x.msgs ll L1 hl W g bi_3 (by omega)
      simp only [show szN L1 (szLf (msgsLf x.msgs)) = -1 from szN_no k1] at q3
      have C3 := Lib.hid q3
      clear q3
      clear hsz hL1

      go_enter Try.func30, Try.ntmps30
      go_wp2_with fail
      refine (C3.out _ _ (by have e1 := HL1.out; omega) (LfRd.below hb1 _ _ hr3)).mono ?_
      rintro e w2 ⟨rfl, b2⟩
      have hb2 := hb1.trans (b2.mono hb1.size)
      have HA2 := Lib.hid ((b2.block w.heap.size (by simp)).trans HA1.out)
      have hz2 : w.heap.size < w2.heap.size := (Array.getElem?_eq_some_iff.1 HA2.out).1
      go_wp2
      go_ret
      exact ⟨by rw [HV.out]; rfl, hb2⟩
  · have HV := Lib.hid (show szN left (szLs x.lf) = -1 by rw [hsz]; exact szN_no (by omega))
    have n0 : (left : Int) - (x.name.length : Int) < 0 := by omega
    clear hsz

    go_enter Try.func30, Try.ntmps30
    go_wp2
    go_ret
    exact ⟨by rw [HV.out]; rfl, hb1⟩

set_option maxHeartbeats 1600000 in
theorem eqBox_g (x : BoxD) (ra3 rb3 : Value) (w : World) (ha3 : LfRd w (msgsLf x.msgs) ra3) (hb3 : LfRd w (msgsLf x.msgs) rb3) (hs : szLs x.lf ≤ 1000000000000) :
    Calls Try.prog 34 #[.agg #[sv x.name, .int .i64 x.validity, .int .i64 x.next, ra3], .agg #[sv x.name, .int .i64 x.validity, .int .i64 x.next, rb3]] w fun e w' => e = .returned (.bool true) ∧ Below w.heap.size w w' := by
  have hra3 := ha3
  have hrb3 := hb3
  obtain ⟨p3a, c3a, rfl⟩ := LfRd.slice ha3
  obtain ⟨p3b, c3b, rfl⟩ := LfRd.slice hb3
  have hb1 : Below w.heap.size w ((w.alloc (.cells #[sv x.name, .int .i64 x.validity, .int .i64 x.next, (.slice p3a x.msgs.length c3a)] 61)).alloc (.cells #[sv x.name, .int .i64 x.validity, .int .i64 x.next, (.slice p3b x.msgs.length c3b)] 61)) := ((Below.refl _ _).alloc (Nat.le_refl _) _).alloc (by simp) _
  have HA1 := Lib.hid (show ((w.alloc (.cells #[sv x.name, .int .i64 x.validity, .int .i64 x.next, (.slice p3a x.msgs.length c3a)] 61)).alloc (.cells #[sv x.name, .int .i64 x.validity, .int .i64 x.next, (.slice p3b x.msgs.length c3b)] 61)).heap[w.heap.size]? = some (.cells #[sv x.name, .int .i64 x.validity, .int .i64 x.next, (.slice p3a x.msgs.length c3a)] 61 (0, 0)) from (Below.heap_alloc _ _ _ (by simp)).trans (heap_alloc_new w _))
  have HB1 := Lib.hid (show ((w.alloc (.cells #[sv x.name, .int .i64 x.validity, .int .i64 x.next, (.slice p3a x.msgs.length c3a)] 61)).alloc (.cells #[sv x.name, .int .i64 x.validity, .int .i64 x.next, (.slice p3b x.msgs.length c3b)] 61)).heap[w.heap.size + 1]? = some (.cells #[sv x.name, .int .i64 x.validity, .int .i64 x.next, (.slice p3b x.msgs.length c3b)] 61 (0, 0)) from by
    have := heap_alloc_new (w.alloc (.cells #[sv x.name, .int .i64 x.validity, .int .i64 x.next, (.slice p3a x.msgs.length c3a)] 61)) (.cells #[sv x.name, .int .i64 x.validity, .int .i64 x.next, (.slice p3b x.msgs.length c3b)] 61)
    rwa [World.size_alloc] at this)
  have hz1 : ((w.alloc (.cells #[sv x.name, .int .i64 x.validity, .int .i64 x.next, (.slice p3a x.msgs.length c3a)] 61)).alloc (.cells #[sv x.name, .int .i64 x.validity, .int .i64 x.next, (.slice p3b x.msgs.length c3b)] 61)).heap.size = w.heap.size + 2 := by simp
  have HZ1 := Lib.hid (Nat.le_of_eq hz1.symm)
  clear hz1
  have hsz := BoxD.sz x
  have C3 := Lib.hid (fun W (g : LfRd W (msgsLf x.msgs) (.slice p3a x.msgs.length c3a)) (g2 : LfRd W (msgsLf x.msgs) (.slice p3b x.msgs.length c3b)) => eqMsgS_g _ _ x.msgs W g g2 (by omega))
  clear hs hsz
  go_enter Try.func34, Try.ntmps34
  go_wp2_with fail
  refine (C3.out _ (LfRd.below hb1 _ _ hra3) (LfRd.below hb1 _ _ hrb3)).mono ?_
  rintro e w2 ⟨rfl, b2⟩
  have hb2 := hb1.trans (b2.mono hb1.size)
  have HZ2 := Lib.hid (Nat.le_trans HZ1.out b2.size)
  have HA2 := Lib.hid ((b2.block w.heap.size (by have := HZ1.out; omega)).trans HA1.out)
  have HB2 := Lib.hid ((b2.block (w.heap.size + 1) (by have := HZ1.out; omega)).trans HB1.out)
  clear b2
  go_wp2
  go_ret
  exact ⟨rfl, hb2⟩

set_option maxRecDepth 20000 in
set_option maxHeartbeats 6400000 in
theorem toBox_g (x : BoxD) (r3 : Value) (w : World) (h3 : LfRd w (msgsLf x.msgs) r3) (hs : szLs x.lf ≤ 10000000) :
    Calls Try.prog 32 #[.agg #[sv x.name, .int .i64 x.validity, .int .i64 x.next, r3]] w fun e w' => ∃ v3 f3, e = .returned (.agg #[sv x.name, .int .i64 x.validity, .int .i64 x.next, v3]) ∧ LfIn w' (msgsLf x.msgs) v3 f3 ∧ (f3).Nodup ∧ (∀ q ∈ f3, w.heap.size ≤ q) ∧ Below w.heap.size w w' := by
  have HR3 := Lib.hid h3
  obtain ⟨p3, c3, rfl⟩ := LfRd.slice h3
  have hsz := BoxD.sz x
  have C3 := Lib.hid (fun W (g : LfRd W (msgsLf x.msgs) (.slice p3 x.msgs.length c3)) => toMsgS_g _ x.msgs W g (by omega))
  clear hs hsz h3
  go_enter Try.func32, Try.ntmps32
  have HA := Lib.hid (heap_alloc_new w (.cells #[sv x.name, .int .i64 x.validity, .int .i64 x.next, (.slice p3 x.msgs.length c3)] 56))
  go_wp2_with fail
  have hb : Below w.heap.size w (((w.alloc (.cells #[sv x.name, .int .i64 x.validity, .int .i64 x.next, (.slice p3 x.msgs.length c3)] 56)).alloc (.cells #[sv [], .int .i64 0, .int .i64 0, .slice none 0 0] 61)).alloc (.cells #[sv x.name, .int .i64 x.validity, .int .i64 x.next, .slice none 0 0] 61)) := (((Below.refl _ _).alloc (Nat.le_refl _) _).alloc (by simp) _).alloc (by simp; omega) _
  have hA : (((w.alloc (.cells #[sv x.name, .int .i64 x.validity, .int .i64 x.next, (.slice p3 x.msgs.length c3)] 56)).alloc (.cells #[sv [], .int .i64 0, .int .i64 0, .slice none 0 0] 61)).alloc (.cells #[sv x.name, .int .i64 x.validity, .int .i64 x.next, .slice none 0 0] 61)).heap[w.heap.size]? = some (.cells #[sv x.name, .int .i64 x.validity, .int .i64 x.next, (.slice p3 x.msgs.length c3)] 56 (0, 0)) := ((Below.heap_alloc _ _ _ (by simp; omega)).trans (Below.heap_alloc _ _ _ (by simp))).trans HA.out
  have hR : (((w.alloc (.cells #[sv x.name, .int .i64 x.validity, .int .i64 x.next, (.slice p3 x.msgs.length c3)] 56)).alloc (.cells #[sv [], .int .i64 0, .int .i64 0, .slice none 0 0] 61)).alloc (.cells #[sv x.name, .int .i64 x.validity, .int .i64 x.next, .slice none 0 0] 61)).heap[w.heap.size + 1]? = some (.cells #[sv [], .int .i64 0, .int .i64 0, .slice none 0 0] 61 (0, 0)) := (Below.heap_alloc _ _ _ (by simp)).trans (by have := heap_alloc_new (w.alloc (.cells #[sv x.name, .int .i64 x.validity, .int .i64 x.next, (.slice p3 x.msgs.length c3)] 56)) (.cells #[sv [], .int .i64 0, .int .i64 0, .slice none 0 0] 61); rwa [World.size_alloc] at this)
  have hT : (((w.alloc (.cells #[sv x.name, .int .i64 x.validity, .int .i64 x.next, (.slice p3 x.msgs.length c3)] 56)).alloc (.cells #[sv [], .int .i64 0, .int .i64 0, .slice none 0 0] 61)).alloc (.cells #[sv x.name, .int .i64 x.validity, .int .i64 x.next, .slice none 0 0] 61)).heap[w.heap.size + 1 + 1]? = some (.cells #[sv x.name, .int .i64 x.validity, .int .i64 x.next, .slice none 0 0] 61 (0, 0)) := by
    have := heap_alloc_new ((w.alloc (.cells #[sv x.name, .int .i64 x.validity, .int .i64 x.next, (.slice p3 x.msgs.length c3)] 56)).alloc (.cells #[sv [], .int .i64 0, .int .i64 0, .slice none 0 0] 61)) (.cells #[sv x.name, .int .i64 x.validity, .int .i64 x.next, .slice none 0 0] 61)
    rwa [World.size_alloc, World.size_alloc] at this
  have hz : w.heap.size + 3 ≤ (((w.alloc (.cells #[sv x.name, .int .i64 x.validity, .int .i64 x.next, (.slice p3 x.msgs.length c3)] 56)).alloc (.cells #[sv [], .int .i64 0, .int .i64 0, .slice none 0 0] 61)).alloc (.cells #[sv x.name, .int .i64 x.validity, .int .i64 x.next, .slice none 0 0] 61)).heap.size := by simp
  generalize (((w.alloc (.cells #[sv x.name, .int .i64 x.validity, .int .i64 x.next, (.slice p3 x.msgs.length c3)] 56)).alloc (.cells #[sv [], .int .i64 0, .int .i64 0, .slice none 0 0] 61)).alloc (.cells #[sv x.name, .int .i64 x.validity, .int .i64 x.next, .slice none 0 0] 61)) = W0 at *
  clear HA
  refine (C3.out _ (LfRd.below hb _ _ HR3.out)).mono ?_
  rintro e w1 ⟨v3, f3, rfl, t3, b1⟩
  have i3 := t3.is
  have n3 := t3.nodup
  have l3 : ∀ q ∈ f3, w.heap.size + 3 ≤ q := fun q hq => by have := t3.low q hq; omega
  obtain ⟨pv3, cv3, rfl⟩ := LfIn.slice i3
  clear t3
  replace hA := (b1.block (w.heap.size) (by omega)).trans hA
  replace hR := (b1.block (w.heap.size + 1) (by omega)).trans hR
  replace hT := (b1.block (w.heap.size + 1 + 1) (by omega)).trans hT
  have nn := n3
  replace hb := hb.trans (b1.mono hb.size)
  replace hz := Nat.le_trans hz b1.size
  clear b1
  have ce3 : w1.cell? ⟨w.heap.size + 1 + 1, 3, none⟩ = some (.slice none 0 0) := (Lib.cell_of_heap hT 3).trans rfl
  have ge3 : w1.frozen? ⟨w.heap.size + 1 + 1, 3, none⟩ = false := Lib.frozen_of_heap hT 3
  have hT3 : (w1.setCell ⟨w.heap.size + 1 + 1, 3, none⟩ (.slice pv3 x.msgs.length cv3)).heap[w.heap.size + 1 + 1]? = some (.cells #[sv x.name, .int .i64 x.validity, .int .i64 x.next, (.slice pv3 x.msgs.length cv3)] 61 (0, 0)) := set_heap hT
  have hA3 : (w1.setCell ⟨w.heap.size + 1 + 1, 3, none⟩ (.slice pv3 x.msgs.length cv3)).heap[w.heap.size]? = some (.cells #[sv x.name, .int .i64 x.validity, .int .i64 x.next, (.slice p3 x.msgs.length c3)] 56 (0, 0)) := (set_other (by omega)).trans hA
  have hR3 : (w1.setCell ⟨w.heap.size + 1 + 1, 3, none⟩ (.slice pv3 x.msgs.length cv3)).heap[w.heap.size + 1]? = some (.cells #[sv [], .int .i64 0, .int .i64 0, .slice none 0 0] 61 (0, 0)) := (set_other (by omega)).trans hR
  have gs : GrownIn w1 (w1.setCell ⟨w.heap.size + 1 + 1, 3, none⟩ (.slice pv3 x.msgs.length cv3)) [w.heap.size + 1 + 1] := (GrownIn.refl w1 [w.heap.size + 1 + 1]).trans (GrownIn.set (by simp))
  replace i3 := LfIn.away i3 gs (fun k hk hm => by have := l3 k hk; simp at hm; omega)
  replace hb := GrownIn.below hb gs hb.size (fun k hk => by simp at hk; omega)
  replace hz := Nat.le_trans hz gs.size
  clear hA hR hT gs
  have hA := hA3
  have hR := hR3
  have hT := hT3
  clear hA3 hR3 hT3
  generalize hW1 : (w1.setCell ⟨w.heap.size + 1 + 1, 3, none⟩ (.slice pv3 x.msgs.length cv3)) = W1 at *
  have d0_ : W1.cell? ⟨w.heap.size + 1 + 1, 0, none⟩ = some (sv x.name) := (Lib.cell_of_heap hT 0).trans rfl
  have d1_ : W1.cell? ⟨w.heap.size + 1 + 1, 1, none⟩ = some (.int .i64 x.validity) := (Lib.cell_of_heap hT 1).trans rfl
  have d2_ : W1.cell? ⟨w.heap.size + 1 + 1, 2, none⟩ = some (.int .i64 x.next) := (Lib.cell_of_heap hT 2).trans rfl
  have d3_ : W1.cell? ⟨w.heap.size + 1 + 1, 3, none⟩ = some ((.slice pv3 x.msgs.length cv3)) := (Lib.cell_of_heap hT 3).trans rfl
  have r0_ : W1.cell? ⟨w.heap.size + 1, 0, none⟩ = some (sv []) := (Lib.cell_of_heap hR 0).trans rfl
  have q0_ : W1.frozen? ⟨w.heap.size + 1, 0, none⟩ = false := Lib.frozen_of_heap hR 0
  have hR0 : (W1.setCell ⟨w.heap.size + 1, 0, none⟩ (sv x.name)).heap[w.heap.size + 1]? = some (.cells #[sv x.name, .int .i64 0, .int .i64 0, .slice none 0 0] 61 (0, 0)) := set_heap hR
  have r1_ : (W1.setCell ⟨w.heap.size + 1, 0, none⟩ (sv x.name)).cell? ⟨w.heap.size + 1, 1, none⟩ = some (.int .i64 0) := (Lib.cell_of_heap hR0 1).trans rfl
  have q1_ : W1.frozen? ⟨w.heap.size + 1, 1, none⟩ = false := Lib.frozen_of_heap hR 1
  have hR1 : ((W1.setCell ⟨w.heap.size + 1, 0, none⟩ (sv x.name)).setCell ⟨w.heap.size + 1, 1, none⟩ (.int .i64 x.validity)).heap[w.heap.size + 1]? = some (.cells #[sv x.name, .int .i64 x.validity, .int .i64 0, .slice none 0 0] 61 (0, 0)) := set_heap hR0
  have r2_ : ((W1.setCell ⟨w.heap.size + 1, 0, none⟩ (sv x.name)).setCell ⟨w.heap.size + 1, 1, none⟩ (.int .i64 x.validity)).cell? ⟨w.heap.size + 1, 2, none⟩ = some (.int .i64 0) := (Lib.cell_of_heap hR1 2).trans rfl
  have q2_ : W1.frozen? ⟨w.heap.size + 1, 2, none⟩ = false := Lib.frozen_of_heap hR 2
  have hR2 : (((W1.setCell ⟨w.heap.size + 1, 0, none⟩ (sv x.name)).setCell ⟨w.heap.size + 1, 1, none⟩ (.int .i64 x.validity)).setCell ⟨w.heap.size + 1, 2, none⟩ (.int .i64 x.next)).heap[w.heap.size + 1]? = some (.cells #[sv x.name, .int .i64 x.validity, .int .i64 x.next, .slice none 0 0] 61 (0, 0)) := set_heap hR1
  have r3_ : (((W1.setCell ⟨w.heap.size + 1, 0, none⟩ (sv x.name)).setCell ⟨w.heap.size + 1, 1, none⟩ (.int .i64 x.validity)).setCell ⟨w.heap.size + 1, 2, none⟩ (.int .i64 x.next)).cell? ⟨w.heap.size + 1, 3, none⟩ = some (.slice none 0 0) := (Lib.cell_of_heap hR2 3).trans rfl
  have q3_ : W1.frozen? ⟨w.heap.size + 1, 3, none⟩ = false := Lib.frozen_of_heap hR 3
  have hR3 : ((((W1.setCell ⟨w.heap.size + 1, 0, none⟩ (sv x.name)).setCell ⟨w.heap.size + 1, 1, none⟩ (.int .i64 x.validity)).setCell ⟨w.heap.size + 1, 2, none⟩ (.int .i64 x.next)).setCell ⟨w.heap.size + 1, 3, none⟩ (.slice pv3 x.msgs.length cv3)).heap[w.heap.size + 1]? = some (.cells #[sv x.name, .int .i64 x.validity, .int .i64 x.next, (.slice pv3 x.msgs.length cv3)] 61 (0, 0)) := set_heap hR2
  have s0_ := (Lib.cell_of_heap hR3 0).trans (show _ = some (sv x.name) from rfl)
  have s1_ := (Lib.cell_of_heap hR3 1).trans (show _ = some (.int .i64 x.validity) from rfl)
  have s2_ := (Lib.cell_of_heap hR3 2).trans (show _ = some (.int .i64 x.next) from rfl)
  have s3_ := (Lib.cell_of_heap hR3 3).trans (show _ = some ((.slice pv3 x.msgs.length cv3)) from rfl)
  have gs : GrownIn W1 ((((W1.setCell ⟨w.heap.size + 1, 0, none⟩ (sv x.name)).setCell ⟨w.heap.size + 1, 1, none⟩ (.int .i64 x.validity)).setCell ⟨w.heap.size + 1, 2, none⟩ (.int .i64 x.next)).setCell ⟨w.heap.size + 1, 3, none⟩ (.slice pv3 x.msgs.length cv3)) [w.heap.size + 1] := ((((GrownIn.refl W1 [w.heap.size + 1]).trans (GrownIn.set (by simp))).trans (GrownIn.set (by simp))).trans (GrownIn.set (by simp))).trans (GrownIn.set (by simp))
  have I3 := Lib.hid (LfIn.away i3 gs (fun k hk hm => by have := l3 k hk; simp at hm; omega))
  have hbf := GrownIn.below hb gs hb.size (fun k hk => by simp at hk; omega)
  clear hA hR hT gs hb hR0 hR1 hR2 hR3 i3
  go_wp2
  exact bodyPost_ret (v := .agg #[sv x.name, .int .i64 x.validity, .int .i64 x.next, (.slice pv3 x.msgs.length cv3)]) (by simp [results, Try.results32, go_sem, s0_, s1_, s2_, s3_]) rfl ⟨_, _, rfl, I3.out, nn, fun q hq => by have := l3 q hq; omega, hbf⟩

set_option maxHeartbeats 3200000 in
theorem szBoxS_g (v : Value) (l : List BoxD) (ll : Int) (left : Nat) (hll : ll = (left : Int)) (w : World) (hr : LfRd w (boxsLf l) v) (hin : LfBnd (boxsLf l)) (hL : left ≤ 1000000000000) :
    Calls Try.prog 16 #[v, .int .i64 ll] w fun e w' => e = .returned (.int .i64 (szN left (szLf (boxsLf l)))) ∧ Below w.heap.size w w' := by
  subst hll
  have HSZ := Lib.hid (show szLf (boxsLf l) = l.length + szLs (l.flatMap BoxD.lf) from rfl)
  obtain ⟨p, c, rfl, hp⟩ := BoxD.at hr
  have hl : l.length ≤ 9223372036854775807 := hin.1
  have HX := Lib.hid (LsBnd.flat hin.2)
  have HP := Lib.hid hp
  clear hr hp hin
  by_cases hbig : l.length ≤ left
  · have h1 : ¬ (left : Int) - (l.length : Int) < 0 := by omega
    go_enter Try.func16, Try.ntmps16
    go_wp2
    go_loopw [1, 5] (fun lf i wr => ∃ j q : Nat, j ≤ l.length ∧ i = .int .i64 j ∧ lf = .int .i64 (q : Int) ∧ q + (l.length + szLs ((l.take j).flatMap BoxD.lf)) = left ∧ Below w.heap.size w wr) (fun _ i _ => l.length - (intOf i).toNat)
    case atStart => exact ⟨0, left - l.length, by omega, rfl, by congr 1; omega, by simp [szLs]; omega, Below.refl _ _⟩
    case round =>
      obtain ⟨j, q, hj, rfl, rfl, hq, hbr⟩ := hrel
      have hbr0 := hbr.size
      have hqL : q ≤ 1000000000000 := by omega
      by_cases hlt : j < l.length
      · obtain ⟨b1, o1, rfl, hb1, hc1⟩ := HP.out.resolve_left (by intro h; subst h; simp at hlt)
        obtain ⟨s, hs⟩ : ∃ s, l[j]? = some s := ⟨_, List.getElem?_eq_getElem hlt⟩
        obtain ⟨v3, n3, x0, x1, x2, x3⟩ := hc1 j s hs
        have e0 : wr.cell? ⟨b1, o1 + j * 4, none⟩ = some (sv s.name) := (hbr.cell (p := ⟨b1, o1 + j * 4, none⟩) hb1).trans x0
        have e1 : wr.cell? ⟨b1, o1 + j * 4 + 1, none⟩ = some (.int .i64 s.validity) := (hbr.cell (p := ⟨b1, o1 + j * 4 + 1, none⟩) hb1).trans x1
        have e2 : wr.cell? ⟨b1, o1 + j * 4 + 2, none⟩ = some (.int .i64 s.next) := (hbr.cell (p := ⟨b1, o1 + j * 4 + 2, none⟩) hb1).trans x2
        have e3 : wr.cell? ⟨b1, o1 + j * 4 + 3, none⟩ = some (v3) := (hbr.cell (p := ⟨b1, o1 + j * 4 + 3, none⟩) hb1).trans x3
        have cz := fun ll (hl : ll = (q : Int)) => szBox_g s v3 ll q hl wr (LfRd.below hbr _ _ n3) (HX.out s (List.mem_of_getElem? hs)) hqL
        have htk : szLs ((l.take (j + 1)).flatMap BoxD.lf) = szLs ((l.take j).flatMap BoxD.lf) + szLs s.lf := by rw [flat_take_succ BoxD.lf hs, szLs_append]
        have hmono := szLs_flat_take BoxD.lf l (j + 1)
        by_cases hok : szLs s.lf ≤ q
        · obtain ⟨q2, hq2⟩ : ∃ q2, q2 + szLs s.lf = q := ⟨q - szLs s.lf, by omega⟩
          have hqe : q2 + (l.length + szLs ((l.take (j + 1)).flatMap BoxD.lf)) = left := by omega
          simp only [show szN q (szLs s.lf) = (q2 : Int) from by rw [szN_yes hok]; omega] at cz
          have CZ := Lib.hid cz
          have hnn : ¬ (q2 : Int) < 0 := by omega
          have HQ := Lib.hid hqe
          clear cz htk hq hq2 hqe hmono hok
          clear hc1 hs HP x0 x1 x2 x3 n3
          go_wp2_with fail
          refine (CZ.out _ rfl).mono ?_
          rintro e w2 ⟨rfl, b2⟩
          have hb2 := hbr.trans (b2.mono hbr0)
          clear CZ b2 hbr e0 e1 e2 e3
          go_wp2
          go_roundw
          case rel => exact ⟨j + 1, q2, by omega, by go_num, rfl, HQ.out, hb2⟩
          case measure => simp [intOf]; omega
        · simp only [show szN q (szLs s.lf) = -1 from szN_no hok] at cz
          have CZ := Lib.hid cz
          have HV := Lib.hid (show szN left (szLf (boxsLf l)) = -1 by rw [HSZ.out]; exact szN_no (by omega))
          clear cz htk hq hmono hok
          clear hc1 hs HP x0 x1 x2 x3 n3
          go_wp2_with fail
          refine (CZ.out _ rfl).mono ?_
          rintro e w2 ⟨rfl, b2⟩
          have hb2 := hbr.trans (b2.mono hbr0)
          clear CZ b2 hbr e0 e1 e2 e3
          go_wp2
          go_ret
          exact ⟨by rw [HV.out]; rfl, hb2⟩
      · obtain rfl : j = l.length := by omega
        rw [List.take_length] at hq
        have HV := Lib.hid (show szN left (szLf (boxsLf l)) = (q : Int) by rw [HSZ.out, szN_yes (by omega)]; omega)
        clear hq
        go_wp2
        go_ret
        exact ⟨by rw [HV.out]; rfl, hbr⟩
  · have h1 : (left : Int) - (l.length : Int) < 0 := by omega
    have HV := Lib.hid (show szN left (szLf (boxsLf l)) = -1 by rw [HSZ.out]; exact szN_no (by omega))
    go_enter Try.func16, Try.ntmps16
    go_wp2
    go_ret
    exact ⟨by rw [HV.out]; rfl, Below.refl _ _⟩

set_option maxHeartbeats 3200000 in
theorem eqBoxS_g (a b : Value) (l : List BoxD) (w : World) (ha : LfRd w (boxsLf l) a) (hb : LfRd w (boxsLf l) b) (hs : szLf (boxsLf l) ≤ 1000000000000) :
    Calls Try.prog 23 #[a, b] w fun e w' => e = .returned (.bool true) ∧ Below w.heap.size w w' := by
  have hs2 : l.length + szLs (l.flatMap BoxD.lf) ≤ 1000000000000 := hs
  clear hs
  obtain ⟨p, c1, rfl, hp⟩ := BoxD.at ha
  obtain ⟨q, c2, rfl, hq⟩ := BoxD.at hb
  clear ha hb
  have HP := Lib.hid hp
  have HQ := Lib.hid hq
  clear hp hq
  have HL := Lib.hid hs2
  have hll : l.length ≤ 1000000000000 := by omega
  clear hs2
  go_enter Try.func23, Try.ntmps23
  go_wp2
  go_loopw [5] (fun i wr => ∃ k : Nat, k ≤ l.length ∧ i = .int .i64 k ∧ Below w.heap.size w wr) (fun i _ => l.length - (intOf i).toNat)
  case atStart => exact ⟨0, by omega, rfl, Below.refl _ _⟩
  case round =>
    obtain ⟨k, hk, rfl, hbr⟩ := hrel
    have hbr0 := hbr.size
    by_cases hlt : k < l.length
    · obtain ⟨b1, o1, rfl, hb1, hc1⟩ := HP.out.resolve_left (by intro h; subst h; simp at hlt)
      obtain ⟨b2, o2, rfl, hb2, hc2⟩ := HQ.out.resolve_left (by intro h; subst h; simp at hlt)
      obtain ⟨s, hs⟩ : ∃ s, l[k]? = some s := ⟨_, List.getElem?_eq_getElem hlt⟩
      obtain ⟨v3, n3, x0, x1, x2, x3⟩ := hc1 k s hs
      obtain ⟨u3, t3, y0, y1, y2, y3⟩ := hc2 k s hs
      have e0 : wr.drew.cell? ⟨b1, o1 + k * 4, none⟩ = some (sv s.name) := (hbr.cell (p := ⟨b1, o1 + k * 4, none⟩) hb1).trans x0
      have f0 : wr.drew.cell? ⟨b2, o2 + k * 4, none⟩ = some (sv s.name) := (hbr.cell (p := ⟨b2, o2 + k * 4, none⟩) hb2).trans y0
      have e1 : wr.drew.cell? ⟨b1, o1 + k * 4 + 1, none⟩ = some (.int .i64 s.validity) := (hbr.cell (p := ⟨b1, o1 + k * 4 + 1, none⟩) hb1).trans x1
      have f1 : wr.drew.cell? ⟨b2, o2 + k * 4 + 1, none⟩ = some (.int .i64 s.validity) := (hbr.cell (p := ⟨b2, o2 + k * 4 + 1, none⟩) hb2).trans y1
      have e2 : wr.drew.cell? ⟨b1, o1 + k * 4 + 2, none⟩ = some (.int .i64 s.next) := (hbr.cell (p := ⟨b1, o1 + k * 4 + 2, none⟩) hb1).trans x2
      have f2 : wr.drew.cell? ⟨b2, o2 + k * 4 + 2, none⟩ = some (.int .i64 s.next) := (hbr.cell (p := ⟨b2, o2 + k * 4 + 2, none⟩) hb2).trans y2
      have e3 : wr.drew.cell? ⟨b1, o1 + k * 4 + 3, none⟩ = some (v3) := (hbr.cell (p := ⟨b1, o1 + k * 4 + 3, none⟩) hb1).trans x3
      have f3 : wr.drew.cell? ⟨b2, o2 + k * 4 + 3, none⟩ = some (u3) := (hbr.cell (p := ⟨b2, o2 + k * 4 + 3, none⟩) hb2).trans y3
      have hsm := szLs_mem BoxD.lf (List.mem_of_getElem? hs)
      have CE := Lib.hid (eqBox_g s v3 u3 wr.drew (LfRd.below hbr.drew _ _ n3) (LfRd.below hbr.drew _ _ t3) (by have := HL.out; omega))
      clear hc1 hc2 hs HP HQ hsm x0 y0 x1 y1 x2 y2 x3 y3 n3 t3
      go_wp2
      refine ord_start [(0, true), (1, true), (2, true), (3, true), (4, true), (5, true), (6, true), (7, true), (8, false), (9, true)] (fun W => (W.cell? ⟨b1, o1 + k * 4, none⟩ = some (sv s.name) ∧ W.cell? ⟨b1, o1 + k * 4 + 1, none⟩ = some (.int .i64 s.validity) ∧ W.cell? ⟨b1, o1 + k * 4 + 2, none⟩ = some (.int .i64 s.next) ∧ W.cell? ⟨b1, o1 + k * 4 + 3, none⟩ = some (v3)) ∧ W.cell? ⟨b2, o2 + k * 4, none⟩ = some (sv s.name) ∧ W.cell? ⟨b2, o2 + k * 4 + 1, none⟩ = some (.int .i64 s.validity) ∧ W.cell? ⟨b2, o2 + k * 4 + 2, none⟩ = some (.int .i64 s.next) ∧ W.cell? ⟨b2, o2 + k * 4 + 3, none⟩ = some (u3)) (by kernel_rfl) (by kernel_rfl) rfl (by kernel_rfl) ?_
      intro ops' hops
      clear hops
      simp only [List.map_cons, List.map_nil, pickOp_zero, pickOp_succ]
      iterate 8 (refine ord_flo ?_ (fun _ _ _ h => h) rfl ?_ ⟨⟨e0, e1, e2, e3⟩, f0, f1, f2, f3⟩ ?_; rotate_left; focus (intro W hS; obtain ⟨⟨s0, s1, s2, s3⟩, t0, t1, t2, t3⟩ := hS; go_simp; rfl))
      refine ord_ev rfl ?_
      go_simp
      refine (CE.out).mono ?_
      rintro e w2 ⟨rfl, bb⟩
      have hb2' := hbr.drew.trans (bb.mono (by show w.heap.size ≤ wr.heap.size; omega))
      have hlt1 : b1 < wr.drew.heap.size := Nat.lt_of_lt_of_le hb1 hbr0
      have hlt2 : b2 < wr.drew.heap.size := Nat.lt_of_lt_of_le hb2 hbr0
      have HE := Lib.hid (show (fun W : World => (W.cell? ⟨b1, o1 + k * 4, none⟩ = some (sv s.name) ∧ W.cell? ⟨b1, o1 + k * 4 + 1, none⟩ = some (.int .i64 s.validity) ∧ W.cell? ⟨b1, o1 + k * 4 + 2, none⟩ = some (.int .i64 s.next) ∧ W.cell? ⟨b1, o1 + k * 4 + 3, none⟩ = some (v3)) ∧ W.cell? ⟨b2, o2 + k * 4, none⟩ = some (sv s.name) ∧ W.cell? ⟨b2, o2 + k * 4 + 1, none⟩ = some (.int .i64 s.validity) ∧ W.cell? ⟨b2, o2 + k * 4 + 2, none⟩ = some (.int .i64 s.next) ∧ W.cell? ⟨b2, o2 + k * 4 + 3, none⟩ = some (u3)) w2 from ⟨⟨(bb.cell (p := ⟨b1, o1 + k * 4, none⟩) hlt1).trans e0, (bb.cell (p := ⟨b1, o1 + k * 4 + 1, none⟩) hlt1).trans e1, (bb.cell (p := ⟨b1, o1 + k * 4 + 2, none⟩) hlt1).trans e2, (bb.cell (p := ⟨b1, o1 + k * 4 + 3, none⟩) hlt1).trans e3⟩, (bb.cell (p := ⟨b2, o2 + k * 4, none⟩) hlt2).trans f0, (bb.cell (p := ⟨b2, o2 + k * 4 + 1, none⟩) hlt2).trans f1, (bb.cell (p := ⟨b2, o2 + k * 4 + 2, none⟩) hlt2).trans f2, (bb.cell (p := ⟨b2, o2 + k * 4 + 3, none⟩) hlt2).trans f3⟩)
      refine ⟨HE.out, ?_⟩
      iterate 1 (refine ord_flo ?_ (fun _ _ _ h => h) rfl ?_ HE.out ?_; rotate_left; focus (intro W hS; obtain ⟨⟨s0, s1, s2, s3⟩, t0, t1, t2, t3⟩ := hS; go_simp; rfl))
      refine ord_done ?_
      go_simp
      clear e0 f0 e1 f1 e2 f2 e3 f3 bb hbr hbr0 CE HE
      go_wp2
      go_roundw
      case rel => exact ⟨k + 1, by omega, by go_num, hb2'⟩
      case measure => simp [intOf]; omega
    · obtain rfl : k = l.length := by omega
      go_wp2
      go_ret
      exact ⟨rfl, hbr⟩

set_option maxRecDepth 20000 in
set_option maxHeartbeats 6400000 in
theorem toBoxS_g (v : Value) (l : List BoxD) (w : World) (hr : LfRd w (boxsLf l) v) (hs : szLf (boxsLf l) ≤ 10000000) :
    Calls Try.prog 20 #[v] w fun e w' => ∃ v' fp, e = .returned v' ∧ Tree w' w.heap.size (boxsLf l) v' fp ∧ Below w.heap.size w w' := by
  have hs2 : l.length + szLs (l.flatMap BoxD.lf) ≤ 10000000 := hs
  obtain ⟨p, c, rfl, hp⟩ := BoxD.at hr
  have HP := Lib.hid hp
  have HL := Lib.hid hs2
  have hll : l.length ≤ 10000000 := by omega
  clear hr hp hs hs2
  go_enter Try.func20, Try.ntmps20
  go_wp2_with (refine wpList_mkn Try.el_box rfl _ _ rfl w.heap.size w (Below.refl _ _) (Nat.le_refl _) _ _ l.length rfl rfl (by omega) (by omega) ?_)
  intro w1 xs0 hown1 hb1 hlt1
  go_wp2
  go_loopw [4] (fun i wr => ∃ (k : Nat) (A R : List Value) (fq : List Nat), k ≤ l.length ∧ i = .int .i64 k ∧ A.length = k * 4 ∧ wr.ownsRow w.heap.size 61 4 (.slice (some ⟨w.heap.size, 0, none⟩) l.length l.length) l.length (A ++ R) ∧ LsIn wr ((l.take k).flatMap BoxD.lf) A fq ∧ fq.Nodup ∧ (∀ q ∈ fq, w.heap.size < q) ∧ Below w.heap.size w wr ∧ w.heap.size < wr.heap.size) (fun i _ => l.length - (intOf i).toNat)
  case atStart => exact ⟨0, [], xs0, [], by omega, rfl, by simp, hown1, ⟨rfl, rfl⟩, by simp, by simp, hb1, hlt1⟩
  case round =>
    obtain ⟨k, A, R, fq, hk, rfl, hA, hown, hin, hnd, hlow, hbr, hzr⟩ := hrel
    have hbr0 := hbr.size
    clear hown1 hb1 hlt1
    by_cases hlt : k < l.length
    · obtain ⟨b1, o1, rfl, hb1, hc1⟩ := HP.out.resolve_left (by intro h; subst h; simp at hlt)
      obtain ⟨s, hs⟩ : ∃ s, l[k]? = some s := ⟨_, List.getElem?_eq_getElem hlt⟩
      obtain ⟨v3, n3, x0, x1, x2, x3⟩ := hc1 k s hs
      have e0 : wr.cell? ⟨b1, o1 + k * 4, none⟩ = some (sv s.name) := (hbr.cell (p := ⟨b1, o1 + k * 4, none⟩) hb1).trans x0
      have e1 : wr.cell? ⟨b1, o1 + k * 4 + 1, none⟩ = some (.int .i64 s.validity) := (hbr.cell (p := ⟨b1, o1 + k * 4 + 1, none⟩) hb1).trans x1
      have e2 : wr.cell? ⟨b1, o1 + k * 4 + 2, none⟩ = some (.int .i64 s.next) := (hbr.cell (p := ⟨b1, o1 + k * 4 + 2, none⟩) hb1).trans x2
      have e3 : wr.cell? ⟨b1, o1 + k * 4 + 3, none⟩ = some (v3) := (hbr.cell (p := ⟨b1, o1 + k * 4 + 3, none⟩) hb1).trans x3
      have hsm := szLs_mem BoxD.lf (List.mem_of_getElem? hs)
      have CT := Lib.hid (toBox_g s v3 wr (LfRd.below hbr _ _ n3) (by have := HL.out; omega))
      have HTK := Lib.hid (flat_take_succ BoxD.lf hs)
      clear hc1 hs HP hsm x0 x1 x2 x3 n3
      go_wp2_with fail
      refine (CT.out).mono ?_
      rintro e w2 ⟨z3, f3, rfl, i3, nd, lo, b2⟩
      have hown2 := ownsRow_below hown b2
      have hin2 := LsIn.frame _ _ _ (fun q hq => b2.block q (LsIn.lt _ _ _ hin q hq)) hin
      have hqz : ∀ q ∈ fq, q < wr.heap.size := fun q hq => LsIn.lt _ _ _ hin q hq
      have hb2 := hbr.trans (b2.mono hbr0)
      have hz2 := b2.size
      obtain ⟨pv3, cv3, rfl⟩ := LfIn.slice i3
      obtain ⟨R1, R2, rfl, hR1⟩ := rest_split hown2.1 hA hlt
      obtain ⟨y0, y1, y2, y3, rfl⟩ : ∃ y0 y1 y2 y3, R1 = [y0, y1, y2, y3] := by
        match R1, hR1 with
        | [a0, a1, a2, a3], _ => exact ⟨a0, a1, a2, a3, rfl⟩
      simp only [List.cons_append, List.nil_append] at hown2
      clear hown hin b2 CT hR1 e0 e1 e2 e3
      have c0 : w2.cell? ⟨w.heap.size, k * 4, none⟩ = some y0 := own_cell (L := y0 :: y1 :: y2 :: y3 :: R2) hown2 hA 0 _ rfl
      have q0 : w2.frozen? ⟨w.heap.size, k * 4, none⟩ = false := own_free hown2 _
      have p0 : (w2.setCell ⟨w.heap.size, k * 4, none⟩ (sv s.name)).ownsRow w.heap.size 61 4 (.slice (some ⟨w.heap.size, 0, none⟩) l.length l.length) l.length (A ++ (sv s.name) :: y1 :: y2 :: y3 :: R2) := own_at (L := y0 :: y1 :: y2 :: y3 :: R2) hown2 hA 0 (sv s.name)
      have c1 : (w2.setCell ⟨w.heap.size, k * 4, none⟩ (sv s.name)).cell? ⟨w.heap.size, k * 4 + 1, none⟩ = some y1 := own_cell (L := (sv s.name) :: y1 :: y2 :: y3 :: R2) p0 hA 1 _ rfl
      have q1 : (w2.setCell ⟨w.heap.size, k * 4, none⟩ (sv s.name)).frozen? ⟨w.heap.size, k * 4 + 1, none⟩ = false := own_free p0 _
      have p1 : ((w2.setCell ⟨w.heap.size, k * 4, none⟩ (sv s.name)).setCell ⟨w.heap.size, k * 4 + 1, none⟩ (.int .i64 s.validity)).ownsRow w.heap.size 61 4 (.slice (some ⟨w.heap.size, 0, none⟩) l.length l.length) l.length (A ++ (sv s.name) :: (.int .i64 s.validity) :: y2 :: y3 :: R2) := own_at (L := (sv s.name) :: y1 :: y2 :: y3 :: R2) p0 hA 1 (.int .i64 s.validity)
      have c2 : ((w2.setCell ⟨w.heap.size, k * 4, none⟩ (sv s.name)).setCell ⟨w.heap.size, k * 4 + 1, none⟩ (.int .i64 s.validity)).cell? ⟨w.heap.size, k * 4 + 2, none⟩ = some y2 := own_cell (L := (sv s.name) :: (.int .i64 s.validity) :: y2 :: y3 :: R2) p1 hA 2 _ rfl
      have q2 : ((w2.setCell ⟨w.heap.size, k * 4, none⟩ (sv s.name)).setCell ⟨w.heap.size, k * 4 + 1, none⟩ (.int .i64 s.validity)).frozen? ⟨w.heap.size, k * 4 + 2, none⟩ = false := own_free p1 _
      have p2 : (((w2.setCell ⟨w.heap.size, k * 4, none⟩ (sv s.name)).setCell ⟨w.heap.size, k * 4 + 1, none⟩ (.int .i64 s.validity)).setCell ⟨w.heap.size, k * 4 + 2, none⟩ (.int .i64 s.next)).ownsRow w.heap.size 61 4 (.slice (some ⟨w.heap.size, 0, none⟩) l.length l.length) l.length (A ++ (sv s.name) :: (.int .i64 s.validity) :: (.int .i64 s.next) :: y3 :: R2) := own_at (L := (sv s.name) :: (.int .i64 s.validity) :: y2 :: y3 :: R2) p1 hA 2 (.int .i64 s.next)
      have c3 : (((w2.setCell ⟨w.heap.size, k * 4, none⟩ (sv s.name)).setCell ⟨w.heap.size, k * 4 + 1, none⟩ (.int .i64 s.validity)).setCell ⟨w.heap.size, k * 4 + 2, none⟩ (.int .i64 s.next)).cell? ⟨w.heap.size, k * 4 + 3, none⟩ = some y3 := own_cell (L := (sv s.name) :: (.int .i64 s.validity) :: (.int .i64 s.next) :: y3 :: R2) p2 hA 3 _ rfl
      have q3 : (((w2.setCell ⟨w.heap.size, k * 4, none⟩ (sv s.name)).setCell ⟨w.heap.size, k * 4 + 1, none⟩ (.int .i64 s.validity)).setCell ⟨w.heap.size, k * 4 + 2, none⟩ (.int .i64 s.next)).frozen? ⟨w.heap.size, k * 4 + 3, none⟩ = false := own_free p2 _
      have p3 : ((((w2.setCell ⟨w.heap.size, k * 4, none⟩ (sv s.name)).setCell ⟨w.heap.size, k * 4 + 1, none⟩ (.int .i64 s.validity)).setCell ⟨w.heap.size, k * 4 + 2, none⟩ (.int .i64 s.next)).setCell ⟨w.heap.size, k * 4 + 3, none⟩ (.slice pv3 s.msgs.length cv3)).ownsRow w.heap.size 61 4 (.slice (some ⟨w.heap.size, 0, none⟩) l.length l.length) l.length (A ++ (sv s.name) :: (.int .i64 s.validity) :: (.int .i64 s.next) :: (.slice pv3 s.msgs.length cv3) :: R2) := own_at (L := (sv s.name) :: (.int .i64 s.validity) :: (.int .i64 s.next) :: y3 :: R2) p2 hA 3 (.slice pv3 s.msgs.length cv3)
      have gs : GrownIn w2 ((((w2.setCell ⟨w.heap.size, k * 4, none⟩ (sv s.name)).setCell ⟨w.heap.size, k * 4 + 1, none⟩ (.int .i64 s.validity)).setCell ⟨w.heap.size, k * 4 + 2, none⟩ (.int .i64 s.next)).setCell ⟨w.heap.size, k * 4 + 3, none⟩ (.slice pv3 s.msgs.length cv3)) [w.heap.size] := ((((GrownIn.refl w2 [w.heap.size]).trans (GrownIn.set (by simp))).trans (GrownIn.set (by simp))).trans (GrownIn.set (by simp))).trans (GrownIn.set (by simp))
      have lo3 : ∀ q ∈ f3, wr.heap.size ≤ q := fun q hq => lo q (by simp [hq])
      have I3 := Lib.hid (LfIn.away i3 gs (fun q hq hm => by have := lo3 q hq; simp at hm; omega))
      have IA := Lib.hid (LsIn.apart hin2 gs (fun q hq hm => by have := hlow q hq; simp at hm; omega))
      have hb3 := GrownIn.below hb2 gs hb2.size (fun q hq => by simp at hq; omega)
      have hz3 : w.heap.size < ((((w2.setCell ⟨w.heap.size, k * 4, none⟩ (sv s.name)).setCell ⟨w.heap.size, k * 4 + 1, none⟩ (.int .i64 s.validity)).setCell ⟨w.heap.size, k * 4 + 2, none⟩ (.int .i64 s.next)).setCell ⟨w.heap.size, k * 4 + 3, none⟩ (.slice pv3 s.msgs.length cv3)).heap.size := Nat.lt_of_lt_of_le (Nat.lt_of_lt_of_le hzr hz2) gs.size
      have PP := Lib.hid p3
      clear hown2 hin2 hb2 gs p0 p1 p2 p3 i3
      go_wp2
      go_roundw
      case rel =>
        refine ⟨k + 1, A ++ [(sv s.name), (.int .i64 s.validity), (.int .i64 s.next), (.slice pv3 s.msgs.length cv3)], R2, fq ++ (f3), by omega, by go_num, by simp; omega, by simpa using PP.out, ?_, ?_, ?_, hb3, hz3⟩
        · rw [HTK.out]
          exact LsIn.append.2 ⟨A, _, fq, _, rfl, IA.out, BoxD.in_mk (h3 := I3.out), rfl⟩
        · exact List.nodup_append.2 ⟨hnd, nd, fun x hx y hy e => by have h1 := hqz x hx; have h2 := lo y hy; omega⟩
        · intro q hq
          rcases List.mem_append.1 hq with hq | hq
          · exact hlow q hq
          · have := lo q hq; omega
      case measure => simp [intOf]; omega
    · obtain rfl : k = l.length := by omega
      have hR0 : R = [] := by
        have := hown.1
        rw [List.length_append, hA] at this
        exact List.eq_nil_of_length_eq_zero (by omega)
      subst hR0
      rw [List.append_nil] at hown
      rw [List.take_length] at hin
      have hT : Tree wr w.heap.size (boxsLf l) (.slice (some ⟨w.heap.size, 0, none⟩) l.length l.length) (w.heap.size :: fq) := by
        refine ⟨⟨flat_lenM BoxD.len l, A, fq, own_base hown, hin, rfl⟩, List.nodup_cons.2 ⟨fun hm => by have := hlow _ hm; omega, hnd⟩, fun q hq => ?_⟩
        rcases List.mem_cons.1 hq with rfl | hq
        · exact Nat.le_refl _
        · exact Nat.le_of_lt (hlow q hq)
      have HT := Lib.hid hT
      clear hT hown hin hA
      go_wp2
      go_ret
      exact ⟨_, _, rfl, HT.out, hbr⟩

set_option maxRecDepth 20000 in
set_option maxHeartbeats 6400000 in
theorem markBoxS_g (v : Value) (l : List BoxD) (kk : Int) (k : Nat) (hkk : kk = (k : Int)) (fp : List Nat) (w : World) (hi : LfIn w (boxsLf l) v fp) (hnd : fp.Nodup) (hk : k + cntLf (boxsLf l) ≤ 1000000000000) (hs : szLf (boxsLf l) ≤ 1000000000000) :
    Calls Try.prog 25 #[v, .int .i64 kk] w fun e w' => e = .returned (.int .i64 ((k + cntLf (boxsLf l) : Nat) : Int)) ∧ LfIn w' (markLf (boxsLf l) k).1 v fp ∧ GrownIn w w' fp := by
  subst hkk
  have hs2 : l.length + szLs (l.flatMap BoxD.lf) ≤ 1000000000000 := hs
  have hll : l.length ≤ 1000000000000 := by omega
  have HSZ := Lib.hid hs2
  have HCN := Lib.hid (show k + cntLs (l.flatMap BoxD.lf) ≤ 1000000000000 from hk)
  clear hk hs hs2
  obtain ⟨hfl, xs, fq, hown0, hin0, rfl⟩ := hi
  have hex : ∃ p c, v = .slice p l.length c ∧ (0 < l.length → ∃ g, p = some ⟨g, 0, none⟩) := by
    rcases h : hown0.2 with ⟨hv, h0⟩ | ⟨g, cap, cur, hv, _⟩
    · exact ⟨none, 0, by rw [hv, h0], fun h => by omega⟩
    · exact ⟨_, cap, hv, fun _ => ⟨g, rfl⟩⟩
  obtain ⟨p, c, rfl, hp⟩ := hex
  have HP := Lib.hid hp
  have HND := Lib.hid hnd
  clear hp hnd hfl
  generalize hFP : (Value.slice p l.length c).ownBlock.toList ++ fq = fp at *
  have HFP := Lib.hid hFP
  clear hFP
  go_enter Try.func25, Try.ntmps25
  go_wp2
  go_loopw [1, 5] (fun kk i wr => ∃ (j q : Nat) (A R : List Value) (fA fR : List Nat), j ≤ l.length ∧ i = .int .i64 j ∧ kk = .int .i64 (q : Int) ∧ q = k + cntLs ((l.take j).flatMap BoxD.lf) ∧ A.length = j * 4 ∧ wr.ownsRow 0 61 4 (.slice p l.length c) l.length (A ++ R) ∧ LsIn wr (markLs ((l.take j).flatMap BoxD.lf) k).1 A fA ∧ LsIn wr ((l.drop j).flatMap BoxD.lf) R fR ∧ fA ++ fR = fq ∧ GrownIn w wr fp) (fun _ i _ => l.length - (intOf i).toNat)
  case atStart => exact ⟨0, k, [], xs, [], fq, by omega, rfl, rfl, by simp [cntLs], by simp, hown0, ⟨rfl, rfl⟩, hin0, rfl, GrownIn.refl _ _⟩
  case round =>
    obtain ⟨j, q, A, R, fA, fR, hj, rfl, rfl, hq, hA, hown, hiA, hiR, hff, hgr⟩ := hrel
    clear hown0 hin0
    by_cases hlt : j < l.length
    · obtain ⟨g, rfl⟩ := HP.out (by omega)
      obtain ⟨s, hs⟩ : ∃ s, l[j]? = some s := ⟨_, List.getElem?_eq_getElem hlt⟩
      have hdr : l.drop j = s :: l.drop (j + 1) := by
        obtain ⟨h1, h2⟩ := List.getElem?_eq_some_iff.1 hs
        rw [List.drop_eq_getElem_cons h1, h2]
      rw [hdr, List.flatMap_cons] at hiR
      obtain ⟨u1, R2, f_, f2, rfl, hi1, hiR2, rfl⟩ := LsIn.append.1 hiR
      obtain ⟨r3, f3, rfl, i3, hfq⟩ := BoxD.in_of hi1
      have hfq2 := hfq.symm
      clear hfq
      subst hfq2
      obtain ⟨pv3, cv3, rfl⟩ := LfIn.slice i3
      simp only [List.cons_append, List.nil_append] at hown
      have HMK := Lib.hid (show (markLs ((l.take (j + 1)).flatMap BoxD.lf) k).1 = (markLs ((l.take j).flatMap BoxD.lf) k).1 ++ (markLs s.lf q).1 by rw [flat_take_succ BoxD.lf hs, markLs_app, hq])
      have HEN := Lib.hid (show k + cntLs ((l.take (j + 1)).flatMap BoxD.lf) = q + cntLs s.lf by rw [flat_take_succ BoxD.lf hs, cntLs_append, hq]; omega)
      have hcb : q + cntLs s.lf ≤ 1000000000000 := by have h1 := cntLs_flat_take BoxD.lf l (j + 1); have h2 := HEN.out; have h3 := HCN.out; omega
      rw [BoxD.cnt] at hcb
      have hsb : szLs s.lf ≤ 1000000000000 := by have h1 := szLs_mem BoxD.lf (List.mem_of_getElem? hs); have h2 := HSZ.out; omega
      rw [BoxD.sz] at hsb
      have hnd2 : (g :: (fA ++ (f3 ++ f2))).Nodup := by have h1 := HND.out; have h2 := HFP.out; rw [← hff] at h2; rw [← h2] at h1; exact h1
      obtain ⟨hg0, hn0⟩ := List.nodup_cons.1 hnd2
      obtain ⟨dA, _, hn1⟩ := nd_parts hn0
      obtain ⟨dF, hnr, _⟩ := nd_parts hn1
      have nd_3 := hnr
      have gA : g ∉ fA := fun hm => hg0 (by simp [hm])
      have gF : g ∉ f2 := fun hm => hg0 (by simp [hm])
      have g_3 : g ∉ f3 := fun hm => hg0 (by simp [hm])
      have dA_3 : ∀ q ∈ fA, q ∉ f3 := fun q hq hm => dA q hq (by simp [hm])
      have dF_3 : ∀ q ∈ f2, q ∉ f3 := fun q hq hm => dF q (by simp [hm]) hq
      have hgf : g ∈ fp := by rw [← HFP.out]; simp [Value.ownBlock]
      have hf_3 : ∀ q ∈ f3, q ∈ fp := fun q hq => by rw [← HFP.out, ← hff]; simp [hq]
      have HQ := Lib.hid hq
      have HFF := Lib.hid hff
      have HCB := Lib.hid hcb
      have HSB := Lib.hid hsb
      have hqb : q ≤ 1000000000000 := by omega
      clear hq hff hcb hsb hs hdr hi1 hiR hnd2 hn0 hn1 hnr HP
      have PP := Lib.hid hown
      have IA := Lib.hid hiA
      have IR := Lib.hid hiR2
      have GR := Lib.hid hgr
      have I3 := Lib.hid i3
      clear hiA hiR2 hgr hown i3
      go_wp2_with fail
      refine (markText_k _ q (by omega) _ (by omega)).mono ?_
      rintro e w1 ⟨rfl, b1⟩
      have hiA := IA.out
      have hiR2 := IR.out
      have hgr := GR.out
      have hown := PP.out
      clear IA IR GR PP 
      have i3 := I3.out
      clear I3
      have gb : GrownIn wr w1 [] := GrownIn.of_below b1
      replace hown := ownsRow_below hown b1
      replace hiA := LsIn.apart hiA gb (fun _ _ h => by cases h)
      replace hiR2 := LsIn.apart hiR2 gb (fun _ _ h => by cases h)
      replace hgr := hgr.trans (gb.mono (fun _ h => by cases h))
      replace i3 := LfIn.away i3 gb (fun _ _ h => by cases h)
      clear b1 gb
      have c0 := own_cell (L := (sv s.name) :: (.int .i64 s.validity) :: (.int .i64 s.next) :: (.slice pv3 s.msgs.length cv3) :: R2) hown hA 0 _ rfl
      have z0 : w1.frozen? ⟨g, j * 4, none⟩ = false := own_free hown _
      rw [Nat.add_zero] at c0
      have p0 : (w1.setCell ⟨g, j * 4, none⟩ (sv (markB q))).ownsRow 0 61 4 (.slice (some ⟨g, 0, none⟩) l.length c) l.length (A ++ (sv (markB q)) :: (.int .i64 s.validity) :: (.int .i64 s.next) :: (.slice pv3 s.msgs.length cv3) :: R2) := own_at (L := (sv s.name) :: (.int .i64 s.validity) :: (.int .i64 s.next) :: (.slice pv3 s.msgs.length cv3) :: R2) hown hA 0 (sv (markB q))
      have c1 := own_cell (L := (sv (markB q)) :: (.int .i64 s.validity) :: (.int .i64 s.next) :: (.slice pv3 s.msgs.length cv3) :: R2) p0 hA 1 _ rfl
      have z1 : (w1.setCell ⟨g, j * 4, none⟩ (sv (markB q))).frozen? ⟨g, j * 4 + 1, none⟩ = false := own_free p0 _
      have p1 : ((w1.setCell ⟨g, j * 4, none⟩ (sv (markB q))).setCell ⟨g, j * 4 + 1, none⟩ (.int .i64 ((q : Int) + 1))).ownsRow 0 61 4 (.slice (some ⟨g, 0, none⟩) l.length c) l.length (A ++ (sv (markB q)) :: (.int .i64 ((q : Int) + 1)) :: (.int .i64 s.next) :: (.slice pv3 s.msgs.length cv3) :: R2) := own_at (L := (sv (markB q)) :: (.int .i64 s.validity) :: (.int .i64 s.next) :: (.slice pv3 s.msgs.length cv3) :: R2) p0 hA 1 (.int .i64 ((q : Int) + 1))
      have c2 := own_cell (L := (sv (markB q)) :: (.int .i64 ((q : Int) + 1)) :: (.int .i64 s.next) :: (.slice pv3 s.msgs.length cv3) :: R2) p1 hA 2 _ rfl
      have z2 : ((w1.setCell ⟨g, j * 4, none⟩ (sv (markB q))).setCell ⟨g, j * 4 + 1, none⟩ (.int .i64 ((q : Int) + 1))).frozen? ⟨g, j * 4 + 2, none⟩ = false := own_free p1 _
      have p2 : (((w1.setCell ⟨g, j * 4, none⟩ (sv (markB q))).setCell ⟨g, j * 4 + 1, none⟩ (.int .i64 ((q : Int) + 1))).setCell ⟨g, j * 4 + 2, none⟩ (.int .i64 ((q : Int) + 1 + 1))).ownsRow 0 61 4 (.slice (some ⟨g, 0, none⟩) l.length c) l.length (A ++ (sv (markB q)) :: (.int .i64 ((q : Int) + 1)) :: (.int .i64 ((q : Int) + 1 + 1)) :: (.slice pv3 s.msgs.length cv3) :: R2) := own_at (L := (sv (markB q)) :: (.int .i64 ((q : Int) + 1)) :: (.int .i64 s.next) :: (.slice pv3 s.msgs.length cv3) :: R2) p1 hA 2 (.int .i64 ((q : Int) + 1 + 1))
      have c3 := own_cell (L := (sv (markB q)) :: (.int .i64 ((q : Int) + 1)) :: (.int .i64 ((q : Int) + 1 + 1)) :: (.slice pv3 s.msgs.length cv3) :: R2) p2 hA 3 _ rfl
      have gs : GrownIn w1 (((w1.setCell ⟨g, j * 4, none⟩ (sv (markB q))).setCell ⟨g, j * 4 + 1, none⟩ (.int .i64 ((q : Int) + 1))).setCell ⟨g, j * 4 + 2, none⟩ (.int .i64 ((q : Int) + 1 + 1))) [g] := (((GrownIn.refl w1 [g]).trans (GrownIn.set (by simp))).trans (GrownIn.set (by simp))).trans (GrownIn.set (by simp))
      replace hiA := LsIn.apart hiA gs (fun q hq hm => by simp at hm; exact gA (hm ▸ hq))
      replace hiR2 := LsIn.apart hiR2 gs (fun q hq hm => by simp at hm; exact gF (hm ▸ hq))
      replace i3 := LfIn.away i3 gs (fun q hq hm => by simp at hm; exact g_3 (hm ▸ hq))
      replace hgr := hgr.trans (gs.mono (fun q hq => by simp at hq; exact hq ▸ hgf))
      clear gs
      have PP := Lib.hid p2
      have IA := Lib.hid hiA
      have IR := Lib.hid hiR2
      have GR := Lib.hid hgr
      have I3 := Lib.hid i3
      clear hiA hiR2 hgr hown p0 p1 p2 i3
      go_wp2_with fail
      refine (markMsgS_g _ s.msgs ((q : Int) + 3) (q + 3) (by omega) f3 _ I3.out nd_3 (by have := HCB.out; omega) (by have := HSB.out; omega)).mono ?_
      rintro e w2 ⟨rfl, ii, gb⟩
      have hiA := IA.out
      have hiR2 := IR.out
      have hgr := GR.out
      have hown := PP.out
      clear IA IR GR PP c0 z0 c1 z1 c2 z2 c3
      have i3 := I3.out
      clear I3
      replace hown := own_apart hown gb (fun y hy hm => by injection hy with hy; subst hy; exact g_3 hm)
      replace hiA := LsIn.apart hiA gb dA_3
      replace hiR2 := LsIn.apart hiR2 gb dF_3
      replace hgr := hgr.trans (gb.mono hf_3)
      replace i3 := ii
      clear gb
      obtain ⟨q3, hq3⟩ : ∃ y, y = (q + 3) + cntLf (msgsLf s.msgs) := ⟨_, rfl⟩
      rw [← hq3]
      have hqb3 : q3 ≤ 1000000000000 := by have := HCB.out; omega
      have HQ3 := Lib.hid hq3
      clear hq3
      have PP := Lib.hid hown
      have IA := Lib.hid hiA
      have IR := Lib.hid hiR2
      have GR := Lib.hid hgr
      have I3 := Lib.hid i3
      clear hiA hiR2 hgr hown i3
      go_wp2
      go_roundw
      case rel =>
        have e3 := HQ3.out
        refine ⟨j + 1, q + cntLs s.lf, A ++ [(sv (markB q)), (.int .i64 ((q : Int) + 1)), (.int .i64 ((q : Int) + 1 + 1)), (.slice pv3 s.msgs.length cv3)], R2, fA ++ f3, f2, by omega, by go_num, ?_, HEN.out.symm, by simp; omega, by simpa using PP.out, ?_, IR.out, by rw [List.append_assoc]; exact HFF.out, GR.out⟩
        · rw [BoxD.cnt]
          congr 1 <;> omega
        · rw [HMK.out, BoxD.mark]
          subst e3
          exact LsIn.append.2 ⟨A, _, fA, _, rfl, IA.out, BoxD.in_mk (h3 := I3.out), rfl⟩
      case measure => simp [intOf]; omega
    · obtain rfl : j = l.length := by omega
      have hR0 : R = [] ∧ fR = [] := by rw [List.drop_length] at hiR; exact hiR
      obtain ⟨rfl, rfl⟩ := hR0
      rw [List.append_nil] at hown hff
      rw [List.take_length] at hiA hq
      subst hff
      have HT := Lib.hid (show LfIn wr (markLf (boxsLf l) k).1 (.slice p l.length c) fp from ⟨by rw [markLs_length]; exact flat_lenM BoxD.len l, A, fA, own_base hown, hiA, HFP.out.symm⟩)
      have HV := Lib.hid (show q = k + cntLf (boxsLf l) from hq)
      clear hiA hiR hown hA hq
      go_wp2
      go_ret
      exact ⟨by rw [HV.out]; rfl, HT.out, hgr⟩

end Go.Proofs.Ytbfgdbpfecffcaa

namespace Go.Proofs.Ytbfgdbpfecffcaa
open Go.RowKit

def flB (n : Int) : Bool := decide (0 ≤ n) && decide (n ≤ 31)
def flW : List (List UInt8) := [[115, 101, 101, 110], [97, 110, 115, 119, 101, 114, 101, 100], [102, 108, 97, 103, 103, 101, 100], [100, 101, 108, 101, 116, 101, 100], [100, 114, 97, 102, 116]]
def flAt (i : Nat) : List UInt8 := flW.getD i []
/-- The words of the first k flags that are set. -/
def flTo (n k : Nat) : List (List UInt8) := ((List.range k).filter fun i => n.testBit i).map flAt
def flT (n : Int) : List UInt8 := if flB n = true then Lib.join (flTo n.toNat 5) [32] else []
theorem flTo_yes {n k : Nat} (h : n.testBit k = true) : flTo n (k + 1) = flTo n k ++ [flAt k] := by unfold flTo; rw [List.range_succ, List.filter_append, List.map_append]; simp [h]
theorem flTo_no {n k : Nat} (h : n.testBit k = false) : flTo n (k + 1) = flTo n k := by unfold flTo; rw [List.range_succ, List.filter_append, List.map_append]; simp [h]
theorem flTo_len (n k : Nat) : (flTo n k).length ≤ k := by unfold flTo; rw [List.length_map]; have := List.length_filter_le (fun i => n.testBit i) (List.range k); simpa using this
theorem flB_nat {n : Int} (h : flB n = true) : ∃ m : Nat, n = (m : Int) ∧ m ≤ 31 := by
  unfold flB at h
  simp only [Bool.and_eq_true, decide_eq_true_eq] at h
  exact ⟨n.toNat, by omega, by omega⟩

end Go.Proofs.Ytbfgdbpfecffcaa
