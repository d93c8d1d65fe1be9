/-
  The laws' helpers on records of the type Msg (made by tools/typegen.py).
-/
import Derived.Test.YtboinphhpfggnaaLg
import Derived.Test.YtboinphhpfggnaaLgB
import Derived.Handy
import Derived.IntWalk
namespace Go.Proofs.Ytboinphhpfggnaa
open Go.RowKit

structure MsgD where
  uid : Int
  flags : Int
  text : List UInt8

def MsgD.lf (x : MsgD) : List Lf := [.int x.uid, .int x.flags, .str x.text]
theorem MsgD.len (x : MsgD) : x.lf.length = 3 := rfl
def msgsLf (l : List MsgD) : Lf := .rows 67 3 l.length (l.flatMap MsgD.lf)
theorem MsgD.fit (x : MsgD) : LsFit x.lf := ⟨trivial, trivial, trivial, trivial⟩
theorem msgsLf_fit (l : List MsgD) : LfFit (msgsLf l) := ⟨by omega, flat_lenM MsgD.len l, LsFit.flat MsgD.fit l⟩
theorem MsgD.sz (x : MsgD) : szLs x.lf = x.text.length := by simp only [MsgD.lf, szLs, szLf_int, szLf_str] <;> omega
theorem MsgD.cnt (x : MsgD) : cntLs x.lf = 1 + 1 + 1 := by simp only [MsgD.lf, cntLs, cntLf_int, cntLf_str] <;> omega
theorem MsgD.rd {W : World} {x : MsgD} {vs : List Value} : LsRd W x.lf vs ↔ vs = [.int .i64 x.uid, .int .i64 x.flags, sv x.text] := by
  constructor
  · rintro ⟨a0, s0, rfl, h0, a1, s1, rfl, h1, a2, s2, rfl, h2, rfl⟩
    exact by rw [h0, h1, h2]
  · rintro rfl
    exact ⟨_, _, rfl, rfl, _, _, rfl, rfl, _, _, rfl, rfl, rfl⟩
theorem MsgD.mark (x : MsgD) (k : Nat) : (markLs x.lf k).1 = [.int ((k : Nat) : Int), .int ((k + 1 : Nat) : Int), .str (markB (k + 1 + 1))] := by simp only [MsgD.lf, markLs, markLf_int, markLf_str]
theorem MsgD.rdm {W : World} {x : MsgD} {k : Nat} {vs : List Value} : LsRd W (markLs x.lf k).1 vs ↔ vs = [.int .i64 ((k : Nat) : Int), .int .i64 ((k + 1 : Nat) : Int), sv (markB (k + 1 + 1))] := by
  rw [MsgD.mark]
  constructor
  · rintro ⟨a0, s0, rfl, h0, a1, s1, rfl, h1, a2, s2, rfl, h2, rfl⟩
    exact by rw [h0, h1, h2]
  · rintro rfl
    exact ⟨_, _, rfl, rfl, _, _, rfl, rfl, _, _, rfl, rfl, rfl⟩
theorem MsgD.in_of {W : World} {z0 : Int} {z1 : Int} {z2 : List UInt8} {vs : List Value} {fp : List Nat} (h : LsIn W [.int z0, .int z1, .str z2] vs fp) : vs = [.int .i64 z0, .int .i64 z1, sv z2] ∧ fp = [] := by
  obtain ⟨a0, s0, f0, g0, rfl, h0, ⟨a1, s1, f1, g1, rfl, h1, ⟨a2, s2, f2, g2, rfl, h2, ⟨rfl, rfl⟩, rfl⟩, rfl⟩, rfl⟩ := h
  exact ⟨by rw [h0.1, h1.1, h2.1], by rw [h0.2, h1.2, h2.2]; simp⟩
theorem MsgD.in_mk {W : World} {z0 : Int} {z1 : Int} {z2 : List UInt8}  : LsIn W [.int z0, .int z1, .str z2] [.int .i64 z0, .int .i64 z1, sv z2] ([]) := by
  have h : LsIn W [.int z0, .int z1, .str z2] [.int .i64 z0, .int .i64 z1, sv z2] ([] ++ ([] ++ ([] ++ ([])))) := ⟨_, _, [], _, rfl, ⟨rfl, rfl⟩, ⟨_, _, [], _, rfl, ⟨rfl, rfl⟩, ⟨_, _, [], _, rfl, ⟨rfl, rfl⟩, ⟨rfl, rfl⟩, rfl⟩, rfl⟩, rfl⟩
  simpa using h

theorem Try.el_msg : Elem Try.prog 28 67 3 32 := Elem.mk' (z := .agg #[.int .i64 0, .int .i64 0, .string ⟨#[]⟩]) Try.underlying28 (by kernel_rfl) rfl (by omega)

theorem MsgD.at {W : World} {l : List MsgD} {v : Value} (h : LfRd W (msgsLf l) v) : ∃ p cap, v = .slice p l.length cap ∧ (l = [] ∨ ∃ b off, p = some ⟨b, off, none⟩ ∧ b < W.heap.size ∧ ∀ i x, l[i]? = some x → W.cell? ⟨b, off + i * 3, none⟩ = some (.int .i64 x.uid) ∧ W.cell? ⟨b, off + i * 3 + 1, none⟩ = some (.int .i64 x.flags) ∧ W.cell? ⟨b, off + i * 3 + 2, none⟩ = some (sv x.text)) := by
  obtain ⟨p, cap, hv, hc⟩ := rows_at MsgD.len h
  refine ⟨p, cap, hv, hc.imp id fun ⟨b, off, hp, hlt, hc⟩ => ⟨b, off, hp, hlt, fun i x hi => ?_⟩⟩
  obtain ⟨us, h1, h2⟩ := hc i x hi
  obtain rfl := MsgD.rd.1 h1
  exact ⟨h2 0 _ rfl, h2 1 _ rfl, h2 2 _ rfl⟩
theorem MsgD.atm {W : World} {l : List MsgD} {v : Value} {k0 : Nat} (h : LfRd W (markLf (msgsLf l) k0).1 v) : ∃ p cap, v = .slice p l.length cap ∧ (l = [] ∨ ∃ b off, p = some ⟨b, off, none⟩ ∧ b < W.heap.size ∧ ∀ i x k, l[i]? = some x → k = k0 + cntLs ((l.take i).flatMap MsgD.lf) → W.cell? ⟨b, off + i * 3, none⟩ = some (.int .i64 ((k : Nat) : Int)) ∧ W.cell? ⟨b, off + i * 3 + 1, none⟩ = some (.int .i64 ((k + 1 : Nat) : Int)) ∧ W.cell? ⟨b, off + i * 3 + 2, none⟩ = some (sv (markB (k + 1 + 1)))) := by
  obtain ⟨p, cap, hv, hc⟩ := rows_at_mark MsgD.len h
  refine ⟨p, cap, hv, hc.imp id fun ⟨b, off, hp, hlt, hc⟩ => ⟨b, off, hp, hlt, fun i x k hi hk => ?_⟩⟩
  obtain ⟨us, h1, h2⟩ := hc i x hi
  rw [← hk] at h1
  obtain rfl := MsgD.rdm.1 h1
  exact ⟨h2 0 _ rfl, h2 1 _ rfl, h2 2 _ rfl⟩

set_option maxHeartbeats 1600000 in
theorem szMsg_g (x : MsgD) (ll : Int) (left : Nat) (hll : ll = (left : Int)) (w : World) (hin : LsBnd x.lf) (hL : left ≤ 1000000000000) :
    Calls Try.prog 72 #[.agg #[.int .i64 x.uid, .int .i64 x.flags, sv x.text], .int .i64 ll] w fun e w' => e = .returned (.int .i64 (szN left (szLs x.lf))) ∧ Below w.heap.size w w' := by
  subst hll
  have hb1 : Below w.heap.size w (w.alloc (.cells #[.int .i64 x.uid, .int .i64 x.flags, sv x.text] 89)) := (Below.refl _ _).alloc (Nat.le_refl _) _
  have HA1 := Lib.hid (heap_alloc_new w (.cells #[.int .i64 x.uid, .int .i64 x.flags, sv x.text] 89))
  have hsz := MsgD.sz x
  have bn_2 : x.text.length ≤ 9223372036854775807 := hin.2.2.1
  have bz_2 : (ByteArray.mk x.text.toArray).size = x.text.length := by show x.text.toArray.size = _; simp
  clear hin
  by_cases k0 : x.text.length ≤ left
  · obtain ⟨L1, hL1⟩ : ∃ L, L + x.text.length = left := ⟨left - x.text.length, by omega⟩
    have n0 : ¬ (left : Int) - (x.text.length : Int) < 0 := by omega
    have bL1 : L1 ≤ 1000000000000 := by omega
    have HL1 := Lib.hid hL1
    have HV := Lib.hid (show szN left (szLs x.lf) = (left : Int) - (x.text.length : Int) by rw [hsz, szN_yes (by omega)]; omega)
    clear hsz hL1

    go_enter Try.func72, Try.ntmps72
    go_wp2
    go_ret
    exact ⟨by rw [HV.out]; rfl, hb1⟩
  · have HV := Lib.hid (show szN left (szLs x.lf) = -1 by rw [hsz]; exact szN_no (by omega))
    have n0 : (left : Int) - (x.text.length : Int) < 0 := by omega
    clear hsz

    go_enter Try.func72, Try.ntmps72
    go_wp2
    go_ret
    exact ⟨by rw [HV.out]; rfl, hb1⟩

set_option maxHeartbeats 1600000 in
theorem eqMsg_g (x : MsgD) (w : World) (_hs : szLs x.lf ≤ 1000000000000) :
    Calls Try.prog 74 #[.agg #[.int .i64 x.uid, .int .i64 x.flags, sv x.text], .agg #[.int .i64 x.uid, .int .i64 x.flags, sv x.text]] w fun e w' => e = .returned (.bool true) ∧ Below w.heap.size w w' := by
  go_enter Try.func74, Try.ntmps74
  go_wp2
  go_ret
  exact ⟨rfl, ((Below.refl _ _).alloc (Nat.le_refl _) _).alloc (by simp) _⟩

set_option maxRecDepth 20000 in
set_option maxHeartbeats 6400000 in
theorem toMsg_g (x : MsgD) (w : World) (_hs : szLs x.lf ≤ 10000000) :
    Calls Try.prog 73 #[.agg #[.int .i64 x.uid, .int .i64 x.flags, sv x.text]] w fun e w' => e = .returned (.agg #[.int .i64 x.uid, .int .i64 x.flags, sv x.text]) ∧ Below w.heap.size w w' := by
  go_enter Try.func73, Try.ntmps73
  go_wp2
  go_returns
  exact ⟨rfl, (((Below.refl _ _).alloc (Nat.le_refl _) _).alloc (by simp) _).alloc (by simp; omega) _⟩

set_option maxHeartbeats 3200000 in
theorem szMsgS_g (v : Value) (l : List MsgD) (ll : Int) (left : Nat) (hll : ll = (left : Int)) (w : World) (hr : LfRd w (msgsLf l) v) (hin : LfBnd (msgsLf l)) (hL : left ≤ 1000000000000) :
    Calls Try.prog 52 #[v, .int .i64 ll] w fun e w' => e = .returned (.int .i64 (szN left (szLf (msgsLf l)))) ∧ Below w.heap.size w w' := by
  subst hll
  have HSZ := Lib.hid (show szLf (msgsLf l) = l.length + szLs (l.flatMap MsgD.lf) from rfl)
  obtain ⟨p, c, rfl, hp⟩ := MsgD.at hr
  have hl : l.length ≤ 9223372036854775807 := hin.1
  have HX := Lib.hid (LsBnd.flat hin.2)
  have HP := Lib.hid hp
  clear hr hp hin
  by_cases hbig : l.length ≤ left
  · have h1 : ¬ (left : Int) - (l.length : Int) < 0 := by omega
    go_enter Try.func52, Try.ntmps52
    go_wp2
    go_loopw [1, 5] (fun lf i wr => ∃ j q : Nat, j ≤ l.length ∧ i = .int .i64 j ∧ lf = .int .i64 (q : Int) ∧ q + (l.length + szLs ((l.take j).flatMap MsgD.lf)) = left ∧ Below w.heap.size w wr) (fun _ i _ => l.length - (intOf i).toNat)
    case atStart => exact ⟨0, left - l.length, by omega, rfl, by congr 1; omega, by simp [szLs]; omega, Below.refl _ _⟩
    case round =>
      obtain ⟨j, q, hj, rfl, rfl, hq, hbr⟩ := hrel
      have hbr0 := hbr.size
      have hqL : q ≤ 1000000000000 := by omega
      by_cases hlt : j < l.length
      · obtain ⟨b1, o1, rfl, hb1, hc1⟩ := HP.out.resolve_left (by intro h; subst h; simp at hlt)
        obtain ⟨s, hs⟩ : ∃ s, l[j]? = some s := ⟨_, List.getElem?_eq_getElem hlt⟩
        obtain ⟨x0, x1, x2⟩ := hc1 j s hs
        have e0 : wr.cell? ⟨b1, o1 + j * 3, none⟩ = some (.int .i64 s.uid) := (hbr.cell (p := ⟨b1, o1 + j * 3, none⟩) hb1).trans x0
        have e1 : wr.cell? ⟨b1, o1 + j * 3 + 1, none⟩ = some (.int .i64 s.flags) := (hbr.cell (p := ⟨b1, o1 + j * 3 + 1, none⟩) hb1).trans x1
        have e2 : wr.cell? ⟨b1, o1 + j * 3 + 2, none⟩ = some (sv s.text) := (hbr.cell (p := ⟨b1, o1 + j * 3 + 2, none⟩) hb1).trans x2
        have cz := fun ll (hl : ll = (q : Int)) => szMsg_g s ll q hl wr (HX.out s (List.mem_of_getElem? hs)) hqL
        have htk : szLs ((l.take (j + 1)).flatMap MsgD.lf) = szLs ((l.take j).flatMap MsgD.lf) + szLs s.lf := by rw [flat_take_succ MsgD.lf hs, szLs_append]
        have hmono := szLs_flat_take MsgD.lf l (j + 1)
        by_cases hok : szLs s.lf ≤ q
        · obtain ⟨q2, hq2⟩ : ∃ q2, q2 + szLs s.lf = q := ⟨q - szLs s.lf, by omega⟩
          have hqe : q2 + (l.length + szLs ((l.take (j + 1)).flatMap MsgD.lf)) = left := by omega
          simp only [show szN q (szLs s.lf) = (q2 : Int) from by rw [szN_yes hok]; omega] at cz
          have CZ := Lib.hid cz
          have hnn : ¬ (q2 : Int) < 0 := by omega
          have HQ := Lib.hid hqe
          clear cz htk hq hq2 hqe hmono hok
          clear hc1 hs HP x0 x1 x2
          go_wp2_with fail
          refine (CZ.out _ rfl).mono ?_
          rintro e w2 ⟨rfl, b2⟩
          have hb2 := hbr.trans (b2.mono hbr0)
          clear CZ b2 hbr e0 e1 e2
          go_wp2
          go_roundw
          case rel => exact ⟨j + 1, q2, by omega, by go_num, rfl, HQ.out, hb2⟩
          case measure => simp [intOf]; omega
        · simp only [show szN q (szLs s.lf) = -1 from szN_no hok] at cz
          have CZ := Lib.hid cz
          have HV := Lib.hid (show szN left (szLf (msgsLf l)) = -1 by rw [HSZ.out]; exact szN_no (by omega))
          clear cz htk hq hmono hok
          clear hc1 hs HP x0 x1 x2
          go_wp2_with fail
          refine (CZ.out _ rfl).mono ?_
          rintro e w2 ⟨rfl, b2⟩
          have hb2 := hbr.trans (b2.mono hbr0)
          clear CZ b2 hbr e0 e1 e2
          go_wp2
          go_ret
          exact ⟨by rw [HV.out]; rfl, hb2⟩
      · obtain rfl : j = l.length := by omega
        rw [List.take_length] at hq
        have HV := Lib.hid (show szN left (szLf (msgsLf l)) = (q : Int) by rw [HSZ.out, szN_yes (by omega)]; omega)
        clear hq
        go_wp2
        go_ret
        exact ⟨by rw [HV.out]; rfl, hbr⟩
  · have h1 : (left : Int) - (l.length : Int) < 0 := by omega
    have HV := Lib.hid (show szN left (szLf (msgsLf l)) = -1 by rw [HSZ.out]; exact szN_no (by omega))
    go_enter Try.func52, Try.ntmps52
    go_wp2
    go_ret
    exact ⟨by rw [HV.out]; rfl, Below.refl _ _⟩

set_option maxHeartbeats 3200000 in
theorem eqMsgS_g (a b : Value) (l : List MsgD) (w : World) (ha : LfRd w (msgsLf l) a) (hb : LfRd w (msgsLf l) b) (hs : szLf (msgsLf l) ≤ 1000000000000) :
    Calls Try.prog 58 #[a, b] w fun e w' => e = .returned (.bool true) ∧ Below w.heap.size w w' := by
  have hs2 : l.length + szLs (l.flatMap MsgD.lf) ≤ 1000000000000 := hs
  clear hs
  obtain ⟨p, c1, rfl, hp⟩ := MsgD.at ha
  obtain ⟨q, c2, rfl, hq⟩ := MsgD.at hb
  clear ha hb
  have HP := Lib.hid hp
  have HQ := Lib.hid hq
  clear hp hq
  have HL := Lib.hid hs2
  have hll : l.length ≤ 1000000000000 := by omega
  clear hs2
  go_enter Try.func58, Try.ntmps58
  go_wp2
  go_loopw [5] (fun i wr => ∃ k : Nat, k ≤ l.length ∧ i = .int .i64 k ∧ Below w.heap.size w wr) (fun i _ => l.length - (intOf i).toNat)
  case atStart => exact ⟨0, by omega, rfl, Below.refl _ _⟩
  case round =>
    obtain ⟨k, hk, rfl, hbr⟩ := hrel
    have hbr0 := hbr.size
    by_cases hlt : k < l.length
    · obtain ⟨b1, o1, rfl, hb1, hc1⟩ := HP.out.resolve_left (by intro h; subst h; simp at hlt)
      obtain ⟨b2, o2, rfl, hb2, hc2⟩ := HQ.out.resolve_left (by intro h; subst h; simp at hlt)
      obtain ⟨s, hs⟩ : ∃ s, l[k]? = some s := ⟨_, List.getElem?_eq_getElem hlt⟩
      obtain ⟨x0, x1, x2⟩ := hc1 k s hs
      obtain ⟨y0, y1, y2⟩ := hc2 k s hs
      have e0 : wr.drew.cell? ⟨b1, o1 + k * 3, none⟩ = some (.int .i64 s.uid) := (hbr.cell (p := ⟨b1, o1 + k * 3, none⟩) hb1).trans x0
      have f0 : wr.drew.cell? ⟨b2, o2 + k * 3, none⟩ = some (.int .i64 s.uid) := (hbr.cell (p := ⟨b2, o2 + k * 3, none⟩) hb2).trans y0
      have e1 : wr.drew.cell? ⟨b1, o1 + k * 3 + 1, none⟩ = some (.int .i64 s.flags) := (hbr.cell (p := ⟨b1, o1 + k * 3 + 1, none⟩) hb1).trans x1
      have f1 : wr.drew.cell? ⟨b2, o2 + k * 3 + 1, none⟩ = some (.int .i64 s.flags) := (hbr.cell (p := ⟨b2, o2 + k * 3 + 1, none⟩) hb2).trans y1
      have e2 : wr.drew.cell? ⟨b1, o1 + k * 3 + 2, none⟩ = some (sv s.text) := (hbr.cell (p := ⟨b1, o1 + k * 3 + 2, none⟩) hb1).trans x2
      have f2 : wr.drew.cell? ⟨b2, o2 + k * 3 + 2, none⟩ = some (sv s.text) := (hbr.cell (p := ⟨b2, o2 + k * 3 + 2, none⟩) hb2).trans y2
      have hsm := szLs_mem MsgD.lf (List.mem_of_getElem? hs)
      have CE := Lib.hid (eqMsg_g s wr.drew (by have := HL.out; omega))
      clear hc1 hc2 hs HP HQ hsm x0 y0 x1 y1 x2 y2
      go_wp2
      refine ord_start [(0, true), (1, true), (2, true), (3, true), (4, true), (5, true), (6, true), (7, true), (8, false), (9, true)] (fun W => (W.cell? ⟨b1, o1 + k * 3, none⟩ = some (.int .i64 s.uid) ∧ W.cell? ⟨b1, o1 + k * 3 + 1, none⟩ = some (.int .i64 s.flags) ∧ W.cell? ⟨b1, o1 + k * 3 + 2, none⟩ = some (sv s.text)) ∧ W.cell? ⟨b2, o2 + k * 3, none⟩ = some (.int .i64 s.uid) ∧ W.cell? ⟨b2, o2 + k * 3 + 1, none⟩ = some (.int .i64 s.flags) ∧ W.cell? ⟨b2, o2 + k * 3 + 2, none⟩ = some (sv s.text)) (by kernel_rfl) (by kernel_rfl) rfl (by kernel_rfl) ?_
      intro ops' hops
      clear hops
      simp only [List.map_cons, List.map_nil, pickOp_zero, pickOp_succ]
      iterate 8 (refine ord_flo ?_ (fun _ _ _ h => h) rfl ?_ ⟨⟨e0, e1, e2⟩, f0, f1, f2⟩ ?_; rotate_left; focus (intro W hS; obtain ⟨⟨s0, s1, s2⟩, t0, t1, t2⟩ := hS; go_simp; rfl))
      refine ord_ev rfl ?_
      go_simp
      refine (CE.out).mono ?_
      rintro e w2 ⟨rfl, bb⟩
      have hb2' := hbr.drew.trans (bb.mono (by show w.heap.size ≤ wr.heap.size; omega))
      have hlt1 : b1 < wr.drew.heap.size := Nat.lt_of_lt_of_le hb1 hbr0
      have hlt2 : b2 < wr.drew.heap.size := Nat.lt_of_lt_of_le hb2 hbr0
      have HE := Lib.hid (show (fun W : World => (W.cell? ⟨b1, o1 + k * 3, none⟩ = some (.int .i64 s.uid) ∧ W.cell? ⟨b1, o1 + k * 3 + 1, none⟩ = some (.int .i64 s.flags) ∧ W.cell? ⟨b1, o1 + k * 3 + 2, none⟩ = some (sv s.text)) ∧ W.cell? ⟨b2, o2 + k * 3, none⟩ = some (.int .i64 s.uid) ∧ W.cell? ⟨b2, o2 + k * 3 + 1, none⟩ = some (.int .i64 s.flags) ∧ W.cell? ⟨b2, o2 + k * 3 + 2, none⟩ = some (sv s.text)) w2 from ⟨⟨(bb.cell (p := ⟨b1, o1 + k * 3, none⟩) hlt1).trans e0, (bb.cell (p := ⟨b1, o1 + k * 3 + 1, none⟩) hlt1).trans e1, (bb.cell (p := ⟨b1, o1 + k * 3 + 2, none⟩) hlt1).trans e2⟩, (bb.cell (p := ⟨b2, o2 + k * 3, none⟩) hlt2).trans f0, (bb.cell (p := ⟨b2, o2 + k * 3 + 1, none⟩) hlt2).trans f1, (bb.cell (p := ⟨b2, o2 + k * 3 + 2, none⟩) hlt2).trans f2⟩)
      refine ⟨HE.out, ?_⟩
      iterate 1 (refine ord_flo ?_ (fun _ _ _ h => h) rfl ?_ HE.out ?_; rotate_left; focus (intro W hS; obtain ⟨⟨s0, s1, s2⟩, t0, t1, t2⟩ := hS; go_simp; rfl))
      refine ord_done ?_
      go_simp
      clear e0 f0 e1 f1 e2 f2 bb hbr hbr0 CE HE
      go_wp2
      go_roundw
      case rel => exact ⟨k + 1, by omega, by go_num, hb2'⟩
      case measure => simp [intOf]; omega
    · obtain rfl : k = l.length := by omega
      go_wp2
      go_ret
      exact ⟨rfl, hbr⟩

set_option maxRecDepth 20000 in
set_option maxHeartbeats 6400000 in
theorem toMsgS_g (v : Value) (l : List MsgD) (w : World) (hr : LfRd w (msgsLf l) v) (hs : szLf (msgsLf l) ≤ 10000000) :
    Calls Try.prog 57 #[v] w fun e w' => ∃ v' fp, e = .returned v' ∧ Tree w' w.heap.size (msgsLf l) v' fp ∧ Below w.heap.size w w' := by
  have hs2 : l.length + szLs (l.flatMap MsgD.lf) ≤ 10000000 := hs
  obtain ⟨p, c, rfl, hp⟩ := MsgD.at hr
  have HP := Lib.hid hp
  have HL := Lib.hid hs2
  have hll : l.length ≤ 10000000 := by omega
  clear hr hp hs hs2
  go_enter Try.func57, Try.ntmps57
  go_wp2_with (refine wpList_mkn Try.el_msg rfl _ _ rfl w.heap.size w (Below.refl _ _) (Nat.le_refl _) _ _ l.length rfl rfl (by omega) (by omega) ?_)
  intro w1 xs0 hown1 hb1 hlt1
  go_wp2
  go_loopw [4] (fun i wr => ∃ (k : Nat) (A R : List Value) (fq : List Nat), k ≤ l.length ∧ i = .int .i64 k ∧ A.length = k * 3 ∧ wr.ownsRow w.heap.size 67 3 (.slice (some ⟨w.heap.size, 0, none⟩) l.length l.length) l.length (A ++ R) ∧ LsIn wr ((l.take k).flatMap MsgD.lf) A fq ∧ fq.Nodup ∧ (∀ q ∈ fq, w.heap.size < q) ∧ Below w.heap.size w wr ∧ w.heap.size < wr.heap.size) (fun i _ => l.length - (intOf i).toNat)
  case atStart => exact ⟨0, [], xs0, [], by omega, rfl, by simp, hown1, ⟨rfl, rfl⟩, by simp, by simp, hb1, hlt1⟩
  case round =>
    obtain ⟨k, A, R, fq, hk, rfl, hA, hown, hin, hnd, hlow, hbr, hzr⟩ := hrel
    have hbr0 := hbr.size
    clear hown1 hb1 hlt1
    by_cases hlt : k < l.length
    · obtain ⟨b1, o1, rfl, hb1, hc1⟩ := HP.out.resolve_left (by intro h; subst h; simp at hlt)
      obtain ⟨s, hs⟩ : ∃ s, l[k]? = some s := ⟨_, List.getElem?_eq_getElem hlt⟩
      obtain ⟨x0, x1, x2⟩ := hc1 k s hs
      have e0 : wr.cell? ⟨b1, o1 + k * 3, none⟩ = some (.int .i64 s.uid) := (hbr.cell (p := ⟨b1, o1 + k * 3, none⟩) hb1).trans x0
      have e1 : wr.cell? ⟨b1, o1 + k * 3 + 1, none⟩ = some (.int .i64 s.flags) := (hbr.cell (p := ⟨b1, o1 + k * 3 + 1, none⟩) hb1).trans x1
      have e2 : wr.cell? ⟨b1, o1 + k * 3 + 2, none⟩ = some (sv s.text) := (hbr.cell (p := ⟨b1, o1 + k * 3 + 2, none⟩) hb1).trans x2
      have hsm := szLs_mem MsgD.lf (List.mem_of_getElem? hs)
      have CT := Lib.hid (toMsg_g s wr (by have := HL.out; omega))
      have HTK := Lib.hid (flat_take_succ MsgD.lf hs)
      clear hc1 hs HP hsm x0 x1 x2
      go_wp2_with fail
      refine (CT.out).mono ?_
      rintro e w2 ⟨rfl, b2⟩
      have hown2 := ownsRow_below hown b2
      have hin2 := LsIn.frame _ _ _ (fun q hq => b2.block q (LsIn.lt _ _ _ hin q hq)) hin
      have hqz : ∀ q ∈ fq, q < wr.heap.size := fun q hq => LsIn.lt _ _ _ hin q hq
      have hb2 := hbr.trans (b2.mono hbr0)
      have hz2 := b2.size
      obtain ⟨R1, R2, rfl, hR1⟩ := rest_split hown2.1 hA hlt
      obtain ⟨y0, y1, y2, rfl⟩ : ∃ y0 y1 y2, R1 = [y0, y1, y2] := by
        match R1, hR1 with
        | [a0, a1, a2], _ => exact ⟨a0, a1, a2, rfl⟩
      simp only [List.cons_append, List.nil_append] at hown2
      clear hown hin b2 CT hR1 e0 e1 e2
      have c0 : w2.cell? ⟨w.heap.size, k * 3, none⟩ = some y0 := own_cell (L := y0 :: y1 :: y2 :: R2) hown2 hA 0 _ rfl
      have q0 : w2.frozen? ⟨w.heap.size, k * 3, none⟩ = false := own_free hown2 _
      have p0 : (w2.setCell ⟨w.heap.size, k * 3, none⟩ (.int .i64 s.uid)).ownsRow w.heap.size 67 3 (.slice (some ⟨w.heap.size, 0, none⟩) l.length l.length) l.length (A ++ (.int .i64 s.uid) :: y1 :: y2 :: R2) := own_at (L := y0 :: y1 :: y2 :: R2) hown2 hA 0 (.int .i64 s.uid)
      have c1 : (w2.setCell ⟨w.heap.size, k * 3, none⟩ (.int .i64 s.uid)).cell? ⟨w.heap.size, k * 3 + 1, none⟩ = some y1 := own_cell (L := (.int .i64 s.uid) :: y1 :: y2 :: R2) p0 hA 1 _ rfl
      have q1 : (w2.setCell ⟨w.heap.size, k * 3, none⟩ (.int .i64 s.uid)).frozen? ⟨w.heap.size, k * 3 + 1, none⟩ = false := own_free p0 _
      have p1 : ((w2.setCell ⟨w.heap.size, k * 3, none⟩ (.int .i64 s.uid)).setCell ⟨w.heap.size, k * 3 + 1, none⟩ (.int .i64 s.flags)).ownsRow w.heap.size 67 3 (.slice (some ⟨w.heap.size, 0, none⟩) l.length l.length) l.length (A ++ (.int .i64 s.uid) :: (.int .i64 s.flags) :: y2 :: R2) := own_at (L := (.int .i64 s.uid) :: y1 :: y2 :: R2) p0 hA 1 (.int .i64 s.flags)
      have c2 : ((w2.setCell ⟨w.heap.size, k * 3, none⟩ (.int .i64 s.uid)).setCell ⟨w.heap.size, k * 3 + 1, none⟩ (.int .i64 s.flags)).cell? ⟨w.heap.size, k * 3 + 2, none⟩ = some y2 := own_cell (L := (.int .i64 s.uid) :: (.int .i64 s.flags) :: y2 :: R2) p1 hA 2 _ rfl
      have q2 : ((w2.setCell ⟨w.heap.size, k * 3, none⟩ (.int .i64 s.uid)).setCell ⟨w.heap.size, k * 3 + 1, none⟩ (.int .i64 s.flags)).frozen? ⟨w.heap.size, k * 3 + 2, none⟩ = false := own_free p1 _
      have p2 : (((w2.setCell ⟨w.heap.size, k * 3, none⟩ (.int .i64 s.uid)).setCell ⟨w.heap.size, k * 3 + 1, none⟩ (.int .i64 s.flags)).setCell ⟨w.heap.size, k * 3 + 2, none⟩ (sv s.text)).ownsRow w.heap.size 67 3 (.slice (some ⟨w.heap.size, 0, none⟩) l.length l.length) l.length (A ++ (.int .i64 s.uid) :: (.int .i64 s.flags) :: (sv s.text) :: R2) := own_at (L := (.int .i64 s.uid) :: (.int .i64 s.flags) :: y2 :: R2) p1 hA 2 (sv s.text)
      have gs : GrownIn w2 (((w2.setCell ⟨w.heap.size, k * 3, none⟩ (.int .i64 s.uid)).setCell ⟨w.heap.size, k * 3 + 1, none⟩ (.int .i64 s.flags)).setCell ⟨w.heap.size, k * 3 + 2, none⟩ (sv s.text)) [w.heap.size] := (((GrownIn.refl w2 [w.heap.size]).trans (GrownIn.set (by simp))).trans (GrownIn.set (by simp))).trans (GrownIn.set (by simp))
      have IA := Lib.hid (LsIn.apart hin2 gs (fun q hq hm => by have := hlow q hq; simp at hm; omega))
      have hb3 := GrownIn.below hb2 gs hb2.size (fun q hq => by simp at hq; omega)
      have hz3 : w.heap.size < (((w2.setCell ⟨w.heap.size, k * 3, none⟩ (.int .i64 s.uid)).setCell ⟨w.heap.size, k * 3 + 1, none⟩ (.int .i64 s.flags)).setCell ⟨w.heap.size, k * 3 + 2, none⟩ (sv s.text)).heap.size := Nat.lt_of_lt_of_le (Nat.lt_of_lt_of_le hzr hz2) gs.size
      have PP := Lib.hid p2
      clear hown2 hin2 hb2 gs p0 p1 p2 
      go_wp2
      go_roundw
      case rel =>
        refine ⟨k + 1, A ++ [(.int .i64 s.uid), (.int .i64 s.flags), (sv s.text)], R2, fq ++ ([]), by omega, by go_num, by simp; omega, by simpa using PP.out, ?_, ?_, ?_, hb3, hz3⟩
        · rw [HTK.out]
          exact LsIn.append.2 ⟨A, _, fq, _, rfl, IA.out, MsgD.in_mk, rfl⟩
        · simpa using hnd
        · simpa using hlow
      case measure => simp [intOf]; omega
    · obtain rfl : k = l.length := by omega
      have hR0 : R = [] := by
        have := hown.1
        rw [List.length_append, hA] at this
        exact List.eq_nil_of_length_eq_zero (by omega)
      subst hR0
      rw [List.append_nil] at hown
      rw [List.take_length] at hin
      have hT : Tree wr w.heap.size (msgsLf l) (.slice (some ⟨w.heap.size, 0, none⟩) l.length l.length) (w.heap.size :: fq) := by
        refine ⟨⟨flat_lenM MsgD.len l, A, fq, own_base hown, hin, rfl⟩, List.nodup_cons.2 ⟨fun hm => by have := hlow _ hm; omega, hnd⟩, fun q hq => ?_⟩
        rcases List.mem_cons.1 hq with rfl | hq
        · exact Nat.le_refl _
        · exact Nat.le_of_lt (hlow q hq)
      have HT := Lib.hid hT
      clear hT hown hin hA
      go_wp2
      go_ret
      exact ⟨_, _, rfl, HT.out, hbr⟩

set_option maxRecDepth 20000 in
set_option maxHeartbeats 6400000 in
theorem markMsgS_g (v : Value) (l : List MsgD) (kk : Int) (k : Nat) (hkk : kk = (k : Int)) (fp : List Nat) (w : World) (hi : LfIn w (msgsLf l) v fp) (hnd : fp.Nodup) (hk : k + cntLf (msgsLf l) ≤ 1000000000000) (hs : szLf (msgsLf l) ≤ 1000000000000) :
    Calls Try.prog 59 #[v, .int .i64 kk] w fun e w' => e = .returned (.int .i64 ((k + cntLf (msgsLf l) : Nat) : Int)) ∧ LfIn w' (markLf (msgsLf l) k).1 v fp ∧ GrownIn w w' fp := by
  subst hkk
  have hs2 : l.length + szLs (l.flatMap MsgD.lf) ≤ 1000000000000 := hs
  have hll : l.length ≤ 1000000000000 := by omega
  have HSZ := Lib.hid hs2
  have HCN := Lib.hid (show k + cntLs (l.flatMap MsgD.lf) ≤ 1000000000000 from hk)
  clear hk hs hs2
  obtain ⟨hfl, xs, fq, hown0, hin0, rfl⟩ := hi
  have hex : ∃ p c, v = .slice p l.length c ∧ (0 < l.length → ∃ g, p = some ⟨g, 0, none⟩) := by
    rcases h : hown0.2 with ⟨hv, h0⟩ | ⟨g, cap, cur, hv, _⟩
    · exact ⟨none, 0, by rw [hv, h0], fun h => by omega⟩
    · exact ⟨_, cap, hv, fun _ => ⟨g, rfl⟩⟩
  obtain ⟨p, c, rfl, hp⟩ := hex
  have HP := Lib.hid hp
  have HND := Lib.hid hnd
  clear hp hnd hfl
  generalize hFP : (Value.slice p l.length c).ownBlock.toList ++ fq = fp at *
  have HFP := Lib.hid hFP
  clear hFP
  go_enter Try.func59, Try.ntmps59
  go_wp2
  go_loopw [1, 5] (fun kk i wr => ∃ (j q : Nat) (A R : List Value) (fA fR : List Nat), j ≤ l.length ∧ i = .int .i64 j ∧ kk = .int .i64 (q : Int) ∧ q = k + cntLs ((l.take j).flatMap MsgD.lf) ∧ A.length = j * 3 ∧ wr.ownsRow 0 67 3 (.slice p l.length c) l.length (A ++ R) ∧ LsIn wr (markLs ((l.take j).flatMap MsgD.lf) k).1 A fA ∧ LsIn wr ((l.drop j).flatMap MsgD.lf) R fR ∧ fA ++ fR = fq ∧ GrownIn w wr fp) (fun _ i _ => l.length - (intOf i).toNat)
  case atStart => exact ⟨0, k, [], xs, [], fq, by omega, rfl, rfl, by simp [cntLs], by simp, hown0, ⟨rfl, rfl⟩, hin0, rfl, GrownIn.refl _ _⟩
  case round =>
    obtain ⟨j, q, A, R, fA, fR, hj, rfl, rfl, hq, hA, hown, hiA, hiR, hff, hgr⟩ := hrel
    clear hown0 hin0
    by_cases hlt : j < l.length
    · obtain ⟨g, rfl⟩ := HP.out (by omega)
      obtain ⟨s, hs⟩ : ∃ s, l[j]? = some s := ⟨_, List.getElem?_eq_getElem hlt⟩
      have hdr : l.drop j = s :: l.drop (j + 1) := by
        obtain ⟨h1, h2⟩ := List.getElem?_eq_some_iff.1 hs
        rw [List.drop_eq_getElem_cons h1, h2]
      rw [hdr, List.flatMap_cons] at hiR
      obtain ⟨u1, R2, f_, f2, rfl, hi1, hiR2, rfl⟩ := LsIn.append.1 hiR
      obtain ⟨rfl, rfl⟩ := MsgD.in_of hi1
      simp only [List.cons_append, List.nil_append] at hown
      have HMK := Lib.hid (show (markLs ((l.take (j + 1)).flatMap MsgD.lf) k).1 = (markLs ((l.take j).flatMap MsgD.lf) k).1 ++ (markLs s.lf q).1 by rw [flat_take_succ MsgD.lf hs, markLs_app, hq])
      have HEN := Lib.hid (show k + cntLs ((l.take (j + 1)).flatMap MsgD.lf) = q + cntLs s.lf by rw [flat_take_succ MsgD.lf hs, cntLs_append, hq]; omega)
      have hcb : q + cntLs s.lf ≤ 1000000000000 := by have h1 := cntLs_flat_take MsgD.lf l (j + 1); have h2 := HEN.out; have h3 := HCN.out; omega
      rw [MsgD.cnt] at hcb
      have hsb : szLs s.lf ≤ 1000000000000 := by have h1 := szLs_mem MsgD.lf (List.mem_of_getElem? hs); have h2 := HSZ.out; omega
      rw [MsgD.sz] at hsb
      have hnd2 : (g :: (fA ++ ([] ++ f2))).Nodup := by have h1 := HND.out; have h2 := HFP.out; rw [← hff] at h2; rw [← h2] at h1; exact h1
      obtain ⟨hg0, hn0⟩ := List.nodup_cons.1 hnd2
      obtain ⟨dA, _, hn1⟩ := nd_parts hn0
      obtain ⟨dF, hnr, _⟩ := nd_parts hn1
      have gA : g ∉ fA := fun hm => hg0 (by simp [hm])
      have gF : g ∉ f2 := fun hm => hg0 (by simp [hm])
      have hgf : g ∈ fp := by rw [← HFP.out]; simp [Value.ownBlock]
      have HQ := Lib.hid hq
      have HFF := Lib.hid hff
      have HCB := Lib.hid hcb
      have HSB := Lib.hid hsb
      have hqb : q ≤ 1000000000000 := by omega
      clear hq hff hcb hsb hs hdr hi1 hiR hnd2 hn0 hn1 hnr HP
      have c0 := own_cell (L := (.int .i64 s.uid) :: (.int .i64 s.flags) :: (sv s.text) :: R2) hown hA 0 _ rfl
      have z0 : wr.frozen? ⟨g, j * 3, none⟩ = false := own_free hown _
      rw [Nat.add_zero] at c0
      have p0 : (wr.setCell ⟨g, j * 3, none⟩ (.int .i64 (q : Int))).ownsRow 0 67 3 (.slice (some ⟨g, 0, none⟩) l.length c) l.length (A ++ (.int .i64 (q : Int)) :: (.int .i64 s.flags) :: (sv s.text) :: R2) := own_at (L := (.int .i64 s.uid) :: (.int .i64 s.flags) :: (sv s.text) :: R2) hown hA 0 (.int .i64 (q : Int))
      have c1 := own_cell (L := (.int .i64 (q : Int)) :: (.int .i64 s.flags) :: (sv s.text) :: R2) p0 hA 1 _ rfl
      have z1 : (wr.setCell ⟨g, j * 3, none⟩ (.int .i64 (q : Int))).frozen? ⟨g, j * 3 + 1, none⟩ = false := own_free p0 _
      have p1 : ((wr.setCell ⟨g, j * 3, none⟩ (.int .i64 (q : Int))).setCell ⟨g, j * 3 + 1, none⟩ (.int .i64 ((q : Int) + 1))).ownsRow 0 67 3 (.slice (some ⟨g, 0, none⟩) l.length c) l.length (A ++ (.int .i64 (q : Int)) :: (.int .i64 ((q : Int) + 1)) :: (sv s.text) :: R2) := own_at (L := (.int .i64 (q : Int)) :: (.int .i64 s.flags) :: (sv s.text) :: R2) p0 hA 1 (.int .i64 ((q : Int) + 1))
      have gs : GrownIn wr ((wr.setCell ⟨g, j * 3, none⟩ (.int .i64 (q : Int))).setCell ⟨g, j * 3 + 1, none⟩ (.int .i64 ((q : Int) + 1))) [g] := ((GrownIn.refl wr [g]).trans (GrownIn.set (by simp))).trans (GrownIn.set (by simp))
      replace hiA := LsIn.apart hiA gs (fun q hq hm => by simp at hm; exact gA (hm ▸ hq))
      replace hiR2 := LsIn.apart hiR2 gs (fun q hq hm => by simp at hm; exact gF (hm ▸ hq))
      replace hgr := hgr.trans (gs.mono (fun q hq => by simp at hq; exact hq ▸ hgf))
      clear gs
      have PP := Lib.hid p1
      have IA := Lib.hid hiA
      have IR := Lib.hid hiR2
      have GR := Lib.hid hgr
      clear hiA hiR2 hgr hown p0 p1 
      go_wp2_with fail
      refine (markText_k _ (q + 2) (by omega) _ (by omega)).mono ?_
      rintro e w1 ⟨rfl, b1⟩
      have hiA := IA.out
      have hiR2 := IR.out
      have hgr := GR.out
      have hown := PP.out
      clear IA IR GR PP c0 z0 c1 z1
      have gb : GrownIn ((wr.setCell ⟨g, j * 3, none⟩ (.int .i64 (q : Int))).setCell ⟨g, j * 3 + 1, none⟩ (.int .i64 ((q : Int) + 1))) w1 [] := GrownIn.of_below b1
      replace hown := ownsRow_below hown b1
      replace hiA := LsIn.apart hiA gb (fun _ _ h => by cases h)
      replace hiR2 := LsIn.apart hiR2 gb (fun _ _ h => by cases h)
      replace hgr := hgr.trans (gb.mono (fun _ h => by cases h))
      clear b1 gb
      have c2 := own_cell (L := (.int .i64 (q : Int)) :: (.int .i64 ((q : Int) + 1)) :: (sv s.text) :: R2) hown hA 2 _ rfl
      have z2 : w1.frozen? ⟨g, j * 3 + 2, none⟩ = false := own_free hown _
      have p2 : (w1.setCell ⟨g, j * 3 + 2, none⟩ (sv (markB (q + 2)))).ownsRow 0 67 3 (.slice (some ⟨g, 0, none⟩) l.length c) l.length (A ++ (.int .i64 (q : Int)) :: (.int .i64 ((q : Int) + 1)) :: (sv (markB (q + 2))) :: R2) := own_at (L := (.int .i64 (q : Int)) :: (.int .i64 ((q : Int) + 1)) :: (sv s.text) :: R2) hown hA 2 (sv (markB (q + 2)))
      have gs : GrownIn w1 (w1.setCell ⟨g, j * 3 + 2, none⟩ (sv (markB (q + 2)))) [g] := (GrownIn.refl w1 [g]).trans (GrownIn.set (by simp))
      replace hiA := LsIn.apart hiA gs (fun q hq hm => by simp at hm; exact gA (hm ▸ hq))
      replace hiR2 := LsIn.apart hiR2 gs (fun q hq hm => by simp at hm; exact gF (hm ▸ hq))
      replace hgr := hgr.trans (gs.mono (fun q hq => by simp at hq; exact hq ▸ hgf))
      clear gs
      have PP := Lib.hid p2
      have IA := Lib.hid hiA
      have IR := Lib.hid hiR2
      have GR := Lib.hid hgr
      clear hiA hiR2 hgr hown p2 
      go_wp2
      go_roundw
      case rel =>
        refine ⟨j + 1, q + cntLs s.lf, A ++ [(.int .i64 (q : Int)), (.int .i64 ((q : Int) + 1)), (sv (markB (q + 2)))], R2, fA ++ ([]), f2, by omega, by go_num, ?_, HEN.out.symm, by simp; omega, by simpa using PP.out, ?_, IR.out, by rw [List.append_assoc]; exact HFF.out, GR.out⟩
        · rw [MsgD.cnt]
          congr 1 <;> omega
        · rw [HMK.out, MsgD.mark]
          exact LsIn.append.2 ⟨A, _, fA, _, rfl, IA.out, MsgD.in_mk, rfl⟩
      case measure => simp [intOf]; omega
    · obtain rfl : j = l.length := by omega
      have hR0 : R = [] ∧ fR = [] := by rw [List.drop_length] at hiR; exact hiR
      obtain ⟨rfl, rfl⟩ := hR0
      rw [List.append_nil] at hown hff
      rw [List.take_length] at hiA hq
      subst hff
      have HT := Lib.hid (show LfIn wr (markLf (msgsLf l) k).1 (.slice p l.length c) fp from ⟨by rw [markLs_length]; exact flat_lenM MsgD.len l, A, fA, own_base hown, hiA, HFP.out.symm⟩)
      have HV := Lib.hid (show q = k + cntLf (msgsLf l) from hq)
      clear hiA hiR hown hA hq
      go_wp2
      go_ret
      exact ⟨by rw [HV.out]; rfl, HT.out, hgr⟩

end Go.Proofs.Ytboinphhpfggnaa
