/-
  Ue: CmdA TySpan TyScope TyFilter TyCommand CmdB CmdC CmdE (what the claim needs of them).
-/
import Derived.Test.YtidjebepgpbcnaaGreatDoorRows
import Derived.WalkKit
import Derived.WalkSpells
import Derived.WalkLawsBesides
import Derived.Laws.IdiomStrings
import Derived.Lib.Hide
import Derived.Deep.AppendLies
import Derived.OrdersHeld
import Derived.Lib.ItoaNum
import Derived.Lib.ItoaMem
import Derived.Lib.AppendStr
import Derived.Lib.ItoaLen
import Derived.Lib.Strings
import Derived.Lib.Bytealg
import Derived.Lib.OthersKept
import Derived.Laws.RangeAny
import Derived.Laws.BitsAllLaws
import Derived.Laws.BitsLemmas
import Derived.IntWalk
import Derived.Test.YtidjebepgpbcnaaGreatDoorProg
import Derived.Handy
import Derived.Lib.Join
import Derived.Deep.Strs
import Derived.Test.YtidjebepgpbcnaaGreatDoorUb
import Derived.Test.YtidjebepgpbcnaaGreatDoorUc
import Derived.Test.YtidjebepgpbcnaaGreatDoorUd

namespace Go.Proofs.YtidjebepgpbcnaaGreatDoor
open Go.RowKit

def inR (b : UInt8) (lo hi : Int) : Bool := decide (lo ≤ (b.toNat : Int)) && decide ((b.toNat : Int) ≤ hi)
def tagc (b : UInt8) : Bool := inR b 97 122 || inR b 65 90 || inR b 48 57
def tagB (l : List UInt8) : Bool := l.all tagc && (decide ((1 : Int) ≤ (l.length : Int)) && decide ((l.length : Int) ≤ 8))
def kdWords : List (List UInt8) := [[], [108, 111, 103, 105, 110], [115, 101, 108, 101, 99, 116], [99, 108, 111, 115, 101], [110, 111, 111, 112], [105, 100, 108, 101], [110, 111, 116, 105, 102, 121], [102, 101, 116, 99, 104], [115, 116, 111, 114, 101], [101, 120, 112, 117, 110, 103, 101], [99, 111, 112, 121], [97, 112, 112, 101, 110, 100], [99, 114, 101, 97, 116, 101], [100, 101, 108, 101, 116, 101], [114, 101, 110, 97, 109, 101], [108, 111, 103, 111, 117, 116]]
def kdW (k : Int) : List UInt8 := if 1 ≤ k ∧ k ≤ 15 then kdWords.getD k.toNat [] else []
theorem kdW_no {k : Int} (h : ¬ (1 ≤ k ∧ k ≤ 15)) : kdW k = [] := by unfold kdW; rw [if_neg h]
theorem tag_bad (s : ByteArray) (k : Nat) (h : k < s.size) (hb : tagc s[k] = false) : tagB s.data.toList = false := by
  have hm : s[k] ∈ s.data.toList := List.mem_of_mem_take (i := k + 1) (by rw [take_str s k h]; simp)
  have : s.data.toList.all tagc = false := by
    rw [List.all_eq_false]
    exact ⟨_, hm, by rw [hb]; simp⟩
  unfold tagB
  rw [this]
  rfl

def ImplTagOk (G : World → Prop) : Prop := ∀ (s : ByteArray) (W : World), G W → s.size ≤ 1048576 →
  Calls Tryz.prog 61 #[.string s] W fun e w' => e = .returned (.bool (tagB s.data.toList)) ∧ Below W.heap.size W w'

def ImplKindWord (G : World → Prop) : Prop := ∀ (k : Int) (W : World), G W → in64 k →
  Calls Tryz.prog 63 #[.int .i64 k] W fun e w' => e = .returned (sv (kdW k)) ∧ Below W.heap.size W w'

end Go.Proofs.YtidjebepgpbcnaaGreatDoor

namespace Go.Proofs.YtidjebepgpbcnaaGreatDoor
open Go.RowKit

def Spn.lf (x : Spn) : List Lf := [.int x.low, .int x.high]
theorem Spn.len (x : Spn) : x.lf.length = 2 := rfl
def spnsLf (l : List Spn) : Lf := .rows 73 2 l.length (l.flatMap Spn.lf)
theorem Spn.fit (x : Spn) : LsFit x.lf := ⟨trivial, trivial, trivial⟩
theorem spnsLf_fit (l : List Spn) : LfFit (spnsLf l) := ⟨by omega, flat_lenM Spn.len l, LsFit.flat Spn.fit l⟩
theorem Spn.sz (x : Spn) : szLs x.lf = 0 := by simp only [Spn.lf, szLs, szLf_int] <;> omega
theorem Spn.cnt (x : Spn) : cntLs x.lf = 1 + 1 := by simp only [Spn.lf, cntLs, cntLf_int] <;> omega
theorem Spn.rd {W : World} {x : Spn} {vs : List Value} : LsRd W x.lf vs ↔ vs = [.int .i64 x.low, .int .i64 x.high] := by
  constructor
  · rintro ⟨a0, s0, rfl, h0, a1, s1, rfl, h1, rfl⟩
    exact by rw [h0, h1]
  · rintro rfl
    exact ⟨_, _, rfl, rfl, _, _, rfl, rfl, rfl⟩
theorem Spn.mark (x : Spn) (k : Nat) : (markLs x.lf k).1 = [.int ((k : Nat) : Int), .int ((k + 1 : Nat) : Int)] := by simp only [Spn.lf, markLs, markLf_int]
theorem Spn.rdm {W : World} {x : Spn} {k : Nat} {vs : List Value} : LsRd W (markLs x.lf k).1 vs ↔ vs = [.int .i64 ((k : Nat) : Int), .int .i64 ((k + 1 : Nat) : Int)] := by
  rw [Spn.mark]
  constructor
  · rintro ⟨a0, s0, rfl, h0, a1, s1, rfl, h1, rfl⟩
    exact by rw [h0, h1]
  · rintro rfl
    exact ⟨_, _, rfl, rfl, _, _, rfl, rfl, rfl⟩
theorem Spn.in_of {W : World} {z0 : Int} {z1 : Int} {vs : List Value} {fp : List Nat} (h : LsIn W [.int z0, .int z1] vs fp) : vs = [.int .i64 z0, .int .i64 z1] ∧ fp = [] := by
  obtain ⟨a0, s0, f0, g0, rfl, h0, ⟨a1, s1, f1, g1, rfl, h1, ⟨rfl, rfl⟩, rfl⟩, rfl⟩ := h
  exact ⟨by rw [h0.1, h1.1], by rw [h0.2, h1.2]; simp⟩
theorem Spn.in_mk {W : World} {z0 : Int} {z1 : Int}  : LsIn W [.int z0, .int z1] [.int .i64 z0, .int .i64 z1] ([]) := by
  have h : LsIn W [.int z0, .int z1] [.int .i64 z0, .int .i64 z1] ([] ++ ([] ++ ([]))) := ⟨_, _, [], _, rfl, ⟨rfl, rfl⟩, ⟨_, _, [], _, rfl, ⟨rfl, rfl⟩, ⟨rfl, rfl⟩, rfl⟩, rfl⟩
  simpa using h

theorem Tryz.el_span : Elem Tryz.prog 31 73 2 16 := Elem.mk' (z := .agg #[.int .i64 0, .int .i64 0]) Tryz.underlying31 (by kernel_rfl) rfl (by omega)

theorem Spn.at {W : World} {l : List Spn} {v : Value} (h : LfRd W (spnsLf l) v) : ∃ p cap, v = .slice p l.length cap ∧ (l = [] ∨ ∃ b off, p = some ⟨b, off, none⟩ ∧ b < W.heap.size ∧ ∀ i x, l[i]? = some x → W.cell? ⟨b, off + i * 2, none⟩ = some (.int .i64 x.low) ∧ W.cell? ⟨b, off + i * 2 + 1, none⟩ = some (.int .i64 x.high)) := by
  obtain ⟨p, cap, hv, hc⟩ := rows_at Spn.len h
  refine ⟨p, cap, hv, hc.imp id fun ⟨b, off, hp, hlt, hc⟩ => ⟨b, off, hp, hlt, fun i x hi => ?_⟩⟩
  obtain ⟨us, h1, h2⟩ := hc i x hi
  obtain rfl := Spn.rd.1 h1
  exact ⟨h2 0 _ rfl, h2 1 _ rfl⟩
theorem Spn.atm {W : World} {l : List Spn} {v : Value} {k0 : Nat} (h : LfRd W (markLf (spnsLf l) k0).1 v) : ∃ p cap, v = .slice p l.length cap ∧ (l = [] ∨ ∃ b off, p = some ⟨b, off, none⟩ ∧ b < W.heap.size ∧ ∀ i x k, l[i]? = some x → k = k0 + cntLs ((l.take i).flatMap Spn.lf) → W.cell? ⟨b, off + i * 2, none⟩ = some (.int .i64 ((k : Nat) : Int)) ∧ W.cell? ⟨b, off + i * 2 + 1, none⟩ = some (.int .i64 ((k + 1 : Nat) : Int))) := by
  obtain ⟨p, cap, hv, hc⟩ := rows_at_mark Spn.len h
  refine ⟨p, cap, hv, hc.imp id fun ⟨b, off, hp, hlt, hc⟩ => ⟨b, off, hp, hlt, fun i x k hi hk => ?_⟩⟩
  obtain ⟨us, h1, h2⟩ := hc i x hi
  rw [← hk] at h1
  obtain rfl := Spn.rdm.1 h1
  exact ⟨h2 0 _ rfl, h2 1 _ rfl⟩

set_option maxHeartbeats 1600000 in
theorem eqSpan_g (x : Spn) (w : World) (_hs : szLs x.lf ≤ 1000000000000) :
    Calls Tryz.prog 71 #[.agg #[.int .i64 x.low, .int .i64 x.high], .agg #[.int .i64 x.low, .int .i64 x.high]] w fun e w' => e = .returned (.bool true) ∧ Below w.heap.size w w' := by
  go_enter Tryz.func71, Tryz.ntmps71
  go_wp2
  go_ret
  exact ⟨rfl, ((Below.refl _ _).alloc (Nat.le_refl _) _).alloc (by simp) _⟩

set_option maxRecDepth 20000 in
set_option maxHeartbeats 6400000 in
theorem toSpan_g (x : Spn) (w : World) (_hs : szLs x.lf ≤ 10000000) :
    Calls Tryz.prog 58 #[.agg #[.int .i64 x.low, .int .i64 x.high]] w fun e w' => e = .returned (.agg #[.int .i64 x.low, .int .i64 x.high]) ∧ Below w.heap.size w w' := by
  go_enter Tryz.func58, Tryz.ntmps58
  go_wp2
  go_returns
  exact ⟨rfl, (((Below.refl _ _).alloc (Nat.le_refl _) _).alloc (by simp) _).alloc (by simp; omega) _⟩

theorem szSpanS_g (v : Value) (l : List Spn) (ll : Int) (left : Nat) (hll : ll = (left : Int)) (w : World) (hr : LfRd w (spnsLf l) v) (hin : LfBnd (spnsLf l)) (hL : left ≤ 1000000000000) :
    Calls Tryz.prog 16 #[v, .int .i64 ll] w fun e w' => e = .returned (.int .i64 (szN left (szLf (spnsLf l)))) ∧ Below w.heap.size w w' := by
  subst hll
  have hsz : szLf (spnsLf l) = l.length := by
    have h : ∀ l : List Spn, szLs (l.flatMap Spn.lf) = 0 := by
      intro l
      induction l with
      | nil => rfl
      | cons a l ih => rw [List.flatMap_cons, szLs_append, ih, Spn.sz]
    show l.length + szLs (l.flatMap Spn.lf) = l.length
    rw [h l, Nat.add_zero]
  obtain ⟨p, c, rfl, _⟩ := Spn.at hr
  have hl : l.length ≤ 9223372036854775807 := hin.1
  clear hr hin
  by_cases hbig : l.length ≤ left
  · have h1 : ¬ (left : Int) - (l.length : Int) < 0 := by omega
    have HV := Lib.hid (show szN left (szLf (spnsLf l)) = (left : Int) - (l.length : Int) by rw [hsz, szN_yes hbig]; omega)
    clear hsz
    go_enter Tryz.func16, Tryz.ntmps16
    go_wp2
    go_ret
    exact ⟨by rw [HV.out]; rfl, Below.refl _ _⟩
  · have h1 : (left : Int) - (l.length : Int) < 0 := by omega
    have HV := Lib.hid (show szN left (szLf (spnsLf l)) = -1 by rw [hsz]; exact szN_no hbig)
    clear hsz
    go_enter Tryz.func16, Tryz.ntmps16
    go_wp2
    go_ret
    exact ⟨by rw [HV.out]; rfl, Below.refl _ _⟩

set_option maxHeartbeats 3200000 in
theorem eqSpanS_g (a b : Value) (l : List Spn) (w : World) (ha : LfRd w (spnsLf l) a) (hb : LfRd w (spnsLf l) b) (hs : szLf (spnsLf l) ≤ 1000000000000) :
    Calls Tryz.prog 35 #[a, b] w fun e w' => e = .returned (.bool true) ∧ Below w.heap.size w w' := by
  have hs2 : l.length + szLs (l.flatMap Spn.lf) ≤ 1000000000000 := hs
  clear hs
  obtain ⟨p, c1, rfl, hp⟩ := Spn.at ha
  obtain ⟨q, c2, rfl, hq⟩ := Spn.at hb
  clear ha hb
  have HP := Lib.hid hp
  have HQ := Lib.hid hq
  clear hp hq
  have HL := Lib.hid hs2
  have hll : l.length ≤ 1000000000000 := by omega
  clear hs2
  go_enter Tryz.func35, Tryz.ntmps35
  go_wp2
  go_loopw [5] (fun i wr => ∃ k : Nat, k ≤ l.length ∧ i = .int .i64 k ∧ Below w.heap.size w wr) (fun i _ => l.length - (intOf i).toNat)
  case atStart => exact ⟨0, by omega, rfl, Below.refl _ _⟩
  case round =>
    obtain ⟨k, hk, rfl, hbr⟩ := hrel
    have hbr0 := hbr.size
    by_cases hlt : k < l.length
    · obtain ⟨b1, o1, rfl, hb1, hc1⟩ := HP.out.resolve_left (by intro h; subst h; simp at hlt)
      obtain ⟨b2, o2, rfl, hb2, hc2⟩ := HQ.out.resolve_left (by intro h; subst h; simp at hlt)
      obtain ⟨s, hs⟩ : ∃ s, l[k]? = some s := ⟨_, List.getElem?_eq_getElem hlt⟩
      obtain ⟨x0, x1⟩ := hc1 k s hs
      obtain ⟨y0, y1⟩ := hc2 k s hs
      have e0 : wr.drew.cell? ⟨b1, o1 + k * 2, none⟩ = some (.int .i64 s.low) := (hbr.cell (p := ⟨b1, o1 + k * 2, none⟩) hb1).trans x0
      have f0 : wr.drew.cell? ⟨b2, o2 + k * 2, none⟩ = some (.int .i64 s.low) := (hbr.cell (p := ⟨b2, o2 + k * 2, none⟩) hb2).trans y0
      have e1 : wr.drew.cell? ⟨b1, o1 + k * 2 + 1, none⟩ = some (.int .i64 s.high) := (hbr.cell (p := ⟨b1, o1 + k * 2 + 1, none⟩) hb1).trans x1
      have f1 : wr.drew.cell? ⟨b2, o2 + k * 2 + 1, none⟩ = some (.int .i64 s.high) := (hbr.cell (p := ⟨b2, o2 + k * 2 + 1, none⟩) hb2).trans y1
      have hsm := szLs_mem Spn.lf (List.mem_of_getElem? hs)
      have CE := Lib.hid (eqSpan_g s wr.drew (by have := HL.out; omega))
      clear hc1 hc2 hs HP HQ hsm x0 y0 x1 y1
      go_wp2
      refine ord_start [(0, true), (1, true), (2, true), (3, true), (4, true), (5, true), (6, true), (7, true), (8, false), (9, true)] (fun W => (W.cell? ⟨b1, o1 + k * 2, none⟩ = some (.int .i64 s.low) ∧ W.cell? ⟨b1, o1 + k * 2 + 1, none⟩ = some (.int .i64 s.high)) ∧ W.cell? ⟨b2, o2 + k * 2, none⟩ = some (.int .i64 s.low) ∧ W.cell? ⟨b2, o2 + k * 2 + 1, none⟩ = some (.int .i64 s.high)) (by kernel_rfl) (by kernel_rfl) rfl (by kernel_rfl) ?_
      intro ops' hops
      clear hops
      simp only [List.map_cons, List.map_nil, pickOp_zero, pickOp_succ]
      iterate 8 (refine ord_flo ?_ (fun _ _ _ h => h) rfl ?_ ⟨⟨e0, e1⟩, f0, f1⟩ ?_; rotate_left; focus (intro W hS; obtain ⟨⟨s0, s1⟩, t0, t1⟩ := hS; go_simp; rfl))
      refine ord_ev rfl ?_
      go_simp
      refine (CE.out).mono ?_
      rintro e w2 ⟨rfl, bb⟩
      have hb2' := hbr.drew.trans (bb.mono (by show w.heap.size ≤ wr.heap.size; omega))
      have hlt1 : b1 < wr.drew.heap.size := Nat.lt_of_lt_of_le hb1 hbr0
      have hlt2 : b2 < wr.drew.heap.size := Nat.lt_of_lt_of_le hb2 hbr0
      have HE := Lib.hid (show (fun W : World => (W.cell? ⟨b1, o1 + k * 2, none⟩ = some (.int .i64 s.low) ∧ W.cell? ⟨b1, o1 + k * 2 + 1, none⟩ = some (.int .i64 s.high)) ∧ W.cell? ⟨b2, o2 + k * 2, none⟩ = some (.int .i64 s.low) ∧ W.cell? ⟨b2, o2 + k * 2 + 1, none⟩ = some (.int .i64 s.high)) w2 from ⟨⟨(bb.cell (p := ⟨b1, o1 + k * 2, none⟩) hlt1).trans e0, (bb.cell (p := ⟨b1, o1 + k * 2 + 1, none⟩) hlt1).trans e1⟩, (bb.cell (p := ⟨b2, o2 + k * 2, none⟩) hlt2).trans f0, (bb.cell (p := ⟨b2, o2 + k * 2 + 1, none⟩) hlt2).trans f1⟩)
      refine ⟨HE.out, ?_⟩
      iterate 1 (refine ord_flo ?_ (fun _ _ _ h => h) rfl ?_ HE.out ?_; rotate_left; focus (intro W hS; obtain ⟨⟨s0, s1⟩, t0, t1⟩ := hS; go_simp; rfl))
      refine ord_done ?_
      go_simp
      clear e0 f0 e1 f1 bb hbr hbr0 CE HE
      go_wp2
      go_roundw
      case rel => exact ⟨k + 1, by omega, by go_num, hb2'⟩
      case measure => simp [intOf]; omega
    · obtain rfl : k = l.length := by omega
      go_wp2
      go_ret
      exact ⟨rfl, hbr⟩

set_option maxRecDepth 20000 in
set_option maxHeartbeats 6400000 in
theorem toSpanS_g (v : Value) (l : List Spn) (w : World) (hr : LfRd w (spnsLf l) v) (hs : szLf (spnsLf l) ≤ 10000000) :
    Calls Tryz.prog 28 #[v] w fun e w' => ∃ v' fp, e = .returned v' ∧ Tree w' w.heap.size (spnsLf l) v' fp ∧ Below w.heap.size w w' := by
  have hs2 : l.length + szLs (l.flatMap Spn.lf) ≤ 10000000 := hs
  obtain ⟨p, c, rfl, hp⟩ := Spn.at hr
  have HP := Lib.hid hp
  have HL := Lib.hid hs2
  have hll : l.length ≤ 10000000 := by omega
  clear hr hp hs hs2
  go_enter Tryz.func28, Tryz.ntmps28
  go_wp2_with (refine wpList_mkn Tryz.el_span rfl _ _ rfl w.heap.size w (Below.refl _ _) (Nat.le_refl _) _ _ l.length rfl rfl (by omega) (by omega) ?_)
  intro w1 xs0 hown1 hb1 hlt1
  go_wp2
  go_loopw [4] (fun i wr => ∃ (k : Nat) (A R : List Value) (fq : List Nat), k ≤ l.length ∧ i = .int .i64 k ∧ A.length = k * 2 ∧ wr.ownsRow w.heap.size 73 2 (.slice (some ⟨w.heap.size, 0, none⟩) l.length l.length) l.length (A ++ R) ∧ LsIn wr ((l.take k).flatMap Spn.lf) A fq ∧ fq.Nodup ∧ (∀ q ∈ fq, w.heap.size < q) ∧ Below w.heap.size w wr ∧ w.heap.size < wr.heap.size) (fun i _ => l.length - (intOf i).toNat)
  case atStart => exact ⟨0, [], xs0, [], by omega, rfl, by simp, hown1, ⟨rfl, rfl⟩, by simp, by simp, hb1, hlt1⟩
  case round =>
    obtain ⟨k, A, R, fq, hk, rfl, hA, hown, hin, hnd, hlow, hbr, hzr⟩ := hrel
    have hbr0 := hbr.size
    clear hown1 hb1 hlt1
    by_cases hlt : k < l.length
    · obtain ⟨b1, o1, rfl, hb1, hc1⟩ := HP.out.resolve_left (by intro h; subst h; simp at hlt)
      obtain ⟨s, hs⟩ : ∃ s, l[k]? = some s := ⟨_, List.getElem?_eq_getElem hlt⟩
      obtain ⟨x0, x1⟩ := hc1 k s hs
      have e0 : wr.cell? ⟨b1, o1 + k * 2, none⟩ = some (.int .i64 s.low) := (hbr.cell (p := ⟨b1, o1 + k * 2, none⟩) hb1).trans x0
      have e1 : wr.cell? ⟨b1, o1 + k * 2 + 1, none⟩ = some (.int .i64 s.high) := (hbr.cell (p := ⟨b1, o1 + k * 2 + 1, none⟩) hb1).trans x1
      have hsm := szLs_mem Spn.lf (List.mem_of_getElem? hs)
      have CT := Lib.hid (toSpan_g s wr (by have := HL.out; omega))
      have HTK := Lib.hid (flat_take_succ Spn.lf hs)
      clear hc1 hs HP hsm x0 x1
      go_wp2_with fail
      refine (CT.out).mono ?_
      rintro e w2 ⟨rfl, b2⟩
      have hown2 := ownsRow_below hown b2
      have hin2 := LsIn.frame _ _ _ (fun q hq => b2.block q (LsIn.lt _ _ _ hin q hq)) hin
      have hqz : ∀ q ∈ fq, q < wr.heap.size := fun q hq => LsIn.lt _ _ _ hin q hq
      have hb2 := hbr.trans (b2.mono hbr0)
      have hz2 := b2.size
      obtain ⟨R1, R2, rfl, hR1⟩ := rest_split hown2.1 hA hlt
      obtain ⟨y0, y1, rfl⟩ : ∃ y0 y1, R1 = [y0, y1] := by
        match R1, hR1 with
        | [a0, a1], _ => exact ⟨a0, a1, rfl⟩
      simp only [List.cons_append, List.nil_append] at hown2
      clear hown hin b2 CT hR1 e0 e1
      have c0 : w2.cell? ⟨w.heap.size, k * 2, none⟩ = some y0 := own_cell (L := y0 :: y1 :: R2) hown2 hA 0 _ rfl
      have q0 : w2.frozen? ⟨w.heap.size, k * 2, none⟩ = false := own_free hown2 _
      have p0 : (w2.setCell ⟨w.heap.size, k * 2, none⟩ (.int .i64 s.low)).ownsRow w.heap.size 73 2 (.slice (some ⟨w.heap.size, 0, none⟩) l.length l.length) l.length (A ++ (.int .i64 s.low) :: y1 :: R2) := own_at (L := y0 :: y1 :: R2) hown2 hA 0 (.int .i64 s.low)
      have c1 : (w2.setCell ⟨w.heap.size, k * 2, none⟩ (.int .i64 s.low)).cell? ⟨w.heap.size, k * 2 + 1, none⟩ = some y1 := own_cell (L := (.int .i64 s.low) :: y1 :: R2) p0 hA 1 _ rfl
      have q1 : (w2.setCell ⟨w.heap.size, k * 2, none⟩ (.int .i64 s.low)).frozen? ⟨w.heap.size, k * 2 + 1, none⟩ = false := own_free p0 _
      have p1 : ((w2.setCell ⟨w.heap.size, k * 2, none⟩ (.int .i64 s.low)).setCell ⟨w.heap.size, k * 2 + 1, none⟩ (.int .i64 s.high)).ownsRow w.heap.size 73 2 (.slice (some ⟨w.heap.size, 0, none⟩) l.length l.length) l.length (A ++ (.int .i64 s.low) :: (.int .i64 s.high) :: R2) := own_at (L := (.int .i64 s.low) :: y1 :: R2) p0 hA 1 (.int .i64 s.high)
      have gs : GrownIn w2 ((w2.setCell ⟨w.heap.size, k * 2, none⟩ (.int .i64 s.low)).setCell ⟨w.heap.size, k * 2 + 1, none⟩ (.int .i64 s.high)) [w.heap.size] := ((GrownIn.refl w2 [w.heap.size]).trans (GrownIn.set (by simp))).trans (GrownIn.set (by simp))
      have IA := Lib.hid (LsIn.apart hin2 gs (fun q hq hm => by have := hlow q hq; simp at hm; omega))
      have hb3 := GrownIn.below hb2 gs hb2.size (fun q hq => by simp at hq; omega)
      have hz3 : w.heap.size < ((w2.setCell ⟨w.heap.size, k * 2, none⟩ (.int .i64 s.low)).setCell ⟨w.heap.size, k * 2 + 1, none⟩ (.int .i64 s.high)).heap.size := Nat.lt_of_lt_of_le (Nat.lt_of_lt_of_le hzr hz2) gs.size
      have PP := Lib.hid p1
      clear hown2 hin2 hb2 gs p0 p1 
      go_wp2
      go_roundw
      case rel =>
        refine ⟨k + 1, A ++ [(.int .i64 s.low), (.int .i64 s.high)], R2, fq ++ ([]), by omega, by go_num, by simp; omega, by simpa using PP.out, ?_, ?_, ?_, hb3, hz3⟩
        · rw [HTK.out]
          exact LsIn.append.2 ⟨A, _, fq, _, rfl, IA.out, Spn.in_mk, rfl⟩
        · simpa using hnd
        · simpa using hlow
      case measure => simp [intOf]; omega
    · obtain rfl : k = l.length := by omega
      have hR0 : R = [] := by
        have := hown.1
        rw [List.length_append, hA] at this
        exact List.eq_nil_of_length_eq_zero (by omega)
      subst hR0
      rw [List.append_nil] at hown
      rw [List.take_length] at hin
      have hT : Tree wr w.heap.size (spnsLf l) (.slice (some ⟨w.heap.size, 0, none⟩) l.length l.length) (w.heap.size :: fq) := by
        refine ⟨⟨flat_lenM Spn.len l, A, fq, own_base hown, hin, rfl⟩, List.nodup_cons.2 ⟨fun hm => by have := hlow _ hm; omega, hnd⟩, fun q hq => ?_⟩
        rcases List.mem_cons.1 hq with rfl | hq
        · exact Nat.le_refl _
        · exact Nat.le_of_lt (hlow q hq)
      have HT := Lib.hid hT
      clear hT hown hin hA
      go_wp2
      go_ret
      exact ⟨_, _, rfl, HT.out, hbr⟩

set_option maxRecDepth 20000 in
set_option maxHeartbeats 6400000 in
theorem markSpanS_g (v : Value) (l : List Spn) (kk : Int) (k : Nat) (hkk : kk = (k : Int)) (fp : List Nat) (w : World) (hi : LfIn w (spnsLf l) v fp) (hnd : fp.Nodup) (hk : k + cntLf (spnsLf l) ≤ 1000000000000) (hs : szLf (spnsLf l) ≤ 1000000000000) :
    Calls Tryz.prog 37 #[v, .int .i64 kk] w fun e w' => e = .returned (.int .i64 ((k + cntLf (spnsLf l) : Nat) : Int)) ∧ LfIn w' (markLf (spnsLf l) k).1 v fp ∧ GrownIn w w' fp := by
  subst hkk
  have hs2 : l.length + szLs (l.flatMap Spn.lf) ≤ 1000000000000 := hs
  have hll : l.length ≤ 1000000000000 := by omega
  have HSZ := Lib.hid hs2
  have HCN := Lib.hid (show k + cntLs (l.flatMap Spn.lf) ≤ 1000000000000 from hk)
  clear hk hs hs2
  obtain ⟨hfl, xs, fq, hown0, hin0, rfl⟩ := hi
  have hex : ∃ p c, v = .slice p l.length c ∧ (0 < l.length → ∃ g, p = some ⟨g, 0, none⟩) := by
    rcases h : hown0.2 with ⟨hv, h0⟩ | ⟨g, cap, cur, hv, _⟩
    · exact ⟨none, 0, by rw [hv, h0], fun h => by omega⟩
    · exact ⟨_, cap, hv, fun _ => ⟨g, rfl⟩⟩
  obtain ⟨p, c, rfl, hp⟩ := hex
  have HP := Lib.hid hp
  have HND := Lib.hid hnd
  clear hp hnd hfl
  generalize hFP : (Value.slice p l.length c).ownBlock.toList ++ fq = fp at *
  have HFP := Lib.hid hFP
  clear hFP
  go_enter Tryz.func37, Tryz.ntmps37
  go_wp2
  go_loopw [1, 5] (fun kk i wr => ∃ (j q : Nat) (A R : List Value) (fA fR : List Nat), j ≤ l.length ∧ i = .int .i64 j ∧ kk = .int .i64 (q : Int) ∧ q = k + cntLs ((l.take j).flatMap Spn.lf) ∧ A.length = j * 2 ∧ wr.ownsRow 0 73 2 (.slice p l.length c) l.length (A ++ R) ∧ LsIn wr (markLs ((l.take j).flatMap Spn.lf) k).1 A fA ∧ LsIn wr ((l.drop j).flatMap Spn.lf) R fR ∧ fA ++ fR = fq ∧ GrownIn w wr fp) (fun _ i _ => l.length - (intOf i).toNat)
  case atStart => exact ⟨0, k, [], xs, [], fq, by omega, rfl, rfl, by simp [cntLs], by simp, hown0, ⟨rfl, rfl⟩, hin0, rfl, GrownIn.refl _ _⟩
  case round =>
    obtain ⟨j, q, A, R, fA, fR, hj, rfl, rfl, hq, hA, hown, hiA, hiR, hff, hgr⟩ := hrel
    clear hown0 hin0
    by_cases hlt : j < l.length
    · obtain ⟨g, rfl⟩ := HP.out (by omega)
      obtain ⟨s, hs⟩ : ∃ s, l[j]? = some s := ⟨_, List.getElem?_eq_getElem hlt⟩
      have hdr : l.drop j = s :: l.drop (j + 1) := by
        obtain ⟨h1, h2⟩ := List.getElem?_eq_some_iff.1 hs
        rw [List.drop_eq_getElem_cons h1, h2]
      rw [hdr, List.flatMap_cons] at hiR
      obtain ⟨u1, R2, f_, f2, rfl, hi1, hiR2, rfl⟩ := LsIn.append.1 hiR
      obtain ⟨rfl, rfl⟩ := Spn.in_of hi1
      simp only [List.cons_append, List.nil_append] at hown
      have HMK := Lib.hid (show (markLs ((l.take (j + 1)).flatMap Spn.lf) k).1 = (markLs ((l.take j).flatMap Spn.lf) k).1 ++ (markLs s.lf q).1 by rw [flat_take_succ Spn.lf hs, markLs_app, hq])
      have HEN := Lib.hid (show k + cntLs ((l.take (j + 1)).flatMap Spn.lf) = q + cntLs s.lf by rw [flat_take_succ Spn.lf hs, cntLs_append, hq]; omega)
      have hcb : q + cntLs s.lf ≤ 1000000000000 := by have h1 := cntLs_flat_take Spn.lf l (j + 1); have h2 := HEN.out; have h3 := HCN.out; omega
      rw [Spn.cnt] at hcb
      have hsb : szLs s.lf ≤ 1000000000000 := by have h1 := szLs_mem Spn.lf (List.mem_of_getElem? hs); have h2 := HSZ.out; omega
      rw [Spn.sz] at hsb
      have hnd2 : (g :: (fA ++ ([] ++ f2))).Nodup := by have h1 := HND.out; have h2 := HFP.out; rw [← hff] at h2; rw [← h2] at h1; exact h1
      obtain ⟨hg0, hn0⟩ := List.nodup_cons.1 hnd2
      obtain ⟨dA, _, hn1⟩ := nd_parts hn0
      obtain ⟨dF, hnr, _⟩ := nd_parts hn1
      have gA : g ∉ fA := fun hm => hg0 (by simp [hm])
      have gF : g ∉ f2 := fun hm => hg0 (by simp [hm])
      have hgf : g ∈ fp := by rw [← HFP.out]; simp [Value.ownBlock]
      have HQ := Lib.hid hq
      have HFF := Lib.hid hff
      have HCB := Lib.hid hcb
      have HSB := Lib.hid hsb
      have hqb : q ≤ 1000000000000 := by omega
      clear hq hff hcb hsb hs hdr hi1 hiR hnd2 hn0 hn1 hnr HP
      have c0 := own_cell (L := (.int .i64 s.low) :: (.int .i64 s.high) :: R2) hown hA 0 _ rfl
      have z0 : wr.frozen? ⟨g, j * 2, none⟩ = false := own_free hown _
      rw [Nat.add_zero] at c0
      have p0 : (wr.setCell ⟨g, j * 2, none⟩ (.int .i64 (q : Int))).ownsRow 0 73 2 (.slice (some ⟨g, 0, none⟩) l.length c) l.length (A ++ (.int .i64 (q : Int)) :: (.int .i64 s.high) :: R2) := own_at (L := (.int .i64 s.low) :: (.int .i64 s.high) :: R2) hown hA 0 (.int .i64 (q : Int))
      have c1 := own_cell (L := (.int .i64 (q : Int)) :: (.int .i64 s.high) :: R2) p0 hA 1 _ rfl
      have z1 : (wr.setCell ⟨g, j * 2, none⟩ (.int .i64 (q : Int))).frozen? ⟨g, j * 2 + 1, none⟩ = false := own_free p0 _
      have p1 : ((wr.setCell ⟨g, j * 2, none⟩ (.int .i64 (q : Int))).setCell ⟨g, j * 2 + 1, none⟩ (.int .i64 ((q : Int) + 1))).ownsRow 0 73 2 (.slice (some ⟨g, 0, none⟩) l.length c) l.length (A ++ (.int .i64 (q : Int)) :: (.int .i64 ((q : Int) + 1)) :: R2) := own_at (L := (.int .i64 (q : Int)) :: (.int .i64 s.high) :: R2) p0 hA 1 (.int .i64 ((q : Int) + 1))
      have gs : GrownIn wr ((wr.setCell ⟨g, j * 2, none⟩ (.int .i64 (q : Int))).setCell ⟨g, j * 2 + 1, none⟩ (.int .i64 ((q : Int) + 1))) [g] := ((GrownIn.refl wr [g]).trans (GrownIn.set (by simp))).trans (GrownIn.set (by simp))
      replace hiA := LsIn.apart hiA gs (fun q hq hm => by simp at hm; exact gA (hm ▸ hq))
      replace hiR2 := LsIn.apart hiR2 gs (fun q hq hm => by simp at hm; exact gF (hm ▸ hq))
      replace hgr := hgr.trans (gs.mono (fun q hq => by simp at hq; exact hq ▸ hgf))
      clear gs
      have PP := Lib.hid p1
      have IA := Lib.hid hiA
      have IR := Lib.hid hiR2
      have GR := Lib.hid hgr
      clear hiA hiR2 hgr hown p0 p1 
      go_wp2
      go_roundw
      case rel =>
        refine ⟨j + 1, q + cntLs s.lf, A ++ [(.int .i64 (q : Int)), (.int .i64 ((q : Int) + 1))], R2, fA ++ ([]), f2, by omega, by go_num, ?_, HEN.out.symm, by simp; omega, by simpa using PP.out, ?_, IR.out, by rw [List.append_assoc]; exact HFF.out, GR.out⟩
        · rw [Spn.cnt]
          congr 1 <;> omega
        · rw [HMK.out, Spn.mark]
          exact LsIn.append.2 ⟨A, _, fA, _, rfl, IA.out, Spn.in_mk, rfl⟩
      case measure => simp [intOf]; omega
    · obtain rfl : j = l.length := by omega
      have hR0 : R = [] ∧ fR = [] := by rw [List.drop_length] at hiR; exact hiR
      obtain ⟨rfl, rfl⟩ := hR0
      rw [List.append_nil] at hown hff
      rw [List.take_length] at hiA hq
      subst hff
      have HT := Lib.hid (show LfIn wr (markLf (spnsLf l) k).1 (.slice p l.length c) fp from ⟨by rw [markLs_length]; exact flat_lenM Spn.len l, A, fA, own_base hown, hiA, HFP.out.symm⟩)
      have HV := Lib.hid (show q = k + cntLf (spnsLf l) from hq)
      clear hiA hiR hown hA hq
      go_wp2
      go_ret
      exact ⟨by rw [HV.out]; rfl, HT.out, hgr⟩

end Go.Proofs.YtidjebepgpbcnaaGreatDoor

namespace Go.Proofs.YtidjebepgpbcnaaGreatDoor
open Go.RowKit

theorem Scp.len (x : Scp) : x.lf.length = 3 := rfl
theorem Scp.fit (x : Scp) : LsFit x.lf := ⟨trivial, strsLf_fit x.names, trivial, trivial⟩
theorem scpsLf_fit (l : List Scp) : LfFit (scpsLf l) := ⟨by omega, flat_lenM Scp.len l, LsFit.flat Scp.fit l⟩
theorem Scp.sz (x : Scp) : szLs x.lf = szLf (strsLf x.names) := by simp only [Scp.lf, szLs, szLf_int] <;> omega
theorem Scp.cnt (x : Scp) : cntLs x.lf = 1 + cntLf (strsLf x.names) + 1 := by simp only [Scp.lf, cntLs, cntLf_int] <;> omega
theorem Scp.rd {W : World} {x : Scp} {vs : List Value} : LsRd W x.lf vs ↔ ∃ r1, vs = [.int .i64 x.kind, r1, .int .i64 x.events] ∧ LfRd W (strsLf x.names) r1 := by
  constructor
  · rintro ⟨a0, s0, rfl, h0, a1, s1, rfl, h1, a2, s2, rfl, h2, rfl⟩
    exact ⟨a1, by rw [h0, h2], h1⟩
  · rintro ⟨r1, rfl, h1⟩
    exact ⟨_, _, rfl, rfl, _, _, rfl, h1, _, _, rfl, rfl, rfl⟩
theorem Scp.mark (x : Scp) (k : Nat) : (markLs x.lf k).1 = [.int ((k : Nat) : Int), (markLf (strsLf x.names) (k + 1)).1, .int ((k + 1 + cntLf (strsLf x.names) : Nat) : Int)] := by simp only [Scp.lf, markLs, markLf_int, markLf_cnt]
theorem Scp.rdm {W : World} {x : Scp} {k : Nat} {vs : List Value} : LsRd W (markLs x.lf k).1 vs ↔ ∃ r1, vs = [.int .i64 ((k : Nat) : Int), r1, .int .i64 ((k + 1 + cntLf (strsLf x.names) : Nat) : Int)] ∧ LfRd W (markLf (strsLf x.names) (k + 1)).1 r1 := by
  rw [Scp.mark]
  constructor
  · rintro ⟨a0, s0, rfl, h0, a1, s1, rfl, h1, a2, s2, rfl, h2, rfl⟩
    exact ⟨a1, by rw [h0, h2], h1⟩
  · rintro ⟨r1, rfl, h1⟩
    exact ⟨_, _, rfl, rfl, _, _, rfl, h1, _, _, rfl, rfl, rfl⟩
theorem Scp.in_of {W : World} {z0 : Int} {z1 : Lf} {z2 : Int} {vs : List Value} {fp : List Nat} (h : LsIn W [.int z0, z1, .int z2] vs fp) : ∃ r1 f1, vs = [.int .i64 z0, r1, .int .i64 z2] ∧ LfIn W z1 r1 f1 ∧ fp = f1 := by
  obtain ⟨a0, s0, f0, g0, rfl, h0, ⟨a1, s1, f1, g1, rfl, h1, ⟨a2, s2, f2, g2, rfl, h2, ⟨rfl, rfl⟩, rfl⟩, rfl⟩, rfl⟩ := h
  exact ⟨a1, f1, by rw [h0.1, h2.1], h1, by rw [h0.2, h2.2]; simp⟩
theorem Scp.in_mk {W : World} {z0 : Int} {z1 : Lf} {z2 : Int} {r1 : Value} {f1 : List Nat} (h1 : LfIn W z1 r1 f1) : LsIn W [.int z0, z1, .int z2] [.int .i64 z0, r1, .int .i64 z2] (f1) := by
  have h : LsIn W [.int z0, z1, .int z2] [.int .i64 z0, r1, .int .i64 z2] ([] ++ (f1 ++ ([] ++ ([])))) := ⟨_, _, [], _, rfl, ⟨rfl, rfl⟩, ⟨_, _, f1, _, rfl, h1, ⟨_, _, [], _, rfl, ⟨rfl, rfl⟩, ⟨rfl, rfl⟩, rfl⟩, rfl⟩, rfl⟩
  simpa using h

theorem Tryz.el_scope : Elem Tryz.prog 32 78 3 40 := Elem.mk' (z := .agg #[.int .i64 0, .slice none 0 0, .int .i64 0]) Tryz.underlying32 (by kernel_rfl) rfl (by omega)

theorem Scp.at {W : World} {l : List Scp} {v : Value} (h : LfRd W (scpsLf l) v) : ∃ p cap, v = .slice p l.length cap ∧ (l = [] ∨ ∃ b off, p = some ⟨b, off, none⟩ ∧ b < W.heap.size ∧ ∀ i x, l[i]? = some x → ∃ r1, LfRd W (strsLf x.names) r1 ∧ W.cell? ⟨b, off + i * 3, none⟩ = some (.int .i64 x.kind) ∧ W.cell? ⟨b, off + i * 3 + 1, none⟩ = some (r1) ∧ W.cell? ⟨b, off + i * 3 + 2, none⟩ = some (.int .i64 x.events)) := by
  obtain ⟨p, cap, hv, hc⟩ := rows_at Scp.len h
  refine ⟨p, cap, hv, hc.imp id fun ⟨b, off, hp, hlt, hc⟩ => ⟨b, off, hp, hlt, fun i x hi => ?_⟩⟩
  obtain ⟨us, h1, h2⟩ := hc i x hi
  obtain ⟨r1, rfl, k1⟩ := Scp.rd.1 h1
  exact ⟨r1, k1, h2 0 _ rfl, h2 1 _ rfl, h2 2 _ rfl⟩
theorem Scp.atm {W : World} {l : List Scp} {v : Value} {k0 : Nat} (h : LfRd W (markLf (scpsLf l) k0).1 v) : ∃ p cap, v = .slice p l.length cap ∧ (l = [] ∨ ∃ b off, p = some ⟨b, off, none⟩ ∧ b < W.heap.size ∧ ∀ i x k, l[i]? = some x → k = k0 + cntLs ((l.take i).flatMap Scp.lf) → ∃ r1, LfRd W (markLf (strsLf x.names) (k + 1)).1 r1 ∧ W.cell? ⟨b, off + i * 3, none⟩ = some (.int .i64 ((k : Nat) : Int)) ∧ W.cell? ⟨b, off + i * 3 + 1, none⟩ = some (r1) ∧ W.cell? ⟨b, off + i * 3 + 2, none⟩ = some (.int .i64 ((k + 1 + cntLf (strsLf x.names) : Nat) : Int))) := by
  obtain ⟨p, cap, hv, hc⟩ := rows_at_mark Scp.len h
  refine ⟨p, cap, hv, hc.imp id fun ⟨b, off, hp, hlt, hc⟩ => ⟨b, off, hp, hlt, fun i x k hi hk => ?_⟩⟩
  obtain ⟨us, h1, h2⟩ := hc i x hi
  rw [← hk] at h1
  obtain ⟨r1, rfl, k1⟩ := Scp.rdm.1 h1
  exact ⟨r1, k1, h2 0 _ rfl, h2 1 _ rfl, h2 2 _ rfl⟩

set_option maxHeartbeats 1600000 in
theorem szScope_g (x : Scp) (r1 : Value) (ll : Int) (left : Nat) (hll : ll = (left : Int)) (w : World) (h1 : LfRd w (strsLf x.names) r1) (hin : LsBnd x.lf) (hL : left ≤ 1000000000000) :
    Calls Tryz.prog 80 #[.agg #[.int .i64 x.kind, r1, .int .i64 x.events], .int .i64 ll] w fun e w' => e = .returned (.int .i64 (szN left (szLs x.lf))) ∧ Below w.heap.size w w' := by
  subst hll
  have hr1 := h1
  obtain ⟨p1, c1, rfl⟩ := LfRd.slice h1
  have hb1 : Below w.heap.size w (w.alloc (.cells #[.int .i64 x.kind, (.slice p1 x.names.length c1), .int .i64 x.events] 102)) := (Below.refl _ _).alloc (Nat.le_refl _) _
  have HA1 := Lib.hid (heap_alloc_new w (.cells #[.int .i64 x.kind, (.slice p1 x.names.length c1), .int .i64 x.events] 102))
  have hsz := Scp.sz x
  have bi_1 : LfBnd (strsLf x.names) := hin.2.1
  clear hin
  by_cases k0 : szLf (strsLf x.names) ≤ left
  · obtain ⟨L1, hL1⟩ : ∃ L, L + szLf (strsLf x.names) = left := ⟨left - szLf (strsLf x.names), by omega⟩
    have q1 := fun (ll : Int) (W : World) (hl : ll = (left : Int)) (g : LfRd W (strsLf x.names) (.slice p1 x.names.length c1)) => szStringS_g (.slice p1 x.names.length c1) x.names ll left hl W g bi_1 (by omega)
    simp only [show szN left (szLf (strsLf x.names)) = (L1 : Int) from by rw [szN_yes k0]; omega] at q1
    have C1 := Lib.hid q1
    clear q1
    have n0 : ¬ (L1 : Int) < 0 := by omega
    have bL1 : L1 ≤ 1000000000000 := by omega
    have HL1 := Lib.hid hL1
    have HV := Lib.hid (show szN left (szLs x.lf) = (L1 : Int) by rw [hsz, szN_yes (by omega)]; omega)
    clear hsz hL1

    go_enter Tryz.func80, Tryz.ntmps80
    go_wp2_with fail
    refine (C1.out _ _ (by have e1 := HL1.out; omega) (LfRd.below hb1 _ _ hr1)).mono ?_
    rintro e w2 ⟨rfl, b2⟩
    have hb2 := hb1.trans (b2.mono hb1.size)
    have HA2 := Lib.hid ((b2.block w.heap.size (by simp)).trans HA1.out)
    have hz2 : w.heap.size < w2.heap.size := (Array.getElem?_eq_some_iff.1 HA2.out).1
    go_wp2
    go_ret
    exact ⟨by rw [HV.out]; rfl, hb2⟩
  · have HV := Lib.hid (show szN left (szLs x.lf) = -1 by rw [hsz]; exact szN_no (by omega))
    have q1 := fun (ll : Int) (W : World) (hl : ll = (left : Int)) (g : LfRd W (strsLf x.names) (.slice p1 x.names.length c1)) => szStringS_g (.slice p1 x.names.length c1) x.names ll left hl W g bi_1 (by omega)
    simp only [show szN left (szLf (strsLf x.names)) = -1 from szN_no k0] at q1
    have C1 := Lib.hid q1
    clear q1
    clear hsz

    go_enter Tryz.func80, Tryz.ntmps80
    go_wp2_with fail
    refine (C1.out _ _ (by omega) (LfRd.below hb1 _ _ hr1)).mono ?_
    rintro e w2 ⟨rfl, b2⟩
    have hb2 := hb1.trans (b2.mono hb1.size)
    have HA2 := Lib.hid ((b2.block w.heap.size (by simp)).trans HA1.out)
    have hz2 : w.heap.size < w2.heap.size := (Array.getElem?_eq_some_iff.1 HA2.out).1
    go_wp2
    go_ret
    exact ⟨by rw [HV.out]; rfl, hb2⟩

set_option maxHeartbeats 1600000 in
theorem eqScope_g (x : Scp) (ra1 rb1 : Value) (w : World) (ha1 : LfRd w (strsLf x.names) ra1) (hb1 : LfRd w (strsLf x.names) rb1) (hs : szLs x.lf ≤ 1000000000000) :
    Calls Tryz.prog 100 #[.agg #[.int .i64 x.kind, ra1, .int .i64 x.events], .agg #[.int .i64 x.kind, rb1, .int .i64 x.events]] w fun e w' => e = .returned (.bool true) ∧ Below w.heap.size w w' := by
  have hra1 := ha1
  have hrb1 := hb1
  obtain ⟨p1a, c1a, rfl⟩ := LfRd.slice ha1
  obtain ⟨p1b, c1b, rfl⟩ := LfRd.slice hb1
  have hb1 : Below w.heap.size w ((w.alloc (.cells #[.int .i64 x.kind, (.slice p1a x.names.length c1a), .int .i64 x.events] 78)).alloc (.cells #[.int .i64 x.kind, (.slice p1b x.names.length c1b), .int .i64 x.events] 78)) := ((Below.refl _ _).alloc (Nat.le_refl _) _).alloc (by simp) _
  have HA1 := Lib.hid (show ((w.alloc (.cells #[.int .i64 x.kind, (.slice p1a x.names.length c1a), .int .i64 x.events] 78)).alloc (.cells #[.int .i64 x.kind, (.slice p1b x.names.length c1b), .int .i64 x.events] 78)).heap[w.heap.size]? = some (.cells #[.int .i64 x.kind, (.slice p1a x.names.length c1a), .int .i64 x.events] 78 (0, 0)) from (Below.heap_alloc _ _ _ (by simp)).trans (heap_alloc_new w _))
  have HB1 := Lib.hid (show ((w.alloc (.cells #[.int .i64 x.kind, (.slice p1a x.names.length c1a), .int .i64 x.events] 78)).alloc (.cells #[.int .i64 x.kind, (.slice p1b x.names.length c1b), .int .i64 x.events] 78)).heap[w.heap.size + 1]? = some (.cells #[.int .i64 x.kind, (.slice p1b x.names.length c1b), .int .i64 x.events] 78 (0, 0)) from by
    have := heap_alloc_new (w.alloc (.cells #[.int .i64 x.kind, (.slice p1a x.names.length c1a), .int .i64 x.events] 78)) (.cells #[.int .i64 x.kind, (.slice p1b x.names.length c1b), .int .i64 x.events] 78)
    rwa [World.size_alloc] at this)
  have hz1 : ((w.alloc (.cells #[.int .i64 x.kind, (.slice p1a x.names.length c1a), .int .i64 x.events] 78)).alloc (.cells #[.int .i64 x.kind, (.slice p1b x.names.length c1b), .int .i64 x.events] 78)).heap.size = w.heap.size + 2 := by simp
  have HZ1 := Lib.hid (Nat.le_of_eq hz1.symm)
  clear hz1
  have hsz := Scp.sz x
  have C1 := Lib.hid (fun W (g : LfRd W (strsLf x.names) (.slice p1a x.names.length c1a)) (g2 : LfRd W (strsLf x.names) (.slice p1b x.names.length c1b)) => eqStringS_g _ _ x.names W g g2 (by omega))
  clear hs hsz
  go_enter Tryz.func100, Tryz.ntmps100
  go_wp2_with fail
  refine (C1.out _ (LfRd.below hb1 _ _ hra1) (LfRd.below hb1 _ _ hrb1)).mono ?_
  rintro e w2 ⟨rfl, b2⟩
  have hb2 := hb1.trans (b2.mono hb1.size)
  have HZ2 := Lib.hid (Nat.le_trans HZ1.out b2.size)
  have HA2 := Lib.hid ((b2.block w.heap.size (by have := HZ1.out; omega)).trans HA1.out)
  have HB2 := Lib.hid ((b2.block (w.heap.size + 1) (by have := HZ1.out; omega)).trans HB1.out)
  have y2_2 := (Lib.cell_of_heap HA2.out 2).trans (show _ = some (.int .i64 x.events) from rfl)
  have z2_2 := (Lib.cell_of_heap HB2.out 2).trans (show _ = some (.int .i64 x.events) from rfl)
  clear b2
  go_wp2
  go_ret
  exact ⟨rfl, hb2⟩

set_option maxRecDepth 20000 in
set_option maxHeartbeats 6400000 in
theorem toScope_g (x : Scp) (r1 : Value) (w : World) (h1 : LfRd w (strsLf x.names) r1) (hs : szLs x.lf ≤ 10000000) :
    Calls Tryz.prog 85 #[.agg #[.int .i64 x.kind, r1, .int .i64 x.events]] w fun e w' => ∃ v1 f1, e = .returned (.agg #[.int .i64 x.kind, v1, .int .i64 x.events]) ∧ LfIn w' (strsLf x.names) v1 f1 ∧ (f1).Nodup ∧ (∀ q ∈ f1, w.heap.size ≤ q) ∧ Below w.heap.size w w' := by
  have HR1 := Lib.hid h1
  obtain ⟨p1, c1, rfl⟩ := LfRd.slice h1
  have hsz := Scp.sz x
  have C1 := Lib.hid (fun W (g : LfRd W (strsLf x.names) (.slice p1 x.names.length c1)) => toStringS_g _ x.names W g (by omega))
  clear hs hsz h1
  go_enter Tryz.func85, Tryz.ntmps85
  have HA := Lib.hid (heap_alloc_new w (.cells #[.int .i64 x.kind, (.slice p1 x.names.length c1), .int .i64 x.events] 102))
  go_wp2_with fail
  have hb : Below w.heap.size w (((w.alloc (.cells #[.int .i64 x.kind, (.slice p1 x.names.length c1), .int .i64 x.events] 102)).alloc (.cells #[.int .i64 0, .slice none 0 0, .int .i64 0] 78)).alloc (.cells #[.int .i64 x.kind, .slice none 0 0, .int .i64 0] 78)) := (((Below.refl _ _).alloc (Nat.le_refl _) _).alloc (by simp) _).alloc (by simp; omega) _
  have hA : (((w.alloc (.cells #[.int .i64 x.kind, (.slice p1 x.names.length c1), .int .i64 x.events] 102)).alloc (.cells #[.int .i64 0, .slice none 0 0, .int .i64 0] 78)).alloc (.cells #[.int .i64 x.kind, .slice none 0 0, .int .i64 0] 78)).heap[w.heap.size]? = some (.cells #[.int .i64 x.kind, (.slice p1 x.names.length c1), .int .i64 x.events] 102 (0, 0)) := ((Below.heap_alloc _ _ _ (by simp; omega)).trans (Below.heap_alloc _ _ _ (by simp))).trans HA.out
  have hR : (((w.alloc (.cells #[.int .i64 x.kind, (.slice p1 x.names.length c1), .int .i64 x.events] 102)).alloc (.cells #[.int .i64 0, .slice none 0 0, .int .i64 0] 78)).alloc (.cells #[.int .i64 x.kind, .slice none 0 0, .int .i64 0] 78)).heap[w.heap.size + 1]? = some (.cells #[.int .i64 0, .slice none 0 0, .int .i64 0] 78 (0, 0)) := (Below.heap_alloc _ _ _ (by simp)).trans (by have := heap_alloc_new (w.alloc (.cells #[.int .i64 x.kind, (.slice p1 x.names.length c1), .int .i64 x.events] 102)) (.cells #[.int .i64 0, .slice none 0 0, .int .i64 0] 78); rwa [World.size_alloc] at this)
  have hT : (((w.alloc (.cells #[.int .i64 x.kind, (.slice p1 x.names.length c1), .int .i64 x.events] 102)).alloc (.cells #[.int .i64 0, .slice none 0 0, .int .i64 0] 78)).alloc (.cells #[.int .i64 x.kind, .slice none 0 0, .int .i64 0] 78)).heap[w.heap.size + 1 + 1]? = some (.cells #[.int .i64 x.kind, .slice none 0 0, .int .i64 0] 78 (0, 0)) := by
    have := heap_alloc_new ((w.alloc (.cells #[.int .i64 x.kind, (.slice p1 x.names.length c1), .int .i64 x.events] 102)).alloc (.cells #[.int .i64 0, .slice none 0 0, .int .i64 0] 78)) (.cells #[.int .i64 x.kind, .slice none 0 0, .int .i64 0] 78)
    rwa [World.size_alloc, World.size_alloc] at this
  have hz : w.heap.size + 3 ≤ (((w.alloc (.cells #[.int .i64 x.kind, (.slice p1 x.names.length c1), .int .i64 x.events] 102)).alloc (.cells #[.int .i64 0, .slice none 0 0, .int .i64 0] 78)).alloc (.cells #[.int .i64 x.kind, .slice none 0 0, .int .i64 0] 78)).heap.size := by simp
  generalize (((w.alloc (.cells #[.int .i64 x.kind, (.slice p1 x.names.length c1), .int .i64 x.events] 102)).alloc (.cells #[.int .i64 0, .slice none 0 0, .int .i64 0] 78)).alloc (.cells #[.int .i64 x.kind, .slice none 0 0, .int .i64 0] 78)) = W0 at *
  clear HA
  refine (C1.out _ (LfRd.below hb _ _ HR1.out)).mono ?_
  rintro e w1 ⟨v1, f1, rfl, t1, b1⟩
  have i1 := t1.is
  have n1 := t1.nodup
  have l1 : ∀ q ∈ f1, w.heap.size + 3 ≤ q := fun q hq => by have := t1.low q hq; omega
  obtain ⟨pv1, cv1, rfl⟩ := LfIn.slice i1
  clear t1
  replace hA := (b1.block (w.heap.size) (by omega)).trans hA
  replace hR := (b1.block (w.heap.size + 1) (by omega)).trans hR
  replace hT := (b1.block (w.heap.size + 1 + 1) (by omega)).trans hT
  have nn := n1
  replace hb := hb.trans (b1.mono hb.size)
  replace hz := Nat.le_trans hz b1.size
  clear b1
  have ce1 : w1.cell? ⟨w.heap.size + 1 + 1, 1, none⟩ = some (.slice none 0 0) := (Lib.cell_of_heap hT 1).trans rfl
  have ge1 : w1.frozen? ⟨w.heap.size + 1 + 1, 1, none⟩ = false := Lib.frozen_of_heap hT 1
  have hT1 : (w1.setCell ⟨w.heap.size + 1 + 1, 1, none⟩ (.slice pv1 x.names.length cv1)).heap[w.heap.size + 1 + 1]? = some (.cells #[.int .i64 x.kind, (.slice pv1 x.names.length cv1), .int .i64 0] 78 (0, 0)) := set_heap hT
  have hA1 : (w1.setCell ⟨w.heap.size + 1 + 1, 1, none⟩ (.slice pv1 x.names.length cv1)).heap[w.heap.size]? = some (.cells #[.int .i64 x.kind, (.slice p1 x.names.length c1), .int .i64 x.events] 102 (0, 0)) := (set_other (by omega)).trans hA
  have hR1 : (w1.setCell ⟨w.heap.size + 1 + 1, 1, none⟩ (.slice pv1 x.names.length cv1)).heap[w.heap.size + 1]? = some (.cells #[.int .i64 0, .slice none 0 0, .int .i64 0] 78 (0, 0)) := (set_other (by omega)).trans hR
  have ae2 : (w1.setCell ⟨w.heap.size + 1 + 1, 1, none⟩ (.slice pv1 x.names.length cv1)).cell? ⟨w.heap.size, 2, none⟩ = some (.int .i64 x.events) := (Lib.cell_of_heap hA1 2).trans rfl
  have ce2 : (w1.setCell ⟨w.heap.size + 1 + 1, 1, none⟩ (.slice pv1 x.names.length cv1)).cell? ⟨w.heap.size + 1 + 1, 2, none⟩ = some (.int .i64 0) := (Lib.cell_of_heap hT1 2).trans rfl
  have ge2 : (w1.setCell ⟨w.heap.size + 1 + 1, 1, none⟩ (.slice pv1 x.names.length cv1)).frozen? ⟨w.heap.size + 1 + 1, 2, none⟩ = false := Lib.frozen_of_heap hT1 2
  have hT2 : ((w1.setCell ⟨w.heap.size + 1 + 1, 1, none⟩ (.slice pv1 x.names.length cv1)).setCell ⟨w.heap.size + 1 + 1, 2, none⟩ (.int .i64 x.events)).heap[w.heap.size + 1 + 1]? = some (.cells #[.int .i64 x.kind, (.slice pv1 x.names.length cv1), .int .i64 x.events] 78 (0, 0)) := set_heap hT1
  have hA2 : ((w1.setCell ⟨w.heap.size + 1 + 1, 1, none⟩ (.slice pv1 x.names.length cv1)).setCell ⟨w.heap.size + 1 + 1, 2, none⟩ (.int .i64 x.events)).heap[w.heap.size]? = some (.cells #[.int .i64 x.kind, (.slice p1 x.names.length c1), .int .i64 x.events] 102 (0, 0)) := (set_other (by omega)).trans hA1
  have hR2 : ((w1.setCell ⟨w.heap.size + 1 + 1, 1, none⟩ (.slice pv1 x.names.length cv1)).setCell ⟨w.heap.size + 1 + 1, 2, none⟩ (.int .i64 x.events)).heap[w.heap.size + 1]? = some (.cells #[.int .i64 0, .slice none 0 0, .int .i64 0] 78 (0, 0)) := (set_other (by omega)).trans hR1
  have gs : GrownIn w1 ((w1.setCell ⟨w.heap.size + 1 + 1, 1, none⟩ (.slice pv1 x.names.length cv1)).setCell ⟨w.heap.size + 1 + 1, 2, none⟩ (.int .i64 x.events)) [w.heap.size + 1 + 1] := ((GrownIn.refl w1 [w.heap.size + 1 + 1]).trans (GrownIn.set (by simp))).trans (GrownIn.set (by simp))
  replace i1 := LfIn.away i1 gs (fun k hk hm => by have := l1 k hk; simp at hm; omega)
  replace hb := GrownIn.below hb gs hb.size (fun k hk => by simp at hk; omega)
  replace hz := Nat.le_trans hz gs.size
  clear hA hR hT gs hA1 hR1 hT1
  have hA := hA2
  have hR := hR2
  have hT := hT2
  clear hA2 hR2 hT2
  generalize hW1 : ((w1.setCell ⟨w.heap.size + 1 + 1, 1, none⟩ (.slice pv1 x.names.length cv1)).setCell ⟨w.heap.size + 1 + 1, 2, none⟩ (.int .i64 x.events)) = W1 at *
  have d0_ : W1.cell? ⟨w.heap.size + 1 + 1, 0, none⟩ = some (.int .i64 x.kind) := (Lib.cell_of_heap hT 0).trans rfl
  have d1_ : W1.cell? ⟨w.heap.size + 1 + 1, 1, none⟩ = some ((.slice pv1 x.names.length cv1)) := (Lib.cell_of_heap hT 1).trans rfl
  have d2_ : W1.cell? ⟨w.heap.size + 1 + 1, 2, none⟩ = some (.int .i64 x.events) := (Lib.cell_of_heap hT 2).trans rfl
  have r0_ : W1.cell? ⟨w.heap.size + 1, 0, none⟩ = some (.int .i64 0) := (Lib.cell_of_heap hR 0).trans rfl
  have q0_ : W1.frozen? ⟨w.heap.size + 1, 0, none⟩ = false := Lib.frozen_of_heap hR 0
  have hR0 : (W1.setCell ⟨w.heap.size + 1, 0, none⟩ (.int .i64 x.kind)).heap[w.heap.size + 1]? = some (.cells #[.int .i64 x.kind, .slice none 0 0, .int .i64 0] 78 (0, 0)) := set_heap hR
  have r1_ : (W1.setCell ⟨w.heap.size + 1, 0, none⟩ (.int .i64 x.kind)).cell? ⟨w.heap.size + 1, 1, none⟩ = some (.slice none 0 0) := (Lib.cell_of_heap hR0 1).trans rfl
  have q1_ : W1.frozen? ⟨w.heap.size + 1, 1, none⟩ = false := Lib.frozen_of_heap hR 1
  have hR1 : ((W1.setCell ⟨w.heap.size + 1, 0, none⟩ (.int .i64 x.kind)).setCell ⟨w.heap.size + 1, 1, none⟩ (.slice pv1 x.names.length cv1)).heap[w.heap.size + 1]? = some (.cells #[.int .i64 x.kind, (.slice pv1 x.names.length cv1), .int .i64 0] 78 (0, 0)) := set_heap hR0
  have r2_ : ((W1.setCell ⟨w.heap.size + 1, 0, none⟩ (.int .i64 x.kind)).setCell ⟨w.heap.size + 1, 1, none⟩ (.slice pv1 x.names.length cv1)).cell? ⟨w.heap.size + 1, 2, none⟩ = some (.int .i64 0) := (Lib.cell_of_heap hR1 2).trans rfl
  have q2_ : W1.frozen? ⟨w.heap.size + 1, 2, none⟩ = false := Lib.frozen_of_heap hR 2
  have hR2 : (((W1.setCell ⟨w.heap.size + 1, 0, none⟩ (.int .i64 x.kind)).setCell ⟨w.heap.size + 1, 1, none⟩ (.slice pv1 x.names.length cv1)).setCell ⟨w.heap.size + 1, 2, none⟩ (.int .i64 x.events)).heap[w.heap.size + 1]? = some (.cells #[.int .i64 x.kind, (.slice pv1 x.names.length cv1), .int .i64 x.events] 78 (0, 0)) := set_heap hR1
  have s0_ := (Lib.cell_of_heap hR2 0).trans (show _ = some (.int .i64 x.kind) from rfl)
  have s1_ := (Lib.cell_of_heap hR2 1).trans (show _ = some ((.slice pv1 x.names.length cv1)) from rfl)
  have s2_ := (Lib.cell_of_heap hR2 2).trans (show _ = some (.int .i64 x.events) from rfl)
  have gs : GrownIn W1 (((W1.setCell ⟨w.heap.size + 1, 0, none⟩ (.int .i64 x.kind)).setCell ⟨w.heap.size + 1, 1, none⟩ (.slice pv1 x.names.length cv1)).setCell ⟨w.heap.size + 1, 2, none⟩ (.int .i64 x.events)) [w.heap.size + 1] := (((GrownIn.refl W1 [w.heap.size + 1]).trans (GrownIn.set (by simp))).trans (GrownIn.set (by simp))).trans (GrownIn.set (by simp))
  have I1 := Lib.hid (LfIn.away i1 gs (fun k hk hm => by have := l1 k hk; simp at hm; omega))
  have hbf := GrownIn.below hb gs hb.size (fun k hk => by simp at hk; omega)
  clear hA hR hT gs hb hR0 hR1 hR2 i1
  go_wp2
  exact bodyPost_ret (v := .agg #[.int .i64 x.kind, (.slice pv1 x.names.length cv1), .int .i64 x.events]) (by simp [results, Tryz.results85, go_sem, s0_, s1_, s2_]) rfl ⟨_, _, rfl, I1.out, nn, fun q hq => by have := l1 q hq; omega, hbf⟩

set_option maxHeartbeats 3200000 in
theorem szScopeS_g (v : Value) (l : List Scp) (ll : Int) (left : Nat) (hll : ll = (left : Int)) (w : World) (hr : LfRd w (scpsLf l) v) (hin : LfBnd (scpsLf l)) (hL : left ≤ 1000000000000) :
    Calls Tryz.prog 42 #[v, .int .i64 ll] w fun e w' => e = .returned (.int .i64 (szN left (szLf (scpsLf l)))) ∧ Below w.heap.size w w' := by
  subst hll
  have HSZ := Lib.hid (show szLf (scpsLf l) = l.length + szLs (l.flatMap Scp.lf) from rfl)
  obtain ⟨p, c, rfl, hp⟩ := Scp.at hr
  have hl : l.length ≤ 9223372036854775807 := hin.1
  have HX := Lib.hid (LsBnd.flat hin.2)
  have HP := Lib.hid hp
  clear hr hp hin
  by_cases hbig : l.length ≤ left
  · have h1 : ¬ (left : Int) - (l.length : Int) < 0 := by omega
    go_enter Tryz.func42, Tryz.ntmps42
    go_wp2
    go_loopw [1, 5] (fun lf i wr => ∃ j q : Nat, j ≤ l.length ∧ i = .int .i64 j ∧ lf = .int .i64 (q : Int) ∧ q + (l.length + szLs ((l.take j).flatMap Scp.lf)) = left ∧ Below w.heap.size w wr) (fun _ i _ => l.length - (intOf i).toNat)
    case atStart => exact ⟨0, left - l.length, by omega, rfl, by congr 1; omega, by simp [szLs]; omega, Below.refl _ _⟩
    case round =>
      obtain ⟨j, q, hj, rfl, rfl, hq, hbr⟩ := hrel
      have hbr0 := hbr.size
      have hqL : q ≤ 1000000000000 := by omega
      by_cases hlt : j < l.length
      · obtain ⟨b1, o1, rfl, hb1, hc1⟩ := HP.out.resolve_left (by intro h; subst h; simp at hlt)
        obtain ⟨s, hs⟩ : ∃ s, l[j]? = some s := ⟨_, List.getElem?_eq_getElem hlt⟩
        obtain ⟨v1, n1, x0, x1, x2⟩ := hc1 j s hs
        have e0 : wr.cell? ⟨b1, o1 + j * 3, none⟩ = some (.int .i64 s.kind) := (hbr.cell (p := ⟨b1, o1 + j * 3, none⟩) hb1).trans x0
        have e1 : wr.cell? ⟨b1, o1 + j * 3 + 1, none⟩ = some (v1) := (hbr.cell (p := ⟨b1, o1 + j * 3 + 1, none⟩) hb1).trans x1
        have e2 : wr.cell? ⟨b1, o1 + j * 3 + 2, none⟩ = some (.int .i64 s.events) := (hbr.cell (p := ⟨b1, o1 + j * 3 + 2, none⟩) hb1).trans x2
        have cz := fun ll (hl : ll = (q : Int)) => szScope_g s v1 ll q hl wr (LfRd.below hbr _ _ n1) (HX.out s (List.mem_of_getElem? hs)) hqL
        have htk : szLs ((l.take (j + 1)).flatMap Scp.lf) = szLs ((l.take j).flatMap Scp.lf) + szLs s.lf := by rw [flat_take_succ Scp.lf hs, szLs_append]
        have hmono := szLs_flat_take Scp.lf l (j + 1)
        by_cases hok : szLs s.lf ≤ q
        · obtain ⟨q2, hq2⟩ : ∃ q2, q2 + szLs s.lf = q := ⟨q - szLs s.lf, by omega⟩
          have hqe : q2 + (l.length + szLs ((l.take (j + 1)).flatMap Scp.lf)) = left := by omega
          simp only [show szN q (szLs s.lf) = (q2 : Int) from by rw [szN_yes hok]; omega] at cz
          have CZ := Lib.hid cz
          have hnn : ¬ (q2 : Int) < 0 := by omega
          have HQ := Lib.hid hqe
          clear cz htk hq hq2 hqe hmono hok
          clear hc1 hs HP x0 x1 x2 n1
          go_wp2_with fail
          refine (CZ.out _ rfl).mono ?_
          rintro e w2 ⟨rfl, b2⟩
          have hb2 := hbr.trans (b2.mono hbr0)
          clear CZ b2 hbr e0 e1 e2
          go_wp2
          go_roundw
          case rel => exact ⟨j + 1, q2, by omega, by go_num, rfl, HQ.out, hb2⟩
          case measure => simp [intOf]; omega
        · simp only [show szN q (szLs s.lf) = -1 from szN_no hok] at cz
          have CZ := Lib.hid cz
          have HV := Lib.hid (show szN left (szLf (scpsLf l)) = -1 by rw [HSZ.out]; exact szN_no (by omega))
          clear cz htk hq hmono hok
          clear hc1 hs HP x0 x1 x2 n1
          go_wp2_with fail
          refine (CZ.out _ rfl).mono ?_
          rintro e w2 ⟨rfl, b2⟩
          have hb2 := hbr.trans (b2.mono hbr0)
          clear CZ b2 hbr e0 e1 e2
          go_wp2
          go_ret
          exact ⟨by rw [HV.out]; rfl, hb2⟩
      · obtain rfl : j = l.length := by omega
        rw [List.take_length] at hq
        have HV := Lib.hid (show szN left (szLf (scpsLf l)) = (q : Int) by rw [HSZ.out, szN_yes (by omega)]; omega)
        clear hq
        go_wp2
        go_ret
        exact ⟨by rw [HV.out]; rfl, hbr⟩
  · have h1 : (left : Int) - (l.length : Int) < 0 := by omega
    have HV := Lib.hid (show szN left (szLf (scpsLf l)) = -1 by rw [HSZ.out]; exact szN_no (by omega))
    go_enter Tryz.func42, Tryz.ntmps42
    go_wp2
    go_ret
    exact ⟨by rw [HV.out]; rfl, Below.refl _ _⟩

set_option maxHeartbeats 3200000 in
theorem eqScopeS_g (a b : Value) (l : List Scp) (w : World) (ha : LfRd w (scpsLf l) a) (hb : LfRd w (scpsLf l) b) (hs : szLf (scpsLf l) ≤ 1000000000000) :
    Calls Tryz.prog 72 #[a, b] w fun e w' => e = .returned (.bool true) ∧ Below w.heap.size w w' := by
  have hs2 : l.length + szLs (l.flatMap Scp.lf) ≤ 1000000000000 := hs
  clear hs
  obtain ⟨p, c1, rfl, hp⟩ := Scp.at ha
  obtain ⟨q, c2, rfl, hq⟩ := Scp.at hb
  clear ha hb
  have HP := Lib.hid hp
  have HQ := Lib.hid hq
  clear hp hq
  have HL := Lib.hid hs2
  have hll : l.length ≤ 1000000000000 := by omega
  clear hs2
  go_enter Tryz.func72, Tryz.ntmps72
  go_wp2
  go_loopw [5] (fun i wr => ∃ k : Nat, k ≤ l.length ∧ i = .int .i64 k ∧ Below w.heap.size w wr) (fun i _ => l.length - (intOf i).toNat)
  case atStart => exact ⟨0, by omega, rfl, Below.refl _ _⟩
  case round =>
    obtain ⟨k, hk, rfl, hbr⟩ := hrel
    have hbr0 := hbr.size
    by_cases hlt : k < l.length
    · obtain ⟨b1, o1, rfl, hb1, hc1⟩ := HP.out.resolve_left (by intro h; subst h; simp at hlt)
      obtain ⟨b2, o2, rfl, hb2, hc2⟩ := HQ.out.resolve_left (by intro h; subst h; simp at hlt)
      obtain ⟨s, hs⟩ : ∃ s, l[k]? = some s := ⟨_, List.getElem?_eq_getElem hlt⟩
      obtain ⟨v1, n1, x0, x1, x2⟩ := hc1 k s hs
      obtain ⟨u1, t1, y0, y1, y2⟩ := hc2 k s hs
      have e0 : wr.drew.cell? ⟨b1, o1 + k * 3, none⟩ = some (.int .i64 s.kind) := (hbr.cell (p := ⟨b1, o1 + k * 3, none⟩) hb1).trans x0
      have f0 : wr.drew.cell? ⟨b2, o2 + k * 3, none⟩ = some (.int .i64 s.kind) := (hbr.cell (p := ⟨b2, o2 + k * 3, none⟩) hb2).trans y0
      have e1 : wr.drew.cell? ⟨b1, o1 + k * 3 + 1, none⟩ = some (v1) := (hbr.cell (p := ⟨b1, o1 + k * 3 + 1, none⟩) hb1).trans x1
      have f1 : wr.drew.cell? ⟨b2, o2 + k * 3 + 1, none⟩ = some (u1) := (hbr.cell (p := ⟨b2, o2 + k * 3 + 1, none⟩) hb2).trans y1
      have e2 : wr.drew.cell? ⟨b1, o1 + k * 3 + 2, none⟩ = some (.int .i64 s.events) := (hbr.cell (p := ⟨b1, o1 + k * 3 + 2, none⟩) hb1).trans x2
      have f2 : wr.drew.cell? ⟨b2, o2 + k * 3 + 2, none⟩ = some (.int .i64 s.events) := (hbr.cell (p := ⟨b2, o2 + k * 3 + 2, none⟩) hb2).trans y2
      have hsm := szLs_mem Scp.lf (List.mem_of_getElem? hs)
      have CE := Lib.hid (eqScope_g s v1 u1 wr.drew (LfRd.below hbr.drew _ _ n1) (LfRd.below hbr.drew _ _ t1) (by have := HL.out; omega))
      clear hc1 hc2 hs HP HQ hsm x0 y0 x1 y1 x2 y2 n1 t1
      go_wp2
      refine ord_start [(0, true), (1, true), (2, true), (3, true), (4, true), (5, true), (6, true), (7, true), (8, false), (9, true)] (fun W => (W.cell? ⟨b1, o1 + k * 3, none⟩ = some (.int .i64 s.kind) ∧ W.cell? ⟨b1, o1 + k * 3 + 1, none⟩ = some (v1) ∧ W.cell? ⟨b1, o1 + k * 3 + 2, none⟩ = some (.int .i64 s.events)) ∧ W.cell? ⟨b2, o2 + k * 3, none⟩ = some (.int .i64 s.kind) ∧ W.cell? ⟨b2, o2 + k * 3 + 1, none⟩ = some (u1) ∧ W.cell? ⟨b2, o2 + k * 3 + 2, none⟩ = some (.int .i64 s.events)) (by kernel_rfl) (by kernel_rfl) rfl (by kernel_rfl) ?_
      intro ops' hops
      clear hops
      simp only [List.map_cons, List.map_nil, pickOp_zero, pickOp_succ]
      iterate 8 (refine ord_flo ?_ (fun _ _ _ h => h) rfl ?_ ⟨⟨e0, e1, e2⟩, f0, f1, f2⟩ ?_; rotate_left; focus (intro W hS; obtain ⟨⟨s0, s1, s2⟩, t0, t1, t2⟩ := hS; go_simp; rfl))
      refine ord_ev rfl ?_
      go_simp
      refine (CE.out).mono ?_
      rintro e w2 ⟨rfl, bb⟩
      have hb2' := hbr.drew.trans (bb.mono (by show w.heap.size ≤ wr.heap.size; omega))
      have hlt1 : b1 < wr.drew.heap.size := Nat.lt_of_lt_of_le hb1 hbr0
      have hlt2 : b2 < wr.drew.heap.size := Nat.lt_of_lt_of_le hb2 hbr0
      have HE := Lib.hid (show (fun W : World => (W.cell? ⟨b1, o1 + k * 3, none⟩ = some (.int .i64 s.kind) ∧ W.cell? ⟨b1, o1 + k * 3 + 1, none⟩ = some (v1) ∧ W.cell? ⟨b1, o1 + k * 3 + 2, none⟩ = some (.int .i64 s.events)) ∧ W.cell? ⟨b2, o2 + k * 3, none⟩ = some (.int .i64 s.kind) ∧ W.cell? ⟨b2, o2 + k * 3 + 1, none⟩ = some (u1) ∧ W.cell? ⟨b2, o2 + k * 3 + 2, none⟩ = some (.int .i64 s.events)) w2 from ⟨⟨(bb.cell (p := ⟨b1, o1 + k * 3, none⟩) hlt1).trans e0, (bb.cell (p := ⟨b1, o1 + k * 3 + 1, none⟩) hlt1).trans e1, (bb.cell (p := ⟨b1, o1 + k * 3 + 2, none⟩) hlt1).trans e2⟩, (bb.cell (p := ⟨b2, o2 + k * 3, none⟩) hlt2).trans f0, (bb.cell (p := ⟨b2, o2 + k * 3 + 1, none⟩) hlt2).trans f1, (bb.cell (p := ⟨b2, o2 + k * 3 + 2, none⟩) hlt2).trans f2⟩)
      refine ⟨HE.out, ?_⟩
      iterate 1 (refine ord_flo ?_ (fun _ _ _ h => h) rfl ?_ HE.out ?_; rotate_left; focus (intro W hS; obtain ⟨⟨s0, s1, s2⟩, t0, t1, t2⟩ := hS; go_simp; rfl))
      refine ord_done ?_
      go_simp
      clear e0 f0 e1 f1 e2 f2 bb hbr hbr0 CE HE
      go_wp2
      go_roundw
      case rel => exact ⟨k + 1, by omega, by go_num, hb2'⟩
      case measure => simp [intOf]; omega
    · obtain rfl : k = l.length := by omega
      go_wp2
      go_ret
      exact ⟨rfl, hbr⟩

set_option maxRecDepth 20000 in
set_option maxHeartbeats 6400000 in
theorem toScopeS_g (v : Value) (l : List Scp) (w : World) (hr : LfRd w (scpsLf l) v) (hs : szLf (scpsLf l) ≤ 10000000) :
    Calls Tryz.prog 59 #[v] w fun e w' => ∃ v' fp, e = .returned v' ∧ Tree w' w.heap.size (scpsLf l) v' fp ∧ Below w.heap.size w w' := by
  have hs2 : l.length + szLs (l.flatMap Scp.lf) ≤ 10000000 := hs
  obtain ⟨p, c, rfl, hp⟩ := Scp.at hr
  have HP := Lib.hid hp
  have HL := Lib.hid hs2
  have hll : l.length ≤ 10000000 := by omega
  clear hr hp hs hs2
  go_enter Tryz.func59, Tryz.ntmps59
  go_wp2_with (refine wpList_mkn Tryz.el_scope rfl _ _ rfl w.heap.size w (Below.refl _ _) (Nat.le_refl _) _ _ l.length rfl rfl (by omega) (by omega) ?_)
  intro w1 xs0 hown1 hb1 hlt1
  go_wp2
  go_loopw [4] (fun i wr => ∃ (k : Nat) (A R : List Value) (fq : List Nat), k ≤ l.length ∧ i = .int .i64 k ∧ A.length = k * 3 ∧ wr.ownsRow w.heap.size 78 3 (.slice (some ⟨w.heap.size, 0, none⟩) l.length l.length) l.length (A ++ R) ∧ LsIn wr ((l.take k).flatMap Scp.lf) A fq ∧ fq.Nodup ∧ (∀ q ∈ fq, w.heap.size < q) ∧ Below w.heap.size w wr ∧ w.heap.size < wr.heap.size) (fun i _ => l.length - (intOf i).toNat)
  case atStart => exact ⟨0, [], xs0, [], by omega, rfl, by simp, hown1, ⟨rfl, rfl⟩, by simp, by simp, hb1, hlt1⟩
  case round =>
    obtain ⟨k, A, R, fq, hk, rfl, hA, hown, hin, hnd, hlow, hbr, hzr⟩ := hrel
    have hbr0 := hbr.size
    clear hown1 hb1 hlt1
    by_cases hlt : k < l.length
    · obtain ⟨b1, o1, rfl, hb1, hc1⟩ := HP.out.resolve_left (by intro h; subst h; simp at hlt)
      obtain ⟨s, hs⟩ : ∃ s, l[k]? = some s := ⟨_, List.getElem?_eq_getElem hlt⟩
      obtain ⟨v1, n1, x0, x1, x2⟩ := hc1 k s hs
      have e0 : wr.cell? ⟨b1, o1 + k * 3, none⟩ = some (.int .i64 s.kind) := (hbr.cell (p := ⟨b1, o1 + k * 3, none⟩) hb1).trans x0
      have e1 : wr.cell? ⟨b1, o1 + k * 3 + 1, none⟩ = some (v1) := (hbr.cell (p := ⟨b1, o1 + k * 3 + 1, none⟩) hb1).trans x1
      have e2 : wr.cell? ⟨b1, o1 + k * 3 + 2, none⟩ = some (.int .i64 s.events) := (hbr.cell (p := ⟨b1, o1 + k * 3 + 2, none⟩) hb1).trans x2
      have hsm := szLs_mem Scp.lf (List.mem_of_getElem? hs)
      have CT := Lib.hid (toScope_g s v1 wr (LfRd.below hbr _ _ n1) (by have := HL.out; omega))
      have HTK := Lib.hid (flat_take_succ Scp.lf hs)
      clear hc1 hs HP hsm x0 x1 x2 n1
      go_wp2_with fail
      refine (CT.out).mono ?_
      rintro e w2 ⟨z1, f1, rfl, i1, nd, lo, b2⟩
      have hown2 := ownsRow_below hown b2
      have hin2 := LsIn.frame _ _ _ (fun q hq => b2.block q (LsIn.lt _ _ _ hin q hq)) hin
      have hqz : ∀ q ∈ fq, q < wr.heap.size := fun q hq => LsIn.lt _ _ _ hin q hq
      have hb2 := hbr.trans (b2.mono hbr0)
      have hz2 := b2.size
      obtain ⟨pv1, cv1, rfl⟩ := LfIn.slice i1
      obtain ⟨R1, R2, rfl, hR1⟩ := rest_split hown2.1 hA hlt
      obtain ⟨y0, y1, y2, rfl⟩ : ∃ y0 y1 y2, R1 = [y0, y1, y2] := by
        match R1, hR1 with
        | [a0, a1, a2], _ => exact ⟨a0, a1, a2, rfl⟩
      simp only [List.cons_append, List.nil_append] at hown2
      clear hown hin b2 CT hR1 e0 e1 e2
      have c0 : w2.cell? ⟨w.heap.size, k * 3, none⟩ = some y0 := own_cell (L := y0 :: y1 :: y2 :: R2) hown2 hA 0 _ rfl
      have q0 : w2.frozen? ⟨w.heap.size, k * 3, none⟩ = false := own_free hown2 _
      have p0 : (w2.setCell ⟨w.heap.size, k * 3, none⟩ (.int .i64 s.kind)).ownsRow w.heap.size 78 3 (.slice (some ⟨w.heap.size, 0, none⟩) l.length l.length) l.length (A ++ (.int .i64 s.kind) :: y1 :: y2 :: R2) := own_at (L := y0 :: y1 :: y2 :: R2) hown2 hA 0 (.int .i64 s.kind)
      have c1 : (w2.setCell ⟨w.heap.size, k * 3, none⟩ (.int .i64 s.kind)).cell? ⟨w.heap.size, k * 3 + 1, none⟩ = some y1 := own_cell (L := (.int .i64 s.kind) :: y1 :: y2 :: R2) p0 hA 1 _ rfl
      have q1 : (w2.setCell ⟨w.heap.size, k * 3, none⟩ (.int .i64 s.kind)).frozen? ⟨w.heap.size, k * 3 + 1, none⟩ = false := own_free p0 _
      have p1 : ((w2.setCell ⟨w.heap.size, k * 3, none⟩ (.int .i64 s.kind)).setCell ⟨w.heap.size, k * 3 + 1, none⟩ (.slice pv1 s.names.length cv1)).ownsRow w.heap.size 78 3 (.slice (some ⟨w.heap.size, 0, none⟩) l.length l.length) l.length (A ++ (.int .i64 s.kind) :: (.slice pv1 s.names.length cv1) :: y2 :: R2) := own_at (L := (.int .i64 s.kind) :: y1 :: y2 :: R2) p0 hA 1 (.slice pv1 s.names.length cv1)
      have c2 : ((w2.setCell ⟨w.heap.size, k * 3, none⟩ (.int .i64 s.kind)).setCell ⟨w.heap.size, k * 3 + 1, none⟩ (.slice pv1 s.names.length cv1)).cell? ⟨w.heap.size, k * 3 + 2, none⟩ = some y2 := own_cell (L := (.int .i64 s.kind) :: (.slice pv1 s.names.length cv1) :: y2 :: R2) p1 hA 2 _ rfl
      have q2 : ((w2.setCell ⟨w.heap.size, k * 3, none⟩ (.int .i64 s.kind)).setCell ⟨w.heap.size, k * 3 + 1, none⟩ (.slice pv1 s.names.length cv1)).frozen? ⟨w.heap.size, k * 3 + 2, none⟩ = false := own_free p1 _
      have p2 : (((w2.setCell ⟨w.heap.size, k * 3, none⟩ (.int .i64 s.kind)).setCell ⟨w.heap.size, k * 3 + 1, none⟩ (.slice pv1 s.names.length cv1)).setCell ⟨w.heap.size, k * 3 + 2, none⟩ (.int .i64 s.events)).ownsRow w.heap.size 78 3 (.slice (some ⟨w.heap.size, 0, none⟩) l.length l.length) l.length (A ++ (.int .i64 s.kind) :: (.slice pv1 s.names.length cv1) :: (.int .i64 s.events) :: R2) := own_at (L := (.int .i64 s.kind) :: (.slice pv1 s.names.length cv1) :: y2 :: R2) p1 hA 2 (.int .i64 s.events)
      have gs : GrownIn w2 (((w2.setCell ⟨w.heap.size, k * 3, none⟩ (.int .i64 s.kind)).setCell ⟨w.heap.size, k * 3 + 1, none⟩ (.slice pv1 s.names.length cv1)).setCell ⟨w.heap.size, k * 3 + 2, none⟩ (.int .i64 s.events)) [w.heap.size] := (((GrownIn.refl w2 [w.heap.size]).trans (GrownIn.set (by simp))).trans (GrownIn.set (by simp))).trans (GrownIn.set (by simp))
      have lo1 : ∀ q ∈ f1, wr.heap.size ≤ q := fun q hq => lo q (by simp [hq])
      have I1 := Lib.hid (LfIn.away i1 gs (fun q hq hm => by have := lo1 q hq; simp at hm; omega))
      have IA := Lib.hid (LsIn.apart hin2 gs (fun q hq hm => by have := hlow q hq; simp at hm; omega))
      have hb3 := GrownIn.below hb2 gs hb2.size (fun q hq => by simp at hq; omega)
      have hz3 : w.heap.size < (((w2.setCell ⟨w.heap.size, k * 3, none⟩ (.int .i64 s.kind)).setCell ⟨w.heap.size, k * 3 + 1, none⟩ (.slice pv1 s.names.length cv1)).setCell ⟨w.heap.size, k * 3 + 2, none⟩ (.int .i64 s.events)).heap.size := Nat.lt_of_lt_of_le (Nat.lt_of_lt_of_le hzr hz2) gs.size
      have PP := Lib.hid p2
      clear hown2 hin2 hb2 gs p0 p1 p2 i1
      go_wp2
      go_roundw
      case rel =>
        refine ⟨k + 1, A ++ [(.int .i64 s.kind), (.slice pv1 s.names.length cv1), (.int .i64 s.events)], R2, fq ++ (f1), by omega, by go_num, by simp; omega, by simpa using PP.out, ?_, ?_, ?_, hb3, hz3⟩
        · rw [HTK.out]
          exact LsIn.append.2 ⟨A, _, fq, _, rfl, IA.out, Scp.in_mk (h1 := I1.out), rfl⟩
        · exact List.nodup_append.2 ⟨hnd, nd, fun x hx y hy e => by have h1 := hqz x hx; have h2 := lo y hy; omega⟩
        · intro q hq
          rcases List.mem_append.1 hq with hq | hq
          · exact hlow q hq
          · have := lo q hq; omega
      case measure => simp [intOf]; omega
    · obtain rfl : k = l.length := by omega
      have hR0 : R = [] := by
        have := hown.1
        rw [List.length_append, hA] at this
        exact List.eq_nil_of_length_eq_zero (by omega)
      subst hR0
      rw [List.append_nil] at hown
      rw [List.take_length] at hin
      have hT : Tree wr w.heap.size (scpsLf l) (.slice (some ⟨w.heap.size, 0, none⟩) l.length l.length) (w.heap.size :: fq) := by
        refine ⟨⟨flat_lenM Scp.len l, A, fq, own_base hown, hin, rfl⟩, List.nodup_cons.2 ⟨fun hm => by have := hlow _ hm; omega, hnd⟩, fun q hq => ?_⟩
        rcases List.mem_cons.1 hq with rfl | hq
        · exact Nat.le_refl _
        · exact Nat.le_of_lt (hlow q hq)
      have HT := Lib.hid hT
      clear hT hown hin hA
      go_wp2
      go_ret
      exact ⟨_, _, rfl, HT.out, hbr⟩

set_option maxRecDepth 20000 in
set_option maxHeartbeats 6400000 in
theorem markScopeS_g (v : Value) (l : List Scp) (kk : Int) (k : Nat) (hkk : kk = (k : Int)) (fp : List Nat) (w : World) (hi : LfIn w (scpsLf l) v fp) (hnd : fp.Nodup) (hk : k + cntLf (scpsLf l) ≤ 1000000000000) (hs : szLf (scpsLf l) ≤ 1000000000000) :
    Calls Tryz.prog 73 #[v, .int .i64 kk] w fun e w' => e = .returned (.int .i64 ((k + cntLf (scpsLf l) : Nat) : Int)) ∧ LfIn w' (markLf (scpsLf l) k).1 v fp ∧ GrownIn w w' fp := by
  subst hkk
  have hs2 : l.length + szLs (l.flatMap Scp.lf) ≤ 1000000000000 := hs
  have hll : l.length ≤ 1000000000000 := by omega
  have HSZ := Lib.hid hs2
  have HCN := Lib.hid (show k + cntLs (l.flatMap Scp.lf) ≤ 1000000000000 from hk)
  clear hk hs hs2
  obtain ⟨hfl, xs, fq, hown0, hin0, rfl⟩ := hi
  have hex : ∃ p c, v = .slice p l.length c ∧ (0 < l.length → ∃ g, p = some ⟨g, 0, none⟩) := by
    rcases h : hown0.2 with ⟨hv, h0⟩ | ⟨g, cap, cur, hv, _⟩
    · exact ⟨none, 0, by rw [hv, h0], fun h => by omega⟩
    · exact ⟨_, cap, hv, fun _ => ⟨g, rfl⟩⟩
  obtain ⟨p, c, rfl, hp⟩ := hex
  have HP := Lib.hid hp
  have HND := Lib.hid hnd
  clear hp hnd hfl
  generalize hFP : (Value.slice p l.length c).ownBlock.toList ++ fq = fp at *
  have HFP := Lib.hid hFP
  clear hFP
  go_enter Tryz.func73, Tryz.ntmps73
  go_wp2
  go_loopw [1, 5] (fun kk i wr => ∃ (j q : Nat) (A R : List Value) (fA fR : List Nat), j ≤ l.length ∧ i = .int .i64 j ∧ kk = .int .i64 (q : Int) ∧ q = k + cntLs ((l.take j).flatMap Scp.lf) ∧ A.length = j * 3 ∧ wr.ownsRow 0 78 3 (.slice p l.length c) l.length (A ++ R) ∧ LsIn wr (markLs ((l.take j).flatMap Scp.lf) k).1 A fA ∧ LsIn wr ((l.drop j).flatMap Scp.lf) R fR ∧ fA ++ fR = fq ∧ GrownIn w wr fp) (fun _ i _ => l.length - (intOf i).toNat)
  case atStart => exact ⟨0, k, [], xs, [], fq, by omega, rfl, rfl, by simp [cntLs], by simp, hown0, ⟨rfl, rfl⟩, hin0, rfl, GrownIn.refl _ _⟩
  case round =>
    obtain ⟨j, q, A, R, fA, fR, hj, rfl, rfl, hq, hA, hown, hiA, hiR, hff, hgr⟩ := hrel
    clear hown0 hin0
    by_cases hlt : j < l.length
    · obtain ⟨g, rfl⟩ := HP.out (by omega)
      obtain ⟨s, hs⟩ : ∃ s, l[j]? = some s := ⟨_, List.getElem?_eq_getElem hlt⟩
      have hdr : l.drop j = s :: l.drop (j + 1) := by
        obtain ⟨h1, h2⟩ := List.getElem?_eq_some_iff.1 hs
        rw [List.drop_eq_getElem_cons h1, h2]
      rw [hdr, List.flatMap_cons] at hiR
      obtain ⟨u1, R2, f_, f2, rfl, hi1, hiR2, rfl⟩ := LsIn.append.1 hiR
      obtain ⟨r1, f1, rfl, i1, hfq⟩ := Scp.in_of hi1
      have hfq2 := hfq.symm
      clear hfq
      subst hfq2
      obtain ⟨pv1, cv1, rfl⟩ := LfIn.slice i1
      simp only [List.cons_append, List.nil_append] at hown
      have HMK := Lib.hid (show (markLs ((l.take (j + 1)).flatMap Scp.lf) k).1 = (markLs ((l.take j).flatMap Scp.lf) k).1 ++ (markLs s.lf q).1 by rw [flat_take_succ Scp.lf hs, markLs_app, hq])
      have HEN := Lib.hid (show k + cntLs ((l.take (j + 1)).flatMap Scp.lf) = q + cntLs s.lf by rw [flat_take_succ Scp.lf hs, cntLs_append, hq]; omega)
      have hcb : q + cntLs s.lf ≤ 1000000000000 := by have h1 := cntLs_flat_take Scp.lf l (j + 1); have h2 := HEN.out; have h3 := HCN.out; omega
      rw [Scp.cnt] at hcb
      have hsb : szLs s.lf ≤ 1000000000000 := by have h1 := szLs_mem Scp.lf (List.mem_of_getElem? hs); have h2 := HSZ.out; omega
      rw [Scp.sz] at hsb
      have hnd2 : (g :: (fA ++ (f1 ++ f2))).Nodup := by have h1 := HND.out; have h2 := HFP.out; rw [← hff] at h2; rw [← h2] at h1; exact h1
      obtain ⟨hg0, hn0⟩ := List.nodup_cons.1 hnd2
      obtain ⟨dA, _, hn1⟩ := nd_parts hn0
      obtain ⟨dF, hnr, _⟩ := nd_parts hn1
      have nd_1 := hnr
      have gA : g ∉ fA := fun hm => hg0 (by simp [hm])
      have gF : g ∉ f2 := fun hm => hg0 (by simp [hm])
      have g_1 : g ∉ f1 := fun hm => hg0 (by simp [hm])
      have dA_1 : ∀ q ∈ fA, q ∉ f1 := fun q hq hm => dA q hq (by simp [hm])
      have dF_1 : ∀ q ∈ f2, q ∉ f1 := fun q hq hm => dF q (by simp [hm]) hq
      have hgf : g ∈ fp := by rw [← HFP.out]; simp [Value.ownBlock]
      have hf_1 : ∀ q ∈ f1, q ∈ fp := fun q hq => by rw [← HFP.out, ← hff]; simp [hq]
      have HQ := Lib.hid hq
      have HFF := Lib.hid hff
      have HCB := Lib.hid hcb
      have HSB := Lib.hid hsb
      have hqb : q ≤ 1000000000000 := by omega
      clear hq hff hcb hsb hs hdr hi1 hiR hnd2 hn0 hn1 hnr HP
      have c0 := own_cell (L := (.int .i64 s.kind) :: (.slice pv1 s.names.length cv1) :: (.int .i64 s.events) :: R2) hown hA 0 _ rfl
      have z0 : wr.frozen? ⟨g, j * 3, none⟩ = false := own_free hown _
      rw [Nat.add_zero] at c0
      have p0 : (wr.setCell ⟨g, j * 3, none⟩ (.int .i64 (q : Int))).ownsRow 0 78 3 (.slice (some ⟨g, 0, none⟩) l.length c) l.length (A ++ (.int .i64 (q : Int)) :: (.slice pv1 s.names.length cv1) :: (.int .i64 s.events) :: R2) := own_at (L := (.int .i64 s.kind) :: (.slice pv1 s.names.length cv1) :: (.int .i64 s.events) :: R2) hown hA 0 (.int .i64 (q : Int))
      have c1 := own_cell (L := (.int .i64 (q : Int)) :: (.slice pv1 s.names.length cv1) :: (.int .i64 s.events) :: R2) p0 hA 1 _ rfl
      have gs : GrownIn wr (wr.setCell ⟨g, j * 3, none⟩ (.int .i64 (q : Int))) [g] := (GrownIn.refl wr [g]).trans (GrownIn.set (by simp))
      replace hiA := LsIn.apart hiA gs (fun q hq hm => by simp at hm; exact gA (hm ▸ hq))
      replace hiR2 := LsIn.apart hiR2 gs (fun q hq hm => by simp at hm; exact gF (hm ▸ hq))
      replace i1 := LfIn.away i1 gs (fun q hq hm => by simp at hm; exact g_1 (hm ▸ hq))
      replace hgr := hgr.trans (gs.mono (fun q hq => by simp at hq; exact hq ▸ hgf))
      clear gs
      have PP := Lib.hid p0
      have IA := Lib.hid hiA
      have IR := Lib.hid hiR2
      have GR := Lib.hid hgr
      have I1 := Lib.hid i1
      clear hiA hiR2 hgr hown p0 i1
      go_wp2_with fail
      refine (markStringS_g _ s.names ((q : Int) + 1) (q + 1) (by omega) f1 _ I1.out nd_1 (by have := HCB.out; omega) (by have := HSB.out; omega)).mono ?_
      rintro e w1 ⟨rfl, ii, gb⟩
      have hiA := IA.out
      have hiR2 := IR.out
      have hgr := GR.out
      have hown := PP.out
      clear IA IR GR PP c0 z0 c1
      have i1 := I1.out
      clear I1
      replace hown := own_apart hown gb (fun y hy hm => by injection hy with hy; subst hy; exact g_1 hm)
      replace hiA := LsIn.apart hiA gb dA_1
      replace hiR2 := LsIn.apart hiR2 gb dF_1
      replace hgr := hgr.trans (gb.mono hf_1)
      replace i1 := ii
      clear gb
      obtain ⟨q1, hq1⟩ : ∃ y, y = (q + 1) + cntLf (strsLf s.names) := ⟨_, rfl⟩
      rw [← hq1]
      have hqb1 : q1 ≤ 1000000000000 := by have := HCB.out; omega
      have HQ1 := Lib.hid hq1
      clear hq1
      have c2 := own_cell (L := (.int .i64 (q : Int)) :: (.slice pv1 s.names.length cv1) :: (.int .i64 s.events) :: R2) hown hA 2 _ rfl
      have z2 : w1.frozen? ⟨g, j * 3 + 2, none⟩ = false := own_free hown _
      have p2 : (w1.setCell ⟨g, j * 3 + 2, none⟩ (.int .i64 (q1 : Int))).ownsRow 0 78 3 (.slice (some ⟨g, 0, none⟩) l.length c) l.length (A ++ (.int .i64 (q : Int)) :: (.slice pv1 s.names.length cv1) :: (.int .i64 (q1 : Int)) :: R2) := own_at (L := (.int .i64 (q : Int)) :: (.slice pv1 s.names.length cv1) :: (.int .i64 s.events) :: R2) hown hA 2 (.int .i64 (q1 : Int))
      have gs : GrownIn w1 (w1.setCell ⟨g, j * 3 + 2, none⟩ (.int .i64 (q1 : Int))) [g] := (GrownIn.refl w1 [g]).trans (GrownIn.set (by simp))
      replace hiA := LsIn.apart hiA gs (fun q hq hm => by simp at hm; exact gA (hm ▸ hq))
      replace hiR2 := LsIn.apart hiR2 gs (fun q hq hm => by simp at hm; exact gF (hm ▸ hq))
      replace i1 := LfIn.away i1 gs (fun q hq hm => by simp at hm; exact g_1 (hm ▸ hq))
      replace hgr := hgr.trans (gs.mono (fun q hq => by simp at hq; exact hq ▸ hgf))
      clear gs
      have PP := Lib.hid p2
      have IA := Lib.hid hiA
      have IR := Lib.hid hiR2
      have GR := Lib.hid hgr
      have I1 := Lib.hid i1
      clear hiA hiR2 hgr hown p2 i1
      go_wp2
      go_roundw
      case rel =>
        have e1 := HQ1.out
        refine ⟨j + 1, q + cntLs s.lf, A ++ [(.int .i64 (q : Int)), (.slice pv1 s.names.length cv1), (.int .i64 (q1 : Int))], R2, fA ++ f1, f2, by omega, by go_num, ?_, HEN.out.symm, by simp; omega, by simpa using PP.out, ?_, IR.out, by rw [List.append_assoc]; exact HFF.out, GR.out⟩
        · rw [Scp.cnt]
          congr 1 <;> omega
        · rw [HMK.out, Scp.mark]
          subst e1
          exact LsIn.append.2 ⟨A, _, fA, _, rfl, IA.out, Scp.in_mk (h1 := I1.out), rfl⟩
      case measure => simp [intOf]; omega
    · obtain rfl : j = l.length := by omega
      have hR0 : R = [] ∧ fR = [] := by rw [List.drop_length] at hiR; exact hiR
      obtain ⟨rfl, rfl⟩ := hR0
      rw [List.append_nil] at hown hff
      rw [List.take_length] at hiA hq
      subst hff
      have HT := Lib.hid (show LfIn wr (markLf (scpsLf l) k).1 (.slice p l.length c) fp from ⟨by rw [markLs_length]; exact flat_lenM Scp.len l, A, fA, own_base hown, hiA, HFP.out.symm⟩)
      have HV := Lib.hid (show q = k + cntLf (scpsLf l) from hq)
      clear hiA hiR hown hA hq
      go_wp2
      go_ret
      exact ⟨by rw [HV.out]; rfl, HT.out, hgr⟩

end Go.Proofs.YtidjebepgpbcnaaGreatDoor

namespace Go.Proofs.YtidjebepgpbcnaaGreatDoor
open Go.RowKit

def Flt.lf (x : Flt) : List Lf := [.bool x.on, scpsLf x.scopes]
theorem Flt.len (x : Flt) : x.lf.length = 2 := rfl
def filtersLf (l : List Flt) : Lf := .rows 34 2 l.length (l.flatMap Flt.lf)
theorem Flt.fit (x : Flt) : LsFit x.lf := ⟨trivial, scpsLf_fit x.scopes, trivial⟩
theorem filtersLf_fit (l : List Flt) : LfFit (filtersLf l) := ⟨by omega, flat_lenM Flt.len l, LsFit.flat Flt.fit l⟩
theorem Flt.sz (x : Flt) : szLs x.lf = szLf (scpsLf x.scopes) := by simp only [Flt.lf, szLs, szLf_bool] <;> omega
theorem Flt.cnt (x : Flt) : cntLs x.lf = 1 + cntLf (scpsLf x.scopes) := by simp only [Flt.lf, cntLs, cntLf_bool] <;> omega
theorem Flt.rd {W : World} {x : Flt} {vs : List Value} : LsRd W x.lf vs ↔ ∃ r1, vs = [.bool x.on, r1] ∧ LfRd W (scpsLf x.scopes) r1 := by
  constructor
  · rintro ⟨a0, s0, rfl, h0, a1, s1, rfl, h1, rfl⟩
    exact ⟨a1, by rw [h0], h1⟩
  · rintro ⟨r1, rfl, h1⟩
    exact ⟨_, _, rfl, rfl, _, _, rfl, h1, rfl⟩
theorem Flt.mark (x : Flt) (k : Nat) : (markLs x.lf k).1 = [.bool ((k) % 3 == 0), (markLf (scpsLf x.scopes) (k + 1)).1] := by simp only [Flt.lf, markLs, markLf_bool, markLf_cnt]
theorem Flt.rdm {W : World} {x : Flt} {k : Nat} {vs : List Value} : LsRd W (markLs x.lf k).1 vs ↔ ∃ r1, vs = [.bool ((k) % 3 == 0), r1] ∧ LfRd W (markLf (scpsLf x.scopes) (k + 1)).1 r1 := by
  rw [Flt.mark]
  constructor
  · rintro ⟨a0, s0, rfl, h0, a1, s1, rfl, h1, rfl⟩
    exact ⟨a1, by rw [h0], h1⟩
  · rintro ⟨r1, rfl, h1⟩
    exact ⟨_, _, rfl, rfl, _, _, rfl, h1, rfl⟩
theorem Flt.in_of {W : World} {z0 : Bool} {z1 : Lf} {vs : List Value} {fp : List Nat} (h : LsIn W [.bool z0, z1] vs fp) : ∃ r1 f1, vs = [.bool z0, r1] ∧ LfIn W z1 r1 f1 ∧ fp = f1 := by
  obtain ⟨a0, s0, f0, g0, rfl, h0, ⟨a1, s1, f1, g1, rfl, h1, ⟨rfl, rfl⟩, rfl⟩, rfl⟩ := h
  exact ⟨a1, f1, by rw [h0.1], h1, by rw [h0.2]; simp⟩
theorem Flt.in_mk {W : World} {z0 : Bool} {z1 : Lf} {r1 : Value} {f1 : List Nat} (h1 : LfIn W z1 r1 f1) : LsIn W [.bool z0, z1] [.bool z0, r1] (f1) := by
  have h : LsIn W [.bool z0, z1] [.bool z0, r1] ([] ++ (f1 ++ ([]))) := ⟨_, _, [], _, rfl, ⟨rfl, rfl⟩, ⟨_, _, f1, _, rfl, h1, ⟨rfl, rfl⟩, rfl⟩, rfl⟩
  simpa using h

theorem Flt.at {W : World} {l : List Flt} {v : Value} (h : LfRd W (filtersLf l) v) : ∃ p cap, v = .slice p l.length cap ∧ (l = [] ∨ ∃ b off, p = some ⟨b, off, none⟩ ∧ b < W.heap.size ∧ ∀ i x, l[i]? = some x → ∃ r1, LfRd W (scpsLf x.scopes) r1 ∧ W.cell? ⟨b, off + i * 2, none⟩ = some (.bool x.on) ∧ W.cell? ⟨b, off + i * 2 + 1, none⟩ = some (r1)) := by
  obtain ⟨p, cap, hv, hc⟩ := rows_at Flt.len h
  refine ⟨p, cap, hv, hc.imp id fun ⟨b, off, hp, hlt, hc⟩ => ⟨b, off, hp, hlt, fun i x hi => ?_⟩⟩
  obtain ⟨us, h1, h2⟩ := hc i x hi
  obtain ⟨r1, rfl, k1⟩ := Flt.rd.1 h1
  exact ⟨r1, k1, h2 0 _ rfl, h2 1 _ rfl⟩
theorem Flt.atm {W : World} {l : List Flt} {v : Value} {k0 : Nat} (h : LfRd W (markLf (filtersLf l) k0).1 v) : ∃ p cap, v = .slice p l.length cap ∧ (l = [] ∨ ∃ b off, p = some ⟨b, off, none⟩ ∧ b < W.heap.size ∧ ∀ i x k, l[i]? = some x → k = k0 + cntLs ((l.take i).flatMap Flt.lf) → ∃ r1, LfRd W (markLf (scpsLf x.scopes) (k + 1)).1 r1 ∧ W.cell? ⟨b, off + i * 2, none⟩ = some (.bool ((k) % 3 == 0)) ∧ W.cell? ⟨b, off + i * 2 + 1, none⟩ = some (r1)) := by
  obtain ⟨p, cap, hv, hc⟩ := rows_at_mark Flt.len h
  refine ⟨p, cap, hv, hc.imp id fun ⟨b, off, hp, hlt, hc⟩ => ⟨b, off, hp, hlt, fun i x k hi hk => ?_⟩⟩
  obtain ⟨us, h1, h2⟩ := hc i x hi
  rw [← hk] at h1
  obtain ⟨r1, rfl, k1⟩ := Flt.rdm.1 h1
  exact ⟨r1, k1, h2 0 _ rfl, h2 1 _ rfl⟩

set_option maxHeartbeats 1600000 in
theorem szFilter_g (x : Flt) (r1 : Value) (ll : Int) (left : Nat) (hll : ll = (left : Int)) (w : World) (h1 : LfRd w (scpsLf x.scopes) r1) (hin : LsBnd x.lf) (hL : left ≤ 1000000000000) :
    Calls Tryz.prog 17 #[.agg #[.bool x.on, r1], .int .i64 ll] w fun e w' => e = .returned (.int .i64 (szN left (szLs x.lf))) ∧ Below w.heap.size w w' := by
  subst hll
  have hr1 := h1
  obtain ⟨p1, c1, rfl⟩ := LfRd.slice h1
  have hb1 : Below w.heap.size w (w.alloc (.cells #[.bool x.on, (.slice p1 x.scopes.length c1)] 25)) := (Below.refl _ _).alloc (Nat.le_refl _) _
  have HA1 := Lib.hid (heap_alloc_new w (.cells #[.bool x.on, (.slice p1 x.scopes.length c1)] 25))
  have hsz := Flt.sz x
  have bi_1 : LfBnd (scpsLf x.scopes) := hin.2.1
  clear hin
  by_cases k0 : szLf (scpsLf x.scopes) ≤ left
  · obtain ⟨L1, hL1⟩ : ∃ L, L + szLf (scpsLf x.scopes) = left := ⟨left - szLf (scpsLf x.scopes), by omega⟩
    have q1 := fun (ll : Int) (W : World) (hl : ll = (left : Int)) (g : LfRd W (scpsLf x.scopes) (.slice p1 x.scopes.length c1)) => szScopeS_g (.slice p1 x.scopes.length c1) x.scopes ll left hl W g bi_1 (by omega)
    simp only [show szN left (szLf (scpsLf x.scopes)) = (L1 : Int) from by rw [szN_yes k0]; omega] at q1
    have C1 := Lib.hid q1
    clear q1
    have n0 : ¬ (L1 : Int) < 0 := by omega
    have bL1 : L1 ≤ 1000000000000 := by omega
    have HL1 := Lib.hid hL1
    have HV := Lib.hid (show szN left (szLs x.lf) = (L1 : Int) by rw [hsz, szN_yes (by omega)]; omega)
    clear hsz hL1

    go_enter Tryz.func17, Tryz.ntmps17
    go_wp2_with fail
    refine (C1.out _ _ (by have e1 := HL1.out; omega) (LfRd.below hb1 _ _ hr1)).mono ?_
    rintro e w2 ⟨rfl, b2⟩
    have hb2 := hb1.trans (b2.mono hb1.size)
    have HA2 := Lib.hid ((b2.block w.heap.size (by simp)).trans HA1.out)
    have hz2 : w.heap.size < w2.heap.size := (Array.getElem?_eq_some_iff.1 HA2.out).1
    go_wp2
    go_ret
    exact ⟨by rw [HV.out]; rfl, hb2⟩
  · have HV := Lib.hid (show szN left (szLs x.lf) = -1 by rw [hsz]; exact szN_no (by omega))
    have q1 := fun (ll : Int) (W : World) (hl : ll = (left : Int)) (g : LfRd W (scpsLf x.scopes) (.slice p1 x.scopes.length c1)) => szScopeS_g (.slice p1 x.scopes.length c1) x.scopes ll left hl W g bi_1 (by omega)
    simp only [show szN left (szLf (scpsLf x.scopes)) = -1 from szN_no k0] at q1
    have C1 := Lib.hid q1
    clear q1
    clear hsz

    go_enter Tryz.func17, Tryz.ntmps17
    go_wp2_with fail
    refine (C1.out _ _ (by omega) (LfRd.below hb1 _ _ hr1)).mono ?_
    rintro e w2 ⟨rfl, b2⟩
    have hb2 := hb1.trans (b2.mono hb1.size)
    have HA2 := Lib.hid ((b2.block w.heap.size (by simp)).trans HA1.out)
    have hz2 : w.heap.size < w2.heap.size := (Array.getElem?_eq_some_iff.1 HA2.out).1
    go_wp2
    go_ret
    exact ⟨by rw [HV.out]; rfl, hb2⟩

set_option maxHeartbeats 1600000 in
theorem eqFilter_g (x : Flt) (ra1 rb1 : Value) (w : World) (ha1 : LfRd w (scpsLf x.scopes) ra1) (hb1 : LfRd w (scpsLf x.scopes) rb1) (hs : szLs x.lf ≤ 1000000000000) :
    Calls Tryz.prog 36 #[.agg #[.bool x.on, ra1], .agg #[.bool x.on, rb1]] w fun e w' => e = .returned (.bool true) ∧ Below w.heap.size w w' := by
  have ne_on : (x.on != x.on) = false := by simp
  have hra1 := ha1
  have hrb1 := hb1
  obtain ⟨p1a, c1a, rfl⟩ := LfRd.slice ha1
  obtain ⟨p1b, c1b, rfl⟩ := LfRd.slice hb1
  have hb1 : Below w.heap.size w ((w.alloc (.cells #[.bool x.on, (.slice p1a x.scopes.length c1a)] 34)).alloc (.cells #[.bool x.on, (.slice p1b x.scopes.length c1b)] 34)) := ((Below.refl _ _).alloc (Nat.le_refl _) _).alloc (by simp) _
  have HA1 := Lib.hid (show ((w.alloc (.cells #[.bool x.on, (.slice p1a x.scopes.length c1a)] 34)).alloc (.cells #[.bool x.on, (.slice p1b x.scopes.length c1b)] 34)).heap[w.heap.size]? = some (.cells #[.bool x.on, (.slice p1a x.scopes.length c1a)] 34 (0, 0)) from (Below.heap_alloc _ _ _ (by simp)).trans (heap_alloc_new w _))
  have HB1 := Lib.hid (show ((w.alloc (.cells #[.bool x.on, (.slice p1a x.scopes.length c1a)] 34)).alloc (.cells #[.bool x.on, (.slice p1b x.scopes.length c1b)] 34)).heap[w.heap.size + 1]? = some (.cells #[.bool x.on, (.slice p1b x.scopes.length c1b)] 34 (0, 0)) from by
    have := heap_alloc_new (w.alloc (.cells #[.bool x.on, (.slice p1a x.scopes.length c1a)] 34)) (.cells #[.bool x.on, (.slice p1b x.scopes.length c1b)] 34)
    rwa [World.size_alloc] at this)
  have hz1 : ((w.alloc (.cells #[.bool x.on, (.slice p1a x.scopes.length c1a)] 34)).alloc (.cells #[.bool x.on, (.slice p1b x.scopes.length c1b)] 34)).heap.size = w.heap.size + 2 := by simp
  have HZ1 := Lib.hid (Nat.le_of_eq hz1.symm)
  clear hz1
  have hsz := Flt.sz x
  have C1 := Lib.hid (fun W (g : LfRd W (scpsLf x.scopes) (.slice p1a x.scopes.length c1a)) (g2 : LfRd W (scpsLf x.scopes) (.slice p1b x.scopes.length c1b)) => eqScopeS_g _ _ x.scopes W g g2 (by omega))
  clear hs hsz
  go_enter Tryz.func36, Tryz.ntmps36
  go_wp2_with fail
  refine (C1.out _ (LfRd.below hb1 _ _ hra1) (LfRd.below hb1 _ _ hrb1)).mono ?_
  rintro e w2 ⟨rfl, b2⟩
  have hb2 := hb1.trans (b2.mono hb1.size)
  have HZ2 := Lib.hid (Nat.le_trans HZ1.out b2.size)
  have HA2 := Lib.hid ((b2.block w.heap.size (by have := HZ1.out; omega)).trans HA1.out)
  have HB2 := Lib.hid ((b2.block (w.heap.size + 1) (by have := HZ1.out; omega)).trans HB1.out)
  clear b2
  go_wp2
  go_ret
  exact ⟨rfl, hb2⟩

set_option maxRecDepth 20000 in
set_option maxHeartbeats 6400000 in
theorem toFilter_g (x : Flt) (r1 : Value) (w : World) (h1 : LfRd w (scpsLf x.scopes) r1) (hs : szLs x.lf ≤ 10000000) :
    Calls Tryz.prog 29 #[.agg #[.bool x.on, r1]] w fun e w' => ∃ v1 f1, e = .returned (.agg #[.bool x.on, v1]) ∧ LfIn w' (scpsLf x.scopes) v1 f1 ∧ (f1).Nodup ∧ (∀ q ∈ f1, w.heap.size ≤ q) ∧ Below w.heap.size w w' := by
  have HR1 := Lib.hid h1
  obtain ⟨p1, c1, rfl⟩ := LfRd.slice h1
  have hsz := Flt.sz x
  have C1 := Lib.hid (fun W (g : LfRd W (scpsLf x.scopes) (.slice p1 x.scopes.length c1)) => toScopeS_g _ x.scopes W g (by omega))
  clear hs hsz h1
  go_enter Tryz.func29, Tryz.ntmps29
  have HA := Lib.hid (heap_alloc_new w (.cells #[.bool x.on, (.slice p1 x.scopes.length c1)] 25))
  go_wp2_with fail
  have hb : Below w.heap.size w (((w.alloc (.cells #[.bool x.on, (.slice p1 x.scopes.length c1)] 25)).alloc (.cells #[.bool false, .slice none 0 0] 34)).alloc (.cells #[.bool x.on, .slice none 0 0] 34)) := (((Below.refl _ _).alloc (Nat.le_refl _) _).alloc (by simp) _).alloc (by simp; omega) _
  have hA : (((w.alloc (.cells #[.bool x.on, (.slice p1 x.scopes.length c1)] 25)).alloc (.cells #[.bool false, .slice none 0 0] 34)).alloc (.cells #[.bool x.on, .slice none 0 0] 34)).heap[w.heap.size]? = some (.cells #[.bool x.on, (.slice p1 x.scopes.length c1)] 25 (0, 0)) := ((Below.heap_alloc _ _ _ (by simp; omega)).trans (Below.heap_alloc _ _ _ (by simp))).trans HA.out
  have hR : (((w.alloc (.cells #[.bool x.on, (.slice p1 x.scopes.length c1)] 25)).alloc (.cells #[.bool false, .slice none 0 0] 34)).alloc (.cells #[.bool x.on, .slice none 0 0] 34)).heap[w.heap.size + 1]? = some (.cells #[.bool false, .slice none 0 0] 34 (0, 0)) := (Below.heap_alloc _ _ _ (by simp)).trans (by have := heap_alloc_new (w.alloc (.cells #[.bool x.on, (.slice p1 x.scopes.length c1)] 25)) (.cells #[.bool false, .slice none 0 0] 34); rwa [World.size_alloc] at this)
  have hT : (((w.alloc (.cells #[.bool x.on, (.slice p1 x.scopes.length c1)] 25)).alloc (.cells #[.bool false, .slice none 0 0] 34)).alloc (.cells #[.bool x.on, .slice none 0 0] 34)).heap[w.heap.size + 1 + 1]? = some (.cells #[.bool x.on, .slice none 0 0] 34 (0, 0)) := by
    have := heap_alloc_new ((w.alloc (.cells #[.bool x.on, (.slice p1 x.scopes.length c1)] 25)).alloc (.cells #[.bool false, .slice none 0 0] 34)) (.cells #[.bool x.on, .slice none 0 0] 34)
    rwa [World.size_alloc, World.size_alloc] at this
  have hz : w.heap.size + 3 ≤ (((w.alloc (.cells #[.bool x.on, (.slice p1 x.scopes.length c1)] 25)).alloc (.cells #[.bool false, .slice none 0 0] 34)).alloc (.cells #[.bool x.on, .slice none 0 0] 34)).heap.size := by simp
  generalize (((w.alloc (.cells #[.bool x.on, (.slice p1 x.scopes.length c1)] 25)).alloc (.cells #[.bool false, .slice none 0 0] 34)).alloc (.cells #[.bool x.on, .slice none 0 0] 34)) = W0 at *
  clear HA
  refine (C1.out _ (LfRd.below hb _ _ HR1.out)).mono ?_
  rintro e w1 ⟨v1, f1, rfl, t1, b1⟩
  have i1 := t1.is
  have n1 := t1.nodup
  have l1 : ∀ q ∈ f1, w.heap.size + 3 ≤ q := fun q hq => by have := t1.low q hq; omega
  obtain ⟨pv1, cv1, rfl⟩ := LfIn.slice i1
  clear t1
  replace hA := (b1.block (w.heap.size) (by omega)).trans hA
  replace hR := (b1.block (w.heap.size + 1) (by omega)).trans hR
  replace hT := (b1.block (w.heap.size + 1 + 1) (by omega)).trans hT
  have nn := n1
  replace hb := hb.trans (b1.mono hb.size)
  replace hz := Nat.le_trans hz b1.size
  clear b1
  have ce1 : w1.cell? ⟨w.heap.size + 1 + 1, 1, none⟩ = some (.slice none 0 0) := (Lib.cell_of_heap hT 1).trans rfl
  have ge1 : w1.frozen? ⟨w.heap.size + 1 + 1, 1, none⟩ = false := Lib.frozen_of_heap hT 1
  have hT1 : (w1.setCell ⟨w.heap.size + 1 + 1, 1, none⟩ (.slice pv1 x.scopes.length cv1)).heap[w.heap.size + 1 + 1]? = some (.cells #[.bool x.on, (.slice pv1 x.scopes.length cv1)] 34 (0, 0)) := set_heap hT
  have hA1 : (w1.setCell ⟨w.heap.size + 1 + 1, 1, none⟩ (.slice pv1 x.scopes.length cv1)).heap[w.heap.size]? = some (.cells #[.bool x.on, (.slice p1 x.scopes.length c1)] 25 (0, 0)) := (set_other (by omega)).trans hA
  have hR1 : (w1.setCell ⟨w.heap.size + 1 + 1, 1, none⟩ (.slice pv1 x.scopes.length cv1)).heap[w.heap.size + 1]? = some (.cells #[.bool false, .slice none 0 0] 34 (0, 0)) := (set_other (by omega)).trans hR
  have gs : GrownIn w1 (w1.setCell ⟨w.heap.size + 1 + 1, 1, none⟩ (.slice pv1 x.scopes.length cv1)) [w.heap.size + 1 + 1] := (GrownIn.refl w1 [w.heap.size + 1 + 1]).trans (GrownIn.set (by simp))
  replace i1 := LfIn.away i1 gs (fun k hk hm => by have := l1 k hk; simp at hm; omega)
  replace hb := GrownIn.below hb gs hb.size (fun k hk => by simp at hk; omega)
  replace hz := Nat.le_trans hz gs.size
  clear hA hR hT gs
  have hA := hA1
  have hR := hR1
  have hT := hT1
  clear hA1 hR1 hT1
  generalize hW1 : (w1.setCell ⟨w.heap.size + 1 + 1, 1, none⟩ (.slice pv1 x.scopes.length cv1)) = W1 at *
  have d0_ : W1.cell? ⟨w.heap.size + 1 + 1, 0, none⟩ = some (.bool x.on) := (Lib.cell_of_heap hT 0).trans rfl
  have d1_ : W1.cell? ⟨w.heap.size + 1 + 1, 1, none⟩ = some ((.slice pv1 x.scopes.length cv1)) := (Lib.cell_of_heap hT 1).trans rfl
  have r0_ : W1.cell? ⟨w.heap.size + 1, 0, none⟩ = some (.bool false) := (Lib.cell_of_heap hR 0).trans rfl
  have q0_ : W1.frozen? ⟨w.heap.size + 1, 0, none⟩ = false := Lib.frozen_of_heap hR 0
  have hR0 : (W1.setCell ⟨w.heap.size + 1, 0, none⟩ (.bool x.on)).heap[w.heap.size + 1]? = some (.cells #[.bool x.on, .slice none 0 0] 34 (0, 0)) := set_heap hR
  have r1_ : (W1.setCell ⟨w.heap.size + 1, 0, none⟩ (.bool x.on)).cell? ⟨w.heap.size + 1, 1, none⟩ = some (.slice none 0 0) := (Lib.cell_of_heap hR0 1).trans rfl
  have q1_ : W1.frozen? ⟨w.heap.size + 1, 1, none⟩ = false := Lib.frozen_of_heap hR 1
  have hR1 : ((W1.setCell ⟨w.heap.size + 1, 0, none⟩ (.bool x.on)).setCell ⟨w.heap.size + 1, 1, none⟩ (.slice pv1 x.scopes.length cv1)).heap[w.heap.size + 1]? = some (.cells #[.bool x.on, (.slice pv1 x.scopes.length cv1)] 34 (0, 0)) := set_heap hR0
  have s0_ := (Lib.cell_of_heap hR1 0).trans (show _ = some (.bool x.on) from rfl)
  have s1_ := (Lib.cell_of_heap hR1 1).trans (show _ = some ((.slice pv1 x.scopes.length cv1)) from rfl)
  have gs : GrownIn W1 ((W1.setCell ⟨w.heap.size + 1, 0, none⟩ (.bool x.on)).setCell ⟨w.heap.size + 1, 1, none⟩ (.slice pv1 x.scopes.length cv1)) [w.heap.size + 1] := ((GrownIn.refl W1 [w.heap.size + 1]).trans (GrownIn.set (by simp))).trans (GrownIn.set (by simp))
  have I1 := Lib.hid (LfIn.away i1 gs (fun k hk hm => by have := l1 k hk; simp at hm; omega))
  have hbf := GrownIn.below hb gs hb.size (fun k hk => by simp at hk; omega)
  clear hA hR hT gs hb hR0 hR1 i1
  go_wp2
  exact bodyPost_ret (v := .agg #[.bool x.on, (.slice pv1 x.scopes.length cv1)]) (by simp [results, Tryz.results29, go_sem, s0_, s1_]) rfl ⟨_, _, rfl, I1.out, nn, fun q hq => by have := l1 q hq; omega, hbf⟩

set_option maxHeartbeats 1600000 in
theorem markFilter_g (x : Flt) (r1 : Value) (kk : Int) (k : Nat) (hkk : kk = (k : Int)) (f1 : List Nat) (w : World) (h1 : LfIn w (scpsLf x.scopes) r1 f1) (hnd : (f1).Nodup) (hk : k + cntLf (scpsLf x.scopes) ≤ 1000000000000) (hs : szLs x.lf ≤ 1000000000000) :
    Calls Tryz.prog 38 #[.agg #[.bool x.on, r1], .int .i64 kk] w fun e w' => e = .returned (.int .i64 ((k + cntLf (scpsLf x.scopes) : Nat) : Int)) ∧ LfIn w' (markLf (scpsLf x.scopes) (k)).1 r1 f1 ∧ GrownIn w w' (f1) := by
  subst hkk
  have hsz := Flt.sz x
  obtain ⟨p1, c1, rfl⟩ := LfIn.slice h1
  have hb1 : Below w.heap.size w (w.alloc (.cells #[.bool x.on, (.slice p1 x.scopes.length c1)] 34)) := (Below.refl _ _).alloc (Nat.le_refl _) _
  have HA1 := Lib.hid (heap_alloc_new w (.cells #[.bool x.on, (.slice p1 x.scopes.length c1)] 34))
  have u1 : ∀ q ∈ f1, q < w.heap.size := fun q hq => LfIn.lt _ _ _ h1 q hq
  have I1 := Lib.hid (LfIn.below h1 hb1)
  clear h1
  have nd_1 := hnd
  have hg1 : GrownIn w (w.alloc (.cells #[.bool x.on, (.slice p1 x.scopes.length c1)] 34)) (f1) := GrownIn.of_below hb1
  have hz1 : w.heap.size < (w.alloc (.cells #[.bool x.on, (.slice p1 x.scopes.length c1)] 34)).heap.size := by simp
  obtain ⟨q1, hq1⟩ : ∃ q, q = k + cntLf (scpsLf x.scopes) := ⟨_, rfl⟩
  rw [← hq1] at hk
  rw [← hq1]
  have HQ1 := Lib.hid hq1
  have hn1 : ¬ (q1 : Int) < 0 := by omega
  have C1 := Lib.hid (fun (kk : Int) (hkk : kk = (k : Int)) W (h : LfIn W (scpsLf x.scopes) (.slice p1 x.scopes.length c1) f1) => markScopeS_g (.slice p1 x.scopes.length c1) x.scopes kk k hkk f1 W h nd_1 (by omega) (by omega))
  simp only [← hq1] at C1
  clear hk hs hsz hq1
  go_enter Tryz.func38, Tryz.ntmps38
  go_wp2_with fail
  refine (C1.out _ rfl _ I1.out).mono ?_
  rintro e w2 ⟨rfl, i1, g2⟩
  have hg2 := hg1.trans (g2.mono (fun q hq => by simp [hq]))
  have HA2 := Lib.hid ((g2.block w.heap.size (by omega) (fun hm => by have := u1 _ hm; omega)).trans HA1.out)
  have hz2 := Nat.lt_of_lt_of_le hz1 g2.size
  clear I1
  have I1 := Lib.hid i1
  clear i1 g2
  go_wp2
  go_ret
  exact ⟨rfl, I1.out, hg2⟩

end Go.Proofs.YtidjebepgpbcnaaGreatDoor

namespace Go.Proofs.YtidjebepgpbcnaaGreatDoor
open Go.RowKit

structure CmdD where
  tag : List UInt8
  kind : Int
  box : List UInt8
  dst : List UInt8
  uid : Bool
  sset : List Spn
  op : Int
  flags : Int
  text : List UInt8
  filter : Flt

def CmdD.lf (x : CmdD) : List Lf := [.str x.tag, .int x.kind, .str x.box, .str x.dst, .bool x.uid, spnsLf x.sset, .int x.op, .int x.flags, .str x.text, .bool x.filter.on, scpsLf x.filter.scopes]
theorem CmdD.len (x : CmdD) : x.lf.length = 11 := rfl
def commandsLf (l : List CmdD) : Lf := .rows 36 11 l.length (l.flatMap CmdD.lf)
theorem CmdD.fit (x : CmdD) : LsFit x.lf := ⟨trivial, trivial, trivial, trivial, trivial, spnsLf_fit x.sset, trivial, trivial, trivial, trivial, scpsLf_fit x.filter.scopes, trivial⟩
theorem commandsLf_fit (l : List CmdD) : LfFit (commandsLf l) := ⟨by omega, flat_lenM CmdD.len l, LsFit.flat CmdD.fit l⟩
theorem CmdD.sz (x : CmdD) : szLs x.lf = x.tag.length + x.box.length + x.dst.length + szLf (spnsLf x.sset) + x.text.length + szLf (scpsLf x.filter.scopes) := by simp only [CmdD.lf, szLs, szLf_int, szLf_bool, szLf_str] <;> omega
theorem CmdD.cnt (x : CmdD) : cntLs x.lf = 1 + 1 + 1 + 1 + 1 + cntLf (spnsLf x.sset) + 1 + 1 + 1 + 1 + cntLf (scpsLf x.filter.scopes) := by simp only [CmdD.lf, cntLs, cntLf_int, cntLf_bool, cntLf_str] <;> omega
theorem CmdD.rd {W : World} {x : CmdD} {vs : List Value} : LsRd W x.lf vs ↔ ∃ r5, ∃ r10, vs = [sv x.tag, .int .i64 x.kind, sv x.box, sv x.dst, .bool x.uid, r5, .int .i64 x.op, .int .i64 x.flags, sv x.text, .bool x.filter.on, r10] ∧ LfRd W (spnsLf x.sset) r5 ∧ LfRd W (scpsLf x.filter.scopes) r10 := by
  constructor
  · rintro ⟨a0, s0, rfl, h0, a1, s1, rfl, h1, a2, s2, rfl, h2, a3, s3, rfl, h3, a4, s4, rfl, h4, a5, s5, rfl, h5, a6, s6, rfl, h6, a7, s7, rfl, h7, a8, s8, rfl, h8, a9, s9, rfl, h9, a10, s10, rfl, h10, rfl⟩
    exact ⟨a5, a10, by rw [h0, h1, h2, h3, h4, h6, h7, h8, h9], h5, h10⟩
  · rintro ⟨r5, r10, rfl, h5, h10⟩
    exact ⟨_, _, rfl, rfl, _, _, rfl, rfl, _, _, rfl, rfl, _, _, rfl, rfl, _, _, rfl, rfl, _, _, rfl, h5, _, _, rfl, rfl, _, _, rfl, rfl, _, _, rfl, rfl, _, _, rfl, rfl, _, _, rfl, h10, rfl⟩
theorem CmdD.mark (x : CmdD) (k : Nat) : (markLs x.lf k).1 = [.str (markB (k)), .int ((k + 1 : Nat) : Int), .str (markB (k + 1 + 1)), .str (markB (k + 1 + 1 + 1)), .bool ((k + 1 + 1 + 1 + 1) % 3 == 0), (markLf (spnsLf x.sset) (k + 1 + 1 + 1 + 1 + 1)).1, .int ((k + 1 + 1 + 1 + 1 + 1 + cntLf (spnsLf x.sset) : Nat) : Int), .int ((k + 1 + 1 + 1 + 1 + 1 + cntLf (spnsLf x.sset) + 1 : Nat) : Int), .str (markB (k + 1 + 1 + 1 + 1 + 1 + cntLf (spnsLf x.sset) + 1 + 1)), .bool ((k + 1 + 1 + 1 + 1 + 1 + cntLf (spnsLf x.sset) + 1 + 1 + 1) % 3 == 0), (markLf (scpsLf x.filter.scopes) (k + 1 + 1 + 1 + 1 + 1 + cntLf (spnsLf x.sset) + 1 + 1 + 1 + 1)).1] := by simp only [CmdD.lf, markLs, markLf_int, markLf_bool, markLf_str, markLf_cnt]
theorem CmdD.rdm {W : World} {x : CmdD} {k : Nat} {vs : List Value} : LsRd W (markLs x.lf k).1 vs ↔ ∃ r5, ∃ r10, vs = [sv (markB (k)), .int .i64 ((k + 1 : Nat) : Int), sv (markB (k + 1 + 1)), sv (markB (k + 1 + 1 + 1)), .bool ((k + 1 + 1 + 1 + 1) % 3 == 0), r5, .int .i64 ((k + 1 + 1 + 1 + 1 + 1 + cntLf (spnsLf x.sset) : Nat) : Int), .int .i64 ((k + 1 + 1 + 1 + 1 + 1 + cntLf (spnsLf x.sset) + 1 : Nat) : Int), sv (markB (k + 1 + 1 + 1 + 1 + 1 + cntLf (spnsLf x.sset) + 1 + 1)), .bool ((k + 1 + 1 + 1 + 1 + 1 + cntLf (spnsLf x.sset) + 1 + 1 + 1) % 3 == 0), r10] ∧ LfRd W (markLf (spnsLf x.sset) (k + 1 + 1 + 1 + 1 + 1)).1 r5 ∧ LfRd W (markLf (scpsLf x.filter.scopes) (k + 1 + 1 + 1 + 1 + 1 + cntLf (spnsLf x.sset) + 1 + 1 + 1 + 1)).1 r10 := by
  rw [CmdD.mark]
  constructor
  · rintro ⟨a0, s0, rfl, h0, a1, s1, rfl, h1, a2, s2, rfl, h2, a3, s3, rfl, h3, a4, s4, rfl, h4, a5, s5, rfl, h5, a6, s6, rfl, h6, a7, s7, rfl, h7, a8, s8, rfl, h8, a9, s9, rfl, h9, a10, s10, rfl, h10, rfl⟩
    exact ⟨a5, a10, by rw [h0, h1, h2, h3, h4, h6, h7, h8, h9], h5, h10⟩
  · rintro ⟨r5, r10, rfl, h5, h10⟩
    exact ⟨_, _, rfl, rfl, _, _, rfl, rfl, _, _, rfl, rfl, _, _, rfl, rfl, _, _, rfl, rfl, _, _, rfl, h5, _, _, rfl, rfl, _, _, rfl, rfl, _, _, rfl, rfl, _, _, rfl, rfl, _, _, rfl, h10, rfl⟩
theorem CmdD.in_of {W : World} {z0 : List UInt8} {z1 : Int} {z2 : List UInt8} {z3 : List UInt8} {z4 : Bool} {z5 : Lf} {z6 : Int} {z7 : Int} {z8 : List UInt8} {z9 : Bool} {z10 : Lf} {vs : List Value} {fp : List Nat} (h : LsIn W [.str z0, .int z1, .str z2, .str z3, .bool z4, z5, .int z6, .int z7, .str z8, .bool z9, z10] vs fp) : ∃ r5 f5, ∃ r10 f10, vs = [sv z0, .int .i64 z1, sv z2, sv z3, .bool z4, r5, .int .i64 z6, .int .i64 z7, sv z8, .bool z9, r10] ∧ LfIn W z5 r5 f5 ∧ LfIn W z10 r10 f10 ∧ fp = f5 ++ f10 := by
  obtain ⟨a0, s0, f0, g0, rfl, h0, ⟨a1, s1, f1, g1, rfl, h1, ⟨a2, s2, f2, g2, rfl, h2, ⟨a3, s3, f3, g3, rfl, h3, ⟨a4, s4, f4, g4, rfl, h4, ⟨a5, s5, f5, g5, rfl, h5, ⟨a6, s6, f6, g6, rfl, h6, ⟨a7, s7, f7, g7, rfl, h7, ⟨a8, s8, f8, g8, rfl, h8, ⟨a9, s9, f9, g9, rfl, h9, ⟨a10, s10, f10, g10, rfl, h10, ⟨rfl, rfl⟩, rfl⟩, rfl⟩, rfl⟩, rfl⟩, rfl⟩, rfl⟩, rfl⟩, rfl⟩, rfl⟩, rfl⟩, rfl⟩ := h
  exact ⟨a5, f5, a10, f10, by rw [h0.1, h1.1, h2.1, h3.1, h4.1, h6.1, h7.1, h8.1, h9.1], h5, h10, by rw [h0.2, h1.2, h2.2, h3.2, h4.2, h6.2, h7.2, h8.2, h9.2]; simp⟩
theorem CmdD.in_mk {W : World} {z0 : List UInt8} {z1 : Int} {z2 : List UInt8} {z3 : List UInt8} {z4 : Bool} {z5 : Lf} {z6 : Int} {z7 : Int} {z8 : List UInt8} {z9 : Bool} {z10 : Lf} {r5 : Value} {f5 : List Nat} (h5 : LfIn W z5 r5 f5) {r10 : Value} {f10 : List Nat} (h10 : LfIn W z10 r10 f10) : LsIn W [.str z0, .int z1, .str z2, .str z3, .bool z4, z5, .int z6, .int z7, .str z8, .bool z9, z10] [sv z0, .int .i64 z1, sv z2, sv z3, .bool z4, r5, .int .i64 z6, .int .i64 z7, sv z8, .bool z9, r10] (f5 ++ f10) := by
  have h : LsIn W [.str z0, .int z1, .str z2, .str z3, .bool z4, z5, .int z6, .int z7, .str z8, .bool z9, z10] [sv z0, .int .i64 z1, sv z2, sv z3, .bool z4, r5, .int .i64 z6, .int .i64 z7, sv z8, .bool z9, r10] ([] ++ ([] ++ ([] ++ ([] ++ ([] ++ (f5 ++ ([] ++ ([] ++ ([] ++ ([] ++ (f10 ++ ([])))))))))))) := ⟨_, _, [], _, rfl, ⟨rfl, rfl⟩, ⟨_, _, [], _, rfl, ⟨rfl, rfl⟩, ⟨_, _, [], _, rfl, ⟨rfl, rfl⟩, ⟨_, _, [], _, rfl, ⟨rfl, rfl⟩, ⟨_, _, [], _, rfl, ⟨rfl, rfl⟩, ⟨_, _, f5, _, rfl, h5, ⟨_, _, [], _, rfl, ⟨rfl, rfl⟩, ⟨_, _, [], _, rfl, ⟨rfl, rfl⟩, ⟨_, _, [], _, rfl, ⟨rfl, rfl⟩, ⟨_, _, [], _, rfl, ⟨rfl, rfl⟩, ⟨_, _, f10, _, rfl, h10, ⟨rfl, rfl⟩, rfl⟩, rfl⟩, rfl⟩, rfl⟩, rfl⟩, rfl⟩, rfl⟩, rfl⟩, rfl⟩, rfl⟩, rfl⟩
  simpa using h

theorem CmdD.at {W : World} {l : List CmdD} {v : Value} (h : LfRd W (commandsLf l) v) : ∃ p cap, v = .slice p l.length cap ∧ (l = [] ∨ ∃ b off, p = some ⟨b, off, none⟩ ∧ b < W.heap.size ∧ ∀ i x, l[i]? = some x → ∃ r5, ∃ r10, LfRd W (spnsLf x.sset) r5 ∧ LfRd W (scpsLf x.filter.scopes) r10 ∧ W.cell? ⟨b, off + i * 11, none⟩ = some (sv x.tag) ∧ W.cell? ⟨b, off + i * 11 + 1, none⟩ = some (.int .i64 x.kind) ∧ W.cell? ⟨b, off + i * 11 + 2, none⟩ = some (sv x.box) ∧ W.cell? ⟨b, off + i * 11 + 3, none⟩ = some (sv x.dst) ∧ W.cell? ⟨b, off + i * 11 + 4, none⟩ = some (.bool x.uid) ∧ W.cell? ⟨b, off + i * 11 + 5, none⟩ = some (r5) ∧ W.cell? ⟨b, off + i * 11 + 6, none⟩ = some (.int .i64 x.op) ∧ W.cell? ⟨b, off + i * 11 + 7, none⟩ = some (.int .i64 x.flags) ∧ W.cell? ⟨b, off + i * 11 + 8, none⟩ = some (sv x.text) ∧ W.cell? ⟨b, off + i * 11 + 9, none⟩ = some (.bool x.filter.on) ∧ W.cell? ⟨b, off + i * 11 + 10, none⟩ = some (r10)) := by
  obtain ⟨p, cap, hv, hc⟩ := rows_at CmdD.len h
  refine ⟨p, cap, hv, hc.imp id fun ⟨b, off, hp, hlt, hc⟩ => ⟨b, off, hp, hlt, fun i x hi => ?_⟩⟩
  obtain ⟨us, h1, h2⟩ := hc i x hi
  obtain ⟨r5, r10, rfl, k5, k10⟩ := CmdD.rd.1 h1
  exact ⟨r5, r10, k5, k10, h2 0 _ rfl, h2 1 _ rfl, h2 2 _ rfl, h2 3 _ rfl, h2 4 _ rfl, h2 5 _ rfl, h2 6 _ rfl, h2 7 _ rfl, h2 8 _ rfl, h2 9 _ rfl, h2 10 _ rfl⟩
theorem CmdD.atm {W : World} {l : List CmdD} {v : Value} {k0 : Nat} (h : LfRd W (markLf (commandsLf l) k0).1 v) : ∃ p cap, v = .slice p l.length cap ∧ (l = [] ∨ ∃ b off, p = some ⟨b, off, none⟩ ∧ b < W.heap.size ∧ ∀ i x k, l[i]? = some x → k = k0 + cntLs ((l.take i).flatMap CmdD.lf) → ∃ r5, ∃ r10, LfRd W (markLf (spnsLf x.sset) (k + 1 + 1 + 1 + 1 + 1)).1 r5 ∧ LfRd W (markLf (scpsLf x.filter.scopes) (k + 1 + 1 + 1 + 1 + 1 + cntLf (spnsLf x.sset) + 1 + 1 + 1 + 1)).1 r10 ∧ W.cell? ⟨b, off + i * 11, none⟩ = some (sv (markB (k))) ∧ W.cell? ⟨b, off + i * 11 + 1, none⟩ = some (.int .i64 ((k + 1 : Nat) : Int)) ∧ W.cell? ⟨b, off + i * 11 + 2, none⟩ = some (sv (markB (k + 1 + 1))) ∧ W.cell? ⟨b, off + i * 11 + 3, none⟩ = some (sv (markB (k + 1 + 1 + 1))) ∧ W.cell? ⟨b, off + i * 11 + 4, none⟩ = some (.bool ((k + 1 + 1 + 1 + 1) % 3 == 0)) ∧ W.cell? ⟨b, off + i * 11 + 5, none⟩ = some (r5) ∧ W.cell? ⟨b, off + i * 11 + 6, none⟩ = some (.int .i64 ((k + 1 + 1 + 1 + 1 + 1 + cntLf (spnsLf x.sset) : Nat) : Int)) ∧ W.cell? ⟨b, off + i * 11 + 7, none⟩ = some (.int .i64 ((k + 1 + 1 + 1 + 1 + 1 + cntLf (spnsLf x.sset) + 1 : Nat) : Int)) ∧ W.cell? ⟨b, off + i * 11 + 8, none⟩ = some (sv (markB (k + 1 + 1 + 1 + 1 + 1 + cntLf (spnsLf x.sset) + 1 + 1))) ∧ W.cell? ⟨b, off + i * 11 + 9, none⟩ = some (.bool ((k + 1 + 1 + 1 + 1 + 1 + cntLf (spnsLf x.sset) + 1 + 1 + 1) % 3 == 0)) ∧ W.cell? ⟨b, off + i * 11 + 10, none⟩ = some (r10)) := by
  obtain ⟨p, cap, hv, hc⟩ := rows_at_mark CmdD.len h
  refine ⟨p, cap, hv, hc.imp id fun ⟨b, off, hp, hlt, hc⟩ => ⟨b, off, hp, hlt, fun i x k hi hk => ?_⟩⟩
  obtain ⟨us, h1, h2⟩ := hc i x hi
  rw [← hk] at h1
  obtain ⟨r5, r10, rfl, k5, k10⟩ := CmdD.rdm.1 h1
  exact ⟨r5, r10, k5, k10, h2 0 _ rfl, h2 1 _ rfl, h2 2 _ rfl, h2 3 _ rfl, h2 4 _ rfl, h2 5 _ rfl, h2 6 _ rfl, h2 7 _ rfl, h2 8 _ rfl, h2 9 _ rfl, h2 10 _ rfl⟩

set_option maxHeartbeats 1600000 in
theorem szCommand_g (x : CmdD) (r5 : Value) (r10 : Value) (ll : Int) (left : Nat) (hll : ll = (left : Int)) (w : World) (h5 : LfRd w (spnsLf x.sset) r5) (h10 : LfRd w (scpsLf x.filter.scopes) r10) (hin : LsBnd x.lf) (hL : left ≤ 1000000000000) :
    Calls Tryz.prog 5 #[.agg #[sv x.tag, .int .i64 x.kind, sv x.box, sv x.dst, .bool x.uid, r5, .int .i64 x.op, .int .i64 x.flags, sv x.text, .bool x.filter.on, r10], .int .i64 ll] w fun e w' => e = .returned (.int .i64 (szN left (szLs x.lf))) ∧ Below w.heap.size w w' := by
  subst hll
  have hr5 := h5
  have hr10 := h10
  obtain ⟨p5, c5, rfl⟩ := LfRd.slice h5
  obtain ⟨p10, c10, rfl⟩ := LfRd.slice h10
  have hb1 : Below w.heap.size w (w.alloc (.cells #[sv x.tag, .int .i64 x.kind, sv x.box, sv x.dst, .bool x.uid, (.slice p5 x.sset.length c5), .int .i64 x.op, .int .i64 x.flags, sv x.text, .bool x.filter.on, (.slice p10 x.filter.scopes.length c10)] 27)) := (Below.refl _ _).alloc (Nat.le_refl _) _
  have HA1 := Lib.hid (heap_alloc_new w (.cells #[sv x.tag, .int .i64 x.kind, sv x.box, sv x.dst, .bool x.uid, (.slice p5 x.sset.length c5), .int .i64 x.op, .int .i64 x.flags, sv x.text, .bool x.filter.on, (.slice p10 x.filter.scopes.length c10)] 27))
  have hsz := CmdD.sz x
  have bn_0 : x.tag.length ≤ 9223372036854775807 := hin.1
  have bz_0 : (ByteArray.mk x.tag.toArray).size = x.tag.length := by show x.tag.toArray.size = _; simp
  have bn_2 : x.box.length ≤ 9223372036854775807 := hin.2.2.1
  have bz_2 : (ByteArray.mk x.box.toArray).size = x.box.length := by show x.box.toArray.size = _; simp
  have bn_3 : x.dst.length ≤ 9223372036854775807 := hin.2.2.2.1
  have bz_3 : (ByteArray.mk x.dst.toArray).size = x.dst.length := by show x.dst.toArray.size = _; simp
  have bi_5 : LfBnd (spnsLf x.sset) := hin.2.2.2.2.2.1
  have bn_8 : x.text.length ≤ 9223372036854775807 := hin.2.2.2.2.2.2.2.2.1
  have bz_8 : (ByteArray.mk x.text.toArray).size = x.text.length := by show x.text.toArray.size = _; simp
  have bi_9 : LsBnd x.filter.lf := ⟨hin.2.2.2.2.2.2.2.2.2.1, hin.2.2.2.2.2.2.2.2.2.2.1, trivial⟩
  have hsz_9 := Flt.sz x.filter
  clear hin
  by_cases k0 : x.tag.length ≤ left
  · obtain ⟨L1, hL1⟩ : ∃ L, L + x.tag.length = left := ⟨left - x.tag.length, by omega⟩
    have n0 : ¬ (left : Int) - (x.tag.length : Int) < 0 := by omega
    have bL1 : L1 ≤ 1000000000000 := by omega
    have HL1 := Lib.hid hL1
    by_cases k1 : x.box.length ≤ L1
    · obtain ⟨L2, hL2⟩ : ∃ L, L + x.box.length = L1 := ⟨L1 - x.box.length, by omega⟩
      have n1 : ¬ (left : Int) - (x.tag.length : Int) - (x.box.length : Int) < 0 := by omega
      have bL2 : L2 ≤ 1000000000000 := by omega
      have HL2 := Lib.hid hL2
      by_cases k2 : x.dst.length ≤ L2
      · obtain ⟨L3, hL3⟩ : ∃ L, L + x.dst.length = L2 := ⟨L2 - x.dst.length, by omega⟩
        have n2 : ¬ (left : Int) - (x.tag.length : Int) - (x.box.length : Int) - (x.dst.length : Int) < 0 := by omega
        have bL3 : L3 ≤ 1000000000000 := by omega
        have HL3 := Lib.hid hL3
        by_cases k3 : szLf (spnsLf x.sset) ≤ L3
        · obtain ⟨L4, hL4⟩ : ∃ L, L + szLf (spnsLf x.sset) = L3 := ⟨L3 - szLf (spnsLf x.sset), by omega⟩
          have q5 := fun (ll : Int) (W : World) (hl : ll = (L3 : Int)) (g : LfRd W (spnsLf x.sset) (.slice p5 x.sset.length c5)) => szSpanS_g (.slice p5 x.sset.length c5) x.sset ll L3 hl W g bi_5 (by omega)
          simp only [show szN L3 (szLf (spnsLf x.sset)) = (L4 : Int) from by rw [szN_yes k3]; omega] at q5
          have C5 := Lib.hid q5
          clear q5
          have n3 : ¬ (L4 : Int) < 0 := by omega
          have bL4 : L4 ≤ 1000000000000 := by omega
          have HL4 := Lib.hid hL4
          by_cases k4 : x.text.length ≤ L4
          · obtain ⟨L5, hL5⟩ : ∃ L, L + x.text.length = L4 := ⟨L4 - x.text.length, by omega⟩
            have n4 : ¬ (L4 : Int) - (x.text.length : Int) < 0 := by omega
            have bL5 : L5 ≤ 1000000000000 := by omega
            have HL5 := Lib.hid hL5
            by_cases k5 : szLs x.filter.lf ≤ L5
            · obtain ⟨L6, hL6⟩ : ∃ L, L + szLs x.filter.lf = L5 := ⟨L5 - szLs x.filter.lf, by omega⟩
              have q9 := fun (ll : Int) (W : World) (hl : ll = (L5 : Int)) (g10 : LfRd W (scpsLf x.filter.scopes) (.slice p10 x.filter.scopes.length c10)) => szFilter_g x.filter (.slice p10 x.filter.scopes.length c10) ll L5 hl W g10 bi_9 (by omega)
              simp only [show szN L5 (szLs x.filter.lf) = (L6 : Int) from by rw [szN_yes k5]; omega] at q9
              have C9 := Lib.hid q9
              clear q9
              have n5 : ¬ (L6 : Int) < 0 := by omega
              have bL6 : L6 ≤ 1000000000000 := by omega
              have HL6 := Lib.hid hL6
              have HV := Lib.hid (show szN left (szLs x.lf) = (L6 : Int) by rw [hsz, szN_yes (by omega)]; omega)
              clear hsz hL1 hL2 hL3 hL4 hL5 hL6
               hsz_9
              go_enter Tryz.func5, Tryz.ntmps5
              go_wp2_with fail
              refine (C5.out _ _ (by have e1 := HL1.out; have e2 := HL2.out; have e3 := HL3.out; have e4 := HL4.out; have e5 := HL5.out; have e6 := HL6.out; omega) (LfRd.below hb1 _ _ hr5)).mono ?_
              rintro e w2 ⟨rfl, b2⟩
              have hb2 := hb1.trans (b2.mono hb1.size)
              have HA2 := Lib.hid ((b2.block w.heap.size (by simp)).trans HA1.out)
              have hz2 : w.heap.size < w2.heap.size := (Array.getElem?_eq_some_iff.1 HA2.out).1
              have y2_8 := (Lib.cell_of_heap HA2.out 8).trans (show _ = some (sv x.text) from rfl)
              have y2_9 := (Lib.cell_of_heap HA2.out 9).trans (show _ = some (.bool x.filter.on) from rfl)
              have y2_10 := (Lib.cell_of_heap HA2.out 10).trans (show _ = some ((.slice p10 x.filter.scopes.length c10)) from rfl)
              go_wp2_with fail
              refine (C9.out _ _ (by have e1 := HL1.out; have e2 := HL2.out; have e3 := HL3.out; have e4 := HL4.out; have e5 := HL5.out; have e6 := HL6.out; omega) (LfRd.below hb2 _ _ hr10)).mono ?_
              rintro e w3 ⟨rfl, b3⟩
              have hb3 := hb2.trans (b3.mono hb2.size)
              have HA3 := Lib.hid ((b3.block w.heap.size (by have := hz2; omega)).trans HA2.out)
              have hz3 : w.heap.size < w3.heap.size := (Array.getElem?_eq_some_iff.1 HA3.out).1
              clear y2_9 y2_10
              go_wp2
              go_ret
              exact ⟨by rw [HV.out]; rfl, hb3⟩
            · have HV := Lib.hid (show szN left (szLs x.lf) = -1 by rw [hsz]; exact szN_no (by omega))
              have q9 := fun (ll : Int) (W : World) (hl : ll = (L5 : Int)) (g10 : LfRd W (scpsLf x.filter.scopes) (.slice p10 x.filter.scopes.length c10)) => szFilter_g x.filter (.slice p10 x.filter.scopes.length c10) ll L5 hl W g10 bi_9 (by omega)
              simp only [show szN L5 (szLs x.filter.lf) = -1 from szN_no k5] at q9
              have C9 := Lib.hid q9
              clear q9
              clear hsz hL1 hL2 hL3 hL4 hL5
               hsz_9
              go_enter Tryz.func5, Tryz.ntmps5
              go_wp2_with fail
              refine (C5.out _ _ (by have e1 := HL1.out; have e2 := HL2.out; have e3 := HL3.out; have e4 := HL4.out; have e5 := HL5.out; omega) (LfRd.below hb1 _ _ hr5)).mono ?_
              rintro e w2 ⟨rfl, b2⟩
              have hb2 := hb1.trans (b2.mono hb1.size)
              have HA2 := Lib.hid ((b2.block w.heap.size (by simp)).trans HA1.out)
              have hz2 : w.heap.size < w2.heap.size := (Array.getElem?_eq_some_iff.1 HA2.out).1
              have y2_8 := (Lib.cell_of_heap HA2.out 8).trans (show _ = some (sv x.text) from rfl)
              have y2_9 := (Lib.cell_of_heap HA2.out 9).trans (show _ = some (.bool x.filter.on) from rfl)
              have y2_10 := (Lib.cell_of_heap HA2.out 10).trans (show _ = some ((.slice p10 x.filter.scopes.length c10)) from rfl)
              go_wp2_with fail
              refine (C9.out _ _ (by have e1 := HL1.out; have e2 := HL2.out; have e3 := HL3.out; have e4 := HL4.out; have e5 := HL5.out; omega) (LfRd.below hb2 _ _ hr10)).mono ?_
              rintro e w3 ⟨rfl, b3⟩
              have hb3 := hb2.trans (b3.mono hb2.size)
              have HA3 := Lib.hid ((b3.block w.heap.size (by have := hz2; omega)).trans HA2.out)
              have hz3 : w.heap.size < w3.heap.size := (Array.getElem?_eq_some_iff.1 HA3.out).1
              clear y2_9 y2_10
              go_wp2
              go_ret
              exact ⟨by rw [HV.out]; rfl, hb3⟩
          · have HV := Lib.hid (show szN left (szLs x.lf) = -1 by rw [hsz]; exact szN_no (by omega))
            have n4 : (L4 : Int) - (x.text.length : Int) < 0 := by omega
            clear hsz hL1 hL2 hL3 hL4
             hsz_9
            go_enter Tryz.func5, Tryz.ntmps5
            go_wp2_with fail
            refine (C5.out _ _ (by have e1 := HL1.out; have e2 := HL2.out; have e3 := HL3.out; have e4 := HL4.out; omega) (LfRd.below hb1 _ _ hr5)).mono ?_
            rintro e w2 ⟨rfl, b2⟩
            have hb2 := hb1.trans (b2.mono hb1.size)
            have HA2 := Lib.hid ((b2.block w.heap.size (by simp)).trans HA1.out)
            have hz2 : w.heap.size < w2.heap.size := (Array.getElem?_eq_some_iff.1 HA2.out).1
            have y2_8 := (Lib.cell_of_heap HA2.out 8).trans (show _ = some (sv x.text) from rfl)
            have y2_9 := (Lib.cell_of_heap HA2.out 9).trans (show _ = some (.bool x.filter.on) from rfl)
            have y2_10 := (Lib.cell_of_heap HA2.out 10).trans (show _ = some ((.slice p10 x.filter.scopes.length c10)) from rfl)
            go_wp2
            go_ret
            exact ⟨by rw [HV.out]; rfl, hb2⟩
        · have HV := Lib.hid (show szN left (szLs x.lf) = -1 by rw [hsz]; exact szN_no (by omega))
          have q5 := fun (ll : Int) (W : World) (hl : ll = (L3 : Int)) (g : LfRd W (spnsLf x.sset) (.slice p5 x.sset.length c5)) => szSpanS_g (.slice p5 x.sset.length c5) x.sset ll L3 hl W g bi_5 (by omega)
          simp only [show szN L3 (szLf (spnsLf x.sset)) = -1 from szN_no k3] at q5
          have C5 := Lib.hid q5
          clear q5
          clear hsz hL1 hL2 hL3
           hsz_9
          go_enter Tryz.func5, Tryz.ntmps5
          go_wp2_with fail
          refine (C5.out _ _ (by have e1 := HL1.out; have e2 := HL2.out; have e3 := HL3.out; omega) (LfRd.below hb1 _ _ hr5)).mono ?_
          rintro e w2 ⟨rfl, b2⟩
          have hb2 := hb1.trans (b2.mono hb1.size)
          have HA2 := Lib.hid ((b2.block w.heap.size (by simp)).trans HA1.out)
          have hz2 : w.heap.size < w2.heap.size := (Array.getElem?_eq_some_iff.1 HA2.out).1
          have y2_8 := (Lib.cell_of_heap HA2.out 8).trans (show _ = some (sv x.text) from rfl)
          have y2_9 := (Lib.cell_of_heap HA2.out 9).trans (show _ = some (.bool x.filter.on) from rfl)
          have y2_10 := (Lib.cell_of_heap HA2.out 10).trans (show _ = some ((.slice p10 x.filter.scopes.length c10)) from rfl)
          go_wp2
          go_ret
          exact ⟨by rw [HV.out]; rfl, hb2⟩
      · have HV := Lib.hid (show szN left (szLs x.lf) = -1 by rw [hsz]; exact szN_no (by omega))
        have n2 : (left : Int) - (x.tag.length : Int) - (x.box.length : Int) - (x.dst.length : Int) < 0 := by omega
        clear hsz hL1 hL2
         hsz_9
        go_enter Tryz.func5, Tryz.ntmps5
        go_wp2
        go_ret
        exact ⟨by rw [HV.out]; rfl, hb1⟩
    · have HV := Lib.hid (show szN left (szLs x.lf) = -1 by rw [hsz]; exact szN_no (by omega))
      have n1 : (left : Int) - (x.tag.length : Int) - (x.box.length : Int) < 0 := by omega
      clear hsz hL1
       hsz_9
      go_enter Tryz.func5, Tryz.ntmps5
      go_wp2
      go_ret
      exact ⟨by rw [HV.out]; rfl, hb1⟩
  · have HV := Lib.hid (show szN left (szLs x.lf) = -1 by rw [hsz]; exact szN_no (by omega))
    have n0 : (left : Int) - (x.tag.length : Int) < 0 := by omega
    clear hsz
     hsz_9
    go_enter Tryz.func5, Tryz.ntmps5
    go_wp2
    go_ret
    exact ⟨by rw [HV.out]; rfl, hb1⟩

set_option maxHeartbeats 1600000 in
theorem eqCommand_g (x : CmdD) (ra5 rb5 : Value) (ra10 rb10 : Value) (w : World) (ha5 : LfRd w (spnsLf x.sset) ra5) (hb5 : LfRd w (spnsLf x.sset) rb5) (ha10 : LfRd w (scpsLf x.filter.scopes) ra10) (hb10 : LfRd w (scpsLf x.filter.scopes) rb10) (hs : szLs x.lf ≤ 1000000000000) :
    Calls Tryz.prog 10 #[.agg #[sv x.tag, .int .i64 x.kind, sv x.box, sv x.dst, .bool x.uid, ra5, .int .i64 x.op, .int .i64 x.flags, sv x.text, .bool x.filter.on, ra10], .agg #[sv x.tag, .int .i64 x.kind, sv x.box, sv x.dst, .bool x.uid, rb5, .int .i64 x.op, .int .i64 x.flags, sv x.text, .bool x.filter.on, rb10]] w fun e w' => e = .returned (.bool true) ∧ Below w.heap.size w w' := by
  have ne_uid : (x.uid != x.uid) = false := by simp
  have ne_filter_on : (x.filter.on != x.filter.on) = false := by simp
  have hra5 := ha5
  have hrb5 := hb5
  have hra10 := ha10
  have hrb10 := hb10
  obtain ⟨p5a, c5a, rfl⟩ := LfRd.slice ha5
  obtain ⟨p5b, c5b, rfl⟩ := LfRd.slice hb5
  obtain ⟨p10a, c10a, rfl⟩ := LfRd.slice ha10
  obtain ⟨p10b, c10b, rfl⟩ := LfRd.slice hb10
  have hb1 : Below w.heap.size w ((w.alloc (.cells #[sv x.tag, .int .i64 x.kind, sv x.box, sv x.dst, .bool x.uid, (.slice p5a x.sset.length c5a), .int .i64 x.op, .int .i64 x.flags, sv x.text, .bool x.filter.on, (.slice p10a x.filter.scopes.length c10a)] 36)).alloc (.cells #[sv x.tag, .int .i64 x.kind, sv x.box, sv x.dst, .bool x.uid, (.slice p5b x.sset.length c5b), .int .i64 x.op, .int .i64 x.flags, sv x.text, .bool x.filter.on, (.slice p10b x.filter.scopes.length c10b)] 36)) := ((Below.refl _ _).alloc (Nat.le_refl _) _).alloc (by simp) _
  have HA1 := Lib.hid (show ((w.alloc (.cells #[sv x.tag, .int .i64 x.kind, sv x.box, sv x.dst, .bool x.uid, (.slice p5a x.sset.length c5a), .int .i64 x.op, .int .i64 x.flags, sv x.text, .bool x.filter.on, (.slice p10a x.filter.scopes.length c10a)] 36)).alloc (.cells #[sv x.tag, .int .i64 x.kind, sv x.box, sv x.dst, .bool x.uid, (.slice p5b x.sset.length c5b), .int .i64 x.op, .int .i64 x.flags, sv x.text, .bool x.filter.on, (.slice p10b x.filter.scopes.length c10b)] 36)).heap[w.heap.size]? = some (.cells #[sv x.tag, .int .i64 x.kind, sv x.box, sv x.dst, .bool x.uid, (.slice p5a x.sset.length c5a), .int .i64 x.op, .int .i64 x.flags, sv x.text, .bool x.filter.on, (.slice p10a x.filter.scopes.length c10a)] 36 (0, 0)) from (Below.heap_alloc _ _ _ (by simp)).trans (heap_alloc_new w _))
  have HB1 := Lib.hid (show ((w.alloc (.cells #[sv x.tag, .int .i64 x.kind, sv x.box, sv x.dst, .bool x.uid, (.slice p5a x.sset.length c5a), .int .i64 x.op, .int .i64 x.flags, sv x.text, .bool x.filter.on, (.slice p10a x.filter.scopes.length c10a)] 36)).alloc (.cells #[sv x.tag, .int .i64 x.kind, sv x.box, sv x.dst, .bool x.uid, (.slice p5b x.sset.length c5b), .int .i64 x.op, .int .i64 x.flags, sv x.text, .bool x.filter.on, (.slice p10b x.filter.scopes.length c10b)] 36)).heap[w.heap.size + 1]? = some (.cells #[sv x.tag, .int .i64 x.kind, sv x.box, sv x.dst, .bool x.uid, (.slice p5b x.sset.length c5b), .int .i64 x.op, .int .i64 x.flags, sv x.text, .bool x.filter.on, (.slice p10b x.filter.scopes.length c10b)] 36 (0, 0)) from by
    have := heap_alloc_new (w.alloc (.cells #[sv x.tag, .int .i64 x.kind, sv x.box, sv x.dst, .bool x.uid, (.slice p5a x.sset.length c5a), .int .i64 x.op, .int .i64 x.flags, sv x.text, .bool x.filter.on, (.slice p10a x.filter.scopes.length c10a)] 36)) (.cells #[sv x.tag, .int .i64 x.kind, sv x.box, sv x.dst, .bool x.uid, (.slice p5b x.sset.length c5b), .int .i64 x.op, .int .i64 x.flags, sv x.text, .bool x.filter.on, (.slice p10b x.filter.scopes.length c10b)] 36)
    rwa [World.size_alloc] at this)
  have hz1 : ((w.alloc (.cells #[sv x.tag, .int .i64 x.kind, sv x.box, sv x.dst, .bool x.uid, (.slice p5a x.sset.length c5a), .int .i64 x.op, .int .i64 x.flags, sv x.text, .bool x.filter.on, (.slice p10a x.filter.scopes.length c10a)] 36)).alloc (.cells #[sv x.tag, .int .i64 x.kind, sv x.box, sv x.dst, .bool x.uid, (.slice p5b x.sset.length c5b), .int .i64 x.op, .int .i64 x.flags, sv x.text, .bool x.filter.on, (.slice p10b x.filter.scopes.length c10b)] 36)).heap.size = w.heap.size + 2 := by simp
  have HZ1 := Lib.hid (Nat.le_of_eq hz1.symm)
  clear hz1
  have hsz := CmdD.sz x
  have hsz_9 := Flt.sz x.filter
  have C5 := Lib.hid (fun W (g : LfRd W (spnsLf x.sset) (.slice p5a x.sset.length c5a)) (g2 : LfRd W (spnsLf x.sset) (.slice p5b x.sset.length c5b)) => eqSpanS_g _ _ x.sset W g g2 (by omega))
  have C9 := Lib.hid (fun W (g10 : LfRd W (scpsLf x.filter.scopes) (.slice p10a x.filter.scopes.length c10a)) (k10 : LfRd W (scpsLf x.filter.scopes) (.slice p10b x.filter.scopes.length c10b)) => eqFilter_g x.filter (.slice p10a x.filter.scopes.length c10a) (.slice p10b x.filter.scopes.length c10b) W g10 k10 (by omega))
  clear hs hsz hsz_9
  go_enter Tryz.func10, Tryz.ntmps10
  go_wp2_with fail
  refine (C5.out _ (LfRd.below hb1 _ _ hra5) (LfRd.below hb1 _ _ hrb5)).mono ?_
  rintro e w2 ⟨rfl, b2⟩
  have hb2 := hb1.trans (b2.mono hb1.size)
  have HZ2 := Lib.hid (Nat.le_trans HZ1.out b2.size)
  have HA2 := Lib.hid ((b2.block w.heap.size (by have := HZ1.out; omega)).trans HA1.out)
  have HB2 := Lib.hid ((b2.block (w.heap.size + 1) (by have := HZ1.out; omega)).trans HB1.out)
  have y2_6 := (Lib.cell_of_heap HA2.out 6).trans (show _ = some (.int .i64 x.op) from rfl)
  have z2_6 := (Lib.cell_of_heap HB2.out 6).trans (show _ = some (.int .i64 x.op) from rfl)
  have y2_7 := (Lib.cell_of_heap HA2.out 7).trans (show _ = some (.int .i64 x.flags) from rfl)
  have z2_7 := (Lib.cell_of_heap HB2.out 7).trans (show _ = some (.int .i64 x.flags) from rfl)
  have y2_8 := (Lib.cell_of_heap HA2.out 8).trans (show _ = some (sv x.text) from rfl)
  have z2_8 := (Lib.cell_of_heap HB2.out 8).trans (show _ = some (sv x.text) from rfl)
  have y2_9 := (Lib.cell_of_heap HA2.out 9).trans (show _ = some (.bool x.filter.on) from rfl)
  have z2_9 := (Lib.cell_of_heap HB2.out 9).trans (show _ = some (.bool x.filter.on) from rfl)
  have y2_10 := (Lib.cell_of_heap HA2.out 10).trans (show _ = some ((.slice p10a x.filter.scopes.length c10a)) from rfl)
  have z2_10 := (Lib.cell_of_heap HB2.out 10).trans (show _ = some ((.slice p10b x.filter.scopes.length c10b)) from rfl)
  clear b2
  go_wp2_with fail
  refine (C9.out _ (LfRd.below hb2 _ _ hra10) (LfRd.below hb2 _ _ hrb10)).mono ?_
  rintro e w3 ⟨rfl, b3⟩
  have hb3 := hb2.trans (b3.mono hb2.size)
  have HZ3 := Lib.hid (Nat.le_trans HZ2.out b3.size)
  have HA3 := Lib.hid ((b3.block w.heap.size (by have := HZ2.out; omega)).trans HA2.out)
  have HB3 := Lib.hid ((b3.block (w.heap.size + 1) (by have := HZ2.out; omega)).trans HB2.out)
  clear y2_6 z2_6 y2_7 z2_7 y2_8 z2_8 y2_9 z2_9 y2_10 z2_10
  clear b3
  go_wp2
  go_ret
  exact ⟨rfl, hb3⟩

set_option maxRecDepth 20000 in
set_option maxHeartbeats 6400000 in
theorem toCommand_g (x : CmdD) (r5 : Value) (r10 : Value) (w : World) (h5 : LfRd w (spnsLf x.sset) r5) (h10 : LfRd w (scpsLf x.filter.scopes) r10) (hs : szLs x.lf ≤ 10000000) :
    Calls Tryz.prog 7 #[.agg #[sv x.tag, .int .i64 x.kind, sv x.box, sv x.dst, .bool x.uid, r5, .int .i64 x.op, .int .i64 x.flags, sv x.text, .bool x.filter.on, r10]] w fun e w' => ∃ v5 f5, ∃ v10 f10, e = .returned (.agg #[sv x.tag, .int .i64 x.kind, sv x.box, sv x.dst, .bool x.uid, v5, .int .i64 x.op, .int .i64 x.flags, sv x.text, .bool x.filter.on, v10]) ∧ LfIn w' (spnsLf x.sset) v5 f5 ∧ LfIn w' (scpsLf x.filter.scopes) v10 f10 ∧ (f5 ++ f10).Nodup ∧ (∀ q ∈ f5 ++ f10, w.heap.size ≤ q) ∧ Below w.heap.size w w' := by
  have HR5 := Lib.hid h5
  have HR10 := Lib.hid h10
  obtain ⟨p5, c5, rfl⟩ := LfRd.slice h5
  obtain ⟨p10, c10, rfl⟩ := LfRd.slice h10
  have hsz := CmdD.sz x
  have hsz_9 := Flt.sz x.filter
  have C5 := Lib.hid (fun W (g : LfRd W (spnsLf x.sset) (.slice p5 x.sset.length c5)) => toSpanS_g _ x.sset W g (by omega))
  have C9 := Lib.hid (fun W (g10 : LfRd W (scpsLf x.filter.scopes) (.slice p10 x.filter.scopes.length c10)) => toFilter_g x.filter (.slice p10 x.filter.scopes.length c10) W g10 (by omega))
  clear hs hsz hsz_9 h5 h10
  go_enter Tryz.func7, Tryz.ntmps7
  have HA := Lib.hid (heap_alloc_new w (.cells #[sv x.tag, .int .i64 x.kind, sv x.box, sv x.dst, .bool x.uid, (.slice p5 x.sset.length c5), .int .i64 x.op, .int .i64 x.flags, sv x.text, .bool x.filter.on, (.slice p10 x.filter.scopes.length c10)] 27))
  go_wp2_with fail
  have hb : Below w.heap.size w (((w.alloc (.cells #[sv x.tag, .int .i64 x.kind, sv x.box, sv x.dst, .bool x.uid, (.slice p5 x.sset.length c5), .int .i64 x.op, .int .i64 x.flags, sv x.text, .bool x.filter.on, (.slice p10 x.filter.scopes.length c10)] 27)).alloc (.cells #[sv [], .int .i64 0, sv [], sv [], .bool false, .slice none 0 0, .int .i64 0, .int .i64 0, sv [], .bool false, .slice none 0 0] 36)).alloc (.cells #[sv x.tag, .int .i64 x.kind, sv x.box, sv x.dst, .bool x.uid, .slice none 0 0, .int .i64 0, .int .i64 0, sv [], .bool false, .slice none 0 0] 36)) := (((Below.refl _ _).alloc (Nat.le_refl _) _).alloc (by simp) _).alloc (by simp; omega) _
  have hA : (((w.alloc (.cells #[sv x.tag, .int .i64 x.kind, sv x.box, sv x.dst, .bool x.uid, (.slice p5 x.sset.length c5), .int .i64 x.op, .int .i64 x.flags, sv x.text, .bool x.filter.on, (.slice p10 x.filter.scopes.length c10)] 27)).alloc (.cells #[sv [], .int .i64 0, sv [], sv [], .bool false, .slice none 0 0, .int .i64 0, .int .i64 0, sv [], .bool false, .slice none 0 0] 36)).alloc (.cells #[sv x.tag, .int .i64 x.kind, sv x.box, sv x.dst, .bool x.uid, .slice none 0 0, .int .i64 0, .int .i64 0, sv [], .bool false, .slice none 0 0] 36)).heap[w.heap.size]? = some (.cells #[sv x.tag, .int .i64 x.kind, sv x.box, sv x.dst, .bool x.uid, (.slice p5 x.sset.length c5), .int .i64 x.op, .int .i64 x.flags, sv x.text, .bool x.filter.on, (.slice p10 x.filter.scopes.length c10)] 27 (0, 0)) := ((Below.heap_alloc _ _ _ (by simp; omega)).trans (Below.heap_alloc _ _ _ (by simp))).trans HA.out
  have hR : (((w.alloc (.cells #[sv x.tag, .int .i64 x.kind, sv x.box, sv x.dst, .bool x.uid, (.slice p5 x.sset.length c5), .int .i64 x.op, .int .i64 x.flags, sv x.text, .bool x.filter.on, (.slice p10 x.filter.scopes.length c10)] 27)).alloc (.cells #[sv [], .int .i64 0, sv [], sv [], .bool false, .slice none 0 0, .int .i64 0, .int .i64 0, sv [], .bool false, .slice none 0 0] 36)).alloc (.cells #[sv x.tag, .int .i64 x.kind, sv x.box, sv x.dst, .bool x.uid, .slice none 0 0, .int .i64 0, .int .i64 0, sv [], .bool false, .slice none 0 0] 36)).heap[w.heap.size + 1]? = some (.cells #[sv [], .int .i64 0, sv [], sv [], .bool false, .slice none 0 0, .int .i64 0, .int .i64 0, sv [], .bool false, .slice none 0 0] 36 (0, 0)) := (Below.heap_alloc _ _ _ (by simp)).trans (by have := heap_alloc_new (w.alloc (.cells #[sv x.tag, .int .i64 x.kind, sv x.box, sv x.dst, .bool x.uid, (.slice p5 x.sset.length c5), .int .i64 x.op, .int .i64 x.flags, sv x.text, .bool x.filter.on, (.slice p10 x.filter.scopes.length c10)] 27)) (.cells #[sv [], .int .i64 0, sv [], sv [], .bool false, .slice none 0 0, .int .i64 0, .int .i64 0, sv [], .bool false, .slice none 0 0] 36); rwa [World.size_alloc] at this)
  have hT : (((w.alloc (.cells #[sv x.tag, .int .i64 x.kind, sv x.box, sv x.dst, .bool x.uid, (.slice p5 x.sset.length c5), .int .i64 x.op, .int .i64 x.flags, sv x.text, .bool x.filter.on, (.slice p10 x.filter.scopes.length c10)] 27)).alloc (.cells #[sv [], .int .i64 0, sv [], sv [], .bool false, .slice none 0 0, .int .i64 0, .int .i64 0, sv [], .bool false, .slice none 0 0] 36)).alloc (.cells #[sv x.tag, .int .i64 x.kind, sv x.box, sv x.dst, .bool x.uid, .slice none 0 0, .int .i64 0, .int .i64 0, sv [], .bool false, .slice none 0 0] 36)).heap[w.heap.size + 1 + 1]? = some (.cells #[sv x.tag, .int .i64 x.kind, sv x.box, sv x.dst, .bool x.uid, .slice none 0 0, .int .i64 0, .int .i64 0, sv [], .bool false, .slice none 0 0] 36 (0, 0)) := by
    have := heap_alloc_new ((w.alloc (.cells #[sv x.tag, .int .i64 x.kind, sv x.box, sv x.dst, .bool x.uid, (.slice p5 x.sset.length c5), .int .i64 x.op, .int .i64 x.flags, sv x.text, .bool x.filter.on, (.slice p10 x.filter.scopes.length c10)] 27)).alloc (.cells #[sv [], .int .i64 0, sv [], sv [], .bool false, .slice none 0 0, .int .i64 0, .int .i64 0, sv [], .bool false, .slice none 0 0] 36)) (.cells #[sv x.tag, .int .i64 x.kind, sv x.box, sv x.dst, .bool x.uid, .slice none 0 0, .int .i64 0, .int .i64 0, sv [], .bool false, .slice none 0 0] 36)
    rwa [World.size_alloc, World.size_alloc] at this
  have hz : w.heap.size + 3 ≤ (((w.alloc (.cells #[sv x.tag, .int .i64 x.kind, sv x.box, sv x.dst, .bool x.uid, (.slice p5 x.sset.length c5), .int .i64 x.op, .int .i64 x.flags, sv x.text, .bool x.filter.on, (.slice p10 x.filter.scopes.length c10)] 27)).alloc (.cells #[sv [], .int .i64 0, sv [], sv [], .bool false, .slice none 0 0, .int .i64 0, .int .i64 0, sv [], .bool false, .slice none 0 0] 36)).alloc (.cells #[sv x.tag, .int .i64 x.kind, sv x.box, sv x.dst, .bool x.uid, .slice none 0 0, .int .i64 0, .int .i64 0, sv [], .bool false, .slice none 0 0] 36)).heap.size := by simp
  generalize (((w.alloc (.cells #[sv x.tag, .int .i64 x.kind, sv x.box, sv x.dst, .bool x.uid, (.slice p5 x.sset.length c5), .int .i64 x.op, .int .i64 x.flags, sv x.text, .bool x.filter.on, (.slice p10 x.filter.scopes.length c10)] 27)).alloc (.cells #[sv [], .int .i64 0, sv [], sv [], .bool false, .slice none 0 0, .int .i64 0, .int .i64 0, sv [], .bool false, .slice none 0 0] 36)).alloc (.cells #[sv x.tag, .int .i64 x.kind, sv x.box, sv x.dst, .bool x.uid, .slice none 0 0, .int .i64 0, .int .i64 0, sv [], .bool false, .slice none 0 0] 36)) = W0 at *
  clear HA
  refine (C5.out _ (LfRd.below hb _ _ HR5.out)).mono ?_
  rintro e w1 ⟨v5, f5, rfl, t5, b1⟩
  have i5 := t5.is
  have n5 := t5.nodup
  have l5 : ∀ q ∈ f5, w.heap.size + 3 ≤ q := fun q hq => by have := t5.low q hq; omega
  obtain ⟨pv5, cv5, rfl⟩ := LfIn.slice i5
  clear t5
  replace hA := (b1.block (w.heap.size) (by omega)).trans hA
  replace hR := (b1.block (w.heap.size + 1) (by omega)).trans hR
  replace hT := (b1.block (w.heap.size + 1 + 1) (by omega)).trans hT
  have nn := n5
  replace hb := hb.trans (b1.mono hb.size)
  replace hz := Nat.le_trans hz b1.size
  clear b1
  have ce5 : w1.cell? ⟨w.heap.size + 1 + 1, 5, none⟩ = some (.slice none 0 0) := (Lib.cell_of_heap hT 5).trans rfl
  have ge5 : w1.frozen? ⟨w.heap.size + 1 + 1, 5, none⟩ = false := Lib.frozen_of_heap hT 5
  have hT5 : (w1.setCell ⟨w.heap.size + 1 + 1, 5, none⟩ (.slice pv5 x.sset.length cv5)).heap[w.heap.size + 1 + 1]? = some (.cells #[sv x.tag, .int .i64 x.kind, sv x.box, sv x.dst, .bool x.uid, (.slice pv5 x.sset.length cv5), .int .i64 0, .int .i64 0, sv [], .bool false, .slice none 0 0] 36 (0, 0)) := set_heap hT
  have hA5 : (w1.setCell ⟨w.heap.size + 1 + 1, 5, none⟩ (.slice pv5 x.sset.length cv5)).heap[w.heap.size]? = some (.cells #[sv x.tag, .int .i64 x.kind, sv x.box, sv x.dst, .bool x.uid, (.slice p5 x.sset.length c5), .int .i64 x.op, .int .i64 x.flags, sv x.text, .bool x.filter.on, (.slice p10 x.filter.scopes.length c10)] 27 (0, 0)) := (set_other (by omega)).trans hA
  have hR5 : (w1.setCell ⟨w.heap.size + 1 + 1, 5, none⟩ (.slice pv5 x.sset.length cv5)).heap[w.heap.size + 1]? = some (.cells #[sv [], .int .i64 0, sv [], sv [], .bool false, .slice none 0 0, .int .i64 0, .int .i64 0, sv [], .bool false, .slice none 0 0] 36 (0, 0)) := (set_other (by omega)).trans hR
  have ae6 : (w1.setCell ⟨w.heap.size + 1 + 1, 5, none⟩ (.slice pv5 x.sset.length cv5)).cell? ⟨w.heap.size, 6, none⟩ = some (.int .i64 x.op) := (Lib.cell_of_heap hA5 6).trans rfl
  have ce6 : (w1.setCell ⟨w.heap.size + 1 + 1, 5, none⟩ (.slice pv5 x.sset.length cv5)).cell? ⟨w.heap.size + 1 + 1, 6, none⟩ = some (.int .i64 0) := (Lib.cell_of_heap hT5 6).trans rfl
  have ge6 : (w1.setCell ⟨w.heap.size + 1 + 1, 5, none⟩ (.slice pv5 x.sset.length cv5)).frozen? ⟨w.heap.size + 1 + 1, 6, none⟩ = false := Lib.frozen_of_heap hT5 6
  have hT6 : ((w1.setCell ⟨w.heap.size + 1 + 1, 5, none⟩ (.slice pv5 x.sset.length cv5)).setCell ⟨w.heap.size + 1 + 1, 6, none⟩ (.int .i64 x.op)).heap[w.heap.size + 1 + 1]? = some (.cells #[sv x.tag, .int .i64 x.kind, sv x.box, sv x.dst, .bool x.uid, (.slice pv5 x.sset.length cv5), .int .i64 x.op, .int .i64 0, sv [], .bool false, .slice none 0 0] 36 (0, 0)) := set_heap hT5
  have hA6 : ((w1.setCell ⟨w.heap.size + 1 + 1, 5, none⟩ (.slice pv5 x.sset.length cv5)).setCell ⟨w.heap.size + 1 + 1, 6, none⟩ (.int .i64 x.op)).heap[w.heap.size]? = some (.cells #[sv x.tag, .int .i64 x.kind, sv x.box, sv x.dst, .bool x.uid, (.slice p5 x.sset.length c5), .int .i64 x.op, .int .i64 x.flags, sv x.text, .bool x.filter.on, (.slice p10 x.filter.scopes.length c10)] 27 (0, 0)) := (set_other (by omega)).trans hA5
  have hR6 : ((w1.setCell ⟨w.heap.size + 1 + 1, 5, none⟩ (.slice pv5 x.sset.length cv5)).setCell ⟨w.heap.size + 1 + 1, 6, none⟩ (.int .i64 x.op)).heap[w.heap.size + 1]? = some (.cells #[sv [], .int .i64 0, sv [], sv [], .bool false, .slice none 0 0, .int .i64 0, .int .i64 0, sv [], .bool false, .slice none 0 0] 36 (0, 0)) := (set_other (by omega)).trans hR5
  have ae7 : ((w1.setCell ⟨w.heap.size + 1 + 1, 5, none⟩ (.slice pv5 x.sset.length cv5)).setCell ⟨w.heap.size + 1 + 1, 6, none⟩ (.int .i64 x.op)).cell? ⟨w.heap.size, 7, none⟩ = some (.int .i64 x.flags) := (Lib.cell_of_heap hA6 7).trans rfl
  have ce7 : ((w1.setCell ⟨w.heap.size + 1 + 1, 5, none⟩ (.slice pv5 x.sset.length cv5)).setCell ⟨w.heap.size + 1 + 1, 6, none⟩ (.int .i64 x.op)).cell? ⟨w.heap.size + 1 + 1, 7, none⟩ = some (.int .i64 0) := (Lib.cell_of_heap hT6 7).trans rfl
  have ge7 : ((w1.setCell ⟨w.heap.size + 1 + 1, 5, none⟩ (.slice pv5 x.sset.length cv5)).setCell ⟨w.heap.size + 1 + 1, 6, none⟩ (.int .i64 x.op)).frozen? ⟨w.heap.size + 1 + 1, 7, none⟩ = false := Lib.frozen_of_heap hT6 7
  have hT7 : (((w1.setCell ⟨w.heap.size + 1 + 1, 5, none⟩ (.slice pv5 x.sset.length cv5)).setCell ⟨w.heap.size + 1 + 1, 6, none⟩ (.int .i64 x.op)).setCell ⟨w.heap.size + 1 + 1, 7, none⟩ (.int .i64 x.flags)).heap[w.heap.size + 1 + 1]? = some (.cells #[sv x.tag, .int .i64 x.kind, sv x.box, sv x.dst, .bool x.uid, (.slice pv5 x.sset.length cv5), .int .i64 x.op, .int .i64 x.flags, sv [], .bool false, .slice none 0 0] 36 (0, 0)) := set_heap hT6
  have hA7 : (((w1.setCell ⟨w.heap.size + 1 + 1, 5, none⟩ (.slice pv5 x.sset.length cv5)).setCell ⟨w.heap.size + 1 + 1, 6, none⟩ (.int .i64 x.op)).setCell ⟨w.heap.size + 1 + 1, 7, none⟩ (.int .i64 x.flags)).heap[w.heap.size]? = some (.cells #[sv x.tag, .int .i64 x.kind, sv x.box, sv x.dst, .bool x.uid, (.slice p5 x.sset.length c5), .int .i64 x.op, .int .i64 x.flags, sv x.text, .bool x.filter.on, (.slice p10 x.filter.scopes.length c10)] 27 (0, 0)) := (set_other (by omega)).trans hA6
  have hR7 : (((w1.setCell ⟨w.heap.size + 1 + 1, 5, none⟩ (.slice pv5 x.sset.length cv5)).setCell ⟨w.heap.size + 1 + 1, 6, none⟩ (.int .i64 x.op)).setCell ⟨w.heap.size + 1 + 1, 7, none⟩ (.int .i64 x.flags)).heap[w.heap.size + 1]? = some (.cells #[sv [], .int .i64 0, sv [], sv [], .bool false, .slice none 0 0, .int .i64 0, .int .i64 0, sv [], .bool false, .slice none 0 0] 36 (0, 0)) := (set_other (by omega)).trans hR6
  have ae8 : (((w1.setCell ⟨w.heap.size + 1 + 1, 5, none⟩ (.slice pv5 x.sset.length cv5)).setCell ⟨w.heap.size + 1 + 1, 6, none⟩ (.int .i64 x.op)).setCell ⟨w.heap.size + 1 + 1, 7, none⟩ (.int .i64 x.flags)).cell? ⟨w.heap.size, 8, none⟩ = some (sv x.text) := (Lib.cell_of_heap hA7 8).trans rfl
  have ce8 : (((w1.setCell ⟨w.heap.size + 1 + 1, 5, none⟩ (.slice pv5 x.sset.length cv5)).setCell ⟨w.heap.size + 1 + 1, 6, none⟩ (.int .i64 x.op)).setCell ⟨w.heap.size + 1 + 1, 7, none⟩ (.int .i64 x.flags)).cell? ⟨w.heap.size + 1 + 1, 8, none⟩ = some (sv []) := (Lib.cell_of_heap hT7 8).trans rfl
  have ge8 : (((w1.setCell ⟨w.heap.size + 1 + 1, 5, none⟩ (.slice pv5 x.sset.length cv5)).setCell ⟨w.heap.size + 1 + 1, 6, none⟩ (.int .i64 x.op)).setCell ⟨w.heap.size + 1 + 1, 7, none⟩ (.int .i64 x.flags)).frozen? ⟨w.heap.size + 1 + 1, 8, none⟩ = false := Lib.frozen_of_heap hT7 8
  have hT8 : ((((w1.setCell ⟨w.heap.size + 1 + 1, 5, none⟩ (.slice pv5 x.sset.length cv5)).setCell ⟨w.heap.size + 1 + 1, 6, none⟩ (.int .i64 x.op)).setCell ⟨w.heap.size + 1 + 1, 7, none⟩ (.int .i64 x.flags)).setCell ⟨w.heap.size + 1 + 1, 8, none⟩ (sv x.text)).heap[w.heap.size + 1 + 1]? = some (.cells #[sv x.tag, .int .i64 x.kind, sv x.box, sv x.dst, .bool x.uid, (.slice pv5 x.sset.length cv5), .int .i64 x.op, .int .i64 x.flags, sv x.text, .bool false, .slice none 0 0] 36 (0, 0)) := set_heap hT7
  have hA8 : ((((w1.setCell ⟨w.heap.size + 1 + 1, 5, none⟩ (.slice pv5 x.sset.length cv5)).setCell ⟨w.heap.size + 1 + 1, 6, none⟩ (.int .i64 x.op)).setCell ⟨w.heap.size + 1 + 1, 7, none⟩ (.int .i64 x.flags)).setCell ⟨w.heap.size + 1 + 1, 8, none⟩ (sv x.text)).heap[w.heap.size]? = some (.cells #[sv x.tag, .int .i64 x.kind, sv x.box, sv x.dst, .bool x.uid, (.slice p5 x.sset.length c5), .int .i64 x.op, .int .i64 x.flags, sv x.text, .bool x.filter.on, (.slice p10 x.filter.scopes.length c10)] 27 (0, 0)) := (set_other (by omega)).trans hA7
  have hR8 : ((((w1.setCell ⟨w.heap.size + 1 + 1, 5, none⟩ (.slice pv5 x.sset.length cv5)).setCell ⟨w.heap.size + 1 + 1, 6, none⟩ (.int .i64 x.op)).setCell ⟨w.heap.size + 1 + 1, 7, none⟩ (.int .i64 x.flags)).setCell ⟨w.heap.size + 1 + 1, 8, none⟩ (sv x.text)).heap[w.heap.size + 1]? = some (.cells #[sv [], .int .i64 0, sv [], sv [], .bool false, .slice none 0 0, .int .i64 0, .int .i64 0, sv [], .bool false, .slice none 0 0] 36 (0, 0)) := (set_other (by omega)).trans hR7
  have gs : GrownIn w1 ((((w1.setCell ⟨w.heap.size + 1 + 1, 5, none⟩ (.slice pv5 x.sset.length cv5)).setCell ⟨w.heap.size + 1 + 1, 6, none⟩ (.int .i64 x.op)).setCell ⟨w.heap.size + 1 + 1, 7, none⟩ (.int .i64 x.flags)).setCell ⟨w.heap.size + 1 + 1, 8, none⟩ (sv x.text)) [w.heap.size + 1 + 1] := ((((GrownIn.refl w1 [w.heap.size + 1 + 1]).trans (GrownIn.set (by simp))).trans (GrownIn.set (by simp))).trans (GrownIn.set (by simp))).trans (GrownIn.set (by simp))
  replace i5 := LfIn.away i5 gs (fun k hk hm => by have := l5 k hk; simp at hm; omega)
  replace hb := GrownIn.below hb gs hb.size (fun k hk => by simp at hk; omega)
  replace hz := Nat.le_trans hz gs.size
  clear hA hR hT gs hA5 hR5 hT5 hA6 hR6 hT6 hA7 hR7 hT7
  have hA := hA8
  have hR := hR8
  have hT := hT8
  clear hA8 hR8 hT8
  generalize hW1 : ((((w1.setCell ⟨w.heap.size + 1 + 1, 5, none⟩ (.slice pv5 x.sset.length cv5)).setCell ⟨w.heap.size + 1 + 1, 6, none⟩ (.int .i64 x.op)).setCell ⟨w.heap.size + 1 + 1, 7, none⟩ (.int .i64 x.flags)).setCell ⟨w.heap.size + 1 + 1, 8, none⟩ (sv x.text)) = W1 at *
  have ag9 : W1.cell? ⟨w.heap.size, 9, none⟩ = some (.bool x.filter.on) := (Lib.cell_of_heap hA 9).trans rfl
  have ag10 : W1.cell? ⟨w.heap.size, 10, none⟩ = some ((.slice p10 x.filter.scopes.length c10)) := (Lib.cell_of_heap hA 10).trans rfl
  have I5 := Lib.hid i5
  clear i5
  have HA := Lib.hid hA
  have HB := Lib.hid hR
  have HT := Lib.hid hT
  clear hA hR hT
  go_wp2_with fail
  have i5 := I5.out
  clear I5
  have hA := HA.out
  have hR := HB.out
  have hT := HT.out
  clear HA HB HT ce5 ge5 ae6 ce6 ge6 ae7 ce7 ge7 ae8 ce8 ge8 ag9 ag10
  refine (C9.out _ (LfRd.below hb _ _ HR10.out)).mono ?_
  rintro e w2 ⟨v10, f10, rfl, i10, nd9, lo9, b1⟩
  have d10 : ∀ q ∈ f10, W1.heap.size ≤ q := fun q hq => lo9 q (by simp [hq])
  have l10 : ∀ q ∈ f10, w.heap.size + 3 ≤ q := fun q hq => by have := d10 q hq; omega
  obtain ⟨pv10, cv10, rfl⟩ := LfIn.slice i10
  have n10 := nd9
  replace hA := (b1.block (w.heap.size) (by omega)).trans hA
  replace hR := (b1.block (w.heap.size + 1) (by omega)).trans hR
  replace hT := (b1.block (w.heap.size + 1 + 1) (by omega)).trans hT
  have u5 : ∀ q ∈ f5, q < W1.heap.size := fun q hq => LfIn.lt _ _ _ i5 q hq
  replace i5 := LfIn.below i5 b1
  have nn10 : (f5 ++ f10).Nodup := List.nodup_append.2 ⟨nn, n10, fun x hx y hy e => by have h2 := d10 y hy; have h1 := u5 x hx; omega⟩
  clear nn
  have nn := nn10
  replace hb := hb.trans (b1.mono hb.size)
  replace hz := Nat.le_trans hz b1.size
  clear b1
  have ce9 : w2.cell? ⟨w.heap.size + 1 + 1, 9, none⟩ = some (.bool false) := (Lib.cell_of_heap hT 9).trans rfl
  have ge9 : w2.frozen? ⟨w.heap.size + 1 + 1, 9, none⟩ = false := Lib.frozen_of_heap hT 9
  have hT9 : (w2.setCell ⟨w.heap.size + 1 + 1, 9, none⟩ (.bool x.filter.on)).heap[w.heap.size + 1 + 1]? = some (.cells #[sv x.tag, .int .i64 x.kind, sv x.box, sv x.dst, .bool x.uid, (.slice pv5 x.sset.length cv5), .int .i64 x.op, .int .i64 x.flags, sv x.text, .bool x.filter.on, .slice none 0 0] 36 (0, 0)) := set_heap hT
  have hA9 : (w2.setCell ⟨w.heap.size + 1 + 1, 9, none⟩ (.bool x.filter.on)).heap[w.heap.size]? = some (.cells #[sv x.tag, .int .i64 x.kind, sv x.box, sv x.dst, .bool x.uid, (.slice p5 x.sset.length c5), .int .i64 x.op, .int .i64 x.flags, sv x.text, .bool x.filter.on, (.slice p10 x.filter.scopes.length c10)] 27 (0, 0)) := (set_other (by omega)).trans hA
  have hR9 : (w2.setCell ⟨w.heap.size + 1 + 1, 9, none⟩ (.bool x.filter.on)).heap[w.heap.size + 1]? = some (.cells #[sv [], .int .i64 0, sv [], sv [], .bool false, .slice none 0 0, .int .i64 0, .int .i64 0, sv [], .bool false, .slice none 0 0] 36 (0, 0)) := (set_other (by omega)).trans hR
  have ce10 : (w2.setCell ⟨w.heap.size + 1 + 1, 9, none⟩ (.bool x.filter.on)).cell? ⟨w.heap.size + 1 + 1, 10, none⟩ = some (.slice none 0 0) := (Lib.cell_of_heap hT9 10).trans rfl
  have ge10 : (w2.setCell ⟨w.heap.size + 1 + 1, 9, none⟩ (.bool x.filter.on)).frozen? ⟨w.heap.size + 1 + 1, 10, none⟩ = false := Lib.frozen_of_heap hT9 10
  have hT10 : ((w2.setCell ⟨w.heap.size + 1 + 1, 9, none⟩ (.bool x.filter.on)).setCell ⟨w.heap.size + 1 + 1, 10, none⟩ (.slice pv10 x.filter.scopes.length cv10)).heap[w.heap.size + 1 + 1]? = some (.cells #[sv x.tag, .int .i64 x.kind, sv x.box, sv x.dst, .bool x.uid, (.slice pv5 x.sset.length cv5), .int .i64 x.op, .int .i64 x.flags, sv x.text, .bool x.filter.on, (.slice pv10 x.filter.scopes.length cv10)] 36 (0, 0)) := set_heap hT9
  have hA10 : ((w2.setCell ⟨w.heap.size + 1 + 1, 9, none⟩ (.bool x.filter.on)).setCell ⟨w.heap.size + 1 + 1, 10, none⟩ (.slice pv10 x.filter.scopes.length cv10)).heap[w.heap.size]? = some (.cells #[sv x.tag, .int .i64 x.kind, sv x.box, sv x.dst, .bool x.uid, (.slice p5 x.sset.length c5), .int .i64 x.op, .int .i64 x.flags, sv x.text, .bool x.filter.on, (.slice p10 x.filter.scopes.length c10)] 27 (0, 0)) := (set_other (by omega)).trans hA9
  have hR10 : ((w2.setCell ⟨w.heap.size + 1 + 1, 9, none⟩ (.bool x.filter.on)).setCell ⟨w.heap.size + 1 + 1, 10, none⟩ (.slice pv10 x.filter.scopes.length cv10)).heap[w.heap.size + 1]? = some (.cells #[sv [], .int .i64 0, sv [], sv [], .bool false, .slice none 0 0, .int .i64 0, .int .i64 0, sv [], .bool false, .slice none 0 0] 36 (0, 0)) := (set_other (by omega)).trans hR9
  have gs : GrownIn w2 ((w2.setCell ⟨w.heap.size + 1 + 1, 9, none⟩ (.bool x.filter.on)).setCell ⟨w.heap.size + 1 + 1, 10, none⟩ (.slice pv10 x.filter.scopes.length cv10)) [w.heap.size + 1 + 1] := ((GrownIn.refl w2 [w.heap.size + 1 + 1]).trans (GrownIn.set (by simp))).trans (GrownIn.set (by simp))
  replace i5 := LfIn.away i5 gs (fun k hk hm => by have := l5 k hk; simp at hm; omega)
  replace i10 := LfIn.away i10 gs (fun k hk hm => by have := l10 k hk; simp at hm; omega)
  replace hb := GrownIn.below hb gs hb.size (fun k hk => by simp at hk; omega)
  replace hz := Nat.le_trans hz gs.size
  clear hA hR hT gs hA9 hR9 hT9
  have hA := hA10
  have hR := hR10
  have hT := hT10
  clear hA10 hR10 hT10
  generalize hW2 : ((w2.setCell ⟨w.heap.size + 1 + 1, 9, none⟩ (.bool x.filter.on)).setCell ⟨w.heap.size + 1 + 1, 10, none⟩ (.slice pv10 x.filter.scopes.length cv10)) = W2 at *
  have d0_ : W2.cell? ⟨w.heap.size + 1 + 1, 0, none⟩ = some (sv x.tag) := (Lib.cell_of_heap hT 0).trans rfl
  have d1_ : W2.cell? ⟨w.heap.size + 1 + 1, 1, none⟩ = some (.int .i64 x.kind) := (Lib.cell_of_heap hT 1).trans rfl
  have d2_ : W2.cell? ⟨w.heap.size + 1 + 1, 2, none⟩ = some (sv x.box) := (Lib.cell_of_heap hT 2).trans rfl
  have d3_ : W2.cell? ⟨w.heap.size + 1 + 1, 3, none⟩ = some (sv x.dst) := (Lib.cell_of_heap hT 3).trans rfl
  have d4_ : W2.cell? ⟨w.heap.size + 1 + 1, 4, none⟩ = some (.bool x.uid) := (Lib.cell_of_heap hT 4).trans rfl
  have d5_ : W2.cell? ⟨w.heap.size + 1 + 1, 5, none⟩ = some ((.slice pv5 x.sset.length cv5)) := (Lib.cell_of_heap hT 5).trans rfl
  have d6_ : W2.cell? ⟨w.heap.size + 1 + 1, 6, none⟩ = some (.int .i64 x.op) := (Lib.cell_of_heap hT 6).trans rfl
  have d7_ : W2.cell? ⟨w.heap.size + 1 + 1, 7, none⟩ = some (.int .i64 x.flags) := (Lib.cell_of_heap hT 7).trans rfl
  have d8_ : W2.cell? ⟨w.heap.size + 1 + 1, 8, none⟩ = some (sv x.text) := (Lib.cell_of_heap hT 8).trans rfl
  have d9_ : W2.cell? ⟨w.heap.size + 1 + 1, 9, none⟩ = some (.bool x.filter.on) := (Lib.cell_of_heap hT 9).trans rfl
  have d10_ : W2.cell? ⟨w.heap.size + 1 + 1, 10, none⟩ = some ((.slice pv10 x.filter.scopes.length cv10)) := (Lib.cell_of_heap hT 10).trans rfl
  have r0_ : W2.cell? ⟨w.heap.size + 1, 0, none⟩ = some (sv []) := (Lib.cell_of_heap hR 0).trans rfl
  have q0_ : W2.frozen? ⟨w.heap.size + 1, 0, none⟩ = false := Lib.frozen_of_heap hR 0
  have hR0 : (W2.setCell ⟨w.heap.size + 1, 0, none⟩ (sv x.tag)).heap[w.heap.size + 1]? = some (.cells #[sv x.tag, .int .i64 0, sv [], sv [], .bool false, .slice none 0 0, .int .i64 0, .int .i64 0, sv [], .bool false, .slice none 0 0] 36 (0, 0)) := set_heap hR
  have r1_ : (W2.setCell ⟨w.heap.size + 1, 0, none⟩ (sv x.tag)).cell? ⟨w.heap.size + 1, 1, none⟩ = some (.int .i64 0) := (Lib.cell_of_heap hR0 1).trans rfl
  have q1_ : W2.frozen? ⟨w.heap.size + 1, 1, none⟩ = false := Lib.frozen_of_heap hR 1
  have hR1 : ((W2.setCell ⟨w.heap.size + 1, 0, none⟩ (sv x.tag)).setCell ⟨w.heap.size + 1, 1, none⟩ (.int .i64 x.kind)).heap[w.heap.size + 1]? = some (.cells #[sv x.tag, .int .i64 x.kind, sv [], sv [], .bool false, .slice none 0 0, .int .i64 0, .int .i64 0, sv [], .bool false, .slice none 0 0] 36 (0, 0)) := set_heap hR0
  have r2_ : ((W2.setCell ⟨w.heap.size + 1, 0, none⟩ (sv x.tag)).setCell ⟨w.heap.size + 1, 1, none⟩ (.int .i64 x.kind)).cell? ⟨w.heap.size + 1, 2, none⟩ = some (sv []) := (Lib.cell_of_heap hR1 2).trans rfl
  have q2_ : W2.frozen? ⟨w.heap.size + 1, 2, none⟩ = false := Lib.frozen_of_heap hR 2
  have hR2 : (((W2.setCell ⟨w.heap.size + 1, 0, none⟩ (sv x.tag)).setCell ⟨w.heap.size + 1, 1, none⟩ (.int .i64 x.kind)).setCell ⟨w.heap.size + 1, 2, none⟩ (sv x.box)).heap[w.heap.size + 1]? = some (.cells #[sv x.tag, .int .i64 x.kind, sv x.box, sv [], .bool false, .slice none 0 0, .int .i64 0, .int .i64 0, sv [], .bool false, .slice none 0 0] 36 (0, 0)) := set_heap hR1
  have r3_ : (((W2.setCell ⟨w.heap.size + 1, 0, none⟩ (sv x.tag)).setCell ⟨w.heap.size + 1, 1, none⟩ (.int .i64 x.kind)).setCell ⟨w.heap.size + 1, 2, none⟩ (sv x.box)).cell? ⟨w.heap.size + 1, 3, none⟩ = some (sv []) := (Lib.cell_of_heap hR2 3).trans rfl
  have q3_ : W2.frozen? ⟨w.heap.size + 1, 3, none⟩ = false := Lib.frozen_of_heap hR 3
  have hR3 : ((((W2.setCell ⟨w.heap.size + 1, 0, none⟩ (sv x.tag)).setCell ⟨w.heap.size + 1, 1, none⟩ (.int .i64 x.kind)).setCell ⟨w.heap.size + 1, 2, none⟩ (sv x.box)).setCell ⟨w.heap.size + 1, 3, none⟩ (sv x.dst)).heap[w.heap.size + 1]? = some (.cells #[sv x.tag, .int .i64 x.kind, sv x.box, sv x.dst, .bool false, .slice none 0 0, .int .i64 0, .int .i64 0, sv [], .bool false, .slice none 0 0] 36 (0, 0)) := set_heap hR2
  have r4_ : ((((W2.setCell ⟨w.heap.size + 1, 0, none⟩ (sv x.tag)).setCell ⟨w.heap.size + 1, 1, none⟩ (.int .i64 x.kind)).setCell ⟨w.heap.size + 1, 2, none⟩ (sv x.box)).setCell ⟨w.heap.size + 1, 3, none⟩ (sv x.dst)).cell? ⟨w.heap.size + 1, 4, none⟩ = some (.bool false) := (Lib.cell_of_heap hR3 4).trans rfl
  have q4_ : W2.frozen? ⟨w.heap.size + 1, 4, none⟩ = false := Lib.frozen_of_heap hR 4
  have hR4 : (((((W2.setCell ⟨w.heap.size + 1, 0, none⟩ (sv x.tag)).setCell ⟨w.heap.size + 1, 1, none⟩ (.int .i64 x.kind)).setCell ⟨w.heap.size + 1, 2, none⟩ (sv x.box)).setCell ⟨w.heap.size + 1, 3, none⟩ (sv x.dst)).setCell ⟨w.heap.size + 1, 4, none⟩ (.bool x.uid)).heap[w.heap.size + 1]? = some (.cells #[sv x.tag, .int .i64 x.kind, sv x.box, sv x.dst, .bool x.uid, .slice none 0 0, .int .i64 0, .int .i64 0, sv [], .bool false, .slice none 0 0] 36 (0, 0)) := set_heap hR3
  have r5_ : (((((W2.setCell ⟨w.heap.size + 1, 0, none⟩ (sv x.tag)).setCell ⟨w.heap.size + 1, 1, none⟩ (.int .i64 x.kind)).setCell ⟨w.heap.size + 1, 2, none⟩ (sv x.box)).setCell ⟨w.heap.size + 1, 3, none⟩ (sv x.dst)).setCell ⟨w.heap.size + 1, 4, none⟩ (.bool x.uid)).cell? ⟨w.heap.size + 1, 5, none⟩ = some (.slice none 0 0) := (Lib.cell_of_heap hR4 5).trans rfl
  have q5_ : W2.frozen? ⟨w.heap.size + 1, 5, none⟩ = false := Lib.frozen_of_heap hR 5
  have hR5 : ((((((W2.setCell ⟨w.heap.size + 1, 0, none⟩ (sv x.tag)).setCell ⟨w.heap.size + 1, 1, none⟩ (.int .i64 x.kind)).setCell ⟨w.heap.size + 1, 2, none⟩ (sv x.box)).setCell ⟨w.heap.size + 1, 3, none⟩ (sv x.dst)).setCell ⟨w.heap.size + 1, 4, none⟩ (.bool x.uid)).setCell ⟨w.heap.size + 1, 5, none⟩ (.slice pv5 x.sset.length cv5)).heap[w.heap.size + 1]? = some (.cells #[sv x.tag, .int .i64 x.kind, sv x.box, sv x.dst, .bool x.uid, (.slice pv5 x.sset.length cv5), .int .i64 0, .int .i64 0, sv [], .bool false, .slice none 0 0] 36 (0, 0)) := set_heap hR4
  have r6_ : ((((((W2.setCell ⟨w.heap.size + 1, 0, none⟩ (sv x.tag)).setCell ⟨w.heap.size + 1, 1, none⟩ (.int .i64 x.kind)).setCell ⟨w.heap.size + 1, 2, none⟩ (sv x.box)).setCell ⟨w.heap.size + 1, 3, none⟩ (sv x.dst)).setCell ⟨w.heap.size + 1, 4, none⟩ (.bool x.uid)).setCell ⟨w.heap.size + 1, 5, none⟩ (.slice pv5 x.sset.length cv5)).cell? ⟨w.heap.size + 1, 6, none⟩ = some (.int .i64 0) := (Lib.cell_of_heap hR5 6).trans rfl
  have q6_ : W2.frozen? ⟨w.heap.size + 1, 6, none⟩ = false := Lib.frozen_of_heap hR 6
  have hR6 : (((((((W2.setCell ⟨w.heap.size + 1, 0, none⟩ (sv x.tag)).setCell ⟨w.heap.size + 1, 1, none⟩ (.int .i64 x.kind)).setCell ⟨w.heap.size + 1, 2, none⟩ (sv x.box)).setCell ⟨w.heap.size + 1, 3, none⟩ (sv x.dst)).setCell ⟨w.heap.size + 1, 4, none⟩ (.bool x.uid)).setCell ⟨w.heap.size + 1, 5, none⟩ (.slice pv5 x.sset.length cv5)).setCell ⟨w.heap.size + 1, 6, none⟩ (.int .i64 x.op)).heap[w.heap.size + 1]? = some (.cells #[sv x.tag, .int .i64 x.kind, sv x.box, sv x.dst, .bool x.uid, (.slice pv5 x.sset.length cv5), .int .i64 x.op, .int .i64 0, sv [], .bool false, .slice none 0 0] 36 (0, 0)) := set_heap hR5
  have r7_ : (((((((W2.setCell ⟨w.heap.size + 1, 0, none⟩ (sv x.tag)).setCell ⟨w.heap.size + 1, 1, none⟩ (.int .i64 x.kind)).setCell ⟨w.heap.size + 1, 2, none⟩ (sv x.box)).setCell ⟨w.heap.size + 1, 3, none⟩ (sv x.dst)).setCell ⟨w.heap.size + 1, 4, none⟩ (.bool x.uid)).setCell ⟨w.heap.size + 1, 5, none⟩ (.slice pv5 x.sset.length cv5)).setCell ⟨w.heap.size + 1, 6, none⟩ (.int .i64 x.op)).cell? ⟨w.heap.size + 1, 7, none⟩ = some (.int .i64 0) := (Lib.cell_of_heap hR6 7).trans rfl
  have q7_ : W2.frozen? ⟨w.heap.size + 1, 7, none⟩ = false := Lib.frozen_of_heap hR 7
  have hR7 : ((((((((W2.setCell ⟨w.heap.size + 1, 0, none⟩ (sv x.tag)).setCell ⟨w.heap.size + 1, 1, none⟩ (.int .i64 x.kind)).setCell ⟨w.heap.size + 1, 2, none⟩ (sv x.box)).setCell ⟨w.heap.size + 1, 3, none⟩ (sv x.dst)).setCell ⟨w.heap.size + 1, 4, none⟩ (.bool x.uid)).setCell ⟨w.heap.size + 1, 5, none⟩ (.slice pv5 x.sset.length cv5)).setCell ⟨w.heap.size + 1, 6, none⟩ (.int .i64 x.op)).setCell ⟨w.heap.size + 1, 7, none⟩ (.int .i64 x.flags)).heap[w.heap.size + 1]? = some (.cells #[sv x.tag, .int .i64 x.kind, sv x.box, sv x.dst, .bool x.uid, (.slice pv5 x.sset.length cv5), .int .i64 x.op, .int .i64 x.flags, sv [], .bool false, .slice none 0 0] 36 (0, 0)) := set_heap hR6
  have r8_ : ((((((((W2.setCell ⟨w.heap.size + 1, 0, none⟩ (sv x.tag)).setCell ⟨w.heap.size + 1, 1, none⟩ (.int .i64 x.kind)).setCell ⟨w.heap.size + 1, 2, none⟩ (sv x.box)).setCell ⟨w.heap.size + 1, 3, none⟩ (sv x.dst)).setCell ⟨w.heap.size + 1, 4, none⟩ (.bool x.uid)).setCell ⟨w.heap.size + 1, 5, none⟩ (.slice pv5 x.sset.length cv5)).setCell ⟨w.heap.size + 1, 6, none⟩ (.int .i64 x.op)).setCell ⟨w.heap.size + 1, 7, none⟩ (.int .i64 x.flags)).cell? ⟨w.heap.size + 1, 8, none⟩ = some (sv []) := (Lib.cell_of_heap hR7 8).trans rfl
  have q8_ : W2.frozen? ⟨w.heap.size + 1, 8, none⟩ = false := Lib.frozen_of_heap hR 8
  have hR8 : (((((((((W2.setCell ⟨w.heap.size + 1, 0, none⟩ (sv x.tag)).setCell ⟨w.heap.size + 1, 1, none⟩ (.int .i64 x.kind)).setCell ⟨w.heap.size + 1, 2, none⟩ (sv x.box)).setCell ⟨w.heap.size + 1, 3, none⟩ (sv x.dst)).setCell ⟨w.heap.size + 1, 4, none⟩ (.bool x.uid)).setCell ⟨w.heap.size + 1, 5, none⟩ (.slice pv5 x.sset.length cv5)).setCell ⟨w.heap.size + 1, 6, none⟩ (.int .i64 x.op)).setCell ⟨w.heap.size + 1, 7, none⟩ (.int .i64 x.flags)).setCell ⟨w.heap.size + 1, 8, none⟩ (sv x.text)).heap[w.heap.size + 1]? = some (.cells #[sv x.tag, .int .i64 x.kind, sv x.box, sv x.dst, .bool x.uid, (.slice pv5 x.sset.length cv5), .int .i64 x.op, .int .i64 x.flags, sv x.text, .bool false, .slice none 0 0] 36 (0, 0)) := set_heap hR7
  have r9_ : (((((((((W2.setCell ⟨w.heap.size + 1, 0, none⟩ (sv x.tag)).setCell ⟨w.heap.size + 1, 1, none⟩ (.int .i64 x.kind)).setCell ⟨w.heap.size + 1, 2, none⟩ (sv x.box)).setCell ⟨w.heap.size + 1, 3, none⟩ (sv x.dst)).setCell ⟨w.heap.size + 1, 4, none⟩ (.bool x.uid)).setCell ⟨w.heap.size + 1, 5, none⟩ (.slice pv5 x.sset.length cv5)).setCell ⟨w.heap.size + 1, 6, none⟩ (.int .i64 x.op)).setCell ⟨w.heap.size + 1, 7, none⟩ (.int .i64 x.flags)).setCell ⟨w.heap.size + 1, 8, none⟩ (sv x.text)).cell? ⟨w.heap.size + 1, 9, none⟩ = some (.bool false) := (Lib.cell_of_heap hR8 9).trans rfl
  have q9_ : W2.frozen? ⟨w.heap.size + 1, 9, none⟩ = false := Lib.frozen_of_heap hR 9
  have hR9 : ((((((((((W2.setCell ⟨w.heap.size + 1, 0, none⟩ (sv x.tag)).setCell ⟨w.heap.size + 1, 1, none⟩ (.int .i64 x.kind)).setCell ⟨w.heap.size + 1, 2, none⟩ (sv x.box)).setCell ⟨w.heap.size + 1, 3, none⟩ (sv x.dst)).setCell ⟨w.heap.size + 1, 4, none⟩ (.bool x.uid)).setCell ⟨w.heap.size + 1, 5, none⟩ (.slice pv5 x.sset.length cv5)).setCell ⟨w.heap.size + 1, 6, none⟩ (.int .i64 x.op)).setCell ⟨w.heap.size + 1, 7, none⟩ (.int .i64 x.flags)).setCell ⟨w.heap.size + 1, 8, none⟩ (sv x.text)).setCell ⟨w.heap.size + 1, 9, none⟩ (.bool x.filter.on)).heap[w.heap.size + 1]? = some (.cells #[sv x.tag, .int .i64 x.kind, sv x.box, sv x.dst, .bool x.uid, (.slice pv5 x.sset.length cv5), .int .i64 x.op, .int .i64 x.flags, sv x.text, .bool x.filter.on, .slice none 0 0] 36 (0, 0)) := set_heap hR8
  have r10_ : ((((((((((W2.setCell ⟨w.heap.size + 1, 0, none⟩ (sv x.tag)).setCell ⟨w.heap.size + 1, 1, none⟩ (.int .i64 x.kind)).setCell ⟨w.heap.size + 1, 2, none⟩ (sv x.box)).setCell ⟨w.heap.size + 1, 3, none⟩ (sv x.dst)).setCell ⟨w.heap.size + 1, 4, none⟩ (.bool x.uid)).setCell ⟨w.heap.size + 1, 5, none⟩ (.slice pv5 x.sset.length cv5)).setCell ⟨w.heap.size + 1, 6, none⟩ (.int .i64 x.op)).setCell ⟨w.heap.size + 1, 7, none⟩ (.int .i64 x.flags)).setCell ⟨w.heap.size + 1, 8, none⟩ (sv x.text)).setCell ⟨w.heap.size + 1, 9, none⟩ (.bool x.filter.on)).cell? ⟨w.heap.size + 1, 10, none⟩ = some (.slice none 0 0) := (Lib.cell_of_heap hR9 10).trans rfl
  have q10_ : W2.frozen? ⟨w.heap.size + 1, 10, none⟩ = false := Lib.frozen_of_heap hR 10
  have hR10 : (((((((((((W2.setCell ⟨w.heap.size + 1, 0, none⟩ (sv x.tag)).setCell ⟨w.heap.size + 1, 1, none⟩ (.int .i64 x.kind)).setCell ⟨w.heap.size + 1, 2, none⟩ (sv x.box)).setCell ⟨w.heap.size + 1, 3, none⟩ (sv x.dst)).setCell ⟨w.heap.size + 1, 4, none⟩ (.bool x.uid)).setCell ⟨w.heap.size + 1, 5, none⟩ (.slice pv5 x.sset.length cv5)).setCell ⟨w.heap.size + 1, 6, none⟩ (.int .i64 x.op)).setCell ⟨w.heap.size + 1, 7, none⟩ (.int .i64 x.flags)).setCell ⟨w.heap.size + 1, 8, none⟩ (sv x.text)).setCell ⟨w.heap.size + 1, 9, none⟩ (.bool x.filter.on)).setCell ⟨w.heap.size + 1, 10, none⟩ (.slice pv10 x.filter.scopes.length cv10)).heap[w.heap.size + 1]? = some (.cells #[sv x.tag, .int .i64 x.kind, sv x.box, sv x.dst, .bool x.uid, (.slice pv5 x.sset.length cv5), .int .i64 x.op, .int .i64 x.flags, sv x.text, .bool x.filter.on, (.slice pv10 x.filter.scopes.length cv10)] 36 (0, 0)) := set_heap hR9
  have s0_ := (Lib.cell_of_heap hR10 0).trans (show _ = some (sv x.tag) from rfl)
  have s1_ := (Lib.cell_of_heap hR10 1).trans (show _ = some (.int .i64 x.kind) from rfl)
  have s2_ := (Lib.cell_of_heap hR10 2).trans (show _ = some (sv x.box) from rfl)
  have s3_ := (Lib.cell_of_heap hR10 3).trans (show _ = some (sv x.dst) from rfl)
  have s4_ := (Lib.cell_of_heap hR10 4).trans (show _ = some (.bool x.uid) from rfl)
  have s5_ := (Lib.cell_of_heap hR10 5).trans (show _ = some ((.slice pv5 x.sset.length cv5)) from rfl)
  have s6_ := (Lib.cell_of_heap hR10 6).trans (show _ = some (.int .i64 x.op) from rfl)
  have s7_ := (Lib.cell_of_heap hR10 7).trans (show _ = some (.int .i64 x.flags) from rfl)
  have s8_ := (Lib.cell_of_heap hR10 8).trans (show _ = some (sv x.text) from rfl)
  have s9_ := (Lib.cell_of_heap hR10 9).trans (show _ = some (.bool x.filter.on) from rfl)
  have s10_ := (Lib.cell_of_heap hR10 10).trans (show _ = some ((.slice pv10 x.filter.scopes.length cv10)) from rfl)
  have gs : GrownIn W2 (((((((((((W2.setCell ⟨w.heap.size + 1, 0, none⟩ (sv x.tag)).setCell ⟨w.heap.size + 1, 1, none⟩ (.int .i64 x.kind)).setCell ⟨w.heap.size + 1, 2, none⟩ (sv x.box)).setCell ⟨w.heap.size + 1, 3, none⟩ (sv x.dst)).setCell ⟨w.heap.size + 1, 4, none⟩ (.bool x.uid)).setCell ⟨w.heap.size + 1, 5, none⟩ (.slice pv5 x.sset.length cv5)).setCell ⟨w.heap.size + 1, 6, none⟩ (.int .i64 x.op)).setCell ⟨w.heap.size + 1, 7, none⟩ (.int .i64 x.flags)).setCell ⟨w.heap.size + 1, 8, none⟩ (sv x.text)).setCell ⟨w.heap.size + 1, 9, none⟩ (.bool x.filter.on)).setCell ⟨w.heap.size + 1, 10, none⟩ (.slice pv10 x.filter.scopes.length cv10)) [w.heap.size + 1] := (((((((((((GrownIn.refl W2 [w.heap.size + 1]).trans (GrownIn.set (by simp))).trans (GrownIn.set (by simp))).trans (GrownIn.set (by simp))).trans (GrownIn.set (by simp))).trans (GrownIn.set (by simp))).trans (GrownIn.set (by simp))).trans (GrownIn.set (by simp))).trans (GrownIn.set (by simp))).trans (GrownIn.set (by simp))).trans (GrownIn.set (by simp))).trans (GrownIn.set (by simp))
  have I5 := Lib.hid (LfIn.away i5 gs (fun k hk hm => by have := l5 k hk; simp at hm; omega))
  have I10 := Lib.hid (LfIn.away i10 gs (fun k hk hm => by have := l10 k hk; simp at hm; omega))
  have hbf := GrownIn.below hb gs hb.size (fun k hk => by simp at hk; omega)
  clear hA hR hT gs hb hR0 hR1 hR2 hR3 hR4 hR5 hR6 hR7 hR8 hR9 hR10 i5 i10
  go_wp2
  exact bodyPost_ret (v := .agg #[sv x.tag, .int .i64 x.kind, sv x.box, sv x.dst, .bool x.uid, (.slice pv5 x.sset.length cv5), .int .i64 x.op, .int .i64 x.flags, sv x.text, .bool x.filter.on, (.slice pv10 x.filter.scopes.length cv10)]) (by simp [results, Tryz.results7, go_sem, s0_, s1_, s2_, s3_, s4_, s5_, s6_, s7_, s8_, s9_, s10_]) rfl ⟨_, _, _, _, rfl, I5.out, I10.out, by simpa using nn, fun q hq => by simp only [List.mem_append] at hq; rcases hq with hq | hq <;> first | (have h1 := l5 q hq; omega) | (have h1 := l10 q hq; omega), hbf⟩

set_option maxHeartbeats 1600000 in
theorem markCommand_g (x : CmdD) (r5 : Value) (r10 : Value) (kk : Int) (k : Nat) (hkk : kk = (k : Int)) (f5 : List Nat) (f10 : List Nat) (w : World) (h5 : LfIn w (spnsLf x.sset) r5 f5) (h10 : LfIn w (scpsLf x.filter.scopes) r10 f10) (hnd : (f5 ++ f10).Nodup) (hk : k + cntLf (spnsLf x.sset) + cntLf (scpsLf x.filter.scopes) ≤ 1000000000000) (hs : szLs x.lf ≤ 1000000000000) :
    Calls Tryz.prog 11 #[.agg #[sv x.tag, .int .i64 x.kind, sv x.box, sv x.dst, .bool x.uid, r5, .int .i64 x.op, .int .i64 x.flags, sv x.text, .bool x.filter.on, r10], .int .i64 kk] w fun e w' => e = .returned (.int .i64 ((k + cntLf (spnsLf x.sset) + cntLf (scpsLf x.filter.scopes) : Nat) : Int)) ∧ LfIn w' (markLf (spnsLf x.sset) (k)).1 r5 f5 ∧ LfIn w' (markLf (scpsLf x.filter.scopes) (k + cntLf (spnsLf x.sset))).1 r10 f10 ∧ GrownIn w w' (f5 ++ f10) := by
  subst hkk
  have hsz := CmdD.sz x
  obtain ⟨p5, c5, rfl⟩ := LfIn.slice h5
  obtain ⟨p10, c10, rfl⟩ := LfIn.slice h10
  have hb1 : Below w.heap.size w (w.alloc (.cells #[sv x.tag, .int .i64 x.kind, sv x.box, sv x.dst, .bool x.uid, (.slice p5 x.sset.length c5), .int .i64 x.op, .int .i64 x.flags, sv x.text, .bool x.filter.on, (.slice p10 x.filter.scopes.length c10)] 36)) := (Below.refl _ _).alloc (Nat.le_refl _) _
  have HA1 := Lib.hid (heap_alloc_new w (.cells #[sv x.tag, .int .i64 x.kind, sv x.box, sv x.dst, .bool x.uid, (.slice p5 x.sset.length c5), .int .i64 x.op, .int .i64 x.flags, sv x.text, .bool x.filter.on, (.slice p10 x.filter.scopes.length c10)] 36))
  have u5 : ∀ q ∈ f5, q < w.heap.size := fun q hq => LfIn.lt _ _ _ h5 q hq
  have I5 := Lib.hid (LfIn.below h5 hb1)
  clear h5
  have u10 : ∀ q ∈ f10, q < w.heap.size := fun q hq => LfIn.lt _ _ _ h10 q hq
  have I10 := Lib.hid (LfIn.below h10 hb1)
  clear h10
  obtain ⟨dd5, nd_5, rr5⟩ := nd_parts hnd
  have d_5_10 : ∀ q ∈ f5, q ∉ f10 := fun q hq hm => dd5 q hq (by simp [hm])
  have d_10_5 : ∀ q ∈ f10, q ∉ f5 := fun q hq hm => dd5 q hm (by simp [hq])
  have nd_10 := rr5
  have hg1 : GrownIn w (w.alloc (.cells #[sv x.tag, .int .i64 x.kind, sv x.box, sv x.dst, .bool x.uid, (.slice p5 x.sset.length c5), .int .i64 x.op, .int .i64 x.flags, sv x.text, .bool x.filter.on, (.slice p10 x.filter.scopes.length c10)] 36)) (f5 ++ f10) := GrownIn.of_below hb1
  have hz1 : w.heap.size < (w.alloc (.cells #[sv x.tag, .int .i64 x.kind, sv x.box, sv x.dst, .bool x.uid, (.slice p5 x.sset.length c5), .int .i64 x.op, .int .i64 x.flags, sv x.text, .bool x.filter.on, (.slice p10 x.filter.scopes.length c10)] 36)).heap.size := by simp
  obtain ⟨q5, hq5⟩ : ∃ q, q = k + cntLf (spnsLf x.sset) := ⟨_, rfl⟩
  rw [← hq5] at hk
  rw [← hq5]
  have HQ5 := Lib.hid hq5
  obtain ⟨q10, hq10⟩ : ∃ q, q = q5 + cntLf (scpsLf x.filter.scopes) := ⟨_, rfl⟩
  rw [← hq10] at hk
  rw [← hq10]
  have HQ10 := Lib.hid hq10
  have hn5 : ¬ (q5 : Int) < 0 := by omega
  have hn10 : ¬ (q10 : Int) < 0 := by omega
  have C5 := Lib.hid (fun (kk : Int) (hkk : kk = (k : Int)) W (h : LfIn W (spnsLf x.sset) (.slice p5 x.sset.length c5) f5) => markSpanS_g (.slice p5 x.sset.length c5) x.sset kk k hkk f5 W h nd_5 (by omega) (by omega))
  simp only [← hq5] at C5
  have hsz_9 := Flt.sz x.filter
  have C9 := Lib.hid (fun (kk : Int) (hkk : kk = (q5 : Int)) W (h : LfIn W (scpsLf x.filter.scopes) (.slice p10 x.filter.scopes.length c10) f10) => markFilter_g x.filter (.slice p10 x.filter.scopes.length c10) kk q5 hkk f10 W h nd_10 (by omega) (by omega))
  simp only [← hq10] at C9
  clear hk hs hsz hsz_9 hq5 hq10
  go_enter Tryz.func11, Tryz.ntmps11
  go_wp2_with fail
  refine (C5.out _ rfl _ I5.out).mono ?_
  rintro e w2 ⟨rfl, i5, g2⟩
  have hg2 := hg1.trans (g2.mono (fun q hq => by simp [hq]))
  have HA2 := Lib.hid ((g2.block w.heap.size (by omega) (fun hm => by have := u5 _ hm; omega)).trans HA1.out)
  have hz2 := Nat.lt_of_lt_of_le hz1 g2.size
  have J10 := Lib.hid (LfIn.away I10.out g2 d_10_5)
  clear I10
  have I10 := J10
  clear J10
  clear I5
  have I5 := Lib.hid i5
  clear i5 g2
  have y2_6 := (Lib.cell_of_heap HA2.out 6).trans (show _ = some (.int .i64 x.op) from rfl)
  have y2_7 := (Lib.cell_of_heap HA2.out 7).trans (show _ = some (.int .i64 x.flags) from rfl)
  have y2_8 := (Lib.cell_of_heap HA2.out 8).trans (show _ = some (sv x.text) from rfl)
  have y2_9 := (Lib.cell_of_heap HA2.out 9).trans (show _ = some (.bool x.filter.on) from rfl)
  have y2_10 := (Lib.cell_of_heap HA2.out 10).trans (show _ = some ((.slice p10 x.filter.scopes.length c10)) from rfl)
  go_wp2_with fail
  refine (C9.out _ rfl _ I10.out).mono ?_
  rintro e w3 ⟨rfl, i10, g3⟩
  have hg3 := hg2.trans (g3.mono (fun q hq => by simp [hq]))
  have HA3 := Lib.hid ((g3.block w.heap.size (by omega) (fun hm => by have := u10 _ hm; omega)).trans HA2.out)
  have hz3 := Nat.lt_of_lt_of_le hz2 g3.size
  have J5 := Lib.hid (LfIn.away I5.out g3 d_5_10)
  clear I5
  have I5 := J5
  clear J5
  clear I10
  have I10 := Lib.hid i10
  clear i10 g3
  clear y2_6 y2_7 y2_8 y2_9 y2_10
  go_wp2
  go_ret
  exact ⟨rfl, I5.out, I10.out, hg3⟩

end Go.Proofs.YtidjebepgpbcnaaGreatDoor

namespace Go.Proofs.YtidjebepgpbcnaaGreatDoor
open Go.RowKit

deriving instance DecidableEq for Spn
deriving instance DecidableEq for CmdD

def boxedB (k : Int) : Bool := k == 2 || k == 11 || k == 12 || k == 13 || k == 14 || k == 10
def setsB (k : Int) : Bool := k == 7 || k == 8 || k == 10
/-- What a command of its kind says. -/
def saidC (c : CmdD) : CmdD where
  tag := c.tag
  kind := c.kind
  box := if boxedB c.kind = true then c.box else []
  dst := if c.kind = 14 then c.dst else []
  uid := if setsB c.kind = true then c.uid else false
  sset := if setsB c.kind = true then c.sset else []
  op := if c.kind = 8 then c.op else 0
  flags := if c.kind = 8 ∨ c.kind = 11 then c.flags else 0
  text := if c.kind = 11 then c.text else []
  filter := if c.kind = 6 then c.filter else ⟨false, []⟩
/-- A command's cells, with its two rows. -/
abbrev cmdv (c : CmdD) (r5 r10 : Value) : Value := .agg #[sv c.tag, .int .i64 c.kind, sv c.box, sv c.dst, .bool c.uid, r5, .int .i64 c.op, .int .i64 c.flags, sv c.text, .bool c.filter.on, r10]

end Go.Proofs.YtidjebepgpbcnaaGreatDoor

namespace Go.Proofs.YtidjebepgpbcnaaGreatDoor
open Go.RowKit

/-- What the sizes of a command say of its rows. -/
theorem CmdD.small {x : CmdD} (h : szLs x.lf ≤ 1048576) : x.tag.length ≤ 1048576 ∧ x.box.length ≤ 1048576 ∧ x.dst.length ≤ 1048576 ∧ x.sset.length ≤ 1048576 ∧ x.text.length ≤ 1048576 ∧ x.filter.scopes.length ≤ 1048576 ∧ ∀ s ∈ x.filter.scopes, s.names.length ≤ 1048576 ∧ ∀ y ∈ s.names, y.length ≤ 1048576 := by
  have h1 := CmdD.sz x
  have h2 : szLf (spnsLf x.sset) = x.sset.length + szLs (x.sset.flatMap Spn.lf) := rfl
  have h3 : szLf (scpsLf x.filter.scopes) = x.filter.scopes.length + szLs (x.filter.scopes.flatMap Scp.lf) := rfl
  refine ⟨by omega, by omega, by omega, by omega, by omega, by omega, fun s hs => ?_⟩
  have h4 := szLs_mem Scp.lf hs
  rw [Scp.sz, szLf_strs] at h4
  refine ⟨by omega, fun y hy => ?_⟩
  have : y.length ≤ szl s.names := by
    clear h4 hs
    generalize s.names = l at hy
    induction l with
    | nil => cases hy
    | cons a l ih =>
      have e : szl (a :: l) = a.length + szl l := by simp [szl]
      rcases List.mem_cons.1 hy with rfl | hy
      · omega
      · have := ih hy; omega
  omega

/-- A valid command. -/
def cmdB (c : CmdD) : Bool :=
  tagB c.tag && (decide (1 ≤ c.kind) && decide (c.kind ≤ 15)) && decide (saidC c = c) &&
  (!boxedB c.kind || nameB c.box) && (!(c.kind == 14) || nameB c.dst) && (!setsB c.kind || setB c.sset) && (!(c.kind == 8) || (decide (1 ≤ c.op) && decide (c.op ≤ 3))) &&
  flB c.flags && decide ((c.text.length : Int) ≤ 40) && filterB c.filter

end Go.Proofs.YtidjebepgpbcnaaGreatDoor

namespace Go.Proofs.YtidjebepgpbcnaaGreatDoor
open Go.RowKit

def said5 (x : CmdD) (r : Value) : Value := if setsB x.kind = true then r else .slice none 0 0
def said10 (x : CmdD) (r : Value) : Value := if x.kind = 6 then r else .slice none 0 0

end Go.Proofs.YtidjebepgpbcnaaGreatDoor
