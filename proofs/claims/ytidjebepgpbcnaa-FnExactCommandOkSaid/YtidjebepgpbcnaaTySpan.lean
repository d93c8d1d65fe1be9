/-
  The laws' helpers on records of the type Span (made by tools/typegen.py).
-/
import Derived.Test.YtidjebepgpbcnaaLg
import Derived.Test.YtidjebepgpbcnaaLgB
import Derived.Test.YtidjebepgpbcnaaGg
import Derived.Handy
import Derived.IntWalk
namespace Go.Proofs.Ytidjebepgpbcnaa
open Go.RowKit

def Spn.lf (x : Spn) : List Lf := [.int x.low, .int x.high]
theorem Spn.len (x : Spn) : x.lf.length = 2 := rfl
def spnsLf (l : List Spn) : Lf := .rows 57 2 l.length (l.flatMap Spn.lf)
theorem Spn.fit (x : Spn) : LsFit x.lf := ⟨trivial, trivial, trivial⟩
theorem spnsLf_fit (l : List Spn) : LfFit (spnsLf l) := ⟨by omega, flat_lenM Spn.len l, LsFit.flat Spn.fit l⟩
theorem Spn.sz (x : Spn) : szLs x.lf = 0 := by simp only [Spn.lf, szLs, szLf_int] <;> omega
theorem Spn.cnt (x : Spn) : cntLs x.lf = 1 + 1 := by simp only [Spn.lf, cntLs, cntLf_int] <;> omega
theorem Spn.rd {W : World} {x : Spn} {vs : List Value} : LsRd W x.lf vs ↔ vs = [.int .i64 x.low, .int .i64 x.high] := by
  constructor
  · rintro ⟨a0, s0, rfl, h0, a1, s1, rfl, h1, rfl⟩
    exact by rw [h0, h1]
  · rintro rfl
    exact ⟨_, _, rfl, rfl, _, _, rfl, rfl, rfl⟩
theorem Spn.mark (x : Spn) (k : Nat) : (markLs x.lf k).1 = [.int ((k : Nat) : Int), .int ((k + 1 : Nat) : Int)] := by simp only [Spn.lf, markLs, markLf_int]
theorem Spn.rdm {W : World} {x : Spn} {k : Nat} {vs : List Value} : LsRd W (markLs x.lf k).1 vs ↔ vs = [.int .i64 ((k : Nat) : Int), .int .i64 ((k + 1 : Nat) : Int)] := by
  rw [Spn.mark]
  constructor
  · rintro ⟨a0, s0, rfl, h0, a1, s1, rfl, h1, rfl⟩
    exact by rw [h0, h1]
  · rintro rfl
    exact ⟨_, _, rfl, rfl, _, _, rfl, rfl, rfl⟩
theorem Spn.in_of {W : World} {z0 : Int} {z1 : Int} {vs : List Value} {fp : List Nat} (h : LsIn W [.int z0, .int z1] vs fp) : vs = [.int .i64 z0, .int .i64 z1] ∧ fp = [] := by
  obtain ⟨a0, s0, f0, g0, rfl, h0, ⟨a1, s1, f1, g1, rfl, h1, ⟨rfl, rfl⟩, rfl⟩, rfl⟩ := h
  exact ⟨by rw [h0.1, h1.1], by rw [h0.2, h1.2]; simp⟩
theorem Spn.in_mk {W : World} {z0 : Int} {z1 : Int}  : LsIn W [.int z0, .int z1] [.int .i64 z0, .int .i64 z1] ([]) := by
  have h : LsIn W [.int z0, .int z1] [.int .i64 z0, .int .i64 z1] ([] ++ ([] ++ ([]))) := ⟨_, _, [], _, rfl, ⟨rfl, rfl⟩, ⟨_, _, [], _, rfl, ⟨rfl, rfl⟩, ⟨rfl, rfl⟩, rfl⟩, rfl⟩
  simpa using h

theorem Try.el_span : Elem Try.prog 31 57 2 16 := Elem.mk' (z := .agg #[.int .i64 0, .int .i64 0]) Try.underlying31 (by kernel_rfl) rfl (by omega)

theorem Spn.at {W : World} {l : List Spn} {v : Value} (h : LfRd W (spnsLf l) v) : ∃ p cap, v = .slice p l.length cap ∧ (l = [] ∨ ∃ b off, p = some ⟨b, off, none⟩ ∧ b < W.heap.size ∧ ∀ i x, l[i]? = some x → W.cell? ⟨b, off + i * 2, none⟩ = some (.int .i64 x.low) ∧ W.cell? ⟨b, off + i * 2 + 1, none⟩ = some (.int .i64 x.high)) := by
  obtain ⟨p, cap, hv, hc⟩ := rows_at Spn.len h
  refine ⟨p, cap, hv, hc.imp id fun ⟨b, off, hp, hlt, hc⟩ => ⟨b, off, hp, hlt, fun i x hi => ?_⟩⟩
  obtain ⟨us, h1, h2⟩ := hc i x hi
  obtain rfl := Spn.rd.1 h1
  exact ⟨h2 0 _ rfl, h2 1 _ rfl⟩
theorem Spn.atm {W : World} {l : List Spn} {v : Value} {k0 : Nat} (h : LfRd W (markLf (spnsLf l) k0).1 v) : ∃ p cap, v = .slice p l.length cap ∧ (l = [] ∨ ∃ b off, p = some ⟨b, off, none⟩ ∧ b < W.heap.size ∧ ∀ i x k, l[i]? = some x → k = k0 + cntLs ((l.take i).flatMap Spn.lf) → W.cell? ⟨b, off + i * 2, none⟩ = some (.int .i64 ((k : Nat) : Int)) ∧ W.cell? ⟨b, off + i * 2 + 1, none⟩ = some (.int .i64 ((k + 1 : Nat) : Int))) := by
  obtain ⟨p, cap, hv, hc⟩ := rows_at_mark Spn.len h
  refine ⟨p, cap, hv, hc.imp id fun ⟨b, off, hp, hlt, hc⟩ => ⟨b, off, hp, hlt, fun i x k hi hk => ?_⟩⟩
  obtain ⟨us, h1, h2⟩ := hc i x hi
  rw [← hk] at h1
  obtain rfl := Spn.rdm.1 h1
  exact ⟨h2 0 _ rfl, h2 1 _ rfl⟩

set_option maxHeartbeats 1600000 in
theorem eqSpan_g (x : Spn) (w : World) (_hs : szLs x.lf ≤ 1000000000000) :
    Calls Try.prog 48 #[.agg #[.int .i64 x.low, .int .i64 x.high], .agg #[.int .i64 x.low, .int .i64 x.high]] w fun e w' => e = .returned (.bool true) ∧ Below w.heap.size w w' := by
  go_enter Try.func48, Try.ntmps48
  go_wp2
  go_ret
  exact ⟨rfl, ((Below.refl _ _).alloc (Nat.le_refl _) _).alloc (by simp) _⟩

set_option maxRecDepth 20000 in
set_option maxHeartbeats 6400000 in
theorem toSpan_g (x : Spn) (w : World) (_hs : szLs x.lf ≤ 10000000) :
    Calls Try.prog 41 #[.agg #[.int .i64 x.low, .int .i64 x.high]] w fun e w' => e = .returned (.agg #[.int .i64 x.low, .int .i64 x.high]) ∧ Below w.heap.size w w' := by
  go_enter Try.func41, Try.ntmps41
  go_wp2
  go_returns
  exact ⟨rfl, (((Below.refl _ _).alloc (Nat.le_refl _) _).alloc (by simp) _).alloc (by simp; omega) _⟩

theorem szSpanS_g (v : Value) (l : List Spn) (ll : Int) (left : Nat) (hll : ll = (left : Int)) (w : World) (hr : LfRd w (spnsLf l) v) (hin : LfBnd (spnsLf l)) (hL : left ≤ 1000000000000) :
    Calls Try.prog 20 #[v, .int .i64 ll] w fun e w' => e = .returned (.int .i64 (szN left (szLf (spnsLf l)))) ∧ Below w.heap.size w w' := by
  subst hll
  have hsz : szLf (spnsLf l) = l.length := by
    have h : ∀ l : List Spn, szLs (l.flatMap Spn.lf) = 0 := by
      intro l
      induction l with
      | nil => rfl
      | cons a l ih => rw [List.flatMap_cons, szLs_append, ih, Spn.sz]
    show l.length + szLs (l.flatMap Spn.lf) = l.length
    rw [h l, Nat.add_zero]
  obtain ⟨p, c, rfl, _⟩ := Spn.at hr
  have hl : l.length ≤ 9223372036854775807 := hin.1
  clear hr hin
  by_cases hbig : l.length ≤ left
  · have h1 : ¬ (left : Int) - (l.length : Int) < 0 := by omega
    have HV := Lib.hid (show szN left (szLf (spnsLf l)) = (left : Int) - (l.length : Int) by rw [hsz, szN_yes hbig]; omega)
    clear hsz
    go_enter Try.func20, Try.ntmps20
    go_wp2
    go_ret
    exact ⟨by rw [HV.out]; rfl, Below.refl _ _⟩
  · have h1 : (left : Int) - (l.length : Int) < 0 := by omega
    have HV := Lib.hid (show szN left (szLf (spnsLf l)) = -1 by rw [hsz]; exact szN_no hbig)
    clear hsz
    go_enter Try.func20, Try.ntmps20
    go_wp2
    go_ret
    exact ⟨by rw [HV.out]; rfl, Below.refl _ _⟩

set_option maxHeartbeats 3200000 in
theorem eqSpanS_g (a b : Value) (l : List Spn) (w : World) (ha : LfRd w (spnsLf l) a) (hb : LfRd w (spnsLf l) b) (hs : szLf (spnsLf l) ≤ 1000000000000) :
    Calls Try.prog 32 #[a, b] w fun e w' => e = .returned (.bool true) ∧ Below w.heap.size w w' := by
  have hs2 : l.length + szLs (l.flatMap Spn.lf) ≤ 1000000000000 := hs
  clear hs
  obtain ⟨p, c1, rfl, hp⟩ := Spn.at ha
  obtain ⟨q, c2, rfl, hq⟩ := Spn.at hb
  clear ha hb
  have HP := Lib.hid hp
  have HQ := Lib.hid hq
  clear hp hq
  have HL := Lib.hid hs2
  have hll : l.length ≤ 1000000000000 := by omega
  clear hs2
  go_enter Try.func32, Try.ntmps32
  go_wp2
  go_loopw [5] (fun i wr => ∃ k : Nat, k ≤ l.length ∧ i = .int .i64 k ∧ Below w.heap.size w wr) (fun i _ => l.length - (intOf i).toNat)
  case atStart => exact ⟨0, by omega, rfl, Below.refl _ _⟩
  case round =>
    obtain ⟨k, hk, rfl, hbr⟩ := hrel
    have hbr0 := hbr.size
    by_cases hlt : k < l.length
    · obtain ⟨b1, o1, rfl, hb1, hc1⟩ := HP.out.resolve_left (by intro h; subst h; simp at hlt)
      obtain ⟨b2, o2, rfl, hb2, hc2⟩ := HQ.out.resolve_left (by intro h; subst h; simp at hlt)
      obtain ⟨s, hs⟩ : ∃ s, l[k]? = some s := ⟨_, List.getElem?_eq_getElem hlt⟩
      obtain ⟨x0, x1⟩ := hc1 k s hs
      obtain ⟨y0, y1⟩ := hc2 k s hs
      have e0 : wr.drew.cell? ⟨b1, o1 + k * 2, none⟩ = some (.int .i64 s.low) := (hbr.cell (p := ⟨b1, o1 + k * 2, none⟩) hb1).trans x0
      have f0 : wr.drew.cell? ⟨b2, o2 + k * 2, none⟩ = some (.int .i64 s.low) := (hbr.cell (p := ⟨b2, o2 + k * 2, none⟩) hb2).trans y0
      have e1 : wr.drew.cell? ⟨b1, o1 + k * 2 + 1, none⟩ = some (.int .i64 s.high) := (hbr.cell (p := ⟨b1, o1 + k * 2 + 1, none⟩) hb1).trans x1
      have f1 : wr.drew.cell? ⟨b2, o2 + k * 2 + 1, none⟩ = some (.int .i64 s.high) := (hbr.cell (p := ⟨b2, o2 + k * 2 + 1, none⟩) hb2).trans y1
      have hsm := szLs_mem Spn.lf (List.mem_of_getElem? hs)
      have CE := Lib.hid (eqSpan_g s wr.drew (by have := HL.out; omega))
      clear hc1 hc2 hs HP HQ hsm x0 y0 x1 y1
      go_wp2
      refine ord_start [(0, true), (1, true), (2, true), (3, true), (4, true), (5, true), (6, true), (7, true), (8, false), (9, true)] (fun W => (W.cell? ⟨b1, o1 + k * 2, none⟩ = some (.int .i64 s.low) ∧ W.cell? ⟨b1, o1 + k * 2 + 1, none⟩ = some (.int .i64 s.high)) ∧ W.cell? ⟨b2, o2 + k * 2, none⟩ = some (.int .i64 s.low) ∧ W.cell? ⟨b2, o2 + k * 2 + 1, none⟩ = some (.int .i64 s.high)) (by kernel_rfl) (by kernel_rfl) rfl (by kernel_rfl) ?_
      intro ops' hops
      clear hops
      simp only [List.map_cons, List.map_nil, pickOp_zero, pickOp_succ]
      iterate 8 (refine ord_flo ?_ (fun _ _ _ h => h) rfl ?_ ⟨⟨e0, e1⟩, f0, f1⟩ ?_; rotate_left; focus (intro W hS; obtain ⟨⟨s0, s1⟩, t0, t1⟩ := hS; go_simp; rfl))
      refine ord_ev rfl ?_
      go_simp
      refine (CE.out).mono ?_
      rintro e w2 ⟨rfl, bb⟩
      have hb2' := hbr.drew.trans (bb.mono (by show w.heap.size ≤ wr.heap.size; omega))
      have hlt1 : b1 < wr.drew.heap.size := Nat.lt_of_lt_of_le hb1 hbr0
      have hlt2 : b2 < wr.drew.heap.size := Nat.lt_of_lt_of_le hb2 hbr0
      have HE := Lib.hid (show (fun W : World => (W.cell? ⟨b1, o1 + k * 2, none⟩ = some (.int .i64 s.low) ∧ W.cell? ⟨b1, o1 + k * 2 + 1, none⟩ = some (.int .i64 s.high)) ∧ W.cell? ⟨b2, o2 + k * 2, none⟩ = some (.int .i64 s.low) ∧ W.cell? ⟨b2, o2 + k * 2 + 1, none⟩ = some (.int .i64 s.high)) w2 from ⟨⟨(bb.cell (p := ⟨b1, o1 + k * 2, none⟩) hlt1).trans e0, (bb.cell (p := ⟨b1, o1 + k * 2 + 1, none⟩) hlt1).trans e1⟩, (bb.cell (p := ⟨b2, o2 + k * 2, none⟩) hlt2).trans f0, (bb.cell (p := ⟨b2, o2 + k * 2 + 1, none⟩) hlt2).trans f1⟩)
      refine ⟨HE.out, ?_⟩
      iterate 1 (refine ord_flo ?_ (fun _ _ _ h => h) rfl ?_ HE.out ?_; rotate_left; focus (intro W hS; obtain ⟨⟨s0, s1⟩, t0, t1⟩ := hS; go_simp; rfl))
      refine ord_done ?_
      go_simp
      clear e0 f0 e1 f1 bb hbr hbr0 CE HE
      go_wp2
      go_roundw
      case rel => exact ⟨k + 1, by omega, by go_num, hb2'⟩
      case measure => simp [intOf]; omega
    · obtain rfl : k = l.length := by omega
      go_wp2
      go_ret
      exact ⟨rfl, hbr⟩

set_option maxRecDepth 20000 in
set_option maxHeartbeats 6400000 in
theorem toSpanS_g (v : Value) (l : List Spn) (w : World) (hr : LfRd w (spnsLf l) v) (hs : szLf (spnsLf l) ≤ 10000000) :
    Calls Try.prog 29 #[v] w fun e w' => ∃ v' fp, e = .returned v' ∧ Tree w' w.heap.size (spnsLf l) v' fp ∧ Below w.heap.size w w' := by
  have hs2 : l.length + szLs (l.flatMap Spn.lf) ≤ 10000000 := hs
  obtain ⟨p, c, rfl, hp⟩ := Spn.at hr
  have HP := Lib.hid hp
  have HL := Lib.hid hs2
  have hll : l.length ≤ 10000000 := by omega
  clear hr hp hs hs2
  go_enter Try.func29, Try.ntmps29
  go_wp2_with (refine wpList_mkn Try.el_span rfl _ _ rfl w.heap.size w (Below.refl _ _) (Nat.le_refl _) _ _ l.length rfl rfl (by omega) (by omega) ?_)
  intro w1 xs0 hown1 hb1 hlt1
  go_wp2
  go_loopw [4] (fun i wr => ∃ (k : Nat) (A R : List Value) (fq : List Nat), k ≤ l.length ∧ i = .int .i64 k ∧ A.length = k * 2 ∧ wr.ownsRow w.heap.size 57 2 (.slice (some ⟨w.heap.size, 0, none⟩) l.length l.length) l.length (A ++ R) ∧ LsIn wr ((l.take k).flatMap Spn.lf) A fq ∧ fq.Nodup ∧ (∀ q ∈ fq, w.heap.size < q) ∧ Below w.heap.size w wr ∧ w.heap.size < wr.heap.size) (fun i _ => l.length - (intOf i).toNat)
  case atStart => exact ⟨0, [], xs0, [], by omega, rfl, by simp, hown1, ⟨rfl, rfl⟩, by simp, by simp, hb1, hlt1⟩
  case round =>
    obtain ⟨k, A, R, fq, hk, rfl, hA, hown, hin, hnd, hlow, hbr, hzr⟩ := hrel
    have hbr0 := hbr.size
    clear hown1 hb1 hlt1
    by_cases hlt : k < l.length
    · obtain ⟨b1, o1, rfl, hb1, hc1⟩ := HP.out.resolve_left (by intro h; subst h; simp at hlt)
      obtain ⟨s, hs⟩ : ∃ s, l[k]? = some s := ⟨_, List.getElem?_eq_getElem hlt⟩
      obtain ⟨x0, x1⟩ := hc1 k s hs
      have e0 : wr.cell? ⟨b1, o1 + k * 2, none⟩ = some (.int .i64 s.low) := (hbr.cell (p := ⟨b1, o1 + k * 2, none⟩) hb1).trans x0
      have e1 : wr.cell? ⟨b1, o1 + k * 2 + 1, none⟩ = some (.int .i64 s.high) := (hbr.cell (p := ⟨b1, o1 + k * 2 + 1, none⟩) hb1).trans x1
      have hsm := szLs_mem Spn.lf (List.mem_of_getElem? hs)
      have CT := Lib.hid (toSpan_g s wr (by have := HL.out; omega))
      have HTK := Lib.hid (flat_take_succ Spn.lf hs)
      clear hc1 hs HP hsm x0 x1
      go_wp2_with fail
      refine (CT.out).mono ?_
      rintro e w2 ⟨rfl, b2⟩
      have hown2 := ownsRow_below hown b2
      have hin2 := LsIn.frame _ _ _ (fun q hq => b2.block q (LsIn.lt _ _ _ hin q hq)) hin
      have hqz : ∀ q ∈ fq, q < wr.heap.size := fun q hq => LsIn.lt _ _ _ hin q hq
      have hb2 := hbr.trans (b2.mono hbr0)
      have hz2 := b2.size
      obtain ⟨R1, R2, rfl, hR1⟩ := rest_split hown2.1 hA hlt
      obtain ⟨y0, y1, rfl⟩ : ∃ y0 y1, R1 = [y0, y1] := by
        match R1, hR1 with
        | [a0, a1], _ => exact ⟨a0, a1, rfl⟩
      simp only [List.cons_append, List.nil_append] at hown2
      clear hown hin b2 CT hR1 e0 e1
      have c0 : w2.cell? ⟨w.heap.size, k * 2, none⟩ = some y0 := own_cell (L := y0 :: y1 :: R2) hown2 hA 0 _ rfl
      have q0 : w2.frozen? ⟨w.heap.size, k * 2, none⟩ = false := own_free hown2 _
      have p0 : (w2.setCell ⟨w.heap.size, k * 2, none⟩ (.int .i64 s.low)).ownsRow w.heap.size 57 2 (.slice (some ⟨w.heap.size, 0, none⟩) l.length l.length) l.length (A ++ (.int .i64 s.low) :: y1 :: R2) := own_at (L := y0 :: y1 :: R2) hown2 hA 0 (.int .i64 s.low)
      have c1 : (w2.setCell ⟨w.heap.size, k * 2, none⟩ (.int .i64 s.low)).cell? ⟨w.heap.size, k * 2 + 1, none⟩ = some y1 := own_cell (L := (.int .i64 s.low) :: y1 :: R2) p0 hA 1 _ rfl
      have q1 : (w2.setCell ⟨w.heap.size, k * 2, none⟩ (.int .i64 s.low)).frozen? ⟨w.heap.size, k * 2 + 1, none⟩ = false := own_free p0 _
      have p1 : ((w2.setCell ⟨w.heap.size, k * 2, none⟩ (.int .i64 s.low)).setCell ⟨w.heap.size, k * 2 + 1, none⟩ (.int .i64 s.high)).ownsRow w.heap.size 57 2 (.slice (some ⟨w.heap.size, 0, none⟩) l.length l.length) l.length (A ++ (.int .i64 s.low) :: (.int .i64 s.high) :: R2) := own_at (L := (.int .i64 s.low) :: y1 :: R2) p0 hA 1 (.int .i64 s.high)
      have gs : GrownIn w2 ((w2.setCell ⟨w.heap.size, k * 2, none⟩ (.int .i64 s.low)).setCell ⟨w.heap.size, k * 2 + 1, none⟩ (.int .i64 s.high)) [w.heap.size] := ((GrownIn.refl w2 [w.heap.size]).trans (GrownIn.set (by simp))).trans (GrownIn.set (by simp))
      have IA := Lib.hid (LsIn.apart hin2 gs (fun q hq hm => by have := hlow q hq; simp at hm; omega))
      have hb3 := GrownIn.below hb2 gs hb2.size (fun q hq => by simp at hq; omega)
      have hz3 : w.heap.size < ((w2.setCell ⟨w.heap.size, k * 2, none⟩ (.int .i64 s.low)).setCell ⟨w.heap.size, k * 2 + 1, none⟩ (.int .i64 s.high)).heap.size := Nat.lt_of_lt_of_le (Nat.lt_of_lt_of_le hzr hz2) gs.size
      have PP := Lib.hid p1
      clear hown2 hin2 hb2 gs p0 p1 
      go_wp2
      go_roundw
      case rel =>
        refine ⟨k + 1, A ++ [(.int .i64 s.low), (.int .i64 s.high)], R2, fq ++ ([]), by omega, by go_num, by simp; omega, by simpa using PP.out, ?_, ?_, ?_, hb3, hz3⟩
        · rw [HTK.out]
          exact LsIn.append.2 ⟨A, _, fq, _, rfl, IA.out, Spn.in_mk, rfl⟩
        · simpa using hnd
        · simpa using hlow
      case measure => simp [intOf]; omega
    · obtain rfl : k = l.length := by omega
      have hR0 : R = [] := by
        have := hown.1
        rw [List.length_append, hA] at this
        exact List.eq_nil_of_length_eq_zero (by omega)
      subst hR0
      rw [List.append_nil] at hown
      rw [List.take_length] at hin
      have hT : Tree wr w.heap.size (spnsLf l) (.slice (some ⟨w.heap.size, 0, none⟩) l.length l.length) (w.heap.size :: fq) := by
        refine ⟨⟨flat_lenM Spn.len l, A, fq, own_base hown, hin, rfl⟩, List.nodup_cons.2 ⟨fun hm => by have := hlow _ hm; omega, hnd⟩, fun q hq => ?_⟩
        rcases List.mem_cons.1 hq with rfl | hq
        · exact Nat.le_refl _
        · exact Nat.le_of_lt (hlow q hq)
      have HT := Lib.hid hT
      clear hT hown hin hA
      go_wp2
      go_ret
      exact ⟨_, _, rfl, HT.out, hbr⟩

end Go.Proofs.Ytidjebepgpbcnaa
