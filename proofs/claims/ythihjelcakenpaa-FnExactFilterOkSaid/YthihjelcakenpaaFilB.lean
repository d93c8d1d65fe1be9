/-
  Chapter 6: the laws' helpers on slices of scopes.
-/
import Derived.Test.YthihjelcakenpaaFilA
import Derived.Test.YthihjelcakenpaaLfB
import Derived.IntWalk
namespace Go.Proofs.Ythihjelcakenpaa
open Go.RowKit

theorem Try.el_scp : Elem Try.prog 24 32 3 40 := Elem.mk' (z := .agg #[.int .i64 0, .slice none 0 0, .int .i64 0]) Try.underlying24 (by kernel_rfl) rfl (by omega)

def scpsLf (l : List Scp) : Lf := .rows 32 3 l.length (l.flatMap Scp.lf)
theorem scp_len (s : Scp) : s.lf.length = 3 := rfl
/-- Scope i of a slice that is read. -/
theorem scps_at {W : World} {l : List Scp} {v : Value} (h : LfRd W (scpsLf l) v) : ∃ p cap, v = .slice p l.length cap ∧ (l = [] ∨ ∃ b off, p = some ⟨b, off, none⟩ ∧ b < W.heap.size ∧ ∀ i s, l[i]? = some s → ∃ vn, Rd1 sv W vn s.names ∧ W.cell? ⟨b, off + i * 3, none⟩ = some (.int .i64 s.kind) ∧ W.cell? ⟨b, off + i * 3 + 1, none⟩ = some vn ∧ W.cell? ⟨b, off + i * 3 + 2, none⟩ = some (.int .i64 s.events)) := by
  obtain ⟨p, cap, hv, hc⟩ := rows_at scp_len h
  refine ⟨p, cap, hv, hc.imp id fun ⟨b, off, hp, hlt, hc⟩ => ⟨b, off, hp, hlt, fun i s hi => ?_⟩⟩
  obtain ⟨us, h1, h2⟩ := hc i s hi
  obtain ⟨vn, rfl, h3⟩ := ScpRd.ls.1 h1
  exact ⟨vn, h3, h2 0 _ rfl, h2 1 _ rfl, h2 2 _ rfl⟩

set_option maxHeartbeats 1600000 in
theorem eqScopeS_same (a b : Value) (l : List Scp) (w : World) (ha : LfRd w (scpsLf l) a) (hb : LfRd w (scpsLf l) b) (hl : l.length ≤ 140737488355328) (hx : ∀ s ∈ l, s.names.length ≤ 140737488355328) :
    Calls Try.prog 48 #[a, b] w fun e w' => e = .returned (.bool true) ∧ Below w.heap.size w w' := by
  obtain ⟨p, c1, rfl, hp⟩ := scps_at ha
  obtain ⟨q, c2, rfl, hq⟩ := scps_at hb
  clear ha hb
  have HP := Lib.hid hp
  have HQ := Lib.hid hq
  have HX := Lib.hid hx
  clear hp hq hx
  go_enter Try.func48, Try.ntmps48
  go_wp2
  go_loopw [5] (fun i wr => ∃ k : Nat, k ≤ l.length ∧ i = .int .i64 k ∧ Below w.heap.size w wr) (fun i _ => l.length - (intOf i).toNat)
  case atStart => exact ⟨0, by omega, rfl, Below.refl _ _⟩
  case round =>
    obtain ⟨k, hk, rfl, hbr⟩ := hrel
    have hbr0 := hbr.size
    by_cases hlt : k < l.length
    · obtain ⟨b1, o1, rfl, hb1, hc1⟩ := HP.out.resolve_left (by intro h; subst h; simp at hlt)
      obtain ⟨b2, o2, rfl, hb2, hc2⟩ := HQ.out.resolve_left (by intro h; subst h; simp at hlt)
      obtain ⟨s, hs⟩ : ∃ s, l[k]? = some s := ⟨_, List.getElem?_eq_getElem hlt⟩
      obtain ⟨v1, n1, x0, x1, x2⟩ := hc1 k s hs
      obtain ⟨v2, n2, y0, y1, y2⟩ := hc2 k s hs
      have e0 : wr.drew.cell? ⟨b1, o1 + k * 3, none⟩ = some (.int .i64 s.kind) := (hbr.cell (p := ⟨b1, o1 + k * 3, none⟩) hb1).trans x0
      have e1 : wr.drew.cell? ⟨b1, o1 + k * 3 + 1, none⟩ = some v1 := (hbr.cell (p := ⟨b1, o1 + k * 3 + 1, none⟩) hb1).trans x1
      have e2 : wr.drew.cell? ⟨b1, o1 + k * 3 + 2, none⟩ = some (.int .i64 s.events) := (hbr.cell (p := ⟨b1, o1 + k * 3 + 2, none⟩) hb1).trans x2
      have f0 : wr.drew.cell? ⟨b2, o2 + k * 3, none⟩ = some (.int .i64 s.kind) := (hbr.cell (p := ⟨b2, o2 + k * 3, none⟩) hb2).trans y0
      have f1 : wr.drew.cell? ⟨b2, o2 + k * 3 + 1, none⟩ = some v2 := (hbr.cell (p := ⟨b2, o2 + k * 3 + 1, none⟩) hb2).trans y1
      have f2 : wr.drew.cell? ⟨b2, o2 + k * 3 + 2, none⟩ = some (.int .i64 s.events) := (hbr.cell (p := ⟨b2, o2 + k * 3 + 2, none⟩) hb2).trans y2
      have CE := Lib.hid (eqScope_same s v1 v2 wr.drew (n1.below hbr.drew) (n2.below hbr.drew) (HX.out s (List.mem_of_getElem? hs)))
      clear hc1 hc2 hs HP HQ x0 x1 x2 y0 y1 y2 n1 n2
      go_wp2
      refine ord_start [(0, true), (1, true), (2, true), (3, true), (4, true), (5, true), (6, true), (7, true), (8, false), (9, true)] (fun W => (W.cell? ⟨b1, o1 + k * 3, none⟩ = some (.int .i64 s.kind) ∧ W.cell? ⟨b1, o1 + k * 3 + 1, none⟩ = some v1 ∧ W.cell? ⟨b1, o1 + k * 3 + 2, none⟩ = some (.int .i64 s.events)) ∧ W.cell? ⟨b2, o2 + k * 3, none⟩ = some (.int .i64 s.kind) ∧ W.cell? ⟨b2, o2 + k * 3 + 1, none⟩ = some v2 ∧ W.cell? ⟨b2, o2 + k * 3 + 2, none⟩ = some (.int .i64 s.events)) (by kernel_rfl) (by kernel_rfl) rfl (by kernel_rfl) ?_
      intro ops' hops
      clear hops
      simp only [List.map_cons, List.map_nil, pickOp_zero, pickOp_succ]
      iterate 8 (refine ord_flo ?_ (fun _ _ _ h => h) rfl ?_ ⟨⟨e0, e1, e2⟩, f0, f1, f2⟩ ?_; rotate_left; focus (intro W hS; obtain ⟨⟨s0, s1, s2⟩, t0, t1, t2⟩ := hS; go_simp; rfl))
      refine ord_ev rfl ?_
      go_simp
      refine (CE.out).mono ?_
      rintro e w2 ⟨rfl, bb⟩
      have hb2' := hbr.drew.trans (bb.mono (by show w.heap.size ≤ wr.heap.size; omega))
      have hlt1 : b1 < wr.drew.heap.size := Nat.lt_of_lt_of_le hb1 hbr0
      have hlt2 : b2 < wr.drew.heap.size := Nat.lt_of_lt_of_le hb2 hbr0
      refine ⟨⟨⟨(bb.cell (p := ⟨b1, o1 + k * 3, none⟩) hlt1).trans e0, (bb.cell (p := ⟨b1, o1 + k * 3 + 1, none⟩) hlt1).trans e1, (bb.cell (p := ⟨b1, o1 + k * 3 + 2, none⟩) hlt1).trans e2⟩, (bb.cell (p := ⟨b2, o2 + k * 3, none⟩) hlt2).trans f0, (bb.cell (p := ⟨b2, o2 + k * 3 + 1, none⟩) hlt2).trans f1, (bb.cell (p := ⟨b2, o2 + k * 3 + 2, none⟩) hlt2).trans f2⟩, ?_⟩
      iterate 1 (refine ord_flo ?_ (fun _ _ _ h => h) rfl ?_ ⟨⟨(bb.cell (p := ⟨b1, o1 + k * 3, none⟩) hlt1).trans e0, (bb.cell (p := ⟨b1, o1 + k * 3 + 1, none⟩) hlt1).trans e1, (bb.cell (p := ⟨b1, o1 + k * 3 + 2, none⟩) hlt1).trans e2⟩, (bb.cell (p := ⟨b2, o2 + k * 3, none⟩) hlt2).trans f0, (bb.cell (p := ⟨b2, o2 + k * 3 + 1, none⟩) hlt2).trans f1, (bb.cell (p := ⟨b2, o2 + k * 3 + 2, none⟩) hlt2).trans f2⟩ ?_; rotate_left; focus (intro W hS; obtain ⟨⟨s0, s1, s2⟩, t0, t1, t2⟩ := hS; go_simp; rfl))
      refine ord_done ?_
      go_simp
      clear e0 e1 e2 f0 f1 f2 bb hbr hbr0 CE
      go_wp2
      go_roundw
      case rel => exact ⟨k + 1, by omega, by go_num, hb2'⟩
      case measure => simp [intOf]; omega
    · obtain rfl : k = l.length := by omega
      go_wp2
      go_ret
      exact ⟨rfl, hbr⟩

theorem scp_in {W : World} {B : Nat} {s : Scp} {v : Value} (h : W.ownsRow B 9 1 v s.names.length (s.names.map sv)) : LsIn W s.lf [.int .i64 s.kind, v, .int .i64 s.events] v.ownBlock.toList :=
  ⟨_, _, [], v.ownBlock.toList, rfl, ⟨rfl, rfl⟩, ⟨v, _, v.ownBlock.toList, [], rfl, strs_in.2 ⟨own_base h, rfl⟩, ⟨_, _, [], [], rfl, ⟨rfl, rfl⟩, ⟨rfl, rfl⟩, rfl⟩, by simp⟩, rfl⟩

set_option maxHeartbeats 3200000 in
theorem toScopeS_any (v : Value) (l : List Scp) (w : World) (hr : LfRd w (scpsLf l) v) (hl : l.length ≤ 1048576) (hx : ∀ s ∈ l, s.names.length ≤ 1048576) :
    Calls Try.prog 47 #[v] w fun e w' => ∃ v' fp, e = .returned v' ∧ Tree w' w.heap.size (scpsLf l) v' fp ∧ Below w.heap.size w w' := by
  obtain ⟨p, c, rfl, hp⟩ := scps_at hr
  have HP := Lib.hid hp
  have HX := Lib.hid hx
  clear hr hp hx
  go_enter Try.func47, Try.ntmps47
  go_wp2_with (refine wpList_mkn Try.el_scp rfl _ _ rfl w.heap.size w (Below.refl _ _) (Nat.le_refl _) _ _ l.length rfl rfl (by omega) (by omega) ?_)
  intro w1 xs0 hown1 hb1 hlt1
  go_wp2
  go_loopw [4] (fun i wr => ∃ (k : Nat) (A R : List Value) (fq : List Nat), k ≤ l.length ∧ i = .int .i64 k ∧ A.length = k * 3 ∧ wr.ownsRow w.heap.size 32 3 (.slice (some ⟨w.heap.size, 0, none⟩) l.length l.length) l.length (A ++ R) ∧ LsIn wr ((l.take k).flatMap Scp.lf) A fq ∧ fq.Nodup ∧ (∀ q ∈ fq, w.heap.size < q) ∧ Below w.heap.size w wr ∧ w.heap.size < wr.heap.size) (fun i _ => l.length - (intOf i).toNat)
  case atStart => exact ⟨0, [], xs0, [], by omega, rfl, rfl, hown1, ⟨rfl, rfl⟩, by simp, by simp, hb1, hlt1⟩
  case round =>
    obtain ⟨k, A, R, fq, hk, rfl, hA, hown, hin, hnd, hlow, hbr, hzr⟩ := hrel
    have hbr0 := hbr.size
    clear hown1 hb1 hlt1
    by_cases hlt : k < l.length
    · obtain ⟨b1, o1, rfl, hb1, hc1⟩ := HP.out.resolve_left (by intro h; subst h; simp at hlt)
      obtain ⟨s, hs⟩ : ∃ s, l[k]? = some s := ⟨_, List.getElem?_eq_getElem hlt⟩
      obtain ⟨v1, n1, x0, x1, x2⟩ := hc1 k s hs
      have e0 : wr.cell? ⟨b1, o1 + k * 3, none⟩ = some (.int .i64 s.kind) := (hbr.cell (p := ⟨b1, o1 + k * 3, none⟩) hb1).trans x0
      have e1 : wr.cell? ⟨b1, o1 + k * 3 + 1, none⟩ = some v1 := (hbr.cell (p := ⟨b1, o1 + k * 3 + 1, none⟩) hb1).trans x1
      have e2 : wr.cell? ⟨b1, o1 + k * 3 + 2, none⟩ = some (.int .i64 s.events) := (hbr.cell (p := ⟨b1, o1 + k * 3 + 2, none⟩) hb1).trans x2
      have hsl := HX.out s (List.mem_of_getElem? hs)
      have CT := Lib.hid (toScope_any s v1 wr (n1.below hbr) (by omega))
      have htk : l.take (k + 1) = l.take k ++ [s] := by
        obtain ⟨h1, h2⟩ := List.getElem?_eq_some_iff.1 hs
        rw [List.take_succ_eq_append_getElem h1, h2]
      have HTK := Lib.hid htk
      clear hc1 hs HP x0 x1 x2 n1 htk
      go_wp2_with fail
      refine (CT.out).mono ?_
      rintro e w2 ⟨v', rfl, o2, b2⟩
      have hown2 := ownsRow_below hown b2
      have hin2 := hin.frame _ _ _ (fun q hq => b2.block q (LsIn.lt _ _ _ hin q hq))
      have hqz : ∀ q ∈ fq, q < wr.heap.size := fun q hq => LsIn.lt _ _ _ hin q hq
      have hb2 := hbr.trans (b2.mono hbr0)
      have hz2 := b2.size
      obtain ⟨pv, cv, rfl⟩ : ∃ p c, v' = .slice p s.names.length c := by
        rcases o2.2 with ⟨hv, h0⟩ | ⟨g, cap, cur, hv, _⟩
        · exact ⟨none, 0, by rw [hv, h0]⟩
        · exact ⟨_, cap, hv⟩
      have hown' := hown2.1
      obtain ⟨R1, R2, rfl, hR1⟩ := rest_split hown' hA hlt
      obtain ⟨r0, r1, r2, rfl⟩ : ∃ r0 r1 r2, R1 = [r0, r1, r2] := by
        match R1, hR1 with
        | [a, b, c], _ => exact ⟨a, b, c, rfl⟩
      clear hown hin b2 CT e0 e1 e2 hR1 hown'
      obtain ⟨p1, k1, z1⟩ := own_set (A := A) (x := r0) (R := r1 :: r2 :: R2) (i := k * 3) hown2 hA (.int .i64 s.kind)
      obtain ⟨p2, k2, z2⟩ := own_set (A := A ++ [.int .i64 s.kind]) (x := r1) (R := r2 :: R2) (i := k * 3 + 1) (by simpa using p1) (by simp; omega) (.slice pv s.names.length cv)
      obtain ⟨p3, k3, z3⟩ := own_set (A := A ++ [.int .i64 s.kind, .slice pv s.names.length cv]) (x := r2) (R := R2) (i := k * 3 + 2) (by simpa using p2) (by simp; omega) (.int .i64 s.events)
      have hob : ∀ q, (Value.slice pv s.names.length cv).ownBlock = some q → wr.heap.size ≤ q := fun q hq => (o2.lt q hq).1
      have o3 := own_put2 (b := w.heap.size) (j := k * 3 + 2) (x := .int .i64 s.events) (own_put2 (b := w.heap.size) (j := k * 3 + 1) (x := .slice pv s.names.length cv) (own_put2 (b := w.heap.size) (j := k * 3) (x := .int .i64 s.kind) o2 (fun q hq => by have := hob q hq; omega)) (fun q hq => by have := hob q hq; omega)) (fun q hq => by have := hob q hq; omega)
      have hgq : w.heap.size ∉ fq := fun hm => by have := hlow _ hm; omega
      have i3 := ((hin2.set (g := w.heap.size) (i := k * 3) (u := .int .i64 s.kind) hgq).set (g := w.heap.size) (i := k * 3 + 1) (u := .slice pv s.names.length cv) hgq).set (g := w.heap.size) (i := k * 3 + 2) (u := .int .i64 s.events) hgq
      have hb3 := ((hb2.setCell (p := ⟨w.heap.size, k * 3, none⟩) (Nat.le_refl _) (.int .i64 s.kind)).setCell (p := ⟨w.heap.size, k * 3 + 1, none⟩) (Nat.le_refl _) (.slice pv s.names.length cv)).setCell (p := ⟨w.heap.size, k * 3 + 2, none⟩) (Nat.le_refl _) (.int .i64 s.events)
      have q1 := z1 (k * 3)
      have q2 := z1 (k * 3 + 1)
      have q3 := z1 (k * 3 + 2)
      have P3 := Lib.hid p3
      have O3 := Lib.hid o3
      have I3 := Lib.hid i3
      clear p1 p2 p3 o2 o3 i3 hown2 hin2 hb2 z1 z2 z3
      go_wp2
      go_roundw
      case rel =>
        refine ⟨k + 1, A ++ [.int .i64 s.kind, .slice pv s.names.length cv, .int .i64 s.events], R2, fq ++ (Value.slice pv s.names.length cv).ownBlock.toList, by omega, by go_num, by simp; omega, by simpa using P3.out, ?_, ?_, ?_, hb3, by simp; omega⟩
        · rw [HTK.out, List.flatMap_append]
          refine LsIn.append.2 ⟨A, _, fq, _, rfl, I3.out, ?_, rfl⟩
          rw [List.flatMap_singleton]
          exact scp_in O3.out
        · rw [List.nodup_append]
          refine ⟨hnd, by cases (Value.slice pv s.names.length cv).ownBlock <;> simp, fun x hx y hy e => ?_⟩
          have h1 := hqz x hx
          have h2 := hob y (by simpa using hy)
          omega
        · intro q hq
          rcases List.mem_append.1 hq with hq | hq
          · exact hlow q hq
          · have := hob q (by simpa using hq); omega
      case measure => simp [intOf]; omega
    · obtain rfl : k = l.length := by omega
      have hR0 : R = [] := by
        have := hown.1
        rw [List.length_append, hA] at this
        exact List.eq_nil_of_length_eq_zero (by omega)
      subst hR0
      rw [List.append_nil] at hown
      rw [List.take_length] at hin
      have hT : Tree wr w.heap.size (scpsLf l) (.slice (some ⟨w.heap.size, 0, none⟩) l.length l.length) (w.heap.size :: fq) := by
        refine ⟨⟨flat_lenM scp_len l, A, fq, own_base hown, hin, rfl⟩, List.nodup_cons.2 ⟨fun hm => by have := hlow _ hm; omega, hnd⟩, fun q hq => ?_⟩
        rcases List.mem_cons.1 hq with rfl | hq
        · exact Nat.le_refl _
        · exact Nat.le_of_lt (hlow q hq)
      have HT := Lib.hid hT
      clear hT hown hin hA
      go_wp2
      go_ret
      exact ⟨_, _, rfl, HT.out, hbr⟩

end Go.Proofs.Ythihjelcakenpaa
