/-
  Chapter 6: scopes and filters as data; the laws' helpers on scopes.
-/
import Derived.Test.YthihjelcakenpaaLf
import Derived.Test.YthihjelcakenpaaJoined
import Derived.Handy
namespace Go.Proofs.Ythihjelcakenpaa
open Go.RowKit

structure Scp where
  kind : Int
  names : List (List UInt8)
  events : Int

structure Flt where
  on : Bool
  scopes : List Scp

def strsLf (l : List (List UInt8)) : Lf := .rows 9 1 l.length (l.map Lf.str)
def Scp.lf (s : Scp) : List Lf := [.int s.kind, strsLf s.names, .int s.events]

theorem lsRd_strs {W : World} : ∀ (l : List (List UInt8)) (xs : List Value), LsRd W (l.map Lf.str) xs ↔ xs = l.map sv
  | [], xs => Iff.rfl
  | a :: l, xs => by
    constructor
    · rintro ⟨v, us, rfl, h1, h2⟩
      rw [(lsRd_strs l us).1 h2, h1]; rfl
    · rintro rfl
      exact ⟨sv a, l.map sv, rfl, rfl, (lsRd_strs l _).2 rfl⟩
theorem lsIn_strs {W : World} : ∀ (l : List (List UInt8)) (xs : List Value) (fp : List Nat), LsIn W (l.map Lf.str) xs fp ↔ xs = l.map sv ∧ fp = []
  | [], xs, fp => Iff.rfl
  | a :: l, xs, fp => by
    constructor
    · rintro ⟨v, us, f1, f2, rfl, h1, h2, rfl⟩
      obtain ⟨e1, e2⟩ := (lsIn_strs l us f2).1 h2
      rw [e1, h1.1, h1.2, e2]; exact ⟨rfl, rfl⟩
    · rintro ⟨rfl, rfl⟩
      exact ⟨sv a, l.map sv, [], [], rfl, ⟨rfl, rfl⟩, (lsIn_strs l _ _).2 ⟨rfl, rfl⟩, rfl⟩
theorem strs_rd {W : World} {l : List (List UInt8)} {v : Value} : LfRd W (strsLf l) v ↔ Rd1 sv W v l := by
  constructor
  · rintro ⟨_, p, cap, hv, h⟩
    refine ⟨p, cap, hv, ?_⟩
    rcases h with h0 | ⟨b, off, hp, hlt, xs, hc, hx⟩
    · exact .inl (List.eq_nil_of_length_eq_zero h0)
    · refine .inr ⟨b, off, hp, hlt, fun i x hi => hc i (sv x) ?_⟩
      rw [(lsRd_strs l xs).1 hx, List.getElem?_map, hi]; rfl
  · intro h
    obtain ⟨p, cap, hv, hc⟩ := h.ex
    refine ⟨by simp, p, cap, hv, ?_⟩
    rcases hc with h0 | ⟨b, off, hp, hlt, hc⟩
    · exact .inl (by rw [h0]; rfl)
    · refine .inr ⟨b, off, hp, hlt, l.map sv, fun j u hu => ?_, (lsRd_strs l _).2 rfl⟩
      rw [List.getElem?_map] at hu
      cases hl : l[j]? with
      | none => rw [hl] at hu; cases hu
      | some x => rw [hl] at hu; injection hu with hu; rw [← hu]; exact hc j x hl
theorem strs_in {W : World} {l : List (List UInt8)} {v : Value} {fp : List Nat} : LfIn W (strsLf l) v fp ↔ W.ownsRow 0 9 1 v l.length (l.map sv) ∧ fp = v.ownBlock.toList := by
  constructor
  · rintro ⟨_, xs, fq, ho, hx, rfl⟩
    obtain ⟨e1, e2⟩ := (lsIn_strs l xs fq).1 hx
    rw [e1] at ho
    exact ⟨ho, by rw [e2, List.append_nil]⟩
  · rintro ⟨ho, rfl⟩
    exact ⟨by simp, l.map sv, [], ho, (lsIn_strs l _ _).2 ⟨rfl, rfl⟩, by rw [List.append_nil]⟩
theorem own_base {W : World} {B m n : Nat} {e : TypeId} {v : Value} {xs : List Value} (h : W.ownsRow B e m v n xs) : W.ownsRow 0 e m v n xs := ⟨h.1, h.2.imp id fun ⟨g, cap, cur, h1, _, h3⟩ => ⟨g, cap, cur, h1, Nat.zero_le _, h3⟩⟩
theorem own_rebase {W : World} {B m n : Nat} {e : TypeId} {v : Value} {xs : List Value} (h : W.ownsRow 0 e m v n xs) (hb : ∀ k, v.ownBlock = some k → B ≤ k) : W.ownsRow B e m v n xs := ⟨h.1, h.2.imp id fun ⟨g, cap, cur, h1, _, h3⟩ => ⟨g, cap, cur, h1, hb g (by rw [h1]; rfl), h3⟩⟩
theorem tree_strs {W : World} {B : Nat} {l : List (List UInt8)} {v : Value} (h : W.ownsRow B 9 1 v l.length (l.map sv)) : Tree W B (strsLf l) v v.ownBlock.toList :=
  ⟨strs_in.2 ⟨own_base h, rfl⟩, by cases v.ownBlock <;> simp, fun k hk => (h.lt k (by simpa using hk)).1⟩

/-- A scope's value reads as it. -/
def ScpRd (W : World) (s : Scp) (v : Value) : Prop := ∃ vn, v = .agg #[.int .i64 s.kind, vn, .int .i64 s.events] ∧ Rd1 sv W vn s.names
theorem ScpRd.ls {W : World} {s : Scp} {vs : List Value} : LsRd W s.lf vs ↔ ∃ vn, vs = [.int .i64 s.kind, vn, .int .i64 s.events] ∧ Rd1 sv W vn s.names := by
  constructor
  · rintro ⟨a, r1, rfl, h1, b, r2, rfl, h2, c, r3, rfl, h3, rfl⟩
    exact ⟨b, by rw [h1, h3], strs_rd.1 h2⟩
  · rintro ⟨vn, rfl, h⟩
    exact ⟨_, _, rfl, rfl, _, _, rfl, strs_rd.2 h, _, _, rfl, rfl, rfl⟩

/-- A cell is set in a block whose cells are known. -/
theorem set_heap {W : World} {b j : Nat} {cs : Array Value} {T : TypeId} {u : Value} (h : W.heap[b]? = some (.cells cs T (0, 0))) : (W.setCell ⟨b, j, none⟩ u).heap[b]? = some (.cells (cs.setIfInBounds j u) T (0, 0)) := by
  simp [World.setCell, Array.getElem?_modify, h]
theorem set_other {W : World} {b b' j : Nat} {u : Value} (h : b' ≠ b) : (W.setCell ⟨b, j, none⟩ u).heap[b']? = W.heap[b']? := Below.heap_setCell W ⟨b, j, none⟩ u b' h

theorem own_put2 {w : World} {B n s b j : Nat} {e : TypeId} {v x : Value} {xs : List Value} (h : w.ownsRow B e s v n xs) (hb : ∀ k, v.ownBlock = some k → k ≠ b) : (w.setCell ⟨b, j, none⟩ x).ownsRow B e s v n xs :=
  own_frame h (fun k hk => set_other (hb k hk))

set_option maxHeartbeats 1600000 in
theorem toScope_any (s : Scp) (vn : Value) (w : World) (hr : Rd1 sv w vn s.names) (hl : s.names.length ≤ 10000000) :
    Calls Try.prog 16 #[.agg #[.int .i64 s.kind, vn, .int .i64 s.events]] w fun e w' => ∃ v', e = .returned (.agg #[.int .i64 s.kind, v', .int .i64 s.events]) ∧ w'.ownsRow w.heap.size 9 1 v' s.names.length (s.names.map sv) ∧ Below w.heap.size w w' := by
  obtain ⟨k, names, ev⟩ := s
  simp only at *
  obtain ⟨p, c, rfl, _⟩ := hr.ex
  have HR := Lib.hid hr
  have CT := Lib.hid (fun W (h : Rd1 sv W (.slice p names.length c) names) => toStringS_any (.slice p names.length c) names W h hl)
  clear hr
  go_enter Try.func16, Try.ntmps16
  have HA := Lib.hid (heap_alloc_new w (.cells #[.int .i64 k, .slice p names.length c, .int .i64 ev] 34))
  go_wp2_with fail
  have hb3 : Below w.heap.size w (((w.alloc (.cells #[.int .i64 k, .slice p names.length c, .int .i64 ev] 34)).alloc (.cells #[.int .i64 0, .slice none 0 0, .int .i64 0] 32)).alloc (.cells #[.int .i64 k, .slice none 0 0, .int .i64 0] 32)) := (((Below.refl _ _).alloc (Nat.le_refl _) _).alloc (by simp) _).alloc (by simp; omega) _
  have hA : (((w.alloc (.cells #[.int .i64 k, .slice p names.length c, .int .i64 ev] 34)).alloc (.cells #[.int .i64 0, .slice none 0 0, .int .i64 0] 32)).alloc (.cells #[.int .i64 k, .slice none 0 0, .int .i64 0] 32)).heap[w.heap.size]? = some (.cells #[.int .i64 k, .slice p names.length c, .int .i64 ev] 34 (0, 0)) := ((Below.heap_alloc _ _ _ (by simp; omega)).trans (Below.heap_alloc _ _ _ (by simp))).trans HA.out
  have hR : (((w.alloc (.cells #[.int .i64 k, .slice p names.length c, .int .i64 ev] 34)).alloc (.cells #[.int .i64 0, .slice none 0 0, .int .i64 0] 32)).alloc (.cells #[.int .i64 k, .slice none 0 0, .int .i64 0] 32)).heap[w.heap.size + 1]? = some (.cells #[.int .i64 0, .slice none 0 0, .int .i64 0] 32 (0, 0)) := (Below.heap_alloc _ _ _ (by simp)).trans (by have := heap_alloc_new (w.alloc (.cells #[.int .i64 k, .slice p names.length c, .int .i64 ev] 34)) (.cells #[.int .i64 0, .slice none 0 0, .int .i64 0] 32); rwa [World.size_alloc] at this)
  have hT : (((w.alloc (.cells #[.int .i64 k, .slice p names.length c, .int .i64 ev] 34)).alloc (.cells #[.int .i64 0, .slice none 0 0, .int .i64 0] 32)).alloc (.cells #[.int .i64 k, .slice none 0 0, .int .i64 0] 32)).heap[w.heap.size + 1 + 1]? = some (.cells #[.int .i64 k, .slice none 0 0, .int .i64 0] 32 (0, 0)) := by
    have := heap_alloc_new ((w.alloc (.cells #[.int .i64 k, .slice p names.length c, .int .i64 ev] 34)).alloc (.cells #[.int .i64 0, .slice none 0 0, .int .i64 0] 32)) (.cells #[.int .i64 k, .slice none 0 0, .int .i64 0] 32)
    rwa [World.size_alloc, World.size_alloc] at this
  have hzW : (((w.alloc (.cells #[.int .i64 k, .slice p names.length c, .int .i64 ev] 34)).alloc (.cells #[.int .i64 0, .slice none 0 0, .int .i64 0] 32)).alloc (.cells #[.int .i64 k, .slice none 0 0, .int .i64 0] 32)).heap.size = w.heap.size + 3 := by simp
  generalize (((w.alloc (.cells #[.int .i64 k, .slice p names.length c, .int .i64 ev] 34)).alloc (.cells #[.int .i64 0, .slice none 0 0, .int .i64 0] 32)).alloc (.cells #[.int .i64 k, .slice none 0 0, .int .i64 0] 32)) = W3 at *
  refine (CT.out _ (HR.out.below hb3)).mono ?_
  rintro e w1 ⟨g, rfl, o1, b1⟩
  have hb1 := hb3.trans (b1.mono hb3.size)
  replace hA := (b1.block w.heap.size (by omega)).trans hA
  replace hR := (b1.block (w.heap.size + 1) (by omega)).trans hR
  replace hT := (b1.block (w.heap.size + 1 + 1) (by omega)).trans hT
  have hg : ∀ q, (Value.slice (some ⟨g, 0, none⟩) names.length names.length).ownBlock = some q → w.heap.size + 3 ≤ q := fun q hq => by have := (o1.lt q hq).1; omega
  generalize hV : Value.slice (some ⟨g, 0, none⟩) names.length names.length = V at *
  have hV2 : ∃ p n c, V = .slice p n c := ⟨_, _, _, hV.symm⟩
  obtain ⟨pv, nv, cv, rfl⟩ := hV2
  clear hV b1 CT HA hb3 hzW
  -- what is read and set
  have a2 : (w1.setCell ⟨w.heap.size + 1 + 1, 1, none⟩ (.slice pv nv cv)).cell? ⟨w.heap.size, 2, none⟩ = some (.int .i64 ev) := (Lib.cell_of_heap ((set_other (by omega)).trans hA) 2).trans rfl
  have c1 : w1.cell? ⟨w.heap.size + 1 + 1, 1, none⟩ = some (.slice none 0 0) := (Lib.cell_of_heap hT 1).trans rfl
  have f1 : w1.frozen? ⟨w.heap.size + 1 + 1, 1, none⟩ = false := Lib.frozen_of_heap hT 1
  have hT2 : (w1.setCell ⟨w.heap.size + 1 + 1, 1, none⟩ (.slice pv nv cv)).heap[w.heap.size + 1 + 1]? = some (.cells #[.int .i64 k, .slice pv nv cv, .int .i64 0] 32 (0, 0)) := set_heap hT
  have c2 := (Lib.cell_of_heap hT2 2).trans (show _ = some (Value.int .i64 0) from rfl)
  have f2 := Lib.frozen_of_heap hT2 2
  have hT3 : ((w1.setCell ⟨w.heap.size + 1 + 1, 1, none⟩ (.slice pv nv cv)).setCell ⟨w.heap.size + 1 + 1, 2, none⟩ (.int .i64 ev)).heap[w.heap.size + 1 + 1]? = some (.cells #[.int .i64 k, .slice pv nv cv, .int .i64 ev] 32 (0, 0)) := set_heap hT2
  have hR3 : ((w1.setCell ⟨w.heap.size + 1 + 1, 1, none⟩ (.slice pv nv cv)).setCell ⟨w.heap.size + 1 + 1, 2, none⟩ (.int .i64 ev)).heap[w.heap.size + 1]? = some (.cells #[.int .i64 0, .slice none 0 0, .int .i64 0] 32 (0, 0)) := (set_other (by omega)).trans ((set_other (by omega)).trans hR)
  have o3 := own_put2 (b := w.heap.size + 1 + 1) (own_put2 (b := w.heap.size + 1 + 1) o1 (j := 1) (x := .slice pv nv cv) (fun q hq => by have := hg q hq; omega)) (j := 2) (x := .int .i64 ev) (fun q hq => by have := hg q hq; omega)
  have hb5 := (hb1.setCell (p := ⟨w.heap.size + 1 + 1, 1, none⟩) (by show w.heap.size ≤ w.heap.size + 1 + 1; omega) (.slice pv nv cv)).setCell (p := ⟨w.heap.size + 1 + 1, 2, none⟩) (by show w.heap.size ≤ w.heap.size + 1 + 1; omega) (.int .i64 ev)
  have hs5 : ((w1.setCell ⟨w.heap.size + 1 + 1, 1, none⟩ (.slice pv nv cv)).setCell ⟨w.heap.size + 1 + 1, 2, none⟩ (.int .i64 ev)).heap.size = w1.heap.size := by simp
  have HT3 := Lib.hid hT3
  generalize hW5 : (w1.setCell ⟨w.heap.size + 1 + 1, 1, none⟩ (.slice pv nv cv)).setCell ⟨w.heap.size + 1 + 1, 2, none⟩ (.int .i64 ev) = W5 at *
  have d0 : W5.cell? ⟨w.heap.size + 1 + 1, 0, none⟩ = some (.int .i64 k) := (Lib.cell_of_heap hT3 0).trans rfl
  have d1 : W5.cell? ⟨w.heap.size + 1 + 1, 1, none⟩ = some (.slice pv nv cv) := (Lib.cell_of_heap hT3 1).trans rfl
  have d2 : W5.cell? ⟨w.heap.size + 1 + 1, 2, none⟩ = some (.int .i64 ev) := (Lib.cell_of_heap hT3 2).trans rfl
  have r0 : W5.cell? ⟨w.heap.size + 1, 0, none⟩ = some (.int .i64 0) := (Lib.cell_of_heap hR3 0).trans rfl
  have q0 : W5.frozen? ⟨w.heap.size + 1, 0, none⟩ = false := Lib.frozen_of_heap hR3 0
  have q1 : W5.frozen? ⟨w.heap.size + 1, 1, none⟩ = false := Lib.frozen_of_heap hR3 1
  have q2 : W5.frozen? ⟨w.heap.size + 1, 2, none⟩ = false := Lib.frozen_of_heap hR3 2
  have hR4 := set_heap (j := 0) (u := .int .i64 k) hR3
  have hR5 := set_heap (j := 1) (u := .slice pv nv cv) hR4
  have hR6 := set_heap (j := 2) (u := .int .i64 ev) hR5
  have r1 := (Lib.cell_of_heap hR4 1).trans (show _ = some (Value.slice none 0 0) from rfl)
  have r2 := (Lib.cell_of_heap hR5 2).trans (show _ = some (Value.int .i64 0) from rfl)
  have s0 := (Lib.cell_of_heap hR6 0).trans (show _ = some (Value.int .i64 k) from rfl)
  have s1 := (Lib.cell_of_heap hR6 1).trans (show _ = some (Value.slice pv nv cv) from rfl)
  have s2 := (Lib.cell_of_heap hR6 2).trans (show _ = some (Value.int .i64 ev) from rfl)
  have o6 := own_put2 (b := w.heap.size + 1) (own_put2 (b := w.heap.size + 1) (own_put2 (b := w.heap.size + 1) o3 (j := 0) (x := .int .i64 k) (fun q hq => by have := hg q hq; omega)) (j := 1) (x := .slice pv nv cv) (fun q hq => by have := hg q hq; omega)) (j := 2) (x := .int .i64 ev) (fun q hq => by have := hg q hq; omega)
  have hb6 := ((hb5.setCell (p := ⟨w.heap.size + 1, 0, none⟩) (by show w.heap.size ≤ w.heap.size + 1; omega) (.int .i64 k)).setCell (p := ⟨w.heap.size + 1, 1, none⟩) (by show w.heap.size ≤ w.heap.size + 1; omega) (.slice pv nv cv)).setCell (p := ⟨w.heap.size + 1, 2, none⟩) (by show w.heap.size ≤ w.heap.size + 1; omega) (.int .i64 ev)
  clear hA hR hT hT2 hT3 hR3 hR4 hR5 hR6 HT3 hb1 o1 o3 hb5
  go_wp2
  exact bodyPost_ret (v := .agg #[.int .i64 k, .slice pv nv cv, .int .i64 ev]) (by simp [results, Try.results16, go_sem, s0, s1, s2]) rfl ⟨_, rfl, own_rebase (own_base o6) (fun q hq => by have := hg q hq; omega), hb6⟩

set_option maxHeartbeats 800000 in
theorem eqScope_same (s : Scp) (va vb : Value) (w : World) (ha : Rd1 sv w va s.names) (hb : Rd1 sv w vb s.names) (hl : s.names.length ≤ 140737488355328) :
    Calls Try.prog 18 #[.agg #[.int .i64 s.kind, va, .int .i64 s.events], .agg #[.int .i64 s.kind, vb, .int .i64 s.events]] w fun e w' => e = .returned (.bool true) ∧ Below w.heap.size w w' := by
  obtain ⟨k, names, ev⟩ := s
  simp only at *
  obtain ⟨p, c, rfl, _⟩ := ha.ex
  obtain ⟨q, d, rfl, _⟩ := hb.ex
  have hb2 : Below w.heap.size w ((w.alloc (.cells #[.int .i64 k, .slice p names.length c, .int .i64 ev] 32)).alloc (.cells #[.int .i64 k, .slice q names.length d, .int .i64 ev] 32)) := ((Below.refl _ _).alloc (Nat.le_refl _) _).alloc (by simp) _
  have CE := Lib.hid (eqStringS_same _ _ names _ (ha.below hb2) (hb.below hb2) hl)
  have hA : ((w.alloc (.cells #[.int .i64 k, .slice p names.length c, .int .i64 ev] 32)).alloc (.cells #[.int .i64 k, .slice q names.length d, .int .i64 ev] 32)).heap[w.heap.size]? = some (.cells #[.int .i64 k, .slice p names.length c, .int .i64 ev] 32 (0, 0)) := (Below.heap_alloc _ _ _ (by simp)).trans (heap_alloc_new w _)
  have hB : ((w.alloc (.cells #[.int .i64 k, .slice p names.length c, .int .i64 ev] 32)).alloc (.cells #[.int .i64 k, .slice q names.length d, .int .i64 ev] 32)).heap[w.heap.size + 1]? = some (.cells #[.int .i64 k, .slice q names.length d, .int .i64 ev] 32 (0, 0)) := by
    have := heap_alloc_new (w.alloc (.cells #[.int .i64 k, .slice p names.length c, .int .i64 ev] 32)) (.cells #[.int .i64 k, .slice q names.length d, .int .i64 ev] 32)
    rwa [World.size_alloc] at this
  have hz : ((w.alloc (.cells #[.int .i64 k, .slice p names.length c, .int .i64 ev] 32)).alloc (.cells #[.int .i64 k, .slice q names.length d, .int .i64 ev] 32)).heap.size = w.heap.size + 2 := by simp
  have HA := Lib.hid hA
  have HB := Lib.hid hB
  have HZ := Lib.hid hz
  clear ha hb hA hB hz
  go_enter Try.func18, Try.ntmps18
  go_wp2_with fail
  refine (CE.out).mono ?_
  rintro e w1 ⟨rfl, b1⟩
  have a2 : w1.cell? ⟨w.heap.size, 2, none⟩ = some (.int .i64 ev) := (Lib.cell_of_heap ((b1.block w.heap.size (by rw [HZ.out]; omega)).trans HA.out) 2).trans rfl
  have b2 : w1.cell? ⟨w.heap.size + 1, 2, none⟩ = some (.int .i64 ev) := (Lib.cell_of_heap ((b1.block (w.heap.size + 1) (by rw [HZ.out]; omega)).trans HB.out) 2).trans rfl
  have hb1 := hb2.trans (b1.mono (by rw [HZ.out]; omega))
  clear b1 hb2 HA HB HZ
  go_wp2
  go_ret
  exact ⟨rfl, hb1⟩

set_option maxHeartbeats 800000 in
theorem szScope_any (s : Scp) (vn : Value) (left : Nat) (w : World) (hr : Rd1 sv w vn s.names) (hl : s.names.length ≤ 9223372036854775807) (hx : ∀ x ∈ s.names, x.length ≤ 9223372036854775807) (hL : left ≤ 1000000000000) :
    Calls Try.prog 14 #[.agg #[.int .i64 s.kind, vn, .int .i64 s.events], .int .i64 left] w fun e w' => e = .returned (.int .i64 (szR left s.names)) ∧ Below w.heap.size w w' := by
  obtain ⟨k, names, ev⟩ := s
  simp only at *
  obtain ⟨p, c, rfl, _⟩ := hr.ex
  have hb1 : Below w.heap.size w (w.alloc (.cells #[.int .i64 k, .slice p names.length c, .int .i64 ev] 34)) := (Below.refl _ _).alloc (Nat.le_refl _) _
  have c1 := szStringS_any _ names left _ (hr.below hb1) hl hx hL
  by_cases hok : names.length + szl names ≤ left
  · rw [szR_yes hok] at c1
    have C1 := Lib.hid c1
    have HV := Lib.hid (szR_yes hok)
    have hnn : ¬ ((left - (names.length + szl names) : Nat) : Int) < 0 := by omega
    clear c1
    go_enter Try.func14, Try.ntmps14
    go_wp2_with fail
    refine (C1.out).mono ?_
    rintro e w1 ⟨rfl, b1⟩
    have hb2 := hb1.trans (b1.mono (by simp))
    go_wp2
    go_ret
    exact ⟨by rw [HV.out]; rfl, hb2⟩
  · rw [szR_no hok] at c1
    have C1 := Lib.hid c1
    have HV := Lib.hid (szR_no hok)
    clear c1
    go_enter Try.func14, Try.ntmps14
    go_wp2_with fail
    refine (C1.out).mono ?_
    rintro e w1 ⟨rfl, b1⟩
    have hb2 := hb1.trans (b1.mono (by simp))
    go_wp2
    go_ret
    exact ⟨by rw [HV.out]; rfl, hb2⟩

end Go.Proofs.Ythihjelcakenpaa
