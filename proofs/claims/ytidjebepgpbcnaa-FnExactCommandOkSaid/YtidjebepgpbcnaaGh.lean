/-
  Gh: FilA, FilB, FilC, FilD, FilE.
-/
import Derived.Test.YtidjebepgpbcnaaGb
import Derived.Test.YtidjebepgpbcnaaJoined
import Derived.Handy
import Derived.IntWalk

/-
  Chapter 6: scopes and filters as data; the laws' helpers on scopes.
-/
namespace Go.Proofs.Ytidjebepgpbcnaa
open Go.RowKit

structure Scp where
  kind : Int
  names : List (List UInt8)
  events : Int

structure Flt where
  on : Bool
  scopes : List Scp

def strsLf (l : List (List UInt8)) : Lf := .rows 9 1 l.length (l.map Lf.str)
def Scp.lf (s : Scp) : List Lf := [.int s.kind, strsLf s.names, .int s.events]

theorem lsRd_strs {W : World} : ∀ (l : List (List UInt8)) (xs : List Value), LsRd W (l.map Lf.str) xs ↔ xs = l.map sv
  | [], xs => Iff.rfl
  | a :: l, xs => by
    constructor
    · rintro ⟨v, us, rfl, h1, h2⟩
      rw [(lsRd_strs l us).1 h2, h1]; rfl
    · rintro rfl
      exact ⟨sv a, l.map sv, rfl, rfl, (lsRd_strs l _).2 rfl⟩
theorem lsIn_strs {W : World} : ∀ (l : List (List UInt8)) (xs : List Value) (fp : List Nat), LsIn W (l.map Lf.str) xs fp ↔ xs = l.map sv ∧ fp = []
  | [], xs, fp => Iff.rfl
  | a :: l, xs, fp => by
    constructor
    · rintro ⟨v, us, f1, f2, rfl, h1, h2, rfl⟩
      obtain ⟨e1, e2⟩ := (lsIn_strs l us f2).1 h2
      rw [e1, h1.1, h1.2, e2]; exact ⟨rfl, rfl⟩
    · rintro ⟨rfl, rfl⟩
      exact ⟨sv a, l.map sv, [], [], rfl, ⟨rfl, rfl⟩, (lsIn_strs l _ _).2 ⟨rfl, rfl⟩, rfl⟩
theorem strs_rd {W : World} {l : List (List UInt8)} {v : Value} : LfRd W (strsLf l) v ↔ Rd1 sv W v l := by
  constructor
  · rintro ⟨_, p, cap, hv, h⟩
    refine ⟨p, cap, hv, ?_⟩
    rcases h with h0 | ⟨b, off, hp, hlt, xs, hc, hx⟩
    · exact .inl (List.eq_nil_of_length_eq_zero h0)
    · refine .inr ⟨b, off, hp, hlt, fun i x hi => hc i (sv x) ?_⟩
      rw [(lsRd_strs l xs).1 hx, List.getElem?_map, hi]; rfl
  · intro h
    obtain ⟨p, cap, hv, hc⟩ := h.ex
    refine ⟨by simp, p, cap, hv, ?_⟩
    rcases hc with h0 | ⟨b, off, hp, hlt, hc⟩
    · exact .inl (by rw [h0]; rfl)
    · refine .inr ⟨b, off, hp, hlt, l.map sv, fun j u hu => ?_, (lsRd_strs l _).2 rfl⟩
      rw [List.getElem?_map] at hu
      cases hl : l[j]? with
      | none => rw [hl] at hu; cases hu
      | some x => rw [hl] at hu; injection hu with hu; rw [← hu]; exact hc j x hl
theorem strs_in {W : World} {l : List (List UInt8)} {v : Value} {fp : List Nat} : LfIn W (strsLf l) v fp ↔ W.ownsRow 0 9 1 v l.length (l.map sv) ∧ fp = v.ownBlock.toList := by
  constructor
  · rintro ⟨_, xs, fq, ho, hx, rfl⟩
    obtain ⟨e1, e2⟩ := (lsIn_strs l xs fq).1 hx
    rw [e1] at ho
    exact ⟨ho, by rw [e2, List.append_nil]⟩
  · rintro ⟨ho, rfl⟩
    exact ⟨by simp, l.map sv, [], ho, (lsIn_strs l _ _).2 ⟨rfl, rfl⟩, by rw [List.append_nil]⟩
theorem own_base {W : World} {B m n : Nat} {e : TypeId} {v : Value} {xs : List Value} (h : W.ownsRow B e m v n xs) : W.ownsRow 0 e m v n xs := ⟨h.1, h.2.imp id fun ⟨g, cap, cur, h1, _, h3⟩ => ⟨g, cap, cur, h1, Nat.zero_le _, h3⟩⟩
theorem own_rebase {W : World} {B m n : Nat} {e : TypeId} {v : Value} {xs : List Value} (h : W.ownsRow 0 e m v n xs) (hb : ∀ k, v.ownBlock = some k → B ≤ k) : W.ownsRow B e m v n xs := ⟨h.1, h.2.imp id fun ⟨g, cap, cur, h1, _, h3⟩ => ⟨g, cap, cur, h1, hb g (by rw [h1]; rfl), h3⟩⟩
theorem tree_strs {W : World} {B : Nat} {l : List (List UInt8)} {v : Value} (h : W.ownsRow B 9 1 v l.length (l.map sv)) : Tree W B (strsLf l) v v.ownBlock.toList :=
  ⟨strs_in.2 ⟨own_base h, rfl⟩, by cases v.ownBlock <;> simp, fun k hk => (h.lt k (by simpa using hk)).1⟩

/-- A scope's value reads as it. -/
def ScpRd (W : World) (s : Scp) (v : Value) : Prop := ∃ vn, v = .agg #[.int .i64 s.kind, vn, .int .i64 s.events] ∧ Rd1 sv W vn s.names
theorem ScpRd.ls {W : World} {s : Scp} {vs : List Value} : LsRd W s.lf vs ↔ ∃ vn, vs = [.int .i64 s.kind, vn, .int .i64 s.events] ∧ Rd1 sv W vn s.names := by
  constructor
  · rintro ⟨a, r1, rfl, h1, b, r2, rfl, h2, c, r3, rfl, h3, rfl⟩
    exact ⟨b, by rw [h1, h3], strs_rd.1 h2⟩
  · rintro ⟨vn, rfl, h⟩
    exact ⟨_, _, rfl, rfl, _, _, rfl, strs_rd.2 h, _, _, rfl, rfl, rfl⟩

/-- A cell is set in a block whose cells are known. -/
theorem set_heap {W : World} {b j : Nat} {cs : Array Value} {T : TypeId} {u : Value} (h : W.heap[b]? = some (.cells cs T (0, 0))) : (W.setCell ⟨b, j, none⟩ u).heap[b]? = some (.cells (cs.setIfInBounds j u) T (0, 0)) := by
  simp [World.setCell, Array.getElem?_modify, h]
theorem set_other {W : World} {b b' j : Nat} {u : Value} (h : b' ≠ b) : (W.setCell ⟨b, j, none⟩ u).heap[b']? = W.heap[b']? := Below.heap_setCell W ⟨b, j, none⟩ u b' h

theorem own_put2 {w : World} {B n s b j : Nat} {e : TypeId} {v x : Value} {xs : List Value} (h : w.ownsRow B e s v n xs) (hb : ∀ k, v.ownBlock = some k → k ≠ b) : (w.setCell ⟨b, j, none⟩ x).ownsRow B e s v n xs :=
  own_frame h (fun k hk => set_other (hb k hk))

set_option maxHeartbeats 1600000 in
theorem toScope_any (s : Scp) (vn : Value) (w : World) (hr : Rd1 sv w vn s.names) (hl : s.names.length ≤ 10000000) :
    Calls Try.prog 54 #[.agg #[.int .i64 s.kind, vn, .int .i64 s.events]] w fun e w' => ∃ v', e = .returned (.agg #[.int .i64 s.kind, v', .int .i64 s.events]) ∧ w'.ownsRow w.heap.size 9 1 v' s.names.length (s.names.map sv) ∧ Below w.heap.size w w' := by
  obtain ⟨k, names, ev⟩ := s
  simp only at *
  obtain ⟨p, c, rfl, _⟩ := hr.ex
  have HR := Lib.hid hr
  have CT := Lib.hid (fun W (h : Rd1 sv W (.slice p names.length c) names) => toStringS_any (.slice p names.length c) names W h hl)
  clear hr
  go_enter Try.func54, Try.ntmps54
  have HA := Lib.hid (heap_alloc_new w (.cells #[.int .i64 k, .slice p names.length c, .int .i64 ev] 74))
  go_wp2_with fail
  have hb3 : Below w.heap.size w (((w.alloc (.cells #[.int .i64 k, .slice p names.length c, .int .i64 ev] 74)).alloc (.cells #[.int .i64 0, .slice none 0 0, .int .i64 0] 64)).alloc (.cells #[.int .i64 k, .slice none 0 0, .int .i64 0] 64)) := (((Below.refl _ _).alloc (Nat.le_refl _) _).alloc (by simp) _).alloc (by simp; omega) _
  have hA : (((w.alloc (.cells #[.int .i64 k, .slice p names.length c, .int .i64 ev] 74)).alloc (.cells #[.int .i64 0, .slice none 0 0, .int .i64 0] 64)).alloc (.cells #[.int .i64 k, .slice none 0 0, .int .i64 0] 64)).heap[w.heap.size]? = some (.cells #[.int .i64 k, .slice p names.length c, .int .i64 ev] 74 (0, 0)) := ((Below.heap_alloc _ _ _ (by simp; omega)).trans (Below.heap_alloc _ _ _ (by simp))).trans HA.out
  have hR : (((w.alloc (.cells #[.int .i64 k, .slice p names.length c, .int .i64 ev] 74)).alloc (.cells #[.int .i64 0, .slice none 0 0, .int .i64 0] 64)).alloc (.cells #[.int .i64 k, .slice none 0 0, .int .i64 0] 64)).heap[w.heap.size + 1]? = some (.cells #[.int .i64 0, .slice none 0 0, .int .i64 0] 64 (0, 0)) := (Below.heap_alloc _ _ _ (by simp)).trans (by have := heap_alloc_new (w.alloc (.cells #[.int .i64 k, .slice p names.length c, .int .i64 ev] 74)) (.cells #[.int .i64 0, .slice none 0 0, .int .i64 0] 64); rwa [World.size_alloc] at this)
  have hT : (((w.alloc (.cells #[.int .i64 k, .slice p names.length c, .int .i64 ev] 74)).alloc (.cells #[.int .i64 0, .slice none 0 0, .int .i64 0] 64)).alloc (.cells #[.int .i64 k, .slice none 0 0, .int .i64 0] 64)).heap[w.heap.size + 1 + 1]? = some (.cells #[.int .i64 k, .slice none 0 0, .int .i64 0] 64 (0, 0)) := by
    have := heap_alloc_new ((w.alloc (.cells #[.int .i64 k, .slice p names.length c, .int .i64 ev] 74)).alloc (.cells #[.int .i64 0, .slice none 0 0, .int .i64 0] 64)) (.cells #[.int .i64 k, .slice none 0 0, .int .i64 0] 64)
    rwa [World.size_alloc, World.size_alloc] at this
  have hzW : (((w.alloc (.cells #[.int .i64 k, .slice p names.length c, .int .i64 ev] 74)).alloc (.cells #[.int .i64 0, .slice none 0 0, .int .i64 0] 64)).alloc (.cells #[.int .i64 k, .slice none 0 0, .int .i64 0] 64)).heap.size = w.heap.size + 3 := by simp
  generalize (((w.alloc (.cells #[.int .i64 k, .slice p names.length c, .int .i64 ev] 74)).alloc (.cells #[.int .i64 0, .slice none 0 0, .int .i64 0] 64)).alloc (.cells #[.int .i64 k, .slice none 0 0, .int .i64 0] 64)) = W3 at *
  refine (CT.out _ (HR.out.below hb3)).mono ?_
  rintro e w1 ⟨g, rfl, o1, b1⟩
  have hb1 := hb3.trans (b1.mono hb3.size)
  replace hA := (b1.block w.heap.size (by omega)).trans hA
  replace hR := (b1.block (w.heap.size + 1) (by omega)).trans hR
  replace hT := (b1.block (w.heap.size + 1 + 1) (by omega)).trans hT
  have hg : ∀ q, (Value.slice (some ⟨g, 0, none⟩) names.length names.length).ownBlock = some q → w.heap.size + 3 ≤ q := fun q hq => by have := (o1.lt q hq).1; omega
  generalize hV : Value.slice (some ⟨g, 0, none⟩) names.length names.length = V at *
  have hV2 : ∃ p n c, V = .slice p n c := ⟨_, _, _, hV.symm⟩
  obtain ⟨pv, nv, cv, rfl⟩ := hV2
  clear hV b1 CT HA hb3 hzW
  -- what is read and set
  have a2 : (w1.setCell ⟨w.heap.size + 1 + 1, 1, none⟩ (.slice pv nv cv)).cell? ⟨w.heap.size, 2, none⟩ = some (.int .i64 ev) := (Lib.cell_of_heap ((set_other (by omega)).trans hA) 2).trans rfl
  have c1 : w1.cell? ⟨w.heap.size + 1 + 1, 1, none⟩ = some (.slice none 0 0) := (Lib.cell_of_heap hT 1).trans rfl
  have f1 : w1.frozen? ⟨w.heap.size + 1 + 1, 1, none⟩ = false := Lib.frozen_of_heap hT 1
  have hT2 : (w1.setCell ⟨w.heap.size + 1 + 1, 1, none⟩ (.slice pv nv cv)).heap[w.heap.size + 1 + 1]? = some (.cells #[.int .i64 k, .slice pv nv cv, .int .i64 0] 64 (0, 0)) := set_heap hT
  have c2 := (Lib.cell_of_heap hT2 2).trans (show _ = some (Value.int .i64 0) from rfl)
  have f2 := Lib.frozen_of_heap hT2 2
  have hT3 : ((w1.setCell ⟨w.heap.size + 1 + 1, 1, none⟩ (.slice pv nv cv)).setCell ⟨w.heap.size + 1 + 1, 2, none⟩ (.int .i64 ev)).heap[w.heap.size + 1 + 1]? = some (.cells #[.int .i64 k, .slice pv nv cv, .int .i64 ev] 64 (0, 0)) := set_heap hT2
  have hR3 : ((w1.setCell ⟨w.heap.size + 1 + 1, 1, none⟩ (.slice pv nv cv)).setCell ⟨w.heap.size + 1 + 1, 2, none⟩ (.int .i64 ev)).heap[w.heap.size + 1]? = some (.cells #[.int .i64 0, .slice none 0 0, .int .i64 0] 64 (0, 0)) := (set_other (by omega)).trans ((set_other (by omega)).trans hR)
  have o3 := own_put2 (b := w.heap.size + 1 + 1) (own_put2 (b := w.heap.size + 1 + 1) o1 (j := 1) (x := .slice pv nv cv) (fun q hq => by have := hg q hq; omega)) (j := 2) (x := .int .i64 ev) (fun q hq => by have := hg q hq; omega)
  have hb5 := (hb1.setCell (p := ⟨w.heap.size + 1 + 1, 1, none⟩) (by show w.heap.size ≤ w.heap.size + 1 + 1; omega) (.slice pv nv cv)).setCell (p := ⟨w.heap.size + 1 + 1, 2, none⟩) (by show w.heap.size ≤ w.heap.size + 1 + 1; omega) (.int .i64 ev)
  have hs5 : ((w1.setCell ⟨w.heap.size + 1 + 1, 1, none⟩ (.slice pv nv cv)).setCell ⟨w.heap.size + 1 + 1, 2, none⟩ (.int .i64 ev)).heap.size = w1.heap.size := by simp
  have HT3 := Lib.hid hT3
  generalize hW5 : (w1.setCell ⟨w.heap.size + 1 + 1, 1, none⟩ (.slice pv nv cv)).setCell ⟨w.heap.size + 1 + 1, 2, none⟩ (.int .i64 ev) = W5 at *
  have d0 : W5.cell? ⟨w.heap.size + 1 + 1, 0, none⟩ = some (.int .i64 k) := (Lib.cell_of_heap hT3 0).trans rfl
  have d1 : W5.cell? ⟨w.heap.size + 1 + 1, 1, none⟩ = some (.slice pv nv cv) := (Lib.cell_of_heap hT3 1).trans rfl
  have d2 : W5.cell? ⟨w.heap.size + 1 + 1, 2, none⟩ = some (.int .i64 ev) := (Lib.cell_of_heap hT3 2).trans rfl
  have r0 : W5.cell? ⟨w.heap.size + 1, 0, none⟩ = some (.int .i64 0) := (Lib.cell_of_heap hR3 0).trans rfl
  have q0 : W5.frozen? ⟨w.heap.size + 1, 0, none⟩ = false := Lib.frozen_of_heap hR3 0
  have q1 : W5.frozen? ⟨w.heap.size + 1, 1, none⟩ = false := Lib.frozen_of_heap hR3 1
  have q2 : W5.frozen? ⟨w.heap.size + 1, 2, none⟩ = false := Lib.frozen_of_heap hR3 2
  have hR4 := set_heap (j := 0) (u := .int .i64 k) hR3
  have hR5 := set_heap (j := 1) (u := .slice pv nv cv) hR4
  have hR6 := set_heap (j := 2) (u := .int .i64 ev) hR5
  have r1 := (Lib.cell_of_heap hR4 1).trans (show _ = some (Value.slice none 0 0) from rfl)
  have r2 := (Lib.cell_of_heap hR5 2).trans (show _ = some (Value.int .i64 0) from rfl)
  have s0 := (Lib.cell_of_heap hR6 0).trans (show _ = some (Value.int .i64 k) from rfl)
  have s1 := (Lib.cell_of_heap hR6 1).trans (show _ = some (Value.slice pv nv cv) from rfl)
  have s2 := (Lib.cell_of_heap hR6 2).trans (show _ = some (Value.int .i64 ev) from rfl)
  have o6 := own_put2 (b := w.heap.size + 1) (own_put2 (b := w.heap.size + 1) (own_put2 (b := w.heap.size + 1) o3 (j := 0) (x := .int .i64 k) (fun q hq => by have := hg q hq; omega)) (j := 1) (x := .slice pv nv cv) (fun q hq => by have := hg q hq; omega)) (j := 2) (x := .int .i64 ev) (fun q hq => by have := hg q hq; omega)
  have hb6 := ((hb5.setCell (p := ⟨w.heap.size + 1, 0, none⟩) (by show w.heap.size ≤ w.heap.size + 1; omega) (.int .i64 k)).setCell (p := ⟨w.heap.size + 1, 1, none⟩) (by show w.heap.size ≤ w.heap.size + 1; omega) (.slice pv nv cv)).setCell (p := ⟨w.heap.size + 1, 2, none⟩) (by show w.heap.size ≤ w.heap.size + 1; omega) (.int .i64 ev)
  clear hA hR hT hT2 hT3 hR3 hR4 hR5 hR6 HT3 hb1 o1 o3 hb5
  go_wp2
  exact bodyPost_ret (v := .agg #[.int .i64 k, .slice pv nv cv, .int .i64 ev]) (by simp [results, Try.results54, go_sem, s0, s1, s2]) rfl ⟨_, rfl, own_rebase (own_base o6) (fun q hq => by have := hg q hq; omega), hb6⟩

set_option maxHeartbeats 800000 in
theorem eqScope_same (s : Scp) (va vb : Value) (w : World) (ha : Rd1 sv w va s.names) (hb : Rd1 sv w vb s.names) (hl : s.names.length ≤ 140737488355328) :
    Calls Try.prog 57 #[.agg #[.int .i64 s.kind, va, .int .i64 s.events], .agg #[.int .i64 s.kind, vb, .int .i64 s.events]] w fun e w' => e = .returned (.bool true) ∧ Below w.heap.size w w' := by
  obtain ⟨k, names, ev⟩ := s
  simp only at *
  obtain ⟨p, c, rfl, _⟩ := ha.ex
  obtain ⟨q, d, rfl, _⟩ := hb.ex
  have hb2 : Below w.heap.size w ((w.alloc (.cells #[.int .i64 k, .slice p names.length c, .int .i64 ev] 64)).alloc (.cells #[.int .i64 k, .slice q names.length d, .int .i64 ev] 64)) := ((Below.refl _ _).alloc (Nat.le_refl _) _).alloc (by simp) _
  have CE := Lib.hid (eqStringS_same _ _ names _ (ha.below hb2) (hb.below hb2) hl)
  have hA : ((w.alloc (.cells #[.int .i64 k, .slice p names.length c, .int .i64 ev] 64)).alloc (.cells #[.int .i64 k, .slice q names.length d, .int .i64 ev] 64)).heap[w.heap.size]? = some (.cells #[.int .i64 k, .slice p names.length c, .int .i64 ev] 64 (0, 0)) := (Below.heap_alloc _ _ _ (by simp)).trans (heap_alloc_new w _)
  have hB : ((w.alloc (.cells #[.int .i64 k, .slice p names.length c, .int .i64 ev] 64)).alloc (.cells #[.int .i64 k, .slice q names.length d, .int .i64 ev] 64)).heap[w.heap.size + 1]? = some (.cells #[.int .i64 k, .slice q names.length d, .int .i64 ev] 64 (0, 0)) := by
    have := heap_alloc_new (w.alloc (.cells #[.int .i64 k, .slice p names.length c, .int .i64 ev] 64)) (.cells #[.int .i64 k, .slice q names.length d, .int .i64 ev] 64)
    rwa [World.size_alloc] at this
  have hz : ((w.alloc (.cells #[.int .i64 k, .slice p names.length c, .int .i64 ev] 64)).alloc (.cells #[.int .i64 k, .slice q names.length d, .int .i64 ev] 64)).heap.size = w.heap.size + 2 := by simp
  have HA := Lib.hid hA
  have HB := Lib.hid hB
  have HZ := Lib.hid hz
  clear ha hb hA hB hz
  go_enter Try.func57, Try.ntmps57
  go_wp2_with fail
  refine (CE.out).mono ?_
  rintro e w1 ⟨rfl, b1⟩
  have a2 : w1.cell? ⟨w.heap.size, 2, none⟩ = some (.int .i64 ev) := (Lib.cell_of_heap ((b1.block w.heap.size (by rw [HZ.out]; omega)).trans HA.out) 2).trans rfl
  have b2 : w1.cell? ⟨w.heap.size + 1, 2, none⟩ = some (.int .i64 ev) := (Lib.cell_of_heap ((b1.block (w.heap.size + 1) (by rw [HZ.out]; omega)).trans HB.out) 2).trans rfl
  have hb1 := hb2.trans (b1.mono (by rw [HZ.out]; omega))
  clear b1 hb2 HA HB HZ
  go_wp2
  go_ret
  exact ⟨rfl, hb1⟩

set_option maxHeartbeats 800000 in
theorem szScope_any (s : Scp) (vn : Value) (left : Nat) (w : World) (hr : Rd1 sv w vn s.names) (hl : s.names.length ≤ 9223372036854775807) (hx : ∀ x ∈ s.names, x.length ≤ 9223372036854775807) (hL : left ≤ 1000000000000) :
    Calls Try.prog 53 #[.agg #[.int .i64 s.kind, vn, .int .i64 s.events], .int .i64 left] w fun e w' => e = .returned (.int .i64 (szR left s.names)) ∧ Below w.heap.size w w' := by
  obtain ⟨k, names, ev⟩ := s
  simp only at *
  obtain ⟨p, c, rfl, _⟩ := hr.ex
  have hb1 : Below w.heap.size w (w.alloc (.cells #[.int .i64 k, .slice p names.length c, .int .i64 ev] 74)) := (Below.refl _ _).alloc (Nat.le_refl _) _
  have c1 := szStringS_any _ names left _ (hr.below hb1) hl hx hL
  by_cases hok : names.length + szl names ≤ left
  · rw [szR_yes hok] at c1
    have C1 := Lib.hid c1
    have HV := Lib.hid (szR_yes hok)
    have hnn : ¬ ((left - (names.length + szl names) : Nat) : Int) < 0 := by omega
    clear c1
    go_enter Try.func53, Try.ntmps53
    go_wp2_with fail
    refine (C1.out).mono ?_
    rintro e w1 ⟨rfl, b1⟩
    have hb2 := hb1.trans (b1.mono (by simp))
    go_wp2
    go_ret
    exact ⟨by rw [HV.out]; rfl, hb2⟩
  · rw [szR_no hok] at c1
    have C1 := Lib.hid c1
    have HV := Lib.hid (szR_no hok)
    clear c1
    go_enter Try.func53, Try.ntmps53
    go_wp2_with fail
    refine (C1.out).mono ?_
    rintro e w1 ⟨rfl, b1⟩
    have hb2 := hb1.trans (b1.mono (by simp))
    go_wp2
    go_ret
    exact ⟨by rw [HV.out]; rfl, hb2⟩

end Go.Proofs.Ytidjebepgpbcnaa

/-
  Chapter 6: the laws' helpers on slices of scopes.
-/
namespace Go.Proofs.Ytidjebepgpbcnaa
open Go.RowKit

theorem Try.el_scp : Elem Try.prog 32 64 3 40 := Elem.mk' (z := .agg #[.int .i64 0, .slice none 0 0, .int .i64 0]) Try.underlying32 (by kernel_rfl) rfl (by omega)

def scpsLf (l : List Scp) : Lf := .rows 64 3 l.length (l.flatMap Scp.lf)
theorem scp_len (s : Scp) : s.lf.length = 3 := rfl
/-- Scope i of a slice that is read. -/
theorem scps_at {W : World} {l : List Scp} {v : Value} (h : LfRd W (scpsLf l) v) : ∃ p cap, v = .slice p l.length cap ∧ (l = [] ∨ ∃ b off, p = some ⟨b, off, none⟩ ∧ b < W.heap.size ∧ ∀ i s, l[i]? = some s → ∃ vn, Rd1 sv W vn s.names ∧ W.cell? ⟨b, off + i * 3, none⟩ = some (.int .i64 s.kind) ∧ W.cell? ⟨b, off + i * 3 + 1, none⟩ = some vn ∧ W.cell? ⟨b, off + i * 3 + 2, none⟩ = some (.int .i64 s.events)) := by
  obtain ⟨p, cap, hv, hc⟩ := rows_at scp_len h
  refine ⟨p, cap, hv, hc.imp id fun ⟨b, off, hp, hlt, hc⟩ => ⟨b, off, hp, hlt, fun i s hi => ?_⟩⟩
  obtain ⟨us, h1, h2⟩ := hc i s hi
  obtain ⟨vn, rfl, h3⟩ := ScpRd.ls.1 h1
  exact ⟨vn, h3, h2 0 _ rfl, h2 1 _ rfl, h2 2 _ rfl⟩

set_option maxHeartbeats 1600000 in
theorem eqScopeS_same (a b : Value) (l : List Scp) (w : World) (ha : LfRd w (scpsLf l) a) (hb : LfRd w (scpsLf l) b) (hl : l.length ≤ 140737488355328) (hx : ∀ s ∈ l, s.names.length ≤ 140737488355328) :
    Calls Try.prog 49 #[a, b] w fun e w' => e = .returned (.bool true) ∧ Below w.heap.size w w' := by
  obtain ⟨p, c1, rfl, hp⟩ := scps_at ha
  obtain ⟨q, c2, rfl, hq⟩ := scps_at hb
  clear ha hb
  have HP := Lib.hid hp
  have HQ := Lib.hid hq
  have HX := Lib.hid hx
  clear hp hq hx
  go_enter Try.func49, Try.ntmps49
  go_wp2
  go_loopw [5] (fun i wr => ∃ k : Nat, k ≤ l.length ∧ i = .int .i64 k ∧ Below w.heap.size w wr) (fun i _ => l.length - (intOf i).toNat)
  case atStart => exact ⟨0, by omega, rfl, Below.refl _ _⟩
  case round =>
    obtain ⟨k, hk, rfl, hbr⟩ := hrel
    have hbr0 := hbr.size
    by_cases hlt : k < l.length
    · obtain ⟨b1, o1, rfl, hb1, hc1⟩ := HP.out.resolve_left (by intro h; subst h; simp at hlt)
      obtain ⟨b2, o2, rfl, hb2, hc2⟩ := HQ.out.resolve_left (by intro h; subst h; simp at hlt)
      obtain ⟨s, hs⟩ : ∃ s, l[k]? = some s := ⟨_, List.getElem?_eq_getElem hlt⟩
      obtain ⟨v1, n1, x0, x1, x2⟩ := hc1 k s hs
      obtain ⟨v2, n2, y0, y1, y2⟩ := hc2 k s hs
      have e0 : wr.drew.cell? ⟨b1, o1 + k * 3, none⟩ = some (.int .i64 s.kind) := (hbr.cell (p := ⟨b1, o1 + k * 3, none⟩) hb1).trans x0
      have e1 : wr.drew.cell? ⟨b1, o1 + k * 3 + 1, none⟩ = some v1 := (hbr.cell (p := ⟨b1, o1 + k * 3 + 1, none⟩) hb1).trans x1
      have e2 : wr.drew.cell? ⟨b1, o1 + k * 3 + 2, none⟩ = some (.int .i64 s.events) := (hbr.cell (p := ⟨b1, o1 + k * 3 + 2, none⟩) hb1).trans x2
      have f0 : wr.drew.cell? ⟨b2, o2 + k * 3, none⟩ = some (.int .i64 s.kind) := (hbr.cell (p := ⟨b2, o2 + k * 3, none⟩) hb2).trans y0
      have f1 : wr.drew.cell? ⟨b2, o2 + k * 3 + 1, none⟩ = some v2 := (hbr.cell (p := ⟨b2, o2 + k * 3 + 1, none⟩) hb2).trans y1
      have f2 : wr.drew.cell? ⟨b2, o2 + k * 3 + 2, none⟩ = some (.int .i64 s.events) := (hbr.cell (p := ⟨b2, o2 + k * 3 + 2, none⟩) hb2).trans y2
      have CE := Lib.hid (eqScope_same s v1 v2 wr.drew (n1.below hbr.drew) (n2.below hbr.drew) (HX.out s (List.mem_of_getElem? hs)))
      clear hc1 hc2 hs HP HQ x0 x1 x2 y0 y1 y2 n1 n2
      go_wp2
      refine ord_start [(0, true), (1, true), (2, true), (3, true), (4, true), (5, true), (6, true), (7, true), (8, false), (9, true)] (fun W => (W.cell? ⟨b1, o1 + k * 3, none⟩ = some (.int .i64 s.kind) ∧ W.cell? ⟨b1, o1 + k * 3 + 1, none⟩ = some v1 ∧ W.cell? ⟨b1, o1 + k * 3 + 2, none⟩ = some (.int .i64 s.events)) ∧ W.cell? ⟨b2, o2 + k * 3, none⟩ = some (.int .i64 s.kind) ∧ W.cell? ⟨b2, o2 + k * 3 + 1, none⟩ = some v2 ∧ W.cell? ⟨b2, o2 + k * 3 + 2, none⟩ = some (.int .i64 s.events)) (by kernel_rfl) (by kernel_rfl) rfl (by kernel_rfl) ?_
      intro ops' hops
      clear hops
      simp only [List.map_cons, List.map_nil, pickOp_zero, pickOp_succ]
      iterate 8 (refine ord_flo ?_ (fun _ _ _ h => h) rfl ?_ ⟨⟨e0, e1, e2⟩, f0, f1, f2⟩ ?_; rotate_left; focus (intro W hS; obtain ⟨⟨s0, s1, s2⟩, t0, t1, t2⟩ := hS; go_simp; rfl))
      refine ord_ev rfl ?_
      go_simp
      refine (CE.out).mono ?_
      rintro e w2 ⟨rfl, bb⟩
      have hb2' := hbr.drew.trans (bb.mono (by show w.heap.size ≤ wr.heap.size; omega))
      have hlt1 : b1 < wr.drew.heap.size := Nat.lt_of_lt_of_le hb1 hbr0
      have hlt2 : b2 < wr.drew.heap.size := Nat.lt_of_lt_of_le hb2 hbr0
      refine ⟨⟨⟨(bb.cell (p := ⟨b1, o1 + k * 3, none⟩) hlt1).trans e0, (bb.cell (p := ⟨b1, o1 + k * 3 + 1, none⟩) hlt1).trans e1, (bb.cell (p := ⟨b1, o1 + k * 3 + 2, none⟩) hlt1).trans e2⟩, (bb.cell (p := ⟨b2, o2 + k * 3, none⟩) hlt2).trans f0, (bb.cell (p := ⟨b2, o2 + k * 3 + 1, none⟩) hlt2).trans f1, (bb.cell (p := ⟨b2, o2 + k * 3 + 2, none⟩) hlt2).trans f2⟩, ?_⟩
      iterate 1 (refine ord_flo ?_ (fun _ _ _ h => h) rfl ?_ ⟨⟨(bb.cell (p := ⟨b1, o1 + k * 3, none⟩) hlt1).trans e0, (bb.cell (p := ⟨b1, o1 + k * 3 + 1, none⟩) hlt1).trans e1, (bb.cell (p := ⟨b1, o1 + k * 3 + 2, none⟩) hlt1).trans e2⟩, (bb.cell (p := ⟨b2, o2 + k * 3, none⟩) hlt2).trans f0, (bb.cell (p := ⟨b2, o2 + k * 3 + 1, none⟩) hlt2).trans f1, (bb.cell (p := ⟨b2, o2 + k * 3 + 2, none⟩) hlt2).trans f2⟩ ?_; rotate_left; focus (intro W hS; obtain ⟨⟨s0, s1, s2⟩, t0, t1, t2⟩ := hS; go_simp; rfl))
      refine ord_done ?_
      go_simp
      clear e0 e1 e2 f0 f1 f2 bb hbr hbr0 CE
      go_wp2
      go_roundw
      case rel => exact ⟨k + 1, by omega, by go_num, hb2'⟩
      case measure => simp [intOf]; omega
    · obtain rfl : k = l.length := by omega
      go_wp2
      go_ret
      exact ⟨rfl, hbr⟩

theorem scp_in {W : World} {B : Nat} {s : Scp} {v : Value} (h : W.ownsRow B 9 1 v s.names.length (s.names.map sv)) : LsIn W s.lf [.int .i64 s.kind, v, .int .i64 s.events] v.ownBlock.toList :=
  ⟨_, _, [], v.ownBlock.toList, rfl, ⟨rfl, rfl⟩, ⟨v, _, v.ownBlock.toList, [], rfl, strs_in.2 ⟨own_base h, rfl⟩, ⟨_, _, [], [], rfl, ⟨rfl, rfl⟩, ⟨rfl, rfl⟩, rfl⟩, by simp⟩, rfl⟩

set_option maxHeartbeats 3200000 in
theorem toScopeS_any (v : Value) (l : List Scp) (w : World) (hr : LfRd w (scpsLf l) v) (hl : l.length ≤ 1048576) (hx : ∀ s ∈ l, s.names.length ≤ 1048576) :
    Calls Try.prog 42 #[v] w fun e w' => ∃ v' fp, e = .returned v' ∧ Tree w' w.heap.size (scpsLf l) v' fp ∧ Below w.heap.size w w' := by
  obtain ⟨p, c, rfl, hp⟩ := scps_at hr
  have HP := Lib.hid hp
  have HX := Lib.hid hx
  clear hr hp hx
  go_enter Try.func42, Try.ntmps42
  go_wp2_with (refine wpList_mkn Try.el_scp rfl _ _ rfl w.heap.size w (Below.refl _ _) (Nat.le_refl _) _ _ l.length rfl rfl (by omega) (by omega) ?_)
  intro w1 xs0 hown1 hb1 hlt1
  go_wp2
  go_loopw [4] (fun i wr => ∃ (k : Nat) (A R : List Value) (fq : List Nat), k ≤ l.length ∧ i = .int .i64 k ∧ A.length = k * 3 ∧ wr.ownsRow w.heap.size 64 3 (.slice (some ⟨w.heap.size, 0, none⟩) l.length l.length) l.length (A ++ R) ∧ LsIn wr ((l.take k).flatMap Scp.lf) A fq ∧ fq.Nodup ∧ (∀ q ∈ fq, w.heap.size < q) ∧ Below w.heap.size w wr ∧ w.heap.size < wr.heap.size) (fun i _ => l.length - (intOf i).toNat)
  case atStart => exact ⟨0, [], xs0, [], by omega, rfl, rfl, hown1, ⟨rfl, rfl⟩, by simp, by simp, hb1, hlt1⟩
  case round =>
    obtain ⟨k, A, R, fq, hk, rfl, hA, hown, hin, hnd, hlow, hbr, hzr⟩ := hrel
    have hbr0 := hbr.size
    clear hown1 hb1 hlt1
    by_cases hlt : k < l.length
    · obtain ⟨b1, o1, rfl, hb1, hc1⟩ := HP.out.resolve_left (by intro h; subst h; simp at hlt)
      obtain ⟨s, hs⟩ : ∃ s, l[k]? = some s := ⟨_, List.getElem?_eq_getElem hlt⟩
      obtain ⟨v1, n1, x0, x1, x2⟩ := hc1 k s hs
      have e0 : wr.cell? ⟨b1, o1 + k * 3, none⟩ = some (.int .i64 s.kind) := (hbr.cell (p := ⟨b1, o1 + k * 3, none⟩) hb1).trans x0
      have e1 : wr.cell? ⟨b1, o1 + k * 3 + 1, none⟩ = some v1 := (hbr.cell (p := ⟨b1, o1 + k * 3 + 1, none⟩) hb1).trans x1
      have e2 : wr.cell? ⟨b1, o1 + k * 3 + 2, none⟩ = some (.int .i64 s.events) := (hbr.cell (p := ⟨b1, o1 + k * 3 + 2, none⟩) hb1).trans x2
      have hsl := HX.out s (List.mem_of_getElem? hs)
      have CT := Lib.hid (toScope_any s v1 wr (n1.below hbr) (by omega))
      have htk : l.take (k + 1) = l.take k ++ [s] := by
        obtain ⟨h1, h2⟩ := List.getElem?_eq_some_iff.1 hs
        rw [List.take_succ_eq_append_getElem h1, h2]
      have HTK := Lib.hid htk
      clear hc1 hs HP x0 x1 x2 n1 htk
      go_wp2_with fail
      refine (CT.out).mono ?_
      rintro e w2 ⟨v', rfl, o2, b2⟩
      have hown2 := ownsRow_below hown b2
      have hin2 := hin.frame _ _ _ (fun q hq => b2.block q (LsIn.lt _ _ _ hin q hq))
      have hqz : ∀ q ∈ fq, q < wr.heap.size := fun q hq => LsIn.lt _ _ _ hin q hq
      have hb2 := hbr.trans (b2.mono hbr0)
      have hz2 := b2.size
      obtain ⟨pv, cv, rfl⟩ : ∃ p c, v' = .slice p s.names.length c := by
        rcases o2.2 with ⟨hv, h0⟩ | ⟨g, cap, cur, hv, _⟩
        · exact ⟨none, 0, by rw [hv, h0]⟩
        · exact ⟨_, cap, hv⟩
      have hown' := hown2.1
      obtain ⟨R1, R2, rfl, hR1⟩ := rest_split hown' hA hlt
      obtain ⟨r0, r1, r2, rfl⟩ : ∃ r0 r1 r2, R1 = [r0, r1, r2] := by
        match R1, hR1 with
        | [a, b, c], _ => exact ⟨a, b, c, rfl⟩
      clear hown hin b2 CT e0 e1 e2 hR1 hown'
      obtain ⟨p1, k1, z1⟩ := own_set (A := A) (x := r0) (R := r1 :: r2 :: R2) (i := k * 3) hown2 hA (.int .i64 s.kind)
      obtain ⟨p2, k2, z2⟩ := own_set (A := A ++ [.int .i64 s.kind]) (x := r1) (R := r2 :: R2) (i := k * 3 + 1) (by simpa using p1) (by simp; omega) (.slice pv s.names.length cv)
      obtain ⟨p3, k3, z3⟩ := own_set (A := A ++ [.int .i64 s.kind, .slice pv s.names.length cv]) (x := r2) (R := R2) (i := k * 3 + 2) (by simpa using p2) (by simp; omega) (.int .i64 s.events)
      have hob : ∀ q, (Value.slice pv s.names.length cv).ownBlock = some q → wr.heap.size ≤ q := fun q hq => (o2.lt q hq).1
      have o3 := own_put2 (b := w.heap.size) (j := k * 3 + 2) (x := .int .i64 s.events) (own_put2 (b := w.heap.size) (j := k * 3 + 1) (x := .slice pv s.names.length cv) (own_put2 (b := w.heap.size) (j := k * 3) (x := .int .i64 s.kind) o2 (fun q hq => by have := hob q hq; omega)) (fun q hq => by have := hob q hq; omega)) (fun q hq => by have := hob q hq; omega)
      have hgq : w.heap.size ∉ fq := fun hm => by have := hlow _ hm; omega
      have i3 := ((hin2.set (g := w.heap.size) (i := k * 3) (u := .int .i64 s.kind) hgq).set (g := w.heap.size) (i := k * 3 + 1) (u := .slice pv s.names.length cv) hgq).set (g := w.heap.size) (i := k * 3 + 2) (u := .int .i64 s.events) hgq
      have hb3 := ((hb2.setCell (p := ⟨w.heap.size, k * 3, none⟩) (Nat.le_refl _) (.int .i64 s.kind)).setCell (p := ⟨w.heap.size, k * 3 + 1, none⟩) (Nat.le_refl _) (.slice pv s.names.length cv)).setCell (p := ⟨w.heap.size, k * 3 + 2, none⟩) (Nat.le_refl _) (.int .i64 s.events)
      have q1 := z1 (k * 3)
      have q2 := z1 (k * 3 + 1)
      have q3 := z1 (k * 3 + 2)
      have P3 := Lib.hid p3
      have O3 := Lib.hid o3
      have I3 := Lib.hid i3
      clear p1 p2 p3 o2 o3 i3 hown2 hin2 hb2 z1 z2 z3
      go_wp2
      go_roundw
      case rel =>
        refine ⟨k + 1, A ++ [.int .i64 s.kind, .slice pv s.names.length cv, .int .i64 s.events], R2, fq ++ (Value.slice pv s.names.length cv).ownBlock.toList, by omega, by go_num, by simp; omega, by simpa using P3.out, ?_, ?_, ?_, hb3, by simp; omega⟩
        · rw [HTK.out, List.flatMap_append]
          refine LsIn.append.2 ⟨A, _, fq, _, rfl, I3.out, ?_, rfl⟩
          rw [List.flatMap_singleton]
          exact scp_in O3.out
        · rw [List.nodup_append]
          refine ⟨hnd, by cases (Value.slice pv s.names.length cv).ownBlock <;> simp, fun x hx y hy e => ?_⟩
          have h1 := hqz x hx
          have h2 := hob y (by simpa using hy)
          omega
        · intro q hq
          rcases List.mem_append.1 hq with hq | hq
          · exact hlow q hq
          · have := hob q (by simpa using hq); omega
      case measure => simp [intOf]; omega
    · obtain rfl : k = l.length := by omega
      have hR0 : R = [] := by
        have := hown.1
        rw [List.length_append, hA] at this
        exact List.eq_nil_of_length_eq_zero (by omega)
      subst hR0
      rw [List.append_nil] at hown
      rw [List.take_length] at hin
      have hT : Tree wr w.heap.size (scpsLf l) (.slice (some ⟨w.heap.size, 0, none⟩) l.length l.length) (w.heap.size :: fq) := by
        refine ⟨⟨flat_lenM scp_len l, A, fq, own_base hown, hin, rfl⟩, List.nodup_cons.2 ⟨fun hm => by have := hlow _ hm; omega, hnd⟩, fun q hq => ?_⟩
        rcases List.mem_cons.1 hq with rfl | hq
        · exact Nat.le_refl _
        · exact Nat.le_of_lt (hlow q hq)
      have HT := Lib.hid hT
      clear hT hown hin hA
      go_wp2
      go_ret
      exact ⟨_, _, rfl, HT.out, hbr⟩

end Go.Proofs.Ytidjebepgpbcnaa

/-
  Chapter 6: the laws' marks on slices of scopes; their sizes.
-/
namespace Go.Proofs.Ytidjebepgpbcnaa
open Go.RowKit

def scw : List Scp → Nat
  | [] => 0
  | s :: r => (s.names.length + szl s.names) + scw r
theorem scw_snoc : ∀ (l : List Scp) (s : Scp), scw (l ++ [s]) = scw l + (s.names.length + szl s.names)
  | [], s => by simp [scw]
  | a :: l, s => by simp [scw, scw_snoc l s]; omega
theorem scw_take (l : List Scp) (k : Nat) : scw (l.take k) ≤ scw l := by
  have h : ∀ a b : List Scp, scw (a ++ b) = scw a + scw b := by
    intro a
    induction a with
    | nil => intro b; simp [scw]
    | cons x a ih => intro b; simp [scw, ih b]; omega
  have := h (l.take k) (l.drop k)
  rw [List.take_append_drop] at this
  omega
theorem take_sc {l : List Scp} {k : Nat} {s : Scp} (h : l[k]? = some s) : l.take (k + 1) = l.take k ++ [s] := by
  obtain ⟨h1, h2⟩ := List.getElem?_eq_some_iff.1 h
  rw [List.take_succ_eq_append_getElem h1, h2]
def scR (left : Nat) (l : List Scp) : Int := if l.length + scw l ≤ left then ((left - (l.length + scw l) : Nat) : Int) else -1
theorem scR_yes {left : Nat} {l : List Scp} (h : l.length + scw l ≤ left) : scR left l = ((left - (l.length + scw l) : Nat) : Int) := if_pos h
theorem scR_no {left : Nat} {l : List Scp} (h : ¬ l.length + scw l ≤ left) : scR left l = -1 := if_neg h

set_option maxHeartbeats 1600000 in
theorem szScopeS_any (v : Value) (l : List Scp) (left : Nat) (w : World) (hr : LfRd w (scpsLf l) v) (hl : l.length ≤ 9223372036854775807) (hx : ∀ s ∈ l, s.names.length ≤ 9223372036854775807 ∧ ∀ x ∈ s.names, x.length ≤ 9223372036854775807) (hL : left ≤ 1000000000000) :
    Calls Try.prog 39 #[v, .int .i64 left] w fun e w' => e = .returned (.int .i64 (scR left l)) ∧ Below w.heap.size w w' := by
  obtain ⟨p, c, rfl, hp⟩ := scps_at hr
  have HP := Lib.hid hp
  have HX := Lib.hid hx
  clear hr hp hx
  by_cases hbig : l.length ≤ left
  · have h1 : ¬ (left : Int) - (l.length : Int) < 0 := by omega
    go_enter Try.func39, Try.ntmps39
    go_wp2
    go_loopw [1, 5] (fun lf i wr => ∃ j : Nat, j ≤ l.length ∧ i = .int .i64 j ∧ lf = .int .i64 ((left - (l.length + scw (l.take j)) : Nat) : Int) ∧ l.length + scw (l.take j) ≤ left ∧ Below w.heap.size w wr) (fun _ i _ => l.length - (intOf i).toNat)
    case atStart => exact ⟨0, by omega, rfl, by simp [scw]; omega, by simp [scw]; omega, Below.refl _ _⟩
    case round =>
      obtain ⟨j, hj, rfl, rfl, hle, hbr⟩ := hrel
      have hbr0 := hbr.size
      by_cases hlt : j < l.length
      · obtain ⟨b1, o1, rfl, hb1, hc1⟩ := HP.out.resolve_left (by intro h; subst h; simp at hlt)
        obtain ⟨s, hs⟩ : ∃ s, l[j]? = some s := ⟨_, List.getElem?_eq_getElem hlt⟩
        obtain ⟨v1, n1, x0, x1, x2⟩ := hc1 j s hs
        have e0 : wr.cell? ⟨b1, o1 + j * 3, none⟩ = some (.int .i64 s.kind) := (hbr.cell (p := ⟨b1, o1 + j * 3, none⟩) hb1).trans x0
        have e1 : wr.cell? ⟨b1, o1 + j * 3 + 1, none⟩ = some v1 := (hbr.cell (p := ⟨b1, o1 + j * 3 + 1, none⟩) hb1).trans x1
        have e2 : wr.cell? ⟨b1, o1 + j * 3 + 2, none⟩ = some (.int .i64 s.events) := (hbr.cell (p := ⟨b1, o1 + j * 3 + 2, none⟩) hb1).trans x2
        have hsx := HX.out s (List.mem_of_getElem? hs)
        have cz := szScope_any s v1 (left - (l.length + scw (l.take j))) wr (n1.below hbr) hsx.1 hsx.2 (by omega)
        have htk : scw (l.take (j + 1)) = scw (l.take j) + (s.names.length + szl s.names) := by rw [take_sc hs, scw_snoc]
        have hmono := scw_take l (j + 1)
        by_cases hok : s.names.length + szl s.names ≤ left - (l.length + scw (l.take j))
        · rw [szR_yes hok] at cz
          have CZ := Lib.hid cz
          have hnn : ¬ ((left - (l.length + scw (l.take j)) - (s.names.length + szl s.names) : Nat) : Int) < 0 := by omega
          have HTK := Lib.hid htk
          clear cz hc1 hs HP x0 x1 x2 n1 htk hsx
          generalize hq : left - (l.length + scw (l.take j)) = q at *
          have HQ := Lib.hid hq
          clear hq
          go_wp2_with fail
          refine (CZ.out).mono ?_
          rintro e w2 ⟨rfl, b2⟩
          have hb2 := hbr.trans (b2.mono hbr0)
          clear CZ b2 hbr e0 e1 e2
          go_wp2
          go_roundw
          case rel =>
            refine ⟨j + 1, by omega, by go_num, ?_, by rw [HTK.out]; have := HQ.out; omega, hb2⟩
            have h1 := HTK.out
            have h2 := HQ.out
            congr 1
            omega
          case measure => simp [intOf]; omega
        · rw [szR_no hok] at cz
          have CZ := Lib.hid cz
          have HV := Lib.hid (scR_no (left := left) (l := l) (by omega))
          clear cz hc1 hs HP x0 x1 x2 n1 htk hsx hmono hok
          generalize left - (l.length + scw (l.take j)) = q at *
          go_wp2_with fail
          refine (CZ.out).mono ?_
          rintro e w2 ⟨rfl, b2⟩
          have hb2 := hbr.trans (b2.mono hbr0)
          clear CZ b2 hbr e0 e1 e2
          go_wp2
          go_ret
          exact ⟨by rw [HV.out]; rfl, hb2⟩
      · obtain rfl : j = l.length := by omega
        rw [List.take_length] at hle ⊢
        have HV := Lib.hid (scR_yes hle)
        generalize left - (l.length + scw l) = q at *
        go_wp2
        go_ret
        exact ⟨by rw [HV.out]; rfl, hbr⟩
  · have h1 : (left : Int) - (l.length : Int) < 0 := by omega
    have HV := Lib.hid (scR_no (left := left) (l := l) (by omega))
    go_enter Try.func39, Try.ntmps39
    go_wp2
    go_ret
    exact ⟨by rw [HV.out]; rfl, Below.refl _ _⟩

def mkScp (s : Scp) (k : Nat) : Scp := ⟨(k : Int), marks (k + 1) s.names.length, ((k + 1 + s.names.length : Nat) : Int)⟩
def mkEnd : List Scp → Nat → Nat
  | [], k => k
  | s :: r, k => mkEnd r (k + 2 + s.names.length)
def mkScps : List Scp → Nat → List Scp
  | [], _ => []
  | s :: r, k => mkScp s k :: mkScps r (k + 2 + s.names.length)
theorem mkEnd_snoc : ∀ (l : List Scp) (s : Scp) (k : Nat), mkEnd (l ++ [s]) k = mkEnd l k + 2 + s.names.length
  | [], s, k => rfl
  | a :: l, s, k => by simp [mkEnd, mkEnd_snoc l s]
theorem mkScps_snoc : ∀ (l : List Scp) (s : Scp) (k : Nat), mkScps (l ++ [s]) k = mkScps l k ++ [mkScp s (mkEnd l k)]
  | [], s, k => rfl
  | a :: l, s, k => by simp [mkScps, mkEnd, mkScps_snoc l s]
theorem mkScps_length : ∀ (l : List Scp) (k : Nat), (mkScps l k).length = l.length
  | [], k => rfl
  | a :: l, k => by simp [mkScps, mkScps_length l]
theorem mkEnd_le : ∀ (l : List Scp) (k : Nat), k ≤ mkEnd l k
  | [], k => Nat.le_refl _
  | a :: l, k => by have := mkEnd_le l (k + 2 + a.names.length); simp only [mkEnd]; omega
theorem mkEnd_take (l : List Scp) (k : Nat) : ∀ j, mkEnd (l.take j) k ≤ mkEnd l k := by
  intro j
  have h : ∀ (a b : List Scp) (k : Nat), mkEnd (a ++ b) k = mkEnd b (mkEnd a k) := by
    intro a
    induction a with
    | nil => intro b k; rfl
    | cons x a ih => intro b k; simp [mkEnd, ih]
  have h2 := h (l.take j) (l.drop j) k
  rw [List.take_append_drop] at h2
  rw [h2]
  exact mkEnd_le _ _
theorem mkScps_get : ∀ (l : List Scp) (k j : Nat) (s : Scp), l[j]? = some s → (mkScps l k)[j]? = some (mkScp s (mkEnd (l.take j) k))
  | [], k, j, s, h => by simp at h
  | a :: l, k, 0, s, h => by simp only [List.getElem?_cons_zero, Option.some.injEq] at h; subst h; rfl
  | a :: l, k, j + 1, s, h => by simp only [List.getElem?_cons_succ] at h; simpa [mkScps, mkEnd] using mkScps_get l (k + 2 + a.names.length) j s h

end Go.Proofs.Ytidjebepgpbcnaa

/-
  Chapter 6: the laws' marks on slices of scopes, written and held.
-/
namespace Go.Proofs.Ytidjebepgpbcnaa
open Go.RowKit

theorem GrownIn.of_row {W W' : World} {row : Option Nat} (h : W.grownBy W' row) : GrownIn W W' row.toList :=
  ⟨h.os, h.tape, h.output, h.size, fun k hk hn => h.block k hk (fun e => hn (by rw [← e]; simp))⟩
theorem GrownIn.refl (W : World) (fp : List Nat) : GrownIn W W fp := ⟨rfl, rfl, rfl, Nat.le_refl _, fun _ _ _ => rfl⟩
theorem LsIn.apart {W W' : World} {xs : List Lf} {vs : List Value} {fp fq : List Nat} (h : LsIn W xs vs fp) (hg : GrownIn W W' fq) (hd : ∀ k ∈ fp, k ∉ fq) : LsIn W' xs vs fp :=
  h.frame xs vs fp (fun k hk => hg.block k (LsIn.lt xs vs fp h k hk) (hd k hk))
theorem own_apart {W W' : World} {B m n : Nat} {e : TypeId} {v : Value} {xs : List Value} {fq : List Nat} (h : W.ownsRow B e m v n xs) (hg : GrownIn W W' fq) (hd : ∀ k, v.ownBlock = some k → k ∉ fq) : W'.ownsRow B e m v n xs :=
  own_frame h (fun k hk => hg.block k (h.lt k hk).2 (hd k hk))

theorem scp_of {W : World} {s : Scp} {vs : List Value} {fp : List Nat} (h : LsIn W s.lf vs fp) : ∃ vn, vs = [.int .i64 s.kind, vn, .int .i64 s.events] ∧ W.ownsRow 0 9 1 vn s.names.length (s.names.map sv) ∧ fp = vn.ownBlock.toList := by
  obtain ⟨a, r1, f1, g1, rfl, h1, ⟨b, r2, f2, g2, rfl, h2, ⟨c, r3, f3, g3, rfl, h3, h4, rfl⟩, rfl⟩, rfl⟩ := h
  obtain ⟨e1, e2⟩ := strs_in.1 h2
  obtain ⟨rfl, rfl⟩ := h4
  exact ⟨b, by rw [h1.1, h3.1], e1, by rw [h1.2, h3.2, e2]; simp⟩
theorem scp_mk {W : World} {s : Scp} {vn : Value} {fp : List Nat} (h : W.ownsRow 0 9 1 vn s.names.length (s.names.map sv)) (hf : fp = vn.ownBlock.toList) : LsIn W s.lf [.int .i64 s.kind, vn, .int .i64 s.events] fp := hf ▸ scp_in h

end Go.Proofs.Ytidjebepgpbcnaa

/-
  Chapter 6: the laws' helpers on filters.
-/
namespace Go.Proofs.Ytidjebepgpbcnaa
open Go.RowKit

set_option maxHeartbeats 1600000 in
theorem toFilter_any (f : Flt) (vs : Value) (w : World) (hr : LfRd w (scpsLf f.scopes) vs) (hl : f.scopes.length ≤ 1048576) (hx : ∀ s ∈ f.scopes, s.names.length ≤ 1048576) :
    Calls Try.prog 30 #[.agg #[.bool f.on, vs]] w fun e w' => ∃ v' fp, e = .returned (.agg #[.bool f.on, v']) ∧ Tree w' w.heap.size (scpsLf f.scopes) v' fp ∧ Below w.heap.size w w' := by
  obtain ⟨on, l⟩ := f
  simp only at *
  obtain ⟨p, c, rfl, _⟩ := scps_at hr
  have HR := Lib.hid hr
  have CT := Lib.hid (fun W (h : LfRd W (scpsLf l) (.slice p l.length c)) => toScopeS_any (.slice p l.length c) l W h hl hx)
  clear hr
  go_enter Try.func30, Try.ntmps30
  have HA := Lib.hid (heap_alloc_new w (.cells #[.bool on, .slice p l.length c] 26))
  go_wp2_with fail
  have hb3 : Below w.heap.size w (((w.alloc (.cells #[.bool on, .slice p l.length c] 26)).alloc (.cells #[.bool false, .slice none 0 0] 34)).alloc (.cells #[.bool on, .slice none 0 0] 34)) := (((Below.refl _ _).alloc (Nat.le_refl _) _).alloc (by simp) _).alloc (by simp; omega) _
  have hA : (((w.alloc (.cells #[.bool on, .slice p l.length c] 26)).alloc (.cells #[.bool false, .slice none 0 0] 34)).alloc (.cells #[.bool on, .slice none 0 0] 34)).heap[w.heap.size]? = some (.cells #[.bool on, .slice p l.length c] 26 (0, 0)) := ((Below.heap_alloc _ _ _ (by simp; omega)).trans (Below.heap_alloc _ _ _ (by simp))).trans HA.out
  have hR : (((w.alloc (.cells #[.bool on, .slice p l.length c] 26)).alloc (.cells #[.bool false, .slice none 0 0] 34)).alloc (.cells #[.bool on, .slice none 0 0] 34)).heap[w.heap.size + 1]? = some (.cells #[.bool false, .slice none 0 0] 34 (0, 0)) := (Below.heap_alloc _ _ _ (by simp)).trans (by have := heap_alloc_new (w.alloc (.cells #[.bool on, .slice p l.length c] 26)) (.cells #[.bool false, .slice none 0 0] 34); rwa [World.size_alloc] at this)
  have hT : (((w.alloc (.cells #[.bool on, .slice p l.length c] 26)).alloc (.cells #[.bool false, .slice none 0 0] 34)).alloc (.cells #[.bool on, .slice none 0 0] 34)).heap[w.heap.size + 1 + 1]? = some (.cells #[.bool on, .slice none 0 0] 34 (0, 0)) := by
    have := heap_alloc_new ((w.alloc (.cells #[.bool on, .slice p l.length c] 26)).alloc (.cells #[.bool false, .slice none 0 0] 34)) (.cells #[.bool on, .slice none 0 0] 34)
    rwa [World.size_alloc, World.size_alloc] at this
  have hzW : (((w.alloc (.cells #[.bool on, .slice p l.length c] 26)).alloc (.cells #[.bool false, .slice none 0 0] 34)).alloc (.cells #[.bool on, .slice none 0 0] 34)).heap.size = w.heap.size + 3 := by simp
  generalize (((w.alloc (.cells #[.bool on, .slice p l.length c] 26)).alloc (.cells #[.bool false, .slice none 0 0] 34)).alloc (.cells #[.bool on, .slice none 0 0] 34)) = W3 at *
  refine (CT.out _ (LfRd.below hb3 _ _ HR.out)).mono ?_
  rintro e w1 ⟨V, fp, rfl, o1, b1⟩
  have hb1 := hb3.trans (b1.mono hb3.size)
  replace hA := (b1.block w.heap.size (by omega)).trans hA
  replace hR := (b1.block (w.heap.size + 1) (by omega)).trans hR
  replace hT := (b1.block (w.heap.size + 1 + 1) (by omega)).trans hT
  have hg : ∀ q ∈ fp, w.heap.size + 3 ≤ q := fun q hq => by have := o1.low q hq; omega
  have hnd := o1.nodup
  have hV2 : ∃ p n c, V = .slice p n c := by obtain ⟨p, c, h, _⟩ := o1.rd.2; exact ⟨p, _, c, h⟩
  obtain ⟨pv, nv, cv, rfl⟩ := hV2
  have o2 := Lib.hid o1.is
  clear b1 CT HA hb3 hzW o1
  -- what is set
  have c1 : w1.cell? ⟨w.heap.size + 1 + 1, 1, none⟩ = some (.slice none 0 0) := (Lib.cell_of_heap hT 1).trans rfl
  have f1 : w1.frozen? ⟨w.heap.size + 1 + 1, 1, none⟩ = false := Lib.frozen_of_heap hT 1
  have hT3 : (w1.setCell ⟨w.heap.size + 1 + 1, 1, none⟩ (.slice pv nv cv)).heap[w.heap.size + 1 + 1]? = some (.cells #[.bool on, .slice pv nv cv] 34 (0, 0)) := set_heap hT
  have hR3 : (w1.setCell ⟨w.heap.size + 1 + 1, 1, none⟩ (.slice pv nv cv)).heap[w.heap.size + 1]? = some (.cells #[.bool false, .slice none 0 0] 34 (0, 0)) := (set_other (by omega)).trans hR
  have g3 : GrownIn w1 (w1.setCell ⟨w.heap.size + 1 + 1, 1, none⟩ (.slice pv nv cv)) [w.heap.size + 1, w.heap.size + 1 + 1] := GrownIn.set (by simp)
  have hb5 := hb1.setCell (p := ⟨w.heap.size + 1 + 1, 1, none⟩) (by show w.heap.size ≤ w.heap.size + 1 + 1; omega) (.slice pv nv cv)
  generalize hW5 : w1.setCell ⟨w.heap.size + 1 + 1, 1, none⟩ (.slice pv nv cv) = W5 at *
  have d0 : W5.cell? ⟨w.heap.size + 1 + 1, 0, none⟩ = some (.bool on) := (Lib.cell_of_heap hT3 0).trans rfl
  have d1 : W5.cell? ⟨w.heap.size + 1 + 1, 1, none⟩ = some (.slice pv nv cv) := (Lib.cell_of_heap hT3 1).trans rfl
  have r0 : W5.cell? ⟨w.heap.size + 1, 0, none⟩ = some (.bool false) := (Lib.cell_of_heap hR3 0).trans rfl
  have q0 : W5.frozen? ⟨w.heap.size + 1, 0, none⟩ = false := Lib.frozen_of_heap hR3 0
  have q1 : W5.frozen? ⟨w.heap.size + 1, 1, none⟩ = false := Lib.frozen_of_heap hR3 1
  have hR4 := set_heap (j := 0) (u := .bool on) hR3
  have hR5 := set_heap (j := 1) (u := .slice pv nv cv) hR4
  have r1 := (Lib.cell_of_heap hR4 1).trans (show _ = some (Value.slice none 0 0) from rfl)
  have s0 := (Lib.cell_of_heap hR5 0).trans (show _ = some (Value.bool on) from rfl)
  have s1 := (Lib.cell_of_heap hR5 1).trans (show _ = some (Value.slice pv nv cv) from rfl)
  have g4 : GrownIn w1 ((W5.setCell ⟨w.heap.size + 1, 0, none⟩ (.bool on)).setCell ⟨w.heap.size + 1, 1, none⟩ (.slice pv nv cv)) [w.heap.size + 1, w.heap.size + 1 + 1] := (g3.trans (GrownIn.set (by simp))).trans (GrownIn.set (by simp))
  have o6 : LfIn ((W5.setCell ⟨w.heap.size + 1, 0, none⟩ (.bool on)).setCell ⟨w.heap.size + 1, 1, none⟩ (.slice pv nv cv)) (scpsLf l) (.slice pv nv cv) fp := o2.out.frame _ _ _ (fun k hk => g4.block k (LfIn.lt _ _ _ o2.out k hk) (fun hm => by have := hg k hk; simp at hm; omega))
  have hb6 := (hb5.setCell (p := ⟨w.heap.size + 1, 0, none⟩) (by show w.heap.size ≤ w.heap.size + 1; omega) (.bool on)).setCell (p := ⟨w.heap.size + 1, 1, none⟩) (by show w.heap.size ≤ w.heap.size + 1; omega) (.slice pv nv cv)
  have O6 := Lib.hid o6
  clear hA hR hT hT3 hR3 hR4 hR5 hb1 o6 o2 hb5 g3 g4
  go_wp2
  exact bodyPost_ret (v := .agg #[.bool on, .slice pv nv cv]) (by simp [results, Try.results30, go_sem, s0, s1]) rfl ⟨_, fp, rfl, ⟨O6.out, hnd, fun q hq => by have := hg q hq; omega⟩, hb6⟩

set_option maxHeartbeats 800000 in
theorem eqFilter_same (f : Flt) (va vb : Value) (w : World) (ha : LfRd w (scpsLf f.scopes) va) (hb : LfRd w (scpsLf f.scopes) vb) (hl : f.scopes.length ≤ 140737488355328) (hx : ∀ s ∈ f.scopes, s.names.length ≤ 140737488355328) :
    Calls Try.prog 33 #[.agg #[.bool f.on, va], .agg #[.bool f.on, vb]] w fun e w' => e = .returned (.bool true) ∧ Below w.heap.size w w' := by
  obtain ⟨on, l⟩ := f
  simp only at *
  obtain ⟨p, c, rfl, _⟩ := scps_at ha
  obtain ⟨q, d, rfl, _⟩ := scps_at hb
  have hb2 : Below w.heap.size w ((w.alloc (.cells #[.bool on, .slice p l.length c] 34)).alloc (.cells #[.bool on, .slice q l.length d] 34)) := ((Below.refl _ _).alloc (Nat.le_refl _) _).alloc (by simp) _
  have CE := Lib.hid (eqScopeS_same _ _ l _ (LfRd.below hb2 _ _ ha) (LfRd.below hb2 _ _ hb) hl hx)
  clear ha hb
  cases on with
  | _ =>
    go_enter Try.func33, Try.ntmps33
    go_wp2_with fail
    refine (CE.out).mono ?_
    rintro e w1 ⟨rfl, b1⟩
    have hb1 := hb2.trans (b1.mono (by simp; omega))
    clear b1 hb2
    go_wp2
    go_ret
    exact ⟨rfl, hb1⟩

set_option maxHeartbeats 800000 in
theorem szFilter_any (f : Flt) (vs : Value) (left : Nat) (w : World) (hr : LfRd w (scpsLf f.scopes) vs) (hl : f.scopes.length ≤ 9223372036854775807) (hx : ∀ s ∈ f.scopes, s.names.length ≤ 9223372036854775807 ∧ ∀ x ∈ s.names, x.length ≤ 9223372036854775807) (hL : left ≤ 1000000000000) :
    Calls Try.prog 21 #[.agg #[.bool f.on, vs], .int .i64 left] w fun e w' => e = .returned (.int .i64 (scR left f.scopes)) ∧ Below w.heap.size w w' := by
  obtain ⟨on, l⟩ := f
  simp only at *
  obtain ⟨p, c, rfl, _⟩ := scps_at hr
  have hb1 : Below w.heap.size w (w.alloc (.cells #[.bool on, .slice p l.length c] 26)) := (Below.refl _ _).alloc (Nat.le_refl _) _
  have c1 := szScopeS_any _ l left _ (LfRd.below hb1 _ _ hr) hl hx hL
  by_cases hok : l.length + scw l ≤ left
  · rw [scR_yes hok] at c1
    have C1 := Lib.hid c1
    have HV := Lib.hid (scR_yes hok)
    have hnn : ¬ ((left - (l.length + scw l) : Nat) : Int) < 0 := by omega
    clear c1
    go_enter Try.func21, Try.ntmps21
    go_wp2_with fail
    refine (C1.out).mono ?_
    rintro e w1 ⟨rfl, b1⟩
    have hb2 := hb1.trans (b1.mono (by simp))
    go_wp2
    go_ret
    exact ⟨by rw [HV.out]; rfl, hb2⟩
  · rw [scR_no hok] at c1
    have C1 := Lib.hid c1
    have HV := Lib.hid (scR_no hok)
    clear c1
    go_enter Try.func21, Try.ntmps21
    go_wp2_with fail
    refine (C1.out).mono ?_
    rintro e w1 ⟨rfl, b1⟩
    have hb2 := hb1.trans (b1.mono (by simp))
    go_wp2
    go_ret
    exact ⟨by rw [HV.out]; rfl, hb2⟩

end Go.Proofs.Ytidjebepgpbcnaa

