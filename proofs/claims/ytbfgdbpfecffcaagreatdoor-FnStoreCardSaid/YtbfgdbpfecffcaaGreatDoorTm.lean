/-
  Tm: ComY (what the claim needs of them).
-/
import Derived.Handy
import Derived.Deep.DeepCutAuto
import Derived.Test.YtbfgdbpfecffcaaGreatDoorRows
import Derived.WalkKit
import Derived.WalkSpells
import Derived.WalkLawsBesides
import Derived.Laws.IdiomStrings
import Derived.Lib.Hide
import Derived.Deep.AppendLies
import Derived.OrdersHeld
import Derived.Lib.ItoaNum
import Derived.Lib.ItoaMem
import Derived.Lib.AppendStr
import Derived.Lib.ItoaLen
import Derived.Lib.Strings
import Derived.Lib.Bytealg
import Derived.Lib.OthersKept
import Derived.Laws.RangeAny
import Derived.Laws.BitsAllLaws
import Derived.Laws.BitsLemmas
import Derived.IntWalk
import Derived.Lib.Join
import Derived.Deep.Strs
import Derived.Test.YtbfgdbpfecffcaaGreatDoorProg
import Derived.Laws.Tables
import Derived.Test.YtbfgdbpfecffcaaGreatDoorSb
import Derived.Test.YtbfgdbpfecffcaaGreatDoorSc
import Derived.Test.YtbfgdbpfecffcaaGreatDoorSd
import Derived.Test.YtbfgdbpfecffcaaGreatDoorSe
import Derived.Test.YtbfgdbpfecffcaaGreatDoorSf
import Derived.Test.YtbfgdbpfecffcaaGreatDoorSl
import Derived.Test.YtbfgdbpfecffcaaGreatDoorSm
import Derived.Test.YtbfgdbpfecffcaaGreatDoorSx
import Derived.Test.YtbfgdbpfecffcaaGreatDoorTk
import Derived.Test.YtbfgdbpfecffcaaGreatDoorTl

namespace Go.Proofs.YtbfgdbpfecffcaaGreatDoor
open Go.RowKit

def ComSm (x : ComD) : Prop := in64 x.kind ∧ in64 x.validity ∧ in64 x.uid ∧ in64 x.flags ∧ x.name.length ≤ 41 ∧ x.text.length ≤ 41
theorem ComSm.mk' {k v u f : Int} {n t : List UInt8} (h1 : in64 k) (h2 : in64 v) (h3 : in64 u) (h4 : in64 f) (h5 : n.length ≤ 41) (h6 : t.length ≤ 41) : ComSm ⟨k, v, u, f, n, t⟩ := ⟨h1, h2, h3, h4, h5, h6⟩
theorem in64_0 : in64 0 := ⟨by decide, by decide⟩
theorem ComSm.fine {x : ComD} (h : ComSm x) : szLs x.lf ≤ 1048576 ∧ LsBnd x.lf := by
  obtain ⟨h1, h2, h3, h4, h5, h6⟩ := h
  refine ⟨by rw [ComD.sz]; omega, h1, h2, h3, h4, ?_, ?_, trivial⟩
  · show x.name.length ≤ _; omega
  · show x.text.length ≤ _; omega
/-- A block of six cells, written one by one. -/
theorem blk_6c {W : World} {b : Nat} {cs : Array Value} {e : TypeId} (h : W.heap[b]? = some (.cells cs e (0, 0))) (hs : cs.size = 6) :
    (∃ z0 z1 z2 z3 z4 z5, W.cell? ⟨b, 0, none⟩ = some z0 ∧ W.cell? ⟨b, 1, none⟩ = some z1 ∧ W.cell? ⟨b, 2, none⟩ = some z2 ∧ W.cell? ⟨b, 3, none⟩ = some z3 ∧ W.cell? ⟨b, 4, none⟩ = some z4 ∧ W.cell? ⟨b, 5, none⟩ = some z5) ∧
    (W.frozen? ⟨b, 0, none⟩ = false ∧ W.frozen? ⟨b, 1, none⟩ = false ∧ W.frozen? ⟨b, 2, none⟩ = false ∧ W.frozen? ⟨b, 3, none⟩ = false ∧ W.frozen? ⟨b, 4, none⟩ = false ∧ W.frozen? ⟨b, 5, none⟩ = false) ∧
    (∀ v0 : Value, (W.setCell ⟨b, 0, none⟩ v0).cell? ⟨b, 0, none⟩ = some v0) ∧
    (∀ v0 v1 : Value, ((W.setCell ⟨b, 0, none⟩ v0).setCell ⟨b, 1, none⟩ v1).cell? ⟨b, 1, none⟩ = some v1) ∧
    (∀ v0 v1 v2 : Value, (((W.setCell ⟨b, 0, none⟩ v0).setCell ⟨b, 1, none⟩ v1).setCell ⟨b, 2, none⟩ v2).cell? ⟨b, 2, none⟩ = some v2) ∧
    (∀ v0 v1 v2 v3 : Value, ((((W.setCell ⟨b, 0, none⟩ v0).setCell ⟨b, 1, none⟩ v1).setCell ⟨b, 2, none⟩ v2).setCell ⟨b, 3, none⟩ v3).cell? ⟨b, 3, none⟩ = some v3) ∧
    (∀ v0 v1 v2 v3 v4 : Value, (((((W.setCell ⟨b, 0, none⟩ v0).setCell ⟨b, 1, none⟩ v1).setCell ⟨b, 2, none⟩ v2).setCell ⟨b, 3, none⟩ v3).setCell ⟨b, 4, none⟩ v4).cell? ⟨b, 4, none⟩ = some v4) ∧
    (∀ v0 v1 v2 v3 v4 v5 : Value, ((((((W.setCell ⟨b, 0, none⟩ v0).setCell ⟨b, 1, none⟩ v1).setCell ⟨b, 2, none⟩ v2).setCell ⟨b, 3, none⟩ v3).setCell ⟨b, 4, none⟩ v4).setCell ⟨b, 5, none⟩ v5).cell? ⟨b, 5, none⟩ = some v5) := by
  obtain ⟨c0, c1, c2, c3, c4, c5, rfl⟩ : ∃ c0 c1 c2 c3 c4 c5, cs = #[c0, c1, c2, c3, c4, c5] := by
    obtain ⟨l⟩ := cs
    match l, hs with
    | [c0, c1, c2, c3, c4, c5], _ => exact ⟨c0, c1, c2, c3, c4, c5, rfl⟩
  refine ⟨⟨c0, c1, c2, c3, c4, c5, (Lib.cell_of_heap h 0).trans rfl, (Lib.cell_of_heap h 1).trans rfl, (Lib.cell_of_heap h 2).trans rfl, (Lib.cell_of_heap h 3).trans rfl, (Lib.cell_of_heap h 4).trans rfl, (Lib.cell_of_heap h 5).trans rfl⟩, ⟨Lib.frozen_of_heap h 0, Lib.frozen_of_heap h 1, Lib.frozen_of_heap h 2, Lib.frozen_of_heap h 3, Lib.frozen_of_heap h 4, Lib.frozen_of_heap h 5⟩, fun v0 => ?_, fun v0 v1 => ?_, fun v0 v1 v2 => ?_, fun v0 v1 v2 v3 => ?_, fun v0 v1 v2 v3 v4 => ?_, fun v0 v1 v2 v3 v4 v5 => ?_⟩
  · have h1 : ((W.setCell ⟨b, 0, none⟩ v0)).heap[b]? = some (.cells #[v0, c1, c2, c3, c4, c5] e (0, 0)) := set_heap h
    exact (Lib.cell_of_heap h1 0).trans rfl
  · have h1 : ((W.setCell ⟨b, 0, none⟩ v0)).heap[b]? = some (.cells #[v0, c1, c2, c3, c4, c5] e (0, 0)) := set_heap h
    have h2 : (((W.setCell ⟨b, 0, none⟩ v0).setCell ⟨b, 1, none⟩ v1)).heap[b]? = some (.cells #[v0, v1, c2, c3, c4, c5] e (0, 0)) := set_heap h1
    exact (Lib.cell_of_heap h2 1).trans rfl
  · have h1 : ((W.setCell ⟨b, 0, none⟩ v0)).heap[b]? = some (.cells #[v0, c1, c2, c3, c4, c5] e (0, 0)) := set_heap h
    have h2 : (((W.setCell ⟨b, 0, none⟩ v0).setCell ⟨b, 1, none⟩ v1)).heap[b]? = some (.cells #[v0, v1, c2, c3, c4, c5] e (0, 0)) := set_heap h1
    have h3 : ((((W.setCell ⟨b, 0, none⟩ v0).setCell ⟨b, 1, none⟩ v1).setCell ⟨b, 2, none⟩ v2)).heap[b]? = some (.cells #[v0, v1, v2, c3, c4, c5] e (0, 0)) := set_heap h2
    exact (Lib.cell_of_heap h3 2).trans rfl
  · have h1 : ((W.setCell ⟨b, 0, none⟩ v0)).heap[b]? = some (.cells #[v0, c1, c2, c3, c4, c5] e (0, 0)) := set_heap h
    have h2 : (((W.setCell ⟨b, 0, none⟩ v0).setCell ⟨b, 1, none⟩ v1)).heap[b]? = some (.cells #[v0, v1, c2, c3, c4, c5] e (0, 0)) := set_heap h1
    have h3 : ((((W.setCell ⟨b, 0, none⟩ v0).setCell ⟨b, 1, none⟩ v1).setCell ⟨b, 2, none⟩ v2)).heap[b]? = some (.cells #[v0, v1, v2, c3, c4, c5] e (0, 0)) := set_heap h2
    have h4 : (((((W.setCell ⟨b, 0, none⟩ v0).setCell ⟨b, 1, none⟩ v1).setCell ⟨b, 2, none⟩ v2).setCell ⟨b, 3, none⟩ v3)).heap[b]? = some (.cells #[v0, v1, v2, v3, c4, c5] e (0, 0)) := set_heap h3
    exact (Lib.cell_of_heap h4 3).trans rfl
  · have h1 : ((W.setCell ⟨b, 0, none⟩ v0)).heap[b]? = some (.cells #[v0, c1, c2, c3, c4, c5] e (0, 0)) := set_heap h
    have h2 : (((W.setCell ⟨b, 0, none⟩ v0).setCell ⟨b, 1, none⟩ v1)).heap[b]? = some (.cells #[v0, v1, c2, c3, c4, c5] e (0, 0)) := set_heap h1
    have h3 : ((((W.setCell ⟨b, 0, none⟩ v0).setCell ⟨b, 1, none⟩ v1).setCell ⟨b, 2, none⟩ v2)).heap[b]? = some (.cells #[v0, v1, v2, c3, c4, c5] e (0, 0)) := set_heap h2
    have h4 : (((((W.setCell ⟨b, 0, none⟩ v0).setCell ⟨b, 1, none⟩ v1).setCell ⟨b, 2, none⟩ v2).setCell ⟨b, 3, none⟩ v3)).heap[b]? = some (.cells #[v0, v1, v2, v3, c4, c5] e (0, 0)) := set_heap h3
    have h5 : ((((((W.setCell ⟨b, 0, none⟩ v0).setCell ⟨b, 1, none⟩ v1).setCell ⟨b, 2, none⟩ v2).setCell ⟨b, 3, none⟩ v3).setCell ⟨b, 4, none⟩ v4)).heap[b]? = some (.cells #[v0, v1, v2, v3, v4, c5] e (0, 0)) := set_heap h4
    exact (Lib.cell_of_heap h5 4).trans rfl
  · have h1 : ((W.setCell ⟨b, 0, none⟩ v0)).heap[b]? = some (.cells #[v0, c1, c2, c3, c4, c5] e (0, 0)) := set_heap h
    have h2 : (((W.setCell ⟨b, 0, none⟩ v0).setCell ⟨b, 1, none⟩ v1)).heap[b]? = some (.cells #[v0, v1, c2, c3, c4, c5] e (0, 0)) := set_heap h1
    have h3 : ((((W.setCell ⟨b, 0, none⟩ v0).setCell ⟨b, 1, none⟩ v1).setCell ⟨b, 2, none⟩ v2)).heap[b]? = some (.cells #[v0, v1, v2, c3, c4, c5] e (0, 0)) := set_heap h2
    have h4 : (((((W.setCell ⟨b, 0, none⟩ v0).setCell ⟨b, 1, none⟩ v1).setCell ⟨b, 2, none⟩ v2).setCell ⟨b, 3, none⟩ v3)).heap[b]? = some (.cells #[v0, v1, v2, v3, c4, c5] e (0, 0)) := set_heap h3
    have h5 : ((((((W.setCell ⟨b, 0, none⟩ v0).setCell ⟨b, 1, none⟩ v1).setCell ⟨b, 2, none⟩ v2).setCell ⟨b, 3, none⟩ v3).setCell ⟨b, 4, none⟩ v4)).heap[b]? = some (.cells #[v0, v1, v2, v3, v4, c5] e (0, 0)) := set_heap h4
    have h6 : (((((((W.setCell ⟨b, 0, none⟩ v0).setCell ⟨b, 1, none⟩ v1).setCell ⟨b, 2, none⟩ v2).setCell ⟨b, 3, none⟩ v3).setCell ⟨b, 4, none⟩ v4).setCell ⟨b, 5, none⟩ v5)).heap[b]? = some (.cells #[v0, v1, v2, v3, v4, v5] e (0, 0)) := set_heap h5
    exact (Lib.cell_of_heap h6 5).trans rfl
/-- Boxes that are owned, read at one of them. -/
theorem list_at {W : World} {l : List BoxD} {p : Option Addr} {c k : Nat} {fp : List Nat} {x : BoxD} (h : LfIn W (boxsLf l) (.slice p l.length c) fp) (hk : l[k]? = some x) :
    ∃ b r3 fx, p = some ⟨b, 0, none⟩ ∧ (W.cell? ⟨b, k * 4, none⟩ = some (sv x.name) ∧ W.cell? ⟨b, k * 4 + 1, none⟩ = some (.int .i64 x.validity) ∧ W.cell? ⟨b, k * 4 + 2, none⟩ = some (.int .i64 x.next) ∧ W.cell? ⟨b, k * 4 + 3, none⟩ = some r3) ∧ LfIn W (msgsLf x.msgs) r3 fx ∧ ∀ q ∈ fx, q ∈ fp := by
  obtain ⟨_, xs, fq, ho, hx, hf⟩ := h
  have hlt := (List.getElem?_eq_some_iff.1 hk).1
  obtain ⟨A, us, R, fA, fx, fR, rfl, hA, hul, _, hu, _, rfl⟩ := rows_split (enc := BoxD.lf) BoxD.len hx hk
  obtain ⟨r3, f3, rfl, h3, rfl⟩ := BoxD.in_of hu
  obtain ⟨b, rfl⟩ : ∃ b, p = some ⟨b, 0, none⟩ := by
    rcases ho.2 with ⟨_, h0⟩ | ⟨g', cap, cur, h0, _⟩
    · omega
    · injection h0 with h0
      exact ⟨g', h0⟩
  have hcell : ∀ j u, ([sv x.name, .int .i64 x.validity, .int .i64 x.next, r3] : List Value)[j]? = some u → W.cell? ⟨b, k * 4 + j, none⟩ = some u := fun j u hj => by
    have hj4 := (List.getElem?_eq_some_iff.1 hj).1
    simp only [List.length_cons, List.length_nil] at hj4
    rw [ho.cellAt (k * 4 + j) (by omega), List.append_assoc, List.getElem?_append_right (by omega), hA, Nat.add_sub_cancel_left, List.getElem?_append_left (by simp; omega)]
    exact hj
  exact ⟨b, r3, fx, rfl, ⟨hcell 0 _ rfl, hcell 1 _ rfl, hcell 2 _ rfl, hcell 3 _ rfl⟩, h3, fun q hq => by rw [hf]; simp [hq]⟩
/-- A commit that is being drawn: the cursor, the boxes it is drawn for, its own block m, the result's. -/
structure CmS (w : World) (g : Nat) (code : List UInt8) (l : List BoxD) (v : Value) (fp : List Nat) (m : Nat) (x : ComD) (W : World) : Prop where
  cur : Cur W g code
  list : LfIn W (boxsLf l) v fp
  res : ∃ cs, cs.size = 6 ∧ W.heap[w.heap.size]? = some (.cells cs 26 (0, 0))
  blk : W.heap[m]? = some (.cells #[.int .i64 x.kind, .int .i64 x.validity, .int .i64 x.uid, .int .i64 x.flags, sv x.name, sv x.text] 26 (0, 0))
  grown : w.grownBy W (some g)
  og : g < w.heap.size
  om : w.heap.size < m
  of : ∀ q ∈ fp, q < w.heap.size ∧ q ≠ g
section
variable {w W W' : World} {g m : Nat} {code : List UInt8} {l : List BoxD} {v : Value} {fp : List Nat} {x : ComD}
theorem CmS.draw (h : CmS w g code l v fp m x W) (hg : W.grownBy W' (some g)) (hc : Cur W' g code) : CmS w g code l v fp m x W' := by
  have hk : ∀ k, k < W.heap.size → w.heap.size ≤ k → W'.heap[k]? = W.heap[k]? := fun k hk hw => hg.block k hk (fun e => by injection e with e; have := h.og; omega)
  obtain ⟨cs, h1, h2⟩ := h.res
  exact ⟨hc, LfIn.away h.list (GrownIn.of_row hg) (fun k hk hm => (h.of k hk).2 (by simpa using hm)), ⟨cs, h1, (hk _ (Array.getElem?_eq_some_iff.1 h2).1 (Nat.le_refl _)).trans h2⟩,
    (hk _ (Array.getElem?_eq_some_iff.1 h.blk).1 (Nat.le_of_lt h.om)).trans h.blk, grown_grown h.grown hg, h.og, h.om, h.of⟩
theorem CmS.below (h : CmS w g code l v fp m x W) (hb : Below W.heap.size W W') : CmS w g code l v fp m x W' := h.draw (grown_of_below hb) (h.cur.below hb)
theorem CmS.drew (h : CmS w g code l v fp m x W) : CmS w g code l v fp m x W.drew := h.below (Below.refl _ _).drew
theorem CmS.alloc (h : CmS w g code l v fp m x W) (o : Obj) : CmS w g code l v fp m x (W.alloc o) := h.below ((Below.refl _ _).alloc (Nat.le_refl _) _)
theorem CmS.set (h : CmS w g code l v fp m x W) (j : Nat) (u : Value) {x' : ComD} (hx : (#[.int .i64 x.kind, .int .i64 x.validity, .int .i64 x.uid, .int .i64 x.flags, sv x.name, sv x.text] : Array Value).setIfInBounds j u = #[.int .i64 x'.kind, .int .i64 x'.validity, .int .i64 x'.uid, .int .i64 x'.flags, sv x'.name, sv x'.text]) : CmS w g code l v fp m x' (W.setCell ⟨m, j, none⟩ u) := by
  obtain ⟨cs, h1, h2⟩ := h.res
  have hm := h.om
  refine ⟨h.cur.put (by have := h.og; omega) _ _, LfIn.set h.list (fun hq => by have := (h.of m hq).1; omega), ⟨cs, h1, (set_other (by omega)).trans h2⟩, ?_, grown_put h.grown (by omega) _ _, h.og, h.om, h.of⟩
  have := set_heap (j := j) (u := u) h.blk
  rwa [hx] at this
theorem CmS.cells (h : CmS w g code l v fp m x W) : (W.cell? ⟨m, 0, none⟩ = some (.int .i64 x.kind) ∧ W.cell? ⟨m, 1, none⟩ = some (.int .i64 x.validity) ∧ W.cell? ⟨m, 2, none⟩ = some (.int .i64 x.uid) ∧ W.cell? ⟨m, 3, none⟩ = some (.int .i64 x.flags) ∧ W.cell? ⟨m, 4, none⟩ = some (sv x.name) ∧ W.cell? ⟨m, 5, none⟩ = some (sv x.text)) ∧ (∀ j, W.frozen? ⟨m, j, none⟩ = false) :=
  ⟨⟨(Lib.cell_of_heap h.blk 0).trans rfl, (Lib.cell_of_heap h.blk 1).trans rfl, (Lib.cell_of_heap h.blk 2).trans rfl, (Lib.cell_of_heap h.blk 3).trans rfl, (Lib.cell_of_heap h.blk 4).trans rfl, (Lib.cell_of_heap h.blk 5).trans rfl⟩, fun j => Lib.frozen_of_heap h.blk j⟩
def CmPost (g : Nat) (code : List UInt8) (w : World) (e : Ending) (w' : World) : Prop := ∃ x : ComD, e = .returned (.agg #[.int .i64 x.kind, .int .i64 x.validity, .int .i64 x.uid, .int .i64 x.flags, sv x.name, sv x.text]) ∧ ComSm x ∧ Cur w' g code ∧ w.grownBy w' (some g)
theorem CmS.ret (h : CmS w g code l v fp m x W) {y : ComD} (hy : ComSm y) (v0 v1 v2 v3 v4 v5 : Value) : CmPost g code w (.returned (.agg #[.int .i64 y.kind, .int .i64 y.validity, .int .i64 y.uid, .int .i64 y.flags, sv y.name, sv y.text])) (((((((W.setCell ⟨w.heap.size, 0, none⟩ v0).setCell ⟨w.heap.size, 1, none⟩ v1).setCell ⟨w.heap.size, 2, none⟩ v2).setCell ⟨w.heap.size, 3, none⟩ v3).setCell ⟨w.heap.size, 4, none⟩ v4)).setCell ⟨w.heap.size, 5, none⟩ v5) :=
  ⟨y, rfl, hy, (((((h.cur.put h.og _ _).put h.og _ _).put h.og _ _).put h.og _ _).put h.og _ _).put h.og _ _, grown_put (grown_put (grown_put (grown_put (grown_put (grown_put h.grown (Nat.le_refl _) _ _) (Nat.le_refl _) _ _) (Nat.le_refl _) _ _) (Nat.le_refl _) _ _) (Nat.le_refl _) _ _) (Nat.le_refl _) _ _⟩
end

set_option maxRecDepth 20000 in
set_option maxHeartbeats 6400000 in
theorem l10Commit_any (g : Nat) (code : List UInt8) (l : List BoxD) (v : Value) (fp : List Nat) (w : World) (hc : Cur w g code) (hl : LfIn w (boxsLf l) v fp) (hgf : g ∉ fp) (hl5 : l.length ≤ 5) (hsm : ∀ x ∈ l, BoxQ 6 x) :
    Calls Tryz.prog 78 #[.pointer (some ⟨g, 0, none⟩), v] w fun e w' => CmPost g code w e w' := by
  have hog := hc.lt
  have hfl := LfIn.lt _ _ _ hl
  have hcur1 := hc.below ((Below.refl w.heap.size w).alloc (Nat.le_refl _) (.cells #[.int .i64 0, .int .i64 0, .int .i64 0, .int .i64 0, .string ⟨#[]⟩, .string ⟨#[]⟩] 26))
  have hres1 := heap_alloc_new w (.cells #[.int .i64 0, .int .i64 0, .int .i64 0, .int .i64 0, .string ⟨#[]⟩, .string ⟨#[]⟩] 26)
  have hl1 := LfIn.below hl ((Below.refl w.heap.size w).alloc (Nat.le_refl _) (.cells #[.int .i64 0, .int .i64 0, .int .i64 0, .int .i64 0, .string ⟨#[]⟩, .string ⟨#[]⟩] 26))
  have hg1 : w.grownBy (w.alloc (.cells #[.int .i64 0, .int .i64 0, .int .i64 0, .int .i64 0, .string ⟨#[]⟩, .string ⟨#[]⟩] 26)) (some g) := World.grownBy_alloc w _ (some g)
  have HSM := Lib.hid hsm
  have HOF := Lib.hid (show ∀ q ∈ fp, q < w.heap.size ∧ q ≠ g from fun q hq => ⟨hfl q hq, fun e => hgf (e ▸ hq)⟩)
  obtain ⟨p, c, rfl⟩ := LfIn.slice hl
  have H1 := Lib.hid (And.intro hcur1 (And.intro hres1 (And.intro hl1 hg1)))
  clear hc hl hgf hsm hfl hcur1 hres1 hl1 hg1
  go_enter Tryz.func78, Tryz.ntmps78
  go_wp2_with fail
  refine (l1Below_any g code _ 6 (by omega) _ H1.out.1 (by omega) (by omega)).mono ?_
  rintro e w2 ⟨a, rfl, ha, hc2, hg2⟩
  go_wp2_with fail
  refine (l1Below_any g code _ 9 (by omega) _ hc2 (by omega) (by omega)).mono ?_
  rintro e w3 ⟨b9, rfl, hb9, hc3, hg3⟩
  obtain ⟨kd, hkd⟩ : ∃ kd : Int, 1 + (a : Int) = kd := ⟨_, rfl⟩
  obtain ⟨vd, hvd⟩ : ∃ vd : Int, 1 + (b9 : Int) = vd := ⟨_, rfl⟩
  have hkb : 1 ≤ kd ∧ kd ≤ 6 := by omega
  have hvb : in64 vd := ⟨by omega, by omega⟩
  have HS3 := Lib.hid (show CmS w g code l (.slice p l.length c) fp w3.heap.size ⟨kd, vd, 0, 0, [], []⟩ (w3.alloc (.cells #[.int .i64 kd, .int .i64 vd, .int .i64 0, .int .i64 0, .string ⟨#[]⟩, .string ⟨#[]⟩] 26)) by
    obtain ⟨k1, k2, k3, k4⟩ := H1.out
    have hg13 := grown_grown hg2 hg3
    have hsz := hg13.size
    rw [World.size_alloc] at hsz
    have hlA := LfIn.away k3 (GrownIn.of_row hg13) (fun k hk hm => (HOF.out k hk).2 (by simpa using hm))
    have hrA := (hg13.block w.heap.size (by simp) (fun e => by injection e with e; omega)).trans k2
    have hbA := (Below.refl w3.heap.size w3).alloc (Nat.le_refl _) (.cells #[.int .i64 kd, .int .i64 vd, .int .i64 0, .int .i64 0, .string ⟨#[]⟩, .string ⟨#[]⟩] 26)
    exact ⟨hc3.below hbA, hlA.below hbA, ⟨_, rfl, (Below.heap_alloc _ _ _ (by omega)).trans hrA⟩, heap_alloc_new w3 _, grown_grown (grown_grown k4 hg13) (World.grownBy_alloc w3 _ (some g)), hog, by omega, HOF.out⟩)
  clear hc2 hc3 hg2 hg3 H1
  go_upto_region 2 with fail
  refine wp_named9 ?_
  intro X hX
  rw [← hX] at HS3
  have HS := Lib.hid HS3.out
  clear hX HS3 hkd hvd ha hb9
  generalize w3.heap.size = m at *
  go_cut [26] (fun u wx => ∃ t : Bool, u = .bool t ∧ (t = true → 0 < l.length) ∧ CmS w g code l (.slice p l.length c) fp m ⟨kd, vd, 0, 0, [], []⟩ wx)
  case first =>
    by_cases h0 : l.length = 0
    · have hgt : ¬ (l.length : Int) > 0 := by omega
      clear h0
      go_wp2_with fail
      go_meet
      exact ⟨false, rfl, by simp, HS.out⟩
    have hgt : (l.length : Int) > 0 := by omega
    go_wp2_with fail
    refine (l1Once_any g code _ 8 (by omega) _ HS.out.cur (by omega) (by omega)).mono ?_
    rintro e w4 ⟨o, rfl, hc4, hg4⟩
    have HS4 := Lib.hid (HS.out.draw hg4 hc4)
    clear hc4 hg4 HS
    cases o with
    | true =>
      go_wp2_with fail
      go_meet
      exact ⟨false, rfl, by simp, HS4.out⟩
    | false =>
      obtain ⟨⟨a0, -⟩, -⟩ := HS4.out.cells
      have HL0 := Lib.hid (show 0 < l.length by omega)
      cases hk1 : (kd == 1) with
      | true =>
        have hn1 := ne_not hk1
        go_wp2_with fail
        go_meet
        exact ⟨false, rfl, by simp, HS4.out⟩
      | false =>
        have hn1 := ne_yes hk1
        go_wp2_with fail
        go_meet
        exact ⟨true, rfl, fun _ => HL0.out, HS4.out⟩
  case rest =>
  obtain ⟨t, rfl, ht, hs⟩ := hcut
  have HT := Lib.hid ht
  have HS2 := Lib.hid hs
  clear ht hs HS
  go_upto_if 26 with fail
  go_cut [] (fun wx => ∃ (vd : Int) (ud : Int), in64 vd ∧ in64 ud ∧ CmS w g code l (.slice p l.length c) fp m ⟨kd, vd, ud, 0, [], []⟩ wx)
  case first =>
    cases t with
    | false =>
      go_wp2_with fail
      go_meet
      exact ⟨vd, 0, hvb, ⟨by omega, by omega⟩, HS2.out⟩
    | true =>
    have hl0 := HT.out rfl
    go_wp2_with fail
    refine (l1Below_any g code _ l.length rfl _ HS2.out.cur (by omega) (by omega)).mono ?_
    rintro e w4 ⟨y, rfl, hy, hc4, hg4⟩
    have HS4 := Lib.hid (HS2.out.draw hg4 hc4)
    clear hc4 hg4 HS2
    obtain ⟨z, hz⟩ : ∃ z, l[y]? = some z := ⟨_, List.getElem?_eq_getElem hy⟩
    obtain ⟨b, r3, fx, rfl, ⟨x0, x1, x2, x3⟩, hm3, hfx⟩ := list_at HS4.out.list hz
    obtain ⟨pm, cm, rfl⟩ := LfIn.slice hm3
    obtain ⟨zn, zv, zx, zm, zms⟩ := HSM.out z (List.mem_of_getElem? hz)
    have HM4 := Lib.hid hm3
    have HFX := Lib.hid hfx
    have HZM := Lib.hid (And.intro zm zms)
    clear hz hm3 hfx zm zms zn
    go_upto_region 4 with fail
    refine wp_named9 ?_
    intro X4 hX4
    have HS5 := Lib.hid (show CmS w g code l (.slice (some ⟨b, 0, none⟩) l.length c) fp m ⟨kd, vd, 0, 0, [], []⟩ X4 by rw [hX4]; exact HS4.out.alloc _)
    have HB5 := Lib.hid (show X4.heap[w4.heap.size]? = some (.cells #[sv z.name, .int .i64 z.validity, .int .i64 z.next, .slice pm z.msgs.length cm] 38 (0, 0)) by rw [hX4]; exact heap_alloc_new w4 _)
    have HM5 := Lib.hid (show LfIn X4 (msgsLf z.msgs) (.slice pm z.msgs.length cm) fx by rw [hX4]; exact HM4.out.below ((Below.refl _ _).alloc (Nat.le_refl _) _))
    have hmw : m < w4.heap.size := (Array.getElem?_eq_some_iff.1 HS4.out.blk).1
    have hwm := HS4.out.om
    clear hX4 x0 x1 x2 x3 HS4 HM4
    generalize w4.heap.size = mb at *
    obtain ⟨⟨a0, a1, a2, -⟩, hf⟩ := HS5.out.cells
    have f1 := hf 1
    have b1 := (Lib.cell_of_heap HB5.out 1).trans (show _ = some (.int .i64 z.validity) from rfl)
    clear hf
    go_upto_region 5 with fail
    refine wp_named9 ?_
    intro X5 hX5
    have HS6 := Lib.hid (show CmS w g code l (.slice (some ⟨b, 0, none⟩) l.length c) fp m ⟨kd, z.validity, 0, 0, [], []⟩ X5 by rw [hX5]; exact HS5.out.set 1 _ rfl)
    have HB6 := Lib.hid (show X5.heap[mb]? = some (.cells #[sv z.name, .int .i64 z.validity, .int .i64 z.next, .slice pm z.msgs.length cm] 38 (0, 0)) by rw [hX5]; exact (set_other (by omega)).trans HB5.out)
    have HM6 := Lib.hid (show LfIn X5 (msgsLf z.msgs) (.slice pm z.msgs.length cm) fx by rw [hX5]; exact HM5.out.set (fun hq => by have := (HOF.out m (HFX.out m hq)).1; omega))
    clear hX5 a0 a1 a2 f1 b1 HS5 HB5 HM5
    obtain ⟨⟨a0, a1, a2, -⟩, hf⟩ := HS6.out.cells
    have f2 := hf 2
    have b2 := (Lib.cell_of_heap HB6.out 2).trans (show _ = some (.int .i64 z.next) from rfl)
    clear hf
    go_upto_region 6 with fail
    refine wp_named9 ?_
    intro X6 hX6
    have HS7 := Lib.hid (show CmS w g code l (.slice (some ⟨b, 0, none⟩) l.length c) fp m ⟨kd, z.validity, z.next, 0, [], []⟩ X6 by rw [hX6]; exact HS6.out.set 2 _ rfl)
    have HB7 := Lib.hid (show X6.heap[mb]? = some (.cells #[sv z.name, .int .i64 z.validity, .int .i64 z.next, .slice pm z.msgs.length cm] 38 (0, 0)) by rw [hX6]; exact (set_other (by omega)).trans HB6.out)
    have HM7 := Lib.hid (show LfIn X6 (msgsLf z.msgs) (.slice pm z.msgs.length cm) fx by rw [hX6]; exact HM6.out.set (fun hq => by have := (HOF.out m (HFX.out m hq)).1; omega))
    clear hX6 a0 a1 a2 f2 b2 HS6 HB6 HM6
    obtain ⟨⟨a0, -⟩, -⟩ := HS7.out.cells
    have b3 := (Lib.cell_of_heap HB7.out 3).trans (show _ = some (.slice pm z.msgs.length cm) from rfl)
    by_cases hk4 : kd > 4
    case neg =>
      go_wp2_with fail
      go_meet
      exact ⟨z.validity, z.next, zv, zx, HS7.out⟩
    by_cases hz0 : z.msgs.length = 0
    · have hgt : ¬ (z.msgs.length : Int) > 0 := by omega
      go_wp2_with fail
      go_meet
      exact ⟨z.validity, z.next, zv, zx, HS7.out⟩
    have hgt : (z.msgs.length : Int) > 0 := by omega
    go_wp2_with fail
    clear a0 b3
    have HS8 := Lib.hid HS7.out.drew
    have HM8 := Lib.hid (HM7.out.below (Below.refl _ _).drew)
    have HB8 := Lib.hid (show X6.drew.heap[mb]? = some (.cells #[sv z.name, .int .i64 z.validity, .int .i64 z.next, .slice pm z.msgs.length cm] 38 (0, 0)) from HB7.out)
    obtain ⟨p', c', hv', hat⟩ := MsgD.at (LfIn.rd _ _ _ HM8.out)
    injection hv' with hp' _ hc'
    subst hp' hc'
    obtain ⟨gm, om, rfl, _, hmc⟩ := hat.resolve_left (by intro h; rw [h] at hz0; simp at hz0)
    have b3 := (Lib.cell_of_heap HB8.out 3).trans (show _ = some (.slice (some ⟨gm, om, none⟩) z.msgs.length cm) from rfl)
    have hq : ∀ j q, z.msgs[j]? = some q → X6.drew.cell? ⟨gm, om + j * 3, none⟩ = some (.int .i64 q.uid) := fun j q hj => (hmc j q hj).1
    clear hat hmc HS7 HM7 HB7
    refine ordz_start [(0, true), (1, true), (2, true), (3, true), (4, true), (5, true), (6, false), (7, true), (8, true), (9, true), (10, true), (11, false)] 11 (fun W => W.cell? ⟨mb, 3, none⟩ = some (.slice (some ⟨gm, om, none⟩) z.msgs.length cm) ∧ ∀ (j : Nat) (q : MsgD), z.msgs[j]? = some q → W.cell? ⟨gm, om + j * 3, none⟩ = some (.int .i64 q.uid)) (by kernel_rfl) (by kernel_rfl) rfl (by kernel_rfl) ?_
    intro ops' hops
    clear hops
    simp only [List.map_cons, List.map_nil, pickOp_zero, pickOp_succ]
    iterate 6 (refine ordz_flo ?_ (fun _ _ _ h => h) rfl ?_ ⟨b3, hq⟩ ?_; rotate_left; focus (intro W hS; obtain ⟨s1, s2⟩ := hS; go_simp; rfl))
    refine ordz_ev rfl ?_
    go_simp
    refine (l1Below_any g code _ z.msgs.length rfl _ HS8.out.cur (by omega) (by have := HZM.out.1; omega)).mono ?_
    rintro e w9 ⟨y2, rfl, hy2, hc9, hg9⟩
    have HS9 := Lib.hid (HS8.out.draw hg9 hc9)
    have hmb9 : w9.heap[mb]? = some (.cells #[sv z.name, .int .i64 z.validity, .int .i64 z.next, .slice (some ⟨gm, om, none⟩) z.msgs.length cm] 38 (0, 0)) := (hg9.block mb (Array.getElem?_eq_some_iff.1 HB8.out).1 (fun e => by injection e with e; omega)).trans HB8.out
    have HM9 := LfIn.away HM8.out (GrownIn.of_row hg9) (fun k hk hm => (HOF.out k (HFX.out k hk)).2 (by simpa using hm))
    obtain ⟨p', c', hv', hat⟩ := MsgD.at (LfIn.rd _ _ _ HM9)
    injection hv' with hp' _ hc'
    subst hp' hc'
    obtain ⟨gm', om', he', _, hmc⟩ := hat.resolve_left (by intro h; rw [h] at hz0; simp at hz0)
    injection he' with he'
    injection he' with he1 he2
    subst he1 he2
    clear b3 hq
    have b3 := (Lib.cell_of_heap hmb9 3).trans (show _ = some (.slice (some ⟨gm, om, none⟩) z.msgs.length cm) from rfl)
    have hq : ∀ (j : Nat) (q : MsgD), z.msgs[j]? = some q → w9.cell? ⟨gm, om + j * 3, none⟩ = some (.int .i64 q.uid) := fun j q hj => (hmc j q hj).1
    obtain ⟨q2, hq2⟩ : ∃ q2, z.msgs[y2]? = some q2 := ⟨_, List.getElem?_eq_getElem hy2⟩
    obtain ⟨⟨-, -, a2, -⟩, hf⟩ := HS9.out.cells
    have f2 := hf 2
    have HF := Lib.hid (And.intro (HZM.out.2 q2 (List.mem_of_getElem? hq2)).1 (HS9.out.set 2 (.int .i64 q2.uid) (x' := ⟨kd, z.validity, q2.uid, 0, [], []⟩) rfl))
    clear hc9 hg9 hmb9 HM9 hat hmc hf HS8 HM8 HB8 HS9
    refine ⟨⟨b3, hq⟩, ?_⟩
    refine ordz_flo (.pointer (some ⟨gm, om + y2 * 3, none⟩)) (fun _ _ _ h => h) rfl ?_ ⟨b3, hq⟩ ?_
    · intro W hS
      clear hS
      go_simp
      try (intro h; omega)
    iterate 1 (refine ordz_flo ?_ (fun _ _ _ h => h) rfl ?_ ⟨b3, hq⟩ ?_; rotate_left; focus (intro W hS; obtain ⟨s1, s2⟩ := hS; go_simp; rfl))
    refine ordz_flo (.int .i64 q2.uid) (fun _ _ _ h => h) rfl ?_ ⟨b3, hq⟩ ?_
    · intro W hS
      have s2 := hS.2 y2 q2 hq2
      clear hS
      go_simp
    iterate 1 (refine ordz_flo ?_ (fun _ _ _ h => h) rfl ?_ ⟨b3, hq⟩ ?_; rotate_left; focus (intro W hS; obtain ⟨s1, s2⟩ := hS; go_simp; rfl))
    clear hq b3
    refine ordz_ev rfl ?_
    go_simp
    refine ordz_done ?_
    go_simp
    clear a2 f2
    go_wp2_with fail
    go_meet
    exact ⟨z.validity, q2.uid, zv, HF.out.1, HF.out.2⟩
  case rest =>
  obtain ⟨vd, ud, hvb2, hub, hs⟩ := hcut
  have HS3 := Lib.hid hs
  clear hs HS2 HT hvb HSM
  go_wp2_with fail
  refine (l1Below_any g code _ 32 (by omega) _ HS3.out.cur (by omega) (by omega)).mono ?_
  rintro e w4 ⟨fl, rfl, hfl, hc4, hg4⟩
  have HS4 := Lib.hid (HS3.out.draw hg4 hc4)
  obtain ⟨⟨-, -, -, a3, -, -⟩, hf⟩ := HS4.out.cells
  have f3 := hf 3
  have HS5 := Lib.hid (HS4.out.set 3 (.int .i64 (fl : Int)) (x' := ⟨kd, vd, ud, (fl : Int), [], []⟩) rfl)
  clear hc4 hg4 HS3 hf HS4
  go_wp2_with fail
  refine (l2Name_any g code _ HS5.out.cur).mono ?_
  rintro e w6 ⟨nm, rfl, hnm, hc6, hg6⟩
  have HS6 := Lib.hid (HS5.out.draw hg6 hc6)
  clear a3 f3 hc6 hg6 HS5
  obtain ⟨⟨-, -, -, -, a4, -⟩, hf⟩ := HS6.out.cells
  have f4 := hf 4
  have HS7 := Lib.hid (HS6.out.set 4 (sv nm) (x' := ⟨kd, vd, ud, (fl : Int), nm, []⟩) rfl)
  clear hf HS6
  go_wp2_with fail
  refine (l7Body_any g code _ HS7.out.cur).mono ?_
  rintro e w8 ⟨tx, rfl, htx, hc8, hg8⟩
  have HS8 := Lib.hid (HS7.out.draw hg8 hc8)
  clear a4 f4 hc8 hg8 HS7
  obtain ⟨⟨-, -, -, -, -, a5⟩, hf⟩ := HS8.out.cells
  have f5 := hf 5
  have HS9 := Lib.hid (HS8.out.set 5 (sv tx) (x' := ⟨kd, vd, ud, (fl : Int), nm, tx⟩) rfl)
  clear hf HS8
  go_upto_region 11 with fail
  refine wp_named9 ?_
  intro X hX
  have HS := Lib.hid (show CmS w g code l (.slice p l.length c) fp m ⟨kd, vd, ud, (fl : Int), nm, tx⟩ X by rw [hX]; exact HS9.out)
  clear hX HS9 a5 f5
  obtain ⟨⟨a0, a1, a2, a3, a4, a5⟩, hf⟩ := HS.out.cells
  have f4 := hf 4
  have f5 := hf 5
  clear hf
  obtain ⟨cs, hcs, hres⟩ := HS.out.res
  have hfb : in64 (fl : Int) := ⟨by omega, by omega⟩
  have hkd64 : in64 kd := ⟨by omega, by omega⟩
  rcases (show kd = 1 ∨ kd = 3 ∨ kd = 2 ∨ kd = 4 ∨ kd = 5 ∨ kd = 6 by omega) with hk | hk | hk | hk | hk | hk
  · have HY := Lib.hid (show ComSm ⟨kd, vd, 0, 0, nm, []⟩ from ComSm.mk' hkd64 hvb2 in64_0 in64_0 hnm (by simp))
    have t1 : (kd == 1) = true := by rw [hk]; rfl
    clear hk hkb hvb2 hub hfb hnm htx hfl hkd64
    obtain ⟨⟨z0, z1, z2, z3, z4, z5, e0, e1, e2, e3, e4, e5⟩, ⟨r0, r1, r2, r3, r4, r5⟩, s0, s1, s2, s3, s4, s5⟩ := blk_6c hres hcs
    clear hcs hres
    go_wp2
    exact bodyPost_ret (v := .agg #[.int .i64 kd, .int .i64 vd, .int .i64 0, .int .i64 0, sv nm, sv []]) (by simp [results, Tryz.results78, go_sem, s0, s1, s2, s3, s4, s5]) rfl (HS.out.ret (y := ⟨kd, vd, 0, 0, nm, []⟩) HY.out _ _ _ _ _ _)
  · have HY := Lib.hid (show ComSm ⟨kd, vd, 0, 0, nm, []⟩ from ComSm.mk' hkd64 hvb2 in64_0 in64_0 hnm (by simp))
    have t1 : (kd == 1) = false := by rw [hk]; rfl
    have t3 : (kd == 3) = true := by rw [hk]; rfl
    clear hk hkb hvb2 hub hfb hnm htx hfl hkd64
    obtain ⟨⟨z0, z1, z2, z3, z4, z5, e0, e1, e2, e3, e4, e5⟩, ⟨r0, r1, r2, r3, r4, r5⟩, s0, s1, s2, s3, s4, s5⟩ := blk_6c hres hcs
    clear hcs hres
    go_wp2
    exact bodyPost_ret (v := .agg #[.int .i64 kd, .int .i64 vd, .int .i64 0, .int .i64 0, sv nm, sv []]) (by simp [results, Tryz.results78, go_sem, s0, s1, s2, s3, s4, s5]) rfl (HS.out.ret (y := ⟨kd, vd, 0, 0, nm, []⟩) HY.out _ _ _ _ _ _)
  · have HY := Lib.hid (show ComSm ⟨kd, vd, 0, 0, [], []⟩ from ComSm.mk' hkd64 hvb2 in64_0 in64_0 (by simp) (by simp))
    have t1 : (kd == 1) = false := by rw [hk]; rfl
    have t3 : (kd == 3) = false := by rw [hk]; rfl
    have t2 : (kd == 2) = true := by rw [hk]; rfl
    clear hk hkb hvb2 hub hfb hnm htx hfl hkd64
    obtain ⟨⟨z0, z1, z2, z3, z4, z5, e0, e1, e2, e3, e4, e5⟩, ⟨r0, r1, r2, r3, r4, r5⟩, s0, s1, s2, s3, s4, s5⟩ := blk_6c hres hcs
    clear hcs hres
    go_wp2
    exact bodyPost_ret (v := .agg #[.int .i64 kd, .int .i64 vd, .int .i64 0, .int .i64 0, sv [], sv []]) (by simp [results, Tryz.results78, go_sem, s0, s1, s2, s3, s4, s5]) rfl (HS.out.ret (y := ⟨kd, vd, 0, 0, [], []⟩) HY.out _ _ _ _ _ _)
  · have HY := Lib.hid (show ComSm ⟨kd, vd, ud, (fl : Int), [], tx⟩ from ComSm.mk' hkd64 hvb2 hub hfb (by simp) (by omega))
    have t1 : (kd == 1) = false := by rw [hk]; rfl
    have t3 : (kd == 3) = false := by rw [hk]; rfl
    have t2 : (kd == 2) = false := by rw [hk]; rfl
    have t4 : (kd == 4) = true := by rw [hk]; rfl
    clear hk hkb hvb2 hub hfb hnm htx hfl hkd64
    go_upto_region 23 with fail
    refine wp_named9 ?_
    intro Y hY
    have HSY := Lib.hid (show CmS w g code l (.slice p l.length c) fp m ⟨kd, vd, ud, (fl : Int), [], tx⟩ Y by rw [hY]; exact HS.out.set 4 (sv []) rfl)
    clear hY a0 a1 a2 a3 a4 a5 f4 f5 hcs hres HS
    obtain ⟨⟨a0, a1, a2, a3, a4, a5⟩, -⟩ := HSY.out.cells
    obtain ⟨cs2, hcs, hres⟩ := HSY.out.res
    obtain ⟨⟨z0, z1, z2, z3, z4, z5, e0, e1, e2, e3, e4, e5⟩, ⟨r0, r1, r2, r3, r4, r5⟩, s0, s1, s2, s3, s4, s5⟩ := blk_6c hres hcs
    clear hcs hres
    go_wp2
    exact bodyPost_ret (v := .agg #[.int .i64 kd, .int .i64 vd, .int .i64 ud, .int .i64 (fl : Int), sv [], sv tx]) (by simp [results, Tryz.results78, go_sem, s0, s1, s2, s3, s4, s5]) rfl (HSY.out.ret (y := ⟨kd, vd, ud, (fl : Int), [], tx⟩) HY.out _ _ _ _ _ _)
  · have HY := Lib.hid (show ComSm ⟨kd, vd, ud, (fl : Int), [], []⟩ from ComSm.mk' hkd64 hvb2 hub hfb (by simp) (by simp))
    have t1 : (kd == 1) = false := by rw [hk]; rfl
    have t3 : (kd == 3) = false := by rw [hk]; rfl
    have t2 : (kd == 2) = false := by rw [hk]; rfl
    have t4 : (kd == 4) = false := by rw [hk]; rfl
    have t5 : (kd == 5) = true := by rw [hk]; rfl
    clear hk hkb hvb2 hub hfb hnm htx hfl hkd64
    go_upto_region 23 with fail
    refine wp_named9 ?_
    intro Y hY
    have HSY := Lib.hid (show CmS w g code l (.slice p l.length c) fp m ⟨kd, vd, ud, (fl : Int), [], []⟩ Y by rw [hY]; exact (HS.out.set 4 (sv []) (x' := ⟨kd, vd, ud, (fl : Int), [], tx⟩) rfl).set 5 (sv []) rfl)
    clear hY a0 a1 a2 a3 a4 a5 f4 f5 hcs hres HS
    obtain ⟨⟨a0, a1, a2, a3, a4, a5⟩, -⟩ := HSY.out.cells
    obtain ⟨cs2, hcs, hres⟩ := HSY.out.res
    obtain ⟨⟨z0, z1, z2, z3, z4, z5, e0, e1, e2, e3, e4, e5⟩, ⟨r0, r1, r2, r3, r4, r5⟩, s0, s1, s2, s3, s4, s5⟩ := blk_6c hres hcs
    clear hcs hres
    go_wp2
    exact bodyPost_ret (v := .agg #[.int .i64 kd, .int .i64 vd, .int .i64 ud, .int .i64 (fl : Int), sv [], sv []]) (by simp [results, Tryz.results78, go_sem, s0, s1, s2, s3, s4, s5]) rfl (HSY.out.ret (y := ⟨kd, vd, ud, (fl : Int), [], []⟩) HY.out _ _ _ _ _ _)
  · have HY := Lib.hid (show ComSm ⟨kd, vd, ud, 0, [], []⟩ from ComSm.mk' hkd64 hvb2 hub in64_0 (by simp) (by simp))
    have t1 : (kd == 1) = false := by rw [hk]; rfl
    have t3 : (kd == 3) = false := by rw [hk]; rfl
    have t2 : (kd == 2) = false := by rw [hk]; rfl
    have t4 : (kd == 4) = false := by rw [hk]; rfl
    have t5 : (kd == 5) = false := by rw [hk]; rfl
    clear hk hkb hvb2 hub hfb hnm htx hfl hkd64
    obtain ⟨⟨z0, z1, z2, z3, z4, z5, e0, e1, e2, e3, e4, e5⟩, ⟨r0, r1, r2, r3, r4, r5⟩, s0, s1, s2, s3, s4, s5⟩ := blk_6c hres hcs
    clear hcs hres
    go_wp2
    exact bodyPost_ret (v := .agg #[.int .i64 kd, .int .i64 vd, .int .i64 ud, .int .i64 0, sv [], sv []]) (by simp [results, Tryz.results78, go_sem, s0, s1, s2, s3, s4, s5]) rfl (HS.out.ret (y := ⟨kd, vd, ud, 0, [], []⟩) HY.out _ _ _ _ _ _)

end Go.Proofs.YtbfgdbpfecffcaaGreatDoor
