/-
  To: StoV StoW (what the claim needs of them).
-/
import Derived.Handy
import Derived.Deep.DeepCutAuto
import Derived.Test.YtbfgdbpfecffcaaGreatDoorRows
import Derived.WalkKit
import Derived.WalkSpells
import Derived.WalkLawsBesides
import Derived.Laws.IdiomStrings
import Derived.Lib.Hide
import Derived.Deep.AppendLies
import Derived.OrdersHeld
import Derived.Lib.ItoaNum
import Derived.Lib.ItoaMem
import Derived.Lib.AppendStr
import Derived.Lib.ItoaLen
import Derived.Lib.Strings
import Derived.Lib.Bytealg
import Derived.Lib.OthersKept
import Derived.Laws.RangeAny
import Derived.Laws.BitsAllLaws
import Derived.Laws.BitsLemmas
import Derived.IntWalk
import Derived.Lib.Join
import Derived.Deep.Strs
import Derived.Test.YtbfgdbpfecffcaaGreatDoorProg
import Derived.Laws.Tables
import Derived.Deep.Cut
import Derived.Test.YtbfgdbpfecffcaaGreatDoorSb
import Derived.Test.YtbfgdbpfecffcaaGreatDoorSc
import Derived.Test.YtbfgdbpfecffcaaGreatDoorSd
import Derived.Test.YtbfgdbpfecffcaaGreatDoorSe
import Derived.Test.YtbfgdbpfecffcaaGreatDoorSf
import Derived.Test.YtbfgdbpfecffcaaGreatDoorSl
import Derived.Test.YtbfgdbpfecffcaaGreatDoorSm
import Derived.Test.YtbfgdbpfecffcaaGreatDoorSo
import Derived.Test.YtbfgdbpfecffcaaGreatDoorSq
import Derived.Test.YtbfgdbpfecffcaaGreatDoorSx
import Derived.Test.YtbfgdbpfecffcaaGreatDoorTa
import Derived.Test.YtbfgdbpfecffcaaGreatDoorTb
import Derived.Test.YtbfgdbpfecffcaaGreatDoorTc
import Derived.Test.YtbfgdbpfecffcaaGreatDoorTd
import Derived.Test.YtbfgdbpfecffcaaGreatDoorTi
import Derived.Test.YtbfgdbpfecffcaaGreatDoorTk
import Derived.Test.YtbfgdbpfecffcaaGreatDoorTl
import Derived.Test.YtbfgdbpfecffcaaGreatDoorTm
import Derived.Test.YtbfgdbpfecffcaaGreatDoorTn

namespace Go.Proofs.YtbfgdbpfecffcaaGreatDoor
open Go.RowKit

theorem boxs_type {W : World} {l : List BoxD} {v : Value} {f : List Nat} {q : Nat} (h : LfIn W (boxsLf l) v f) (hq : q ∈ f) : ∃ cur T, W.heap[q]? = some (.cells cur T (0, 0)) ∧ (T = 38 ∨ T = 87) := by
  obtain ⟨_, ys, fq, ho, hx, rfl⟩ := h
  obtain ⟨ps, _, _, rfl, hk⟩ := bps_of hx
  rcases List.mem_append.1 hq with hq | hq
  · obtain ⟨cur, hc⟩ := own_type ho hq
    exact ⟨cur, _, hc, .inl rfl⟩
  · obtain ⟨p, hp, hq⟩ := List.mem_flatMap.1 hq
    have hi := msgs_in.1 (hk p hp)
    rw [hi.2] at hq
    obtain ⟨cur, hc⟩ := own_type hi.1 hq
    exact ⟨cur, _, hc, .inr rfl⟩
/-- Boxes of the call's (blocks may be shared). -/
structure Bx (W : World) (lo : Nat) (x : Lf) (v : Value) (f : List Nat) : Prop where
  is : LfIn W x v f
  low : ∀ q ∈ f, lo ≤ q
theorem Bx.lt {W : World} {lo : Nat} {x : Lf} {v : Value} {f : List Nat} (h : Bx W lo x v f) : ∀ k ∈ f, k < W.heap.size := LfIn.lt x v f h.is
theorem Bx.rd {W : World} {lo : Nat} {x : Lf} {v : Value} {f : List Nat} (h : Bx W lo x v f) : LfRd W x v := LfIn.rd _ _ _ h.is
theorem Bx.below {W W' : World} {lo : Nat} {x : Lf} {v : Value} {f : List Nat} (h : Bx W lo x v f) (hb : Below W.heap.size W W') : Bx W' lo x v f := ⟨h.is.below hb, h.low⟩
/-- A store in a block m of the call's, while the rest is drawn. -/
structure StS (w : World) (g : Nat) (code : List UInt8) (m : Nat) (x : StoD) (z0 z1 : Value) (W : World) : Prop where
  cur : Cur W g code
  blk : W.heap[m]? = some (.cells #[z0, z1, .int .i64 x.given] 46 (0, 0))
  res : W.heap[w.heap.size]? = some (.cells #[.slice none 0 0, .slice none 0 0, .int .i64 0] 46 (0, 0))
  bx : ∃ f, Bx W (w.heap.size + 1) (boxsLf x.boxes) z0 f
  lg : W.ownsRow (w.heap.size + 1) 26 6 z1 x.log.length (x.log.flatMap comc)
  grown : w.grownBy W (some g)
  og : g < w.heap.size
  om : w.heap.size < m
section
variable {w W W' : World} {g m : Nat} {code : List UInt8} {x x' : StoD} {z0 z1 z0' z1' : Value}
theorem StS.draw (h : StS w g code m x z0 z1 W) (hg : W.grownBy W' (some g)) (hc : Cur W' g code) : StS w g code m x z0 z1 W' := by
  have hk : ∀ k, k < W.heap.size → w.heap.size ≤ k → W'.heap[k]? = W.heap[k]? := fun k hk hw => hg.block k hk (fun e => by injection e with e; have := h.og; omega)
  obtain ⟨f, t⟩ := h.bx
  exact ⟨hc, (hk m (Array.getElem?_eq_some_iff.1 h.blk).1 (Nat.le_of_lt h.om)).trans h.blk, (hk _ (Array.getElem?_eq_some_iff.1 h.res).1 (Nat.le_refl _)).trans h.res,
    ⟨f, LfIn.frame _ _ _ (fun k hkf => hk k (t.lt k hkf) (by have := t.low k hkf; omega)) t.is, t.low⟩, own_frame h.lg (fun k hkb => hk k (h.lg.lt k hkb).2 (by have := (h.lg.lt k hkb).1; omega)), grown_grown h.grown hg, h.og, h.om⟩
theorem StS.under (h : StS w g code m x z0 z1 W) (hb : Below W.heap.size W W') : StS w g code m x z0 z1 W' := h.draw (grown_of_below hb) (h.cur.below hb)
theorem StS.cells (h : StS w g code m x z0 z1 W) : (W.cell? ⟨m, 0, none⟩ = some z0 ∧ W.cell? ⟨m, 1, none⟩ = some z1 ∧ W.cell? ⟨m, 2, none⟩ = some (.int .i64 x.given)) ∧ (W.frozen? ⟨m, 0, none⟩ = false ∧ W.frozen? ⟨m, 1, none⟩ = false ∧ W.frozen? ⟨m, 2, none⟩ = false) := ⟨(blk_3c h.blk).1, (blk_3c h.blk).2.1⟩
/-- One of the block's cells is set. -/
theorem StS.put (h : StS w g code m x z0 z1 W) (j : Nat) (u : Value) (he : (#[z0, z1, .int .i64 x.given] : Array Value).setIfInBounds j u = #[z0', z1', .int .i64 x'.given]) (hbx : ∃ f, Bx W (w.heap.size + 1) (boxsLf x'.boxes) z0' f) (hlg : W.ownsRow (w.heap.size + 1) 26 6 z1' x'.log.length (x'.log.flatMap comc)) : StS w g code m x' z0' z1' (W.setCell ⟨m, j, none⟩ u) := by
  obtain ⟨f, t⟩ := hbx
  have hmf : m ∉ f := fun hm => by
    obtain ⟨cur, T, hc, hT⟩ := boxs_type t.is hm
    rw [h.blk] at hc
    injection hc with hc
    injection hc with _ hc _
    rw [← hc] at hT
    rcases hT with hT | hT <;> exact absurd hT (by decide)
  have hml : ∀ k, z1'.ownBlock = some k → m ≠ k := fun k hk e => by
    obtain ⟨cur, hc⟩ := own_type hlg (show k ∈ z1'.ownBlock.toList by rw [hk]; simp)
    rw [← e, h.blk] at hc
    injection hc with hc
    injection hc with _ hc _
    exact absurd hc (by decide)
  have hb := set_heap (j := j) (u := u) h.blk
  rw [he] at hb
  exact ⟨h.cur.put (by have := h.og; have := h.om; omega) _ _, hb, (set_other (by have := h.om; omega)).trans h.res, ⟨f, LfIn.set t.is hmf, t.low⟩, own_frame hlg (fun k hk => set_other (by have := hml k hk; omega)), grown_put h.grown (by have := h.om; omega) _ _, h.og, h.om⟩
theorem StS.rd (h : StS w g code m x z0 z1 W) : LfRd W (boxsLf x.boxes) z0 ∧ CapLe z0 ∧ LfRd W (commitsLf x.log) z1 ∧ CapLe z1 := by
  obtain ⟨f, t⟩ := h.bx
  have hl := coms_in.2 ⟨own_base h.lg, rfl⟩
  exact ⟨t.rd, CapLe.of_in t.is, LfIn.rd _ _ _ hl, CapLe.of_in hl⟩
theorem StS.slices (h : StS w g code m x z0 z1 W) : ∃ p0 c0 p1 c1, z0 = .slice p0 x.boxes.length c0 ∧ z1 = .slice p1 x.log.length c1 := by
  obtain ⟨f, t⟩ := h.bx
  obtain ⟨p0, c0, rfl⟩ := LfIn.slice t.is
  obtain ⟨p1, c1, rfl, -⟩ := own9_form h.lg
  exact ⟨_, _, _, _, rfl, rfl⟩
/-- What was made whole since takes the block's three cells. -/
theorem StS.renew (h : StS w g code m x z0 z1 W) (hO : StoOwn (w.heap.size + 1) W x' z0' z1') : StS w g code m x' z0' z1' (((W.setCell ⟨m, 0, none⟩ z0').setCell ⟨m, 1, none⟩ z1').setCell ⟨m, 2, none⟩ (.int .i64 x'.given)) := by
  obtain ⟨f0, f1, h0, h1, hn, hl⟩ := id hO
  have t0 : Bx W (w.heap.size + 1) (boxsLf x'.boxes) z0' f0 := ⟨h0, fun q hq => hl q (List.mem_append_left _ hq)⟩
  have s1 := h.put (x' := ⟨x'.boxes, x.log, x.given⟩) (z0' := z0') (z1' := z1) 0 z0' rfl ⟨f0, t0⟩ h.lg
  have hmk : ∀ k, z1'.ownBlock = some k → m ≠ k := fun k hk e => by
    obtain ⟨cur, hc⟩ := own_type hO.log (show k ∈ z1'.ownBlock.toList by rw [hk]; simp)
    rw [← e, h.blk] at hc
    injection hc with hc
    injection hc with _ hc _
    exact absurd hc (by decide)
  have l1 : (W.setCell ⟨m, 0, none⟩ z0').ownsRow (w.heap.size + 1) 26 6 z1' x'.log.length (x'.log.flatMap comc) := own_frame hO.log (fun k hk => set_other (by have := hmk k hk; omega))
  have s2 := s1.put (x' := ⟨x'.boxes, x'.log, x.given⟩) (z0' := z0') (z1' := z1') 1 z1' rfl s1.bx l1
  exact s2.put (x' := x') (z0' := z0') (z1' := z1') 2 (.int .i64 x'.given) rfl s2.bx s2.lg
end
section
variable {w W W' : World} {g m : Nat} {code : List UInt8} {x : StoD} {z0 z1 : Value}
/-- One commit more in the log. -/
theorem StS.more (h : StS w g code m x z0 z1 W) {y : ComD} {gn cap : Nat} (hg : W.grownBy W' z1.ownBlock) (_hlt : gn < W'.heap.size) (ho : W'.ownsRow (w.heap.size + 1) 26 6 (.slice (some ⟨gn, 0, none⟩) (x.log.length + 1) cap) (x.log.length + 1) (x.log.flatMap comc ++ comc y)) : StS w g code m ⟨x.boxes, x.log ++ [y], x.given⟩ z0 (.slice (some ⟨gn, 0, none⟩) (x.log.length + 1) cap) (W'.setCell ⟨m, 1, none⟩ (.slice (some ⟨gn, 0, none⟩) (x.log.length + 1) cap)) := by
  have htk : ∀ k, z1.ownBlock = some k → w.heap.size + 1 ≤ k ∧ k ≠ m := fun k hk => ⟨(h.lg.lt k hk).1, fun e => by
    obtain ⟨cur, hc⟩ := own_type h.lg (show k ∈ z1.ownBlock.toList by rw [hk]; simp)
    rw [e, h.blk] at hc
    injection hc with hc
    injection hc with _ hc _
    exact absurd hc (by decide)⟩
  obtain ⟨f, t⟩ := h.bx
  have hf : ∀ k ∈ f, some k ≠ z1.ownBlock := fun k hk e => by
    obtain ⟨cur, hc⟩ := own_type h.lg (show k ∈ z1.ownBlock.toList by rw [← e]; simp)
    obtain ⟨cur', T, hc', hT⟩ := boxs_type t.is hk
    rw [hc] at hc'
    injection hc' with hc'
    injection hc' with _ hc' _
    rw [← hc'] at hT
    rcases hT with hT | hT <;> exact absurd hT (by decide)
  have hmW := (Array.getElem?_eq_some_iff.1 h.blk).1
  have t' : Bx W' (w.heap.size + 1) (boxsLf x.boxes) z0 f := ⟨LfIn.frame _ _ _ (fun k hk => hg.block k (t.lt k hk) (hf k hk)) t.is, t.low⟩
  have hb : W'.heap[m]? = some (.cells #[z0, z1, .int .i64 x.given] 46 (0, 0)) := (hg.block m hmW (fun e => (htk m e.symm).2 rfl)).trans h.blk
  have hgn : gn ≠ m := fun e => by
    obtain ⟨cur, hc⟩ := own_type ho (show gn ∈ (Value.slice (some ⟨gn, 0, none⟩) (x.log.length + 1) cap).ownBlock.toList by simp [Value.ownBlock])
    rw [e, hb] at hc
    injection hc with hc
    injection hc with _ hc _
    exact absurd hc (by decide)
  have hmf : m ∉ f := fun hm => by
    obtain ⟨cur, T, hc, hT⟩ := boxs_type t'.is hm
    rw [hb] at hc
    injection hc with hc
    injection hc with _ hc _
    rw [← hc] at hT
    rcases hT with hT | hT <;> exact absurd hT (by decide)
  have hom := h.om
  have hog := h.og
  refine ⟨(h.cur.grown hg (fun k hk => by have := (htk k hk).1; omega)).put (by omega) _ _, set_heap hb, (set_other (by omega)).trans ((hg.block _ (Array.getElem?_eq_some_iff.1 h.res).1 (fun e => by have := (htk _ e.symm).1; omega)).trans h.res), ⟨f, LfIn.set t'.is hmf, t'.low⟩, own_frame ?_ (fun k hk => set_other (by have : gn = k := (by simpa [Value.ownBlock] using hk); omega)), grown_put (grown_young h.grown hg (fun k hk => by have := (htk k hk).1; omega)) (by omega) _ _, h.og, h.om⟩
  show W'.ownsRow _ _ 6 _ (x.log ++ [y]).length ((x.log ++ [y]).flatMap comc)
  rw [List.length_append, List.flatMap_append]
  simpa using ho
theorem flat_takeC : ∀ (l : List ComD) (k : Nat), (l.take k).flatMap comc = (l.flatMap comc).take (k * 6)
  | [], k => by simp
  | a :: l, 0 => by simp
  | a :: l, k + 1 => by
    rw [List.take_succ_cons, List.flatMap_cons, List.flatMap_cons, flat_takeC l k, show (k + 1) * 6 = (comc a).length + k * 6 by rw [comc_len]; omega, List.take_append, List.take_of_length_le (show (comc a).length ≤ (comc a).length + k * 6 by omega), Nat.add_sub_cancel_left]
theorem own_cutC {B n c k s : Nat} {e : TypeId} {p : Option Addr} {xs : List Value} (h : W.ownsRow B e s (.slice p n c) n xs) (hk : k ≤ n) : W.ownsRow B e s (.slice p k c) k (xs.take (k * s)) := by
  rcases h.2 with ⟨hv, h0⟩ | ⟨g, cap, cur, hv, hB, hg, hc, hm, hs, hx⟩
  · injection hv with hp _ hc
    subst hp hc
    obtain rfl : k = 0 := by omega
    simpa using World.ownsRow_nil W B e s
  · injection hv with hp _ hcc
    subst hp hcc
    refine ⟨by rw [List.length_take, h.1]; exact Nat.min_eq_left (Nat.mul_le_mul_right _ hk), .inr ⟨g, _, cur, rfl, hB, hg, by omega, hm, hs, ?_⟩⟩
    rw [← hx, List.take_take, Nat.min_eq_left (Nat.mul_le_mul_right _ hk)]
theorem StS.cut {p : Option Addr} {c : Nat} (h : StS w g code m x z0 (.slice p x.log.length c) W) {k : Nat} (hk : k ≤ x.log.length) : StS w g code m ⟨x.boxes, x.log.take k, x.given⟩ z0 (.slice p k c) (W.setCell ⟨m, 1, none⟩ (.slice p k c)) := by
  refine h.put (x' := ⟨x.boxes, x.log.take k, x.given⟩) 1 _ rfl h.bx ?_
  show W.ownsRow _ _ 6 _ (x.log.take k).length ((x.log.take k).flatMap comc)
  rw [List.length_take, Nat.min_eq_left hk, flat_takeC]
  exact own_cutC h.lg hk
end
/-- Beside it a commit in a younger block my. -/
structure StY (w : World) (g : Nat) (code : List UInt8) (m : Nat) (x : StoD) (z0 z1 : Value) (my : Nat) (y : ComD) (W : World) : Prop where
  st : StS w g code m x z0 z1 W
  blk : W.heap[my]? = some (.cells #[.int .i64 y.kind, .int .i64 y.validity, .int .i64 y.uid, .int .i64 y.flags, sv y.name, sv y.text] 26 (0, 0))
  tb : ∃ f, Bx W (w.heap.size + 1) (boxsLf x.boxes) z0 f ∧ ∀ q ∈ f, q < my
  lb : ∀ k, z1.ownBlock = some k → k < my
  mm : m < my
section
variable {w W W' : World} {g m my : Nat} {code : List UInt8} {x : StoD} {y y' : ComD} {z0 z1 : Value}
theorem StY.of (h : StS w g code m x z0 z1 W) : StY w g code m x z0 z1 W.heap.size y (W.alloc (.cells #[.int .i64 y.kind, .int .i64 y.validity, .int .i64 y.uid, .int .i64 y.flags, sv y.name, sv y.text] 26)) := by
  have hb := (Below.refl W.heap.size W).alloc (Nat.le_refl _) (.cells #[.int .i64 y.kind, .int .i64 y.validity, .int .i64 y.uid, .int .i64 y.flags, sv y.name, sv y.text] 26)
  obtain ⟨f, t⟩ := h.bx
  exact ⟨h.under hb, heap_alloc_new W _, ⟨f, t.below hb, t.lt⟩, fun k hk => (h.lg.lt k hk).2, (Array.getElem?_eq_some_iff.1 h.blk).1⟩
theorem StY.draw (h : StY w g code m x z0 z1 my y W) (hg : W.grownBy W' (some g)) (hc : Cur W' g code) : StY w g code m x z0 z1 my y W' := by
  have hk : ∀ k, k < W.heap.size → w.heap.size ≤ k → W'.heap[k]? = W.heap[k]? := fun k hk hw => hg.block k hk (fun e => by injection e with e; have := h.st.og; omega)
  obtain ⟨f, t, hf⟩ := h.tb
  have h1 := h.mm
  have h2 := h.st.om
  exact ⟨h.st.draw hg hc, (hk my (Array.getElem?_eq_some_iff.1 h.blk).1 (by omega)).trans h.blk, ⟨f, ⟨LfIn.frame _ _ _ (fun k hkf => hk k (t.lt k hkf) (by have := t.low k hkf; omega)) t.is, t.low⟩, hf⟩, h.lb, h.mm⟩
theorem StY.put (h : StY w g code m x z0 z1 my y W) (j : Nat) (u : Value) (he : (#[.int .i64 y.kind, .int .i64 y.validity, .int .i64 y.uid, .int .i64 y.flags, sv y.name, sv y.text] : Array Value).setIfInBounds j u = #[.int .i64 y'.kind, .int .i64 y'.validity, .int .i64 y'.uid, .int .i64 y'.flags, sv y'.name, sv y'.text]) : StY w g code m x z0 z1 my y' (W.setCell ⟨my, j, none⟩ u) := by
  obtain ⟨f, t, hf⟩ := h.tb
  have h1 := h.mm
  have h2 := h.st.om
  have h3 := h.st.og
  have ht : Bx (W.setCell ⟨my, j, none⟩ u) (w.heap.size + 1) (boxsLf x.boxes) z0 f := ⟨LfIn.set t.is (fun hm => by have := hf _ hm; omega), t.low⟩
  have hb := set_heap (j := j) (u := u) h.blk
  rw [he] at hb
  exact ⟨⟨h.st.cur.put (by omega) _ _, (set_other (by omega)).trans h.st.blk, (set_other (by omega)).trans h.st.res, ⟨f, ht⟩, own_frame h.st.lg (fun k hk => set_other (by have := h.lb k hk; omega)), grown_put h.st.grown (by omega) _ _, h.st.og, h.st.om⟩, hb, ⟨f, ht, hf⟩, h.lb, h.mm⟩
end
/-- Small as drawn. -/
def SmS (n : Nat) (x : StoD) : Prop := (x.boxes.length ≤ 5 ∧ ∀ b ∈ x.boxes, BoxQ 6 b) ∧ (x.log.length ≤ n ∧ ∀ m ∈ x.log, ComSm m) ∧ in64 x.given
theorem logs_fine {l : List ComD} (hl : l.length ≤ 400) (h : ∀ x ∈ l, ComSm x) : szLf (commitsLf l) ≤ 50000 ∧ LfBnd (commitsLf l) := by
  have key : ∀ {l : List ComD}, (∀ x ∈ l, ComSm x) → szLs (l.flatMap ComD.lf) ≤ 82 * l.length ∧ LsBnd (l.flatMap ComD.lf) := by
    intro l
    induction l with
    | nil => intro _; exact ⟨by simp [szLs], trivial⟩
    | cons x l ih =>
      intro h
      obtain ⟨h1, h2⟩ := ih (fun y hy => h y (List.mem_cons_of_mem _ hy))
      have hx := h x (List.mem_cons_self ..)
      rw [List.flatMap_cons]
      refine ⟨?_, LsBnd.append.2 ⟨hx.fine.2, h2⟩⟩
      rw [szLs_append, List.length_cons, ComD.sz]
      obtain ⟨_, _, _, _, n1, n2⟩ := hx
      omega
  obtain ⟨h1, h2⟩ := key h
  have h6 : szLf (commitsLf l) = l.length + szLs (l.flatMap ComD.lf) := rfl
  exact ⟨by omega, by omega, h2⟩
theorem SmS.fine {n : Nat} {x : StoD} (h : SmS n x) (hn : n ≤ 400) : szLs x.lf ≤ 1048576 ∧ LsBnd x.lf := by
  obtain ⟨⟨h1, h2⟩, ⟨h3, h4⟩, h5⟩ := h
  obtain ⟨a1, a2⟩ := boxes_fine h1 h2
  obtain ⟨b1, b2⟩ := logs_fine (by omega) h4
  have a3 : szLf (boxsLf x.boxes) = x.boxes.length + szLs (x.boxes.flatMap BoxD.lf) := rfl
  have a4 := (boxes_sz (l := x.boxes) (by omega) h2).1
  rw [StoD.sz]
  exact ⟨by omega, a2, b2, h5, trivial⟩
theorem SmS.stor {n : Nat} {x : StoD} {m : ComD} (h : SmS n x) (hm : ComSm m) (hg : 0 ≤ x.given ∧ x.given ≤ 999999999) : SmS (n + 1) (storD x m) ∧ 0 ≤ (storD x m).given ∧ (storD x m).given ≤ 999999999 := by
  cases hs : storB x m with
  | false => rw [stor_x hs]; exact ⟨⟨h.1, ⟨by have := h.2.1.1; omega, h.2.1.2⟩, h.2.2⟩, hg⟩
  | true =>
    have ha : appB x.boxes m = true := by
      cases hq : appB x.boxes m with
      | true => rfl
      | false => rw [stor_1 hq] at hs; cases hs
    obtain ⟨_, hv, _⟩ := commit_parts (app_parts ha).2.1
    rw [stor_y hs]
    have hgg : 0 ≤ maxI x.given m.validity ∧ maxI x.given m.validity ≤ 999999999 := by unfold maxI; split <;> omega
    refine ⟨⟨right_q (done_right ha), ⟨by have := h.2.1.1; simp only [List.length_append, List.length_cons, List.length_nil]; omega, fun y hy => ?_⟩, ⟨by show _ ≤ maxI x.given m.validity; omega, by show maxI x.given m.validity ≤ _; omega⟩⟩, hgg⟩
    rcases List.mem_append.1 hy with hy | hy
    · exact h.2.1.2 y hy
    · rw [List.mem_singleton.1 hy]; exact hm

end Go.Proofs.YtbfgdbpfecffcaaGreatDoor

namespace Go.Proofs.YtbfgdbpfecffcaaGreatDoor
open Go.RowKit

def StoPost (n : Nat) (g : Nat) (code : List UInt8) (w : World) (e : Ending) (w' : World) : Prop :=
  ∃ (x : StoD) (z0 z1 : Value), e = .returned (.agg #[z0, z1, .int .i64 x.given]) ∧ SmS n x ∧ (∃ f, Bx w' w.heap.size (boxsLf x.boxes) z0 f) ∧ w'.ownsRow w.heap.size 26 6 z1 x.log.length (x.log.flatMap comc) ∧ Cur w' g code ∧ w.grownBy w' (some g)
/-- The store at hand is handed back in the result's own block. -/
theorem StS.ret {w W : World} {g m n : Nat} {code : List UInt8} {x : StoD} {z0 z1 : Value} (h : StS w g code m x z0 z1 W) (hs : SmS n x) (a b c : Value) : StoPost n g code w (.returned (.agg #[z0, z1, .int .i64 x.given])) (((W.setCell ⟨w.heap.size, 0, none⟩ a).setCell ⟨w.heap.size, 1, none⟩ b).setCell ⟨w.heap.size, 2, none⟩ c) := by
  obtain ⟨f, t⟩ := h.bx
  have hog := h.og
  refine ⟨x, z0, z1, rfl, hs, ⟨f, ⟨LfIn.set (LfIn.set (LfIn.set t.is (fun hm => by have := t.low _ hm; omega)) (fun hm => by have := t.low _ hm; omega)) (fun hm => by have := t.low _ hm; omega), fun q hq => by have := t.low q hq; omega⟩⟩, ?_, ((h.cur.put hog _ _).put hog _ _).put hog _ _, grown_put (grown_put (grown_put h.grown (Nat.le_refl _) _ _) (Nat.le_refl _) _ _) (Nat.le_refl _) _ _⟩
  exact own9_lower (own_frame (own_frame (own_frame h.lg (fun k hk => set_other (by have := (h.lg.lt k hk).1; omega))) (fun k hk => set_other (by have := (h.lg.lt k hk).1; omega))) (fun k hk => set_other (by have := (h.lg.lt k hk).1; omega))) (by omega)

set_option maxRecDepth 20000 in
set_option maxHeartbeats 6400000 in
theorem l11Right_any (g : Nat) (code : List UInt8) (w : World) (hc : Cur w g code) :
    Calls Tryz.prog 125 #[.pointer (some ⟨g, 0, none⟩)] w fun e w' => StoPost 15 g code w e w' := by
  have hb0 : Below w.heap.size w (w.alloc (.cells #[.slice none 0 0, .slice none 0 0, .int .i64 0] 46)) := (Below.refl _ _).alloc (Nat.le_refl _) _
  have n0 := heap_alloc_new w (.cells #[.slice none 0 0, .slice none 0 0, .int .i64 0] 46)
  have hz0 : (w.alloc (.cells #[.slice none 0 0, .slice none 0 0, .int .i64 0] 46)).heap.size = w.heap.size + 1 := by simp
  have C0 := Lib.hid (specStoreNew_c (w.alloc (.cells #[.slice none 0 0, .slice none 0 0, .int .i64 0] 46)) trivial)
  have H0 := Lib.hid (And.intro hb0 (And.intro n0 (And.intro hz0 hc)))
  clear hb0 n0 hz0 hc
  go_enter Tryz.func125, Tryz.ntmps125
  go_wp2_with fail
  refine C0.out.mono ?_
  rintro e w1 ⟨z0, f0, z1, f1, rfl, hi0, hi1, hn, hlo, hb1⟩
  have hO : StoOwn (w.heap.size + 1) w1 newD z0 z1 := ⟨f0, f1, hi0, hi1, hn, fun q hq => by have := hlo q hq; have := H0.out.2.2.1; omega⟩
  clear hi0 hi1 hn hlo
  obtain ⟨p0, c0, p1, c1, rfl, rfl⟩ := hO.slices
  have hb2 := (Below.refl w1.heap.size w1).alloc (Nat.le_refl _) (.cells #[.slice p0 newD.boxes.length c0, .slice p1 newD.log.length c1, .int .i64 newD.given] 46)
  have n2 := heap_alloc_new w1 (.cells #[.slice p0 newD.boxes.length c0, .slice p1 newD.log.length c1, .int .i64 newD.given] 46)
  have HS := Lib.hid (show StS w g code w1.heap.size newD (.slice p0 newD.boxes.length c0) (.slice p1 newD.log.length c1) (w1.alloc (.cells #[.slice p0 newD.boxes.length c0, .slice p1 newD.log.length c1, .int .i64 newD.given] 46)) by
    obtain ⟨h1, h2, h3, h4⟩ := H0.out
    have hbb := h1.trans ((hb1.trans (hb2.mono hb1.size)).mono (by omega))
    obtain ⟨f0, f1, a0, a1, an, al⟩ := hO.below hb2
    exact ⟨h4.below hbb, n2, ((hb1.trans (hb2.mono hb1.size)).block _ (by omega)).trans h2, ⟨f0, ⟨a0, fun q hq => al q (List.mem_append_left _ hq)⟩⟩, (hO.below hb2).log, grown_of_below hbb, h4.lt, by have := hb1.size; omega⟩)
  go_upto_region 2 with fail
  refine wp_named1 ?_
  intro X hX
  rw [← hX] at HS
  obtain ⟨m, hm⟩ : ∃ m, w1.heap.size = m := ⟨_, rfl⟩
  rw [hm] at HS ⊢
  clear hX hm
  have CB := Lib.hid (l1Below_any g code 14 14 rfl X HS.out.cur (by omega) (by omega))
  clear hO hb1 hb2 n2 H0 C0
  go_wp2_with fail
  refine CB.out.mono ?_
  rintro e w2 ⟨n, rfl, hn, hc2, hg2⟩
  have HS2 := Lib.hid (HS.out.draw hg2 hc2)
  have HSM := Lib.hid (show SmS 1 newD ∧ 0 ≤ newD.given ∧ newD.given ≤ 999999999 from ⟨⟨⟨by decide, fun b hb => by rw [List.mem_singleton.1 hb]; exact ⟨by decide, ⟨by decide, by decide⟩, ⟨by decide, by decide⟩, by decide, fun _ h => by cases h⟩⟩, ⟨by decide, fun y hy => by rw [List.mem_singleton.1 hy]; exact ⟨⟨by decide, by decide⟩, ⟨by decide, by decide⟩, ⟨by decide, by decide⟩, ⟨by decide, by decide⟩, by decide, by decide⟩⟩, ⟨by decide, by decide⟩⟩, by decide, by decide⟩)
  generalize newD = x0 at *
  clear hc2 hg2 HS CB
  go_wp2
  go_loopw [5] (fun i wr => ∃ (k : Nat) (x : StoD) (z0 z1 : Value), k ≤ n ∧ i = .int .i64 k ∧ SmS (k + 1) x ∧ (0 ≤ x.given ∧ x.given ≤ 999999999) ∧ StS w g code m x z0 z1 wr) (fun i _ => n - (intOf i).toNat)
  case atStart => exact ⟨0, x0, _, _, by omega, rfl, HSM.out.1, HSM.out.2, HS2.out⟩
  case round =>
    obtain ⟨k, x, z0, z1, hk, rfl, hsm, hgv, hst⟩ := hrel
    have HST := Lib.hid hst
    have HM := Lib.hid hsm
    have HGV := Lib.hid hgv
    clear HS2 HSM hst hsm hgv
    obtain ⟨p0, c0, p1, c1, rfl, rfl⟩ := HST.out.slices
    by_cases hlt : k < n
    case neg =>
      obtain rfl : k = n := by omega
      obtain ⟨⟨a0, a1, a2⟩, -⟩ := HST.out.cells
      obtain ⟨⟨q0, q1, q2⟩, ⟨y0, y1, y2⟩, t0, t1, t2⟩ := blk_3c HST.out.res
      have HF := Lib.hid (fun a b c => HST.out.ret (n := 15) ⟨HM.out.1, ⟨by have := HM.out.2.1.1; omega, HM.out.2.1.2⟩, HM.out.2.2⟩ a b c)
      clear HST HM
      go_wp2_with fail
      exact bodyPost_ret (v := .agg #[.slice p0 x.boxes.length c0, .slice p1 x.log.length c1, .int .i64 x.given]) (by simp [results, Tryz.results125, go_sem, t0, t1, t2]) rfl (HF.out _ _ _)
    obtain ⟨⟨a0, a1, a2⟩, -⟩ := HST.out.cells
    have CC := Lib.hid (l10Commit_any g code x.boxes (.slice p0 x.boxes.length c0) HST.out.bx.choose wr HST.out.cur HST.out.bx.choose_spec.is (fun hm => by have := HST.out.bx.choose_spec.low _ hm; have := HST.out.og; omega) HM.out.1.1 HM.out.1.2)
    go_wp2_with fail
    refine CC.out.mono ?_
    rintro e w3 ⟨y, rfl, hy, hc3, hg3⟩
    have HY := Lib.hid hy
    have HS4 := Lib.hid (StY.of (y := y) (HST.out.draw hg3 hc3))
    clear hy hc3 hg3 CC HST a0 a1 a2
    go_upto_region 7 with fail
    refine wp_named1 ?_
    intro X hX
    rw [← hX] at HS4
    obtain ⟨my, hmy⟩ : ∃ my, w3.heap.size = my := ⟨_, rfl⟩
    rw [hmy] at HS4 ⊢
    clear hX hmy
    obtain ⟨⟨m0, m1, m2, m3, m4, m5⟩, -⟩ := com6 HS4.out.blk
    go_upto_if 21 with fail
    clear m0 m1 m2 m3 m4 m5
    go_cut [] (fun wx => ∃ y' : ComD, ComSm y' ∧ StY w g code m x (.slice p0 x.boxes.length c0) (.slice p1 x.log.length c1) my y' wx)
    case first =>
      cases t1 : (y.kind == 1) with
      | false =>
        go_wp2_with fail
        go_meet
        exact ⟨y, HY.out, HS4.out⟩
      | true =>
        have HD := Lib.hid (HS4.out.draw (grown_of_below (Below.refl _ _).drew) (HS4.out.st.cur.below (Below.refl _ _).drew))
        have hw1 : IntKind.i64.wrap (x.given + 1) = x.given + 1 := IntWalk.i64_in _ (by have := HGV.out; omega)
        obtain ⟨⟨-, -, d2⟩, -⟩ := HD.out.st.cells
        have CB2 := Lib.hid (l1Below_any g code 2 2 rfl X.drew HD.out.st.cur (by omega) (by omega))
        clear HS4
        go_wp2
        refine ord_start [(0, true), (1, true), (2, true), (3, true), (4, false), (5, true), (6, true), (7, false)] (fun W => W.cell? ⟨m, 2, none⟩ = some (.int .i64 x.given)) (by kernel_rfl) (by kernel_rfl) rfl (by kernel_rfl) ?_
        intro ops' hops
        clear hops
        simp only [List.map_cons, List.map_nil, pickOp_zero, pickOp_succ]
        iterate 4 (refine ord_flo ?_ (fun _ _ _ h => h) rfl ?_ d2 ?_; rotate_left; focus (intro W hS; obtain s2 := hS; go_simp; rfl))
        refine ord_ev rfl ?_
        go_simp
        refine CB2.out.mono ?_
        rintro e w5 ⟨n2, rfl, hn2, hc5, hg5⟩
        have HD5 := Lib.hid (HD.out.draw hg5 hc5)
        have HN2 := Lib.hid hn2
        have HV2 := Lib.hid (show in64 (x.given + 1 + (n2 : Int)) from ⟨by have := HGV.out; omega, by have := HGV.out; omega⟩)
        have hw2 : IntKind.i64.wrap (x.given + 1 + (n2 : Int)) = x.given + 1 + (n2 : Int) := IntWalk.i64_in _ (by have := HGV.out; omega)
        clear d2 hn2 hc5 hg5 HD CB2
        obtain ⟨⟨-, -, d2⟩, -⟩ := HD5.out.st.cells
        obtain ⟨⟨-, f1, -⟩, ff⟩ := com6 HD5.out.blk
        have ff1 := ff 1
        clear ff
        have hmm := HD5.out.mm
        have HP5 := Lib.hid (HD5.out.put (y' := { y with validity := x.given + 1 + n2 }) 1 (.int .i64 (x.given + 1 + n2)) rfl)
        refine ⟨d2, ?_⟩
        iterate 2 (refine ord_flo ?_ (fun _ _ _ h => h) rfl ?_ d2 ?_; rotate_left; focus (intro W hS; obtain s2 := hS; go_simp; rfl))
        refine ord_ev rfl ?_
        go_simp
        skip
        refine ord_done ?_
        go_simp
        go_wp2_with fail
        go_meet
        exact ⟨{ y with validity := x.given + 1 + n2 }, ⟨HY.out.1, HV2.out, HY.out.2.2.1, HY.out.2.2.2.1, HY.out.2.2.2.2.1, HY.out.2.2.2.2.2⟩, HP5.out⟩
    case rest =>
    obtain ⟨y', hy', hsy⟩ := hcut
    have HY2 := Lib.hid hy'
    have HS5 := Lib.hid hsy
    clear hy' hsy HY HS4
    obtain ⟨⟨m0, m1, m2, m3, m4, m5⟩, -⟩ := com6 HS5.out.blk
    cases t2 : (y'.kind == 2) with
    | true =>
      have CO := Lib.hid (l1Once_any g code 3 3 rfl wc HS5.out.st.cur (by omega) (by omega))
      go_wp2_with fail
      refine CO.out.mono ?_
      rintro e w6 ⟨o, rfl, hc6, hg6⟩
      have HS6 := Lib.hid (HS5.out.draw hg6 hc6)
      clear hc6 hg6 CO HS5 m0 m1 m2 m3 m4 m5
      cases o with
      | false =>
        go_wp2
        go_roundw
        case rel => exact ⟨k + 1, x, _, _, by omega, by go_num, ⟨HM.out.1, ⟨by have := HM.out.2.1.1; omega, HM.out.2.1.2⟩, HM.out.2.2⟩, HGV.out, HS6.out.st⟩
        case measure => simp [intOf]; omega
      | true =>
        obtain ⟨⟨m0, m1, m2, m3, m4, m5⟩, -⟩ := com6 HS6.out.blk
        obtain ⟨⟨a0, a1, a2⟩, ⟨v0, v1, v2⟩⟩ := HS6.out.st.cells
        have hfin := HM.out.fine (by omega)
        have hrd := HS6.out.st.rd
        have CC := Lib.hid (specCommitted_any x (.slice p0 x.boxes.length c0) (.slice p1 x.log.length c1) y' w6 hrd.1 hrd.2.1 hrd.2.2.1 hfin.1 hfin.2 HY2.out.fine.1 HY2.out.fine.2)
        clear hfin hrd
        go_wp2_with fail
        refine CC.out.mono ?_
        rintro e w7 ⟨z0, z1, rfl, hO, hb7⟩
        obtain ⟨p3, c3, p4, c4, rfl, rfl⟩ := hO.slices
        have HS7 := Lib.hid (HS6.out.st.under hb7)
        have HR := Lib.hid (HS7.out.renew (hO.lower (by have h1 := (Array.getElem?_eq_some_iff.1 HS6.out.st.res).1; omega)))
        have HN := Lib.hid (HM.out.stor HY2.out HGV.out)
        clear m0 m1 m2 m3 m4 m5 a0 a1 a2 v0 v1 v2 hO hb7 CC HS6
        obtain ⟨⟨a0, a1, a2⟩, ⟨v0, v1, v2⟩⟩ := HS7.out.cells
        clear HS7
        go_wp2
        go_roundw
        case rel => exact ⟨k + 1, storD x y', _, _, by omega, by go_num, HN.out.1, HN.out.2, HR.out⟩
        case measure => simp [intOf]; omega
    | false =>
      have HS6 := Lib.hid (show StY w g code m x (.slice p0 x.boxes.length c0) (.slice p1 x.log.length c1) my y' wc from HS5.out)
      clear HS5 m0 m1 m2 m3 m4 m5
      obtain ⟨⟨m0, m1, m2, m3, m4, m5⟩, -⟩ := com6 HS6.out.blk
      obtain ⟨⟨a0, a1, a2⟩, ⟨v0, v1, v2⟩⟩ := HS6.out.st.cells
      have hfin := HM.out.fine (by omega)
      have hrd := HS6.out.st.rd
      have CC := Lib.hid (specCommitted_any x (.slice p0 x.boxes.length c0) (.slice p1 x.log.length c1) y' wc hrd.1 hrd.2.1 hrd.2.2.1 hfin.1 hfin.2 HY2.out.fine.1 HY2.out.fine.2)
      clear hfin hrd
      go_wp2_with fail
      refine CC.out.mono ?_
      rintro e w7 ⟨z0, z1, rfl, hO, hb7⟩
      obtain ⟨p3, c3, p4, c4, rfl, rfl⟩ := hO.slices
      have HS7 := Lib.hid (HS6.out.st.under hb7)
      have HR := Lib.hid (HS7.out.renew (hO.lower (by have h1 := (Array.getElem?_eq_some_iff.1 HS6.out.st.res).1; omega)))
      have HN := Lib.hid (HM.out.stor HY2.out HGV.out)
      clear m0 m1 m2 m3 m4 m5 a0 a1 a2 v0 v1 v2 hO hb7 CC HS6
      obtain ⟨⟨a0, a1, a2⟩, ⟨v0, v1, v2⟩⟩ := HS7.out.cells
      clear HS7
      go_wp2
      go_roundw
      case rel => exact ⟨k + 1, storD x y', _, _, by omega, by go_num, HN.out.1, HN.out.2, HR.out⟩
      case measure => simp [intOf]; omega

end Go.Proofs.YtbfgdbpfecffcaaGreatDoor
