/-
  Tk: BoxD BoxE (what the claim needs of them).
-/
import Derived.Handy
import Derived.Test.YtbfgdbpfecffcaaGreatDoorRows
import Derived.WalkKit
import Derived.WalkSpells
import Derived.WalkLawsBesides
import Derived.Laws.IdiomStrings
import Derived.Lib.Hide
import Derived.Deep.AppendLies
import Derived.OrdersHeld
import Derived.Lib.ItoaNum
import Derived.Lib.ItoaMem
import Derived.Lib.AppendStr
import Derived.Lib.ItoaLen
import Derived.Lib.Strings
import Derived.Lib.Bytealg
import Derived.Lib.OthersKept
import Derived.Laws.RangeAny
import Derived.Laws.BitsAllLaws
import Derived.Laws.BitsLemmas
import Derived.IntWalk
import Derived.Lib.Join
import Derived.Deep.Strs
import Derived.Test.YtbfgdbpfecffcaaGreatDoorProg
import Derived.Test.YtbfgdbpfecffcaaGreatDoorSb
import Derived.Test.YtbfgdbpfecffcaaGreatDoorSc
import Derived.Test.YtbfgdbpfecffcaaGreatDoorSd
import Derived.Test.YtbfgdbpfecffcaaGreatDoorSe
import Derived.Test.YtbfgdbpfecffcaaGreatDoorSf
import Derived.Test.YtbfgdbpfecffcaaGreatDoorSl
import Derived.Test.YtbfgdbpfecffcaaGreatDoorSm

namespace Go.Proofs.YtbfgdbpfecffcaaGreatDoor
open Go.RowKit

set_option maxRecDepth 20000 in
theorem l7Body_any (g : Nat) (code : List UInt8) (w : World) (hc : Cur w g code) :
    Calls Tryz.prog 121 #[.pointer (some ⟨g, 0, none⟩)] w fun e w' => DrewPost 40 g code w e w' := by
  have hlt := hc.lt
  have HC := Lib.hid hc
  clear hc
  go_enter Tryz.func121, Tryz.ntmps121
  go_wp2_with fail
  refine (l1Pick_any g code _ [[], [104, 105], [97, 32, 98], [120, 13, 10, 121], [0, 255], [40, 34, 113, 34, 41], [49, 50, 51, 52, 53, 54, 55, 56, 57, 48, 49, 50, 51, 52, 53, 54, 55, 56, 57, 48, 49, 50, 51, 52, 53, 54, 55, 56, 57, 48, 49, 50, 51, 52, 53, 54, 55, 56, 57, 48]] _ (HC.out.below ((Below.refl _ _).alloc (Nat.le_refl _) _)) (Rd1_lit (b := w.heap.size) _ (heap_alloc_new w _) rfl rfl) (Apart_new hlt) (by simp) (by simp)).mono ?_
  rintro e w1 ⟨t, rfl, ht, hc1, hg1⟩
  have hl : ∀ x ∈ [[], [104, 105], [97, 32, 98], [120, 13, 10, 121], [0, 255], [40, 34, 113, 34, 41], ([49, 50, 51, 52, 53, 54, 55, 56, 57, 48, 49, 50, 51, 52, 53, 54, 55, 56, 57, 48, 49, 50, 51, 52, 53, 54, 55, 56, 57, 48, 49, 50, 51, 52, 53, 54, 55, 56, 57, 48] : List UInt8)], x.length ≤ 40 := by decide
  have htl := hl t ht
  have hg := grown_grown (World.grownBy_alloc w _ (some g)) hg1
  clear ht hl hg1
  go_wp2
  go_ret
  exact ⟨t, rfl, htl, hc1, hg⟩

/-- A box was drawn: its messages are the call's own. -/
def BxPost (g : Nat) (code : List UInt8) (nm : List UInt8) (v : Int) (w : World) (e : Ending) (w' : World) : Prop :=
  ∃ (nx : Int) (vm : Value) (ms : List MsgD), e = .returned (.agg #[sv nm, .int .i64 v, .int .i64 nx, vm]) ∧ (1 ≤ nx ∧ nx ≤ 30) ∧ ms.length ≤ 5 ∧ (∀ m ∈ ms, MsgSm m) ∧
    w'.ownsRow w.heap.size 87 3 vm ms.length (ms.flatMap msgc) ∧ Cur w' g code ∧ w.grownBy w' (some g)

/-- A box that is being drawn: its variable in block B, the result's place at w.heap.size. -/
structure BxS (w : World) (g : Nat) (code : List UInt8) (B : Nat) (nm : List UInt8) (v nx : Int) (vm : Value) (ms : List MsgD) (W : World) : Prop where
  cur : Cur W g code
  blkb : W.heap[B]? = some (.cells #[sv nm, .int .i64 v, .int .i64 nx, vm] 38 (0, 0))
  blkr : W.heap[w.heap.size]? = some (.cells #[.string ⟨#[]⟩, .int .i64 0, .int .i64 0, .slice none 0 0] 38 (0, 0))
  row : W.ownsRow (w.heap.size + 2) 87 3 vm ms.length (ms.flatMap msgc)
  grown : w.grownBy W (some g)
  og : g < w.heap.size
  ob : B = w.heap.size + 1
section
variable {w W W' : World} {g B : Nat} {code : List UInt8} {nm : List UInt8} {v nx : Int} {vm : Value} {ms : List MsgD}
theorem BxS.draw (h : BxS w g code B nm v nx vm ms W) (hg : W.grownBy W' (some g)) (hc : Cur W' g code) : BxS w g code B nm v nx vm ms W' where
  cur := hc
  blkb := (hg.block B (Array.getElem?_eq_some_iff.1 h.blkb).1 (by intro e; injection e with e; have := h.og; have := h.ob; omega)).trans h.blkb
  blkr := (hg.block w.heap.size (Array.getElem?_eq_some_iff.1 h.blkr).1 (by intro e; injection e with e; have := h.og; omega)).trans h.blkr
  row := own_draw h.row (by have := h.og; omega) hg
  grown := grown_grown h.grown hg
  og := h.og
  ob := h.ob
theorem BxS.below (h : BxS w g code B nm v nx vm ms W) (hb : Below W.heap.size W W') : BxS w g code B nm v nx vm ms W' := h.draw (grown_of_below hb) (h.cur.below hb)
theorem BxS.drew (h : BxS w g code B nm v nx vm ms W) : BxS w g code B nm v nx vm ms W.drew := h.below (Below.refl _ _).drew
theorem BxS.alloc (h : BxS w g code B nm v nx vm ms W) (o : Obj) : BxS w g code B nm v nx vm ms (W.alloc o) := h.below ((Below.refl _ _).alloc (Nat.le_refl _) _)
theorem BxS.cells (h : BxS w g code B nm v nx vm ms W) : W.cell? ⟨B, 0, none⟩ = some (sv nm) ∧ W.cell? ⟨B, 1, none⟩ = some (.int .i64 v) ∧ W.cell? ⟨B, 2, none⟩ = some (.int .i64 nx) ∧ W.cell? ⟨B, 3, none⟩ = some vm ∧ (∀ j, W.frozen? ⟨B, j, none⟩ = false) :=
  ⟨(Lib.cell_of_heap h.blkb 0).trans rfl, (Lib.cell_of_heap h.blkb 1).trans rfl, (Lib.cell_of_heap h.blkb 2).trans rfl, (Lib.cell_of_heap h.blkb 3).trans rfl, fun j => Lib.frozen_of_heap h.blkb j⟩
theorem BxS.next (h : BxS w g code B nm v nx vm ms W) (n' : Int) : BxS w g code B nm v n' vm ms (W.setCell ⟨B, 2, none⟩ (.int .i64 n')) where
  cur := h.cur.put (by have := h.og; have := h.ob; omega) 2 _
  blkb := by rw [set_heap h.blkb]; rfl
  blkr := (set_other (by have := h.ob; omega)).trans h.blkr
  row := own_put2 h.row (fun k hk => by have := (h.row.lt k hk).1; have := h.ob; omega)
  grown := grown_put h.grown (by have := h.ob; omega) 2 _
  og := h.og
  ob := h.ob
/-- A message more: behind the append, ahead of the store. -/
theorem BxS.add (h : BxS w g code B nm v nx vm ms W) {m : MsgD} {v' : Value} (ho : W'.ownsRow (w.heap.size + 2) 87 3 v' (ms.length + 1) (ms.flatMap msgc ++ msgc m)) (hg : W.grownBy W' vm.ownBlock) :
    BxS w g code B nm v nx v' (ms ++ [m]) (W'.setCell ⟨B, 3, none⟩ v') ∧ W'.heap[B]? = some (.cells #[sv nm, .int .i64 v, .int .i64 nx, vm] 38 (0, 0)) := by
  have og := h.og
  have ob := h.ob
  have hlo : ∀ k, vm.ownBlock = some k → w.heap.size + 2 ≤ k := fun k hk => (h.row.lt k hk).1
  have hb : W'.heap[B]? = some (.cells #[sv nm, .int .i64 v, .int .i64 nx, vm] 38 (0, 0)) := (hg.block B (Array.getElem?_eq_some_iff.1 h.blkb).1 (fun e => by have := hlo _ e.symm; omega)).trans h.blkb
  refine ⟨⟨?_, ?_, ?_, ?_, ?_, og, ob⟩, hb⟩
  · exact (h.cur.grown hg (fun k hk => by have := hlo k hk; omega)).put (by omega) 3 _
  · rw [set_heap hb]; rfl
  · exact (set_other (by omega)).trans ((hg.block w.heap.size (Array.getElem?_eq_some_iff.1 h.blkr).1 (fun e => by have := hlo _ e.symm; omega)).trans h.blkr)
  · rw [List.length_append, List.length_singleton, List.flatMap_append, List.flatMap_cons, List.flatMap_nil, List.append_nil]
    exact own_put2 ho (fun k hk => by have := (ho.lt k hk).1; omega)
  · exact grown_put (grown_young h.grown hg (fun k hk => by have := hlo k hk; omega)) (by omega) 3 _
theorem BxS.done (h : BxS w g code B nm v nx vm ms W) (hn : 1 ≤ nx ∧ nx ≤ 30) (hl : ms.length ≤ 5) (hs : ∀ m ∈ ms, MsgSm m) (a b c d : Value) :
    BxPost g code nm v w (.returned (.agg #[sv nm, .int .i64 v, .int .i64 nx, vm])) ((((W.setCell ⟨w.heap.size, 0, none⟩ a).setCell ⟨w.heap.size, 1, none⟩ b).setCell ⟨w.heap.size, 2, none⟩ c).setCell ⟨w.heap.size, 3, none⟩ d) := by
  have hne : ∀ k, vm.ownBlock = some k → k ≠ w.heap.size := fun k hk => by have := (h.row.lt k hk).1; omega
  have ho' : W.ownsRow w.heap.size 87 3 vm ms.length (ms.flatMap msgc) := ⟨h.row.1, h.row.2.imp id fun ⟨g, cap, cur, h1, h2, h3⟩ => ⟨g, cap, cur, h1, by omega, h3⟩⟩
  exact ⟨nx, vm, ms, rfl, hn, hl, hs, own_put2 (own_put2 (own_put2 (own_put2 ho' hne) hne) hne) hne, (((h.cur.put h.og 0 a).put h.og 1 b).put h.og 2 c).put h.og 3 d, grown_put (grown_put (grown_put (grown_put h.grown (Nat.le_refl _) 0 a) (Nat.le_refl _) 1 b) (Nat.le_refl _) 2 c) (Nat.le_refl _) 3 d⟩
end
theorem blk_4s {w : World} {b : Nat} {x0 x1 x2 x3 : Value} {e : TypeId} (h : w.heap[b]? = some (.cells #[x0, x1, x2, x3] e (0, 0))) :
    (w.cell? ⟨b, 0, none⟩ = some x0 ∧ w.cell? ⟨b, 1, none⟩ = some x1 ∧ w.cell? ⟨b, 2, none⟩ = some x2 ∧ w.cell? ⟨b, 3, none⟩ = some x3) ∧ (w.frozen? ⟨b, 0, none⟩ = false ∧ w.frozen? ⟨b, 1, none⟩ = false ∧ w.frozen? ⟨b, 2, none⟩ = false ∧ w.frozen? ⟨b, 3, none⟩ = false) ∧
    (∀ v, (w.setCell ⟨b, 0, none⟩ v).cell? ⟨b, 0, none⟩ = some v) ∧ (∀ v v', ((w.setCell ⟨b, 0, none⟩ v).setCell ⟨b, 1, none⟩ v').cell? ⟨b, 1, none⟩ = some v') ∧ (∀ v v' v'', (((w.setCell ⟨b, 0, none⟩ v).setCell ⟨b, 1, none⟩ v').setCell ⟨b, 2, none⟩ v'').cell? ⟨b, 2, none⟩ = some v'') ∧
    (∀ v v' v'' u, ((((w.setCell ⟨b, 0, none⟩ v).setCell ⟨b, 1, none⟩ v').setCell ⟨b, 2, none⟩ v'').setCell ⟨b, 3, none⟩ u).cell? ⟨b, 3, none⟩ = some u) := by
  refine ⟨⟨(Lib.cell_of_heap h 0).trans rfl, (Lib.cell_of_heap h 1).trans rfl, (Lib.cell_of_heap h 2).trans rfl, (Lib.cell_of_heap h 3).trans rfl⟩, ⟨Lib.frozen_of_heap h 0, Lib.frozen_of_heap h 1, Lib.frozen_of_heap h 2, Lib.frozen_of_heap h 3⟩, fun v => ?_, fun v v' => ?_, fun v v' v'' => ?_, fun v v' v'' u => ?_⟩
  · exact (Lib.cell_of_heap (set_heap h) 0).trans rfl
  · exact (Lib.cell_of_heap (set_heap (set_heap h)) 1).trans rfl
  · exact (Lib.cell_of_heap (set_heap (set_heap (set_heap h))) 2).trans rfl
  · exact (Lib.cell_of_heap (set_heap (set_heap (set_heap (set_heap h)))) 3).trans rfl

set_option maxRecDepth 20000 in
set_option maxHeartbeats 3200000 in
theorem l9Box_any (g : Nat) (code : List UInt8) (nm : List UInt8) (v : Int) (w : World) (hc : Cur w g code) :
    Calls Tryz.prog 118 #[.pointer (some ⟨g, 0, none⟩), sv nm, .int .i64 v] w fun e w' => BxPost g code nm v w e w' := by
  have hlt := hc.lt
  have hst : BxS w g code (w.heap.size + 1) nm v 1 (.slice none 0 0) [] ((w.alloc (.cells #[.string ⟨#[]⟩, .int .i64 0, .int .i64 0, .slice none 0 0] 38)).alloc (.cells #[sv nm, .int .i64 v, .int .i64 1, .slice none 0 0] 38)) :=
    ⟨hc.below (((Below.refl _ _).alloc (Nat.le_refl _) _).alloc (by simp) _), by
      have := heap_alloc_new (w.alloc (.cells #[.string ⟨#[]⟩, .int .i64 0, .int .i64 0, .slice none 0 0] 38)) (.cells #[sv nm, .int .i64 v, .int .i64 1, .slice none 0 0] 38)
      rwa [World.size_alloc] at this,
     (Below.heap_alloc _ _ _ (by simp)).trans (heap_alloc_new w _), World.ownsRow_nil _ _ _ _, grown_grown (World.grownBy_alloc w _ (some g)) (World.grownBy_alloc _ _ (some g)), hlt, rfl⟩
  have HST := Lib.hid hst
  clear hc hst
  go_enter Tryz.func118, Tryz.ntmps118
  go_wp2_with fail
  generalize ((w.alloc (.cells #[.string ⟨#[]⟩, .int .i64 0, .int .i64 0, .slice none 0 0] 38)).alloc (.cells #[sv nm, .int .i64 v, .int .i64 1, .slice none 0 0] 38)) = X at *
  obtain ⟨B, hB⟩ : ∃ B, w.heap.size + 1 = B := ⟨_, rfl⟩
  rw [hB] at HST ⊢
  clear hB
  refine (l1Below_any g code _ 6 (by omega) _ HST.out.cur (by omega) (by omega)).mono ?_
  rintro e w1 ⟨n, rfl, hn, hc1, hg1⟩
  have hs1 := HST.out.draw hg1 hc1
  clear HST hc1 hg1
  go_wp2
  go_loopw [9] (fun i wr => ∃ (k : Nat) (nx : Int) (vm : Value) (ms : List MsgD), k ≤ n ∧ i = .int .i64 k ∧ ms.length = k ∧ (1 ≤ nx ∧ nx ≤ 1 + 2 * (k : Int)) ∧ (∀ m ∈ ms, MsgSm m) ∧ BxS w g code B nm v nx vm ms wr) (fun i _ => n - (intOf i).toNat)
  case atStart => exact ⟨0, 1, _, [], by omega, rfl, rfl, by omega, by simp, hs1⟩
  case round =>
    obtain ⟨k, nx, vm, ms, hk, rfl, hml, hnx, hsm, hs⟩ := hrel
    have HML := Lib.hid hml
    have HSM := Lib.hid hsm
    clear hs1 hml hsm
    by_cases hlt2 : k < n
    case neg =>
      have hlt3 : ¬ (k : Int) < (n : Int) := by omega
      obtain ⟨⟨r0, r1, r2, r3⟩, ⟨f0, f1, f2, f3⟩, s0, s1, s2, s3⟩ := blk_4s hs.blkr
      obtain ⟨c0, c1, c2, c3, cf⟩ := hs.cells
      have hd := hs.done (by omega) (by have := HML.out; omega) HSM.out
      have HD := Lib.hid hd
      obtain ⟨pm, cm, rfl⟩ : ∃ pm cm, vm = .slice pm ms.length cm := by
        rcases hs.row.2 with ⟨h1, h2⟩ | ⟨b, cap, cur, h1, _⟩
        · rw [h2]; exact ⟨none, 0, h1⟩
        · exact ⟨_, _, h1⟩
      clear hs hd
      go_wp2
      exact bodyPost_ret (v := .agg #[sv nm, .int .i64 v, .int .i64 nx, .slice pm ms.length cm]) (by simp [results, Tryz.results118, go_sem, s0, s1, s2, s3]) rfl (HD.out _ _ _ _)
    have hlt3 : (k : Int) < (n : Int) := by omega
    have hsd := hs.drew
    clear hs
    obtain ⟨c0, c1, c2, c3, cf⟩ := hsd.cells
    have f2 := cf 2
    clear c0 c1 c3 cf
    go_wp2
    refine ordz_start [(0, true), (1, true), (2, true), (3, false), (4, true), (5, true), (6, false)] 6 (fun W => W.cell? ⟨B, 2, none⟩ = some (.int .i64 nx)) (by kernel_rfl) (by kernel_rfl) rfl (by kernel_rfl) ?_
    intro ops' hops
    clear hops
    simp only [List.map_cons, List.map_nil, pickOp_zero, pickOp_succ]
    iterate 3 (refine ordz_flo ?_ (fun _ _ _ h => h) rfl ?_ c2 ?_; rotate_left; focus (intro W hS; obtain s1 := hS; go_simp; rfl))
    refine ordz_ev rfl ?_
    go_simp
    refine (l1Below_any g code _ 2 (by omega) _ hsd.cur (by omega) (by omega)).mono ?_
    rintro e w2 ⟨x, rfl, hx, hc2, hg2⟩
    have hs2 := hsd.draw hg2 hc2
    clear hsd hc2 hg2 c2 f2
    obtain ⟨c0, c1, c2, c3, cf⟩ := hs2.cells
    have f2 := cf 2
    clear c0 c1 c3 cf
    refine ⟨c2, ?_⟩
    have hwx : IntKind.i64.wrap (nx + (x : Int)) = nx + (x : Int) := IntWalk.i64_in _ (by omega)
    iterate 2 (refine ordz_flo ?_ (fun _ _ _ h => h) rfl ?_ c2 ?_; rotate_left; focus (intro W hS; obtain s1 := hS; go_simp; rfl))
    refine ordz_ev rfl ?_
    go_simp
    refine ordz_done ?_
    go_simp
    clear c2 f2 hwx
    have hs3 := (hs2.next (nx + (x : Int))).drew
    clear hs2
    obtain ⟨y, hy⟩ : ∃ y, nx + (x : Int) = y := ⟨_, rfl⟩
    have hyb : 1 ≤ y ∧ y ≤ 2 + 2 * (k : Int) := by omega
    rw [hy] at hs3 ⊢
    clear hy hx hnx
    generalize (w2.setCell ⟨B, 2, none⟩ (.int .i64 y)) = W3 at *
    obtain ⟨c0, c1, c2, c3, cf⟩ := hs3.cells
    clear c0 c1 cf
    obtain ⟨pm, cm, rfl⟩ : ∃ pm cm, vm = .slice pm ms.length cm := by
      rcases hs3.row.2 with ⟨h1, h2⟩ | ⟨b, cap, cur, h1, _⟩
      · rw [h2]; exact ⟨none, 0, h1⟩
      · exact ⟨_, _, h1⟩
    go_wp2
    refine ordz_start [(0, true), (1, true), (2, true), (3, true), (4, true), (6, true), (5, false), (7, false), (8, true), (9, false), (10, false), (11, true), (12, false)] 12 (fun W => W.cell? ⟨B, 2, none⟩ = some (.int .i64 y) ∧ W.cell? ⟨B, 3, none⟩ = some (.slice pm ms.length cm)) (by kernel_rfl) (by kernel_rfl) rfl (by kernel_rfl) ?_
    intro ops' hops
    clear hops
    simp only [List.map_cons, List.map_nil, pickOp_zero, pickOp_succ]
    iterate 6 (refine ordz_flo ?_ (fun _ _ _ h => h) rfl ?_ ⟨c2, c3⟩ ?_; rotate_left; focus (intro W hS; obtain ⟨s1, s2⟩ := hS; go_simp; rfl))
    refine ordz_ev rfl ?_
    go_simp
    refine (l1Below_any g code _ 32 (by omega) _ hs3.cur (by omega) (by omega)).mono ?_
    rintro e w4 ⟨fl, rfl, hfl, hc4, hg4⟩
    have hs4 := hs3.draw hg4 hc4
    clear hs3 hc4 hg4 c2 c3
    obtain ⟨c0, c1, c2, c3, cf⟩ := hs4.cells
    refine ⟨⟨c2, c3⟩, ?_⟩
    clear c0 c1 c2 c3 cf
    refine ordz_ev rfl ?_
    go_simp
    refine (l7Body_any g code _ hs4.cur).mono ?_
    rintro e w5 ⟨t, rfl, htl, hc5, hg5⟩
    have hs5 := hs4.draw hg5 hc5
    clear hs4 hc5 hg5
    obtain ⟨c0, c1, c2, c3, cf⟩ := hs5.cells
    refine ⟨⟨c2, c3⟩, ?_⟩
    clear c0 c1 cf
    iterate 1 (refine ordz_flo ?_ (fun _ _ _ h => h) rfl ?_ ⟨c2, c3⟩ ?_; rotate_left; focus (intro W hS; obtain ⟨s1, s2⟩ := hS; go_simp; rfl))
    clear c2 c3
    obtain ⟨c0, c1, c2, c3, cf⟩ := (hs5.alloc (.cells #[.int .i64 y, .int .i64 (fl : Int), sv t] 87)).cells
    refine ordz_ev rfl ?_
    go_simp
    clear c0 c1 c2 c3 cf
    have hz5 := hs5.grown.size
    have hz6 : w.heap.size + 2 ≤ w5.heap.size := by have := (Array.getElem?_eq_some_iff.1 hs5.blkb).1; have := hs5.ob; omega
    refine ordz_ev rfl ?_
    refine wp_app1 Tryz.el_msg (.tmp 27) (.tmp 35) rfl w5 w5 (.slice pm ms.length cm) ms.length (ms.flatMap msgc) rfl hs5.row (Below.refl _ _) hz6 #[.int .i64 y, .int .i64 (fl : Int), sv t] (.inr rfl) 1 1 rfl rfl (by simp [Value.oneCell']) (by omega) (by have := HML.out; omega) (by have := HML.out; omega) ?_
    intro gn cap w6 ho6 hb6 hg6 hor6 hlt6
    obtain ⟨hs6, hblk⟩ := hs5.add (m := ⟨y, (fl : Int), t⟩) ho6 hg6
    clear hs5 hb6 hg6 hor6 ho6 hlt6 hz5 hz6
    have c2 : w6.cell? ⟨B, 2, none⟩ = some (.int .i64 y) := (Lib.cell_of_heap hblk 2).trans rfl
    have c3 : w6.cell? ⟨B, 3, none⟩ = some (.slice pm ms.length cm) := (Lib.cell_of_heap hblk 3).trans rfl
    have f3 : w6.frozen? ⟨B, 3, none⟩ = false := Lib.frozen_of_heap hblk 3
    refine ⟨fun _ => ⟨c2, c3⟩, ?_⟩
    iterate 1 (refine ordz_flo ?_ (fun _ _ _ h => h) rfl ?_ ⟨c2, c3⟩ ?_; rotate_left; focus (intro W hS; obtain ⟨s1, s2⟩ := hS; go_simp; rfl))
    refine ordz_ev rfl ?_
    go_simp
    refine ordz_done ?_
    go_simp
    clear c2 c3 f3 hblk
    generalize (w6.setCell ⟨B, 3, none⟩ (.slice (some ⟨gn, 0, none⟩) (ms.length + 1) cap)) = W7 at *
    obtain ⟨c0, c1, c2, c3, cf⟩ := hs6.cells
    have f2 := cf 2
    have hwy : IntKind.i64.wrap (y + 1) = y + 1 := IntWalk.i64_in _ (by omega)
    have hs7 := hs6.next (y + 1)
    clear c0 c1 c3 cf hs6
    go_wp2
    go_roundw
    case rel => exact ⟨k + 1, y + 1, _, _, by omega, by go_num, by simp [HML.out], by omega, by
      intro m hm
      rcases List.mem_append.1 hm with hm | hm
      · exact HSM.out m hm
      · rw [List.mem_singleton.1 hm]
        exact ⟨⟨by simp only; omega, by simp only; omega⟩, ⟨by simp only; omega, by simp only; omega⟩, htl⟩, hs7⟩
    case measure => simp [intOf]; omega

end Go.Proofs.YtbfgdbpfecffcaaGreatDoor

namespace Go.Proofs.YtbfgdbpfecffcaaGreatDoor
open Go.RowKit

/-- Boxes that are being drawn: their rows are the call's own. -/
structure BsS (w : World) (g : Nat) (code : List UInt8) (l : List BoxD) (v : Value) (fp : List Nat) (W : World) : Prop where
  cur : Cur W g code
  tree : Tree W w.heap.size (boxsLf l) v fp
  grown : w.grownBy W (some g)
  og : g < w.heap.size
section
variable {w W W' : World} {g : Nat} {code : List UInt8} {l : List BoxD} {v : Value} {fp : List Nat}
theorem BsS.draw (h : BsS w g code l v fp W) (hg : W.grownBy W' (some g)) (hc : Cur W' g code) : BsS w g code l v fp W' where
  cur := hc
  tree := h.tree.apart (fq := [g]) (by have := GrownIn.of_row hg; simpa using this) (fun k hk hm => by have h1 := h.tree.low k hk; have h2 := h.og; have h3 : k = g := (by simpa using hm); omega)
  grown := grown_grown h.grown hg
  og := h.og
theorem BsS.below (h : BsS w g code l v fp W) (hb : Below W.heap.size W W') : BsS w g code l v fp W' := h.draw (grown_of_below hb) (h.cur.below hb)
theorem BsS.drew (h : BsS w g code l v fp W) : BsS w g code l v fp W.drew := h.below (Below.refl _ _).drew
theorem BsS.alloc (h : BsS w g code l v fp W) (o : Obj) : BsS w g code l v fp (W.alloc o) := h.below ((Below.refl _ _).alloc (Nat.le_refl _) _)
theorem BsS.row (h : BsS w g code l v fp W) : ∃ xs fq, W.ownsRow w.heap.size 38 4 v l.length xs ∧ LsIn W (l.flatMap BoxD.lf) xs fq ∧ fp = v.ownBlock.toList ++ fq := by
  obtain ⟨_, xs, fq, ho, hx, hf⟩ := h.tree.is
  exact ⟨xs, fq, own_rebase ho (fun k hk => h.tree.low k (by rw [hf, hk]; simp)), hx, hf⟩
theorem BsS.slice (h : BsS w g code l v fp W) : ∃ p c, v = .slice p l.length c := LfIn.slice h.tree.is
/-- A box more. -/
theorem BsS.snoc (h : BsS w g code l v fp W) {x : BoxD} {us xs : List Value} {fx fq : List Nat} (hu : LsIn W x.lf us fx) (hfx : fx.Nodup) (hlo : ∀ q ∈ fx, w.heap.size ≤ q) (hd : ∀ q ∈ fx, q ∉ fp)
    (hx : LsIn W (l.flatMap BoxD.lf) xs fq) (hf : fp = v.ownBlock.toList ++ fq) {gn cap : Nat} (ho : W'.ownsRow w.heap.size 38 4 (.slice (some ⟨gn, 0, none⟩) (l.length + 1) cap) (l.length + 1) (xs ++ us))
    (hg : W.grownBy W' v.ownBlock) (hor : v.ownBlock = some gn ∨ W.heap.size ≤ gn) :
    ∃ fp', BsS w g code (l ++ [x]) (.slice (some ⟨gn, 0, none⟩) (l.length + 1) cap) fp' W' ∧ ∀ q ∈ fp', q ∈ fp ∨ q ∈ fx ∨ q = gn := by
  obtain ⟨fq', ht, hq⟩ := tree_snoc (lo := w.heap.size) (enc := BoxD.lf) BoxD.len (e := 38) h.tree.nodup h.tree.low hx hf hu hd hfx hlo rfl ho (GrownIn.of_row hg) hor
  have hlv : ∀ k, v.ownBlock = some k → w.heap.size ≤ k := fun k hk => h.tree.low k (by rw [hf, hk]; simp)
  exact ⟨fq', ⟨h.cur.grown hg (fun k hk => by have := hlv k hk; have := h.og; omega), ht, grown_young h.grown hg hlv, h.og⟩, hq⟩
end

def BoxesPost (m : Nat) (g : Nat) (code : List UInt8) (w : World) (e : Ending) (w' : World) : Prop :=
  ∃ (l : List BoxD) (v : Value) (fp : List Nat), e = .returned v ∧ l.length ≤ m ∧ (∀ x ∈ l, BoxQ 5 x) ∧ BsS w g code l v fp w'

set_option maxRecDepth 20000 in
set_option maxHeartbeats 3200000 in
theorem l9Right_any (g : Nat) (code : List UInt8) (w : World) (hc : Cur w g code) :
    Calls Tryz.prog 76 #[.pointer (some ⟨g, 0, none⟩)] w fun e w' => BoxesPost 4 g code w e w' := by
  have hlt := hc.lt
  have hst : BsS w g code [] (.slice (some ⟨w.heap.size, 0, none⟩) 0 0) [w.heap.size] ((w.alloc (.cells #[] 38)).alloc (.cells #[.string ⟨#[97]⟩, .string ⟨#[97, 47, 98]⟩, .string ⟨#[97, 98]⟩, .string ⟨#[105, 110, 98, 111, 120]⟩] 9)) :=
    ⟨hc.below (((Below.refl _ _).alloc (Nat.le_refl _) _).alloc (by simp) _),
     ⟨⟨rfl, [], [], own_base ((World.ownsRow_made w #[] 0 (Nat.le_refl _) (by unfold maxLen; omega) (by simp)).alloc _), ⟨rfl, rfl⟩, rfl⟩, by simp, by simp⟩,
     grown_grown (World.grownBy_alloc w _ (some g)) (World.grownBy_alloc _ _ (some g)), hlt⟩
  have hN : ((w.alloc (.cells #[] 38)).alloc (.cells #[.string ⟨#[97]⟩, .string ⟨#[97, 47, 98]⟩, .string ⟨#[97, 98]⟩, .string ⟨#[105, 110, 98, 111, 120]⟩] 9)).heap[w.heap.size + 1]? = some (.cells #[.string ⟨#[97]⟩, .string ⟨#[97, 47, 98]⟩, .string ⟨#[97, 98]⟩, .string ⟨#[105, 110, 98, 111, 120]⟩] 9 (0, 0)) := by
    have := heap_alloc_new (w.alloc (.cells #[] 38)) (.cells #[.string ⟨#[97]⟩, .string ⟨#[97, 47, 98]⟩, .string ⟨#[97, 98]⟩, .string ⟨#[105, 110, 98, 111, 120]⟩] 9)
    rwa [World.size_alloc] at this
  have HST := Lib.hid hst
  have HN := Lib.hid hN
  have HL := Lib.hid hlt
  clear hc hst hN hlt
  go_enter Tryz.func76, Tryz.ntmps76
  go_wp2_with fail
  go_loopw [3, 5, 6] (fun v n i wr => ∃ (k j : Nat) (l : List BoxD) (fp : List Nat), k ≤ 4 ∧ j ≤ k ∧ i = .int .i64 k ∧ n = .int .i64 j ∧ l.length ≤ k ∧ (∀ x ∈ l, BoxQ 5 x) ∧ BsS w g code l v fp wr ∧ wr.heap[w.heap.size + 1]? = some (.cells #[.string ⟨#[97]⟩, .string ⟨#[97, 47, 98]⟩, .string ⟨#[97, 98]⟩, .string ⟨#[105, 110, 98, 111, 120]⟩] 9 (0, 0)) ∧ w.heap.size + 1 ∉ fp) (fun _ _ i _ => 4 - (intOf i).toNat)
  case atStart => exact ⟨0, 0, [], _, by omega, by omega, rfl, rfl, by simp, by simp, HST.out, HN.out, by simp⟩
  case round =>
    obtain ⟨k, j, l, fp, hk, hj, rfl, rfl, hll, hsm, hs, hN, hnf⟩ := hrel
    obtain ⟨p, c, rfl⟩ := hs.slice
    have HLL := Lib.hid hll
    have HSM := Lib.hid hsm
    have HNF := Lib.hid hnf
    clear HST HN hll hsm hnf
    by_cases hlt2 : k < 4
    case neg =>
      obtain rfl : k = 4 := by omega
      go_wp2
      go_ret
      exact ⟨l, _, fp, rfl, HLL.out, HSM.out, hs⟩
    go_wp2_with fail
    refine (l1Once_any g code _ 3 (by omega) _ hs.cur (by omega) (by omega)).mono ?_
    rintro e w1 ⟨b, rfl, hc1, hg1⟩
    have hs1 := hs.draw hg1 hc1
    have hN1 := (hg1.block _ (Array.getElem?_eq_some_iff.1 hN).1 (by intro e; injection e with e; have := HL.out; omega)).trans hN
    clear hs hc1 hg1 hN
    cases b with
    | true =>
      go_wp2
      go_roundw
      case rel => exact ⟨k + 1, j, l, fp, by omega, by omega, by go_num, rfl, by have := HLL.out; omega, HSM.out, hs1, hN1, HNF.out⟩
      case measure => simp [intOf]; omega
    | false =>
      have HN1 := Lib.hid hN1
      obtain ⟨nm, hnm, hnl⟩ : ∃ nm : List UInt8, w1.cell? ⟨w.heap.size + 1, k, none⟩ = some (sv nm) ∧ nm.length ≤ 41 := by
        rcases (show k = 0 ∨ k = 1 ∨ k = 2 ∨ k = 3 by omega) with rfl | rfl | rfl | rfl
        · exact ⟨[97], (Lib.cell_of_heap hN1 0).trans rfl, by decide⟩
        · exact ⟨[97, 47, 98], (Lib.cell_of_heap hN1 1).trans rfl, by decide⟩
        · exact ⟨[97, 98], (Lib.cell_of_heap hN1 2).trans rfl, by decide⟩
        · exact ⟨[105, 110, 98, 111, 120], (Lib.cell_of_heap hN1 3).trans rfl, by decide⟩
      clear hN1
      go_wp2_with fail
      refine (l9Box_any g code nm _ _ hs1.cur).mono ?_
      rintro e w2 ⟨nx, vm, ms, rfl, hnx, hml, hms, hom, hc2, hg2⟩
      obtain ⟨pm, cm, rfl⟩ := own_form hom
      have hs2 := hs1.draw hg2 hc2
      have hz2 := hg2.size
      have hg1z := (Array.getElem?_eq_some_iff.1 HN1.out).1
      have HN2 := Lib.hid ((hg2.block _ hg1z (by intro e; injection e with e; have := HL.out; omega)).trans HN1.out)
      have hfl : ∀ q ∈ fp, q < w1.heap.size := hs1.tree.lt
      clear hs1 hc2 hg2 HN1 hnm
      have hzw := hs2.grown.size
      have hvb : in64 (1 + ((j : Int) + 1) * 3 % 7) := ⟨by omega, by omega⟩
      obtain ⟨v0, hv0⟩ : ∃ v0, 1 + ((j : Int) + 1) * 3 % 7 = v0 := ⟨_, rfl⟩
      rw [hv0] at hvb ⊢
      clear hv0
      obtain ⟨hu, hfx, hfq⟩ := box_rec (nm := nm) (v := v0) (nx := nx) hom
      obtain ⟨xs, fq, hrow, hx, hf⟩ := hs2.row
      have hsmx : BoxQ 5 ⟨nm, v0, nx, ms⟩ := ⟨hnl, hvb, ⟨by simp only; omega, by simp only; omega⟩, by simp only; omega, hms⟩
      have HSX := Lib.hid hsmx
      clear hsmx hvb hnl hnx hms
      go_wp2_with (at_builtin; refine wpList_app1 Tryz.el_box rfl (.tmp 18) (.tmp 29) rfl w2 w2 (.slice p l.length c) l.length xs rfl hrow (Below.refl _ _) hzw #[sv nm, .int .i64 v0, .int .i64 nx, .slice pm ms.length cm] (.inr rfl) 1 1 rfl rfl (by simp [Value.oneCell']) (by omega) (by have := HLL.out; omega) (by have := HLL.out; omega) ?_)
      intro gn cap w4 ho4 hb4 hg4 hor4 hlt4
      obtain ⟨fp', hs4, hfp'⟩ := hs2.snoc hu hfx (fun q hq => by have := (hfq q hq).1; omega) (fun q hq hm => by have := (hfq q hq).1; have := hfl q hm; omega) hx hf ho4 hg4 hor4
      have hvo : ∀ q, (Value.slice p l.length c).ownBlock = some q → q ≠ w.heap.size + 1 := fun q hq e => HNF.out (by rw [hf, hq, e]; simp)
      have hN4 := (hg4.block _ (Array.getElem?_eq_some_iff.1 HN2.out).1 (by intro e; exact hvo _ e.symm rfl)).trans HN2.out
      have hnf4 : w.heap.size + 1 ∉ fp' := fun hm => by
        rcases hfp' _ hm with h | h | h
        · exact HNF.out h
        · have := (hfq _ h).1; omega
        · rcases hor4 with h1 | h1
          · exact hvo _ h1 h.symm
          · omega
      have HN4 := Lib.hid hN4
      clear hb4 hg4 hor4 hlt4 ho4 hs2 hrow hx hf hu hfx hfq hom hfl hfp' hvo hN4
      go_wp2
      go_roundw
      case rel => exact ⟨k + 1, j + 1, _, fp', by omega, by omega, by go_num, by go_num, by have := HLL.out; simp; omega, by
        intro x hx
        rcases List.mem_append.1 hx with hx | hx
        · exact HSM.out x hx
        · rw [List.mem_singleton.1 hx]; exact HSX.out, hs4, HN4.out, hnf4⟩
      case measure => simp [intOf]; omega

end Go.Proofs.YtbfgdbpfecffcaaGreatDoor
