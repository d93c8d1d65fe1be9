/-
  Chapter 9, the program: the boxes one by one from the last to the first, and the two maps that are made so (made by tools/gen_boxh.py).
-/
import Derived.RangeFuncNested
import Derived.RangeFuncLeaves
import Derived.RangeFuncWrites
import Derived.Shelf.Abstract
import Derived.WalkKit
import Derived.OwnWalkIn
import Derived.TacticsInMore
import Derived.LoopNIn
import Derived.LoopIn
import Derived.Maps.OwnIn
import Derived.Test.YtboinphhpfggnaaBoxF
import Derived.Test.YtboinphhpfggnaaLawBoxNamed
import Derived.Test.YtboinphhpfggnaaLawBoxWith
namespace Go.Proofs.Ytboinphhpfggnaa
open Go.RowKit Go.Shelf

attribute [local go_sem] Oper.semAt_some

/-- What a round of the loop keeps: what lay ahead of the call, and the iterator's own cell. -/
def KpB (n₀ Bs : Nat) (A B : World) : Prop := Below n₀ A B ∧ ∀ v, A.cell? ⟨Bs, 0, none⟩ = some v → B.cell? ⟨Bs, 0, none⟩ = some v
theorem KpB.t {n₀ Bs : Nat} {A B C : World} (h : KpB n₀ Bs A B) (k : KpB n₀ Bs B C) : KpB n₀ Bs A C := ⟨h.1.trans k.1, fun v hv => k.2 v (h.2 v hv)⟩
theorem KpB.b {n₀ Bs : Nat} {w : World} (hn : n₀ ≤ w.heap.size) (W : World) (l : Nat) (o o' : Obj) (hl : w.heap.size ≤ l) (h : W.heap[l]? = some o) (ho : o.isCells = false) (hw : o.isWalk = false) : KpB n₀ Bs W (W.putObj l o') :=
  ⟨belowK_b hn W l o o' hl h ho hw, fun _ hv => cell_kept hv (grownBy_putObj' W l o') (fun r e => by cases e; exact ⟨o, h, ho⟩)⟩

/-- What the round at place i is handed. -/
def boxv (x : BoxD) (r : Value) : Value := .agg #[sv x.name, .int .i64 x.validity, .int .i64 x.next, r]
def rowV (l : List BoxD) (rs : Nat → Option Addr × Nat × Nat) (i : Fin l.length) : Array Value := #[.int .i64 (i.val : Int), boxv (l[i.val]'i.isLt) (.slice (rs i.val).1 (rs i.val).2.1 (rs i.val).2.2)]
/-- The boxes' cells. -/
def BoxCells (W : World) (b off : Nat) (l : List BoxD) (rs : Nat → Option Addr × Nat × Nat) : Prop := ∀ i x, l[i]? = some x → W.cell? ⟨b, off + i * 4, none⟩ = some (sv x.name) ∧ W.cell? ⟨b, off + i * 4 + 1, none⟩ = some (.int .i64 x.validity) ∧ W.cell? ⟨b, off + i * 4 + 2, none⟩ = some (.int .i64 x.next) ∧ W.cell? ⟨b, off + i * 4 + 3, none⟩ = some (.slice (rs i).1 (rs i).2.1 (rs i).2.2)
theorem BoxCells.below {n₀ b off : Nat} {A B : World} {l : List BoxD} {rs : Nat → Option Addr × Nat × Nat} (h : BoxCells A b off l rs) (hb : b < n₀) (hw : Below n₀ A B) : BoxCells B b off l rs := fun i x hx => by
  obtain ⟨h0, h1, h2, h3⟩ := h i x hx
  exact ⟨(hw.cell (p := ⟨b, off + i * 4, none⟩) hb).trans h0, (hw.cell (p := ⟨b, off + i * 4 + 1, none⟩) hb).trans h1, (hw.cell (p := ⟨b, off + i * 4 + 2, none⟩) hb).trans h2, (hw.cell (p := ⟨b, off + i * 4 + 3, none⟩) hb).trans h3⟩
/-- The places that have come when k are left. -/
def Came {n : Nat} (pre : List (Fin n)) (k : Nat) : Prop := pre.map Fin.val = (List.range' k (n - k)).reverse
theorem Came.start {n : Nat} : Came (n := n) [] n := by unfold Came; rw [Nat.sub_self]; rfl
theorem Came.step {n : Nat} {pre : List (Fin n)} {k : Nat} (h : Came pre (k + 1)) (hk : k < n) : Came (pre ++ [⟨k, hk⟩]) k := by
  unfold Came at h ⊢
  rw [List.map_append, h, show n - k = (n - (k + 1)) + 1 by omega, List.range'_succ, List.reverse_cons]
  rfl
theorem Came.length {n : Nat} {pre : List (Fin n)} {k : Nat} (h : Came pre k) : pre.length = n - k := by
  have := congrArg List.length h
  simpa using this

set_option maxRecDepth 100000 in
set_option maxHeartbeats 2000000 in
theorem back1_in (F : Fence) (n : Nat) (hf : F.fn 82) (hro : F.round = none) (hn : 1 ≤ n) (k0 Bs n₀ : Nat) (p : Option Addr) (cap : Nat) (l : List BoxD) (rs : Nat → Option Addr × Nat × Nat) (hl : l.length ≤ 1048576) (J Jx : List (Fin l.length) → World → Prop)
    (hY : ∀ pre x W, J pre W → pre.length < l.length → YieldAt F (n - 1) Try.prog k0 (rowV l rs x) W fun e W' =>
      (e = .returned (.bool true) ∧ J (pre ++ [x]) W' ∧ KpB n₀ Bs W W') ∨ (e = .returned (.bool false) ∧ Jx (pre ++ [x]) W'))
    (W : World) (hBs : W.cell? ⟨Bs, 0, none⟩ = some (.slice p l.length cap)) (hc : l = [] ∨ ∃ b off, p = some ⟨b, off, none⟩ ∧ b < n₀ ∧ BoxCells W b off l rs) (h0 : J [] W) :
    CallsIn F n Try.prog 82 #[.func (.yield k0) #[] #[], .pointer (some ⟨Bs, 0, none⟩)] W fun e W' => (∃ v, e = .returned v) ∧
      ((∃ ys, Came ys 0 ∧ J ys W') ∨ (∃ pre, True ∧ Jx pre W')) := by
  refine callsIn_of_wp Try.func82 rfl hf ?_ hro
  simp only [Try.ntmps82, List.size_toArray, List.length_cons, List.length_nil, Nat.reduceAdd, Nat.reduceSub, Array.replicate_succ, Array.replicate_zero, List.push_toArray, List.append_toArray, List.nil_append, List.cons_append]
  gi_wp2
  gi_loopw [3] (fun i wr => ∃ (k : Nat) (pre : List (Fin l.length)), k ≤ l.length ∧ i = .int .i64 ((k : Int) - 1) ∧ Came pre k ∧ J pre wr ∧ KpB n₀ Bs W wr) (fun i _ => (intOf i + 1).toNat)
  case atStart => exact ⟨l.length, [], Nat.le_refl _, by go_num, Came.start, h0, Below.refl _ _, fun _ h => h⟩
  case round =>
    obtain ⟨k, pre, hk, rfl, hcm, hJs, hkp⟩ := hrel
    cases k with
    | zero =>
      rw [show ((0 : Nat) : Int) - 1 = -1 from rfl]
      gi_wp2
      go_end0
      exact ⟨⟨_, rfl⟩, .inl ⟨pre, hcm, hJs⟩⟩
    | succ j =>
      have hj : j < l.length := by omega
      rw [show ((j + 1 : Nat) : Int) - 1 = (j : Int) by omega]
      obtain ⟨b, off, rfl, hb, hcell⟩ := hc.resolve_left (by intro h; subst h; simp at hj)
      obtain ⟨x, hx⟩ : ∃ x, l[j]? = some x := ⟨_, List.getElem?_eq_getElem hj⟩
      obtain ⟨e0, e1, e2, e3⟩ := hcell.below hb hkp.1 j x hx
      have eB := hkp.2 _ hBs
      have eR : rowV l rs ⟨j, hj⟩ = #[.int .i64 (j : Int), .agg #[sv x.name, .int .i64 x.validity, .int .i64 x.next, .slice (rs j).1 (rs j).2.1 (rs j).2.2]] := by
        have : l[j] = x := (List.getElem?_eq_some_iff.1 hx).2
        simp only [rowV, boxv, this]
      have hYj := hY pre ⟨j, hj⟩ wr hJs (by rw [hcm.length]; omega)
      rw [eR] at hYj
      have hcs := hcm.step hj
      obtain ⟨fn, tmps, assign, body, hy, hR⟩ := hYj
      clear hY hc hcell eR hx
      gi_wp2
      refine hR.mono ?_
      rintro e W3 (⟨rfl, hJ3, hk3⟩ | ⟨rfl, hJx3⟩)
      · gi_wp2
        go_roundw
        case rel => exact ⟨j, _, by omega, by go_num, hcs, hJ3, hkp.t hk3⟩
        case measure => simp [intOf] <;> omega
      · gi_wp2
        refine bodyPost_ret (results_none rfl _ _ _) rfl ?_
        exact ⟨⟨_, rfl⟩, .inr ⟨_, trivial, hJx3⟩⟩

set_option maxHeartbeats 1000000 in
theorem back_in (F : Fence) (n : Nat) (hf : F.fn 70) (hro : F.round = none) (a : Option Addr) (len cap : Nat) (w : World) :
    CallsIn F n Try.prog 70 #[.slice a len cap] w fun e w' => e = .returned (.func (.func 82) #[] #[.pointer (some ⟨w.heap.size, 0, none⟩)]) ∧ w' = w.alloc (.cells #[.slice a len cap] 24) := by
  refine callsIn_of_wp Try.func70 rfl hf ?_ hro
  simp only [Try.ntmps70, List.size_toArray, List.length_cons, List.length_nil, Nat.reduceAdd, Nat.reduceSub, Array.replicate_succ, Array.replicate_zero, List.push_toArray, List.append_toArray, List.nil_append, List.cons_append]
  gi_wp2
  go_ret
  exact ⟨rfl, rfl⟩
theorem back_stops (F : Fence) (n : Nat) (hf : F.fn 82) (hro : F.round = none) (hn : 1 ≤ n) (Bs n₀ : Nat) (p : Option Addr) (cap : Nat) (l : List BoxD) (rs : Nat → Option Addr × Nat × Nat) (hl : l.length ≤ 1048576) (w : World) (hBs : Bs < w.heap.size) (hn₀ : n₀ ≤ w.heap.size)
    (hv : w.cell? ⟨Bs, 0, none⟩ = some (.slice p l.length cap)) (hc : l = [] ∨ ∃ b off, p = some ⟨b, off, none⟩ ∧ b < n₀ ∧ BoxCells w b off l rs) :
    SeqStopsK F n Try.prog 82 #[.pointer (some ⟨Bs, 0, none⟩)] (rowV l rs) (KpB n₀ Bs) (fun ys => Came ys 0) (fun _ => True) l.length w := fun k0 J Jx W hW _ _ hY h0 =>
  back1_in F n hf hro hn k0 Bs n₀ p cap l rs hl J Jx hY W ((hW.cell (p := ⟨Bs, 0, none⟩) hBs).trans hv) (hc.imp id fun ⟨b, off, hp, hb, h⟩ => ⟨b, off, hp, hb, h.below hb (hW.mono hn₀)⟩) h0

theorem cells_own (B : Nat) (vs : Array Value) (t : TypeId) (fr : Nat × Nat) : Own (fun (_ : Unit) (W : World) => W.heap[B]? = some (.cells vs t fr)) := fun _ X Y row hs hg hrow => by
  refine (hg.block B (Array.getElem?_eq_some_iff.1 hs).1 (fun e => ?_)).trans hs
  obtain ⟨o, ho, hc⟩ := hrow B e.symm
  rw [hs] at ho
  cases ho
  cases hc
theorem place_wf {n : Nat} (h : n ≤ 1048576) : (Lit.int .i64 (n : Int)).wf = true := by
  simp [Lit.wf, IntKind.min, IntKind.max, IntKind.signed, IntKind.bits]; omega
def slOf : Option Value → Option Addr × Nat × Nat
  | some (.slice p n c) => (p, n, c)
  | _ => (none, 0, 0)
/-- The slices of the boxes' messages, as the cells hold them. -/
theorem boxes_cells {w : World} {l : List BoxD} {v : Value} (hr : LfRd w (boxsLf l) v) : ∃ p cap rs, v = .slice p l.length cap ∧ (l = [] ∨ ∃ b off, p = some ⟨b, off, none⟩ ∧ b < w.heap.size ∧ BoxCells w b off l rs) := by
  obtain ⟨p, cap, rfl, h⟩ := BoxD.at hr
  rcases h with rfl | ⟨b, off, rfl, hb, hc⟩
  · exact ⟨p, cap, fun _ => (none, 0, 0), rfl, .inl rfl⟩
  · refine ⟨_, cap, fun i => slOf (w.cell? ⟨b, off + i * 4 + 3, none⟩), rfl, .inr ⟨b, off, rfl, hb, fun i x hx => ?_⟩⟩
    obtain ⟨r3, hr3, h0, h1, h2, h3⟩ := hc i x hx
    obtain ⟨q, d, rfl⟩ := LfRd.slice hr3
    refine ⟨h0, h1, h2, ?_⟩
    dsimp only
    rw [h3]
    rfl

set_option maxRecDepth 100000 in
set_option maxHeartbeats 2000000 in
theorem placesByName_in (F : Fence) (n : Nat) (h1 : F.fn 44) (h2 : F.fn 70) (h3 : F.fn 82) (hro : F.round = none) (hn : 3 ≤ n) (l : List BoxD) (v : Value) (w : World) (hr : LfRd w (boxsLf l) v) (hl : l.length ≤ 1048576) (hk : ∀ x ∈ l, x.name.length ≤ 1048576) :
    CallsIn F n Try.prog 44 #[v] w fun e W' => e = .returned (.map (some w.heap.size)) ∧ W'.ownsMap Try.prog 9 (plainElem (H := Unit) Try.prog 3) w.heap.size l.length (mapOf nKey l 0) ∧ Below w.heap.size w W' := by
  obtain ⟨p, cap, rs, rfl, hcl⟩ := boxes_cells hr
  clear hr
  have hn1 : 1 ≤ n := by omega
  have hmm := @run_makeMap Try.prog
  refine callsIn_of_wp_marks Try.func44 rfl h1 ?_ hro
  simp only [Try.ntmps44, List.size_toArray, List.length_cons, List.length_nil, Nat.reduceAdd, Nat.reduceSub, Array.replicate_succ, Array.replicate_zero, List.push_toArray, List.append_toArray, List.nil_append, List.cons_append]
  gi_wp2_with (gi_at_call 70; refine (back_in F (n - 1) h2 hro _ _ _ _).mono ?_; rintro e w' ⟨rfl, rfl⟩)
  have hm0 := World.ownsMap_made w Try.prog 9 (plainElem (H := Unit) Try.prog 3)
  have bS := Boxed.new (w.alloc (.map #[] 0)) 59 (.map (some w.heap.size))
  have bN := Boxed.new ((w.alloc (.map #[] 0)).alloc (.cells #[.map (some w.heap.size)] 59)) 24 (.slice p l.length cap)
  simp only [World.size_alloc] at bS bN
  have hB0 : Below w.heap.size w (((w.alloc (.map #[] 0)).alloc (.cells #[.map (some w.heap.size)] 59)).alloc (.cells #[.slice p l.length cap] 24)) := (((Below.refl _ w).alloc (Nat.le_refl _) _).alloc (by simp) _).alloc (by simp; omega) _
  have bS2 := bS.alloc (.cells #[.slice p l.length cap] 24)
  have hm2 := (hm0.alloc (.cells #[.map (some w.heap.size)] 59)).alloc (.cells #[.slice p l.length cap] 24)
  have hcl2 : l = [] ∨ ∃ b off, p = some ⟨b, off, none⟩ ∧ b < w.heap.size ∧ BoxCells (((w.alloc (.map #[] 0)).alloc (.cells #[.map (some w.heap.size)] 59)).alloc (.cells #[.slice p l.length cap] 24)) b off l rs := hcl.imp id fun ⟨b, off, hp, hb, h⟩ => ⟨b, off, hp, hb, h.below hb hB0⟩
  have hsz : (((w.alloc (.map #[] 0)).alloc (.cells #[.map (some w.heap.size)] 59)).alloc (.cells #[.slice p l.length cap] 24)).heap.size = w.heap.size + 1 + 1 + 1 := by simp
  obtain ⟨W0, hW0⟩ : ∃ W0, (((w.alloc (.map #[] 0)).alloc (.cells #[.map (some w.heap.size)] 59)).alloc (.cells #[.slice p l.length cap] 24)) = W0 := ⟨_, rfl⟩
  rw [hW0] at hB0 bN bS2 hm2 hcl2 hsz ⊢
  refine wpIn_rangeFunc_ownH hro hn1 (gf := 82) (lb := #[.pointer (some ⟨w.heap.size + 1 + 1, 0, none⟩)]) rfl h3 (enters_of Try.func82 (by kernel_rfl) rfl)
    (back_stops F (n - 1) h3 hro (by omega) (w.heap.size + 1 + 1) w.heap.size p cap l rs hl W0 (by omega) (by omega) bN.cell hcl2) KpB.t (KpB.b (by omega)) (Below.refl _ _) (fun _ => rfl)
    (fun pre W => (Boxed W (w.heap.size + 1) 59 (.map (some w.heap.size)) ∧ W.ownsMap Try.prog 9 (plainElem (H := Unit) Try.prog 3) w.heap.size pre.length ((pre.map Fin.val).foldl (mapStep nKey l) (.map []))) ∧ Below w.heap.size w W)
    (fun _ _ _ => False)
    (OwnFrom.and (OwnFrom.and (Own.from (boxed_own _ _ _) _) (fun s X Y row hs hg hrow => hs.kept hg (fun e => by have := (hrow _ e.symm).1; omega))) (ownFrom_below (Nat.le_refl _) (by omega)))
    (fun _ _ _ _ _ hs _ _ => hs)
    ⟨⟨bS2, hm2⟩, hB0⟩
    (fun x a' W => ∃ Bx, w.heap.size + 1 < Bx ∧ W.heap[Bx]? = some (.cells #[sv (l[x.val]).name, .int .i64 (l[x.val]).validity, .int .i64 (l[x.val]).next, .slice (rs x.val).1 (rs x.val).2.1 (rs x.val).2.2] 30 (0, 0)) ∧ a' = { tmps := #[.slice p l.length cap, undef, .map none, .pointer (some ⟨w.heap.size + 1, 0, none⟩), .int .i64 (x.val : Int), .pointer (some ⟨Bx, 0, none⟩), .map (some w.heap.size), .slice p l.length cap, .func (.func 82) #[] #[.pointer (some ⟨w.heap.size + 1 + 1, 0, none⟩)], .int .i64 (x.val : Int), boxv (l[x.val]) (.slice (rs x.val).1 (rs x.val).2.1 (rs x.val).2.2), undef, undef, undef, undef, undef], defers := [] })
    (fun x a' _ X Y row hs hg hrow => by obtain ⟨Bx, k1, k2, k3⟩ := hs; exact ⟨Bx, k1, cells_own Bx _ _ _ () X Y row k2 hg (fun r e => (hrow r e).2), k3⟩)
    ?assign ?body ?done ?stop
  case assign =>
    rintro k0 pre x W K ⟨⟨bS1, hm1⟩, hB1⟩ hK
    have e0 : rowV l rs x = #[.int .i64 (x.val : Int), .agg #[sv (l[x.val]).name, .int .i64 (l[x.val]).validity, .int .i64 (l[x.val]).next, .slice (rs x.val).1 (rs x.val).2.1 (rs x.val).2.2]] := rfl
    rw [e0]
    gi_wp2
    exact hK _ _ ((KeepsOthers.alloc _ _).from _) ⟨(Below.refl _ W).alloc hB1.size _, fun _ hv => cell_kept hv (World.grownBy_alloc W _ none) (fun r e => by cases e)⟩ ⟨⟨bS1.alloc _, hm1.alloc _⟩, hB1.alloc hB1.size _⟩ ⟨W.heap.size, bS1.lt, World.alloc_heap_new W _, rfl⟩
  case body =>
    rintro k0 pre x a' W hk0 ⟨r, hrr⟩ ⟨⟨bS1, hown⟩, hB⟩ ⟨Bx, hBx, bX, rfl⟩ hlt
    have cS := bS1.cell
    have cX : W.cell? ⟨Bx, 0, none⟩ = some (sv (l[x.val]).name) := by simp [World.cell?, bX]
    have hkey : keyOf Try.prog 9 (sv (l[x.val]).name) = some (.string (l[x.val]).name) := Go.WideMaps.keyOf_string_mk Try.underlying9 (s := ⟨(l[x.val]).name.toArray⟩) (by have := hk _ (List.getElem_mem x.isLt); show (l[x.val]).name.toArray.size ≤ maxLen; unfold maxLen; simp; omega)
    have hstep : ((pre ++ [x]).map Fin.val).foldl (mapStep nKey l) (.map []) = ((pre.map Fin.val).foldl (mapStep nKey l) (.map [])).put (.string (l[x.val]).name) (.lit (.int .i64 (x.val : Int))) := by
      rw [List.map_append, List.foldl_append]
      show mapStep nKey l _ x.val = _
      unfold mapStep
      rw [List.getElem?_eq_getElem x.isLt]
      rfl
    have hval := plainElem_int (H := Unit) Try.underlying3 (place_wf (n := x.val) (by have := x.isLt; omega))
    obtain ⟨es, ck, hh, _⟩ := id hown
    gi_wp2_with (gi_at_mapUpdate; refine wpListIn_mapUpdate_own _ rfl _ _ _ 59 rfl 9 3 (Maps.string_keyed Try.underlying9) Try.underlying59 _ w.heap.size pre.length _ rfl hown (by unfold maxLen; omega) _ _ _ rfl rfl hkey _ [] hval ?_; intro w1 hown1 hgrow1)
    exact ⟨KeepsFrom.of_grownBy hgrow1 (fun j e => by cases e; omega), ⟨(Below.refl _ W).grown hgrow1 hB.size (fun k e => by cases e; exact Nat.le_refl _), fun _ hv => cell_kept hv hgrow1 (fun r e => by cases e; exact ⟨_, hh, rfl⟩)⟩,
      ⟨bS1.kept hgrow1 (by intro e; injection e with e; omega), by rw [hstep, List.length_append]; exact hown1⟩, hB.grown hgrow1 hB.size (fun k e => by cases e; exact Nat.le_refl _)⟩
  case done =>
    rintro D ys W hD hys ⟨⟨bS1, hown⟩, hB⟩ hK
    have cS := bS1.cell
    have hlen : ys.length = l.length := by rw [hys.length]; omega
    have hmap : (ys.map Fin.val).foldl (mapStep nKey l) (.map []) = mapOf nKey l 0 := by
      rw [show ys.map Fin.val = (List.range' 0 l.length).reverse from hys, mapOf_fold nKey l l.length 0 (by omega), List.drop_zero]
    rw [hmap, hlen] at hown
    gi_wp2
    refine ⟨by simp, .inl ⟨_, _, rfl, run_takeDeferred hK, ?_⟩⟩
    exact ⟨_, results_tmp rfl _ _ _, rfl, hown.kept (grownBy_putObj' _ D _) (fun e => by cases e; omega), hB.trans (belowK_b (w := w) (Nat.le_refl _) W D _ _ (by omega) hK rfl rfl)⟩
  case stop =>
    rintro D c pre W _ _ h _
    exact h.elim

set_option maxRecDepth 100000 in
set_option maxHeartbeats 2000000 in
theorem placesByValidity_in (F : Fence) (n : Nat) (h1 : F.fn 45) (h2 : F.fn 70) (h3 : F.fn 82) (hro : F.round = none) (hn : 3 ≤ n) (l : List BoxD) (v : Value) (w : World) (hr : LfRd w (boxsLf l) v) (hl : l.length ≤ 1048576) (hk : ∀ x ∈ l, in64 x.validity) :
    CallsIn F n Try.prog 45 #[v] w fun e W' => e = .returned (.map (some w.heap.size)) ∧ W'.ownsMap Try.prog 3 (plainElem (H := Unit) Try.prog 3) w.heap.size l.length (mapOf vKey l 0) ∧ Below w.heap.size w W' := by
  obtain ⟨p, cap, rs, rfl, hcl⟩ := boxes_cells hr
  clear hr
  have hn1 : 1 ≤ n := by omega
  have hmm := @run_makeMap Try.prog
  refine callsIn_of_wp_marks Try.func45 rfl h1 ?_ hro
  simp only [Try.ntmps45, List.size_toArray, List.length_cons, List.length_nil, Nat.reduceAdd, Nat.reduceSub, Array.replicate_succ, Array.replicate_zero, List.push_toArray, List.append_toArray, List.nil_append, List.cons_append]
  gi_wp2_with (gi_at_call 70; refine (back_in F (n - 1) h2 hro _ _ _ _).mono ?_; rintro e w' ⟨rfl, rfl⟩)
  have hm0 := World.ownsMap_made w Try.prog 3 (plainElem (H := Unit) Try.prog 3)
  have bS := Boxed.new (w.alloc (.map #[] 0)) 61 (.map (some w.heap.size))
  have bN := Boxed.new ((w.alloc (.map #[] 0)).alloc (.cells #[.map (some w.heap.size)] 61)) 24 (.slice p l.length cap)
  simp only [World.size_alloc] at bS bN
  have hB0 : Below w.heap.size w (((w.alloc (.map #[] 0)).alloc (.cells #[.map (some w.heap.size)] 61)).alloc (.cells #[.slice p l.length cap] 24)) := (((Below.refl _ w).alloc (Nat.le_refl _) _).alloc (by simp) _).alloc (by simp; omega) _
  have bS2 := bS.alloc (.cells #[.slice p l.length cap] 24)
  have hm2 := (hm0.alloc (.cells #[.map (some w.heap.size)] 61)).alloc (.cells #[.slice p l.length cap] 24)
  have hcl2 : l = [] ∨ ∃ b off, p = some ⟨b, off, none⟩ ∧ b < w.heap.size ∧ BoxCells (((w.alloc (.map #[] 0)).alloc (.cells #[.map (some w.heap.size)] 61)).alloc (.cells #[.slice p l.length cap] 24)) b off l rs := hcl.imp id fun ⟨b, off, hp, hb, h⟩ => ⟨b, off, hp, hb, h.below hb hB0⟩
  have hsz : (((w.alloc (.map #[] 0)).alloc (.cells #[.map (some w.heap.size)] 61)).alloc (.cells #[.slice p l.length cap] 24)).heap.size = w.heap.size + 1 + 1 + 1 := by simp
  obtain ⟨W0, hW0⟩ : ∃ W0, (((w.alloc (.map #[] 0)).alloc (.cells #[.map (some w.heap.size)] 61)).alloc (.cells #[.slice p l.length cap] 24)) = W0 := ⟨_, rfl⟩
  rw [hW0] at hB0 bN bS2 hm2 hcl2 hsz ⊢
  refine wpIn_rangeFunc_ownH hro hn1 (gf := 82) (lb := #[.pointer (some ⟨w.heap.size + 1 + 1, 0, none⟩)]) rfl h3 (enters_of Try.func82 (by kernel_rfl) rfl)
    (back_stops F (n - 1) h3 hro (by omega) (w.heap.size + 1 + 1) w.heap.size p cap l rs hl W0 (by omega) (by omega) bN.cell hcl2) KpB.t (KpB.b (by omega)) (Below.refl _ _) (fun _ => rfl)
    (fun pre W => (Boxed W (w.heap.size + 1) 61 (.map (some w.heap.size)) ∧ W.ownsMap Try.prog 3 (plainElem (H := Unit) Try.prog 3) w.heap.size pre.length ((pre.map Fin.val).foldl (mapStep vKey l) (.map []))) ∧ Below w.heap.size w W)
    (fun _ _ _ => False)
    (OwnFrom.and (OwnFrom.and (Own.from (boxed_own _ _ _) _) (fun s X Y row hs hg hrow => hs.kept hg (fun e => by have := (hrow _ e.symm).1; omega))) (ownFrom_below (Nat.le_refl _) (by omega)))
    (fun _ _ _ _ _ hs _ _ => hs)
    ⟨⟨bS2, hm2⟩, hB0⟩
    (fun x a' W => ∃ Bx, w.heap.size + 1 < Bx ∧ W.heap[Bx]? = some (.cells #[sv (l[x.val]).name, .int .i64 (l[x.val]).validity, .int .i64 (l[x.val]).next, .slice (rs x.val).1 (rs x.val).2.1 (rs x.val).2.2] 30 (0, 0)) ∧ a' = { tmps := #[.slice p l.length cap, undef, .map none, .pointer (some ⟨w.heap.size + 1, 0, none⟩), .int .i64 (x.val : Int), .pointer (some ⟨Bx, 0, none⟩), .map (some w.heap.size), .slice p l.length cap, .func (.func 82) #[] #[.pointer (some ⟨w.heap.size + 1 + 1, 0, none⟩)], .int .i64 (x.val : Int), boxv (l[x.val]) (.slice (rs x.val).1 (rs x.val).2.1 (rs x.val).2.2), undef, undef, undef, undef, undef], defers := [] })
    (fun x a' _ X Y row hs hg hrow => by obtain ⟨Bx, k1, k2, k3⟩ := hs; exact ⟨Bx, k1, cells_own Bx _ _ _ () X Y row k2 hg (fun r e => (hrow r e).2), k3⟩)
    ?assign ?body ?done ?stop
  case assign =>
    rintro k0 pre x W K ⟨⟨bS1, hm1⟩, hB1⟩ hK
    have e0 : rowV l rs x = #[.int .i64 (x.val : Int), .agg #[sv (l[x.val]).name, .int .i64 (l[x.val]).validity, .int .i64 (l[x.val]).next, .slice (rs x.val).1 (rs x.val).2.1 (rs x.val).2.2]] := rfl
    rw [e0]
    gi_wp2
    exact hK _ _ ((KeepsOthers.alloc _ _).from _) ⟨(Below.refl _ W).alloc hB1.size _, fun _ hv => cell_kept hv (World.grownBy_alloc W _ none) (fun r e => by cases e)⟩ ⟨⟨bS1.alloc _, hm1.alloc _⟩, hB1.alloc hB1.size _⟩ ⟨W.heap.size, bS1.lt, World.alloc_heap_new W _, rfl⟩
  case body =>
    rintro k0 pre x a' W hk0 ⟨r, hrr⟩ ⟨⟨bS1, hown⟩, hB⟩ ⟨Bx, hBx, bX, rfl⟩ hlt
    have cS := bS1.cell
    have cX : W.cell? ⟨Bx, 1, none⟩ = some (.int .i64 (l[x.val]).validity) := by simp [World.cell?, bX]
    have hkey : keyOf Try.prog 3 (.int .i64 (l[x.val]).validity) = some (.int .i64 (l[x.val]).validity) := Maps.keyOf_int_mk Try.underlying3 (by have := hk _ (List.getElem_mem x.isLt); simpa [in64, Lit.wf, IntKind.min, IntKind.max, IntKind.signed, IntKind.bits] using this)
    have hstep : ((pre ++ [x]).map Fin.val).foldl (mapStep vKey l) (.map []) = ((pre.map Fin.val).foldl (mapStep vKey l) (.map [])).put (.int .i64 (l[x.val]).validity) (.lit (.int .i64 (x.val : Int))) := by
      rw [List.map_append, List.foldl_append]
      show mapStep vKey l _ x.val = _
      unfold mapStep
      rw [List.getElem?_eq_getElem x.isLt]
      rfl
    have hval := plainElem_int (H := Unit) Try.underlying3 (place_wf (n := x.val) (by have := x.isLt; omega))
    obtain ⟨es, ck, hh, _⟩ := id hown
    gi_wp2_with (gi_at_mapUpdate; refine wpListIn_mapUpdate_own _ rfl _ _ _ 61 rfl 3 3 (Maps.int_keyed Try.underlying3) Try.underlying61 _ w.heap.size pre.length _ rfl hown (by unfold maxLen; omega) _ _ _ rfl rfl hkey _ [] hval ?_; intro w1 hown1 hgrow1)
    exact ⟨KeepsFrom.of_grownBy hgrow1 (fun j e => by cases e; omega), ⟨(Below.refl _ W).grown hgrow1 hB.size (fun k e => by cases e; exact Nat.le_refl _), fun _ hv => cell_kept hv hgrow1 (fun r e => by cases e; exact ⟨_, hh, rfl⟩)⟩,
      ⟨bS1.kept hgrow1 (by intro e; injection e with e; omega), by rw [hstep, List.length_append]; exact hown1⟩, hB.grown hgrow1 hB.size (fun k e => by cases e; exact Nat.le_refl _)⟩
  case done =>
    rintro D ys W hD hys ⟨⟨bS1, hown⟩, hB⟩ hK
    have cS := bS1.cell
    have hlen : ys.length = l.length := by rw [hys.length]; omega
    have hmap : (ys.map Fin.val).foldl (mapStep vKey l) (.map []) = mapOf vKey l 0 := by
      rw [show ys.map Fin.val = (List.range' 0 l.length).reverse from hys, mapOf_fold vKey l l.length 0 (by omega), List.drop_zero]
    rw [hmap, hlen] at hown
    gi_wp2
    refine ⟨by simp, .inl ⟨_, _, rfl, run_takeDeferred hK, ?_⟩⟩
    exact ⟨_, results_tmp rfl _ _ _, rfl, hown.kept (grownBy_putObj' _ D _) (fun e => by cases e; omega), hB.trans (belowK_b (w := w) (Nat.le_refl _) W D _ _ (by omega) hK rfl rfl)⟩
  case stop =>
    rintro D c pre W _ _ h _
    exact h.elim

end Go.Proofs.Ytboinphhpfggnaa
