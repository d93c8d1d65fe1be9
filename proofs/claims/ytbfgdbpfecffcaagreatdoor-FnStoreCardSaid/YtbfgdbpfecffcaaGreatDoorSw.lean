/-
  Sw: ComT (what the claim needs of them).
-/
import Derived.Deep.DeepCutAuto
import Derived.Handy
import Derived.Lib.SliceRun
import Derived.Test.YtbfgdbpfecffcaaGreatDoorRows
import Derived.WalkKit
import Derived.WalkSpells
import Derived.WalkLawsBesides
import Derived.Laws.IdiomStrings
import Derived.Lib.Hide
import Derived.Deep.AppendLies
import Derived.OrdersHeld
import Derived.Lib.ItoaNum
import Derived.Lib.ItoaMem
import Derived.Lib.AppendStr
import Derived.Lib.ItoaLen
import Derived.Lib.Strings
import Derived.Lib.Bytealg
import Derived.Lib.OthersKept
import Derived.Laws.RangeAny
import Derived.Laws.BitsAllLaws
import Derived.Laws.BitsLemmas
import Derived.IntWalk
import Derived.Lib.Join
import Derived.Deep.Strs
import Derived.Test.YtbfgdbpfecffcaaGreatDoorProg
import Derived.Laws.Tables
import Derived.Test.YtbfgdbpfecffcaaGreatDoorSb
import Derived.Test.YtbfgdbpfecffcaaGreatDoorSc
import Derived.Test.YtbfgdbpfecffcaaGreatDoorSd
import Derived.Test.YtbfgdbpfecffcaaGreatDoorSe
import Derived.Test.YtbfgdbpfecffcaaGreatDoorSm
import Derived.Test.YtbfgdbpfecffcaaGreatDoorSn
import Derived.Test.YtbfgdbpfecffcaaGreatDoorSo
import Derived.Test.YtbfgdbpfecffcaaGreatDoorSv

namespace Go.Proofs.YtbfgdbpfecffcaaGreatDoor
open Go.RowKit

theorem msgc_len (m : MsgD) : (msgc m).length = 3 := rfl
theorem msgc_one : ∀ m : MsgD, ∀ u ∈ msgc m, u.oneCell' = true := by
  intro m u hu
  simp only [msgc, List.mem_cons, List.not_mem_nil, or_false] at hu
  rcases hu with rfl | rfl | rfl <;> rfl
/-- The cells of a row's records from j on, read at the place where they lie. -/
theorem own_src {α : Type} {enc : α → List Value} {m B n c g : Nat} {e : TypeId} {w : World} (hm : ∀ x, (enc x).length = m) {l : List α} (hl : l.length = n) (h : w.ownsRow B e m (.slice (some ⟨g, 0, none⟩) n c) n (l.flatMap enc)) (j : Nat) (hj : j ≤ n) :
    ∀ t u, ((l.drop j).flatMap enc)[t]? = some u → w.cell? ((⟨g, j * m, none⟩ : Addr).add t) = some u := by
  intro t u hu
  have hfl : ∀ r : List α, (r.flatMap enc).length = r.length * m := flat_lenE hm
  have ht := (List.getElem?_eq_some_iff.1 hu).1
  rw [hfl, List.length_drop, hl] at ht
  have hn : j * m + (n - j) * m = n * m := by rw [← Nat.add_mul]; congr 1; omega
  rw [add9, h.cellAt (j * m + t) (by omega)]
  conv => lhs; rw [← List.take_append_drop j l, List.flatMap_append]
  rw [List.getElem?_append_right (by rw [hfl, List.length_take, Nat.min_eq_left (by omega)]; omega), hfl, List.length_take, Nat.min_eq_left (by omega), Nat.add_sub_cancel_left]
  exact hu

set_option maxRecDepth 20000 in
set_option maxHeartbeats 6400000 in
theorem delBox_any (l : List BP) (B g n c k : Nat) (w : World) (hl : l.length = n) (hn : n ≤ 1048576) (hk : k < n) (h : w.ownsRow B 38 4 (.slice (some ⟨g, 0, none⟩) n c) n (l.flatMap encP)) :
    Calls Tryz.prog 141 #[.slice (some ⟨g, 0, none⟩) n c, .int .i64 (k : Int), .int .i64 ((k : Int) + 1)] w fun e w' => e = .returned (.slice (some ⟨g, 0, none⟩) (n - 1) c) ∧ w'.ownsRow B 38 4 (.slice (some ⟨g, 0, none⟩) (n - 1) c) (n - 1) ((l.eraseIdx k).flatMap encP) ∧ w.grownBy w' (some g) := by
  obtain ⟨cur, hg, hnc, hcm, hcs⟩ : ∃ cur, w.heap[g]? = some (.cells cur 38 (0, 0)) ∧ n ≤ c ∧ c ≤ maxLen ∧ cur.size = c * 4 := by
    rcases h.2 with ⟨h0, _⟩ | ⟨g', cap, cur, h0, _, hgg, hnc, hcm, hcs, _⟩
    · simp at h0
    · simp only [Value.slice.injEq, Option.some.injEq, Addr.mk.injEq, and_true, true_and] at h0
      obtain ⟨rfl, rfl⟩ := h0
      exact ⟨cur, hgg, hnc, hcm, hcs⟩
  have hc := own_cut (w := w.drew) encP_len hl (ownsRow_below h (Below.refl _ _).drew) hk (show w.drew.heap[g]? = _ from hg)
  have hsrc := own_src (w := w.drew) encP_len hl (ownsRow_below h (Below.refl _ _).drew) (k + 1) (by omega)
  have HC := Lib.hid hc
  have HS := Lib.hid hsrc
  have HG := Lib.hid (show w.drew.heap[g]? = _ from hg)
  have hdl : ((l.drop (k + 1)).flatMap encP).length = (n - (k + 1)) * 4 := by rw [flat_lenE encP_len, List.length_drop, hl]
  have HDL := Lib.hid hdl
  have h1 : ∀ u ∈ (l.drop (k + 1)).flatMap encP, u.oneCell' = true := fun u hu => by
    obtain ⟨x, _, hx⟩ := List.mem_flatMap.1 hu
    exact encP_one x u hx
  have H1 := Lib.hid h1
  have HCS := Lib.hid hcs
  have ne1 : ((k : Int) == (k : Int) + 1) = false := by rw [beq_eq_false_iff_ne]; omega
  have wk : IntKind.i64.wrap ((k : Int) + 1) = (k : Int) + 1 := IntWalk.i64_in _ (by omega)
  unfold maxLen at hcm
  clear h hc hsrc hg hdl h1 hl hcs
  go_enter Tryz.func141, Tryz.ntmps141
  go_wp2
  refine ord_start [(0, true), (1, true), (2, true), (3, true), (4, true), (5, true), (6, false), (7, true)] (fun _ => True) (by kernel_rfl) (by kernel_rfl) rfl (by kernel_rfl) ?_
  intro ops' hops
  clear hops
  simp only [List.map_cons, List.map_nil, pickOp_zero, pickOp_succ]
  iterate 2 (refine ord_flo ?_ (fun _ _ _ h => h) rfl ?_ trivial ?_; rotate_left; focus (intro _ _; go_simp; rfl))
  refine ord_flo (.slice (some ⟨g, 0, none⟩) k c) (fun _ _ _ h => h) rfl ?_ trivial ?_
  · intro W hS
    go_simp <;> omega
  iterate 2 (refine ord_flo ?_ (fun _ _ _ h => h) rfl ?_ trivial ?_; rotate_left; focus (intro _ _; go_simp; rfl))
  refine ord_flo (.slice (if c = k + 1 then some (⟨g, 0, none⟩ : Addr) else some ⟨g, (k + 1) * 4, none⟩) (n - (k + 1)) (c - (k + 1))) (fun _ _ _ h => h) rfl ?_ trivial ?_
  · intro W hS
    go_simp
    intro h
    omega
  refine ord_ev rfl ?_
  obtain ⟨A, hA, hA2⟩ : ∃ A : Addr, (if c = k + 1 then some (⟨g, 0, none⟩ : Addr) else some ⟨g, (k + 1) * 4, none⟩) = some A ∧ ∀ t u, ((l.drop (k + 1)).flatMap encP)[t]? = some u → w.drew.cell? (A.add t) = some u := by
    by_cases hck : c = k + 1
    · refine ⟨⟨g, 0, none⟩, if_pos hck, fun t u hu => ?_⟩
      have := (List.getElem?_eq_some_iff.1 hu).1
      rw [HDL.out, show n - (k + 1) = 0 by omega, Nat.zero_mul] at this
      omega
    · exact ⟨⟨g, (k + 1) * 4, none⟩, if_neg hck, HS.out⟩
  refine wp_room Tryz.el_box (.tmp 22) (.tmp 25) rfl g k c cur HG.out (by rfl) A (n - (k + 1)) (c - (k + 1)) (by go_simp) _ HDL.out hA2 H1.out (by omega) HC.out.2.2.2 ?_
  intro X hX
  have HX := Lib.hid (show X.ownsRow B 38 4 (.slice (some ⟨g, 0, none⟩) (n - 1) c) (n - 1) ((l.eraseIdx k).flatMap encP) ∧ w.drew.grownBy X (some g) ∧ ∃ cur', X.heap[g]? = some (.cells cur' 38 (0, 0)) ∧ cur'.size = c * 4 by rw [hX]; exact ⟨HC.out.1, HC.out.2.1, HC.out.2.2.1⟩)
  clear hX hA hA2 A HC HS HG HDL H1 HCS
  refine ⟨trivial, ?_⟩
  iterate 1 (refine ord_flo ?_ (fun _ _ _ h => h) rfl ?_ trivial ?_; rotate_left; focus (intro _ _; go_simp; rfl))
  refine ord_done ?_
  go_simp
  rw [show k + (n - (k + 1)) = n - 1 by omega]
  have hcl : ∀ ty, (Builtin.clear_ #[24] ty #[.slice (some ⟨g, (n - 1) * 4, none⟩) (n - (n - 1)) (c - (n - 1))]).run Tryz.prog X = .ok (.tuple #[]) (X.setCells g ((n - 1) * 4) (Builtin.zeroCells #[.string ⟨#[]⟩, .int .i64 0, .int .i64 0, .slice none 0 0] (n - (n - 1))).toList) := by
    intro ty
    obtain ⟨_, _, cur', hg', hs'⟩ := HX.out
    have hin : ∀ j, j < (n - (n - 1)) * 4 → (n - 1) * 4 + j < cur'.size := fun j hj => by
      rw [show n - (n - 1) = 1 by omega] at hj
      have : n * 4 ≤ c * 4 := Nat.mul_le_mul_right 4 hnc
      omega
    exact run_clear_cells X _ _ ty (.agg #[.string ⟨#[]⟩, .int .i64 0, .int .i64 0, .slice none 0 0]) Tryz.underlying24 Tryz.zeroValue38 (by intro v hv; simp [Value.cells] at hv; rcases hv with rfl | rfl | rfl | rfl <;> rfl) g _ _ _ (by omega) (fun j hj => by rw [Lib.cell_of_heap hg', Array.getElem?_eq_getElem (hin j (by simpa [Value.cells] using hj))]; rfl) (fun j _ => Lib.frozen_of_heap hg' _)
  obtain ⟨Y, hY⟩ : ∃ Y, Y = X.setCells g ((n - 1) * 4) (Builtin.zeroCells #[.string ⟨#[]⟩, .int .i64 0, .int .i64 0, .slice none 0 0] (n - (n - 1))).toList := ⟨_, rfl⟩
  rw [← hY] at hcl
  have HY := Lib.hid (show Y.ownsRow B 38 4 (.slice (some ⟨g, 0, none⟩) (n - 1) c) (n - 1) ((l.eraseIdx k).flatMap encP) ∧ w.grownBy Y (some g) by
    obtain ⟨h1, h2, _⟩ := HX.out
    have h3 := own_past (Builtin.zeroCells #[.string ⟨#[]⟩, .int .i64 0, .int .i64 0, .slice none 0 0] (n - (n - 1))).toList ((n - 1) * 4) X h1 (Nat.le_of_eq h1.1)
    rw [hY]
    exact ⟨h3.1, h2.os ▸ h3.2.os, h2.tape ▸ h3.2.tape, h2.output ▸ h3.2.output, Nat.le_trans h2.size h3.2.size, fun j hj hne => (h3.2.block j (Nat.lt_of_lt_of_le hj h2.size) hne).trans (h2.block j hj hne)⟩)
  clear HX hY
  have hcn : ¬ c = n - 1 := by omega
  go_wp2
  all_goals (go_ret; first | exact ⟨rfl, HY.out.1, HY.out.2⟩ | (have h1 := HY.out; rw [h] at h1; exact ⟨rfl, h1.1, h1.2⟩))

set_option maxRecDepth 20000 in
set_option maxHeartbeats 6400000 in
theorem delMsg_any (l : List MsgD) (B g n c k : Nat) (w : World) (hl : l.length = n) (hn : n ≤ 1048576) (hk : k < n) (h : w.ownsRow B 87 3 (.slice (some ⟨g, 0, none⟩) n c) n (l.flatMap msgc)) :
    Calls Tryz.prog 157 #[.slice (some ⟨g, 0, none⟩) n c, .int .i64 (k : Int), .int .i64 ((k : Int) + 1)] w fun e w' => e = .returned (.slice (some ⟨g, 0, none⟩) (n - 1) c) ∧ w'.ownsRow B 87 3 (.slice (some ⟨g, 0, none⟩) (n - 1) c) (n - 1) ((l.eraseIdx k).flatMap msgc) ∧ w.grownBy w' (some g) := by
  obtain ⟨cur, hg, hnc, hcm, hcs⟩ : ∃ cur, w.heap[g]? = some (.cells cur 87 (0, 0)) ∧ n ≤ c ∧ c ≤ maxLen ∧ cur.size = c * 3 := by
    rcases h.2 with ⟨h0, _⟩ | ⟨g', cap, cur, h0, _, hgg, hnc, hcm, hcs, _⟩
    · simp at h0
    · simp only [Value.slice.injEq, Option.some.injEq, Addr.mk.injEq, and_true, true_and] at h0
      obtain ⟨rfl, rfl⟩ := h0
      exact ⟨cur, hgg, hnc, hcm, hcs⟩
  have hc := own_cut (w := w.drew) msgc_len hl (ownsRow_below h (Below.refl _ _).drew) hk (show w.drew.heap[g]? = _ from hg)
  have hsrc := own_src (w := w.drew) msgc_len hl (ownsRow_below h (Below.refl _ _).drew) (k + 1) (by omega)
  have HC := Lib.hid hc
  have HS := Lib.hid hsrc
  have HG := Lib.hid (show w.drew.heap[g]? = _ from hg)
  have hdl : ((l.drop (k + 1)).flatMap msgc).length = (n - (k + 1)) * 3 := by rw [flat_lenE msgc_len, List.length_drop, hl]
  have HDL := Lib.hid hdl
  have h1 : ∀ u ∈ (l.drop (k + 1)).flatMap msgc, u.oneCell' = true := fun u hu => by
    obtain ⟨x, _, hx⟩ := List.mem_flatMap.1 hu
    exact msgc_one x u hx
  have H1 := Lib.hid h1
  have HCS := Lib.hid hcs
  have ne1 : ((k : Int) == (k : Int) + 1) = false := by rw [beq_eq_false_iff_ne]; omega
  have wk : IntKind.i64.wrap ((k : Int) + 1) = (k : Int) + 1 := IntWalk.i64_in _ (by omega)
  unfold maxLen at hcm
  clear h hc hsrc hg hdl h1 hl hcs
  go_enter Tryz.func157, Tryz.ntmps157
  go_wp2
  refine ord_start [(0, true), (1, true), (2, true), (3, true), (4, true), (5, true), (6, false), (7, true)] (fun _ => True) (by kernel_rfl) (by kernel_rfl) rfl (by kernel_rfl) ?_
  intro ops' hops
  clear hops
  simp only [List.map_cons, List.map_nil, pickOp_zero, pickOp_succ]
  iterate 2 (refine ord_flo ?_ (fun _ _ _ h => h) rfl ?_ trivial ?_; rotate_left; focus (intro _ _; go_simp; rfl))
  refine ord_flo (.slice (some ⟨g, 0, none⟩) k c) (fun _ _ _ h => h) rfl ?_ trivial ?_
  · intro W hS
    go_simp <;> omega
  iterate 2 (refine ord_flo ?_ (fun _ _ _ h => h) rfl ?_ trivial ?_; rotate_left; focus (intro _ _; go_simp; rfl))
  refine ord_flo (.slice (if c = k + 1 then some (⟨g, 0, none⟩ : Addr) else some ⟨g, (k + 1) * 3, none⟩) (n - (k + 1)) (c - (k + 1))) (fun _ _ _ h => h) rfl ?_ trivial ?_
  · intro W hS
    go_simp
    intro h
    omega
  refine ord_ev rfl ?_
  obtain ⟨A, hA, hA2⟩ : ∃ A : Addr, (if c = k + 1 then some (⟨g, 0, none⟩ : Addr) else some ⟨g, (k + 1) * 3, none⟩) = some A ∧ ∀ t u, ((l.drop (k + 1)).flatMap msgc)[t]? = some u → w.drew.cell? (A.add t) = some u := by
    by_cases hck : c = k + 1
    · refine ⟨⟨g, 0, none⟩, if_pos hck, fun t u hu => ?_⟩
      have := (List.getElem?_eq_some_iff.1 hu).1
      rw [HDL.out, show n - (k + 1) = 0 by omega, Nat.zero_mul] at this
      omega
    · exact ⟨⟨g, (k + 1) * 3, none⟩, if_neg hck, HS.out⟩
  refine wp_room Tryz.el_msg (.tmp 22) (.tmp 25) rfl g k c cur HG.out (by rfl) A (n - (k + 1)) (c - (k + 1)) (by go_simp) _ HDL.out hA2 H1.out (by omega) HC.out.2.2.2 ?_
  intro X hX
  have HX := Lib.hid (show X.ownsRow B 87 3 (.slice (some ⟨g, 0, none⟩) (n - 1) c) (n - 1) ((l.eraseIdx k).flatMap msgc) ∧ w.drew.grownBy X (some g) ∧ ∃ cur', X.heap[g]? = some (.cells cur' 87 (0, 0)) ∧ cur'.size = c * 3 by rw [hX]; exact ⟨HC.out.1, HC.out.2.1, HC.out.2.2.1⟩)
  clear hX hA hA2 A HC HS HG HDL H1 HCS
  refine ⟨trivial, ?_⟩
  iterate 1 (refine ord_flo ?_ (fun _ _ _ h => h) rfl ?_ trivial ?_; rotate_left; focus (intro _ _; go_simp; rfl))
  refine ord_done ?_
  go_simp
  rw [show k + (n - (k + 1)) = n - 1 by omega]
  have hcl : ∀ ty, (Builtin.clear_ #[36] ty #[.slice (some ⟨g, (n - 1) * 3, none⟩) (n - (n - 1)) (c - (n - 1))]).run Tryz.prog X = .ok (.tuple #[]) (X.setCells g ((n - 1) * 3) (Builtin.zeroCells #[.int .i64 0, .int .i64 0, .string ⟨#[]⟩] (n - (n - 1))).toList) := by
    intro ty
    obtain ⟨_, _, cur', hg', hs'⟩ := HX.out
    have hin : ∀ j, j < (n - (n - 1)) * 3 → (n - 1) * 3 + j < cur'.size := fun j hj => by
      rw [show n - (n - 1) = 1 by omega] at hj
      have : n * 3 ≤ c * 3 := Nat.mul_le_mul_right 3 hnc
      omega
    exact run_clear_cells X _ _ ty (.agg #[.int .i64 0, .int .i64 0, .string ⟨#[]⟩]) Tryz.underlying36 Tryz.zeroValue87 (by intro v hv; simp [Value.cells] at hv; rcases hv with rfl | rfl | rfl <;> rfl) g _ _ _ (by omega) (fun j hj => by rw [Lib.cell_of_heap hg', Array.getElem?_eq_getElem (hin j (by simpa [Value.cells] using hj))]; rfl) (fun j _ => Lib.frozen_of_heap hg' _)
  obtain ⟨Y, hY⟩ : ∃ Y, Y = X.setCells g ((n - 1) * 3) (Builtin.zeroCells #[.int .i64 0, .int .i64 0, .string ⟨#[]⟩] (n - (n - 1))).toList := ⟨_, rfl⟩
  rw [← hY] at hcl
  have HY := Lib.hid (show Y.ownsRow B 87 3 (.slice (some ⟨g, 0, none⟩) (n - 1) c) (n - 1) ((l.eraseIdx k).flatMap msgc) ∧ w.grownBy Y (some g) by
    obtain ⟨h1, h2, _⟩ := HX.out
    have h3 := own_past (Builtin.zeroCells #[.int .i64 0, .int .i64 0, .string ⟨#[]⟩] (n - (n - 1))).toList ((n - 1) * 3) X h1 (Nat.le_of_eq h1.1)
    rw [hY]
    exact ⟨h3.1, h2.os ▸ h3.2.os, h2.tape ▸ h3.2.tape, h2.output ▸ h3.2.output, Nat.le_trans h2.size h3.2.size, fun j hj hne => (h3.2.block j (Nat.lt_of_lt_of_le hj h2.size) hne).trans (h2.block j hj hne)⟩)
  clear HX hY
  have hcn : ¬ c = n - 1 := by omega
  go_wp2
  all_goals (go_ret; first | exact ⟨rfl, HY.out.1, HY.out.2⟩ | (have h1 := HY.out; rw [h] at h1; exact ⟨rfl, h1.1, h1.2⟩))

set_option maxRecDepth 20000 in
set_option maxHeartbeats 1600000 in
theorem cloneBox_any (v : Value) (l : List BP) (w : World) (hr : Rd 4 encP w v l) (hl : l.length ≤ 1048576) :
    Calls Tryz.prog 138 #[v] w fun e w' => ∃ p c, e = .returned (.slice p l.length c) ∧ w'.ownsRow w.heap.size 38 4 (.slice p l.length c) l.length (l.flatMap encP) ∧ Below w.heap.size w w' := by
  obtain ⟨p, c, rfl, hc⟩ := hr.ex
  have HR := Lib.hid hr
  cases p with
  | none =>
    have hn : l = [] := hc.resolve_right (by rintro ⟨_, _, h, _⟩; cases h)
    subst hn
    have q := fun W : World => Lib.run_eql_slice_nil (P := Tryz.prog) W 24 38 none 0 c 0 0 Tryz.underlying24
    clear hr hc HR
    go_enter Tryz.func138, Tryz.ntmps138
    go_wp2
    go_ret
    exact ⟨none, 0, rfl, World.ownsRow_nil _ _ _ _, Below.refl _ _⟩
  | some a =>
    have hb0 : Below w.heap.size w (w.alloc (.cells #[] 38)) := (Below.refl _ _).alloc (Nat.le_refl _) _
    have HB := Lib.hid hb0
    have q := fun W : World => Lib.run_eql_slice_nil (P := Tryz.prog) W 24 38 (some a) l.length c 0 0 Tryz.underlying24
    clear hr hc hb0
    go_enter Tryz.func138, Tryz.ntmps138
    go_wp2_with (at_builtin; refine wpList_app9 rfl Tryz.el_box encP_len encP_one (.tmp 5) (.tmp 6) rfl w (.slice (some ⟨w.heap.size, 0, none⟩) 0 0) 0 [] rfl (World.ownsRow_made w #[] 0 (Nat.le_refl _) (Nat.zero_le _) (by simp)) HB.out HB.out.size _ l rfl (HR.out.below HB.out) (by omega) (by omega) ?_)
    intro v1 w1 ho1 hb1 _
    obtain ⟨p1, c1, rfl, _⟩ := own9_form ho1
    have HO := Lib.hid ho1
    have HB1 := Lib.hid hb1
    clear ho1 hb1 HR HB
    go_wp2
    go_ret
    exact ⟨p1, c1, rfl, HO.out, HB1.out⟩

set_option maxRecDepth 20000 in
set_option maxHeartbeats 1600000 in
theorem cloneMsg_any (v : Value) (l : List MsgD) (w : World) (hr : Rd 3 msgc w v l) (hl : l.length ≤ 1048576) :
    Calls Tryz.prog 139 #[v] w fun e w' => ∃ p c, e = .returned (.slice p l.length c) ∧ w'.ownsRow w.heap.size 87 3 (.slice p l.length c) l.length (l.flatMap msgc) ∧ Below w.heap.size w w' := by
  obtain ⟨p, c, rfl, hc⟩ := hr.ex
  have HR := Lib.hid hr
  cases p with
  | none =>
    have hn : l = [] := hc.resolve_right (by rintro ⟨_, _, h, _⟩; cases h)
    subst hn
    have q := fun W : World => Lib.run_eql_slice_nil (P := Tryz.prog) W 36 87 none 0 c 0 0 Tryz.underlying36
    clear hr hc HR
    go_enter Tryz.func139, Tryz.ntmps139
    go_wp2
    go_ret
    exact ⟨none, 0, rfl, World.ownsRow_nil _ _ _ _, Below.refl _ _⟩
  | some a =>
    have hb0 : Below w.heap.size w (w.alloc (.cells #[] 87)) := (Below.refl _ _).alloc (Nat.le_refl _) _
    have HB := Lib.hid hb0
    have q := fun W : World => Lib.run_eql_slice_nil (P := Tryz.prog) W 36 87 (some a) l.length c 0 0 Tryz.underlying36
    clear hr hc hb0
    go_enter Tryz.func139, Tryz.ntmps139
    go_wp2_with (at_builtin; refine wpList_app9 rfl Tryz.el_msg msgc_len msgc_one (.tmp 5) (.tmp 6) rfl w (.slice (some ⟨w.heap.size, 0, none⟩) 0 0) 0 [] rfl (World.ownsRow_made w #[] 0 (Nat.le_refl _) (Nat.zero_le _) (by simp)) HB.out HB.out.size _ l rfl (HR.out.below HB.out) (by omega) (by omega) ?_)
    intro v1 w1 ho1 hb1 _
    obtain ⟨p1, c1, rfl, _⟩ := own9_form ho1
    have HO := Lib.hid ho1
    have HB1 := Lib.hid hb1
    clear ho1 hb1 HR HB
    go_wp2
    go_ret
    exact ⟨p1, c1, rfl, HO.out, HB1.out⟩

end Go.Proofs.YtbfgdbpfecffcaaGreatDoor
