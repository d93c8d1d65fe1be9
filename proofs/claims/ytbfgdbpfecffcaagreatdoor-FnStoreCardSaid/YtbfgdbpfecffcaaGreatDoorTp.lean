/-
  Tp: StoX StoY (what the claim needs of them).
-/
import Derived.Handy
import Derived.Deep.DeepCutAuto
import Derived.Test.YtbfgdbpfecffcaaGreatDoorRows
import Derived.WalkKit
import Derived.WalkSpells
import Derived.WalkLawsBesides
import Derived.Laws.IdiomStrings
import Derived.Lib.Hide
import Derived.Deep.AppendLies
import Derived.OrdersHeld
import Derived.Lib.ItoaNum
import Derived.Lib.ItoaMem
import Derived.Lib.AppendStr
import Derived.Lib.ItoaLen
import Derived.Lib.Strings
import Derived.Lib.Bytealg
import Derived.Lib.OthersKept
import Derived.Laws.RangeAny
import Derived.Laws.BitsAllLaws
import Derived.Laws.BitsLemmas
import Derived.IntWalk
import Derived.Lib.Join
import Derived.Deep.Strs
import Derived.Test.YtbfgdbpfecffcaaGreatDoorProg
import Derived.Laws.Tables
import Derived.Deep.Cut
import Derived.Test.YtbfgdbpfecffcaaGreatDoorSb
import Derived.Test.YtbfgdbpfecffcaaGreatDoorSc
import Derived.Test.YtbfgdbpfecffcaaGreatDoorSd
import Derived.Test.YtbfgdbpfecffcaaGreatDoorSe
import Derived.Test.YtbfgdbpfecffcaaGreatDoorSf
import Derived.Test.YtbfgdbpfecffcaaGreatDoorSl
import Derived.Test.YtbfgdbpfecffcaaGreatDoorSm
import Derived.Test.YtbfgdbpfecffcaaGreatDoorSo
import Derived.Test.YtbfgdbpfecffcaaGreatDoorSq
import Derived.Test.YtbfgdbpfecffcaaGreatDoorSx
import Derived.Test.YtbfgdbpfecffcaaGreatDoorTa
import Derived.Test.YtbfgdbpfecffcaaGreatDoorTb
import Derived.Test.YtbfgdbpfecffcaaGreatDoorTc
import Derived.Test.YtbfgdbpfecffcaaGreatDoorTd
import Derived.Test.YtbfgdbpfecffcaaGreatDoorTk
import Derived.Test.YtbfgdbpfecffcaaGreatDoorTl
import Derived.Test.YtbfgdbpfecffcaaGreatDoorTm
import Derived.Test.YtbfgdbpfecffcaaGreatDoorTn
import Derived.Test.YtbfgdbpfecffcaaGreatDoorTo

namespace Go.Proofs.YtbfgdbpfecffcaaGreatDoor
open Go.RowKit

theorem SmS.wide {n k : Nat} {x : StoD} (h : SmS n x) (hk : n ≤ k) : SmS k x := ⟨h.1, ⟨by have := h.2.1.1; omega, h.2.1.2⟩, h.2.2⟩
theorem SmS.snoc {n : Nat} {x : StoD} {y : ComD} (h : SmS n x) (hl : x.log.length < n) (hy : ComSm y) : SmS n ⟨x.boxes, x.log ++ [y], x.given⟩ := by
  refine ⟨h.1, ⟨by simp only [List.length_append, List.length_cons, List.length_nil]; omega, fun z hz => ?_⟩, h.2.2⟩
  rcases List.mem_append.1 hz with hz | hz
  · exact h.2.1.2 z hz
  · rw [List.mem_singleton.1 hz]; exact hy
def lenAt (W : World) (a : Addr) : Nat := match W.cell? a with | some (.slice _ n _) => n | _ => 0
theorem lenAt_of {W : World} {a : Addr} {p : Option Addr} {n c : Nat} (h : W.cell? a = some (.slice p n c)) : lenAt W a = n := by unfold lenAt; rw [h]
section
variable {w W W' : World} {g m my : Nat} {code : List UInt8} {x : StoD} {z0 z1 : Value}
theorem StS.lgm (h : StS w g code m x z0 z1 W) : ∀ k, z1.ownBlock = some k → k ≠ m := fun k hk e => by
  obtain ⟨cur, hc⟩ := own_type h.lg (show k ∈ z1.ownBlock.toList by rw [hk]; simp)
  rw [e, h.blk] at hc
  injection hc with hc
  injection hc with _ hc _
  exact absurd hc (by decide)
/-- Beside it the commit that the loop appends, in block my. -/
structure StZ (w : World) (g : Nat) (code : List UInt8) (m : Nat) (x : StoD) (z0 z1 : Value) (my : Nat) (W : World) : Prop where
  st : StS w g code m x z0 z1 W
  blk : W.heap[my]? = some (.cells #[.int .i64 5, .int .i64 1, .int .i64 1, .int .i64 3, .string ⟨#[]⟩, .string ⟨#[]⟩] 26 (0, 0))
  lb : ∀ k, z1.ownBlock = some k → k ≠ my
  mm : m < my
theorem StZ.of (h : StS w g code m x z0 z1 W) : StZ w g code m x z0 z1 W.heap.size (W.alloc (.cells #[.int .i64 5, .int .i64 1, .int .i64 1, .int .i64 3, .string ⟨#[]⟩, .string ⟨#[]⟩] 26)) :=
  ⟨h.under ((Below.refl W.heap.size W).alloc (Nat.le_refl _) _), heap_alloc_new W _, fun k hk => by have := (h.lg.lt k hk).2; omega, (Array.getElem?_eq_some_iff.1 h.blk).1⟩
theorem StZ.draw (h : StZ w g code m x z0 z1 my W) (hg : W.grownBy W' (some g)) (hc : Cur W' g code) : StZ w g code m x z0 z1 my W' := by
  have h1 := h.mm
  have h2 := h.st.om
  have h3 := h.st.og
  exact ⟨h.st.draw hg hc, (hg.block my (Array.getElem?_eq_some_iff.1 h.blk).1 (fun e => by injection e with e; omega)).trans h.blk, h.lb, h.mm⟩
theorem StZ.more (h : StZ w g code m x z0 z1 my W) {y : ComD} {gn cap : Nat} (hg : W.grownBy W' z1.ownBlock) (hor : z1.ownBlock = some gn ∨ W.heap.size ≤ gn) (hlt : gn < W'.heap.size) (ho : W'.ownsRow (w.heap.size + 1) 26 6 (.slice (some ⟨gn, 0, none⟩) (x.log.length + 1) cap) (x.log.length + 1) (x.log.flatMap comc ++ comc y)) : StZ w g code m ⟨x.boxes, x.log ++ [y], x.given⟩ z0 (.slice (some ⟨gn, 0, none⟩) (x.log.length + 1) cap) my (W'.setCell ⟨m, 1, none⟩ (.slice (some ⟨gn, 0, none⟩) (x.log.length + 1) cap)) := by
  have h1 := h.mm
  have hmy := (Array.getElem?_eq_some_iff.1 h.blk).1
  refine ⟨h.st.more hg hlt ho, (set_other (by omega)).trans ((hg.block my hmy (fun e => h.lb my e.symm rfl)).trans h.blk), fun k hk => ?_, h.mm⟩
  have hk2 : gn = k := by simpa [Value.ownBlock] using hk
  rcases hor with h4 | h4
  · exact h.lb k (by rw [h4, hk2])
  · omega
end

set_option maxRecDepth 20000 in
set_option maxHeartbeats 6400000 in
theorem l11Bent_any (g : Nat) (code : List UInt8) (w : World) (hc : Cur w g code) :
    Calls Tryz.prog 82 #[.pointer (some ⟨g, 0, none⟩)] w fun e w' => StoPost 302 g code w e w' := by
  have hb0 : Below w.heap.size w (w.alloc (.cells #[.slice none 0 0, .slice none 0 0, .int .i64 0] 46)) := (Below.refl _ _).alloc (Nat.le_refl _) _
  have n0 := heap_alloc_new w (.cells #[.slice none 0 0, .slice none 0 0, .int .i64 0] 46)
  have C0 := Lib.hid (l11Right_any g code (w.alloc (.cells #[.slice none 0 0, .slice none 0 0, .int .i64 0] 46)) (hc.below hb0))
  have H0 := Lib.hid (And.intro hb0 (And.intro n0 hc))
  clear hb0 n0 hc
  go_enter Tryz.func82, Tryz.ntmps82
  go_wp2_with fail
  refine C0.out.mono ?_
  rintro e w1 ⟨x, z0, z1, rfl, hsm, ⟨f, hbx⟩, hlg, hc1, hg1⟩
  rw [World.size_alloc] at hbx hlg
  obtain ⟨p0, c0, rfl⟩ := LfIn.slice hbx.is
  obtain ⟨p1, c1, rfl, -⟩ := own9_form hlg
  have hb2 := (Below.refl w1.heap.size w1).alloc (Nat.le_refl _) (.cells #[.slice p0 x.boxes.length c0, .slice p1 x.log.length c1, .int .i64 x.given] 46)
  have n2 := heap_alloc_new w1 (.cells #[.slice p0 x.boxes.length c0, .slice p1 x.log.length c1, .int .i64 x.given] 46)
  have HS := Lib.hid (show StS w g code w1.heap.size x (.slice p0 x.boxes.length c0) (.slice p1 x.log.length c1) (w1.alloc (.cells #[.slice p0 x.boxes.length c0, .slice p1 x.log.length c1, .int .i64 x.given] 46)) by
    obtain ⟨h1, h2, h4⟩ := H0.out
    have hz1 := hg1.size
    rw [World.size_alloc] at hz1
    have hlt := h4.lt
    have hres1 := (hg1.block w.heap.size (by rw [World.size_alloc]; omega) (fun e => by injection e with e; omega)).trans h2
    exact ⟨hc1.below hb2, n2, (hb2.block _ (by omega)).trans hres1, ⟨f, hbx.below hb2⟩, ownsRow_below hlg hb2, grown_grown (grown_grown (grown_of_below h1) hg1) (grown_of_below hb2), h4.lt, by omega⟩)
  have HM := Lib.hid hsm
  go_upto_region 2 with fail
  refine wp_named1 ?_
  intro X hX
  rw [← hX] at HS
  obtain ⟨m, hm⟩ : ∃ m, w1.heap.size = m := ⟨_, rfl⟩
  rw [hm] at HS ⊢
  clear hX hm hb2 n2 hbx hlg hc1 hg1 hsm C0 H0
  have CB := Lib.hid (l1Below_any g code 10 10 rfl X HS.out.cur (by omega) (by omega))
  go_wp2_with fail
  refine CB.out.mono ?_
  rintro e w3 ⟨n, rfl, hn, hc3, hg3⟩
  have HS3 := Lib.hid (HS.out.draw hg3 hc3)
  clear hc3 hg3 HS CB
  rcases (show n = 0 ∨ n = 1 ∨ n = 2 ∨ n = 3 ∨ n = 4 ∨ 5 ≤ n by omega) with rfl | rfl | rfl | rfl | rfl | hn5
  · go_wp2_with fail
    refine (l9Bent_any g code _ HS3.out.cur).mono ?_
    rintro e w4 ⟨l2, v2, f2, rfl, h5, hsm2, hin2, hlow2, hc4, hg4⟩
    obtain ⟨p2, c2, rfl⟩ := LfIn.slice hin2
    have HS4 := Lib.hid (HS3.out.draw hg4 hc4)
    have HY := Lib.hid (show SmS 302 ⟨l2, x.log, x.given⟩ from ⟨⟨h5, hsm2⟩, (HM.out.wide (k := 302) (by omega)).2⟩)
    have HS5 := Lib.hid (HS4.out.put (x' := ⟨l2, x.log, x.given⟩) (z0' := .slice p2 l2.length c2) (z1' := .slice p1 x.log.length c1) 0 (.slice p2 l2.length c2) rfl ⟨f2, hin2, fun q hq => by have h1 := hlow2 q hq; have h2 := (Array.getElem?_eq_some_iff.1 HS3.out.res).1; omega⟩ HS4.out.lg)
    clear h5 hsm2 hin2 hlow2 hc4 hg4
    obtain ⟨⟨a0, -, -⟩, ⟨f0, -, -⟩⟩ := HS4.out.cells
    clear HS3 HS4
    go_upto_region 16 with fail
    refine wp_named1 ?_
    intro Y hY
    have HSY := Lib.hid (show StS w g code m ⟨l2, x.log, x.given⟩ (.slice p2 l2.length c2) (.slice p1 x.log.length c1) Y by rw [hY]; exact HS5.out)
    clear hY HS5 a0 f0
    obtain ⟨⟨a0, a1, a2⟩, -⟩ := HSY.out.cells
    obtain ⟨⟨q0, q1, q2⟩, ⟨y0, y1, y2⟩, t0, t1, t2⟩ := blk_3c HSY.out.res
    have HF := Lib.hid (fun a b c => HSY.out.ret (n := 302) HY.out a b c)
    clear HSY
    go_wp2_with fail
    exact bodyPost_ret (v := .agg #[.slice p2 l2.length c2, .slice p1 x.log.length c1, .int .i64 x.given]) (by simp [results, Tryz.results82, go_sem, t0, t1, t2]) rfl (HF.out _ _ _)
  · have HD := Lib.hid (HS3.out.draw (grown_of_below (Below.refl _ _).drew) (HS3.out.cur.below (Below.refl _ _).drew))
    clear HS3
    go_wp2
    refine ordz_start [(0, true), (1, true), (2, true), (3, true), (4, true), (5, false), (6, false), (7, false), (8, true), (9, false)] 9 (fun W => W.cell? ⟨m, 0, none⟩ = some (.slice p0 x.boxes.length c0) ∧ W.cell? ⟨m, 1, none⟩ = some (.slice p1 x.log.length c1)) (by kernel_rfl) (by kernel_rfl) rfl (by kernel_rfl) ?_
    intro ops' hops
    clear hops
    simp only [List.map_cons, List.map_nil, pickOp_zero, pickOp_succ]
    generalize w3.drew = D at *
    obtain ⟨⟨d0, d1, -⟩, -⟩ := HD.out.cells
    iterate 5 (refine ordz_flo ?_ (fun _ _ _ h => h) rfl ?_ ⟨d0, d1⟩ ?_; rotate_left; focus (intro W hS; obtain ⟨s0, s1⟩ := hS; go_simp; rfl))
    refine ordz_ev rfl ?_
    go_simp
    refine (l10Bent_any g code x.boxes (.slice p0 x.boxes.length c0) HD.out.bx.choose D HD.out.cur HD.out.bx.choose_spec.is (fun hm => by have := HD.out.bx.choose_spec.low _ hm; have := HD.out.og; omega) HM.out.1.1 HM.out.1.2).mono ?_
    rintro e w5 ⟨y, rfl, hy, hc5, hg5⟩
    have HY := Lib.hid hy
    have HS5 := Lib.hid (HD.out.draw hg5 hc5)
    clear hy hc5 hg5 HD d0 d1
    obtain ⟨⟨d0, d1, -⟩, -⟩ := HS5.out.cells
    refine ⟨⟨d0, d1⟩, ?_⟩
    have hmD := (Array.getElem?_eq_some_iff.1 HS5.out.blk).1
    have hsz := (Array.getElem?_eq_some_iff.1 HS5.out.res).1
    have hb1 := (Below.refl w5.heap.size w5).alloc (Nat.le_refl _) (.cells #[.int .i64 y.kind, .int .i64 y.validity, .int .i64 y.uid, .int .i64 y.flags, sv y.name, sv y.text] 26)
    have d0a := (hb1.cell (p := ⟨m, 0, none⟩) hmD).trans d0
    have d1a := (hb1.cell (p := ⟨m, 1, none⟩) hmD).trans d1
    refine ordz_ev rfl ?_
    go_simp
    clear d0a d1a hb1
    refine ordz_ev rfl ?_
    refine wp_app1 Tryz.el_commit (.tmp 17) (.tmp 22) rfl w5 w5 (.slice p1 x.log.length c1) x.log.length (x.log.flatMap comc) rfl HS5.out.lg (Below.refl _ _) hsz #[.int .i64 y.kind, .int .i64 y.validity, .int .i64 y.uid, .int .i64 y.flags, sv y.name, sv y.text] (.inr rfl) 1 1 rfl rfl (by simp [Value.oneCell']) (by omega) (by have := HM.out.2.1.1; omega) (by have := HM.out.2.1.1; omega) ?_
    intro gn cap w6 ho6 hb6 hg6 hor6 hlt6
    have HMO := Lib.hid (HS5.out.more (y := y) hg6 hlt6 ho6)
    have hk6 : w6.heap[m]? = some (.cells #[.slice p0 x.boxes.length c0, .slice p1 x.log.length c1, .int .i64 x.given] 46 (0, 0)) := (hg6.block m hmD (fun e => HS5.out.lgm m e.symm rfl)).trans HS5.out.blk
    have HN := Lib.hid ((HM.out.wide (k := 302) (by omega)).snoc (by have := HM.out.2.1.1; omega) HY.out)
    obtain ⟨⟨k0, k1, -⟩, ⟨-, f1, -⟩, -⟩ := blk_3c hk6
    clear ho6 hb6 hg6 hor6 hlt6 hk6 d0 d1 HS5 hmD hsz
    refine ⟨fun _ => ⟨k0, k1⟩, ?_⟩
    iterate 1 (refine ordz_flo ?_ (fun _ _ _ h => h) rfl ?_ ⟨k0, k1⟩ ?_; rotate_left; focus (intro W hS; obtain ⟨s0, s1⟩ := hS; go_simp; rfl))
    refine ordz_ev rfl ?_
    go_simp
    refine ordz_done ?_
    go_simp
    clear k0 k1 f1
    go_upto_region 16 with fail
    refine wp_named1 ?_
    intro Y hY
    have HSY := Lib.hid (show StS w g code m ⟨x.boxes, x.log ++ [y], x.given⟩ (.slice p0 x.boxes.length c0) (.slice (some ⟨gn, 0, none⟩) (x.log.length + 1) cap) Y by rw [hY]; exact HMO.out)
    clear hY HMO
    obtain ⟨⟨a0, a1, a2⟩, -⟩ := HSY.out.cells
    obtain ⟨⟨q0, q1, q2⟩, ⟨y0, y1, y2⟩, t0, t1, t2⟩ := blk_3c HSY.out.res
    have HF := Lib.hid (fun a b c => HSY.out.ret (n := 302) HN.out a b c)
    clear HSY
    go_wp2_with fail
    exact bodyPost_ret (v := .agg #[.slice p0 x.boxes.length c0, .slice (some ⟨gn, 0, none⟩) (x.log.length + 1) cap, .int .i64 x.given]) (by simp [results, Tryz.results82, go_sem, t0, t1, t2]) rfl (HF.out _ _ _)
  · have hsa := HS3.out.under ((Below.refl w3.heap.size w3).alloc (Nat.le_refl _) (.cells #[.int .i64 0, .int .i64 1, .int .i64 (-1), .int .i64 999999999, .int .i64 1000000000] 3))
    go_wp2_with fail
    refine (l1PickInt_any g code _ [0, 1, -1, 999999999, 1000000000] _ hsa.cur (Rd1_lit (b := w3.heap.size) _ (heap_alloc_new w3 _) rfl rfl) (Apart_new HS3.out.cur.lt) (by simp) (by simp)).mono ?_
    rintro e w4 ⟨u, rfl, hu, hc4, hg4⟩
    have hu2 : in64 u := (show ∀ x ∈ ([0, 1, -1, 999999999, 1000000000] : List Int), -9223372036854775808 ≤ x ∧ x ≤ 9223372036854775807 by decide) u hu
    have HS4 := Lib.hid (hsa.draw hg4 hc4)
    have HY := Lib.hid (show SmS 302 ⟨x.boxes, x.log, u⟩ from ⟨HM.out.1, ⟨by have := HM.out.2.1.1; show x.log.length ≤ _; omega, HM.out.2.1.2⟩, hu2⟩)
    clear hsa hu hc4 hg4 HS3 hu2
    have HS5 := Lib.hid (HS4.out.put (x' := ⟨x.boxes, x.log, u⟩) (z0' := .slice p0 x.boxes.length c0) (z1' := .slice p1 x.log.length c1) 2 (.int .i64 u) rfl HS4.out.bx HS4.out.lg)
    obtain ⟨⟨-, -, a2⟩, ⟨-, -, f2⟩⟩ := HS4.out.cells
    clear HS4
    go_upto_region 16 with fail
    refine wp_named1 ?_
    intro Y hY
    have HSY := Lib.hid (show StS w g code m ⟨x.boxes, x.log, u⟩ (.slice p0 x.boxes.length c0) (.slice p1 x.log.length c1) Y by rw [hY]; exact HS5.out)
    clear hY HS5 a2 f2
    obtain ⟨⟨a0, a1, a2⟩, -⟩ := HSY.out.cells
    obtain ⟨⟨q0, q1, q2⟩, ⟨y0, y1, y2⟩, t0, t1, t2⟩ := blk_3c HSY.out.res
    have HF := Lib.hid (fun a b c => HSY.out.ret (n := 302) HY.out a b c)
    clear HSY
    go_wp2_with fail
    exact bodyPost_ret (v := .agg #[.slice p0 x.boxes.length c0, .slice p1 x.log.length c1, .int .i64 u]) (by simp [results, Tryz.results82, go_sem, t0, t1, t2]) rfl (HF.out _ _ _)
  · have HD := Lib.hid (HS3.out.draw (grown_of_below (Below.refl _ _).drew) (HS3.out.cur.below (Below.refl _ _).drew))
    clear HS3
    have hwr : IntKind.i64.wrap ((x.log.length : Int) + 1) = (x.log.length : Int) + 1 := IntWalk.i64_in _ (by have := HM.out.2.1.1; omega)
    go_wp2
    refine ordz_start [(0, true), (1, true), (2, true), (3, true), (4, true), (5, true), (6, true), (7, false), (8, true), (9, true), (10, false)] 10 (fun W => W.cell? ⟨m, 1, none⟩ = some (.slice p1 x.log.length c1)) (by kernel_rfl) (by kernel_rfl) rfl (by kernel_rfl) ?_
    intro ops' hops
    clear hops
    simp only [List.map_cons, List.map_nil, pickOp_zero, pickOp_succ]
    generalize w3.drew = D at *
    obtain ⟨⟨-, d1, -⟩, -⟩ := HD.out.cells
    iterate 7 (refine ordz_flo ?_ (fun _ _ _ h => h) rfl ?_ d1 ?_; rotate_left; focus (intro W hS; obtain s1 := hS; go_simp; rfl))
    refine ordz_ev rfl ?_
    go_simp
    refine (l1Below_any g code _ (x.log.length + 1) (by omega) D HD.out.cur (by omega) (by have := HM.out.2.1.1; omega)).mono ?_
    rintro e w5 ⟨k, rfl, hk, hc5, hg5⟩
    have HS5 := Lib.hid (HD.out.draw hg5 hc5)
    clear hc5 hg5 HD d1 hwr
    obtain ⟨⟨-, d1, -⟩, ⟨-, f1, -⟩⟩ := HS5.out.cells
    refine ⟨d1, ?_⟩
    have hcap : x.log.length ≤ c1 := HS5.out.rd.2.2.2 _ _ _ rfl
    have HCU := Lib.hid (HS5.out.cut (k := k) (by omega))
    have HN := Lib.hid (show SmS 302 ⟨x.boxes, x.log.take k, x.given⟩ from ⟨HM.out.1, ⟨by have := HM.out.2.1.1; simp only [List.length_take]; omega, fun y hy => HM.out.2.1.2 y (List.mem_of_mem_take hy)⟩, HM.out.2.2⟩)
    refine ordz_flo (.slice p1 k c1) (fun _ _ _ h => h) rfl ?_ d1 ?_
    · intro W hS
      go_simp
      intro hh
      exact absurd hh (by omega)
    iterate 1 (refine ordz_flo ?_ (fun _ _ _ h => h) rfl ?_ d1 ?_; rotate_left; focus (intro W hS; obtain s1 := hS; go_simp; rfl))
    refine ordz_ev rfl ?_
    go_simp
    refine ordz_done ?_
    go_simp
    clear d1 f1 HS5 hcap
    go_upto_region 16 with fail
    refine wp_named1 ?_
    intro Y hY
    have HSY := Lib.hid (show StS w g code m ⟨x.boxes, x.log.take k, x.given⟩ (.slice p0 x.boxes.length c0) (.slice p1 k c1) Y by rw [hY]; exact HCU.out)
    clear hY HCU
    obtain ⟨⟨a0, a1, a2⟩, -⟩ := HSY.out.cells
    obtain ⟨⟨q0, q1, q2⟩, ⟨y0, y1, y2⟩, t0, t1, t2⟩ := blk_3c HSY.out.res
    have HF := Lib.hid (fun a b c => HSY.out.ret (n := 302) HN.out a b c)
    clear HSY
    go_wp2_with fail
    exact bodyPost_ret (v := .agg #[.slice p0 x.boxes.length c0, .slice p1 k c1, .int .i64 x.given]) (by simp [results, Tryz.results82, go_sem, t0, t1, t2]) rfl (HF.out _ _ _)
  · have CO := Lib.hid (l1Once_any g code 4 4 rfl w3 HS3.out.cur (by omega) (by omega))
    go_wp2_with fail
    refine CO.out.mono ?_
    rintro e w4 ⟨b, rfl, hc4, hg4⟩
    have HS4 := Lib.hid (HS3.out.draw hg4 hc4)
    clear hc4 hg4 HS3 CO
    cases b with
    | false =>
      go_upto_region 16 with fail
      obtain ⟨⟨a0, a1, a2⟩, -⟩ := HS4.out.cells
      obtain ⟨⟨q0, q1, q2⟩, ⟨y0, y1, y2⟩, t0, t1, t2⟩ := blk_3c HS4.out.res
      have HF := Lib.hid (fun a b c => HS4.out.ret (n := 302) (HM.out.wide (by omega)) a b c)
      clear HS4
      go_wp2_with fail
      exact bodyPost_ret (v := .agg #[.slice p0 x.boxes.length c0, .slice p1 x.log.length c1, .int .i64 x.given]) (by simp [results, Tryz.results82, go_sem, t0, t1, t2]) rfl (HF.out _ _ _)
    | true =>
    have HZ := Lib.hid (StZ.of HS4.out)
    obtain ⟨my, hmy⟩ : ∃ my, w4.heap.size = my := ⟨_, rfl⟩
    have HMX := Lib.hid (HM.out.wide (k := 302) (by omega))
    clear HS4 HM
    go_wp2
    rw [hmy] at HZ
    clear hmy
    go_loopw [] (fun wr => ∃ (y : StoD) (z0 z1 : Value), SmS 302 y ∧ StZ w g code m y z0 z1 my wr) (fun wr => 302 - lenAt wr ⟨m, 1, none⟩)
    case atStart => exact ⟨x, _, _, HMX.out, HZ.out⟩
    case round =>
      obtain ⟨y, z0, z1, hsm, hst⟩ := hrel
      have HST := Lib.hid hst
      have HSM := Lib.hid hsm
      clear HZ HMX hst hsm
      obtain ⟨p2, c2, p3, c3, rfl, rfl⟩ := HST.out.st.slices
      have HL := Lib.hid (lenAt_of HST.out.st.cells.1.2.1)
      have HD := Lib.hid (HST.out.draw (grown_of_below (Below.refl _ _).drew) (HST.out.st.cur.below (Below.refl _ _).drew))
      obtain ⟨⟨-, d1, -⟩, -⟩ := HD.out.st.cells
      have CB2 := Lib.hid (l1Below_any g code 3 3 rfl wr.drew HD.out.st.cur (by omega) (by omega))
      clear HST
      go_wp2
      refine ord_start [(0, true), (1, true), (2, true), (3, true), (4, false), (5, true), (6, true)] (fun W => W.cell? ⟨m, 1, none⟩ = some (.slice p3 y.log.length c3)) (by kernel_rfl) (by kernel_rfl) rfl (by kernel_rfl) ?_
      intro ops' hops
      clear hops
      simp only [List.map_cons, List.map_nil, pickOp_zero, pickOp_succ]
      iterate 4 (refine ord_flo ?_ (fun _ _ _ h => h) rfl ?_ d1 ?_; rotate_left; focus (intro W hS; obtain s1 := hS; go_simp; rfl))
      refine ord_ev rfl ?_
      go_simp
      refine CB2.out.mono ?_
      rintro e w5 ⟨n2, rfl, hn2, hc5, hg5⟩
      have HZ5 := Lib.hid (HD.out.draw hg5 hc5)
      clear hc5 hg5 HD CB2 d1
      obtain ⟨⟨-, d1, -⟩, -⟩ := HZ5.out.st.cells
      have HN2 := Lib.hid hn2
      have hw2 : IntKind.i64.wrap (299 + (n2 : Int)) = 299 + (n2 : Int) := IntWalk.i64_in _ (by have := HN2.out; omega)
      clear hn2
      refine ⟨d1, ?_⟩
      iterate 2 (refine ord_flo ?_ (fun _ _ _ h => h) rfl ?_ d1 ?_; rotate_left; focus (intro W hS; obtain s1 := hS; go_simp; rfl))
      refine ord_done ?_
      go_simp
      by_cases hlt : (y.log.length : Int) < 299 + (n2 : Int)
      case neg =>
        clear d1
        have HSY := Lib.hid HZ5.out.st
        clear HZ5 HL
        go_upto_region 16 with fail
        obtain ⟨⟨a0, a1, a2⟩, -⟩ := HSY.out.cells
        obtain ⟨⟨q0, q1, q2⟩, ⟨y0, y1, y2⟩, t0, t1, t2⟩ := blk_3c HSY.out.res
        have HF := Lib.hid (fun a b c => HSY.out.ret (n := 302) HSM.out a b c)
        clear HSY
        go_wp2_with fail
        exact bodyPost_ret (v := .agg #[.slice p2 y.boxes.length c2, .slice p3 y.log.length c3, .int .i64 y.given]) (by simp [results, Tryz.results82, go_sem, t0, t1, t2]) rfl (HF.out _ _ _)
      have HLT := Lib.hid (show y.log.length < 302 by have := HN2.out; omega)
      have hbl : w5.heap[my]? = some (.cells #[.int .i64 (⟨5, 1, 1, 3, [], []⟩ : ComD).kind, .int .i64 (⟨5, 1, 1, 3, [], []⟩ : ComD).validity, .int .i64 (⟨5, 1, 1, 3, [], []⟩ : ComD).uid, .int .i64 (⟨5, 1, 1, 3, [], []⟩ : ComD).flags, sv (⟨5, 1, 1, 3, [], []⟩ : ComD).name, sv (⟨5, 1, 1, 3, [], []⟩ : ComD).text] 26 (0, 0)) := HZ5.out.blk
      obtain ⟨⟨m0, m1, m2, m3, m4, m5⟩, -⟩ := com6 hbl
      have hsz := (Array.getElem?_eq_some_iff.1 HZ5.out.st.res).1
      clear hbl
      go_wp2_with (at_builtin; refine wpList_app1 Tryz.el_commit rfl (.tmp 56) (.tmp 58) rfl w5 w5 (.slice p3 y.log.length c3) y.log.length (y.log.flatMap comc) rfl HZ5.out.st.lg (Below.refl _ _) hsz #[.int .i64 5, .int .i64 1, .int .i64 1, .int .i64 3, .string ⟨#[]⟩, .string ⟨#[]⟩] (.inr rfl) 1 1 rfl rfl (by simp [Value.oneCell', go_sem]) (by omega) (by have := HLT.out; omega) (by have := HLT.out; omega) ?_)
      intro gn cap w6 ho6 hb6 hg6 hor6 hlt6
      have HMO := Lib.hid (HZ5.out.more (y := (⟨5, 1, 1, 3, [], []⟩ : ComD)) hg6 hor6 hlt6 ho6)
      have hk6 := (hg6.block m (Array.getElem?_eq_some_iff.1 HZ5.out.st.blk).1 (fun e => HZ5.out.st.lgm m e.symm rfl)).trans HZ5.out.st.blk
      obtain ⟨⟨-, k1, -⟩, ⟨-, f1, -⟩, -⟩ := blk_3c hk6
      have HN := Lib.hid (HSM.out.snoc HLT.out (show ComSm (⟨5, 1, 1, 3, [], []⟩ : ComD) from ⟨⟨by decide, by decide⟩, ⟨by decide, by decide⟩, ⟨by decide, by decide⟩, ⟨by decide, by decide⟩, by decide, by decide⟩))
      clear ho6 hb6 hg6 hor6 hlt6 hk6 d1 HZ5 hsz m0 m1 m2 m3 m4 m5 hlt
      go_wp2
      refine ⟨⟨_, _, _, HN.out, HMO.out⟩, ?_⟩
      rw [HL.out, lenAt_of HMO.out.st.cells.1.2.1]
      have := HLT.out
      omega
  · have e0 : ((n : Int) == 0) = false := by rw [beq_eq_false_iff_ne]; omega
    have e1 : ((n : Int) == 1) = false := by rw [beq_eq_false_iff_ne]; omega
    have e2 : ((n : Int) == 2) = false := by rw [beq_eq_false_iff_ne]; omega
    have e3 : ((n : Int) == 3) = false := by rw [beq_eq_false_iff_ne]; omega
    have e4 : ((n : Int) == 4) = false := by rw [beq_eq_false_iff_ne]; omega
    clear hn5 hn
    go_upto_region 16 with fail
    clear e0 e1 e2 e3 e4
    obtain ⟨⟨a0, a1, a2⟩, -⟩ := HS3.out.cells
    obtain ⟨⟨q0, q1, q2⟩, ⟨y0, y1, y2⟩, t0, t1, t2⟩ := blk_3c HS3.out.res
    have HF := Lib.hid (fun a b c => HS3.out.ret (n := 302) (HM.out.wide (by omega)) a b c)
    clear HS3
    go_wp2_with fail
    exact bodyPost_ret (v := .agg #[.slice p0 x.boxes.length c0, .slice p1 x.log.length c1, .int .i64 x.given]) (by simp [results, Tryz.results82, go_sem, t0, t1, t2]) rfl (HF.out _ _ _)

end Go.Proofs.YtbfgdbpfecffcaaGreatDoor

namespace Go.Proofs.YtbfgdbpfecffcaaGreatDoor
open Go.RowKit

def StoRd (W : World) (x : StoD) (z0 z1 : Value) : Prop := LfRd W (boxsLf x.boxes) z0 ∧ CapLe z0 ∧ LfRd W (commitsLf x.log) z1 ∧ CapLe z1
theorem StoRd.below {W W' : World} {x : StoD} {z0 z1 : Value} (h : StoRd W x z0 z1) (hb : Below W.heap.size W W') : StoRd W' x z0 z1 := ⟨LfRd.below hb _ _ h.1, h.2.1, LfRd.below hb _ _ h.2.2.1, h.2.2.2⟩
/-- A store drawn, in block m; the cursor is younger than the result's block. -/
structure StD (w : World) (g : Nat) (code : List UInt8) (m : Nat) (x : StoD) (z0 z1 : Value) (W : World) : Prop where
  cur : Cur W g code
  blk : W.heap[m]? = some (.cells #[z0, z1, .int .i64 x.given] 46 (0, 0))
  res : W.heap[w.heap.size]? = some (.cells #[.slice none 0 0, .slice none 0 0, .int .i64 0] 46 (0, 0))
  bx : ∃ f, Bx W (g + 1) (boxsLf x.boxes) z0 f
  lg : W.ownsRow (g + 1) 26 6 z1 x.log.length (x.log.flatMap comc)
  bel : Below w.heap.size w W
  og : w.heap.size < g
  om : g < m
section
variable {w W W' : World} {g m : Nat} {code : List UInt8} {x : StoD} {z0 z1 : Value}
theorem StD.draw (h : StD w g code m x z0 z1 W) (hg : W.grownBy W' (some g)) (hc : Cur W' g code) : StD w g code m x z0 z1 W' := by
  have hk : ∀ k, k < W.heap.size → k ≠ g → W'.heap[k]? = W.heap[k]? := fun k hk hw => hg.block k hk (fun e => by injection e with e; exact hw e)
  obtain ⟨f, t⟩ := h.bx
  have h1 := h.og
  have h2 := h.om
  exact ⟨hc, (hk m (Array.getElem?_eq_some_iff.1 h.blk).1 (by omega)).trans h.blk, (hk _ (Array.getElem?_eq_some_iff.1 h.res).1 (by omega)).trans h.res,
    ⟨f, LfIn.frame _ _ _ (fun k hkf => hk k (t.lt k hkf) (by have := t.low k hkf; omega)) t.is, t.low⟩, own_frame h.lg (fun k hkb => hk k (h.lg.lt k hkb).2 (by have := (h.lg.lt k hkb).1; omega)), below_cur h.bel hg h.bel.size (by omega), h.og, h.om⟩
theorem StD.under (h : StD w g code m x z0 z1 W) (hb : Below W.heap.size W W') : StD w g code m x z0 z1 W' := h.draw (grown_of_below hb) (h.cur.below hb)
theorem StD.fin (h : StD w g code m x z0 z1 W) (a b c : Value) : StoRd (((W.setCell ⟨w.heap.size, 0, none⟩ a).setCell ⟨w.heap.size, 1, none⟩ b).setCell ⟨w.heap.size, 2, none⟩ c) x z0 z1 ∧ Below w.heap.size w (((W.setCell ⟨w.heap.size, 0, none⟩ a).setCell ⟨w.heap.size, 1, none⟩ b).setCell ⟨w.heap.size, 2, none⟩ c) := by
  obtain ⟨f, t⟩ := h.bx
  have h1 := h.og
  have hn : w.heap.size ∉ f := fun hm => by have := t.low _ hm; omega
  have hl : (((W.setCell ⟨w.heap.size, 0, none⟩ a).setCell ⟨w.heap.size, 1, none⟩ b).setCell ⟨w.heap.size, 2, none⟩ c).ownsRow (g + 1) 26 6 z1 x.log.length (x.log.flatMap comc) := own_frame (own_frame (own_frame h.lg (fun k hk => set_other (by have := (h.lg.lt k hk).1; omega))) (fun k hk => set_other (by have := (h.lg.lt k hk).1; omega))) (fun k hk => set_other (by have := (h.lg.lt k hk).1; omega))
  have hlf := coms_in.2 ⟨own_base hl, rfl⟩
  exact ⟨⟨LfIn.rd _ _ _ (((t.is.set hn).set hn).set hn), CapLe.of_in t.is, LfIn.rd _ _ _ hlf, CapLe.of_in hlf⟩, ((h.bel.setCell (Nat.le_refl _) _).setCell (Nat.le_refl _) _).setCell (Nat.le_refl _) _⟩
end
def DrawSPost (w : World) (e : Ending) (w' : World) : Prop := ∃ (x : StoD) (z0 z1 : Value) (n : Int), e = .returned (.tuple #[.agg #[z0, z1, .int .i64 x.given], .int .i64 n]) ∧ SmS 302 x ∧ in64 n ∧ StoRd w' x z0 z1 ∧ Below w.heap.size w w'

set_option maxRecDepth 20000 in
set_option maxHeartbeats 6400000 in
theorem DrawBoxesAt_any (v : Value) (code : List UInt8) (w : World) (hr : Rd1 bv w v code) (hl : code.length ≤ 1048576) :
    Calls Tryz.prog 31 #[v] w fun e w' => DrawSPost w e w' := by
  have hb0 : Below w.heap.size w (w.alloc (.cells #[.slice none 0 0, .slice none 0 0, .int .i64 0] 46)) := (Below.refl _ _).alloc (Nat.le_refl _) _
  have n0 := heap_alloc_new w (.cells #[.slice none 0 0, .slice none 0 0, .int .i64 0] 46)
  have HN := Lib.hid (l1New_any v code (w.alloc (.cells #[.slice none 0 0, .slice none 0 0, .int .i64 0] 46)) (hr.below hb0) hl)
  have H0 := Lib.hid (And.intro hb0 n0)
  clear hr hl hb0 n0
  go_enter Tryz.func31, Tryz.ntmps31
  go_wp2_with fail
  refine HN.out.mono ?_
  rintro e w1 ⟨g, rfl, hg, hc1, hb1⟩
  rw [World.size_alloc] at hg hb1
  have HC := Lib.hid (And.intro hg (And.intro hc1 hb1))
  clear hg hc1 hb1 HN
  have CB := Lib.hid (l11Bent_any g code w1 HC.out.2.1)
  go_wp2_with fail
  refine CB.out.mono ?_
  rintro e w2 ⟨x, z0, z1, rfl, hsm, ⟨f, hbx⟩, hlg, hc2, hg2⟩
  obtain ⟨p0, c0, rfl⟩ := LfIn.slice hbx.is
  obtain ⟨p1, c1, rfl, -⟩ := own9_form hlg
  have HM := Lib.hid hsm
  have HS := Lib.hid (show StD w g code w2.heap.size x (.slice p0 x.boxes.length c0) (.slice p1 x.log.length c1) (w2.alloc (.cells #[.slice p0 x.boxes.length c0, .slice p1 x.log.length c1, .int .i64 x.given] 46)) by
    obtain ⟨h1, h2⟩ := H0.out
    obtain ⟨k1, k2, k3⟩ := HC.out
    have hb2 := (Below.refl w2.heap.size w2).alloc (Nat.le_refl _) (.cells #[.slice p0 x.boxes.length c0, .slice p1 x.log.length c1, .int .i64 x.given] 46)
    have n2 := heap_alloc_new w2 (.cells #[.slice p0 x.boxes.length c0, .slice p1 x.log.length c1, .int .i64 x.given] 46)
    have hz1 := k3.size
    rw [World.size_alloc] at hz1
    have hz2 := hg2.size
    have hgl := k2.lt
    have hres1 : w1.heap[w.heap.size]? = _ := (k3.block w.heap.size (by omega)).trans h2
    have hres2 := (hg2.block w.heap.size (by omega) (fun e => by injection e with e; omega)).trans hres1
    have hbel := (below_cur (h1.trans (k3.mono (by omega))) hg2 (by omega) (by omega)).trans (hb2.mono (by omega))
    exact ⟨hc2.below hb2, n2, (hb2.block _ (by omega)).trans hres2, ⟨f, ⟨(hbx.below hb2).is, fun q hq => by have := hbx.low q hq; omega⟩⟩, own9_lower (ownsRow_below hlg hb2) (by omega), hbel, by omega, by omega⟩)
  clear H0 HC CB hsm hbx hlg hc2 hg2
  go_upto_region 3 with fail
  refine wp_named1 ?_
  intro X hX
  rw [← hX] at HS
  obtain ⟨m, hm⟩ : ∃ m, w2.heap.size = m := ⟨_, rfl⟩
  rw [hm] at HS ⊢
  clear hX hm
  have hwr : IntKind.i64.wrap ((x.log.length : Int) + 2) = (x.log.length : Int) + 2 := IntWalk.i64_in _ (by have := HM.out.2.1.1; omega)
  have HD := Lib.hid (HS.out.under (Below.refl _ _).drew)
  clear HS
  go_wp2
  refine ord_start [(0, true), (1, true), (2, true), (3, true), (4, true), (5, true), (6, true), (7, true), (8, true), (9, true), (10, false), (11, false), (12, false), (13, false), (14, true)] (fun W => W.cell? ⟨m, 0, none⟩ = some (.slice p0 x.boxes.length c0) ∧ W.cell? ⟨m, 1, none⟩ = some (.slice p1 x.log.length c1) ∧ W.cell? ⟨m, 2, none⟩ = some (.int .i64 x.given)) (by kernel_rfl) (by kernel_rfl) rfl (by kernel_rfl) ?_
  intro ops' hops
  clear hops
  simp only [List.map_cons, List.map_nil, pickOp_zero, pickOp_succ]
  generalize X.drew = D at *
  obtain ⟨⟨d0, d1, d2⟩, -⟩ := blk_3c HD.out.blk
  iterate 10 (refine ord_flo ?_ (fun _ _ _ h => h) rfl ?_ ⟨d0, d1, d2⟩ ?_; rotate_left; focus (intro W hS; obtain ⟨s0, s1, s2⟩ := hS; go_simp; rfl))
  refine ord_ev rfl ?_
  go_simp
  refine (l1Below_any g code _ (x.log.length + 2) (by omega) D HD.out.cur (by omega) (by have := HM.out.2.1.1; omega)).mono ?_
  rintro e w5 ⟨n2, rfl, hn2, hc5, hg5⟩
  have HS5 := Lib.hid (HD.out.draw hg5 hc5)
  have HN2 := Lib.hid hn2
  clear hc5 hg5 HD d0 d1 d2 hwr hn2
  obtain ⟨⟨d0, d1, d2⟩, -⟩ := blk_3c HS5.out.blk
  have hmD := (Array.getElem?_eq_some_iff.1 HS5.out.blk).1
  have hb1 := (Below.refl w5.heap.size w5).alloc (Nat.le_refl _) (.cells #[.int .i64 0, .int .i64 1, .int .i64 3, .int .i64 (x.log.length : Int), .int .i64 (-1), .int .i64 9223372036854775807, .int .i64 (n2 : Int)] 3)
  have d0a := (hb1.cell (p := ⟨m, 0, none⟩) hmD).trans d0
  have d1a := (hb1.cell (p := ⟨m, 1, none⟩) hmD).trans d1
  have d2a := (hb1.cell (p := ⟨m, 2, none⟩) hmD).trans d2
  refine ⟨⟨d0, d1, d2⟩, ?_⟩
  refine ord_ev rfl ?_
  go_simp
  have HS6 := Lib.hid (HS5.out.under hb1)
  clear d0 d1 d2 d0a d1a d2a hb1 hmD
  refine ord_ev rfl ?_
  go_simp
  refine (l1PickInt_any g code _ [0, 1, 3, (x.log.length : Int), -1, 9223372036854775807, (n2 : Int)] _ HS6.out.cur (Rd1_lit (b := w5.heap.size) _ (heap_alloc_new w5 _) rfl rfl) (Apart_new HS5.out.cur.lt) (by simp) (by simp)).mono ?_
  rintro e w7 ⟨u, rfl, hu, hc7, hg7⟩
  have HU := Lib.hid (show in64 u by
    have h1 := HM.out.2.1.1
    have h2 := HN2.out
    simp only [List.mem_cons, List.not_mem_nil, or_false] at hu
    refine ⟨?_, ?_⟩ <;> rcases hu with rfl | rfl | rfl | rfl | rfl | rfl | rfl <;> omega)
  have HS7 := Lib.hid (HS6.out.draw hg7 hc7)
  clear hu hc7 hg7 HS6 HS5 HN2
  obtain ⟨⟨d0, d1, d2⟩, -⟩ := blk_3c HS7.out.blk
  obtain ⟨⟨q0, q1, q2⟩, ⟨y0, y1, y2⟩, t0, t1, t2⟩ := blk_3c HS7.out.res
  have HF := Lib.hid (fun a b c => HS7.out.fin a b c)
  have hne : w.heap.size ≠ m := by have h1 := HS7.out.og; have h2 := HS7.out.om; omega
  clear HS7
  refine ⟨⟨d0, d1, d2⟩, ?_⟩
  refine ord_ev rfl ?_
  go_simp
  have kk : ∀ {W : World} {j : Nat} {u : Value}, W.cell? ⟨m, j, none⟩ = some u → ∀ q y, (W.setCell ⟨w.heap.size, q, none⟩ y).cell? ⟨m, j, none⟩ = some u := fun h q y => (World.cell?_of_block (set_other hne.symm)).trans h
  replace d0 := kk (kk (kk d0 0 (.slice p0 x.boxes.length c0)) 1 (.slice p1 x.log.length c1)) 2 (.int .i64 x.given)
  replace d1 := kk (kk (kk d1 0 (.slice p0 x.boxes.length c0)) 1 (.slice p1 x.log.length c1)) 2 (.int .i64 x.given)
  replace d2 := kk (kk (kk d2 0 (.slice p0 x.boxes.length c0)) 1 (.slice p1 x.log.length c1)) 2 (.int .i64 x.given)
  iterate 1 (refine ord_flo ?_ (fun _ _ _ h => h) rfl ?_ ⟨d0, d1, d2⟩ ?_; rotate_left; focus (intro W hS; obtain ⟨s0, s1, s2⟩ := hS; go_simp; rfl))
  refine ord_done ?_
  go_simp
  go_wp2_with fail
  exact bodyPost_ret (v := .tuple #[.agg #[.slice p0 x.boxes.length c0, .slice p1 x.log.length c1, .int .i64 x.given], .int .i64 u]) (by simp [results, Tryz.results31, go_sem, t0, t1, t2]) rfl ⟨x, _, _, u, rfl, HM.out, HU.out, (HF.out _ _ _).1, (HF.out _ _ _).2⟩

end Go.Proofs.YtbfgdbpfecffcaaGreatDoor
