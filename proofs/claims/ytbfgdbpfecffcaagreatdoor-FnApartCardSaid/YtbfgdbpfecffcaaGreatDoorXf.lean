/-
  Xf: ComZ ComZa (what the claim needs of them).
-/
import Derived.Handy
import Derived.Deep.DeepCutAuto
import Derived.Test.YtbfgdbpfecffcaaGreatDoorRows
import Derived.WalkKit
import Derived.WalkSpells
import Derived.WalkLawsBesides
import Derived.Laws.IdiomStrings
import Derived.Lib.Hide
import Derived.Deep.AppendLies
import Derived.OrdersHeld
import Derived.Lib.ItoaNum
import Derived.Lib.ItoaMem
import Derived.Lib.AppendStr
import Derived.Lib.ItoaLen
import Derived.Lib.Strings
import Derived.Lib.Bytealg
import Derived.Lib.OthersKept
import Derived.Laws.RangeAny
import Derived.Laws.BitsAllLaws
import Derived.Laws.BitsLemmas
import Derived.IntWalk
import Derived.Lib.Join
import Derived.Deep.Strs
import Derived.Test.YtbfgdbpfecffcaaGreatDoorProg
import Derived.Laws.Tables
import Derived.Test.YtbfgdbpfecffcaaGreatDoorWb
import Derived.Test.YtbfgdbpfecffcaaGreatDoorWc
import Derived.Test.YtbfgdbpfecffcaaGreatDoorWd
import Derived.Test.YtbfgdbpfecffcaaGreatDoorWe
import Derived.Test.YtbfgdbpfecffcaaGreatDoorWm
import Derived.Test.YtbfgdbpfecffcaaGreatDoorWx
import Derived.Test.YtbfgdbpfecffcaaGreatDoorXb
import Derived.Test.YtbfgdbpfecffcaaGreatDoorXc
import Derived.Test.YtbfgdbpfecffcaaGreatDoorXd
import Derived.Test.YtbfgdbpfecffcaaGreatDoorXe

namespace Go.Proofs.YtbfgdbpfecffcaaGreatDoor
open Go.RowKit

set_option maxRecDepth 20000 in
set_option maxHeartbeats 6400000 in
theorem l10Bent_any (g : Nat) (code : List UInt8) (l : List BoxD) (v : Value) (fp : List Nat) (w : World) (hc : Cur w g code) (hl : LfIn w (boxsLf l) v fp) (hgf : g ∉ fp) (hl5 : l.length ≤ 5) (hsm : ∀ x ∈ l, BoxQ 6 x) :
    Calls Tryz.prog 90 #[.pointer (some ⟨g, 0, none⟩), v] w fun e w' => CmPost g code w e w' := by
  have hog := hc.lt
  have hfl := LfIn.lt _ _ _ hl
  have hcur1 := hc.below ((Below.refl w.heap.size w).alloc (Nat.le_refl _) (.cells #[.int .i64 0, .int .i64 0, .int .i64 0, .int .i64 0, .string ⟨#[]⟩, .string ⟨#[]⟩] 26))
  have hres1 := heap_alloc_new w (.cells #[.int .i64 0, .int .i64 0, .int .i64 0, .int .i64 0, .string ⟨#[]⟩, .string ⟨#[]⟩] 26)
  have hl1 := LfIn.below hl ((Below.refl w.heap.size w).alloc (Nat.le_refl _) (.cells #[.int .i64 0, .int .i64 0, .int .i64 0, .int .i64 0, .string ⟨#[]⟩, .string ⟨#[]⟩] 26))
  have hg1 : w.grownBy (w.alloc (.cells #[.int .i64 0, .int .i64 0, .int .i64 0, .int .i64 0, .string ⟨#[]⟩, .string ⟨#[]⟩] 26)) (some g) := World.grownBy_alloc w _ (some g)
  have HCC := Lib.hid (l10Commit_any g code l v fp _ hcur1 hl1 hgf hl5 hsm)
  have HOF := Lib.hid (show ∀ q ∈ fp, q < w.heap.size ∧ q ≠ g from fun q hq => ⟨hfl q hq, fun e => hgf (e ▸ hq)⟩)
  obtain ⟨p, c, rfl⟩ := LfIn.slice hl
  have H1 := Lib.hid (And.intro hcur1 (And.intro hres1 (And.intro hl1 hg1)))
  clear hc hl hgf hsm hfl hcur1 hres1 hl1 hg1 hl5
  go_enter Tryz.func90, Tryz.ntmps90
  go_wp2_with fail
  refine HCC.out.mono ?_
  rintro e w2 ⟨⟨xk, xv, xu, xf, xn, xt⟩, rfl, hx, hc2, hg2⟩
  have HX := Lib.hid hx
  have HS3 := Lib.hid (show CmS w g code l (.slice p l.length c) fp w2.heap.size ⟨xk, xv, xu, xf, xn, xt⟩ (w2.alloc (.cells #[.int .i64 xk, .int .i64 xv, .int .i64 xu, .int .i64 xf, sv xn, sv xt] 26)) by
    obtain ⟨k1, k2, k3, k4⟩ := H1.out
    have hsz := hg2.size
    rw [World.size_alloc] at hsz
    have hlA := LfIn.away k3 (GrownIn.of_row hg2) (fun k hk hm => (HOF.out k hk).2 (by simpa using hm))
    have hrA := (hg2.block w.heap.size (by simp) (fun e => by injection e with e; omega)).trans k2
    have hbA := (Below.refl w2.heap.size w2).alloc (Nat.le_refl _) (.cells #[.int .i64 xk, .int .i64 xv, .int .i64 xu, .int .i64 xf, sv xn, sv xt] 26)
    exact ⟨hc2.below hbA, hlA.below hbA, ⟨_, rfl, (Below.heap_alloc _ _ _ (by omega)).trans hrA⟩, heap_alloc_new w2 _, grown_grown (grown_grown k4 hg2) (World.grownBy_alloc w2 _ (some g)), hog, by omega, HOF.out⟩)
  clear hx hc2 hg2 H1 HCC
  go_upto_region 2 with fail
  refine wp_named9 ?_
  intro X hX
  rw [← hX] at HS3
  have HS := Lib.hid HS3.out
  clear hX HS3
  generalize w2.heap.size = m at *
  go_wp2_with fail
  refine (l1Below_any g code _ 14 (by omega) _ HS.out.cur (by omega) (by omega)).mono ?_
  rintro e w3 ⟨y, rfl, hy, hc3, hg3⟩
  have HS3 := Lib.hid (HS.out.draw hg3 hc3)
  clear hc3 hg3 HS
  rcases (show y = 0 ∨ y = 1 ∨ y = 2 ∨ y = 3 ∨ y = 4 ∨ y = 5 ∨ 6 ≤ y by omega) with rfl | rfl | rfl | rfl | rfl | rfl | hy6
  · go_wp2_with fail
    refine (l1Below_any g code _ 9 (by omega) _ HS3.out.cur (by omega) (by omega)).mono ?_
    rintro e w4 ⟨a, rfl, ha, hc4, hg4⟩
    have HS4 := Lib.hid (HS3.out.draw hg4 hc4)
    clear hc4 hg4
    obtain ⟨u, hu⟩ : ∃ u : Int, (a : Int) - 1 = u := ⟨_, rfl⟩
    have hu2 : in64 u := ⟨by omega, by omega⟩
    have HY := Lib.hid (show ComSm ⟨u, xv, xu, xf, xn, xt⟩ from by obtain ⟨h1, h2, h3, h4, h5, h6⟩ := HX.out; exact ComSm.mk' hu2 h2 h3 h4 h5 h6)
    have HS5 := Lib.hid (HS4.out.set 0 (.int .i64 u) (x' := ⟨u, xv, xu, xf, xn, xt⟩) rfl)
    obtain ⟨⟨a0, a1, a2, a3, a4, a5⟩, hf⟩ := HS4.out.cells
    have fi := hf 0
    clear hf HS4 HX HS3 a1 a2 a3 a4 a5
    go_upto_region 15 with fail
    refine wp_named9 ?_
    intro Y hY
    have HSY := Lib.hid (show CmS w g code l (.slice p l.length c) fp m ⟨u, xv, xu, xf, xn, xt⟩ Y by rw [hY]; exact HS5.out)
    clear hY HS5 fi a0
    obtain ⟨⟨a0, a1, a2, a3, a4, a5⟩, -⟩ := HSY.out.cells
    obtain ⟨cs2, hcs, hres⟩ := HSY.out.res
    obtain ⟨⟨z0, z1, z2, z3, z4, z5, e0, e1, e2, e3, e4, e5⟩, ⟨r0, r1, r2, r3, r4, r5⟩, s0, s1, s2, s3, s4, s5⟩ := blk_6c hres hcs
    clear hcs hres
    go_wp2
    exact bodyPost_ret (v := .agg #[.int .i64 u, .int .i64 xv, .int .i64 xu, .int .i64 xf, sv xn, sv xt]) (by simp [results, Tryz.results90, go_sem, s0, s1, s2, s3, s4, s5]) rfl (HSY.out.ret (y := ⟨u, xv, xu, xf, xn, xt⟩) HY.out _ _ _ _ _ _)
  · have hsa := HS3.out.alloc (.cells #[.int .i64 0, .int .i64 1, .int .i64 999999998, .int .i64 999999999, .int .i64 (-1)] 3)
    go_wp2_with fail
    refine (l1PickInt_any g code _ [0, 1, 999999998, 999999999, -1] _ hsa.cur (Rd1_lit (b := w3.heap.size) _ (heap_alloc_new w3 _) rfl rfl) (Apart_new HS3.out.cur.lt) (by simp) (by simp)).mono ?_
    rintro e w4 ⟨u, rfl, hu, hc4, hg4⟩
    have hu2 : in64 u := (show ∀ x ∈ ([0, 1, 999999998, 999999999, -1] : List Int), -9223372036854775808 ≤ x ∧ x ≤ 9223372036854775807 by decide) u hu
    have HS4 := Lib.hid (hsa.draw hg4 hc4)
    clear hsa hu hc4 hg4
    have HY := Lib.hid (show ComSm ⟨xk, xv, u, xf, xn, xt⟩ from by obtain ⟨h1, h2, h3, h4, h5, h6⟩ := HX.out; exact ComSm.mk' h1 h2 hu2 h4 h5 h6)
    have HS5 := Lib.hid (HS4.out.set 2 (.int .i64 u) (x' := ⟨xk, xv, u, xf, xn, xt⟩) rfl)
    obtain ⟨⟨a0, a1, a2, a3, a4, a5⟩, hf⟩ := HS4.out.cells
    have fi := hf 2
    clear hf HS4 HX HS3 a0 a1 a3 a4 a5
    go_upto_region 15 with fail
    refine wp_named9 ?_
    intro Y hY
    have HSY := Lib.hid (show CmS w g code l (.slice p l.length c) fp m ⟨xk, xv, u, xf, xn, xt⟩ Y by rw [hY]; exact HS5.out)
    clear hY HS5 fi a2
    obtain ⟨⟨a0, a1, a2, a3, a4, a5⟩, -⟩ := HSY.out.cells
    obtain ⟨cs2, hcs, hres⟩ := HSY.out.res
    obtain ⟨⟨z0, z1, z2, z3, z4, z5, e0, e1, e2, e3, e4, e5⟩, ⟨r0, r1, r2, r3, r4, r5⟩, s0, s1, s2, s3, s4, s5⟩ := blk_6c hres hcs
    clear hcs hres
    go_wp2
    exact bodyPost_ret (v := .agg #[.int .i64 xk, .int .i64 xv, .int .i64 u, .int .i64 xf, sv xn, sv xt]) (by simp [results, Tryz.results90, go_sem, s0, s1, s2, s3, s4, s5]) rfl (HSY.out.ret (y := ⟨xk, xv, u, xf, xn, xt⟩) HY.out _ _ _ _ _ _)
  · go_wp2_with fail
    refine (l5Bits_any g code _ HS3.out.cur).mono ?_
    rintro e w4 ⟨u, rfl, hu, hc4, hg4⟩
    have HS4 := Lib.hid (HS3.out.draw hg4 hc4)
    clear hc4 hg4
    have HY := Lib.hid (show ComSm ⟨xk, xv, xu, u, xn, xt⟩ from by obtain ⟨h1, h2, h3, h4, h5, h6⟩ := HX.out; exact ComSm.mk' h1 h2 h3 hu h5 h6)
    have HS5 := Lib.hid (HS4.out.set 3 (.int .i64 u) (x' := ⟨xk, xv, xu, u, xn, xt⟩) rfl)
    obtain ⟨⟨a0, a1, a2, a3, a4, a5⟩, hf⟩ := HS4.out.cells
    have fi := hf 3
    clear hf HS4 HX HS3 a0 a1 a2 a4 a5
    go_upto_region 15 with fail
    refine wp_named9 ?_
    intro Y hY
    have HSY := Lib.hid (show CmS w g code l (.slice p l.length c) fp m ⟨xk, xv, xu, u, xn, xt⟩ Y by rw [hY]; exact HS5.out)
    clear hY HS5 fi a3
    obtain ⟨⟨a0, a1, a2, a3, a4, a5⟩, -⟩ := HSY.out.cells
    obtain ⟨cs2, hcs, hres⟩ := HSY.out.res
    obtain ⟨⟨z0, z1, z2, z3, z4, z5, e0, e1, e2, e3, e4, e5⟩, ⟨r0, r1, r2, r3, r4, r5⟩, s0, s1, s2, s3, s4, s5⟩ := blk_6c hres hcs
    clear hcs hres
    go_wp2
    exact bodyPost_ret (v := .agg #[.int .i64 xk, .int .i64 xv, .int .i64 xu, .int .i64 u, sv xn, sv xt]) (by simp [results, Tryz.results90, go_sem, s0, s1, s2, s3, s4, s5]) rfl (HSY.out.ret (y := ⟨xk, xv, xu, u, xn, xt⟩) HY.out _ _ _ _ _ _)
  · go_wp2_with fail
    refine (l2Any_any g code _ HS3.out.cur).mono ?_
    rintro e w4 ⟨u, rfl, hu, hc4, hg4⟩
    have HS4 := Lib.hid (HS3.out.draw hg4 hc4)
    clear hc4 hg4
    have HY := Lib.hid (show ComSm ⟨xk, xv, xu, xf, u, xt⟩ from by obtain ⟨h1, h2, h3, h4, h5, h6⟩ := HX.out; exact ComSm.mk' h1 h2 h3 h4 hu h6)
    have HS5 := Lib.hid (HS4.out.set 4 (sv u) (x' := ⟨xk, xv, xu, xf, u, xt⟩) rfl)
    obtain ⟨⟨a0, a1, a2, a3, a4, a5⟩, hf⟩ := HS4.out.cells
    have fi := hf 4
    clear hf HS4 HX HS3 a0 a1 a2 a3 a5
    go_upto_region 15 with fail
    refine wp_named9 ?_
    intro Y hY
    have HSY := Lib.hid (show CmS w g code l (.slice p l.length c) fp m ⟨xk, xv, xu, xf, u, xt⟩ Y by rw [hY]; exact HS5.out)
    clear hY HS5 fi a4
    obtain ⟨⟨a0, a1, a2, a3, a4, a5⟩, -⟩ := HSY.out.cells
    obtain ⟨cs2, hcs, hres⟩ := HSY.out.res
    obtain ⟨⟨z0, z1, z2, z3, z4, z5, e0, e1, e2, e3, e4, e5⟩, ⟨r0, r1, r2, r3, r4, r5⟩, s0, s1, s2, s3, s4, s5⟩ := blk_6c hres hcs
    clear hcs hres
    go_wp2
    exact bodyPost_ret (v := .agg #[.int .i64 xk, .int .i64 xv, .int .i64 xu, .int .i64 xf, sv u, sv xt]) (by simp [results, Tryz.results90, go_sem, s0, s1, s2, s3, s4, s5]) rfl (HSY.out.ret (y := ⟨xk, xv, xu, xf, u, xt⟩) HY.out _ _ _ _ _ _)
  · have hsa := HS3.out.alloc (.cells #[.int .i64 0, .int .i64 999999999, .int .i64 1000000000] 3)
    go_wp2_with fail
    refine (l1PickInt_any g code _ [0, 999999999, 1000000000] _ hsa.cur (Rd1_lit (b := w3.heap.size) _ (heap_alloc_new w3 _) rfl rfl) (Apart_new HS3.out.cur.lt) (by simp) (by simp)).mono ?_
    rintro e w4 ⟨u, rfl, hu, hc4, hg4⟩
    have hu2 : in64 u := (show ∀ x ∈ ([0, 999999999, 1000000000] : List Int), -9223372036854775808 ≤ x ∧ x ≤ 9223372036854775807 by decide) u hu
    have HS4 := Lib.hid (hsa.draw hg4 hc4)
    clear hsa hu hc4 hg4
    have HY := Lib.hid (show ComSm ⟨xk, u, xu, xf, xn, xt⟩ from by obtain ⟨h1, h2, h3, h4, h5, h6⟩ := HX.out; exact ComSm.mk' h1 hu2 h3 h4 h5 h6)
    have HS5 := Lib.hid (HS4.out.set 1 (.int .i64 u) (x' := ⟨xk, u, xu, xf, xn, xt⟩) rfl)
    obtain ⟨⟨a0, a1, a2, a3, a4, a5⟩, hf⟩ := HS4.out.cells
    have fi := hf 1
    clear hf HS4 HX HS3 a0 a2 a3 a4 a5
    go_upto_region 15 with fail
    refine wp_named9 ?_
    intro Y hY
    have HSY := Lib.hid (show CmS w g code l (.slice p l.length c) fp m ⟨xk, u, xu, xf, xn, xt⟩ Y by rw [hY]; exact HS5.out)
    clear hY HS5 fi a1
    obtain ⟨⟨a0, a1, a2, a3, a4, a5⟩, -⟩ := HSY.out.cells
    obtain ⟨cs2, hcs, hres⟩ := HSY.out.res
    obtain ⟨⟨z0, z1, z2, z3, z4, z5, e0, e1, e2, e3, e4, e5⟩, ⟨r0, r1, r2, r3, r4, r5⟩, s0, s1, s2, s3, s4, s5⟩ := blk_6c hres hcs
    clear hcs hres
    go_wp2
    exact bodyPost_ret (v := .agg #[.int .i64 xk, .int .i64 u, .int .i64 xu, .int .i64 xf, sv xn, sv xt]) (by simp [results, Tryz.results90, go_sem, s0, s1, s2, s3, s4, s5]) rfl (HSY.out.ret (y := ⟨xk, u, xu, xf, xn, xt⟩) HY.out _ _ _ _ _ _)
  · have hsa := HS3.out.alloc (.cells #[.string ⟨#[120]⟩, .string ⟨#[49, 50, 51, 52, 53, 54, 55, 56, 57, 48, 49, 50, 51, 52, 53, 54, 55, 56, 57, 48, 49, 50, 51, 52, 53, 54, 55, 56, 57, 48, 49, 50, 51, 52, 53, 54, 55, 56, 57, 48, 49]⟩] 9)
    go_wp2_with fail
    refine (l1Pick_any g code _ [[120], [49, 50, 51, 52, 53, 54, 55, 56, 57, 48, 49, 50, 51, 52, 53, 54, 55, 56, 57, 48, 49, 50, 51, 52, 53, 54, 55, 56, 57, 48, 49, 50, 51, 52, 53, 54, 55, 56, 57, 48, 49]] _ hsa.cur (Rd1_lit (b := w3.heap.size) _ (heap_alloc_new w3 _) rfl rfl) (Apart_new HS3.out.cur.lt) (by simp) (by simp)).mono ?_
    rintro e w4 ⟨u, rfl, hu, hc4, hg4⟩
    have hu2 : u.length ≤ 41 := (show ∀ x ∈ ([[120], [49, 50, 51, 52, 53, 54, 55, 56, 57, 48, 49, 50, 51, 52, 53, 54, 55, 56, 57, 48, 49, 50, 51, 52, 53, 54, 55, 56, 57, 48, 49, 50, 51, 52, 53, 54, 55, 56, 57, 48, 49]] : List (List UInt8)), x.length ≤ 41 by decide) u hu
    have HS4 := Lib.hid (hsa.draw hg4 hc4)
    clear hsa hu hc4 hg4
    have HY := Lib.hid (show ComSm ⟨xk, xv, xu, xf, xn, u⟩ from by obtain ⟨h1, h2, h3, h4, h5, h6⟩ := HX.out; exact ComSm.mk' h1 h2 h3 h4 h5 hu2)
    have HS5 := Lib.hid (HS4.out.set 5 (sv u) (x' := ⟨xk, xv, xu, xf, xn, u⟩) rfl)
    obtain ⟨⟨a0, a1, a2, a3, a4, a5⟩, hf⟩ := HS4.out.cells
    have fi := hf 5
    clear hf HS4 HX HS3 a0 a1 a2 a3 a4
    go_upto_region 15 with fail
    refine wp_named9 ?_
    intro Y hY
    have HSY := Lib.hid (show CmS w g code l (.slice p l.length c) fp m ⟨xk, xv, xu, xf, xn, u⟩ Y by rw [hY]; exact HS5.out)
    clear hY HS5 fi a5
    obtain ⟨⟨a0, a1, a2, a3, a4, a5⟩, -⟩ := HSY.out.cells
    obtain ⟨cs2, hcs, hres⟩ := HSY.out.res
    obtain ⟨⟨z0, z1, z2, z3, z4, z5, e0, e1, e2, e3, e4, e5⟩, ⟨r0, r1, r2, r3, r4, r5⟩, s0, s1, s2, s3, s4, s5⟩ := blk_6c hres hcs
    clear hcs hres
    go_wp2
    exact bodyPost_ret (v := .agg #[.int .i64 xk, .int .i64 xv, .int .i64 xu, .int .i64 xf, sv xn, sv u]) (by simp [results, Tryz.results90, go_sem, s0, s1, s2, s3, s4, s5]) rfl (HSY.out.ret (y := ⟨xk, xv, xu, xf, xn, u⟩) HY.out _ _ _ _ _ _)
  · have HY := Lib.hid HX.out
    have e0 : ((y : Int) == 0) = false := by rw [beq_eq_false_iff_ne]; omega
    have e1 : ((y : Int) == 1) = false := by rw [beq_eq_false_iff_ne]; omega
    have e2 : ((y : Int) == 2) = false := by rw [beq_eq_false_iff_ne]; omega
    have e3 : ((y : Int) == 3) = false := by rw [beq_eq_false_iff_ne]; omega
    have e4 : ((y : Int) == 4) = false := by rw [beq_eq_false_iff_ne]; omega
    have e5 : ((y : Int) == 5) = false := by rw [beq_eq_false_iff_ne]; omega
    clear HX hy6 hy
    go_upto_region 15 with fail
    clear e0 e1 e2 e3 e4 e5
    refine wp_named9 ?_
    intro Y hY
    have HSY := Lib.hid (show CmS w g code l (.slice p l.length c) fp m ⟨xk, xv, xu, xf, xn, xt⟩ Y by rw [hY]; exact HS3.out)
    clear hY HS3
    obtain ⟨⟨a0, a1, a2, a3, a4, a5⟩, -⟩ := HSY.out.cells
    obtain ⟨cs2, hcs, hres⟩ := HSY.out.res
    obtain ⟨⟨z0, z1, z2, z3, z4, z5, e0, e1, e2, e3, e4, e5⟩, ⟨r0, r1, r2, r3, r4, r5⟩, s0, s1, s2, s3, s4, s5⟩ := blk_6c hres hcs
    clear hcs hres
    go_wp2
    exact bodyPost_ret (v := .agg #[.int .i64 xk, .int .i64 xv, .int .i64 xu, .int .i64 xf, sv xn, sv xt]) (by simp [results, Tryz.results90, go_sem, s0, s1, s2, s3, s4, s5]) rfl (HSY.out.ret (y := ⟨xk, xv, xu, xf, xn, xt⟩) HY.out _ _ _ _ _ _)

end Go.Proofs.YtbfgdbpfecffcaaGreatDoor

namespace Go.Proofs.YtbfgdbpfecffcaaGreatDoor
open Go.RowKit

def DrawAPost (w : World) (e : Ending) (w' : World) : Prop := ∃ (l : List BoxD) (v : Value) (fp : List Nat) (x : ComD), e = .returned (.tuple #[v, .agg #[.int .i64 x.kind, .int .i64 x.validity, .int .i64 x.uid, .int .i64 x.flags, sv x.name, sv x.text]]) ∧ l.length ≤ 5 ∧ (∀ x ∈ l, BoxQ 6 x) ∧ ComSm x ∧ LfIn w' (boxsLf l) v fp ∧ (∀ q ∈ fp, w.heap.size ≤ q) ∧ Below w.heap.size w w'
/-- What has been drawn, with the result's block written. -/
theorem draw_fin {w W : World} {l : List BoxD} {v : Value} {fp : List Nat} {x : ComD} (hin : LfIn W (boxsLf l) v fp) (hlo : ∀ q ∈ fp, w.heap.size < q) (hB : Below w.heap.size w W) (h5 : l.length ≤ 5) (hsm : ∀ x ∈ l, BoxQ 6 x) (hx : ComSm x) (v0 v1 v2 v3 v4 v5 : Value) :
    DrawAPost w (.returned (.tuple #[v, .agg #[.int .i64 x.kind, .int .i64 x.validity, .int .i64 x.uid, .int .i64 x.flags, sv x.name, sv x.text]])) (((((((W.setCell ⟨w.heap.size, 0, none⟩ v0).setCell ⟨w.heap.size, 1, none⟩ v1).setCell ⟨w.heap.size, 2, none⟩ v2).setCell ⟨w.heap.size, 3, none⟩ v3).setCell ⟨w.heap.size, 4, none⟩ v4)).setCell ⟨w.heap.size, 5, none⟩ v5) := by
  have hn : w.heap.size ∉ fp := fun hm => Nat.lt_irrefl _ (hlo _ hm)
  exact ⟨l, v, fp, x, rfl, h5, hsm, hx, (((((hin.set hn).set hn).set hn).set hn).set hn).set hn, fun q hq => Nat.le_of_lt (hlo q hq),
    (((((hB.setCell (Nat.le_refl _) _).setCell (Nat.le_refl _) _).setCell (Nat.le_refl _) _).setCell (Nat.le_refl _) _).setCell (Nat.le_refl _) _).setCell (Nat.le_refl _) _⟩
/-- The result's block is left as it was made. -/
theorem draw_res {w W : World} {o : Obj} (hB : Below (w.heap.size + 1) (w.alloc o) W) : W.heap[w.heap.size]? = some o ∧ Below w.heap.size w W :=
  ⟨(hB.block w.heap.size (by omega)).trans (by have := heap_alloc_new w o; exact this), ((Below.refl _ _).alloc (Nat.le_refl _) _).trans (hB.mono (by omega))⟩

set_option maxRecDepth 20000 in
set_option maxHeartbeats 6400000 in
theorem l10Args_any (v : Value) (code : List UInt8) (w : World) (hr : Rd1 bv w v code) (hl : code.length ≤ 1048576) :
    Calls Tryz.prog 64 #[v] w fun e w' => DrawAPost w e w' := by
  have HN := Lib.hid (l1New_any v code (w.alloc (.cells #[.int .i64 0, .int .i64 0, .int .i64 0, .int .i64 0, .string ⟨#[]⟩, .string ⟨#[]⟩] 26)) (hr.below ((Below.refl _ _).alloc (Nat.le_refl _) _)) hl)
  clear hr hl
  go_enter Tryz.func64, Tryz.ntmps64
  go_wp2_with fail
  refine HN.out.mono ?_
  rintro e w1 ⟨g, rfl, hg, hc1, hb1⟩
  rw [World.size_alloc] at hg hb1
  have HC := Lib.hid (And.intro hg (And.intro hc1 hb1))
  clear hg hc1 hb1 HN
  go_wp2_with fail
  refine (l9Right_any g code _ HC.out.2.1).mono ?_
  rintro e w2 ⟨l, vv, fp, rfl, hl4, hsm, hs⟩
  obtain ⟨p, c, rfl⟩ := hs.slice
  have HS2 := Lib.hid hs
  have HSM := Lib.hid (And.intro hl4 hsm)
  clear hs hsm hl4
  go_wp2_with fail
  refine (l1Once_any g code _ 8 (by omega) _ HS2.out.cur (by omega) (by omega)).mono ?_
  rintro e w3 ⟨b, rfl, hc3, hg3⟩
  have HS3 := Lib.hid (HS2.out.draw hg3 hc3)
  clear hc3 hg3 HS2
  cases b with
  | true =>
    go_wp2_with fail
    refine (l9Bent_any g code _ HS3.out.cur).mono ?_
    rintro e w4 ⟨l2, v2, fp2, rfl, h5, hsm2, hin2, hlow2, hc4, hg4⟩
    obtain ⟨p2, c2, rfl⟩ := LfIn.slice hin2
    have hz1 := HS3.out.grown.size
    have hog := HS3.out.og
    have hgb := HC.out.1
    have hgf : g ∉ fp2 := fun hm => by have := hlow2 g hm; omega
    have HB := Lib.hid (l10Bent_any g code l2 _ fp2 _ hc4 hin2 hgf h5 hsm2)
    have HK := Lib.hid (show ∀ w5 : World, w4.grownBy w5 (some g) → LfIn w5 (boxsLf l2) (.slice p2 l2.length c2) fp2 ∧ Below (w.heap.size + 1) (w.alloc (.cells #[.int .i64 0, .int .i64 0, .int .i64 0, .int .i64 0, .string ⟨#[]⟩, .string ⟨#[]⟩] 26)) w5 from fun w5 hg5 =>
      ⟨LfIn.away hin2 (GrownIn.of_row hg5) (fun k hk hm => hgf ((by simpa using hm : k = g) ▸ hk)), below_cur HC.out.2.2 (grown_grown (grown_grown HS3.out.grown hg4) hg5) (by have := HC.out.2.2.size; rw [World.size_alloc] at this; exact this) hgb⟩)
    have HLO := Lib.hid (show ∀ q ∈ fp2, w.heap.size < q from fun q hq => by have := hlow2 q hq; have := HC.out.2.2.size; omega)
    have HSM2 := Lib.hid (And.intro h5 hsm2)
    clear hz1 hog hgb hgf hin2 hlow2 hc4 hg4 hsm2 h5
    go_wp2_with fail
    refine HB.out.mono ?_
    rintro e w5 ⟨x, rfl, hx, _, hg5⟩
    obtain ⟨hin5, hb5⟩ := HK.out w5 hg5
    obtain ⟨hres, hbw⟩ := draw_res hb5
    have HF := Lib.hid (draw_fin (x := x) hin5 HLO.out hbw HSM2.out.1 HSM2.out.2 hx)
    obtain ⟨⟨z0, z1, z2, z3, z4, z5, e0, e1, e2, e3, e4, e5⟩, ⟨r0, r1, r2, r3, r4, r5⟩, s0, s1, s2, s3, s4, s5⟩ := blk_6c hres rfl
    clear hres hbw hin5 hb5 hg5 HK HLO HSM2 HSM HC HB HS3 hx
    go_wp2
    exact bodyPost_ret (v := .tuple #[.slice p2 l2.length c2, .agg #[.int .i64 x.kind, .int .i64 x.validity, .int .i64 x.uid, .int .i64 x.flags, sv x.name, sv x.text]]) (by simp [results, Tryz.results64, go_sem, s0, s1, s2, s3, s4, s5]) rfl (HF.out _ _ _ _ _ _)
  | false =>
    have hin2 := HS3.out.tree.is
    have hog := HS3.out.og
    have hgb := HC.out.1
    have hlow2 := HS3.out.tree.low
    have hgf : g ∉ fp := fun hm => by have := hlow2 g hm; omega
    have HB := Lib.hid (l10Bent_any g code l _ fp _ HS3.out.cur hin2 hgf (by have := HSM.out.1; omega) (fun x hx => (HSM.out.2 x hx).mono (q' := 6) (by omega)))
    have HK := Lib.hid (show ∀ w5 : World, w3.grownBy w5 (some g) → LfIn w5 (boxsLf l) (.slice p l.length c) fp ∧ Below (w.heap.size + 1) (w.alloc (.cells #[.int .i64 0, .int .i64 0, .int .i64 0, .int .i64 0, .string ⟨#[]⟩, .string ⟨#[]⟩] 26)) w5 from fun w5 hg5 =>
      ⟨LfIn.away hin2 (GrownIn.of_row hg5) (fun k hk hm => hgf ((by simpa using hm : k = g) ▸ hk)), below_cur HC.out.2.2 (grown_grown HS3.out.grown hg5) (by have := HC.out.2.2.size; rw [World.size_alloc] at this; exact this) hgb⟩)
    have HLO := Lib.hid (show ∀ q ∈ fp, w.heap.size < q from fun q hq => by have := hlow2 q hq; have := HC.out.2.2.size; omega)
    have HSM2 := Lib.hid (show l.length ≤ 5 ∧ ∀ x ∈ l, BoxQ 6 x from ⟨by have := HSM.out.1; omega, fun x hx => (HSM.out.2 x hx).mono (q' := 6) (by omega)⟩)
    clear hog hgb hgf hin2 hlow2
    go_wp2_with fail
    refine HB.out.mono ?_
    rintro e w5 ⟨x, rfl, hx, _, hg5⟩
    obtain ⟨hin5, hb5⟩ := HK.out w5 hg5
    obtain ⟨hres, hbw⟩ := draw_res hb5
    have HF := Lib.hid (draw_fin (x := x) hin5 HLO.out hbw HSM2.out.1 HSM2.out.2 hx)
    obtain ⟨⟨z0, z1, z2, z3, z4, z5, e0, e1, e2, e3, e4, e5⟩, ⟨r0, r1, r2, r3, r4, r5⟩, s0, s1, s2, s3, s4, s5⟩ := blk_6c hres rfl
    clear hres hbw hin5 hb5 hg5 HK HLO HSM2 HSM HC HB HS3 hx
    go_wp2
    exact bodyPost_ret (v := .tuple #[.slice p l.length c, .agg #[.int .i64 x.kind, .int .i64 x.validity, .int .i64 x.uid, .int .i64 x.flags, sv x.name, sv x.text]]) (by simp [results, Tryz.results64, go_sem, s0, s1, s2, s3, s4, s5]) rfl (HF.out _ _ _ _ _ _)

set_option maxRecDepth 20000 in
set_option maxHeartbeats 3200000 in
theorem DrawApplied_any (v : Value) (code : List UInt8) (w : World) (hr : Rd1 bv w v code) (hl : code.length ≤ 1048576) :
    Calls Tryz.prog 17 #[v] w fun e w' => DrawAPost w e w' := by
  have HN := Lib.hid (l10Args_any v code (w.alloc (.cells #[.int .i64 0, .int .i64 0, .int .i64 0, .int .i64 0, .string ⟨#[]⟩, .string ⟨#[]⟩] 26)) (hr.below ((Below.refl _ _).alloc (Nat.le_refl _) _)) hl)
  clear hr hl
  go_enter Tryz.func17, Tryz.ntmps17
  go_wp2_with fail
  refine HN.out.mono ?_
  rintro e w5 ⟨l, v2, fp, x, rfl, h5, hsm, hx, hin, hlo, hb⟩
  rw [World.size_alloc] at hlo hb
  obtain ⟨p, c, rfl⟩ := LfIn.slice hin
  obtain ⟨hres, hbw⟩ := draw_res hb
  have HF := Lib.hid (draw_fin (x := x) hin (fun q hq => hlo q hq) hbw h5 hsm hx)
  obtain ⟨⟨z0, z1, z2, z3, z4, z5, e0, e1, e2, e3, e4, e5⟩, ⟨r0, r1, r2, r3, r4, r5⟩, s0, s1, s2, s3, s4, s5⟩ := blk_6c hres rfl
  clear hres hbw hin hlo hb h5 hsm hx HN
  go_wp2
  exact bodyPost_ret (v := .tuple #[.slice p l.length c, .agg #[.int .i64 x.kind, .int .i64 x.validity, .int .i64 x.uid, .int .i64 x.flags, sv x.name, sv x.text]]) (by simp [results, Tryz.results17, go_sem, s0, s1, s2, s3, s4, s5]) rfl (HF.out _ _ _ _ _ _)

end Go.Proofs.YtbfgdbpfecffcaaGreatDoor
