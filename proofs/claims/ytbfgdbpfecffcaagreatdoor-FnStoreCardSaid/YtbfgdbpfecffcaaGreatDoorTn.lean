/-
  Tn: ComZ ComZb (what the claim needs of them).
-/
import Derived.Handy
import Derived.Deep.DeepCutAuto
import Derived.Test.YtbfgdbpfecffcaaGreatDoorRows
import Derived.WalkKit
import Derived.WalkSpells
import Derived.WalkLawsBesides
import Derived.Laws.IdiomStrings
import Derived.Lib.Hide
import Derived.Deep.AppendLies
import Derived.OrdersHeld
import Derived.Lib.ItoaNum
import Derived.Lib.ItoaMem
import Derived.Lib.AppendStr
import Derived.Lib.ItoaLen
import Derived.Lib.Strings
import Derived.Lib.Bytealg
import Derived.Lib.OthersKept
import Derived.Laws.RangeAny
import Derived.Laws.BitsAllLaws
import Derived.Laws.BitsLemmas
import Derived.IntWalk
import Derived.Lib.Join
import Derived.Deep.Strs
import Derived.Test.YtbfgdbpfecffcaaGreatDoorProg
import Derived.Laws.Tables
import Derived.Test.YtbfgdbpfecffcaaGreatDoorSb
import Derived.Test.YtbfgdbpfecffcaaGreatDoorSc
import Derived.Test.YtbfgdbpfecffcaaGreatDoorSd
import Derived.Test.YtbfgdbpfecffcaaGreatDoorSe
import Derived.Test.YtbfgdbpfecffcaaGreatDoorSf
import Derived.Test.YtbfgdbpfecffcaaGreatDoorSm
import Derived.Test.YtbfgdbpfecffcaaGreatDoorSo
import Derived.Test.YtbfgdbpfecffcaaGreatDoorSp
import Derived.Test.YtbfgdbpfecffcaaGreatDoorSx
import Derived.Test.YtbfgdbpfecffcaaGreatDoorTa
import Derived.Test.YtbfgdbpfecffcaaGreatDoorTj
import Derived.Test.YtbfgdbpfecffcaaGreatDoorTk
import Derived.Test.YtbfgdbpfecffcaaGreatDoorTl
import Derived.Test.YtbfgdbpfecffcaaGreatDoorTm

namespace Go.Proofs.YtbfgdbpfecffcaaGreatDoor
open Go.RowKit

set_option maxRecDepth 20000 in
set_option maxHeartbeats 6400000 in
theorem l10Bent_any (g : Nat) (code : List UInt8) (l : List BoxD) (v : Value) (fp : List Nat) (w : World) (hc : Cur w g code) (hl : LfIn w (boxsLf l) v fp) (hgf : g ∉ fp) (hl5 : l.length ≤ 5) (hsm : ∀ x ∈ l, BoxQ 6 x) :
    Calls Tryz.prog 90 #[.pointer (some ⟨g, 0, none⟩), v] w fun e w' => CmPost g code w e w' := by
  have hog := hc.lt
  have hfl := LfIn.lt _ _ _ hl
  have hcur1 := hc.below ((Below.refl w.heap.size w).alloc (Nat.le_refl _) (.cells #[.int .i64 0, .int .i64 0, .int .i64 0, .int .i64 0, .string ⟨#[]⟩, .string ⟨#[]⟩] 26))
  have hres1 := heap_alloc_new w (.cells #[.int .i64 0, .int .i64 0, .int .i64 0, .int .i64 0, .string ⟨#[]⟩, .string ⟨#[]⟩] 26)
  have hl1 := LfIn.below hl ((Below.refl w.heap.size w).alloc (Nat.le_refl _) (.cells #[.int .i64 0, .int .i64 0, .int .i64 0, .int .i64 0, .string ⟨#[]⟩, .string ⟨#[]⟩] 26))
  have hg1 : w.grownBy (w.alloc (.cells #[.int .i64 0, .int .i64 0, .int .i64 0, .int .i64 0, .string ⟨#[]⟩, .string ⟨#[]⟩] 26)) (some g) := World.grownBy_alloc w _ (some g)
  have HCC := Lib.hid (l10Commit_any g code l v fp _ hcur1 hl1 hgf hl5 hsm)
  have HOF := Lib.hid (show ∀ q ∈ fp, q < w.heap.size ∧ q ≠ g from fun q hq => ⟨hfl q hq, fun e => hgf (e ▸ hq)⟩)
  obtain ⟨p, c, rfl⟩ := LfIn.slice hl
  have H1 := Lib.hid (And.intro hcur1 (And.intro hres1 (And.intro hl1 hg1)))
  clear hc hl hgf hsm hfl hcur1 hres1 hl1 hg1 hl5
  go_enter Tryz.func90, Tryz.ntmps90
  go_wp2_with fail
  refine HCC.out.mono ?_
  rintro e w2 ⟨⟨xk, xv, xu, xf, xn, xt⟩, rfl, hx, hc2, hg2⟩
  have HX := Lib.hid hx
  have HS3 := Lib.hid (show CmS w g code l (.slice p l.length c) fp w2.heap.size ⟨xk, xv, xu, xf, xn, xt⟩ (w2.alloc (.cells #[.int .i64 xk, .int .i64 xv, .int .i64 xu, .int .i64 xf, sv xn, sv xt] 26)) by
    obtain ⟨k1, k2, k3, k4⟩ := H1.out
    have hsz := hg2.size
    rw [World.size_alloc] at hsz
    have hlA := LfIn.away k3 (GrownIn.of_row hg2) (fun k hk hm => (HOF.out k hk).2 (by simpa using hm))
    have hrA := (hg2.block w.heap.size (by simp) (fun e => by injection e with e; omega)).trans k2
    have hbA := (Below.refl w2.heap.size w2).alloc (Nat.le_refl _) (.cells #[.int .i64 xk, .int .i64 xv, .int .i64 xu, .int .i64 xf, sv xn, sv xt] 26)
    exact ⟨hc2.below hbA, hlA.below hbA, ⟨_, rfl, (Below.heap_alloc _ _ _ (by omega)).trans hrA⟩, heap_alloc_new w2 _, grown_grown (grown_grown k4 hg2) (World.grownBy_alloc w2 _ (some g)), hog, by omega, HOF.out⟩)
  clear hx hc2 hg2 H1 HCC
  go_upto_region 2 with fail
  refine wp_named9 ?_
  intro X hX
  rw [← hX] at HS3
  have HS := Lib.hid HS3.out
  clear hX HS3
  generalize w2.heap.size = m at *
  go_wp2_with fail
  refine (l1Below_any g code _ 14 (by omega) _ HS.out.cur (by omega) (by omega)).mono ?_
  rintro e w3 ⟨y, rfl, hy, hc3, hg3⟩
  have HS3 := Lib.hid (HS.out.draw hg3 hc3)
  clear hc3 hg3 HS
  rcases (show y = 0 ∨ y = 1 ∨ y = 2 ∨ y = 3 ∨ y = 4 ∨ y = 5 ∨ 6 ≤ y by omega) with rfl | rfl | rfl | rfl | rfl | rfl | hy6
  · go_wp2_with fail
    refine (l1Below_any g code _ 9 (by omega) _ HS3.out.cur (by omega) (by omega)).mono ?_
    rintro e w4 ⟨a, rfl, ha, hc4, hg4⟩
    have HS4 := Lib.hid (HS3.out.draw hg4 hc4)
    clear hc4 hg4
    obtain ⟨u, hu⟩ : ∃ u : Int, (a : Int) - 1 = u := ⟨_, rfl⟩
    have hu2 : in64 u := ⟨by omega, by omega⟩
    have HY := Lib.hid (show ComSm ⟨u, xv, xu, xf, xn, xt⟩ from by obtain ⟨h1, h2, h3, h4, h5, h6⟩ := HX.out; exact ComSm.mk' hu2 h2 h3 h4 h5 h6)
    have HS5 := Lib.hid (HS4.out.set 0 (.int .i64 u) (x' := ⟨u, xv, xu, xf, xn, xt⟩) rfl)
    obtain ⟨⟨a0, a1, a2, a3, a4, a5⟩, hf⟩ := HS4.out.cells
    have fi := hf 0
    clear hf HS4 HX HS3 a1 a2 a3 a4 a5
    go_upto_region 15 with fail
    refine wp_named9 ?_
    intro Y hY
    have HSY := Lib.hid (show CmS w g code l (.slice p l.length c) fp m ⟨u, xv, xu, xf, xn, xt⟩ Y by rw [hY]; exact HS5.out)
    clear hY HS5 fi a0
    obtain ⟨⟨a0, a1, a2, a3, a4, a5⟩, -⟩ := HSY.out.cells
    obtain ⟨cs2, hcs, hres⟩ := HSY.out.res
    obtain ⟨⟨z0, z1, z2, z3, z4, z5, e0, e1, e2, e3, e4, e5⟩, ⟨r0, r1, r2, r3, r4, r5⟩, s0, s1, s2, s3, s4, s5⟩ := blk_6c hres hcs
    clear hcs hres
    go_wp2
    exact bodyPost_ret (v := .agg #[.int .i64 u, .int .i64 xv, .int .i64 xu, .int .i64 xf, sv xn, sv xt]) (by simp [results, Tryz.results90, go_sem, s0, s1, s2, s3, s4, s5]) rfl (HSY.out.ret (y := ⟨u, xv, xu, xf, xn, xt⟩) HY.out _ _ _ _ _ _)
  · have hsa := HS3.out.alloc (.cells #[.int .i64 0, .int .i64 1, .int .i64 999999998, .int .i64 999999999, .int .i64 (-1)] 3)
    go_wp2_with fail
    refine (l1PickInt_any g code _ [0, 1, 999999998, 999999999, -1] _ hsa.cur (Rd1_lit (b := w3.heap.size) _ (heap_alloc_new w3 _) rfl rfl) (Apart_new HS3.out.cur.lt) (by simp) (by simp)).mono ?_
    rintro e w4 ⟨u, rfl, hu, hc4, hg4⟩
    have hu2 : in64 u := (show ∀ x ∈ ([0, 1, 999999998, 999999999, -1] : List Int), -9223372036854775808 ≤ x ∧ x ≤ 9223372036854775807 by decide) u hu
    have HS4 := Lib.hid (hsa.draw hg4 hc4)
    clear hsa hu hc4 hg4
    have HY := Lib.hid (show ComSm ⟨xk, xv, u, xf, xn, xt⟩ from by obtain ⟨h1, h2, h3, h4, h5, h6⟩ := HX.out; exact ComSm.mk' h1 h2 hu2 h4 h5 h6)
    have HS5 := Lib.hid (HS4.out.set 2 (.int .i64 u) (x' := ⟨xk, xv, u, xf, xn, xt⟩) rfl)
    obtain ⟨⟨a0, a1, a2, a3, a4, a5⟩, hf⟩ := HS4.out.cells
    have fi := hf 2
    clear hf HS4 HX HS3 a0 a1 a3 a4 a5
    go_upto_region 15 with fail
    refine wp_named9 ?_
    intro Y hY
    have HSY := Lib.hid (show CmS w g code l (.slice p l.length c) fp m ⟨xk, xv, u, xf, xn, xt⟩ Y by rw [hY]; exact HS5.out)
    clear hY HS5 fi a2
    obtain ⟨⟨a0, a1, a2, a3, a4, a5⟩, -⟩ := HSY.out.cells
    obtain ⟨cs2, hcs, hres⟩ := HSY.out.res
    obtain ⟨⟨z0, z1, z2, z3, z4, z5, e0, e1, e2, e3, e4, e5⟩, ⟨r0, r1, r2, r3, r4, r5⟩, s0, s1, s2, s3, s4, s5⟩ := blk_6c hres hcs
    clear hcs hres
    go_wp2
    exact bodyPost_ret (v := .agg #[.int .i64 xk, .int .i64 xv, .int .i64 u, .int .i64 xf, sv xn, sv xt]) (by simp [results, Tryz.results90, go_sem, s0, s1, s2, s3, s4, s5]) rfl (HSY.out.ret (y := ⟨xk, xv, u, xf, xn, xt⟩) HY.out _ _ _ _ _ _)
  · go_wp2_with fail
    refine (l5Bits_any g code _ HS3.out.cur).mono ?_
    rintro e w4 ⟨u, rfl, hu, hc4, hg4⟩
    have HS4 := Lib.hid (HS3.out.draw hg4 hc4)
    clear hc4 hg4
    have HY := Lib.hid (show ComSm ⟨xk, xv, xu, u, xn, xt⟩ from by obtain ⟨h1, h2, h3, h4, h5, h6⟩ := HX.out; exact ComSm.mk' h1 h2 h3 hu h5 h6)
    have HS5 := Lib.hid (HS4.out.set 3 (.int .i64 u) (x' := ⟨xk, xv, xu, u, xn, xt⟩) rfl)
    obtain ⟨⟨a0, a1, a2, a3, a4, a5⟩, hf⟩ := HS4.out.cells
    have fi := hf 3
    clear hf HS4 HX HS3 a0 a1 a2 a4 a5
    go_upto_region 15 with fail
    refine wp_named9 ?_
    intro Y hY
    have HSY := Lib.hid (show CmS w g code l (.slice p l.length c) fp m ⟨xk, xv, xu, u, xn, xt⟩ Y by rw [hY]; exact HS5.out)
    clear hY HS5 fi a3
    obtain ⟨⟨a0, a1, a2, a3, a4, a5⟩, -⟩ := HSY.out.cells
    obtain ⟨cs2, hcs, hres⟩ := HSY.out.res
    obtain ⟨⟨z0, z1, z2, z3, z4, z5, e0, e1, e2, e3, e4, e5⟩, ⟨r0, r1, r2, r3, r4, r5⟩, s0, s1, s2, s3, s4, s5⟩ := blk_6c hres hcs
    clear hcs hres
    go_wp2
    exact bodyPost_ret (v := .agg #[.int .i64 xk, .int .i64 xv, .int .i64 xu, .int .i64 u, sv xn, sv xt]) (by simp [results, Tryz.results90, go_sem, s0, s1, s2, s3, s4, s5]) rfl (HSY.out.ret (y := ⟨xk, xv, xu, u, xn, xt⟩) HY.out _ _ _ _ _ _)
  · go_wp2_with fail
    refine (l2Any_any g code _ HS3.out.cur).mono ?_
    rintro e w4 ⟨u, rfl, hu, hc4, hg4⟩
    have HS4 := Lib.hid (HS3.out.draw hg4 hc4)
    clear hc4 hg4
    have HY := Lib.hid (show ComSm ⟨xk, xv, xu, xf, u, xt⟩ from by obtain ⟨h1, h2, h3, h4, h5, h6⟩ := HX.out; exact ComSm.mk' h1 h2 h3 h4 hu h6)
    have HS5 := Lib.hid (HS4.out.set 4 (sv u) (x' := ⟨xk, xv, xu, xf, u, xt⟩) rfl)
    obtain ⟨⟨a0, a1, a2, a3, a4, a5⟩, hf⟩ := HS4.out.cells
    have fi := hf 4
    clear hf HS4 HX HS3 a0 a1 a2 a3 a5
    go_upto_region 15 with fail
    refine wp_named9 ?_
    intro Y hY
    have HSY := Lib.hid (show CmS w g code l (.slice p l.length c) fp m ⟨xk, xv, xu, xf, u, xt⟩ Y by rw [hY]; exact HS5.out)
    clear hY HS5 fi a4
    obtain ⟨⟨a0, a1, a2, a3, a4, a5⟩, -⟩ := HSY.out.cells
    obtain ⟨cs2, hcs, hres⟩ := HSY.out.res
    obtain ⟨⟨z0, z1, z2, z3, z4, z5, e0, e1, e2, e3, e4, e5⟩, ⟨r0, r1, r2, r3, r4, r5⟩, s0, s1, s2, s3, s4, s5⟩ := blk_6c hres hcs
    clear hcs hres
    go_wp2
    exact bodyPost_ret (v := .agg #[.int .i64 xk, .int .i64 xv, .int .i64 xu, .int .i64 xf, sv u, sv xt]) (by simp [results, Tryz.results90, go_sem, s0, s1, s2, s3, s4, s5]) rfl (HSY.out.ret (y := ⟨xk, xv, xu, xf, u, xt⟩) HY.out _ _ _ _ _ _)
  · have hsa := HS3.out.alloc (.cells #[.int .i64 0, .int .i64 999999999, .int .i64 1000000000] 3)
    go_wp2_with fail
    refine (l1PickInt_any g code _ [0, 999999999, 1000000000] _ hsa.cur (Rd1_lit (b := w3.heap.size) _ (heap_alloc_new w3 _) rfl rfl) (Apart_new HS3.out.cur.lt) (by simp) (by simp)).mono ?_
    rintro e w4 ⟨u, rfl, hu, hc4, hg4⟩
    have hu2 : in64 u := (show ∀ x ∈ ([0, 999999999, 1000000000] : List Int), -9223372036854775808 ≤ x ∧ x ≤ 9223372036854775807 by decide) u hu
    have HS4 := Lib.hid (hsa.draw hg4 hc4)
    clear hsa hu hc4 hg4
    have HY := Lib.hid (show ComSm ⟨xk, u, xu, xf, xn, xt⟩ from by obtain ⟨h1, h2, h3, h4, h5, h6⟩ := HX.out; exact ComSm.mk' h1 hu2 h3 h4 h5 h6)
    have HS5 := Lib.hid (HS4.out.set 1 (.int .i64 u) (x' := ⟨xk, u, xu, xf, xn, xt⟩) rfl)
    obtain ⟨⟨a0, a1, a2, a3, a4, a5⟩, hf⟩ := HS4.out.cells
    have fi := hf 1
    clear hf HS4 HX HS3 a0 a2 a3 a4 a5
    go_upto_region 15 with fail
    refine wp_named9 ?_
    intro Y hY
    have HSY := Lib.hid (show CmS w g code l (.slice p l.length c) fp m ⟨xk, u, xu, xf, xn, xt⟩ Y by rw [hY]; exact HS5.out)
    clear hY HS5 fi a1
    obtain ⟨⟨a0, a1, a2, a3, a4, a5⟩, -⟩ := HSY.out.cells
    obtain ⟨cs2, hcs, hres⟩ := HSY.out.res
    obtain ⟨⟨z0, z1, z2, z3, z4, z5, e0, e1, e2, e3, e4, e5⟩, ⟨r0, r1, r2, r3, r4, r5⟩, s0, s1, s2, s3, s4, s5⟩ := blk_6c hres hcs
    clear hcs hres
    go_wp2
    exact bodyPost_ret (v := .agg #[.int .i64 xk, .int .i64 u, .int .i64 xu, .int .i64 xf, sv xn, sv xt]) (by simp [results, Tryz.results90, go_sem, s0, s1, s2, s3, s4, s5]) rfl (HSY.out.ret (y := ⟨xk, u, xu, xf, xn, xt⟩) HY.out _ _ _ _ _ _)
  · have hsa := HS3.out.alloc (.cells #[.string ⟨#[120]⟩, .string ⟨#[49, 50, 51, 52, 53, 54, 55, 56, 57, 48, 49, 50, 51, 52, 53, 54, 55, 56, 57, 48, 49, 50, 51, 52, 53, 54, 55, 56, 57, 48, 49, 50, 51, 52, 53, 54, 55, 56, 57, 48, 49]⟩] 9)
    go_wp2_with fail
    refine (l1Pick_any g code _ [[120], [49, 50, 51, 52, 53, 54, 55, 56, 57, 48, 49, 50, 51, 52, 53, 54, 55, 56, 57, 48, 49, 50, 51, 52, 53, 54, 55, 56, 57, 48, 49, 50, 51, 52, 53, 54, 55, 56, 57, 48, 49]] _ hsa.cur (Rd1_lit (b := w3.heap.size) _ (heap_alloc_new w3 _) rfl rfl) (Apart_new HS3.out.cur.lt) (by simp) (by simp)).mono ?_
    rintro e w4 ⟨u, rfl, hu, hc4, hg4⟩
    have hu2 : u.length ≤ 41 := (show ∀ x ∈ ([[120], [49, 50, 51, 52, 53, 54, 55, 56, 57, 48, 49, 50, 51, 52, 53, 54, 55, 56, 57, 48, 49, 50, 51, 52, 53, 54, 55, 56, 57, 48, 49, 50, 51, 52, 53, 54, 55, 56, 57, 48, 49]] : List (List UInt8)), x.length ≤ 41 by decide) u hu
    have HS4 := Lib.hid (hsa.draw hg4 hc4)
    clear hsa hu hc4 hg4
    have HY := Lib.hid (show ComSm ⟨xk, xv, xu, xf, xn, u⟩ from by obtain ⟨h1, h2, h3, h4, h5, h6⟩ := HX.out; exact ComSm.mk' h1 h2 h3 h4 h5 hu2)
    have HS5 := Lib.hid (HS4.out.set 5 (sv u) (x' := ⟨xk, xv, xu, xf, xn, u⟩) rfl)
    obtain ⟨⟨a0, a1, a2, a3, a4, a5⟩, hf⟩ := HS4.out.cells
    have fi := hf 5
    clear hf HS4 HX HS3 a0 a1 a2 a3 a4
    go_upto_region 15 with fail
    refine wp_named9 ?_
    intro Y hY
    have HSY := Lib.hid (show CmS w g code l (.slice p l.length c) fp m ⟨xk, xv, xu, xf, xn, u⟩ Y by rw [hY]; exact HS5.out)
    clear hY HS5 fi a5
    obtain ⟨⟨a0, a1, a2, a3, a4, a5⟩, -⟩ := HSY.out.cells
    obtain ⟨cs2, hcs, hres⟩ := HSY.out.res
    obtain ⟨⟨z0, z1, z2, z3, z4, z5, e0, e1, e2, e3, e4, e5⟩, ⟨r0, r1, r2, r3, r4, r5⟩, s0, s1, s2, s3, s4, s5⟩ := blk_6c hres hcs
    clear hcs hres
    go_wp2
    exact bodyPost_ret (v := .agg #[.int .i64 xk, .int .i64 xv, .int .i64 xu, .int .i64 xf, sv xn, sv u]) (by simp [results, Tryz.results90, go_sem, s0, s1, s2, s3, s4, s5]) rfl (HSY.out.ret (y := ⟨xk, xv, xu, xf, xn, u⟩) HY.out _ _ _ _ _ _)
  · have HY := Lib.hid HX.out
    have e0 : ((y : Int) == 0) = false := by rw [beq_eq_false_iff_ne]; omega
    have e1 : ((y : Int) == 1) = false := by rw [beq_eq_false_iff_ne]; omega
    have e2 : ((y : Int) == 2) = false := by rw [beq_eq_false_iff_ne]; omega
    have e3 : ((y : Int) == 3) = false := by rw [beq_eq_false_iff_ne]; omega
    have e4 : ((y : Int) == 4) = false := by rw [beq_eq_false_iff_ne]; omega
    have e5 : ((y : Int) == 5) = false := by rw [beq_eq_false_iff_ne]; omega
    clear HX hy6 hy
    go_upto_region 15 with fail
    clear e0 e1 e2 e3 e4 e5
    refine wp_named9 ?_
    intro Y hY
    have HSY := Lib.hid (show CmS w g code l (.slice p l.length c) fp m ⟨xk, xv, xu, xf, xn, xt⟩ Y by rw [hY]; exact HS3.out)
    clear hY HS3
    obtain ⟨⟨a0, a1, a2, a3, a4, a5⟩, -⟩ := HSY.out.cells
    obtain ⟨cs2, hcs, hres⟩ := HSY.out.res
    obtain ⟨⟨z0, z1, z2, z3, z4, z5, e0, e1, e2, e3, e4, e5⟩, ⟨r0, r1, r2, r3, r4, r5⟩, s0, s1, s2, s3, s4, s5⟩ := blk_6c hres hcs
    clear hcs hres
    go_wp2
    exact bodyPost_ret (v := .agg #[.int .i64 xk, .int .i64 xv, .int .i64 xu, .int .i64 xf, sv xn, sv xt]) (by simp [results, Tryz.results90, go_sem, s0, s1, s2, s3, s4, s5]) rfl (HSY.out.ret (y := ⟨xk, xv, xu, xf, xn, xt⟩) HY.out _ _ _ _ _ _)

end Go.Proofs.YtbfgdbpfecffcaaGreatDoor

namespace Go.Proofs.YtbfgdbpfecffcaaGreatDoor
open Go.RowKit

/-- Right boxes are such as are drawn. -/
theorem right_q {l : List BoxD} (h : boxesB l = true) : l.length ≤ 5 ∧ ∀ x ∈ l, BoxQ 6 x := by
  obtain ⟨h1, h2, _, _⟩ := (boxes_iff l).1 h
  refine ⟨by omega, fun b hb => ?_⟩
  obtain ⟨n1, v1, x1, m1, _, m2⟩ := (box_iff b).1 (h2 b hb)
  refine ⟨?_, ⟨by omega, by omega⟩, ⟨by omega, by omega⟩, m1, fun m hm => ?_⟩
  · unfold nameB at n1
    simp only [Bool.and_eq_true, decide_eq_true_eq] at n1
    omega
  · obtain ⟨u1, f1, t1⟩ := m2 m hm
    unfold flB at f1
    simp only [Bool.and_eq_true, decide_eq_true_eq] at f1
    exact ⟨⟨by omega, by omega⟩, ⟨by omega, by omega⟩, t1⟩
theorem applied_q {l : List BoxD} (x : ComD) (h5 : l.length ≤ 5) (hs : ∀ x ∈ l, BoxQ 6 x) : (appliedL l x).length ≤ 5 ∧ ∀ y ∈ appliedL l x, BoxQ 6 y := by
  cases ha : appB l x with
  | false => rw [applied_no ha]; exact ⟨h5, hs⟩
  | true => rw [applied_yes ha]; exact right_q (done_right ha)
theorem coms_fine : ∀ {l : List ComD}, l.length ≤ 6 → (∀ x ∈ l, ComSm x) → szLf (commitsLf l) ≤ 1048576 ∧ LfBnd (commitsLf l) := by
  have key : ∀ {l : List ComD}, (∀ x ∈ l, ComSm x) → szLs (l.flatMap ComD.lf) ≤ 82 * l.length ∧ LsBnd (l.flatMap ComD.lf) := by
    intro l
    induction l with
    | nil => intro _; exact ⟨by simp [szLs], trivial⟩
    | cons x l ih =>
      intro h
      obtain ⟨h1, h2⟩ := ih (fun y hy => h y (List.mem_cons_of_mem _ hy))
      have hx := h x (List.mem_cons_self ..)
      rw [List.flatMap_cons]
      refine ⟨?_, LsBnd.append.2 ⟨hx.fine.2, h2⟩⟩
      rw [szLs_append, List.length_cons, ComD.sz]
      obtain ⟨_, _, _, _, n1, n2⟩ := hx
      omega
  intro l hl h
  obtain ⟨h1, h2⟩ := key h
  have h6 : szLf (commitsLf l) = l.length + szLs (l.flatMap ComD.lf) := rfl
  exact ⟨by omega, by omega, h2⟩

/-- A log that is being drawn: the first boxes, the boxes now, the log. -/
structure AllS (w : World) (g : Nat) (code : List UInt8) (l : List BoxD) (v : Value) (fp : List Nat) (l2 : List BoxD) (v2 : Value) (fp2 : List Nat) (lg : List ComD) (vg : Value) (fpg : List Nat) (W : World) : Prop where
  cur : Cur W g code
  first : LfIn W (boxsLf l) v fp
  now : LfIn W (boxsLf l2) v2 fp2
  log : LfIn W (commitsLf lg) vg fpg
  below : Below w.heap.size w W
  gl : w.heap.size ≤ g
  o1 : ∀ q ∈ fp, q ≠ g ∧ q ∉ fpg
  o2 : ∀ q ∈ fp2, q ≠ g ∧ q ∉ fpg
  o3 : ∀ q ∈ fpg, g < q
section
variable {w W W' : World} {g : Nat} {code : List UInt8} {l l2 l3 : List BoxD} {v v2 v3 vg : Value} {fp fp2 fp3 fpg : List Nat} {lg : List ComD}
theorem AllS.draw (h : AllS w g code l v fp l2 v2 fp2 lg vg fpg W) (hg : W.grownBy W' (some g)) (hc : Cur W' g code) : AllS w g code l v fp l2 v2 fp2 lg vg fpg W' where
  cur := hc
  first := LfIn.away h.first (GrownIn.of_row hg) (fun k hk hm => (h.o1 k hk).1 (by simpa using hm))
  now := LfIn.away h.now (GrownIn.of_row hg) (fun k hk hm => (h.o2 k hk).1 (by simpa using hm))
  log := LfIn.away h.log (GrownIn.of_row hg) (fun k hk hm => by have h1 := h.o3 k hk; have h2 : k = g := (by simpa using hm); omega)
  below := below_cur h.below hg h.below.size h.gl
  gl := h.gl
  o1 := h.o1
  o2 := h.o2
  o3 := h.o3
theorem AllS.under (h : AllS w g code l v fp l2 v2 fp2 lg vg fpg W) (hb : Below W.heap.size W W') : AllS w g code l v fp l2 v2 fp2 lg vg fpg W' := h.draw (grown_of_below hb) (h.cur.below hb)
theorem AllS.next (h : AllS w g code l v fp l2 v2 fp2 lg vg fpg W) (hz : LfIn W (boxsLf l3) v3 fp3) (ho : ∀ q ∈ fp3, q ≠ g ∧ q ∉ fpg) : AllS w g code l v fp l3 v3 fp3 lg vg fpg W :=
  ⟨h.cur, h.first, hz, h.log, h.below, h.gl, h.o1, ho, h.o3⟩
theorem AllS.snoc (h : AllS w g code l v fp l2 v2 fp2 lg vg fpg W) {x : ComD} {gn cap : Nat} (ho : W'.ownsRow 0 26 6 (.slice (some ⟨gn, 0, none⟩) (lg.length + 1) cap) (lg.length + 1) (lg.flatMap comc ++ [.int .i64 x.kind, .int .i64 x.validity, .int .i64 x.uid, .int .i64 x.flags, sv x.name, sv x.text]))
    (hg : W.grownBy W' vg.ownBlock) (hor : vg.ownBlock = some gn ∨ W.heap.size ≤ gn) : AllS w g code l v fp l2 v2 fp2 (lg ++ [x]) (.slice (some ⟨gn, 0, none⟩) (lg ++ [x]).length cap) [gn] W' := by
  obtain ⟨_, hf⟩ := coms_in.1 h.log
  have hin : ∀ k, vg.ownBlock = some k → k ∈ fpg := fun k hk => by rw [hf, hk]; simp
  have h3 : g < gn := by
    rcases hor with h1 | h1
    · exact h.o3 gn (hin gn h1)
    · exact Nat.lt_of_lt_of_le h.cur.lt h1
  have hof : ∀ {L : List BoxD} {u : Value} {f : List Nat}, LfIn W (boxsLf L) u f → (∀ q ∈ f, q ≠ g ∧ q ∉ fpg) → ∀ q ∈ f, q ≠ g ∧ q ∉ [gn] := fun {L u f} hL hq q hm => ⟨(hq q hm).1, fun hm2 => by
    obtain rfl : q = gn := by simpa using hm2
    rcases hor with h1 | h1
    · exact (hq _ hm).2 (hin _ h1)
    · have := LfIn.lt _ _ _ hL _ hm; omega⟩
  refine ⟨h.cur.grown hg (fun k hk => h.o3 k (hin k hk)), LfIn.away h.first (GrownIn.of_row hg) (fun k hk hm => (h.o1 k hk).2 (hf ▸ hm)), LfIn.away h.now (GrownIn.of_row hg) (fun k hk hm => (h.o2 k hk).2 (hf ▸ hm)), ?_,
    h.below.grown hg h.below.size (fun k hk => by have h1 := h.o3 k (hin k hk); have h2 := h.gl; omega), h.gl, hof h.first h.o1, hof h.now h.o2, fun q hq => by have h4 : q = gn := (by simpa using hq); omega⟩
  refine coms_in.2 ⟨?_, rfl⟩
  rw [List.flatMap_append, List.length_append]
  simpa [comc] using ho
end
def DrawAllPost (w : World) (e : Ending) (w' : World) : Prop := ∃ (l : List BoxD) (v : Value) (lg : List ComD) (vg : Value), e = .returned (.tuple #[v, vg]) ∧ (l.length ≤ 5 ∧ ∀ x ∈ l, BoxQ 6 x) ∧ (LfRd w' (boxsLf l) v ∧ CapLe v) ∧ (lg.length ≤ 6 ∧ ∀ x ∈ lg, ComSm x) ∧ (LfRd w' (commitsLf lg) vg ∧ CapLe vg) ∧ Below w.heap.size w w'

end Go.Proofs.YtbfgdbpfecffcaaGreatDoor
