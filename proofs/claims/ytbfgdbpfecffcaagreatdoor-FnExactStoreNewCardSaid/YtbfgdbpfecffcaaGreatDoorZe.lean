/-
  Ze: LawBoxesAt LawBoxAt LawStoreOk LawStoreNew StoG (what the claim needs of them).
-/
import Derived.Deep.DeepCutAuto
import Derived.Handy
import Derived.Test.YtbfgdbpfecffcaaGreatDoorRows
import Derived.WalkKit
import Derived.WalkSpells
import Derived.WalkLawsBesides
import Derived.Laws.IdiomStrings
import Derived.Lib.Hide
import Derived.Deep.AppendLies
import Derived.OrdersHeld
import Derived.Lib.ItoaNum
import Derived.Lib.ItoaMem
import Derived.Lib.AppendStr
import Derived.Lib.ItoaLen
import Derived.Lib.Strings
import Derived.Lib.Bytealg
import Derived.Lib.OthersKept
import Derived.Laws.RangeAny
import Derived.Laws.BitsAllLaws
import Derived.Laws.BitsLemmas
import Derived.IntWalk
import Derived.Lib.Join
import Derived.Deep.Strs
import Derived.Test.YtbfgdbpfecffcaaGreatDoorProg
import Derived.Laws.Tables
import Derived.Test.YtbfgdbpfecffcaaGreatDoorYb
import Derived.Test.YtbfgdbpfecffcaaGreatDoorYc
import Derived.Test.YtbfgdbpfecffcaaGreatDoorYd
import Derived.Test.YtbfgdbpfecffcaaGreatDoorYe
import Derived.Test.YtbfgdbpfecffcaaGreatDoorYf
import Derived.Test.YtbfgdbpfecffcaaGreatDoorYh
import Derived.Test.YtbfgdbpfecffcaaGreatDoorYk
import Derived.Test.YtbfgdbpfecffcaaGreatDoorYm
import Derived.Test.YtbfgdbpfecffcaaGreatDoorYo
import Derived.Test.YtbfgdbpfecffcaaGreatDoorYq
import Derived.Test.YtbfgdbpfecffcaaGreatDoorYr
import Derived.Test.YtbfgdbpfecffcaaGreatDoorZb
import Derived.Test.YtbfgdbpfecffcaaGreatDoorZc
import Derived.Test.YtbfgdbpfecffcaaGreatDoorZd

namespace Go.Proofs.YtbfgdbpfecffcaaGreatDoor
open Go.RowKit

def CtrBoxesAt (f : FuncId) (G : World → Prop) : Prop := ∀ (x_S : StoD) (r_S_0 : Value) (r_S_1 : Value) (n_I : Int) (W : World), G W → LfRd W (boxsLf x_S.boxes) r_S_0 → CapLe r_S_0 → LfRd W (commitsLf x_S.log) r_S_1 → CapLe r_S_1 → szLs x_S.lf ≤ 1048576 → LsBnd x_S.lf → in64 n_I → 
  Calls Tryz.prog f #[.agg #[r_S_0, r_S_1, .int .i64 x_S.given], .int .i64 n_I] W fun e w' => ∃ z0 f0, e = .returned (z0) ∧ LfIn w' (boxsLf (atL x_S.log n_I)) z0 f0 ∧ f0.Nodup ∧ (∀ q ∈ f0, W.heap.size ≤ q) ∧ Below W.heap.size W w'

set_option maxRecDepth 20000 in
set_option maxHeartbeats 12800000 in
theorem FnExactBoxesAt_of {G : World → Prop} (hK : Keeps G) (SP : CtrBoxesAt 35 (fun _ => True)) (IM : CtrBoxesAt 34 G) (x_S : StoD) (r_S_0 : Value) (r_S_1 : Value) (n_I : Int) (w : World) (hG : G w) (h_r_S_0 : LfRd w (boxsLf x_S.boxes) r_S_0) (h_r_S_1 : LfRd w (commitsLf x_S.log) r_S_1) (hb_S : LsBnd x_S.lf) (hb_I : in64 n_I) (hr_0 : szLs x_S.lf ≤ 1048576 → szLf (boxsLf (atL x_S.log n_I)) ≤ 1000000000) :
    Calls Tryz.prog 13 #[.agg #[r_S_0, r_S_1, .int .i64 x_S.given], .int .i64 n_I] w fun e w' => e = .returned (.bool true) ∧ Below w.heap.size w w' := by
  have H_r_S_0 := Lib.hid h_r_S_0
  have H_r_S_1 := Lib.hid h_r_S_1
  obtain ⟨p_S_0, c_S_0, rfl⟩ := LfRd.slice h_r_S_0
  obtain ⟨p_S_1, c_S_1, rfl⟩ := LfRd.slice h_r_S_1
  clear h_r_S_0
  clear h_r_S_1
  by_cases k0 : szLs x_S.lf ≤ 1048576
  case neg =>
    have q0 := fun (ll : Int) (W : World) (hl : ll = ((1048576 : Nat) : Int)) (g0 : LfRd W (boxsLf x_S.boxes) (.slice p_S_0 x_S.boxes.length c_S_0)) (g1 : LfRd W (commitsLf x_S.log) (.slice p_S_1 x_S.log.length c_S_1)) => szStore_g x_S (.slice p_S_0 x_S.boxes.length c_S_0) (.slice p_S_1 x_S.log.length c_S_1) ll 1048576 hl W g0 g1 hb_S (by omega)
    simp only [show szN 1048576 (szLs x_S.lf) = -1 from szN_no k0] at q0
    have C_sz0 := Lib.hid q0
    clear q0 SP IM hr_0
    have hb : Below w.heap.size w (w.alloc (.cells #[(.slice p_S_0 x_S.boxes.length c_S_0), (.slice p_S_1 x_S.log.length c_S_1), .int .i64 x_S.given] 73)) := ((Below.refl _ _).alloc (Nat.le_refl _) _)
    have HB1 := Lib.hid (show (w.alloc (.cells #[(.slice p_S_0 x_S.boxes.length c_S_0), (.slice p_S_1 x_S.log.length c_S_1), .int .i64 x_S.given] 73)).heap[w.heap.size]? = some (.cells #[(.slice p_S_0 x_S.boxes.length c_S_0), (.slice p_S_1 x_S.log.length c_S_1), .int .i64 x_S.given] 73 (0, 0)) from by
      have h := heap_alloc_new w (.cells #[(.slice p_S_0 x_S.boxes.length c_S_0), (.slice p_S_1 x_S.log.length c_S_1), .int .i64 x_S.given] 73)
      exact h)
    have hz0 : w.heap.size + 1 ≤ (w.alloc (.cells #[(.slice p_S_0 x_S.boxes.length c_S_0), (.slice p_S_1 x_S.log.length c_S_1), .int .i64 x_S.given] 73)).heap.size := by simp
    generalize hW0 : (w.alloc (.cells #[(.slice p_S_0 x_S.boxes.length c_S_0), (.slice p_S_1 x_S.log.length c_S_1), .int .i64 x_S.given] 73)) = W0 at *
    go_enter Tryz.func13, Tryz.ntmps13
    have hbz := Lib.hid hb.size
    have y2 := (Lib.cell_of_heap HB1.out 0).trans (show _ = some ((.slice p_S_0 x_S.boxes.length c_S_0)) from rfl)
    have y3 := (Lib.cell_of_heap HB1.out 1).trans (show _ = some ((.slice p_S_1 x_S.log.length c_S_1)) from rfl)
    have y4 := (Lib.cell_of_heap HB1.out 2).trans (show _ = some (.int .i64 x_S.given) from rfl)
    go_wp2_with fail
    refine (C_sz0.out _ _ (by first | rfl | omega) (LfRd.below hb _ _ H_r_S_0.out) (LfRd.below hb _ _ H_r_S_1.out)).mono ?_
    rintro e w5 ⟨rfl, b6⟩
    clear y2 y3 y4
    have F7 := Lib.hid ((b6.block (w.heap.size) (Array.getElem?_eq_some_iff.1 HB1.out).1).trans HB1.out)
    clear HB1
    have hz8 : W0.heap.size ≤ w5.heap.size := b6.size
    replace hb := hb.trans (b6.mono hb.size)
    clear b6
    go_wp2
    go_ret
    exact ⟨rfl, hb⟩
  obtain ⟨L1, hL1⟩ : ∃ L, L + szLs x_S.lf = 1048576 := ⟨1048576 - szLs x_S.lf, by omega⟩
  have bL1 : L1 ≤ 1048576 := by omega
  have nL1 : ¬ (L1 : Int) < 0 := by omega
  have q0 := fun (ll : Int) (W : World) (hl : ll = ((1048576 : Nat) : Int)) (g0 : LfRd W (boxsLf x_S.boxes) (.slice p_S_0 x_S.boxes.length c_S_0)) (g1 : LfRd W (commitsLf x_S.log) (.slice p_S_1 x_S.log.length c_S_1)) => szStore_g x_S (.slice p_S_0 x_S.boxes.length c_S_0) (.slice p_S_1 x_S.log.length c_S_1) ll 1048576 hl W g0 g1 hb_S (by omega)
  simp only [show szN 1048576 (szLs x_S.lf) = (L1 : Int) from by rw [szN_yes k0]; omega] at q0
  have C_sz0 := Lib.hid q0
  clear q0
  have HL1 := Lib.hid hL1
  have hsz_0 : szLs x_S.lf ≤ 1048576 := by omega
  clear hL1
  have hsm_S : szLs x_S.lf ≤ 1048576 := by omega
  have SZ_S := Lib.hid hsm_S
  have CN_S := Lib.hid (show 1 + cntLf (boxsLf x_S.boxes) + cntLf (commitsLf x_S.log) ≤ 1000000000 from by have hs := StoD.sz x_S; have h0 := cntRow_le (boxsLf_fit x_S.boxes); have h1 := cntRow_le (commitsLf_fit x_S.log); simp only [boxsLf, commitsLf] at hs ⊢; omega)
  have C_to_S := Lib.hid (fun (W : World) (g0 : LfRd W (boxsLf x_S.boxes) (.slice p_S_0 x_S.boxes.length c_S_0)) (g1 : LfRd W (commitsLf x_S.log) (.slice p_S_1 x_S.log.length c_S_1)) => toStore_g x_S (.slice p_S_0 x_S.boxes.length c_S_0) (.slice p_S_1 x_S.log.length c_S_1) W g0 g1 (by omega))
  have C_spec := Lib.hid (fun (u_S_0 : Value) (u_S_1 : Value) (W : World) (k_S_0 : LfRd W (boxsLf x_S.boxes) u_S_0) (kc_S_0 : CapLe u_S_0) (k_S_1 : LfRd W (commitsLf x_S.log) u_S_1) (kc_S_1 : CapLe u_S_1) => SP x_S u_S_0 u_S_1 n_I W trivial k_S_0 kc_S_0 k_S_1 kc_S_1 hsm_S hb_S hb_I)
  have C_impl := Lib.hid (fun (u_S_0 : Value) (u_S_1 : Value) (W : World) (hg : G W) (k_S_0 : LfRd W (boxsLf x_S.boxes) u_S_0) (kc_S_0 : CapLe u_S_0) (k_S_1 : LfRd W (commitsLf x_S.log) u_S_1) (kc_S_1 : CapLe u_S_1) => IM x_S u_S_0 u_S_1 n_I W hg k_S_0 kc_S_0 k_S_1 kc_S_1 hsm_S hb_S hb_I)
  have hq_0 := hr_0 hsm_S
  have SZ_r0 := Lib.hid hq_0
  have CN_r0 := Lib.hid (show 1 + cntLf (boxsLf (atL x_S.log n_I)) ≤ 100000000000 from by have h := cntRow_le (boxsLf_fit (atL x_S.log n_I)); simp only [boxsLf] at h hq_0 ⊢; omega)
  clear hq_0
  clear SP IM hr_0 hb_S hsm_S
  have hb : Below w.heap.size w (w.alloc (.cells #[(.slice p_S_0 x_S.boxes.length c_S_0), (.slice p_S_1 x_S.log.length c_S_1), .int .i64 x_S.given] 73)) := ((Below.refl _ _).alloc (Nat.le_refl _) _)
  have HB1 := Lib.hid (show (w.alloc (.cells #[(.slice p_S_0 x_S.boxes.length c_S_0), (.slice p_S_1 x_S.log.length c_S_1), .int .i64 x_S.given] 73)).heap[w.heap.size]? = some (.cells #[(.slice p_S_0 x_S.boxes.length c_S_0), (.slice p_S_1 x_S.log.length c_S_1), .int .i64 x_S.given] 73 (0, 0)) from by
    have h := heap_alloc_new w (.cells #[(.slice p_S_0 x_S.boxes.length c_S_0), (.slice p_S_1 x_S.log.length c_S_1), .int .i64 x_S.given] 73)
    exact h)
  have hz0 : w.heap.size + 1 ≤ (w.alloc (.cells #[(.slice p_S_0 x_S.boxes.length c_S_0), (.slice p_S_1 x_S.log.length c_S_1), .int .i64 x_S.given] 73)).heap.size := by simp
  generalize hW0 : (w.alloc (.cells #[(.slice p_S_0 x_S.boxes.length c_S_0), (.slice p_S_1 x_S.log.length c_S_1), .int .i64 x_S.given] 73)) = W0 at *
  go_enter Tryz.func13, Tryz.ntmps13
  have hbz := Lib.hid hb.size
  have y2 := (Lib.cell_of_heap HB1.out 0).trans (show _ = some ((.slice p_S_0 x_S.boxes.length c_S_0)) from rfl)
  have y3 := (Lib.cell_of_heap HB1.out 1).trans (show _ = some ((.slice p_S_1 x_S.log.length c_S_1)) from rfl)
  have y4 := (Lib.cell_of_heap HB1.out 2).trans (show _ = some (.int .i64 x_S.given) from rfl)
  go_wp2_with fail
  refine (C_sz0.out _ _ (by first | rfl | omega) (LfRd.below hb _ _ H_r_S_0.out) (LfRd.below hb _ _ H_r_S_1.out)).mono ?_
  rintro e w5 ⟨rfl, b6⟩
  clear y2 y3 y4
  have F7 := Lib.hid ((b6.block (w.heap.size) (Array.getElem?_eq_some_iff.1 HB1.out).1).trans HB1.out)
  clear HB1
  have hz8 : W0.heap.size ≤ w5.heap.size := b6.size
  replace hb := hb.trans (b6.mono hb.size)
  clear b6
  have y9 := (Lib.cell_of_heap F7.out 0).trans (show _ = some ((.slice p_S_0 x_S.boxes.length c_S_0)) from rfl)
  have y10 := (Lib.cell_of_heap F7.out 1).trans (show _ = some ((.slice p_S_1 x_S.log.length c_S_1)) from rfl)
  have y11 := (Lib.cell_of_heap F7.out 2).trans (show _ = some (.int .i64 x_S.given) from rfl)
  go_wp2_with fail
  refine (C_to_S.out _ (LfRd.below hb _ _ H_r_S_0.out) (LfRd.below hb _ _ H_r_S_1.out)).mono ?_
  rintro e w12 ⟨z15, f17, z16, f18, rfl, i19, i20, nd21, lo22, b13⟩
  clear y9 y10 y11
  have F23 := Lib.hid ((b13.block (w.heap.size) (Array.getElem?_eq_some_iff.1 F7.out).1).trans F7.out)
  clear F7
  have hz24 : w5.heap.size ≤ w12.heap.size := b13.size
  replace hb := hb.trans (b13.mono hb.size)
  have LO25 := Lib.hid (show ∀ q ∈ f17 ++ f18, w5.heap.size ≤ q from lo22)
  have HI26 := Lib.hid (show ∀ q ∈ f17 ++ f18, q < w12.heap.size from fun q hq => by simp only [List.mem_append] at hq; rcases hq with hq | hq <;> first | exact LfIn.lt _ _ _ i19 q hq | exact LfIn.lt _ _ _ i20 q hq)
  have ND27 := Lib.hid nd21
  have F28 := Lib.hid i19
  have LO29 := Lib.hid (show ∀ q ∈ f17, w5.heap.size ≤ q from fun q hq => LO25.out q (by simp [hq]))
  have HI30 := Lib.hid (show ∀ q ∈ f17, q < w12.heap.size from fun q hq => HI26.out q (by simp [hq]))
  obtain ⟨pz15, cz15, rfl⟩ := LfIn.slice i19
  have F31 := Lib.hid i20
  have LO32 := Lib.hid (show ∀ q ∈ f18, w5.heap.size ≤ q from fun q hq => LO25.out q (by simp [hq]))
  have HI33 := Lib.hid (show ∀ q ∈ f18, q < w12.heap.size from fun q hq => HI26.out q (by simp [hq]))
  obtain ⟨pz16, cz16, rfl⟩ := LfIn.slice i20
  clear i19
  clear i20
  clear nd21 lo22
  clear b13
  go_wp2_with fail
  refine (C_spec.out _ _ _ (LfIn.rd _ _ _ F28.out) (CapLe.of_in F28.out) (LfIn.rd _ _ _ F31.out) (CapLe.of_in F31.out)).mono ?_
  rintro e w34 ⟨z36, f37, rfl, i38, nd39, lo40, b35⟩
  have F41 := Lib.hid ((b35.block (w.heap.size) (Array.getElem?_eq_some_iff.1 F23.out).1).trans F23.out)
  clear F23
  have F42 := Lib.hid (LfIn.below F28.out b35)
  clear F28
  have F43 := Lib.hid (LfIn.below F31.out b35)
  clear F31
  have hz44 : w12.heap.size ≤ w34.heap.size := b35.size
  replace hb := hb.trans (b35.mono hb.size)
  have LO45 := Lib.hid (show ∀ q ∈ f37, w12.heap.size ≤ q from lo40)
  have HI46 := Lib.hid (show ∀ q ∈ f37, q < w34.heap.size from fun q hq => LfIn.lt _ _ _ i38 q hq)
  have ND47 := Lib.hid nd39
  have F48 := Lib.hid i38
  obtain ⟨pz36, cz36, rfl⟩ := LfIn.slice i38
  clear i38
  clear nd39 lo40
  clear b35
  have y49 := (Lib.cell_of_heap F41.out 0).trans (show _ = some ((.slice p_S_0 x_S.boxes.length c_S_0)) from rfl)
  have y50 := (Lib.cell_of_heap F41.out 1).trans (show _ = some ((.slice p_S_1 x_S.log.length c_S_1)) from rfl)
  have y51 := (Lib.cell_of_heap F41.out 2).trans (show _ = some (.int .i64 x_S.given) from rfl)
  go_wp2_with fail
  refine (C_to_S.out _ (LfRd.below hb _ _ H_r_S_0.out) (LfRd.below hb _ _ H_r_S_1.out)).mono ?_
  rintro e w52 ⟨z55, f57, z56, f58, rfl, i59, i60, nd61, lo62, b53⟩
  clear y49 y50 y51
  have F63 := Lib.hid ((b53.block (w.heap.size) (Array.getElem?_eq_some_iff.1 F41.out).1).trans F41.out)
  clear F41
  have F64 := Lib.hid (LfIn.below F42.out b53)
  clear F42
  have F65 := Lib.hid (LfIn.below F43.out b53)
  clear F43
  have F66 := Lib.hid (LfIn.below F48.out b53)
  clear F48
  have hz67 : w34.heap.size ≤ w52.heap.size := b53.size
  replace hb := hb.trans (b53.mono hb.size)
  have LO68 := Lib.hid (show ∀ q ∈ f57 ++ f58, w34.heap.size ≤ q from lo62)
  have HI69 := Lib.hid (show ∀ q ∈ f57 ++ f58, q < w52.heap.size from fun q hq => by simp only [List.mem_append] at hq; rcases hq with hq | hq <;> first | exact LfIn.lt _ _ _ i59 q hq | exact LfIn.lt _ _ _ i60 q hq)
  have ND70 := Lib.hid nd61
  have F71 := Lib.hid i59
  have LO72 := Lib.hid (show ∀ q ∈ f57, w34.heap.size ≤ q from fun q hq => LO68.out q (by simp [hq]))
  have HI73 := Lib.hid (show ∀ q ∈ f57, q < w52.heap.size from fun q hq => HI69.out q (by simp [hq]))
  obtain ⟨pz55, cz55, rfl⟩ := LfIn.slice i59
  have F74 := Lib.hid i60
  have LO75 := Lib.hid (show ∀ q ∈ f58, w34.heap.size ≤ q from fun q hq => LO68.out q (by simp [hq]))
  have HI76 := Lib.hid (show ∀ q ∈ f58, q < w52.heap.size from fun q hq => HI69.out q (by simp [hq]))
  obtain ⟨pz56, cz56, rfl⟩ := LfIn.slice i60
  clear i59
  clear i60
  clear nd61 lo62
  clear b53
  have b78 : Below w52.heap.size w52 (w52.alloc (.cells #[(.slice pz55 x_S.boxes.length cz55), (.slice pz56 x_S.log.length cz56), .int .i64 x_S.given] 46)) := (Below.refl _ _).alloc (Nat.le_refl _) _
  have F79 := Lib.hid (heap_alloc_new w52 (.cells #[(.slice pz55 x_S.boxes.length cz55), (.slice pz56 x_S.log.length cz56), .int .i64 x_S.given] 46))
  have hz80 : w52.heap.size < (w52.alloc (.cells #[(.slice pz55 x_S.boxes.length cz55), (.slice pz56 x_S.log.length cz56), .int .i64 x_S.given] 46)).heap.size := by simp
  generalize hX77 : w52.alloc (.cells #[(.slice pz55 x_S.boxes.length cz55), (.slice pz56 x_S.log.length cz56), .int .i64 x_S.given] 46) = X77 at *
  have F81 := Lib.hid ((b78.block (w.heap.size) (Array.getElem?_eq_some_iff.1 F63.out).1).trans F63.out)
  clear F63
  have F82 := Lib.hid (LfIn.below F64.out b78)
  clear F64
  have F83 := Lib.hid (LfIn.below F65.out b78)
  clear F65
  have F84 := Lib.hid (LfIn.below F66.out b78)
  clear F66
  have F85 := Lib.hid (LfIn.below F71.out b78)
  clear F71
  have F86 := Lib.hid (LfIn.below F74.out b78)
  clear F74
  have hz87 : w52.heap.size ≤ X77.heap.size := b78.size
  replace hb := hb.trans (b78.mono hb.size)
  clear b78
  have y88 := (Lib.cell_of_heap F79.out 0).trans (show _ = some ((.slice pz55 x_S.boxes.length cz55)) from rfl)
  have y89 := (Lib.cell_of_heap F79.out 1).trans (show _ = some ((.slice pz56 x_S.log.length cz56)) from rfl)
  have y90 := (Lib.cell_of_heap F79.out 2).trans (show _ = some (.int .i64 x_S.given) from rfl)
  go_wp2_with fail
  refine (C_impl.out _ _ _ (hK _ _ hG hb) (LfIn.rd _ _ _ F85.out) (CapLe.of_in F85.out) (LfIn.rd _ _ _ F86.out) (CapLe.of_in F86.out)).mono ?_
  rintro e w91 ⟨z93, f94, rfl, i95, nd96, lo97, b92⟩
  clear y88 y89 y90
  have F98 := Lib.hid ((b92.block (w.heap.size) (Array.getElem?_eq_some_iff.1 F81.out).1).trans F81.out)
  clear F81
  have F99 := Lib.hid (LfIn.below F82.out b92)
  clear F82
  have F100 := Lib.hid (LfIn.below F83.out b92)
  clear F83
  have F101 := Lib.hid (LfIn.below F84.out b92)
  clear F84
  have F102 := Lib.hid (LfIn.below F85.out b92)
  clear F85
  have F103 := Lib.hid (LfIn.below F86.out b92)
  clear F86
  have F104 := Lib.hid ((b92.block (w52.heap.size) (Array.getElem?_eq_some_iff.1 F79.out).1).trans F79.out)
  clear F79
  have hz105 : X77.heap.size ≤ w91.heap.size := b92.size
  replace hb := hb.trans (b92.mono hb.size)
  have LO106 := Lib.hid (show ∀ q ∈ f94, X77.heap.size ≤ q from lo97)
  have HI107 := Lib.hid (show ∀ q ∈ f94, q < w91.heap.size from fun q hq => LfIn.lt _ _ _ i95 q hq)
  have ND108 := Lib.hid nd96
  have F109 := Lib.hid i95
  obtain ⟨pz93, cz93, rfl⟩ := LfIn.slice i95
  clear i95
  clear nd96 lo97
  clear b92
  go_wp2_with fail
  refine (eqBoxS_g _ _ (atL x_S.log n_I) _ (LfIn.rd _ _ _ F109.out) (LfIn.rd _ _ _ F101.out) (by have := SZ_r0.out; omega)).mono ?_
  rintro e w110 ⟨rfl, b111⟩
  have F112 := Lib.hid ((b111.block (w.heap.size) (Array.getElem?_eq_some_iff.1 F98.out).1).trans F98.out)
  clear F98
  have F113 := Lib.hid (LfIn.below F99.out b111)
  clear F99
  have F114 := Lib.hid (LfIn.below F100.out b111)
  clear F100
  have F115 := Lib.hid (LfIn.below F101.out b111)
  clear F101
  have F116 := Lib.hid (LfIn.below F102.out b111)
  clear F102
  have F117 := Lib.hid (LfIn.below F103.out b111)
  clear F103
  have F118 := Lib.hid ((b111.block (w52.heap.size) (Array.getElem?_eq_some_iff.1 F104.out).1).trans F104.out)
  clear F104
  have F119 := Lib.hid (LfIn.below F109.out b111)
  clear F109
  have hz120 : w91.heap.size ≤ w110.heap.size := b111.size
  replace hb := hb.trans (b111.mono hb.size)
  clear b111
  go_wp2
  refine ord_start [(0, true), (1, true), (2, false), (3, false), (4, true)] (fun W => W.heap[w52.heap.size]? = some (.cells #[(.slice pz55 x_S.boxes.length cz55), (.slice pz56 x_S.log.length cz56), .int .i64 x_S.given] 46 (0, 0)) ∧ W.heap[w.heap.size]? = some (.cells #[(.slice p_S_0 x_S.boxes.length c_S_0), (.slice p_S_1 x_S.log.length c_S_1), .int .i64 x_S.given] 73 (0, 0))) (by kernel_rfl) (by kernel_rfl) rfl (by kernel_rfl) ?_
  intro ops' hops
  clear hops
  simp only [List.map_cons, List.map_nil, pickOp_zero, pickOp_succ]
  have b122 : Below w110.heap.size w110 w110.drew := (Below.refl _ _).drew
  have hz123 : w110.drew.heap.size = w110.heap.size := rfl
  generalize w110.drew = D121 at *
  have F124 := Lib.hid ((b122.block (w.heap.size) (Array.getElem?_eq_some_iff.1 F112.out).1).trans F112.out)
  clear F112
  have F125 := Lib.hid (LfIn.below F113.out b122)
  clear F113
  have F126 := Lib.hid (LfIn.below F114.out b122)
  clear F114
  have F127 := Lib.hid (LfIn.below F115.out b122)
  clear F115
  have F128 := Lib.hid (LfIn.below F116.out b122)
  clear F116
  have F129 := Lib.hid (LfIn.below F117.out b122)
  clear F117
  have F130 := Lib.hid ((b122.block (w52.heap.size) (Array.getElem?_eq_some_iff.1 F118.out).1).trans F118.out)
  clear F118
  have F131 := Lib.hid (LfIn.below F119.out b122)
  clear F119
  have hz132 : w110.heap.size ≤ D121.heap.size := b122.size
  replace hb := hb.trans (b122.mono hb.size)
  clear b122
  refine ord_flo (.agg #[(.slice pz55 x_S.boxes.length cz55), (.slice pz56 x_S.log.length cz56), .int .i64 x_S.given]) (fun _ _ _ h => h) rfl ?_ ⟨F130.out, F124.out⟩ ?_
  · intro W hS
    have y0 := (Lib.cell_of_heap hS.1 0).trans (show _ = some ((.slice pz55 x_S.boxes.length cz55)) from rfl)
    have y1 := (Lib.cell_of_heap hS.1 1).trans (show _ = some ((.slice pz56 x_S.log.length cz56)) from rfl)
    have y2 := (Lib.cell_of_heap hS.1 2).trans (show _ = some (.int .i64 x_S.given) from rfl)
    clear hS
    go_simp
  refine ord_flo (.agg #[(.slice p_S_0 x_S.boxes.length c_S_0), (.slice p_S_1 x_S.log.length c_S_1), .int .i64 x_S.given]) (fun _ _ _ h => h) rfl ?_ ⟨F130.out, F124.out⟩ ?_
  · intro W hS
    have y0 := (Lib.cell_of_heap hS.2 0).trans (show _ = some ((.slice p_S_0 x_S.boxes.length c_S_0)) from rfl)
    have y1 := (Lib.cell_of_heap hS.2 1).trans (show _ = some ((.slice p_S_1 x_S.log.length c_S_1)) from rfl)
    have y2 := (Lib.cell_of_heap hS.2 2).trans (show _ = some (.int .i64 x_S.given) from rfl)
    clear hS
    go_simp
  refine ord_ev rfl ?_
  go_simp
  refine (C_to_S.out _ (LfRd.below hb _ _ H_r_S_0.out) (LfRd.below hb _ _ H_r_S_1.out)).mono ?_
  rintro e w133 ⟨z136, f138, z137, f139, rfl, i140, i141, nd142, lo143, b134⟩
  have F144 := Lib.hid ((b134.block (w.heap.size) (Array.getElem?_eq_some_iff.1 F124.out).1).trans F124.out)
  clear F124
  have F145 := Lib.hid (LfIn.below F125.out b134)
  clear F125
  have F146 := Lib.hid (LfIn.below F126.out b134)
  clear F126
  have F147 := Lib.hid (LfIn.below F127.out b134)
  clear F127
  have F148 := Lib.hid (LfIn.below F128.out b134)
  clear F128
  have F149 := Lib.hid (LfIn.below F129.out b134)
  clear F129
  have F150 := Lib.hid ((b134.block (w52.heap.size) (Array.getElem?_eq_some_iff.1 F130.out).1).trans F130.out)
  clear F130
  have F151 := Lib.hid (LfIn.below F131.out b134)
  clear F131
  have hz152 : D121.heap.size ≤ w133.heap.size := b134.size
  replace hb := hb.trans (b134.mono hb.size)
  have LO153 := Lib.hid (show ∀ q ∈ f138 ++ f139, D121.heap.size ≤ q from lo143)
  have HI154 := Lib.hid (show ∀ q ∈ f138 ++ f139, q < w133.heap.size from fun q hq => by simp only [List.mem_append] at hq; rcases hq with hq | hq <;> first | exact LfIn.lt _ _ _ i140 q hq | exact LfIn.lt _ _ _ i141 q hq)
  have ND155 := Lib.hid nd142
  have F156 := Lib.hid i140
  have LO157 := Lib.hid (show ∀ q ∈ f138, D121.heap.size ≤ q from fun q hq => LO153.out q (by simp [hq]))
  have HI158 := Lib.hid (show ∀ q ∈ f138, q < w133.heap.size from fun q hq => HI154.out q (by simp [hq]))
  obtain ⟨pz136, cz136, rfl⟩ := LfIn.slice i140
  have F159 := Lib.hid i141
  have LO160 := Lib.hid (show ∀ q ∈ f139, D121.heap.size ≤ q from fun q hq => LO153.out q (by simp [hq]))
  have HI161 := Lib.hid (show ∀ q ∈ f139, q < w133.heap.size from fun q hq => HI154.out q (by simp [hq]))
  obtain ⟨pz137, cz137, rfl⟩ := LfIn.slice i141
  clear i140
  clear i141
  clear nd142 lo143
  clear b134
  refine ⟨⟨F150.out, F144.out⟩, ?_⟩
  refine ord_ev rfl ?_
  go_simp
  refine (eqStore_g x_S _ _ _ _ _ (LfIn.rd _ _ _ F148.out) (LfIn.rd _ _ _ F156.out) (LfIn.rd _ _ _ F149.out) (LfIn.rd _ _ _ F159.out) (by have := SZ_S.out; omega)).mono ?_
  rintro e w162 ⟨rfl, b163⟩
  have F164 := Lib.hid ((b163.block (w.heap.size) (Array.getElem?_eq_some_iff.1 F144.out).1).trans F144.out)
  clear F144
  have F165 := Lib.hid (LfIn.below F145.out b163)
  clear F145
  have F166 := Lib.hid (LfIn.below F146.out b163)
  clear F146
  have F167 := Lib.hid (LfIn.below F147.out b163)
  clear F147
  have F168 := Lib.hid (LfIn.below F148.out b163)
  clear F148
  have F169 := Lib.hid (LfIn.below F149.out b163)
  clear F149
  have F170 := Lib.hid ((b163.block (w52.heap.size) (Array.getElem?_eq_some_iff.1 F150.out).1).trans F150.out)
  clear F150
  have F171 := Lib.hid (LfIn.below F151.out b163)
  clear F151
  have F172 := Lib.hid (LfIn.below F156.out b163)
  clear F156
  have F173 := Lib.hid (LfIn.below F159.out b163)
  clear F159
  have hz174 : w133.heap.size ≤ w162.heap.size := b163.size
  replace hb := hb.trans (b163.mono hb.size)
  clear b163
  refine ⟨⟨F170.out, F164.out⟩, ?_⟩
  iterate 1 (refine ord_flo ?_ (fun _ _ _ h => h) rfl ?_ ⟨F170.out, F164.out⟩ ?_; rotate_left; focus (intro W hS; obtain ⟨s0, s1⟩ := hS; go_simp; rfl))
  refine ord_done ?_
  go_simp
  have y175 := (Lib.cell_of_heap F170.out 0).trans (show _ = some ((.slice pz55 x_S.boxes.length cz55)) from rfl)
  have y176 := (Lib.cell_of_heap F170.out 1).trans (show _ = some ((.slice pz56 x_S.log.length cz56)) from rfl)
  have y177 := (Lib.cell_of_heap F170.out 2).trans (show _ = some (.int .i64 x_S.given) from rfl)
  go_wp2_with fail
  refine (markStore_g x_S _ _ _ 1 rfl f57 f58 _ F168.out F169.out ND70.out (by have := CN_S.out; omega) (by have := SZ_S.out; omega)).mono ?_
  rintro e w178 ⟨rfl, i181, i182, g180⟩
  clear y175 y176 y177
  clear F168
  have F183 := Lib.hid (LfIn.rd _ _ _ i181)
  clear F169
  have F184 := Lib.hid (LfIn.rd _ _ _ i182)
  have F185 := Lib.hid ((g180.block (w.heap.size) (Array.getElem?_eq_some_iff.1 F164.out).1 (fun hm => by have h3 := LO68.out _ hm; have h4 := HI69.out _ hm; omega)).trans F164.out)
  clear F164
  have F186 := Lib.hid (LfIn.away F165.out g180 (fun q hq hm => by have h1 := LO29.out q hq; have h2 := HI30.out q hq; have h3 := LO68.out q hm; have h4 := HI69.out q hm; omega))
  clear F165
  have F187 := Lib.hid (LfIn.away F166.out g180 (fun q hq hm => by have h1 := LO32.out q hq; have h2 := HI33.out q hq; have h3 := LO68.out q hm; have h4 := HI69.out q hm; omega))
  clear F166
  have F188 := Lib.hid (LfIn.away F167.out g180 (fun q hq hm => by have h1 := LO45.out q hq; have h2 := HI46.out q hq; have h3 := LO68.out q hm; have h4 := HI69.out q hm; omega))
  clear F167
  have F189 := Lib.hid ((g180.block (w52.heap.size) (Array.getElem?_eq_some_iff.1 F170.out).1 (fun hm => by have h3 := LO68.out _ hm; have h4 := HI69.out _ hm; omega)).trans F170.out)
  clear F170
  have F190 := Lib.hid (LfIn.away F171.out g180 (fun q hq hm => by have h1 := LO106.out q hq; have h2 := HI107.out q hq; have h3 := LO68.out q hm; have h4 := HI69.out q hm; omega))
  clear F171
  have F191 := Lib.hid (LfIn.away F172.out g180 (fun q hq hm => by have h1 := LO157.out q hq; have h2 := HI158.out q hq; have h3 := LO68.out q hm; have h4 := HI69.out q hm; omega))
  clear F172
  have F192 := Lib.hid (LfIn.away F173.out g180 (fun q hq hm => by have h1 := LO160.out q hq; have h2 := HI161.out q hq; have h3 := LO68.out q hm; have h4 := HI69.out q hm; omega))
  clear F173
  have hz193 : w162.heap.size ≤ w178.heap.size := g180.size
  replace hb := GrownIn.below hb g180 hb.size (fun q hq => by have h3 := LO68.out q hq; have h9 := hbz.out; omega)
  clear F183 F184
  clear g180 i181 i182
  obtain ⟨K194, hK194⟩ : ∃ K : Nat, K = 1 + cntLf (boxsLf x_S.boxes) + cntLf (commitsLf x_S.log) := ⟨_, rfl⟩
  rw [← hK194]
  have hnK194 : ¬ (K194 : Int) < 0 := by omega
  have hdK194 : decide ((K194 : Int) < 0) = false := decide_eq_false hnK194
  have HK194 := Lib.hid hK194
  clear hK194
  go_wp2_with fail
  refine (eqBoxS_g _ _ (atL x_S.log n_I) _ (LfIn.rd _ _ _ F190.out) (LfIn.rd _ _ _ F188.out) (by have := SZ_r0.out; omega)).mono ?_
  rintro e w195 ⟨rfl, b196⟩
  have F197 := Lib.hid ((b196.block (w.heap.size) (Array.getElem?_eq_some_iff.1 F185.out).1).trans F185.out)
  clear F185
  have F198 := Lib.hid (LfIn.below F186.out b196)
  clear F186
  have F199 := Lib.hid (LfIn.below F187.out b196)
  clear F187
  have F200 := Lib.hid (LfIn.below F188.out b196)
  clear F188
  have F201 := Lib.hid ((b196.block (w52.heap.size) (Array.getElem?_eq_some_iff.1 F189.out).1).trans F189.out)
  clear F189
  have F202 := Lib.hid (LfIn.below F190.out b196)
  clear F190
  have F203 := Lib.hid (LfIn.below F191.out b196)
  clear F191
  have F204 := Lib.hid (LfIn.below F192.out b196)
  clear F192
  have hz205 : w178.heap.size ≤ w195.heap.size := b196.size
  replace hb := hb.trans (b196.mono hb.size)
  clear b196
  go_wp2_with fail
  refine (markBoxS_g _ (atL x_S.log n_I) _ 1 rfl f94 _ F202.out ND108.out (by have := CN_r0.out; omega) (by have := SZ_r0.out; omega)).mono ?_
  rintro e w206 ⟨rfl, i209, g208⟩
  clear F202
  have F210 := Lib.hid (LfIn.rd _ _ _ i209)
  have F211 := Lib.hid ((g208.block (w.heap.size) (Array.getElem?_eq_some_iff.1 F197.out).1 (fun hm => by have h3 := LO106.out _ hm; have h4 := HI107.out _ hm; omega)).trans F197.out)
  clear F197
  have F212 := Lib.hid (LfIn.away F198.out g208 (fun q hq hm => by have h1 := LO29.out q hq; have h2 := HI30.out q hq; have h3 := LO106.out q hm; have h4 := HI107.out q hm; omega))
  clear F198
  have F213 := Lib.hid (LfIn.away F199.out g208 (fun q hq hm => by have h1 := LO32.out q hq; have h2 := HI33.out q hq; have h3 := LO106.out q hm; have h4 := HI107.out q hm; omega))
  clear F199
  have F214 := Lib.hid (LfIn.away F200.out g208 (fun q hq hm => by have h1 := LO45.out q hq; have h2 := HI46.out q hq; have h3 := LO106.out q hm; have h4 := HI107.out q hm; omega))
  clear F200
  have F215 := Lib.hid ((g208.block (w52.heap.size) (Array.getElem?_eq_some_iff.1 F201.out).1 (fun hm => by have h3 := LO106.out _ hm; have h4 := HI107.out _ hm; omega)).trans F201.out)
  clear F201
  have F216 := Lib.hid (LfIn.away F203.out g208 (fun q hq hm => by have h1 := LO157.out q hq; have h2 := HI158.out q hq; have h3 := LO106.out q hm; have h4 := HI107.out q hm; omega))
  clear F203
  have F217 := Lib.hid (LfIn.away F204.out g208 (fun q hq hm => by have h1 := LO160.out q hq; have h2 := HI161.out q hq; have h3 := LO106.out q hm; have h4 := HI107.out q hm; omega))
  clear F204
  have hz218 : w195.heap.size ≤ w206.heap.size := g208.size
  replace hb := GrownIn.below hb g208 hb.size (fun q hq => by have h3 := LO106.out q hq; have h9 := hbz.out; omega)
  clear g208 i209
  obtain ⟨K219, hK219⟩ : ∃ K : Nat, K = 1 + cntLf (boxsLf (atL x_S.log n_I)) := ⟨_, rfl⟩
  rw [← hK219]
  have hnK219 : ¬ (K219 : Int) < 0 := by omega
  have hdK219 : decide ((K219 : Int) < 0) = false := decide_eq_false hnK219
  have HK219 := Lib.hid hK219
  clear hK219
  go_wp2_with fail
  refine (heldBoxS_g _ (atL x_S.log n_I) _ 1 rfl _ F210.out (by have := CN_r0.out; omega) (by have := SZ_r0.out; omega)).mono ?_
  rintro e w220 ⟨rfl, b221⟩
  rw [← HK219.out]
  have F222 := Lib.hid ((b221.block (w.heap.size) (Array.getElem?_eq_some_iff.1 F211.out).1).trans F211.out)
  clear F211
  have F223 := Lib.hid (LfIn.below F212.out b221)
  clear F212
  have F224 := Lib.hid (LfIn.below F213.out b221)
  clear F213
  have F225 := Lib.hid (LfIn.below F214.out b221)
  clear F214
  have F226 := Lib.hid ((b221.block (w52.heap.size) (Array.getElem?_eq_some_iff.1 F215.out).1).trans F215.out)
  clear F215
  have F227 := Lib.hid (LfIn.below F216.out b221)
  clear F216
  have F228 := Lib.hid (LfIn.below F217.out b221)
  clear F217
  have F229 := Lib.hid (LfRd.below b221 _ _ F210.out)
  clear F210
  have hz230 : w206.heap.size ≤ w220.heap.size := b221.size
  replace hb := hb.trans (b221.mono hb.size)
  clear b221
  have y231 := (Lib.cell_of_heap F222.out 0).trans (show _ = some ((.slice p_S_0 x_S.boxes.length c_S_0)) from rfl)
  have y232 := (Lib.cell_of_heap F222.out 1).trans (show _ = some ((.slice p_S_1 x_S.log.length c_S_1)) from rfl)
  have y233 := (Lib.cell_of_heap F222.out 2).trans (show _ = some (.int .i64 x_S.given) from rfl)
  go_wp2_with fail
  refine (C_to_S.out _ (LfRd.below hb _ _ H_r_S_0.out) (LfRd.below hb _ _ H_r_S_1.out)).mono ?_
  rintro e w234 ⟨z237, f239, z238, f240, rfl, i241, i242, nd243, lo244, b235⟩
  clear y231 y232 y233
  have F245 := Lib.hid ((b235.block (w.heap.size) (Array.getElem?_eq_some_iff.1 F222.out).1).trans F222.out)
  clear F222
  have F246 := Lib.hid (LfIn.below F223.out b235)
  clear F223
  have F247 := Lib.hid (LfIn.below F224.out b235)
  clear F224
  have F248 := Lib.hid (LfIn.below F225.out b235)
  clear F225
  have F249 := Lib.hid ((b235.block (w52.heap.size) (Array.getElem?_eq_some_iff.1 F226.out).1).trans F226.out)
  clear F226
  have F250 := Lib.hid (LfIn.below F227.out b235)
  clear F227
  have F251 := Lib.hid (LfIn.below F228.out b235)
  clear F228
  have F252 := Lib.hid (LfRd.below b235 _ _ F229.out)
  clear F229
  have hz253 : w220.heap.size ≤ w234.heap.size := b235.size
  replace hb := hb.trans (b235.mono hb.size)
  have LO254 := Lib.hid (show ∀ q ∈ f239 ++ f240, w220.heap.size ≤ q from lo244)
  have HI255 := Lib.hid (show ∀ q ∈ f239 ++ f240, q < w234.heap.size from fun q hq => by simp only [List.mem_append] at hq; rcases hq with hq | hq <;> first | exact LfIn.lt _ _ _ i241 q hq | exact LfIn.lt _ _ _ i242 q hq)
  have ND256 := Lib.hid nd243
  have F257 := Lib.hid i241
  have LO258 := Lib.hid (show ∀ q ∈ f239, w220.heap.size ≤ q from fun q hq => LO254.out q (by simp [hq]))
  have HI259 := Lib.hid (show ∀ q ∈ f239, q < w234.heap.size from fun q hq => HI255.out q (by simp [hq]))
  obtain ⟨pz237, cz237, rfl⟩ := LfIn.slice i241
  have F260 := Lib.hid i242
  have LO261 := Lib.hid (show ∀ q ∈ f240, w220.heap.size ≤ q from fun q hq => LO254.out q (by simp [hq]))
  have HI262 := Lib.hid (show ∀ q ∈ f240, q < w234.heap.size from fun q hq => HI255.out q (by simp [hq]))
  obtain ⟨pz238, cz238, rfl⟩ := LfIn.slice i242
  clear i241
  clear i242
  clear nd243 lo244
  clear b235
  go_wp2_with fail
  refine (C_impl.out _ _ _ (hK _ _ hG hb) (LfIn.rd _ _ _ F257.out) (CapLe.of_in F257.out) (LfIn.rd _ _ _ F260.out) (CapLe.of_in F260.out)).mono ?_
  rintro e w263 ⟨z265, f266, rfl, i267, nd268, lo269, b264⟩
  have F270 := Lib.hid ((b264.block (w.heap.size) (Array.getElem?_eq_some_iff.1 F245.out).1).trans F245.out)
  clear F245
  have F271 := Lib.hid (LfIn.below F246.out b264)
  clear F246
  have F272 := Lib.hid (LfIn.below F247.out b264)
  clear F247
  have F273 := Lib.hid (LfIn.below F248.out b264)
  clear F248
  have F274 := Lib.hid ((b264.block (w52.heap.size) (Array.getElem?_eq_some_iff.1 F249.out).1).trans F249.out)
  clear F249
  have F275 := Lib.hid (LfIn.below F250.out b264)
  clear F250
  have F276 := Lib.hid (LfIn.below F251.out b264)
  clear F251
  have F277 := Lib.hid (LfRd.below b264 _ _ F252.out)
  clear F252
  have F278 := Lib.hid (LfIn.below F257.out b264)
  clear F257
  have F279 := Lib.hid (LfIn.below F260.out b264)
  clear F260
  have hz280 : w234.heap.size ≤ w263.heap.size := b264.size
  replace hb := hb.trans (b264.mono hb.size)
  have LO281 := Lib.hid (show ∀ q ∈ f266, w234.heap.size ≤ q from lo269)
  have HI282 := Lib.hid (show ∀ q ∈ f266, q < w263.heap.size from fun q hq => LfIn.lt _ _ _ i267 q hq)
  have ND283 := Lib.hid nd268
  have F284 := Lib.hid i267
  obtain ⟨pz265, cz265, rfl⟩ := LfIn.slice i267
  clear i267
  clear nd268 lo269
  clear b264
  go_wp2_with fail
  refine (eqBoxS_g _ _ (atL x_S.log n_I) _ (LfIn.rd _ _ _ F284.out) (LfIn.rd _ _ _ F273.out) (by have := SZ_r0.out; omega)).mono ?_
  rintro e w285 ⟨rfl, b286⟩
  have F287 := Lib.hid ((b286.block (w.heap.size) (Array.getElem?_eq_some_iff.1 F270.out).1).trans F270.out)
  clear F270
  have F288 := Lib.hid (LfIn.below F271.out b286)
  clear F271
  have F289 := Lib.hid (LfIn.below F272.out b286)
  clear F272
  have F290 := Lib.hid (LfIn.below F273.out b286)
  clear F273
  have F291 := Lib.hid ((b286.block (w52.heap.size) (Array.getElem?_eq_some_iff.1 F274.out).1).trans F274.out)
  clear F274
  have F292 := Lib.hid (LfIn.below F275.out b286)
  clear F275
  have F293 := Lib.hid (LfIn.below F276.out b286)
  clear F276
  have F294 := Lib.hid (LfRd.below b286 _ _ F277.out)
  clear F277
  have F295 := Lib.hid (LfIn.below F278.out b286)
  clear F278
  have F296 := Lib.hid (LfIn.below F279.out b286)
  clear F279
  have F297 := Lib.hid (LfIn.below F284.out b286)
  clear F284
  have hz298 : w263.heap.size ≤ w285.heap.size := b286.size
  replace hb := hb.trans (b286.mono hb.size)
  clear b286
  go_wp2_with fail
  refine (heldBoxS_g _ (atL x_S.log n_I) _ 1 rfl _ F294.out (by have := CN_r0.out; omega) (by have := SZ_r0.out; omega)).mono ?_
  rintro e w299 ⟨rfl, b300⟩
  rw [← HK219.out]
  have F301 := Lib.hid ((b300.block (w.heap.size) (Array.getElem?_eq_some_iff.1 F287.out).1).trans F287.out)
  clear F287
  have F302 := Lib.hid (LfIn.below F288.out b300)
  clear F288
  have F303 := Lib.hid (LfIn.below F289.out b300)
  clear F289
  have F304 := Lib.hid (LfIn.below F290.out b300)
  clear F290
  have F305 := Lib.hid ((b300.block (w52.heap.size) (Array.getElem?_eq_some_iff.1 F291.out).1).trans F291.out)
  clear F291
  have F306 := Lib.hid (LfIn.below F292.out b300)
  clear F292
  have F307 := Lib.hid (LfIn.below F293.out b300)
  clear F293
  have F308 := Lib.hid (LfRd.below b300 _ _ F294.out)
  clear F294
  have F309 := Lib.hid (LfIn.below F295.out b300)
  clear F295
  have F310 := Lib.hid (LfIn.below F296.out b300)
  clear F296
  have F311 := Lib.hid (LfIn.below F297.out b300)
  clear F297
  have hz312 : w285.heap.size ≤ w299.heap.size := b300.size
  replace hb := hb.trans (b300.mono hb.size)
  clear b300
  go_wp2
  go_ret
  exact ⟨rfl, hb⟩

end Go.Proofs.YtbfgdbpfecffcaaGreatDoor

namespace Go.Proofs.YtbfgdbpfecffcaaGreatDoor
open Go.RowKit

def CtrBoxAt (f : FuncId) (G : World → Prop) : Prop := ∀ (x_S : StoD) (r_S_0 : Value) (r_S_1 : Value) (n_Validity : Int) (n_I : Int) (W : World), G W → LfRd W (boxsLf x_S.boxes) r_S_0 → CapLe r_S_0 → LfRd W (commitsLf x_S.log) r_S_1 → CapLe r_S_1 → szLs x_S.lf ≤ 1048576 → LsBnd x_S.lf → in64 n_Validity → in64 n_I → 
  Calls Tryz.prog f #[.agg #[r_S_0, r_S_1, .int .i64 x_S.given], .int .i64 n_Validity, .int .i64 n_I] W fun e w' => ∃ z0_3 f0_3, e = .returned (.tuple #[.agg #[sv (boxAtD x_S n_Validity n_I).name, .int .i64 (boxAtD x_S n_Validity n_I).validity, .int .i64 (boxAtD x_S n_Validity n_I).next, z0_3], .bool (boxAtB x_S n_Validity n_I)]) ∧ LfIn w' (msgsLf (boxAtD x_S n_Validity n_I).msgs) z0_3 f0_3 ∧ (f0_3).Nodup ∧ (∀ q ∈ f0_3, W.heap.size ≤ q) ∧ Below W.heap.size W w'

set_option maxRecDepth 20000 in
set_option maxHeartbeats 12800000 in
theorem FnExactBoxAt_of {G : World → Prop} (hK : Keeps G) (SP : CtrBoxAt 59 (fun _ => True)) (IM : CtrBoxAt 60 G) (x_S : StoD) (r_S_0 : Value) (r_S_1 : Value) (n_Validity : Int) (n_I : Int) (w : World) (hG : G w) (h_r_S_0 : LfRd w (boxsLf x_S.boxes) r_S_0) (h_r_S_1 : LfRd w (commitsLf x_S.log) r_S_1) (hb_S : LsBnd x_S.lf) (hb_Validity : in64 n_Validity) (hb_I : in64 n_I) (hr_0 : szLs x_S.lf ≤ 1048576 → szLs (boxAtD x_S n_Validity n_I).lf ≤ 1000000000) :
    Calls Tryz.prog 14 #[.agg #[r_S_0, r_S_1, .int .i64 x_S.given], .int .i64 n_Validity, .int .i64 n_I] w fun e w' => e = .returned (.bool true) ∧ Below w.heap.size w w' := by
  have H_r_S_0 := Lib.hid h_r_S_0
  have H_r_S_1 := Lib.hid h_r_S_1
  obtain ⟨p_S_0, c_S_0, rfl⟩ := LfRd.slice h_r_S_0
  obtain ⟨p_S_1, c_S_1, rfl⟩ := LfRd.slice h_r_S_1
  clear h_r_S_0
  clear h_r_S_1
  by_cases k0 : szLs x_S.lf ≤ 1048576
  case neg =>
    have q0 := fun (ll : Int) (W : World) (hl : ll = ((1048576 : Nat) : Int)) (g0 : LfRd W (boxsLf x_S.boxes) (.slice p_S_0 x_S.boxes.length c_S_0)) (g1 : LfRd W (commitsLf x_S.log) (.slice p_S_1 x_S.log.length c_S_1)) => szStore_g x_S (.slice p_S_0 x_S.boxes.length c_S_0) (.slice p_S_1 x_S.log.length c_S_1) ll 1048576 hl W g0 g1 hb_S (by omega)
    simp only [show szN 1048576 (szLs x_S.lf) = -1 from szN_no k0] at q0
    have C_sz0 := Lib.hid q0
    clear q0 SP IM hr_0
    have hb : Below w.heap.size w (w.alloc (.cells #[(.slice p_S_0 x_S.boxes.length c_S_0), (.slice p_S_1 x_S.log.length c_S_1), .int .i64 x_S.given] 73)) := ((Below.refl _ _).alloc (Nat.le_refl _) _)
    have HB1 := Lib.hid (show (w.alloc (.cells #[(.slice p_S_0 x_S.boxes.length c_S_0), (.slice p_S_1 x_S.log.length c_S_1), .int .i64 x_S.given] 73)).heap[w.heap.size]? = some (.cells #[(.slice p_S_0 x_S.boxes.length c_S_0), (.slice p_S_1 x_S.log.length c_S_1), .int .i64 x_S.given] 73 (0, 0)) from by
      have h := heap_alloc_new w (.cells #[(.slice p_S_0 x_S.boxes.length c_S_0), (.slice p_S_1 x_S.log.length c_S_1), .int .i64 x_S.given] 73)
      exact h)
    have hz0 : w.heap.size + 1 ≤ (w.alloc (.cells #[(.slice p_S_0 x_S.boxes.length c_S_0), (.slice p_S_1 x_S.log.length c_S_1), .int .i64 x_S.given] 73)).heap.size := by simp
    generalize hW0 : (w.alloc (.cells #[(.slice p_S_0 x_S.boxes.length c_S_0), (.slice p_S_1 x_S.log.length c_S_1), .int .i64 x_S.given] 73)) = W0 at *
    go_enter Tryz.func14, Tryz.ntmps14
    have hbz := Lib.hid hb.size
    have y2 := (Lib.cell_of_heap HB1.out 0).trans (show _ = some ((.slice p_S_0 x_S.boxes.length c_S_0)) from rfl)
    have y3 := (Lib.cell_of_heap HB1.out 1).trans (show _ = some ((.slice p_S_1 x_S.log.length c_S_1)) from rfl)
    have y4 := (Lib.cell_of_heap HB1.out 2).trans (show _ = some (.int .i64 x_S.given) from rfl)
    go_wp2_with fail
    refine (C_sz0.out _ _ (by first | rfl | omega) (LfRd.below hb _ _ H_r_S_0.out) (LfRd.below hb _ _ H_r_S_1.out)).mono ?_
    rintro e w5 ⟨rfl, b6⟩
    clear y2 y3 y4
    have F7 := Lib.hid ((b6.block (w.heap.size) (Array.getElem?_eq_some_iff.1 HB1.out).1).trans HB1.out)
    clear HB1
    have hz8 : W0.heap.size ≤ w5.heap.size := b6.size
    replace hb := hb.trans (b6.mono hb.size)
    clear b6
    go_wp2
    go_ret
    exact ⟨rfl, hb⟩
  obtain ⟨L1, hL1⟩ : ∃ L, L + szLs x_S.lf = 1048576 := ⟨1048576 - szLs x_S.lf, by omega⟩
  have bL1 : L1 ≤ 1048576 := by omega
  have nL1 : ¬ (L1 : Int) < 0 := by omega
  have q0 := fun (ll : Int) (W : World) (hl : ll = ((1048576 : Nat) : Int)) (g0 : LfRd W (boxsLf x_S.boxes) (.slice p_S_0 x_S.boxes.length c_S_0)) (g1 : LfRd W (commitsLf x_S.log) (.slice p_S_1 x_S.log.length c_S_1)) => szStore_g x_S (.slice p_S_0 x_S.boxes.length c_S_0) (.slice p_S_1 x_S.log.length c_S_1) ll 1048576 hl W g0 g1 hb_S (by omega)
  simp only [show szN 1048576 (szLs x_S.lf) = (L1 : Int) from by rw [szN_yes k0]; omega] at q0
  have C_sz0 := Lib.hid q0
  clear q0
  have HL1 := Lib.hid hL1
  have hsz_0 : szLs x_S.lf ≤ 1048576 := by omega
  clear hL1
  have hsm_S : szLs x_S.lf ≤ 1048576 := by omega
  have SZ_S := Lib.hid hsm_S
  have CN_S := Lib.hid (show 1 + cntLf (boxsLf x_S.boxes) + cntLf (commitsLf x_S.log) ≤ 1000000000 from by have hs := StoD.sz x_S; have h0 := cntRow_le (boxsLf_fit x_S.boxes); have h1 := cntRow_le (commitsLf_fit x_S.log); simp only [boxsLf, commitsLf] at hs ⊢; omega)
  have C_to_S := Lib.hid (fun (W : World) (g0 : LfRd W (boxsLf x_S.boxes) (.slice p_S_0 x_S.boxes.length c_S_0)) (g1 : LfRd W (commitsLf x_S.log) (.slice p_S_1 x_S.log.length c_S_1)) => toStore_g x_S (.slice p_S_0 x_S.boxes.length c_S_0) (.slice p_S_1 x_S.log.length c_S_1) W g0 g1 (by omega))
  have C_spec := Lib.hid (fun (u_S_0 : Value) (u_S_1 : Value) (W : World) (k_S_0 : LfRd W (boxsLf x_S.boxes) u_S_0) (kc_S_0 : CapLe u_S_0) (k_S_1 : LfRd W (commitsLf x_S.log) u_S_1) (kc_S_1 : CapLe u_S_1) => SP x_S u_S_0 u_S_1 n_Validity n_I W trivial k_S_0 kc_S_0 k_S_1 kc_S_1 hsm_S hb_S hb_Validity hb_I)
  have C_impl := Lib.hid (fun (u_S_0 : Value) (u_S_1 : Value) (W : World) (hg : G W) (k_S_0 : LfRd W (boxsLf x_S.boxes) u_S_0) (kc_S_0 : CapLe u_S_0) (k_S_1 : LfRd W (commitsLf x_S.log) u_S_1) (kc_S_1 : CapLe u_S_1) => IM x_S u_S_0 u_S_1 n_Validity n_I W hg k_S_0 kc_S_0 k_S_1 kc_S_1 hsm_S hb_S hb_Validity hb_I)
  have hq_0 := hr_0 hsm_S
  have SZ_r0 := Lib.hid hq_0
  have CN_r0 := Lib.hid (show 1 + cntLf (msgsLf (boxAtD x_S n_Validity n_I).msgs) ≤ 100000000000 from by have hs := BoxD.sz (boxAtD x_S n_Validity n_I); have h3 := cntRow_le (msgsLf_fit (boxAtD x_S n_Validity n_I).msgs); simp only [msgsLf] at hs hq_0 ⊢; omega)
  clear hq_0
  clear SP IM hr_0 hb_S hsm_S
  generalize (boxAtB x_S n_Validity n_I) = R1 at *
  have ne1 : (R1 != R1) = false := by simp
  have hb : Below w.heap.size w (w.alloc (.cells #[(.slice p_S_0 x_S.boxes.length c_S_0), (.slice p_S_1 x_S.log.length c_S_1), .int .i64 x_S.given] 73)) := ((Below.refl _ _).alloc (Nat.le_refl _) _)
  have HB1 := Lib.hid (show (w.alloc (.cells #[(.slice p_S_0 x_S.boxes.length c_S_0), (.slice p_S_1 x_S.log.length c_S_1), .int .i64 x_S.given] 73)).heap[w.heap.size]? = some (.cells #[(.slice p_S_0 x_S.boxes.length c_S_0), (.slice p_S_1 x_S.log.length c_S_1), .int .i64 x_S.given] 73 (0, 0)) from by
    have h := heap_alloc_new w (.cells #[(.slice p_S_0 x_S.boxes.length c_S_0), (.slice p_S_1 x_S.log.length c_S_1), .int .i64 x_S.given] 73)
    exact h)
  have hz0 : w.heap.size + 1 ≤ (w.alloc (.cells #[(.slice p_S_0 x_S.boxes.length c_S_0), (.slice p_S_1 x_S.log.length c_S_1), .int .i64 x_S.given] 73)).heap.size := by simp
  generalize hW0 : (w.alloc (.cells #[(.slice p_S_0 x_S.boxes.length c_S_0), (.slice p_S_1 x_S.log.length c_S_1), .int .i64 x_S.given] 73)) = W0 at *
  go_enter Tryz.func14, Tryz.ntmps14
  have hbz := Lib.hid hb.size
  have y2 := (Lib.cell_of_heap HB1.out 0).trans (show _ = some ((.slice p_S_0 x_S.boxes.length c_S_0)) from rfl)
  have y3 := (Lib.cell_of_heap HB1.out 1).trans (show _ = some ((.slice p_S_1 x_S.log.length c_S_1)) from rfl)
  have y4 := (Lib.cell_of_heap HB1.out 2).trans (show _ = some (.int .i64 x_S.given) from rfl)
  go_wp2_with fail
  refine (C_sz0.out _ _ (by first | rfl | omega) (LfRd.below hb _ _ H_r_S_0.out) (LfRd.below hb _ _ H_r_S_1.out)).mono ?_
  rintro e w5 ⟨rfl, b6⟩
  clear y2 y3 y4
  have F7 := Lib.hid ((b6.block (w.heap.size) (Array.getElem?_eq_some_iff.1 HB1.out).1).trans HB1.out)
  clear HB1
  have hz8 : W0.heap.size ≤ w5.heap.size := b6.size
  replace hb := hb.trans (b6.mono hb.size)
  clear b6
  have y9 := (Lib.cell_of_heap F7.out 0).trans (show _ = some ((.slice p_S_0 x_S.boxes.length c_S_0)) from rfl)
  have y10 := (Lib.cell_of_heap F7.out 1).trans (show _ = some ((.slice p_S_1 x_S.log.length c_S_1)) from rfl)
  have y11 := (Lib.cell_of_heap F7.out 2).trans (show _ = some (.int .i64 x_S.given) from rfl)
  go_wp2_with fail
  refine (C_to_S.out _ (LfRd.below hb _ _ H_r_S_0.out) (LfRd.below hb _ _ H_r_S_1.out)).mono ?_
  rintro e w12 ⟨z15, f17, z16, f18, rfl, i19, i20, nd21, lo22, b13⟩
  clear y9 y10 y11
  have F23 := Lib.hid ((b13.block (w.heap.size) (Array.getElem?_eq_some_iff.1 F7.out).1).trans F7.out)
  clear F7
  have hz24 : w5.heap.size ≤ w12.heap.size := b13.size
  replace hb := hb.trans (b13.mono hb.size)
  have LO25 := Lib.hid (show ∀ q ∈ f17 ++ f18, w5.heap.size ≤ q from lo22)
  have HI26 := Lib.hid (show ∀ q ∈ f17 ++ f18, q < w12.heap.size from fun q hq => by simp only [List.mem_append] at hq; rcases hq with hq | hq <;> first | exact LfIn.lt _ _ _ i19 q hq | exact LfIn.lt _ _ _ i20 q hq)
  have ND27 := Lib.hid nd21
  have F28 := Lib.hid i19
  have LO29 := Lib.hid (show ∀ q ∈ f17, w5.heap.size ≤ q from fun q hq => LO25.out q (by simp [hq]))
  have HI30 := Lib.hid (show ∀ q ∈ f17, q < w12.heap.size from fun q hq => HI26.out q (by simp [hq]))
  obtain ⟨pz15, cz15, rfl⟩ := LfIn.slice i19
  have F31 := Lib.hid i20
  have LO32 := Lib.hid (show ∀ q ∈ f18, w5.heap.size ≤ q from fun q hq => LO25.out q (by simp [hq]))
  have HI33 := Lib.hid (show ∀ q ∈ f18, q < w12.heap.size from fun q hq => HI26.out q (by simp [hq]))
  obtain ⟨pz16, cz16, rfl⟩ := LfIn.slice i20
  clear i19
  clear i20
  clear nd21 lo22
  clear b13
  go_wp2_with fail
  refine (C_spec.out _ _ _ (LfIn.rd _ _ _ F28.out) (CapLe.of_in F28.out) (LfIn.rd _ _ _ F31.out) (CapLe.of_in F31.out)).mono ?_
  rintro e w34 ⟨z36, f37, rfl, i38, nd39, lo40, b35⟩
  have F41 := Lib.hid ((b35.block (w.heap.size) (Array.getElem?_eq_some_iff.1 F23.out).1).trans F23.out)
  clear F23
  have F42 := Lib.hid (LfIn.below F28.out b35)
  clear F28
  have F43 := Lib.hid (LfIn.below F31.out b35)
  clear F31
  have hz44 : w12.heap.size ≤ w34.heap.size := b35.size
  replace hb := hb.trans (b35.mono hb.size)
  have LO45 := Lib.hid (show ∀ q ∈ f37, w12.heap.size ≤ q from lo40)
  have HI46 := Lib.hid (show ∀ q ∈ f37, q < w34.heap.size from fun q hq => LfIn.lt _ _ _ i38 q hq)
  have ND47 := Lib.hid nd39
  have F48 := Lib.hid i38
  obtain ⟨pz36, cz36, rfl⟩ := LfIn.slice i38
  clear i38
  clear nd39 lo40
  clear b35
  have b50 : Below w34.heap.size w34 (w34.alloc (.cells #[sv (boxAtD x_S n_Validity n_I).name, .int .i64 (boxAtD x_S n_Validity n_I).validity, .int .i64 (boxAtD x_S n_Validity n_I).next, (.slice pz36 (boxAtD x_S n_Validity n_I).msgs.length cz36)] 38)) := (Below.refl _ _).alloc (Nat.le_refl _) _
  have F51 := Lib.hid (heap_alloc_new w34 (.cells #[sv (boxAtD x_S n_Validity n_I).name, .int .i64 (boxAtD x_S n_Validity n_I).validity, .int .i64 (boxAtD x_S n_Validity n_I).next, (.slice pz36 (boxAtD x_S n_Validity n_I).msgs.length cz36)] 38))
  have hz52 : w34.heap.size < (w34.alloc (.cells #[sv (boxAtD x_S n_Validity n_I).name, .int .i64 (boxAtD x_S n_Validity n_I).validity, .int .i64 (boxAtD x_S n_Validity n_I).next, (.slice pz36 (boxAtD x_S n_Validity n_I).msgs.length cz36)] 38)).heap.size := by simp
  generalize hX49 : w34.alloc (.cells #[sv (boxAtD x_S n_Validity n_I).name, .int .i64 (boxAtD x_S n_Validity n_I).validity, .int .i64 (boxAtD x_S n_Validity n_I).next, (.slice pz36 (boxAtD x_S n_Validity n_I).msgs.length cz36)] 38) = X49 at *
  have F53 := Lib.hid ((b50.block (w.heap.size) (Array.getElem?_eq_some_iff.1 F41.out).1).trans F41.out)
  clear F41
  have F54 := Lib.hid (LfIn.below F42.out b50)
  clear F42
  have F55 := Lib.hid (LfIn.below F43.out b50)
  clear F43
  have F56 := Lib.hid (LfIn.below F48.out b50)
  clear F48
  have hz57 : w34.heap.size ≤ X49.heap.size := b50.size
  replace hb := hb.trans (b50.mono hb.size)
  clear b50
  have y58 := (Lib.cell_of_heap F53.out 0).trans (show _ = some ((.slice p_S_0 x_S.boxes.length c_S_0)) from rfl)
  have y59 := (Lib.cell_of_heap F53.out 1).trans (show _ = some ((.slice p_S_1 x_S.log.length c_S_1)) from rfl)
  have y60 := (Lib.cell_of_heap F53.out 2).trans (show _ = some (.int .i64 x_S.given) from rfl)
  go_wp2_with fail
  refine (C_to_S.out _ (LfRd.below hb _ _ H_r_S_0.out) (LfRd.below hb _ _ H_r_S_1.out)).mono ?_
  rintro e w61 ⟨z64, f66, z65, f67, rfl, i68, i69, nd70, lo71, b62⟩
  clear y58 y59 y60
  have F72 := Lib.hid ((b62.block (w.heap.size) (Array.getElem?_eq_some_iff.1 F53.out).1).trans F53.out)
  clear F53
  have F73 := Lib.hid (LfIn.below F54.out b62)
  clear F54
  have F74 := Lib.hid (LfIn.below F55.out b62)
  clear F55
  have F75 := Lib.hid (LfIn.below F56.out b62)
  clear F56
  have F76 := Lib.hid ((b62.block (w34.heap.size) (Array.getElem?_eq_some_iff.1 F51.out).1).trans F51.out)
  clear F51
  have hz77 : X49.heap.size ≤ w61.heap.size := b62.size
  replace hb := hb.trans (b62.mono hb.size)
  have LO78 := Lib.hid (show ∀ q ∈ f66 ++ f67, X49.heap.size ≤ q from lo71)
  have HI79 := Lib.hid (show ∀ q ∈ f66 ++ f67, q < w61.heap.size from fun q hq => by simp only [List.mem_append] at hq; rcases hq with hq | hq <;> first | exact LfIn.lt _ _ _ i68 q hq | exact LfIn.lt _ _ _ i69 q hq)
  have ND80 := Lib.hid nd70
  have F81 := Lib.hid i68
  have LO82 := Lib.hid (show ∀ q ∈ f66, X49.heap.size ≤ q from fun q hq => LO78.out q (by simp [hq]))
  have HI83 := Lib.hid (show ∀ q ∈ f66, q < w61.heap.size from fun q hq => HI79.out q (by simp [hq]))
  obtain ⟨pz64, cz64, rfl⟩ := LfIn.slice i68
  have F84 := Lib.hid i69
  have LO85 := Lib.hid (show ∀ q ∈ f67, X49.heap.size ≤ q from fun q hq => LO78.out q (by simp [hq]))
  have HI86 := Lib.hid (show ∀ q ∈ f67, q < w61.heap.size from fun q hq => HI79.out q (by simp [hq]))
  obtain ⟨pz65, cz65, rfl⟩ := LfIn.slice i69
  clear i68
  clear i69
  clear nd70 lo71
  clear b62
  have b88 : Below w61.heap.size w61 (w61.alloc (.cells #[(.slice pz64 x_S.boxes.length cz64), (.slice pz65 x_S.log.length cz65), .int .i64 x_S.given] 46)) := (Below.refl _ _).alloc (Nat.le_refl _) _
  have F89 := Lib.hid (heap_alloc_new w61 (.cells #[(.slice pz64 x_S.boxes.length cz64), (.slice pz65 x_S.log.length cz65), .int .i64 x_S.given] 46))
  have hz90 : w61.heap.size < (w61.alloc (.cells #[(.slice pz64 x_S.boxes.length cz64), (.slice pz65 x_S.log.length cz65), .int .i64 x_S.given] 46)).heap.size := by simp
  generalize hX87 : w61.alloc (.cells #[(.slice pz64 x_S.boxes.length cz64), (.slice pz65 x_S.log.length cz65), .int .i64 x_S.given] 46) = X87 at *
  have F91 := Lib.hid ((b88.block (w.heap.size) (Array.getElem?_eq_some_iff.1 F72.out).1).trans F72.out)
  clear F72
  have F92 := Lib.hid (LfIn.below F73.out b88)
  clear F73
  have F93 := Lib.hid (LfIn.below F74.out b88)
  clear F74
  have F94 := Lib.hid (LfIn.below F75.out b88)
  clear F75
  have F95 := Lib.hid ((b88.block (w34.heap.size) (Array.getElem?_eq_some_iff.1 F76.out).1).trans F76.out)
  clear F76
  have F96 := Lib.hid (LfIn.below F81.out b88)
  clear F81
  have F97 := Lib.hid (LfIn.below F84.out b88)
  clear F84
  have hz98 : w61.heap.size ≤ X87.heap.size := b88.size
  replace hb := hb.trans (b88.mono hb.size)
  clear b88
  have y99 := (Lib.cell_of_heap F89.out 0).trans (show _ = some ((.slice pz64 x_S.boxes.length cz64)) from rfl)
  have y100 := (Lib.cell_of_heap F89.out 1).trans (show _ = some ((.slice pz65 x_S.log.length cz65)) from rfl)
  have y101 := (Lib.cell_of_heap F89.out 2).trans (show _ = some (.int .i64 x_S.given) from rfl)
  go_wp2_with fail
  refine (C_impl.out _ _ _ (hK _ _ hG hb) (LfIn.rd _ _ _ F96.out) (CapLe.of_in F96.out) (LfIn.rd _ _ _ F97.out) (CapLe.of_in F97.out)).mono ?_
  rintro e w102 ⟨z104, f105, rfl, i106, nd107, lo108, b103⟩
  clear y99 y100 y101
  have F109 := Lib.hid ((b103.block (w.heap.size) (Array.getElem?_eq_some_iff.1 F91.out).1).trans F91.out)
  clear F91
  have F110 := Lib.hid (LfIn.below F92.out b103)
  clear F92
  have F111 := Lib.hid (LfIn.below F93.out b103)
  clear F93
  have F112 := Lib.hid (LfIn.below F94.out b103)
  clear F94
  have F113 := Lib.hid ((b103.block (w34.heap.size) (Array.getElem?_eq_some_iff.1 F95.out).1).trans F95.out)
  clear F95
  have F114 := Lib.hid (LfIn.below F96.out b103)
  clear F96
  have F115 := Lib.hid (LfIn.below F97.out b103)
  clear F97
  have F116 := Lib.hid ((b103.block (w61.heap.size) (Array.getElem?_eq_some_iff.1 F89.out).1).trans F89.out)
  clear F89
  have hz117 : X87.heap.size ≤ w102.heap.size := b103.size
  replace hb := hb.trans (b103.mono hb.size)
  have LO118 := Lib.hid (show ∀ q ∈ f105, X87.heap.size ≤ q from lo108)
  have HI119 := Lib.hid (show ∀ q ∈ f105, q < w102.heap.size from fun q hq => LfIn.lt _ _ _ i106 q hq)
  have ND120 := Lib.hid nd107
  have F121 := Lib.hid i106
  obtain ⟨pz104, cz104, rfl⟩ := LfIn.slice i106
  clear i106
  clear nd107 lo108
  clear b103
  have b123 : Below w102.heap.size w102 (w102.alloc (.cells #[sv (boxAtD x_S n_Validity n_I).name, .int .i64 (boxAtD x_S n_Validity n_I).validity, .int .i64 (boxAtD x_S n_Validity n_I).next, (.slice pz104 (boxAtD x_S n_Validity n_I).msgs.length cz104)] 38)) := (Below.refl _ _).alloc (Nat.le_refl _) _
  have F124 := Lib.hid (heap_alloc_new w102 (.cells #[sv (boxAtD x_S n_Validity n_I).name, .int .i64 (boxAtD x_S n_Validity n_I).validity, .int .i64 (boxAtD x_S n_Validity n_I).next, (.slice pz104 (boxAtD x_S n_Validity n_I).msgs.length cz104)] 38))
  have hz125 : w102.heap.size < (w102.alloc (.cells #[sv (boxAtD x_S n_Validity n_I).name, .int .i64 (boxAtD x_S n_Validity n_I).validity, .int .i64 (boxAtD x_S n_Validity n_I).next, (.slice pz104 (boxAtD x_S n_Validity n_I).msgs.length cz104)] 38)).heap.size := by simp
  generalize hX122 : w102.alloc (.cells #[sv (boxAtD x_S n_Validity n_I).name, .int .i64 (boxAtD x_S n_Validity n_I).validity, .int .i64 (boxAtD x_S n_Validity n_I).next, (.slice pz104 (boxAtD x_S n_Validity n_I).msgs.length cz104)] 38) = X122 at *
  have F126 := Lib.hid ((b123.block (w.heap.size) (Array.getElem?_eq_some_iff.1 F109.out).1).trans F109.out)
  clear F109
  have F127 := Lib.hid (LfIn.below F110.out b123)
  clear F110
  have F128 := Lib.hid (LfIn.below F111.out b123)
  clear F111
  have F129 := Lib.hid (LfIn.below F112.out b123)
  clear F112
  have F130 := Lib.hid ((b123.block (w34.heap.size) (Array.getElem?_eq_some_iff.1 F113.out).1).trans F113.out)
  clear F113
  have F131 := Lib.hid (LfIn.below F114.out b123)
  clear F114
  have F132 := Lib.hid (LfIn.below F115.out b123)
  clear F115
  have F133 := Lib.hid ((b123.block (w61.heap.size) (Array.getElem?_eq_some_iff.1 F116.out).1).trans F116.out)
  clear F116
  have F134 := Lib.hid (LfIn.below F121.out b123)
  clear F121
  have hz135 : w102.heap.size ≤ X122.heap.size := b123.size
  replace hb := hb.trans (b123.mono hb.size)
  clear b123
  have y136 := (Lib.cell_of_heap F124.out 0).trans (show _ = some (sv (boxAtD x_S n_Validity n_I).name) from rfl)
  have y137 := (Lib.cell_of_heap F124.out 1).trans (show _ = some (.int .i64 (boxAtD x_S n_Validity n_I).validity) from rfl)
  have y138 := (Lib.cell_of_heap F124.out 2).trans (show _ = some (.int .i64 (boxAtD x_S n_Validity n_I).next) from rfl)
  have y139 := (Lib.cell_of_heap F124.out 3).trans (show _ = some ((.slice pz104 (boxAtD x_S n_Validity n_I).msgs.length cz104)) from rfl)
  have y140 := (Lib.cell_of_heap F130.out 0).trans (show _ = some (sv (boxAtD x_S n_Validity n_I).name) from rfl)
  have y141 := (Lib.cell_of_heap F130.out 1).trans (show _ = some (.int .i64 (boxAtD x_S n_Validity n_I).validity) from rfl)
  have y142 := (Lib.cell_of_heap F130.out 2).trans (show _ = some (.int .i64 (boxAtD x_S n_Validity n_I).next) from rfl)
  have y143 := (Lib.cell_of_heap F130.out 3).trans (show _ = some ((.slice pz36 (boxAtD x_S n_Validity n_I).msgs.length cz36)) from rfl)
  go_wp2_with fail
  refine (eqBox_g (boxAtD x_S n_Validity n_I) _ _ _ (LfIn.rd _ _ _ F134.out) (LfIn.rd _ _ _ F129.out) (by have := SZ_r0.out; omega)).mono ?_
  rintro e w144 ⟨rfl, b145⟩
  clear y136 y137 y138 y139 y140 y141 y142 y143
  have F146 := Lib.hid ((b145.block (w.heap.size) (Array.getElem?_eq_some_iff.1 F126.out).1).trans F126.out)
  clear F126
  have F147 := Lib.hid (LfIn.below F127.out b145)
  clear F127
  have F148 := Lib.hid (LfIn.below F128.out b145)
  clear F128
  have F149 := Lib.hid (LfIn.below F129.out b145)
  clear F129
  have F150 := Lib.hid ((b145.block (w34.heap.size) (Array.getElem?_eq_some_iff.1 F130.out).1).trans F130.out)
  clear F130
  have F151 := Lib.hid (LfIn.below F131.out b145)
  clear F131
  have F152 := Lib.hid (LfIn.below F132.out b145)
  clear F132
  have F153 := Lib.hid ((b145.block (w61.heap.size) (Array.getElem?_eq_some_iff.1 F133.out).1).trans F133.out)
  clear F133
  have F154 := Lib.hid (LfIn.below F134.out b145)
  clear F134
  have F155 := Lib.hid ((b145.block (w102.heap.size) (Array.getElem?_eq_some_iff.1 F124.out).1).trans F124.out)
  clear F124
  have hz156 : X122.heap.size ≤ w144.heap.size := b145.size
  replace hb := hb.trans (b145.mono hb.size)
  clear b145
  go_wp2
  refine ord_start [(0, true), (1, true), (2, false), (3, false), (4, true)] (fun W => W.heap[w61.heap.size]? = some (.cells #[(.slice pz64 x_S.boxes.length cz64), (.slice pz65 x_S.log.length cz65), .int .i64 x_S.given] 46 (0, 0)) ∧ W.heap[w.heap.size]? = some (.cells #[(.slice p_S_0 x_S.boxes.length c_S_0), (.slice p_S_1 x_S.log.length c_S_1), .int .i64 x_S.given] 73 (0, 0))) (by kernel_rfl) (by kernel_rfl) rfl (by kernel_rfl) ?_
  intro ops' hops
  clear hops
  simp only [List.map_cons, List.map_nil, pickOp_zero, pickOp_succ]
  have b158 : Below w144.heap.size w144 w144.drew := (Below.refl _ _).drew
  have hz159 : w144.drew.heap.size = w144.heap.size := rfl
  generalize w144.drew = D157 at *
  have F160 := Lib.hid ((b158.block (w.heap.size) (Array.getElem?_eq_some_iff.1 F146.out).1).trans F146.out)
  clear F146
  have F161 := Lib.hid (LfIn.below F147.out b158)
  clear F147
  have F162 := Lib.hid (LfIn.below F148.out b158)
  clear F148
  have F163 := Lib.hid (LfIn.below F149.out b158)
  clear F149
  have F164 := Lib.hid ((b158.block (w34.heap.size) (Array.getElem?_eq_some_iff.1 F150.out).1).trans F150.out)
  clear F150
  have F165 := Lib.hid (LfIn.below F151.out b158)
  clear F151
  have F166 := Lib.hid (LfIn.below F152.out b158)
  clear F152
  have F167 := Lib.hid ((b158.block (w61.heap.size) (Array.getElem?_eq_some_iff.1 F153.out).1).trans F153.out)
  clear F153
  have F168 := Lib.hid (LfIn.below F154.out b158)
  clear F154
  have F169 := Lib.hid ((b158.block (w102.heap.size) (Array.getElem?_eq_some_iff.1 F155.out).1).trans F155.out)
  clear F155
  have hz170 : w144.heap.size ≤ D157.heap.size := b158.size
  replace hb := hb.trans (b158.mono hb.size)
  clear b158
  refine ord_flo (.agg #[(.slice pz64 x_S.boxes.length cz64), (.slice pz65 x_S.log.length cz65), .int .i64 x_S.given]) (fun _ _ _ h => h) rfl ?_ ⟨F167.out, F160.out⟩ ?_
  · intro W hS
    have y0 := (Lib.cell_of_heap hS.1 0).trans (show _ = some ((.slice pz64 x_S.boxes.length cz64)) from rfl)
    have y1 := (Lib.cell_of_heap hS.1 1).trans (show _ = some ((.slice pz65 x_S.log.length cz65)) from rfl)
    have y2 := (Lib.cell_of_heap hS.1 2).trans (show _ = some (.int .i64 x_S.given) from rfl)
    clear hS
    go_simp
  refine ord_flo (.agg #[(.slice p_S_0 x_S.boxes.length c_S_0), (.slice p_S_1 x_S.log.length c_S_1), .int .i64 x_S.given]) (fun _ _ _ h => h) rfl ?_ ⟨F167.out, F160.out⟩ ?_
  · intro W hS
    have y0 := (Lib.cell_of_heap hS.2 0).trans (show _ = some ((.slice p_S_0 x_S.boxes.length c_S_0)) from rfl)
    have y1 := (Lib.cell_of_heap hS.2 1).trans (show _ = some ((.slice p_S_1 x_S.log.length c_S_1)) from rfl)
    have y2 := (Lib.cell_of_heap hS.2 2).trans (show _ = some (.int .i64 x_S.given) from rfl)
    clear hS
    go_simp
  refine ord_ev rfl ?_
  go_simp
  refine (C_to_S.out _ (LfRd.below hb _ _ H_r_S_0.out) (LfRd.below hb _ _ H_r_S_1.out)).mono ?_
  rintro e w171 ⟨z174, f176, z175, f177, rfl, i178, i179, nd180, lo181, b172⟩
  have F182 := Lib.hid ((b172.block (w.heap.size) (Array.getElem?_eq_some_iff.1 F160.out).1).trans F160.out)
  clear F160
  have F183 := Lib.hid (LfIn.below F161.out b172)
  clear F161
  have F184 := Lib.hid (LfIn.below F162.out b172)
  clear F162
  have F185 := Lib.hid (LfIn.below F163.out b172)
  clear F163
  have F186 := Lib.hid ((b172.block (w34.heap.size) (Array.getElem?_eq_some_iff.1 F164.out).1).trans F164.out)
  clear F164
  have F187 := Lib.hid (LfIn.below F165.out b172)
  clear F165
  have F188 := Lib.hid (LfIn.below F166.out b172)
  clear F166
  have F189 := Lib.hid ((b172.block (w61.heap.size) (Array.getElem?_eq_some_iff.1 F167.out).1).trans F167.out)
  clear F167
  have F190 := Lib.hid (LfIn.below F168.out b172)
  clear F168
  have F191 := Lib.hid ((b172.block (w102.heap.size) (Array.getElem?_eq_some_iff.1 F169.out).1).trans F169.out)
  clear F169
  have hz192 : D157.heap.size ≤ w171.heap.size := b172.size
  replace hb := hb.trans (b172.mono hb.size)
  have LO193 := Lib.hid (show ∀ q ∈ f176 ++ f177, D157.heap.size ≤ q from lo181)
  have HI194 := Lib.hid (show ∀ q ∈ f176 ++ f177, q < w171.heap.size from fun q hq => by simp only [List.mem_append] at hq; rcases hq with hq | hq <;> first | exact LfIn.lt _ _ _ i178 q hq | exact LfIn.lt _ _ _ i179 q hq)
  have ND195 := Lib.hid nd180
  have F196 := Lib.hid i178
  have LO197 := Lib.hid (show ∀ q ∈ f176, D157.heap.size ≤ q from fun q hq => LO193.out q (by simp [hq]))
  have HI198 := Lib.hid (show ∀ q ∈ f176, q < w171.heap.size from fun q hq => HI194.out q (by simp [hq]))
  obtain ⟨pz174, cz174, rfl⟩ := LfIn.slice i178
  have F199 := Lib.hid i179
  have LO200 := Lib.hid (show ∀ q ∈ f177, D157.heap.size ≤ q from fun q hq => LO193.out q (by simp [hq]))
  have HI201 := Lib.hid (show ∀ q ∈ f177, q < w171.heap.size from fun q hq => HI194.out q (by simp [hq]))
  obtain ⟨pz175, cz175, rfl⟩ := LfIn.slice i179
  clear i178
  clear i179
  clear nd180 lo181
  clear b172
  refine ⟨⟨F189.out, F182.out⟩, ?_⟩
  refine ord_ev rfl ?_
  go_simp
  refine (eqStore_g x_S _ _ _ _ _ (LfIn.rd _ _ _ F187.out) (LfIn.rd _ _ _ F196.out) (LfIn.rd _ _ _ F188.out) (LfIn.rd _ _ _ F199.out) (by have := SZ_S.out; omega)).mono ?_
  rintro e w202 ⟨rfl, b203⟩
  have F204 := Lib.hid ((b203.block (w.heap.size) (Array.getElem?_eq_some_iff.1 F182.out).1).trans F182.out)
  clear F182
  have F205 := Lib.hid (LfIn.below F183.out b203)
  clear F183
  have F206 := Lib.hid (LfIn.below F184.out b203)
  clear F184
  have F207 := Lib.hid (LfIn.below F185.out b203)
  clear F185
  have F208 := Lib.hid ((b203.block (w34.heap.size) (Array.getElem?_eq_some_iff.1 F186.out).1).trans F186.out)
  clear F186
  have F209 := Lib.hid (LfIn.below F187.out b203)
  clear F187
  have F210 := Lib.hid (LfIn.below F188.out b203)
  clear F188
  have F211 := Lib.hid ((b203.block (w61.heap.size) (Array.getElem?_eq_some_iff.1 F189.out).1).trans F189.out)
  clear F189
  have F212 := Lib.hid (LfIn.below F190.out b203)
  clear F190
  have F213 := Lib.hid ((b203.block (w102.heap.size) (Array.getElem?_eq_some_iff.1 F191.out).1).trans F191.out)
  clear F191
  have F214 := Lib.hid (LfIn.below F196.out b203)
  clear F196
  have F215 := Lib.hid (LfIn.below F199.out b203)
  clear F199
  have hz216 : w171.heap.size ≤ w202.heap.size := b203.size
  replace hb := hb.trans (b203.mono hb.size)
  clear b203
  refine ⟨⟨F211.out, F204.out⟩, ?_⟩
  iterate 1 (refine ord_flo ?_ (fun _ _ _ h => h) rfl ?_ ⟨F211.out, F204.out⟩ ?_; rotate_left; focus (intro W hS; obtain ⟨s0, s1⟩ := hS; go_simp; rfl))
  refine ord_done ?_
  go_simp
  have y217 := (Lib.cell_of_heap F211.out 0).trans (show _ = some ((.slice pz64 x_S.boxes.length cz64)) from rfl)
  have y218 := (Lib.cell_of_heap F211.out 1).trans (show _ = some ((.slice pz65 x_S.log.length cz65)) from rfl)
  have y219 := (Lib.cell_of_heap F211.out 2).trans (show _ = some (.int .i64 x_S.given) from rfl)
  go_wp2_with fail
  refine (markStore_g x_S _ _ _ 1 rfl f66 f67 _ F209.out F210.out ND80.out (by have := CN_S.out; omega) (by have := SZ_S.out; omega)).mono ?_
  rintro e w220 ⟨rfl, i223, i224, g222⟩
  clear y217 y218 y219
  clear F209
  have F225 := Lib.hid (LfIn.rd _ _ _ i223)
  clear F210
  have F226 := Lib.hid (LfIn.rd _ _ _ i224)
  have F227 := Lib.hid ((g222.block (w.heap.size) (Array.getElem?_eq_some_iff.1 F204.out).1 (fun hm => by have h3 := LO78.out _ hm; have h4 := HI79.out _ hm; omega)).trans F204.out)
  clear F204
  have F228 := Lib.hid (LfIn.away F205.out g222 (fun q hq hm => by have h1 := LO29.out q hq; have h2 := HI30.out q hq; have h3 := LO78.out q hm; have h4 := HI79.out q hm; omega))
  clear F205
  have F229 := Lib.hid (LfIn.away F206.out g222 (fun q hq hm => by have h1 := LO32.out q hq; have h2 := HI33.out q hq; have h3 := LO78.out q hm; have h4 := HI79.out q hm; omega))
  clear F206
  have F230 := Lib.hid (LfIn.away F207.out g222 (fun q hq hm => by have h1 := LO45.out q hq; have h2 := HI46.out q hq; have h3 := LO78.out q hm; have h4 := HI79.out q hm; omega))
  clear F207
  have F231 := Lib.hid ((g222.block (w34.heap.size) (Array.getElem?_eq_some_iff.1 F208.out).1 (fun hm => by have h3 := LO78.out _ hm; have h4 := HI79.out _ hm; omega)).trans F208.out)
  clear F208
  have F232 := Lib.hid ((g222.block (w61.heap.size) (Array.getElem?_eq_some_iff.1 F211.out).1 (fun hm => by have h3 := LO78.out _ hm; have h4 := HI79.out _ hm; omega)).trans F211.out)
  clear F211
  have F233 := Lib.hid (LfIn.away F212.out g222 (fun q hq hm => by have h1 := LO118.out q hq; have h2 := HI119.out q hq; have h3 := LO78.out q hm; have h4 := HI79.out q hm; omega))
  clear F212
  have F234 := Lib.hid ((g222.block (w102.heap.size) (Array.getElem?_eq_some_iff.1 F213.out).1 (fun hm => by have h3 := LO78.out _ hm; have h4 := HI79.out _ hm; omega)).trans F213.out)
  clear F213
  have F235 := Lib.hid (LfIn.away F214.out g222 (fun q hq hm => by have h1 := LO197.out q hq; have h2 := HI198.out q hq; have h3 := LO78.out q hm; have h4 := HI79.out q hm; omega))
  clear F214
  have F236 := Lib.hid (LfIn.away F215.out g222 (fun q hq hm => by have h1 := LO200.out q hq; have h2 := HI201.out q hq; have h3 := LO78.out q hm; have h4 := HI79.out q hm; omega))
  clear F215
  have hz237 : w202.heap.size ≤ w220.heap.size := g222.size
  replace hb := GrownIn.below hb g222 hb.size (fun q hq => by have h3 := LO78.out q hq; have h9 := hbz.out; omega)
  clear F225 F226
  clear g222 i223 i224
  obtain ⟨K238, hK238⟩ : ∃ K : Nat, K = 1 + cntLf (boxsLf x_S.boxes) + cntLf (commitsLf x_S.log) := ⟨_, rfl⟩
  rw [← hK238]
  have hnK238 : ¬ (K238 : Int) < 0 := by omega
  have hdK238 : decide ((K238 : Int) < 0) = false := decide_eq_false hnK238
  have HK238 := Lib.hid hK238
  clear hK238
  have y239 := (Lib.cell_of_heap F234.out 0).trans (show _ = some (sv (boxAtD x_S n_Validity n_I).name) from rfl)
  have y240 := (Lib.cell_of_heap F234.out 1).trans (show _ = some (.int .i64 (boxAtD x_S n_Validity n_I).validity) from rfl)
  have y241 := (Lib.cell_of_heap F234.out 2).trans (show _ = some (.int .i64 (boxAtD x_S n_Validity n_I).next) from rfl)
  have y242 := (Lib.cell_of_heap F234.out 3).trans (show _ = some ((.slice pz104 (boxAtD x_S n_Validity n_I).msgs.length cz104)) from rfl)
  have y243 := (Lib.cell_of_heap F231.out 0).trans (show _ = some (sv (boxAtD x_S n_Validity n_I).name) from rfl)
  have y244 := (Lib.cell_of_heap F231.out 1).trans (show _ = some (.int .i64 (boxAtD x_S n_Validity n_I).validity) from rfl)
  have y245 := (Lib.cell_of_heap F231.out 2).trans (show _ = some (.int .i64 (boxAtD x_S n_Validity n_I).next) from rfl)
  have y246 := (Lib.cell_of_heap F231.out 3).trans (show _ = some ((.slice pz36 (boxAtD x_S n_Validity n_I).msgs.length cz36)) from rfl)
  go_wp2_with fail
  refine (eqBox_g (boxAtD x_S n_Validity n_I) _ _ _ (LfIn.rd _ _ _ F233.out) (LfIn.rd _ _ _ F230.out) (by have := SZ_r0.out; omega)).mono ?_
  rintro e w247 ⟨rfl, b248⟩
  clear y239 y240 y241 y242 y243 y244 y245 y246
  have F249 := Lib.hid ((b248.block (w.heap.size) (Array.getElem?_eq_some_iff.1 F227.out).1).trans F227.out)
  clear F227
  have F250 := Lib.hid (LfIn.below F228.out b248)
  clear F228
  have F251 := Lib.hid (LfIn.below F229.out b248)
  clear F229
  have F252 := Lib.hid (LfIn.below F230.out b248)
  clear F230
  have F253 := Lib.hid ((b248.block (w34.heap.size) (Array.getElem?_eq_some_iff.1 F231.out).1).trans F231.out)
  clear F231
  have F254 := Lib.hid ((b248.block (w61.heap.size) (Array.getElem?_eq_some_iff.1 F232.out).1).trans F232.out)
  clear F232
  have F255 := Lib.hid (LfIn.below F233.out b248)
  clear F233
  have F256 := Lib.hid ((b248.block (w102.heap.size) (Array.getElem?_eq_some_iff.1 F234.out).1).trans F234.out)
  clear F234
  have F257 := Lib.hid (LfIn.below F235.out b248)
  clear F235
  have F258 := Lib.hid (LfIn.below F236.out b248)
  clear F236
  have hz259 : w220.heap.size ≤ w247.heap.size := b248.size
  replace hb := hb.trans (b248.mono hb.size)
  clear b248
  have y260 := (Lib.cell_of_heap F256.out 0).trans (show _ = some (sv (boxAtD x_S n_Validity n_I).name) from rfl)
  have y261 := (Lib.cell_of_heap F256.out 1).trans (show _ = some (.int .i64 (boxAtD x_S n_Validity n_I).validity) from rfl)
  have y262 := (Lib.cell_of_heap F256.out 2).trans (show _ = some (.int .i64 (boxAtD x_S n_Validity n_I).next) from rfl)
  have y263 := (Lib.cell_of_heap F256.out 3).trans (show _ = some ((.slice pz104 (boxAtD x_S n_Validity n_I).msgs.length cz104)) from rfl)
  go_wp2_with fail
  refine (markBox_g (boxAtD x_S n_Validity n_I) _ _ 1 rfl f105 _ F255.out ND120.out (by have := CN_r0.out; omega) (by have := SZ_r0.out; omega)).mono ?_
  rintro e w264 ⟨rfl, i267, g266⟩
  clear y260 y261 y262 y263
  clear F255
  have F268 := Lib.hid (LfIn.rd _ _ _ i267)
  have F269 := Lib.hid ((g266.block (w.heap.size) (Array.getElem?_eq_some_iff.1 F249.out).1 (fun hm => by have h3 := LO118.out _ hm; have h4 := HI119.out _ hm; omega)).trans F249.out)
  clear F249
  have F270 := Lib.hid (LfIn.away F250.out g266 (fun q hq hm => by have h1 := LO29.out q hq; have h2 := HI30.out q hq; have h3 := LO118.out q hm; have h4 := HI119.out q hm; omega))
  clear F250
  have F271 := Lib.hid (LfIn.away F251.out g266 (fun q hq hm => by have h1 := LO32.out q hq; have h2 := HI33.out q hq; have h3 := LO118.out q hm; have h4 := HI119.out q hm; omega))
  clear F251
  have F272 := Lib.hid (LfIn.away F252.out g266 (fun q hq hm => by have h1 := LO45.out q hq; have h2 := HI46.out q hq; have h3 := LO118.out q hm; have h4 := HI119.out q hm; omega))
  clear F252
  have F273 := Lib.hid ((g266.block (w34.heap.size) (Array.getElem?_eq_some_iff.1 F253.out).1 (fun hm => by have h3 := LO118.out _ hm; have h4 := HI119.out _ hm; omega)).trans F253.out)
  clear F253
  have F274 := Lib.hid ((g266.block (w61.heap.size) (Array.getElem?_eq_some_iff.1 F254.out).1 (fun hm => by have h3 := LO118.out _ hm; have h4 := HI119.out _ hm; omega)).trans F254.out)
  clear F254
  have F275 := Lib.hid ((g266.block (w102.heap.size) (Array.getElem?_eq_some_iff.1 F256.out).1 (fun hm => by have h3 := LO118.out _ hm; have h4 := HI119.out _ hm; omega)).trans F256.out)
  clear F256
  have F276 := Lib.hid (LfIn.away F257.out g266 (fun q hq hm => by have h1 := LO197.out q hq; have h2 := HI198.out q hq; have h3 := LO118.out q hm; have h4 := HI119.out q hm; omega))
  clear F257
  have F277 := Lib.hid (LfIn.away F258.out g266 (fun q hq hm => by have h1 := LO200.out q hq; have h2 := HI201.out q hq; have h3 := LO118.out q hm; have h4 := HI119.out q hm; omega))
  clear F258
  have hz278 : w247.heap.size ≤ w264.heap.size := g266.size
  replace hb := GrownIn.below hb g266 hb.size (fun q hq => by have h3 := LO118.out q hq; have h9 := hbz.out; omega)
  clear g266 i267
  obtain ⟨K279, hK279⟩ : ∃ K : Nat, K = 1 + cntLf (msgsLf (boxAtD x_S n_Validity n_I).msgs) := ⟨_, rfl⟩
  rw [← hK279]
  have hnK279 : ¬ (K279 : Int) < 0 := by omega
  have hdK279 : decide ((K279 : Int) < 0) = false := decide_eq_false hnK279
  have HK279 := Lib.hid hK279
  clear hK279
  have y280 := (Lib.cell_of_heap F275.out 0).trans (show _ = some (sv (boxAtD x_S n_Validity n_I).name) from rfl)
  have y281 := (Lib.cell_of_heap F275.out 1).trans (show _ = some (.int .i64 (boxAtD x_S n_Validity n_I).validity) from rfl)
  have y282 := (Lib.cell_of_heap F275.out 2).trans (show _ = some (.int .i64 (boxAtD x_S n_Validity n_I).next) from rfl)
  have y283 := (Lib.cell_of_heap F275.out 3).trans (show _ = some ((.slice pz104 (boxAtD x_S n_Validity n_I).msgs.length cz104)) from rfl)
  go_wp2_with fail
  refine (heldBox_g (boxAtD x_S n_Validity n_I) _ _ 1 rfl _ F268.out (by have := CN_r0.out; omega) (by have := SZ_r0.out; omega)).mono ?_
  rintro e w284 ⟨rfl, b285⟩
  clear y280 y281 y282 y283
  rw [← HK279.out]
  have F286 := Lib.hid ((b285.block (w.heap.size) (Array.getElem?_eq_some_iff.1 F269.out).1).trans F269.out)
  clear F269
  have F287 := Lib.hid (LfIn.below F270.out b285)
  clear F270
  have F288 := Lib.hid (LfIn.below F271.out b285)
  clear F271
  have F289 := Lib.hid (LfIn.below F272.out b285)
  clear F272
  have F290 := Lib.hid ((b285.block (w34.heap.size) (Array.getElem?_eq_some_iff.1 F273.out).1).trans F273.out)
  clear F273
  have F291 := Lib.hid ((b285.block (w61.heap.size) (Array.getElem?_eq_some_iff.1 F274.out).1).trans F274.out)
  clear F274
  have F292 := Lib.hid ((b285.block (w102.heap.size) (Array.getElem?_eq_some_iff.1 F275.out).1).trans F275.out)
  clear F275
  have F293 := Lib.hid (LfIn.below F276.out b285)
  clear F276
  have F294 := Lib.hid (LfIn.below F277.out b285)
  clear F277
  have F295 := Lib.hid (LfRd.below b285 _ _ F268.out)
  clear F268
  have hz296 : w264.heap.size ≤ w284.heap.size := b285.size
  replace hb := hb.trans (b285.mono hb.size)
  clear b285
  have y297 := (Lib.cell_of_heap F286.out 0).trans (show _ = some ((.slice p_S_0 x_S.boxes.length c_S_0)) from rfl)
  have y298 := (Lib.cell_of_heap F286.out 1).trans (show _ = some ((.slice p_S_1 x_S.log.length c_S_1)) from rfl)
  have y299 := (Lib.cell_of_heap F286.out 2).trans (show _ = some (.int .i64 x_S.given) from rfl)
  go_wp2_with fail
  refine (C_to_S.out _ (LfRd.below hb _ _ H_r_S_0.out) (LfRd.below hb _ _ H_r_S_1.out)).mono ?_
  rintro e w300 ⟨z303, f305, z304, f306, rfl, i307, i308, nd309, lo310, b301⟩
  clear y297 y298 y299
  have F311 := Lib.hid ((b301.block (w.heap.size) (Array.getElem?_eq_some_iff.1 F286.out).1).trans F286.out)
  clear F286
  have F312 := Lib.hid (LfIn.below F287.out b301)
  clear F287
  have F313 := Lib.hid (LfIn.below F288.out b301)
  clear F288
  have F314 := Lib.hid (LfIn.below F289.out b301)
  clear F289
  have F315 := Lib.hid ((b301.block (w34.heap.size) (Array.getElem?_eq_some_iff.1 F290.out).1).trans F290.out)
  clear F290
  have F316 := Lib.hid ((b301.block (w61.heap.size) (Array.getElem?_eq_some_iff.1 F291.out).1).trans F291.out)
  clear F291
  have F317 := Lib.hid ((b301.block (w102.heap.size) (Array.getElem?_eq_some_iff.1 F292.out).1).trans F292.out)
  clear F292
  have F318 := Lib.hid (LfIn.below F293.out b301)
  clear F293
  have F319 := Lib.hid (LfIn.below F294.out b301)
  clear F294
  have F320 := Lib.hid (LfRd.below b301 _ _ F295.out)
  clear F295
  have hz321 : w284.heap.size ≤ w300.heap.size := b301.size
  replace hb := hb.trans (b301.mono hb.size)
  have LO322 := Lib.hid (show ∀ q ∈ f305 ++ f306, w284.heap.size ≤ q from lo310)
  have HI323 := Lib.hid (show ∀ q ∈ f305 ++ f306, q < w300.heap.size from fun q hq => by simp only [List.mem_append] at hq; rcases hq with hq | hq <;> first | exact LfIn.lt _ _ _ i307 q hq | exact LfIn.lt _ _ _ i308 q hq)
  have ND324 := Lib.hid nd309
  have F325 := Lib.hid i307
  have LO326 := Lib.hid (show ∀ q ∈ f305, w284.heap.size ≤ q from fun q hq => LO322.out q (by simp [hq]))
  have HI327 := Lib.hid (show ∀ q ∈ f305, q < w300.heap.size from fun q hq => HI323.out q (by simp [hq]))
  obtain ⟨pz303, cz303, rfl⟩ := LfIn.slice i307
  have F328 := Lib.hid i308
  have LO329 := Lib.hid (show ∀ q ∈ f306, w284.heap.size ≤ q from fun q hq => LO322.out q (by simp [hq]))
  have HI330 := Lib.hid (show ∀ q ∈ f306, q < w300.heap.size from fun q hq => HI323.out q (by simp [hq]))
  obtain ⟨pz304, cz304, rfl⟩ := LfIn.slice i308
  clear i307
  clear i308
  clear nd309 lo310
  clear b301
  go_wp2_with fail
  refine (C_impl.out _ _ _ (hK _ _ hG hb) (LfIn.rd _ _ _ F325.out) (CapLe.of_in F325.out) (LfIn.rd _ _ _ F328.out) (CapLe.of_in F328.out)).mono ?_
  rintro e w331 ⟨z333, f334, rfl, i335, nd336, lo337, b332⟩
  have F338 := Lib.hid ((b332.block (w.heap.size) (Array.getElem?_eq_some_iff.1 F311.out).1).trans F311.out)
  clear F311
  have F339 := Lib.hid (LfIn.below F312.out b332)
  clear F312
  have F340 := Lib.hid (LfIn.below F313.out b332)
  clear F313
  have F341 := Lib.hid (LfIn.below F314.out b332)
  clear F314
  have F342 := Lib.hid ((b332.block (w34.heap.size) (Array.getElem?_eq_some_iff.1 F315.out).1).trans F315.out)
  clear F315
  have F343 := Lib.hid ((b332.block (w61.heap.size) (Array.getElem?_eq_some_iff.1 F316.out).1).trans F316.out)
  clear F316
  have F344 := Lib.hid ((b332.block (w102.heap.size) (Array.getElem?_eq_some_iff.1 F317.out).1).trans F317.out)
  clear F317
  have F345 := Lib.hid (LfIn.below F318.out b332)
  clear F318
  have F346 := Lib.hid (LfIn.below F319.out b332)
  clear F319
  have F347 := Lib.hid (LfRd.below b332 _ _ F320.out)
  clear F320
  have F348 := Lib.hid (LfIn.below F325.out b332)
  clear F325
  have F349 := Lib.hid (LfIn.below F328.out b332)
  clear F328
  have hz350 : w300.heap.size ≤ w331.heap.size := b332.size
  replace hb := hb.trans (b332.mono hb.size)
  have LO351 := Lib.hid (show ∀ q ∈ f334, w300.heap.size ≤ q from lo337)
  have HI352 := Lib.hid (show ∀ q ∈ f334, q < w331.heap.size from fun q hq => LfIn.lt _ _ _ i335 q hq)
  have ND353 := Lib.hid nd336
  have F354 := Lib.hid i335
  obtain ⟨pz333, cz333, rfl⟩ := LfIn.slice i335
  clear i335
  clear nd336 lo337
  clear b332
  have b356 : Below w331.heap.size w331 (w331.alloc (.cells #[sv (boxAtD x_S n_Validity n_I).name, .int .i64 (boxAtD x_S n_Validity n_I).validity, .int .i64 (boxAtD x_S n_Validity n_I).next, (.slice pz333 (boxAtD x_S n_Validity n_I).msgs.length cz333)] 38)) := (Below.refl _ _).alloc (Nat.le_refl _) _
  have F357 := Lib.hid (heap_alloc_new w331 (.cells #[sv (boxAtD x_S n_Validity n_I).name, .int .i64 (boxAtD x_S n_Validity n_I).validity, .int .i64 (boxAtD x_S n_Validity n_I).next, (.slice pz333 (boxAtD x_S n_Validity n_I).msgs.length cz333)] 38))
  have hz358 : w331.heap.size < (w331.alloc (.cells #[sv (boxAtD x_S n_Validity n_I).name, .int .i64 (boxAtD x_S n_Validity n_I).validity, .int .i64 (boxAtD x_S n_Validity n_I).next, (.slice pz333 (boxAtD x_S n_Validity n_I).msgs.length cz333)] 38)).heap.size := by simp
  generalize hX355 : w331.alloc (.cells #[sv (boxAtD x_S n_Validity n_I).name, .int .i64 (boxAtD x_S n_Validity n_I).validity, .int .i64 (boxAtD x_S n_Validity n_I).next, (.slice pz333 (boxAtD x_S n_Validity n_I).msgs.length cz333)] 38) = X355 at *
  have F359 := Lib.hid ((b356.block (w.heap.size) (Array.getElem?_eq_some_iff.1 F338.out).1).trans F338.out)
  clear F338
  have F360 := Lib.hid (LfIn.below F339.out b356)
  clear F339
  have F361 := Lib.hid (LfIn.below F340.out b356)
  clear F340
  have F362 := Lib.hid (LfIn.below F341.out b356)
  clear F341
  have F363 := Lib.hid ((b356.block (w34.heap.size) (Array.getElem?_eq_some_iff.1 F342.out).1).trans F342.out)
  clear F342
  have F364 := Lib.hid ((b356.block (w61.heap.size) (Array.getElem?_eq_some_iff.1 F343.out).1).trans F343.out)
  clear F343
  have F365 := Lib.hid ((b356.block (w102.heap.size) (Array.getElem?_eq_some_iff.1 F344.out).1).trans F344.out)
  clear F344
  have F366 := Lib.hid (LfIn.below F345.out b356)
  clear F345
  have F367 := Lib.hid (LfIn.below F346.out b356)
  clear F346
  have F368 := Lib.hid (LfRd.below b356 _ _ F347.out)
  clear F347
  have F369 := Lib.hid (LfIn.below F348.out b356)
  clear F348
  have F370 := Lib.hid (LfIn.below F349.out b356)
  clear F349
  have F371 := Lib.hid (LfIn.below F354.out b356)
  clear F354
  have hz372 : w331.heap.size ≤ X355.heap.size := b356.size
  replace hb := hb.trans (b356.mono hb.size)
  clear b356
  have y373 := (Lib.cell_of_heap F357.out 0).trans (show _ = some (sv (boxAtD x_S n_Validity n_I).name) from rfl)
  have y374 := (Lib.cell_of_heap F357.out 1).trans (show _ = some (.int .i64 (boxAtD x_S n_Validity n_I).validity) from rfl)
  have y375 := (Lib.cell_of_heap F357.out 2).trans (show _ = some (.int .i64 (boxAtD x_S n_Validity n_I).next) from rfl)
  have y376 := (Lib.cell_of_heap F357.out 3).trans (show _ = some ((.slice pz333 (boxAtD x_S n_Validity n_I).msgs.length cz333)) from rfl)
  have y377 := (Lib.cell_of_heap F363.out 0).trans (show _ = some (sv (boxAtD x_S n_Validity n_I).name) from rfl)
  have y378 := (Lib.cell_of_heap F363.out 1).trans (show _ = some (.int .i64 (boxAtD x_S n_Validity n_I).validity) from rfl)
  have y379 := (Lib.cell_of_heap F363.out 2).trans (show _ = some (.int .i64 (boxAtD x_S n_Validity n_I).next) from rfl)
  have y380 := (Lib.cell_of_heap F363.out 3).trans (show _ = some ((.slice pz36 (boxAtD x_S n_Validity n_I).msgs.length cz36)) from rfl)
  go_wp2_with fail
  refine (eqBox_g (boxAtD x_S n_Validity n_I) _ _ _ (LfIn.rd _ _ _ F371.out) (LfIn.rd _ _ _ F362.out) (by have := SZ_r0.out; omega)).mono ?_
  rintro e w381 ⟨rfl, b382⟩
  clear y373 y374 y375 y376 y377 y378 y379 y380
  have F383 := Lib.hid ((b382.block (w.heap.size) (Array.getElem?_eq_some_iff.1 F359.out).1).trans F359.out)
  clear F359
  have F384 := Lib.hid (LfIn.below F360.out b382)
  clear F360
  have F385 := Lib.hid (LfIn.below F361.out b382)
  clear F361
  have F386 := Lib.hid (LfIn.below F362.out b382)
  clear F362
  have F387 := Lib.hid ((b382.block (w34.heap.size) (Array.getElem?_eq_some_iff.1 F363.out).1).trans F363.out)
  clear F363
  have F388 := Lib.hid ((b382.block (w61.heap.size) (Array.getElem?_eq_some_iff.1 F364.out).1).trans F364.out)
  clear F364
  have F389 := Lib.hid ((b382.block (w102.heap.size) (Array.getElem?_eq_some_iff.1 F365.out).1).trans F365.out)
  clear F365
  have F390 := Lib.hid (LfIn.below F366.out b382)
  clear F366
  have F391 := Lib.hid (LfIn.below F367.out b382)
  clear F367
  have F392 := Lib.hid (LfRd.below b382 _ _ F368.out)
  clear F368
  have F393 := Lib.hid (LfIn.below F369.out b382)
  clear F369
  have F394 := Lib.hid (LfIn.below F370.out b382)
  clear F370
  have F395 := Lib.hid (LfIn.below F371.out b382)
  clear F371
  have F396 := Lib.hid ((b382.block (w331.heap.size) (Array.getElem?_eq_some_iff.1 F357.out).1).trans F357.out)
  clear F357
  have hz397 : X355.heap.size ≤ w381.heap.size := b382.size
  replace hb := hb.trans (b382.mono hb.size)
  clear b382
  have y398 := (Lib.cell_of_heap F389.out 0).trans (show _ = some (sv (boxAtD x_S n_Validity n_I).name) from rfl)
  have y399 := (Lib.cell_of_heap F389.out 1).trans (show _ = some (.int .i64 (boxAtD x_S n_Validity n_I).validity) from rfl)
  have y400 := (Lib.cell_of_heap F389.out 2).trans (show _ = some (.int .i64 (boxAtD x_S n_Validity n_I).next) from rfl)
  have y401 := (Lib.cell_of_heap F389.out 3).trans (show _ = some ((.slice pz104 (boxAtD x_S n_Validity n_I).msgs.length cz104)) from rfl)
  go_wp2_with fail
  refine (heldBox_g (boxAtD x_S n_Validity n_I) _ _ 1 rfl _ F392.out (by have := CN_r0.out; omega) (by have := SZ_r0.out; omega)).mono ?_
  rintro e w402 ⟨rfl, b403⟩
  clear y398 y399 y400 y401
  rw [← HK279.out]
  have F404 := Lib.hid ((b403.block (w.heap.size) (Array.getElem?_eq_some_iff.1 F383.out).1).trans F383.out)
  clear F383
  have F405 := Lib.hid (LfIn.below F384.out b403)
  clear F384
  have F406 := Lib.hid (LfIn.below F385.out b403)
  clear F385
  have F407 := Lib.hid (LfIn.below F386.out b403)
  clear F386
  have F408 := Lib.hid ((b403.block (w34.heap.size) (Array.getElem?_eq_some_iff.1 F387.out).1).trans F387.out)
  clear F387
  have F409 := Lib.hid ((b403.block (w61.heap.size) (Array.getElem?_eq_some_iff.1 F388.out).1).trans F388.out)
  clear F388
  have F410 := Lib.hid ((b403.block (w102.heap.size) (Array.getElem?_eq_some_iff.1 F389.out).1).trans F389.out)
  clear F389
  have F411 := Lib.hid (LfIn.below F390.out b403)
  clear F390
  have F412 := Lib.hid (LfIn.below F391.out b403)
  clear F391
  have F413 := Lib.hid (LfRd.below b403 _ _ F392.out)
  clear F392
  have F414 := Lib.hid (LfIn.below F393.out b403)
  clear F393
  have F415 := Lib.hid (LfIn.below F394.out b403)
  clear F394
  have F416 := Lib.hid (LfIn.below F395.out b403)
  clear F395
  have F417 := Lib.hid ((b403.block (w331.heap.size) (Array.getElem?_eq_some_iff.1 F396.out).1).trans F396.out)
  clear F396
  have hz418 : w381.heap.size ≤ w402.heap.size := b403.size
  replace hb := hb.trans (b403.mono hb.size)
  clear b403
  go_wp2
  go_ret
  exact ⟨rfl, hb⟩

end Go.Proofs.YtbfgdbpfecffcaaGreatDoor

namespace Go.Proofs.YtbfgdbpfecffcaaGreatDoor
open Go.RowKit

def CtrStoreOk (f : FuncId) (G : World → Prop) : Prop := ∀ (x_S : StoD) (r_S_0 : Value) (r_S_1 : Value) (W : World), G W → LfRd W (boxsLf x_S.boxes) r_S_0 → CapLe r_S_0 → LfRd W (commitsLf x_S.log) r_S_1 → CapLe r_S_1 → szLs x_S.lf ≤ 1048576 → LsBnd x_S.lf → 
  Calls Tryz.prog f #[.agg #[r_S_0, r_S_1, .int .i64 x_S.given]] W fun e w' => e = .returned (.bool (storeB x_S)) ∧ Below W.heap.size W w'

set_option maxRecDepth 20000 in
set_option maxHeartbeats 12800000 in
theorem FnExactStoreOk_of {G : World → Prop} (hK : Keeps G) (SP : CtrStoreOk 33 (fun _ => True)) (IM : CtrStoreOk 32 G) (x_S : StoD) (r_S_0 : Value) (r_S_1 : Value) (w : World) (hG : G w) (h_r_S_0 : LfRd w (boxsLf x_S.boxes) r_S_0) (h_r_S_1 : LfRd w (commitsLf x_S.log) r_S_1) (hb_S : LsBnd x_S.lf) :
    Calls Tryz.prog 12 #[.agg #[r_S_0, r_S_1, .int .i64 x_S.given]] w fun e w' => e = .returned (.bool true) ∧ Below w.heap.size w w' := by
  have H_r_S_0 := Lib.hid h_r_S_0
  have H_r_S_1 := Lib.hid h_r_S_1
  obtain ⟨p_S_0, c_S_0, rfl⟩ := LfRd.slice h_r_S_0
  obtain ⟨p_S_1, c_S_1, rfl⟩ := LfRd.slice h_r_S_1
  clear h_r_S_0
  clear h_r_S_1
  by_cases k0 : szLs x_S.lf ≤ 1048576
  case neg =>
    have q0 := fun (ll : Int) (W : World) (hl : ll = ((1048576 : Nat) : Int)) (g0 : LfRd W (boxsLf x_S.boxes) (.slice p_S_0 x_S.boxes.length c_S_0)) (g1 : LfRd W (commitsLf x_S.log) (.slice p_S_1 x_S.log.length c_S_1)) => szStore_g x_S (.slice p_S_0 x_S.boxes.length c_S_0) (.slice p_S_1 x_S.log.length c_S_1) ll 1048576 hl W g0 g1 hb_S (by omega)
    simp only [show szN 1048576 (szLs x_S.lf) = -1 from szN_no k0] at q0
    have C_sz0 := Lib.hid q0
    clear q0 SP IM
    have hb : Below w.heap.size w (w.alloc (.cells #[(.slice p_S_0 x_S.boxes.length c_S_0), (.slice p_S_1 x_S.log.length c_S_1), .int .i64 x_S.given] 73)) := ((Below.refl _ _).alloc (Nat.le_refl _) _)
    have HB1 := Lib.hid (show (w.alloc (.cells #[(.slice p_S_0 x_S.boxes.length c_S_0), (.slice p_S_1 x_S.log.length c_S_1), .int .i64 x_S.given] 73)).heap[w.heap.size]? = some (.cells #[(.slice p_S_0 x_S.boxes.length c_S_0), (.slice p_S_1 x_S.log.length c_S_1), .int .i64 x_S.given] 73 (0, 0)) from by
      have h := heap_alloc_new w (.cells #[(.slice p_S_0 x_S.boxes.length c_S_0), (.slice p_S_1 x_S.log.length c_S_1), .int .i64 x_S.given] 73)
      exact h)
    have hz0 : w.heap.size + 1 ≤ (w.alloc (.cells #[(.slice p_S_0 x_S.boxes.length c_S_0), (.slice p_S_1 x_S.log.length c_S_1), .int .i64 x_S.given] 73)).heap.size := by simp
    generalize hW0 : (w.alloc (.cells #[(.slice p_S_0 x_S.boxes.length c_S_0), (.slice p_S_1 x_S.log.length c_S_1), .int .i64 x_S.given] 73)) = W0 at *
    go_enter Tryz.func12, Tryz.ntmps12
    have hbz := Lib.hid hb.size
    have y2 := (Lib.cell_of_heap HB1.out 0).trans (show _ = some ((.slice p_S_0 x_S.boxes.length c_S_0)) from rfl)
    have y3 := (Lib.cell_of_heap HB1.out 1).trans (show _ = some ((.slice p_S_1 x_S.log.length c_S_1)) from rfl)
    have y4 := (Lib.cell_of_heap HB1.out 2).trans (show _ = some (.int .i64 x_S.given) from rfl)
    go_wp2_with fail
    refine (C_sz0.out _ _ (by first | rfl | omega) (LfRd.below hb _ _ H_r_S_0.out) (LfRd.below hb _ _ H_r_S_1.out)).mono ?_
    rintro e w5 ⟨rfl, b6⟩
    clear y2 y3 y4
    have F7 := Lib.hid ((b6.block (w.heap.size) (Array.getElem?_eq_some_iff.1 HB1.out).1).trans HB1.out)
    clear HB1
    have hz8 : W0.heap.size ≤ w5.heap.size := b6.size
    replace hb := hb.trans (b6.mono hb.size)
    clear b6
    go_wp2
    go_ret
    exact ⟨rfl, hb⟩
  obtain ⟨L1, hL1⟩ : ∃ L, L + szLs x_S.lf = 1048576 := ⟨1048576 - szLs x_S.lf, by omega⟩
  have bL1 : L1 ≤ 1048576 := by omega
  have nL1 : ¬ (L1 : Int) < 0 := by omega
  have q0 := fun (ll : Int) (W : World) (hl : ll = ((1048576 : Nat) : Int)) (g0 : LfRd W (boxsLf x_S.boxes) (.slice p_S_0 x_S.boxes.length c_S_0)) (g1 : LfRd W (commitsLf x_S.log) (.slice p_S_1 x_S.log.length c_S_1)) => szStore_g x_S (.slice p_S_0 x_S.boxes.length c_S_0) (.slice p_S_1 x_S.log.length c_S_1) ll 1048576 hl W g0 g1 hb_S (by omega)
  simp only [show szN 1048576 (szLs x_S.lf) = (L1 : Int) from by rw [szN_yes k0]; omega] at q0
  have C_sz0 := Lib.hid q0
  clear q0
  have HL1 := Lib.hid hL1
  have hsz_0 : szLs x_S.lf ≤ 1048576 := by omega
  clear hL1
  have hsm_S : szLs x_S.lf ≤ 1048576 := by omega
  have SZ_S := Lib.hid hsm_S
  have CN_S := Lib.hid (show 1 + cntLf (boxsLf x_S.boxes) + cntLf (commitsLf x_S.log) ≤ 1000000000 from by have hs := StoD.sz x_S; have h0 := cntRow_le (boxsLf_fit x_S.boxes); have h1 := cntRow_le (commitsLf_fit x_S.log); simp only [boxsLf, commitsLf] at hs ⊢; omega)
  have C_to_S := Lib.hid (fun (W : World) (g0 : LfRd W (boxsLf x_S.boxes) (.slice p_S_0 x_S.boxes.length c_S_0)) (g1 : LfRd W (commitsLf x_S.log) (.slice p_S_1 x_S.log.length c_S_1)) => toStore_g x_S (.slice p_S_0 x_S.boxes.length c_S_0) (.slice p_S_1 x_S.log.length c_S_1) W g0 g1 (by omega))
  have C_spec := Lib.hid (fun (u_S_0 : Value) (u_S_1 : Value) (W : World) (k_S_0 : LfRd W (boxsLf x_S.boxes) u_S_0) (kc_S_0 : CapLe u_S_0) (k_S_1 : LfRd W (commitsLf x_S.log) u_S_1) (kc_S_1 : CapLe u_S_1) => SP x_S u_S_0 u_S_1 W trivial k_S_0 kc_S_0 k_S_1 kc_S_1 hsm_S hb_S)
  have C_impl := Lib.hid (fun (u_S_0 : Value) (u_S_1 : Value) (W : World) (hg : G W) (k_S_0 : LfRd W (boxsLf x_S.boxes) u_S_0) (kc_S_0 : CapLe u_S_0) (k_S_1 : LfRd W (commitsLf x_S.log) u_S_1) (kc_S_1 : CapLe u_S_1) => IM x_S u_S_0 u_S_1 W hg k_S_0 kc_S_0 k_S_1 kc_S_1 hsm_S hb_S)
  clear SP IM hb_S hsm_S
  generalize (storeB x_S) = R0 at *
  have ne0 : (R0 != R0) = false := by simp
  have hb : Below w.heap.size w (w.alloc (.cells #[(.slice p_S_0 x_S.boxes.length c_S_0), (.slice p_S_1 x_S.log.length c_S_1), .int .i64 x_S.given] 73)) := ((Below.refl _ _).alloc (Nat.le_refl _) _)
  have HB1 := Lib.hid (show (w.alloc (.cells #[(.slice p_S_0 x_S.boxes.length c_S_0), (.slice p_S_1 x_S.log.length c_S_1), .int .i64 x_S.given] 73)).heap[w.heap.size]? = some (.cells #[(.slice p_S_0 x_S.boxes.length c_S_0), (.slice p_S_1 x_S.log.length c_S_1), .int .i64 x_S.given] 73 (0, 0)) from by
    have h := heap_alloc_new w (.cells #[(.slice p_S_0 x_S.boxes.length c_S_0), (.slice p_S_1 x_S.log.length c_S_1), .int .i64 x_S.given] 73)
    exact h)
  have hz0 : w.heap.size + 1 ≤ (w.alloc (.cells #[(.slice p_S_0 x_S.boxes.length c_S_0), (.slice p_S_1 x_S.log.length c_S_1), .int .i64 x_S.given] 73)).heap.size := by simp
  generalize hW0 : (w.alloc (.cells #[(.slice p_S_0 x_S.boxes.length c_S_0), (.slice p_S_1 x_S.log.length c_S_1), .int .i64 x_S.given] 73)) = W0 at *
  go_enter Tryz.func12, Tryz.ntmps12
  have hbz := Lib.hid hb.size
  have y2 := (Lib.cell_of_heap HB1.out 0).trans (show _ = some ((.slice p_S_0 x_S.boxes.length c_S_0)) from rfl)
  have y3 := (Lib.cell_of_heap HB1.out 1).trans (show _ = some ((.slice p_S_1 x_S.log.length c_S_1)) from rfl)
  have y4 := (Lib.cell_of_heap HB1.out 2).trans (show _ = some (.int .i64 x_S.given) from rfl)
  go_wp2_with fail
  refine (C_sz0.out _ _ (by first | rfl | omega) (LfRd.below hb _ _ H_r_S_0.out) (LfRd.below hb _ _ H_r_S_1.out)).mono ?_
  rintro e w5 ⟨rfl, b6⟩
  clear y2 y3 y4
  have F7 := Lib.hid ((b6.block (w.heap.size) (Array.getElem?_eq_some_iff.1 HB1.out).1).trans HB1.out)
  clear HB1
  have hz8 : W0.heap.size ≤ w5.heap.size := b6.size
  replace hb := hb.trans (b6.mono hb.size)
  clear b6
  have y9 := (Lib.cell_of_heap F7.out 0).trans (show _ = some ((.slice p_S_0 x_S.boxes.length c_S_0)) from rfl)
  have y10 := (Lib.cell_of_heap F7.out 1).trans (show _ = some ((.slice p_S_1 x_S.log.length c_S_1)) from rfl)
  have y11 := (Lib.cell_of_heap F7.out 2).trans (show _ = some (.int .i64 x_S.given) from rfl)
  go_wp2_with fail
  refine (C_to_S.out _ (LfRd.below hb _ _ H_r_S_0.out) (LfRd.below hb _ _ H_r_S_1.out)).mono ?_
  rintro e w12 ⟨z15, f17, z16, f18, rfl, i19, i20, nd21, lo22, b13⟩
  clear y9 y10 y11
  have F23 := Lib.hid ((b13.block (w.heap.size) (Array.getElem?_eq_some_iff.1 F7.out).1).trans F7.out)
  clear F7
  have hz24 : w5.heap.size ≤ w12.heap.size := b13.size
  replace hb := hb.trans (b13.mono hb.size)
  have LO25 := Lib.hid (show ∀ q ∈ f17 ++ f18, w5.heap.size ≤ q from lo22)
  have HI26 := Lib.hid (show ∀ q ∈ f17 ++ f18, q < w12.heap.size from fun q hq => by simp only [List.mem_append] at hq; rcases hq with hq | hq <;> first | exact LfIn.lt _ _ _ i19 q hq | exact LfIn.lt _ _ _ i20 q hq)
  have ND27 := Lib.hid nd21
  have F28 := Lib.hid i19
  have LO29 := Lib.hid (show ∀ q ∈ f17, w5.heap.size ≤ q from fun q hq => LO25.out q (by simp [hq]))
  have HI30 := Lib.hid (show ∀ q ∈ f17, q < w12.heap.size from fun q hq => HI26.out q (by simp [hq]))
  obtain ⟨pz15, cz15, rfl⟩ := LfIn.slice i19
  have F31 := Lib.hid i20
  have LO32 := Lib.hid (show ∀ q ∈ f18, w5.heap.size ≤ q from fun q hq => LO25.out q (by simp [hq]))
  have HI33 := Lib.hid (show ∀ q ∈ f18, q < w12.heap.size from fun q hq => HI26.out q (by simp [hq]))
  obtain ⟨pz16, cz16, rfl⟩ := LfIn.slice i20
  clear i19
  clear i20
  clear nd21 lo22
  clear b13
  go_wp2_with fail
  refine (C_spec.out _ _ _ (LfIn.rd _ _ _ F28.out) (CapLe.of_in F28.out) (LfIn.rd _ _ _ F31.out) (CapLe.of_in F31.out)).mono ?_
  rintro e w34 ⟨rfl, b35⟩
  have F36 := Lib.hid ((b35.block (w.heap.size) (Array.getElem?_eq_some_iff.1 F23.out).1).trans F23.out)
  clear F23
  have F37 := Lib.hid (LfIn.below F28.out b35)
  clear F28
  have F38 := Lib.hid (LfIn.below F31.out b35)
  clear F31
  have hz39 : w12.heap.size ≤ w34.heap.size := b35.size
  replace hb := hb.trans (b35.mono hb.size)
  clear b35
  have y40 := (Lib.cell_of_heap F36.out 0).trans (show _ = some ((.slice p_S_0 x_S.boxes.length c_S_0)) from rfl)
  have y41 := (Lib.cell_of_heap F36.out 1).trans (show _ = some ((.slice p_S_1 x_S.log.length c_S_1)) from rfl)
  have y42 := (Lib.cell_of_heap F36.out 2).trans (show _ = some (.int .i64 x_S.given) from rfl)
  go_wp2_with fail
  refine (C_to_S.out _ (LfRd.below hb _ _ H_r_S_0.out) (LfRd.below hb _ _ H_r_S_1.out)).mono ?_
  rintro e w43 ⟨z46, f48, z47, f49, rfl, i50, i51, nd52, lo53, b44⟩
  clear y40 y41 y42
  have F54 := Lib.hid ((b44.block (w.heap.size) (Array.getElem?_eq_some_iff.1 F36.out).1).trans F36.out)
  clear F36
  have F55 := Lib.hid (LfIn.below F37.out b44)
  clear F37
  have F56 := Lib.hid (LfIn.below F38.out b44)
  clear F38
  have hz57 : w34.heap.size ≤ w43.heap.size := b44.size
  replace hb := hb.trans (b44.mono hb.size)
  have LO58 := Lib.hid (show ∀ q ∈ f48 ++ f49, w34.heap.size ≤ q from lo53)
  have HI59 := Lib.hid (show ∀ q ∈ f48 ++ f49, q < w43.heap.size from fun q hq => by simp only [List.mem_append] at hq; rcases hq with hq | hq <;> first | exact LfIn.lt _ _ _ i50 q hq | exact LfIn.lt _ _ _ i51 q hq)
  have ND60 := Lib.hid nd52
  have F61 := Lib.hid i50
  have LO62 := Lib.hid (show ∀ q ∈ f48, w34.heap.size ≤ q from fun q hq => LO58.out q (by simp [hq]))
  have HI63 := Lib.hid (show ∀ q ∈ f48, q < w43.heap.size from fun q hq => HI59.out q (by simp [hq]))
  obtain ⟨pz46, cz46, rfl⟩ := LfIn.slice i50
  have F64 := Lib.hid i51
  have LO65 := Lib.hid (show ∀ q ∈ f49, w34.heap.size ≤ q from fun q hq => LO58.out q (by simp [hq]))
  have HI66 := Lib.hid (show ∀ q ∈ f49, q < w43.heap.size from fun q hq => HI59.out q (by simp [hq]))
  obtain ⟨pz47, cz47, rfl⟩ := LfIn.slice i51
  clear i50
  clear i51
  clear nd52 lo53
  clear b44
  have b68 : Below w43.heap.size w43 (w43.alloc (.cells #[(.slice pz46 x_S.boxes.length cz46), (.slice pz47 x_S.log.length cz47), .int .i64 x_S.given] 46)) := (Below.refl _ _).alloc (Nat.le_refl _) _
  have F69 := Lib.hid (heap_alloc_new w43 (.cells #[(.slice pz46 x_S.boxes.length cz46), (.slice pz47 x_S.log.length cz47), .int .i64 x_S.given] 46))
  have hz70 : w43.heap.size < (w43.alloc (.cells #[(.slice pz46 x_S.boxes.length cz46), (.slice pz47 x_S.log.length cz47), .int .i64 x_S.given] 46)).heap.size := by simp
  generalize hX67 : w43.alloc (.cells #[(.slice pz46 x_S.boxes.length cz46), (.slice pz47 x_S.log.length cz47), .int .i64 x_S.given] 46) = X67 at *
  have F71 := Lib.hid ((b68.block (w.heap.size) (Array.getElem?_eq_some_iff.1 F54.out).1).trans F54.out)
  clear F54
  have F72 := Lib.hid (LfIn.below F55.out b68)
  clear F55
  have F73 := Lib.hid (LfIn.below F56.out b68)
  clear F56
  have F74 := Lib.hid (LfIn.below F61.out b68)
  clear F61
  have F75 := Lib.hid (LfIn.below F64.out b68)
  clear F64
  have hz76 : w43.heap.size ≤ X67.heap.size := b68.size
  replace hb := hb.trans (b68.mono hb.size)
  clear b68
  have y77 := (Lib.cell_of_heap F69.out 0).trans (show _ = some ((.slice pz46 x_S.boxes.length cz46)) from rfl)
  have y78 := (Lib.cell_of_heap F69.out 1).trans (show _ = some ((.slice pz47 x_S.log.length cz47)) from rfl)
  have y79 := (Lib.cell_of_heap F69.out 2).trans (show _ = some (.int .i64 x_S.given) from rfl)
  go_wp2_with fail
  refine (C_impl.out _ _ _ (hK _ _ hG hb) (LfIn.rd _ _ _ F74.out) (CapLe.of_in F74.out) (LfIn.rd _ _ _ F75.out) (CapLe.of_in F75.out)).mono ?_
  rintro e w80 ⟨rfl, b81⟩
  clear y77 y78 y79
  have F82 := Lib.hid ((b81.block (w.heap.size) (Array.getElem?_eq_some_iff.1 F71.out).1).trans F71.out)
  clear F71
  have F83 := Lib.hid (LfIn.below F72.out b81)
  clear F72
  have F84 := Lib.hid (LfIn.below F73.out b81)
  clear F73
  have F85 := Lib.hid (LfIn.below F74.out b81)
  clear F74
  have F86 := Lib.hid (LfIn.below F75.out b81)
  clear F75
  have F87 := Lib.hid ((b81.block (w43.heap.size) (Array.getElem?_eq_some_iff.1 F69.out).1).trans F69.out)
  clear F69
  have hz88 : X67.heap.size ≤ w80.heap.size := b81.size
  replace hb := hb.trans (b81.mono hb.size)
  clear b81
  go_wp2
  refine ord_start [(0, true), (1, true), (2, false), (3, false), (4, true)] (fun W => W.heap[w43.heap.size]? = some (.cells #[(.slice pz46 x_S.boxes.length cz46), (.slice pz47 x_S.log.length cz47), .int .i64 x_S.given] 46 (0, 0)) ∧ W.heap[w.heap.size]? = some (.cells #[(.slice p_S_0 x_S.boxes.length c_S_0), (.slice p_S_1 x_S.log.length c_S_1), .int .i64 x_S.given] 73 (0, 0))) (by kernel_rfl) (by kernel_rfl) rfl (by kernel_rfl) ?_
  intro ops' hops
  clear hops
  simp only [List.map_cons, List.map_nil, pickOp_zero, pickOp_succ]
  have b90 : Below w80.heap.size w80 w80.drew := (Below.refl _ _).drew
  have hz91 : w80.drew.heap.size = w80.heap.size := rfl
  generalize w80.drew = D89 at *
  have F92 := Lib.hid ((b90.block (w.heap.size) (Array.getElem?_eq_some_iff.1 F82.out).1).trans F82.out)
  clear F82
  have F93 := Lib.hid (LfIn.below F83.out b90)
  clear F83
  have F94 := Lib.hid (LfIn.below F84.out b90)
  clear F84
  have F95 := Lib.hid (LfIn.below F85.out b90)
  clear F85
  have F96 := Lib.hid (LfIn.below F86.out b90)
  clear F86
  have F97 := Lib.hid ((b90.block (w43.heap.size) (Array.getElem?_eq_some_iff.1 F87.out).1).trans F87.out)
  clear F87
  have hz98 : w80.heap.size ≤ D89.heap.size := b90.size
  replace hb := hb.trans (b90.mono hb.size)
  clear b90
  refine ord_flo (.agg #[(.slice pz46 x_S.boxes.length cz46), (.slice pz47 x_S.log.length cz47), .int .i64 x_S.given]) (fun _ _ _ h => h) rfl ?_ ⟨F97.out, F92.out⟩ ?_
  · intro W hS
    have y0 := (Lib.cell_of_heap hS.1 0).trans (show _ = some ((.slice pz46 x_S.boxes.length cz46)) from rfl)
    have y1 := (Lib.cell_of_heap hS.1 1).trans (show _ = some ((.slice pz47 x_S.log.length cz47)) from rfl)
    have y2 := (Lib.cell_of_heap hS.1 2).trans (show _ = some (.int .i64 x_S.given) from rfl)
    clear hS
    go_simp
  refine ord_flo (.agg #[(.slice p_S_0 x_S.boxes.length c_S_0), (.slice p_S_1 x_S.log.length c_S_1), .int .i64 x_S.given]) (fun _ _ _ h => h) rfl ?_ ⟨F97.out, F92.out⟩ ?_
  · intro W hS
    have y0 := (Lib.cell_of_heap hS.2 0).trans (show _ = some ((.slice p_S_0 x_S.boxes.length c_S_0)) from rfl)
    have y1 := (Lib.cell_of_heap hS.2 1).trans (show _ = some ((.slice p_S_1 x_S.log.length c_S_1)) from rfl)
    have y2 := (Lib.cell_of_heap hS.2 2).trans (show _ = some (.int .i64 x_S.given) from rfl)
    clear hS
    go_simp
  refine ord_ev rfl ?_
  go_simp
  refine (C_to_S.out _ (LfRd.below hb _ _ H_r_S_0.out) (LfRd.below hb _ _ H_r_S_1.out)).mono ?_
  rintro e w99 ⟨z102, f104, z103, f105, rfl, i106, i107, nd108, lo109, b100⟩
  have F110 := Lib.hid ((b100.block (w.heap.size) (Array.getElem?_eq_some_iff.1 F92.out).1).trans F92.out)
  clear F92
  have F111 := Lib.hid (LfIn.below F93.out b100)
  clear F93
  have F112 := Lib.hid (LfIn.below F94.out b100)
  clear F94
  have F113 := Lib.hid (LfIn.below F95.out b100)
  clear F95
  have F114 := Lib.hid (LfIn.below F96.out b100)
  clear F96
  have F115 := Lib.hid ((b100.block (w43.heap.size) (Array.getElem?_eq_some_iff.1 F97.out).1).trans F97.out)
  clear F97
  have hz116 : D89.heap.size ≤ w99.heap.size := b100.size
  replace hb := hb.trans (b100.mono hb.size)
  have LO117 := Lib.hid (show ∀ q ∈ f104 ++ f105, D89.heap.size ≤ q from lo109)
  have HI118 := Lib.hid (show ∀ q ∈ f104 ++ f105, q < w99.heap.size from fun q hq => by simp only [List.mem_append] at hq; rcases hq with hq | hq <;> first | exact LfIn.lt _ _ _ i106 q hq | exact LfIn.lt _ _ _ i107 q hq)
  have ND119 := Lib.hid nd108
  have F120 := Lib.hid i106
  have LO121 := Lib.hid (show ∀ q ∈ f104, D89.heap.size ≤ q from fun q hq => LO117.out q (by simp [hq]))
  have HI122 := Lib.hid (show ∀ q ∈ f104, q < w99.heap.size from fun q hq => HI118.out q (by simp [hq]))
  obtain ⟨pz102, cz102, rfl⟩ := LfIn.slice i106
  have F123 := Lib.hid i107
  have LO124 := Lib.hid (show ∀ q ∈ f105, D89.heap.size ≤ q from fun q hq => LO117.out q (by simp [hq]))
  have HI125 := Lib.hid (show ∀ q ∈ f105, q < w99.heap.size from fun q hq => HI118.out q (by simp [hq]))
  obtain ⟨pz103, cz103, rfl⟩ := LfIn.slice i107
  clear i106
  clear i107
  clear nd108 lo109
  clear b100
  refine ⟨⟨F115.out, F110.out⟩, ?_⟩
  refine ord_ev rfl ?_
  go_simp
  refine (eqStore_g x_S _ _ _ _ _ (LfIn.rd _ _ _ F113.out) (LfIn.rd _ _ _ F120.out) (LfIn.rd _ _ _ F114.out) (LfIn.rd _ _ _ F123.out) (by have := SZ_S.out; omega)).mono ?_
  rintro e w126 ⟨rfl, b127⟩
  have F128 := Lib.hid ((b127.block (w.heap.size) (Array.getElem?_eq_some_iff.1 F110.out).1).trans F110.out)
  clear F110
  have F129 := Lib.hid (LfIn.below F111.out b127)
  clear F111
  have F130 := Lib.hid (LfIn.below F112.out b127)
  clear F112
  have F131 := Lib.hid (LfIn.below F113.out b127)
  clear F113
  have F132 := Lib.hid (LfIn.below F114.out b127)
  clear F114
  have F133 := Lib.hid ((b127.block (w43.heap.size) (Array.getElem?_eq_some_iff.1 F115.out).1).trans F115.out)
  clear F115
  have F134 := Lib.hid (LfIn.below F120.out b127)
  clear F120
  have F135 := Lib.hid (LfIn.below F123.out b127)
  clear F123
  have hz136 : w99.heap.size ≤ w126.heap.size := b127.size
  replace hb := hb.trans (b127.mono hb.size)
  clear b127
  refine ⟨⟨F133.out, F128.out⟩, ?_⟩
  iterate 1 (refine ord_flo ?_ (fun _ _ _ h => h) rfl ?_ ⟨F133.out, F128.out⟩ ?_; rotate_left; focus (intro W hS; obtain ⟨s0, s1⟩ := hS; go_simp; rfl))
  refine ord_done ?_
  go_simp
  go_wp2
  go_ret
  exact ⟨rfl, hb⟩

end Go.Proofs.YtbfgdbpfecffcaaGreatDoor

namespace Go.Proofs.YtbfgdbpfecffcaaGreatDoor
open Go.RowKit

def CtrStoreNew (f : FuncId) (G : World → Prop) : Prop := ∀  (W : World), G W → 
  Calls Tryz.prog f #[] W fun e w' => ∃ z0_0 f0_0, ∃ z0_1 f0_1, e = .returned (.agg #[z0_0, z0_1, .int .i64 (newD).given]) ∧ LfIn w' (boxsLf (newD).boxes) z0_0 f0_0 ∧ LfIn w' (commitsLf (newD).log) z0_1 f0_1 ∧ (f0_0 ++ f0_1).Nodup ∧ (∀ q ∈ f0_0 ++ f0_1, W.heap.size ≤ q) ∧ Below W.heap.size W w'

set_option maxRecDepth 20000 in
set_option maxHeartbeats 12800000 in
theorem FnExactStoreNew_of {G : World → Prop} (hK : Keeps G) (SP : CtrStoreNew 52 (fun _ => True)) (IM : CtrStoreNew 53 G)  (w : World) (hG : G w) (hr_0 : szLs (newD).lf ≤ 1000000000) :
    Calls Tryz.prog 11 #[] w fun e w' => e = .returned (.bool true) ∧ Below w.heap.size w w' := by
  have C_spec := Lib.hid (fun  (W : World)  => SP  W trivial )
  have C_impl := Lib.hid (fun  (W : World) (hg : G W)  => IM  W hg )
  have hq_0 := hr_0 
  have SZ_r0 := Lib.hid hq_0
  have CN_r0 := Lib.hid (show 1 + cntLf (boxsLf (newD).boxes) + cntLf (commitsLf (newD).log) ≤ 100000000000 from by have hs := StoD.sz (newD); have h0 := cntRow_le (boxsLf_fit (newD).boxes); have h1 := cntRow_le (commitsLf_fit (newD).log); simp only [boxsLf, commitsLf] at hs hq_0 ⊢; omega)
  clear hq_0
  clear SP IM hr_0
  have hb : Below w.heap.size w w := Below.refl _ _
  go_enter Tryz.func11, Tryz.ntmps11
  have hbz := Lib.hid hb.size
  go_wp2_with fail
  refine (C_spec.out _ ).mono ?_
  rintro e w1 ⟨z3, f5, z4, f6, rfl, i7, i8, nd9, lo10, b2⟩
  have hz11 : w.heap.size ≤ w1.heap.size := b2.size
  replace hb := hb.trans (b2.mono hb.size)
  have LO12 := Lib.hid (show ∀ q ∈ f5 ++ f6, w.heap.size ≤ q from lo10)
  have HI13 := Lib.hid (show ∀ q ∈ f5 ++ f6, q < w1.heap.size from fun q hq => by simp only [List.mem_append] at hq; rcases hq with hq | hq <;> first | exact LfIn.lt _ _ _ i7 q hq | exact LfIn.lt _ _ _ i8 q hq)
  have ND14 := Lib.hid nd9
  have F15 := Lib.hid i7
  have LO16 := Lib.hid (show ∀ q ∈ f5, w.heap.size ≤ q from fun q hq => LO12.out q (by simp [hq]))
  have HI17 := Lib.hid (show ∀ q ∈ f5, q < w1.heap.size from fun q hq => HI13.out q (by simp [hq]))
  obtain ⟨pz3, cz3, rfl⟩ := LfIn.slice i7
  have F18 := Lib.hid i8
  have LO19 := Lib.hid (show ∀ q ∈ f6, w.heap.size ≤ q from fun q hq => LO12.out q (by simp [hq]))
  have HI20 := Lib.hid (show ∀ q ∈ f6, q < w1.heap.size from fun q hq => HI13.out q (by simp [hq]))
  obtain ⟨pz4, cz4, rfl⟩ := LfIn.slice i8
  clear i7
  clear i8
  clear nd9 lo10
  clear b2
  have b22 : Below w1.heap.size w1 (w1.alloc (.cells #[(.slice pz3 (newD).boxes.length cz3), (.slice pz4 (newD).log.length cz4), .int .i64 (newD).given] 46)) := (Below.refl _ _).alloc (Nat.le_refl _) _
  have F23 := Lib.hid (heap_alloc_new w1 (.cells #[(.slice pz3 (newD).boxes.length cz3), (.slice pz4 (newD).log.length cz4), .int .i64 (newD).given] 46))
  have hz24 : w1.heap.size < (w1.alloc (.cells #[(.slice pz3 (newD).boxes.length cz3), (.slice pz4 (newD).log.length cz4), .int .i64 (newD).given] 46)).heap.size := by simp
  generalize hX21 : w1.alloc (.cells #[(.slice pz3 (newD).boxes.length cz3), (.slice pz4 (newD).log.length cz4), .int .i64 (newD).given] 46) = X21 at *
  have F25 := Lib.hid (LfIn.below F15.out b22)
  clear F15
  have F26 := Lib.hid (LfIn.below F18.out b22)
  clear F18
  have hz27 : w1.heap.size ≤ X21.heap.size := b22.size
  replace hb := hb.trans (b22.mono hb.size)
  clear b22
  go_wp2_with fail
  refine (C_impl.out _ (hK _ _ hG hb) ).mono ?_
  rintro e w28 ⟨z30, f32, z31, f33, rfl, i34, i35, nd36, lo37, b29⟩
  have F38 := Lib.hid (LfIn.below F25.out b29)
  clear F25
  have F39 := Lib.hid (LfIn.below F26.out b29)
  clear F26
  have F40 := Lib.hid ((b29.block (w1.heap.size) (Array.getElem?_eq_some_iff.1 F23.out).1).trans F23.out)
  clear F23
  have hz41 : X21.heap.size ≤ w28.heap.size := b29.size
  replace hb := hb.trans (b29.mono hb.size)
  have LO42 := Lib.hid (show ∀ q ∈ f32 ++ f33, X21.heap.size ≤ q from lo37)
  have HI43 := Lib.hid (show ∀ q ∈ f32 ++ f33, q < w28.heap.size from fun q hq => by simp only [List.mem_append] at hq; rcases hq with hq | hq <;> first | exact LfIn.lt _ _ _ i34 q hq | exact LfIn.lt _ _ _ i35 q hq)
  have ND44 := Lib.hid nd36
  have F45 := Lib.hid i34
  have LO46 := Lib.hid (show ∀ q ∈ f32, X21.heap.size ≤ q from fun q hq => LO42.out q (by simp [hq]))
  have HI47 := Lib.hid (show ∀ q ∈ f32, q < w28.heap.size from fun q hq => HI43.out q (by simp [hq]))
  obtain ⟨pz30, cz30, rfl⟩ := LfIn.slice i34
  have F48 := Lib.hid i35
  have LO49 := Lib.hid (show ∀ q ∈ f33, X21.heap.size ≤ q from fun q hq => LO42.out q (by simp [hq]))
  have HI50 := Lib.hid (show ∀ q ∈ f33, q < w28.heap.size from fun q hq => HI43.out q (by simp [hq]))
  obtain ⟨pz31, cz31, rfl⟩ := LfIn.slice i35
  clear i34
  clear i35
  clear nd36 lo37
  clear b29
  have b52 : Below w28.heap.size w28 (w28.alloc (.cells #[(.slice pz30 (newD).boxes.length cz30), (.slice pz31 (newD).log.length cz31), .int .i64 (newD).given] 46)) := (Below.refl _ _).alloc (Nat.le_refl _) _
  have F53 := Lib.hid (heap_alloc_new w28 (.cells #[(.slice pz30 (newD).boxes.length cz30), (.slice pz31 (newD).log.length cz31), .int .i64 (newD).given] 46))
  have hz54 : w28.heap.size < (w28.alloc (.cells #[(.slice pz30 (newD).boxes.length cz30), (.slice pz31 (newD).log.length cz31), .int .i64 (newD).given] 46)).heap.size := by simp
  generalize hX51 : w28.alloc (.cells #[(.slice pz30 (newD).boxes.length cz30), (.slice pz31 (newD).log.length cz31), .int .i64 (newD).given] 46) = X51 at *
  have F55 := Lib.hid (LfIn.below F38.out b52)
  clear F38
  have F56 := Lib.hid (LfIn.below F39.out b52)
  clear F39
  have F57 := Lib.hid ((b52.block (w1.heap.size) (Array.getElem?_eq_some_iff.1 F40.out).1).trans F40.out)
  clear F40
  have F58 := Lib.hid (LfIn.below F45.out b52)
  clear F45
  have F59 := Lib.hid (LfIn.below F48.out b52)
  clear F48
  have hz60 : w28.heap.size ≤ X51.heap.size := b52.size
  replace hb := hb.trans (b52.mono hb.size)
  clear b52
  have y61 := (Lib.cell_of_heap F53.out 0).trans (show _ = some ((.slice pz30 (newD).boxes.length cz30)) from rfl)
  have y62 := (Lib.cell_of_heap F53.out 1).trans (show _ = some ((.slice pz31 (newD).log.length cz31)) from rfl)
  have y63 := (Lib.cell_of_heap F53.out 2).trans (show _ = some (.int .i64 (newD).given) from rfl)
  have y64 := (Lib.cell_of_heap F57.out 0).trans (show _ = some ((.slice pz3 (newD).boxes.length cz3)) from rfl)
  have y65 := (Lib.cell_of_heap F57.out 1).trans (show _ = some ((.slice pz4 (newD).log.length cz4)) from rfl)
  have y66 := (Lib.cell_of_heap F57.out 2).trans (show _ = some (.int .i64 (newD).given) from rfl)
  go_wp2_with fail
  refine (eqStore_g (newD) _ _ _ _ _ (LfIn.rd _ _ _ F58.out) (LfIn.rd _ _ _ F55.out) (LfIn.rd _ _ _ F59.out) (LfIn.rd _ _ _ F56.out) (by have := SZ_r0.out; omega)).mono ?_
  rintro e w67 ⟨rfl, b68⟩
  clear y61 y62 y63 y64 y65 y66
  have F69 := Lib.hid (LfIn.below F55.out b68)
  clear F55
  have F70 := Lib.hid (LfIn.below F56.out b68)
  clear F56
  have F71 := Lib.hid ((b68.block (w1.heap.size) (Array.getElem?_eq_some_iff.1 F57.out).1).trans F57.out)
  clear F57
  have F72 := Lib.hid (LfIn.below F58.out b68)
  clear F58
  have F73 := Lib.hid (LfIn.below F59.out b68)
  clear F59
  have F74 := Lib.hid ((b68.block (w28.heap.size) (Array.getElem?_eq_some_iff.1 F53.out).1).trans F53.out)
  clear F53
  have hz75 : X51.heap.size ≤ w67.heap.size := b68.size
  replace hb := hb.trans (b68.mono hb.size)
  clear b68
  have y76 := (Lib.cell_of_heap F74.out 0).trans (show _ = some ((.slice pz30 (newD).boxes.length cz30)) from rfl)
  have y77 := (Lib.cell_of_heap F74.out 1).trans (show _ = some ((.slice pz31 (newD).log.length cz31)) from rfl)
  have y78 := (Lib.cell_of_heap F74.out 2).trans (show _ = some (.int .i64 (newD).given) from rfl)
  go_wp2_with fail
  refine (markStore_g (newD) _ _ _ 1 rfl f32 f33 _ F72.out F73.out ND44.out (by have := CN_r0.out; omega) (by have := SZ_r0.out; omega)).mono ?_
  rintro e w79 ⟨rfl, i82, i83, g81⟩
  clear y76 y77 y78
  clear F72
  have F84 := Lib.hid (LfIn.rd _ _ _ i82)
  clear F73
  have F85 := Lib.hid (LfIn.rd _ _ _ i83)
  have F86 := Lib.hid (LfIn.away F69.out g81 (fun q hq hm => by have h1 := LO16.out q hq; have h2 := HI17.out q hq; have h3 := LO42.out q hm; have h4 := HI43.out q hm; omega))
  clear F69
  have F87 := Lib.hid (LfIn.away F70.out g81 (fun q hq hm => by have h1 := LO19.out q hq; have h2 := HI20.out q hq; have h3 := LO42.out q hm; have h4 := HI43.out q hm; omega))
  clear F70
  have F88 := Lib.hid ((g81.block (w1.heap.size) (Array.getElem?_eq_some_iff.1 F71.out).1 (fun hm => by have h3 := LO42.out _ hm; have h4 := HI43.out _ hm; omega)).trans F71.out)
  clear F71
  have F89 := Lib.hid ((g81.block (w28.heap.size) (Array.getElem?_eq_some_iff.1 F74.out).1 (fun hm => by have h3 := LO42.out _ hm; have h4 := HI43.out _ hm; omega)).trans F74.out)
  clear F74
  have hz90 : w67.heap.size ≤ w79.heap.size := g81.size
  replace hb := GrownIn.below hb g81 hb.size (fun q hq => by have h3 := LO42.out q hq; have h9 := hbz.out; omega)
  clear g81 i82 i83
  obtain ⟨K91, hK91⟩ : ∃ K : Nat, K = 1 + cntLf (boxsLf (newD).boxes) + cntLf (commitsLf (newD).log) := ⟨_, rfl⟩
  rw [← hK91]
  have hnK91 : ¬ (K91 : Int) < 0 := by omega
  have hdK91 : decide ((K91 : Int) < 0) = false := decide_eq_false hnK91
  have HK91 := Lib.hid hK91
  clear hK91
  have y92 := (Lib.cell_of_heap F89.out 0).trans (show _ = some ((.slice pz30 (newD).boxes.length cz30)) from rfl)
  have y93 := (Lib.cell_of_heap F89.out 1).trans (show _ = some ((.slice pz31 (newD).log.length cz31)) from rfl)
  have y94 := (Lib.cell_of_heap F89.out 2).trans (show _ = some (.int .i64 (newD).given) from rfl)
  go_wp2_with fail
  refine (heldStore_g (newD) _ _ _ 1 rfl _ F84.out F85.out (by have := CN_r0.out; omega) (by have := SZ_r0.out; omega)).mono ?_
  rintro e w95 ⟨rfl, b96⟩
  clear y92 y93 y94
  rw [← HK91.out]
  have F97 := Lib.hid (LfIn.below F86.out b96)
  clear F86
  have F98 := Lib.hid (LfIn.below F87.out b96)
  clear F87
  have F99 := Lib.hid ((b96.block (w1.heap.size) (Array.getElem?_eq_some_iff.1 F88.out).1).trans F88.out)
  clear F88
  have F100 := Lib.hid ((b96.block (w28.heap.size) (Array.getElem?_eq_some_iff.1 F89.out).1).trans F89.out)
  clear F89
  have F101 := Lib.hid (LfRd.below b96 _ _ F84.out)
  clear F84
  have F102 := Lib.hid (LfRd.below b96 _ _ F85.out)
  clear F85
  have hz103 : w79.heap.size ≤ w95.heap.size := b96.size
  replace hb := hb.trans (b96.mono hb.size)
  clear b96
  go_wp2_with fail
  refine (C_impl.out _ (hK _ _ hG hb) ).mono ?_
  rintro e w104 ⟨z106, f108, z107, f109, rfl, i110, i111, nd112, lo113, b105⟩
  have F114 := Lib.hid (LfIn.below F97.out b105)
  clear F97
  have F115 := Lib.hid (LfIn.below F98.out b105)
  clear F98
  have F116 := Lib.hid ((b105.block (w1.heap.size) (Array.getElem?_eq_some_iff.1 F99.out).1).trans F99.out)
  clear F99
  have F117 := Lib.hid ((b105.block (w28.heap.size) (Array.getElem?_eq_some_iff.1 F100.out).1).trans F100.out)
  clear F100
  have F118 := Lib.hid (LfRd.below b105 _ _ F101.out)
  clear F101
  have F119 := Lib.hid (LfRd.below b105 _ _ F102.out)
  clear F102
  have hz120 : w95.heap.size ≤ w104.heap.size := b105.size
  replace hb := hb.trans (b105.mono hb.size)
  have LO121 := Lib.hid (show ∀ q ∈ f108 ++ f109, w95.heap.size ≤ q from lo113)
  have HI122 := Lib.hid (show ∀ q ∈ f108 ++ f109, q < w104.heap.size from fun q hq => by simp only [List.mem_append] at hq; rcases hq with hq | hq <;> first | exact LfIn.lt _ _ _ i110 q hq | exact LfIn.lt _ _ _ i111 q hq)
  have ND123 := Lib.hid nd112
  have F124 := Lib.hid i110
  have LO125 := Lib.hid (show ∀ q ∈ f108, w95.heap.size ≤ q from fun q hq => LO121.out q (by simp [hq]))
  have HI126 := Lib.hid (show ∀ q ∈ f108, q < w104.heap.size from fun q hq => HI122.out q (by simp [hq]))
  obtain ⟨pz106, cz106, rfl⟩ := LfIn.slice i110
  have F127 := Lib.hid i111
  have LO128 := Lib.hid (show ∀ q ∈ f109, w95.heap.size ≤ q from fun q hq => LO121.out q (by simp [hq]))
  have HI129 := Lib.hid (show ∀ q ∈ f109, q < w104.heap.size from fun q hq => HI122.out q (by simp [hq]))
  obtain ⟨pz107, cz107, rfl⟩ := LfIn.slice i111
  clear i110
  clear i111
  clear nd112 lo113
  clear b105
  have b131 : Below w104.heap.size w104 (w104.alloc (.cells #[(.slice pz106 (newD).boxes.length cz106), (.slice pz107 (newD).log.length cz107), .int .i64 (newD).given] 46)) := (Below.refl _ _).alloc (Nat.le_refl _) _
  have F132 := Lib.hid (heap_alloc_new w104 (.cells #[(.slice pz106 (newD).boxes.length cz106), (.slice pz107 (newD).log.length cz107), .int .i64 (newD).given] 46))
  have hz133 : w104.heap.size < (w104.alloc (.cells #[(.slice pz106 (newD).boxes.length cz106), (.slice pz107 (newD).log.length cz107), .int .i64 (newD).given] 46)).heap.size := by simp
  generalize hX130 : w104.alloc (.cells #[(.slice pz106 (newD).boxes.length cz106), (.slice pz107 (newD).log.length cz107), .int .i64 (newD).given] 46) = X130 at *
  have F134 := Lib.hid (LfIn.below F114.out b131)
  clear F114
  have F135 := Lib.hid (LfIn.below F115.out b131)
  clear F115
  have F136 := Lib.hid ((b131.block (w1.heap.size) (Array.getElem?_eq_some_iff.1 F116.out).1).trans F116.out)
  clear F116
  have F137 := Lib.hid ((b131.block (w28.heap.size) (Array.getElem?_eq_some_iff.1 F117.out).1).trans F117.out)
  clear F117
  have F138 := Lib.hid (LfRd.below b131 _ _ F118.out)
  clear F118
  have F139 := Lib.hid (LfRd.below b131 _ _ F119.out)
  clear F119
  have F140 := Lib.hid (LfIn.below F124.out b131)
  clear F124
  have F141 := Lib.hid (LfIn.below F127.out b131)
  clear F127
  have hz142 : w104.heap.size ≤ X130.heap.size := b131.size
  replace hb := hb.trans (b131.mono hb.size)
  clear b131
  have y143 := (Lib.cell_of_heap F132.out 0).trans (show _ = some ((.slice pz106 (newD).boxes.length cz106)) from rfl)
  have y144 := (Lib.cell_of_heap F132.out 1).trans (show _ = some ((.slice pz107 (newD).log.length cz107)) from rfl)
  have y145 := (Lib.cell_of_heap F132.out 2).trans (show _ = some (.int .i64 (newD).given) from rfl)
  have y146 := (Lib.cell_of_heap F136.out 0).trans (show _ = some ((.slice pz3 (newD).boxes.length cz3)) from rfl)
  have y147 := (Lib.cell_of_heap F136.out 1).trans (show _ = some ((.slice pz4 (newD).log.length cz4)) from rfl)
  have y148 := (Lib.cell_of_heap F136.out 2).trans (show _ = some (.int .i64 (newD).given) from rfl)
  go_wp2_with fail
  refine (eqStore_g (newD) _ _ _ _ _ (LfIn.rd _ _ _ F140.out) (LfIn.rd _ _ _ F134.out) (LfIn.rd _ _ _ F141.out) (LfIn.rd _ _ _ F135.out) (by have := SZ_r0.out; omega)).mono ?_
  rintro e w149 ⟨rfl, b150⟩
  clear y143 y144 y145 y146 y147 y148
  have F151 := Lib.hid (LfIn.below F134.out b150)
  clear F134
  have F152 := Lib.hid (LfIn.below F135.out b150)
  clear F135
  have F153 := Lib.hid ((b150.block (w1.heap.size) (Array.getElem?_eq_some_iff.1 F136.out).1).trans F136.out)
  clear F136
  have F154 := Lib.hid ((b150.block (w28.heap.size) (Array.getElem?_eq_some_iff.1 F137.out).1).trans F137.out)
  clear F137
  have F155 := Lib.hid (LfRd.below b150 _ _ F138.out)
  clear F138
  have F156 := Lib.hid (LfRd.below b150 _ _ F139.out)
  clear F139
  have F157 := Lib.hid (LfIn.below F140.out b150)
  clear F140
  have F158 := Lib.hid (LfIn.below F141.out b150)
  clear F141
  have F159 := Lib.hid ((b150.block (w104.heap.size) (Array.getElem?_eq_some_iff.1 F132.out).1).trans F132.out)
  clear F132
  have hz160 : X130.heap.size ≤ w149.heap.size := b150.size
  replace hb := hb.trans (b150.mono hb.size)
  clear b150
  have y161 := (Lib.cell_of_heap F154.out 0).trans (show _ = some ((.slice pz30 (newD).boxes.length cz30)) from rfl)
  have y162 := (Lib.cell_of_heap F154.out 1).trans (show _ = some ((.slice pz31 (newD).log.length cz31)) from rfl)
  have y163 := (Lib.cell_of_heap F154.out 2).trans (show _ = some (.int .i64 (newD).given) from rfl)
  go_wp2_with fail
  refine (heldStore_g (newD) _ _ _ 1 rfl _ F155.out F156.out (by have := CN_r0.out; omega) (by have := SZ_r0.out; omega)).mono ?_
  rintro e w164 ⟨rfl, b165⟩
  clear y161 y162 y163
  rw [← HK91.out]
  have F166 := Lib.hid (LfIn.below F151.out b165)
  clear F151
  have F167 := Lib.hid (LfIn.below F152.out b165)
  clear F152
  have F168 := Lib.hid ((b165.block (w1.heap.size) (Array.getElem?_eq_some_iff.1 F153.out).1).trans F153.out)
  clear F153
  have F169 := Lib.hid ((b165.block (w28.heap.size) (Array.getElem?_eq_some_iff.1 F154.out).1).trans F154.out)
  clear F154
  have F170 := Lib.hid (LfRd.below b165 _ _ F155.out)
  clear F155
  have F171 := Lib.hid (LfRd.below b165 _ _ F156.out)
  clear F156
  have F172 := Lib.hid (LfIn.below F157.out b165)
  clear F157
  have F173 := Lib.hid (LfIn.below F158.out b165)
  clear F158
  have F174 := Lib.hid ((b165.block (w104.heap.size) (Array.getElem?_eq_some_iff.1 F159.out).1).trans F159.out)
  clear F159
  have hz175 : w149.heap.size ≤ w164.heap.size := b165.size
  replace hb := hb.trans (b165.mono hb.size)
  clear b165
  go_wp2
  go_ret
  exact ⟨rfl, hb⟩

end Go.Proofs.YtbfgdbpfecffcaaGreatDoor

namespace Go.Proofs.YtbfgdbpfecffcaaGreatDoor
open Go.RowKit

theorem take_small {lg : List ComD} (k : Nat) (hs : szLf (commitsLf lg) ≤ 1048576) (hbd : LfBnd (commitsLf lg)) : szLf (commitsLf (lg.take k)) ≤ 1048576 ∧ LfBnd (commitsLf (lg.take k)) := by
  have h1 : szLf (commitsLf lg) = lg.length + szLs (lg.flatMap ComD.lf) := rfl
  have h2 : szLf (commitsLf (lg.take k)) = (lg.take k).length + szLs ((lg.take k).flatMap ComD.lf) := rfl
  have h3 : szLs (lg.flatMap ComD.lf) = szLs ((lg.take k).flatMap ComD.lf) + szLs ((lg.drop k).flatMap ComD.lf) := by
    rw [← szLs_append, ← List.flatMap_append, List.take_append_drop]
  have h4 : LsBnd ((lg.take k).flatMap ComD.lf ++ (lg.drop k).flatMap ComD.lf) := by rw [← List.flatMap_append, List.take_append_drop]; exact hbd.2
  refine ⟨by rw [List.length_take] at h2; omega, ⟨by have := hbd.1; rw [List.length_take]; omega, (LsBnd.append.1 h4).1⟩⟩
theorem boxs_nil (W : World) : LfRd W (boxsLf []) (.slice none 0 0) := ⟨rfl, none, 0, rfl, .inl rfl⟩
theorem cap_nil : CapLe (.slice none 0 0) := fun p n c h => by injection h; omega
theorem cut_at (lg : List ComD) (i : Int) : ∃ k : Nat, k ≤ lg.length ∧ maxI 0 (minI i lg.length) = (k : Int) ∧ lg.take i.toNat = lg.take k := by
  refine ⟨min i.toNat lg.length, by omega, ?_, ?_⟩
  · unfold maxI minI
    split <;> split <;> omega
  · rcases Nat.le_total i.toNat lg.length with h | h
    · rw [Nat.min_eq_left h]
    · rw [Nat.min_eq_right h, List.take_of_length_le h, List.take_length]
theorem cut_im (lg : List ComD) (i : Int) : ∃ k : Nat, (min (max i 0) (lg.length : Int)).toNat = k ∧ k ≤ lg.length ∧ lg.take i.toNat = lg.take k := by
  refine ⟨_, rfl, by omega, ?_⟩
  rcases Nat.le_total i.toNat lg.length with h | h
  · rw [show (min (max i 0) (lg.length : Int)).toNat = i.toNat by omega]
  · rw [show (min (max i 0) (lg.length : Int)).toNat = lg.length by omega, List.take_of_length_le h, List.take_length]
/-- One box of a tree. -/
theorem box_of {lo : Nat} {W : World} {l : List BoxD} {p : Option Addr} {c : Nat} {f0 : List Nat} {k : Nat} {y : BoxD} (ht : Tree W lo (boxsLf l) (.slice p l.length c) f0) (hy : l[k]? = some y) :
    ∃ b q d f, p = some ⟨b, 0, none⟩ ∧ W.cell? ⟨b, k * 4, none⟩ = some (sv y.name) ∧ W.cell? ⟨b, k * 4 + 1, none⟩ = some (.int .i64 y.validity) ∧ W.cell? ⟨b, k * 4 + 2, none⟩ = some (.int .i64 y.next) ∧ W.cell? ⟨b, k * 4 + 3, none⟩ = some (.slice q y.msgs.length d) ∧ LfIn W (msgsLf y.msgs) (.slice q y.msgs.length d) f ∧ f.Nodup ∧ ∀ q ∈ f, lo ≤ q := by
  obtain ⟨ps, rfl, hO⟩ := tree_own9 ht
  rw [List.getElem?_map] at hy
  obtain ⟨z, hz, rfl⟩ := Option.map_eq_some_iff.1 hy
  rw [List.length_map] at hO
  obtain ⟨b, rfl⟩ : ∃ b, p = some ⟨b, 0, none⟩ := by
    rcases hO.row.2 with ⟨_, h0⟩ | ⟨g', cap, cur, h0, _⟩
    · have := (List.getElem?_eq_some_iff.1 hz).1; omega
    · injection h0 with h0
      exact ⟨g', h0⟩
  have hmz := List.mem_of_getElem? hz
  refine ⟨b, z.pt, z.cp, z.fp, rfl, (hO.cell hz (show 0 < 4 by omega)).1, (hO.cell hz (show 1 < 4 by omega)).1, (hO.cell hz (show 2 < 4 by omega)).1, (hO.cell hz (show 3 < 4 by omega)).1, hO.ok z hmz, ?_, fun q hq => hO.low q (List.mem_flatMap.2 ⟨z, hmz, hq⟩)⟩
  have hi := msgs_in.1 (hO.ok z hmz)
  rw [hi.2]
  cases (Value.ownBlock _) <;> simp
theorem boxAt_no {x : StoD} {v i : Int} (h : bxWith (atL x.log i) v < 0) : boxAtD x v i = noBox ∧ boxAtB x v i = false := ⟨by unfold boxAtD; rw [if_pos h], by unfold boxAtB; rw [decide_eq_true h]; rfl⟩
theorem boxAt_yes {x : StoD} {v i : Int} (h : ¬ bxWith (atL x.log i) v < 0) : ∃ y, (atL x.log i)[whereB (atL x.log i) v]? = some y ∧ boxAtD x v i = y ∧ boxAtB x v i = true := by
  obtain ⟨y, hy, _⟩ := with_at h
  exact ⟨y, hy, by unfold boxAtD; rw [if_neg h, hy]; rfl, by unfold boxAtB; rw [decide_eq_false h]; rfl⟩
theorem boxAt_small (x : StoD) (v i : Int) : szLs (boxAtD x v i).lf ≤ 1048576 := by
  by_cases h : bxWith (atL x.log i) v < 0
  · rw [(boxAt_no h).1]; decide
  · obtain ⟨y, hy, hd, _⟩ := boxAt_yes h
    rw [hd]
    have h1 := szLs_mem BoxD.lf (List.mem_of_getElem? hy)
    have h2 : szLf (boxsLf (atL x.log i)) = (atL x.log i).length + szLs ((atL x.log i).flatMap BoxD.lf) := rfl
    have := (right_small (at_right x.log i)).1
    omega

set_option maxRecDepth 20000 in
set_option maxHeartbeats 3200000 in
theorem specBoxesAt_c : CtrBoxesAt 35 (fun _ => True) := by
  intro x r0 r1 i w hG hr0 _ hr1 hcap hs hbd hi
  obtain ⟨_, ⟨hs1, hbd1⟩, _⟩ := sto_small hs hbd
  obtain ⟨p0, c0, rfl⟩ := LfRd.slice hr0
  obtain ⟨p1, c1, rfl⟩ := LfRd.slice hr1
  have hc1 : x.log.length ≤ c1 := hcap _ _ _ rfl
  obtain ⟨k, hk, hkv, htk⟩ := cut_at x.log i
  have hrk := rd_take ComD.len hr1 hk
  obtain ⟨hsk, hbk⟩ := take_small k hs1 hbd1
  have hlen : (x.log.take k).length = k := by rw [List.length_take, Nat.min_eq_left hk]
  have hln : x.log.length ≤ 1048576 := by have h2 : szLf (commitsLf x.log) = x.log.length + szLs (x.log.flatMap ComD.lf) := rfl; omega
  have hAT : atL x.log i = (allL [] (x.log.take k)).1 := by unfold atL; rw [htk]
  have CA := Lib.hid (fun W (g : Below w.heap.size w W) => specAppliedAll_c [] (.slice none 0 0) (x.log.take k) (.slice p1 k c1) W trivial (boxs_nil W) cap_nil (by decide) ⟨by decide, trivial⟩ (LfRd.below g _ _ hrk) (fun p n c h => by injection h with _ h1 h2; omega) hsk hbk)
  have HAT := Lib.hid hAT
  have hb1 : Below w.heap.size w (w.alloc (.cells #[.slice p0 x.boxes.length c0, .slice p1 x.log.length c1, .int .i64 x.given] 46)) := (Below.refl _ _).alloc (Nat.le_refl _) _
  have n1 := heap_alloc_new w (.cells #[.slice p0 x.boxes.length c0, .slice p1 x.log.length c1, .int .i64 x.given] 46)
  have C1 := Lib.hid (fun W => l1Min_any i x.log.length W)
  have C2 := Lib.hid (fun W => l1Max_any 0 (minI i x.log.length) W)
  rw [hkv] at C2
  generalize minI i x.log.length = m1 at *
  go_enter Tryz.func35, Tryz.ntmps35
  go_wp2
  refine wp_named1 ?_
  intro X hX
  rw [← hX] at hb1 n1
  have n1 : X.drew.heap[w.heap.size]? = _ := n1
  have HB := Lib.hid (hb1.trans ((Below.refl X.heap.size X).drew.mono hb1.size))
  obtain ⟨⟨-, a1, -⟩, -⟩ := blk_3c n1
  have HN := Lib.hid n1
  clear hX hb1 n1 hr0 hr1 hcap hs hbd hi hs1 hbd1 hrk hsk hbk htk hkv hAT
  refine ord_start [(0, true), (1, true), (2, true), (3, true), (4, true), (5, true), (6, false), (7, false), (8, true), (9, false), (10, true), (11, true), (12, true), (13, true), (14, true)] (fun W => W.cell? ⟨w.heap.size, 1, none⟩ = some (.slice p1 x.log.length c1)) (by kernel_rfl) (by kernel_rfl) rfl (by kernel_rfl) ?_
  intro ops' hops
  clear hops
  simp only [List.map_cons, List.map_nil, pickOp_zero, pickOp_succ]
  iterate 6 (refine ord_flo ?_ (fun _ _ _ h => h) rfl ?_ a1 ?_; rotate_left; focus (intro W hS; obtain s1 := hS; go_simp; rfl))
  refine ord_ev rfl ?_
  go_simp
  refine (C1.out _).mono ?_
  rintro e w2 ⟨rfl, rfl⟩
  refine ⟨a1, ?_⟩
  refine ord_ev rfl ?_
  go_simp
  refine (C2.out _).mono ?_
  rintro e w3 ⟨rfl, rfl⟩
  refine ⟨a1, ?_⟩
  refine ord_flo (.slice p1 k c1) (fun _ _ _ h => h) rfl ?_ a1 ?_
  · intro W hS
    obtain s1 := hS
    go_simp <;> omega
  refine ord_ev rfl ?_
  go_simp
  refine (CA.out _ HB.out).mono ?_
  rintro e w4 ⟨z0, f0, rfl, hi0, hn0, hl0, hb4⟩
  obtain ⟨pz, cz, rfl⟩ := LfIn.slice hi0
  have HF := Lib.hid (show LfIn w4 (boxsLf (atL x.log i)) (.slice pz (allL [] (x.log.take k)).1.length cz) f0 ∧ f0.Nodup ∧ (∀ q ∈ f0, w.heap.size ≤ q) ∧ Below w.heap.size w w4 from ⟨by rw [HAT.out]; exact hi0, hn0, fun q hq => Nat.le_trans HB.out.size (hl0 q hq), HB.out.trans (hb4.mono HB.out.size)⟩)
  have a4 : w4.cell? ⟨w.heap.size, 1, none⟩ = some (.slice p1 x.log.length c1) := (blk_3c ((hb4.block w.heap.size (Array.getElem?_eq_some_iff.1 HN.out).1).trans HN.out)).1.2.1
  clear hi0 hn0 hl0 hb4 a1
  refine ⟨a4, ?_⟩
  have a1 := a4
  iterate 5 (refine ord_flo ?_ (fun _ _ _ h => h) rfl ?_ a1 ?_; rotate_left; focus (intro W hS; obtain s1 := hS; go_simp; rfl))
  refine ord_done ?_
  go_simp
  go_wp2
  go_ret
  exact ⟨_, f0, rfl, HF.out.1, HF.out.2.1, HF.out.2.2.1, HF.out.2.2.2⟩

set_option maxRecDepth 20000 in
set_option maxHeartbeats 3200000 in
theorem specBoxAt_c : CtrBoxAt 59 (fun _ => True) := by
  intro x r0 r1 v i w hG hr0 hcap0 hr1 hcap1 hs hbd hv hi
  have C1 := Lib.hid (fun W (g : Below w.heap.size w W) => specBoxesAt_c x r0 r1 i W trivial (LfRd.below g _ _ hr0) hcap0 (LfRd.below g _ _ hr1) hcap1 hs hbd hi)
  have C2 := Lib.hid (fun (W : World) (z : Value) (h : LfRd W (boxsLf (atL x.log i)) z) => specBoxWith_c (atL x.log i) z v W trivial h (right_small (at_right x.log i)).1 (right_small (at_right x.log i)).2 hv)
  obtain ⟨p0, c0, rfl⟩ := LfRd.slice hr0
  obtain ⟨p1, c1, rfl⟩ := LfRd.slice hr1
  have b1 : Below w.heap.size w (w.alloc (.cells #[.slice p0 x.boxes.length c0, .slice p1 x.log.length c1, .int .i64 x.given] 46)) := (Below.refl _ _).alloc (Nat.le_refl _) _
  have b2 : Below w.heap.size w ((w.alloc (.cells #[.slice p0 x.boxes.length c0, .slice p1 x.log.length c1, .int .i64 x.given] 46)).alloc (.cells #[.string ⟨#[]⟩, .int .i64 0, .int .i64 0, .slice none 0 0] 38)) := b1.alloc b1.size _
  have n2 := heap_alloc_new (w.alloc (.cells #[.slice p0 x.boxes.length c0, .slice p1 x.log.length c1, .int .i64 x.given] 46)) (.cells #[.string ⟨#[]⟩, .int .i64 0, .int .i64 0, .slice none 0 0] 38)
  rw [World.size_alloc] at n2
  have hz2 : ((w.alloc (.cells #[.slice p0 x.boxes.length c0, .slice p1 x.log.length c1, .int .i64 x.given] 46)).alloc (.cells #[.string ⟨#[]⟩, .int .i64 0, .int .i64 0, .slice none 0 0] 38)).heap.size = w.heap.size + 2 := by simp
  have HX := Lib.hid (And.intro b2 (And.intro n2 hz2))
  clear b1 b2 n2 hz2 hr0 hr1 hcap0 hcap1 hs hbd hi hv hG
  have hl5 : (atL x.log i).length ≤ 1048576 := by have := ((boxes_iff _).1 (at_right x.log i)).1; omega
  have HY := Lib.hid (fun (h : ¬ bxWith (atL x.log i) v < 0) => boxAt_yes (x := x) (v := v) (i := i) h)
  have HN := Lib.hid (fun (h : bxWith (atL x.log i) v < 0) => boxAt_no (x := x) (v := v) (i := i) h)
  have HWB := Lib.hid (fun (h : ¬ bxWith (atL x.log i) v < 0) => whereB_eq (l := atL x.log i) (v := v) h)
  go_enter Tryz.func59, Tryz.ntmps59
  go_wp2_with fail
  refine (C1.out _ HX.out.1).mono ?_
  rintro e w3 ⟨z0, f0, rfl, hi0, hn0, hl0, hb3⟩
  obtain ⟨pz, cz, rfl⟩ := LfIn.slice hi0
  have HT := Lib.hid (show Tree w3 (w.heap.size + 2) (boxsLf (atL x.log i)) (.slice pz (atL x.log i).length cz) f0 from ⟨hi0, hn0, fun q hq => by have := hl0 q hq; have := HX.out.2.2; omega⟩)
  have HB3 := Lib.hid (show Below w.heap.size w w3 ∧ w3.heap[w.heap.size + 1]? = some (.cells #[.string ⟨#[]⟩, .int .i64 0, .int .i64 0, .slice none 0 0] 38 (0, 0)) from ⟨HX.out.1.trans (hb3.mono HX.out.1.size), (hb3.block (w.heap.size + 1) (by have := HX.out.2.2; omega)).trans HX.out.2.1⟩)
  clear hi0 hn0 hl0 hb3 C1 HX
  go_wp2_with fail
  refine (C2.out _ _ HT.out.rd).mono ?_
  rintro e w4 ⟨rfl, hb4⟩
  have HT4 := Lib.hid (HT.out.below hb4)
  have HB4 := Lib.hid (show Below w.heap.size w w4 ∧ w4.heap[w.heap.size + 1]? = some (.cells #[.string ⟨#[]⟩, .int .i64 0, .int .i64 0, .slice none 0 0] 38 (0, 0)) from ⟨HB3.out.1.trans (hb4.mono HB3.out.1.size), (hb4.block (w.heap.size + 1) (Array.getElem?_eq_some_iff.1 HB3.out.2).1).trans HB3.out.2⟩)
  clear hb4 HT HB3 C2
  obtain ⟨⟨y0, y1, y2, y3⟩, ⟨u0, u1, u2, u3⟩, t0, t1, t2, t3⟩ := blk_4c HB4.out.2
  by_cases hw : bxWith (atL x.log i) v < 0
  case pos =>
    obtain ⟨hd, hbb⟩ := HN.out hw
    have HF := Lib.hid (show ∀ a b c d : Value, Below w.heap.size w ((((w4.setCell ⟨w.heap.size + 1, 0, none⟩ a).setCell ⟨w.heap.size + 1, 1, none⟩ b).setCell ⟨w.heap.size + 1, 2, none⟩ c).setCell ⟨w.heap.size + 1, 3, none⟩ d) from fun a b c d => (((HB4.out.1.setCell (by simp) _).setCell (by simp) _).setCell (by simp) _).setCell (by simp) _)
    have HD := Lib.hid (And.intro hd hbb)
    clear hd hbb HT4 HB4
    generalize bxWith (atL x.log i) v = R at *
    go_wp2_with fail
    exact bodyPost_ret (v := .tuple #[.agg #[sv [], .int .i64 0, .int .i64 0, .slice none 0 0], .bool false]) (by simp [results, Tryz.results59, go_sem, t0, t1, t2, t3]) rfl ⟨.slice none 0 0, [], by rw [HD.out.1, HD.out.2]; rfl, by rw [HD.out.1]; exact msgs_in.2 ⟨World.ownsRow_nil _ _ _ _, rfl⟩, List.nodup_nil, (fun _ h => by cases h), HF.out _ _ _ _⟩
  obtain ⟨y, hy, hd, hbb⟩ := HY.out (by omega)
  have hwk := HWB.out (by omega)
  obtain ⟨k, hk⟩ : ∃ k, whereB (atL x.log i) v = k := ⟨_, rfl⟩
  rw [hk] at hy hwk
  have hkl : k < (atL x.log i).length := (List.getElem?_eq_some_iff.1 hy).1
  obtain ⟨b, q, d, f, rfl, e0, e1, e2, e3, hin, hnf, hlf⟩ := box_of HT4.out hy
  have HF := Lib.hid (show ∀ a1 a2 a3 a4 : Value, LfIn ((((w4.setCell ⟨w.heap.size + 1, 0, none⟩ a1).setCell ⟨w.heap.size + 1, 1, none⟩ a2).setCell ⟨w.heap.size + 1, 2, none⟩ a3).setCell ⟨w.heap.size + 1, 3, none⟩ a4) (msgsLf y.msgs) (.slice q y.msgs.length d) f ∧ Below w.heap.size w ((((w4.setCell ⟨w.heap.size + 1, 0, none⟩ a1).setCell ⟨w.heap.size + 1, 1, none⟩ a2).setCell ⟨w.heap.size + 1, 2, none⟩ a3).setCell ⟨w.heap.size + 1, 3, none⟩ a4) from fun a1 a2 a3 a4 =>
    ⟨LfIn.set (LfIn.set (LfIn.set (LfIn.set hin (fun hm => by have := hlf _ hm; omega)) (fun hm => by have := hlf _ hm; omega)) (fun hm => by have := hlf _ hm; omega)) (fun hm => by have := hlf _ hm; omega), (((HB4.out.1.setCell (by simp) _).setCell (by simp) _).setCell (by simp) _).setCell (by simp) _⟩)
  have HD := Lib.hid (And.intro hd (And.intro hbb (And.intro hnf hlf)))
  rw [hwk]
  have hkn : ¬ (k : Int) < 0 := by omega
  clear hd hbb hin hnf hlf HT4 HB4 hw hwk hy hk HY HN HWB
  generalize (atL x.log i).length = L at *
  go_wp2_with fail
  exact bodyPost_ret (v := .tuple #[.agg #[sv y.name, .int .i64 y.validity, .int .i64 y.next, .slice q y.msgs.length d], .bool true]) (by simp [results, Tryz.results59, go_sem, t0, t1, t2, t3]) rfl ⟨.slice q y.msgs.length d, f, by rw [HD.out.1, HD.out.2.1], by rw [HD.out.1]; exact (HF.out _ _ _ _).1, HD.out.2.2.1, fun q hq => by have := HD.out.2.2.2 q hq; omega, (HF.out _ _ _ _).2⟩

end Go.Proofs.YtbfgdbpfecffcaaGreatDoor
