/-
  Uo: LawCommitsOf (what the claim needs of them).
-/
import Derived.Deep.DeepCutAuto
import Derived.Handy
import Derived.Test.YtbfgdbpfecffcaaRows
import Derived.WalkKit
import Derived.WalkSpells
import Derived.WalkLawsBesides
import Derived.Laws.IdiomStrings
import Derived.Lib.Hide
import Derived.Deep.AppendLies
import Derived.OrdersHeld
import Derived.Lib.ItoaNum
import Derived.Lib.ItoaMem
import Derived.Lib.AppendStr
import Derived.Lib.ItoaLen
import Derived.Lib.Strings
import Derived.Lib.Bytealg
import Derived.Lib.OthersKept
import Derived.Laws.RangeAny
import Derived.Laws.BitsAllLaws
import Derived.Laws.BitsLemmas
import Derived.IntWalk
import Derived.Lib.Join
import Derived.Deep.Strs
import Derived.Test.YtbfgdbpfecffcaaProg
import Derived.Laws.Tables
import Derived.Test.YtbfgdbpfecffcaaUa
import Derived.Test.YtbfgdbpfecffcaaUb
import Derived.Test.YtbfgdbpfecffcaaUc
import Derived.Test.YtbfgdbpfecffcaaUd
import Derived.Test.YtbfgdbpfecffcaaUe
import Derived.Test.YtbfgdbpfecffcaaUk
import Derived.Test.YtbfgdbpfecffcaaUm
import Derived.Test.YtbfgdbpfecffcaaUn

namespace Go.Proofs.Ytbfgdbpfecffcaa
open Go.RowKit

def CtrCommitsOf (f : FuncId) (G : World → Prop) : Prop := ∀ (x_S : StoD) (r_S_0 : Value) (r_S_1 : Value) (n_Validity : Int) (n_From : Int) (W : World), G W → LfRd W (boxsLf x_S.boxes) r_S_0 → CapLe r_S_0 → LfRd W (commitsLf x_S.log) r_S_1 → CapLe r_S_1 → szLs x_S.lf ≤ 1048576 → LsBnd x_S.lf → in64 n_Validity → in64 n_From → 
  Calls Try.prog f #[.agg #[r_S_0, r_S_1, .int .i64 x_S.given], .int .i64 n_Validity, .int .i64 n_From] W fun e w' => ∃ z0 f0, e = .returned (z0) ∧ LfIn w' (intsLf (ofL x_S n_Validity n_From)) z0 f0 ∧ f0.Nodup ∧ (∀ q ∈ f0, W.heap.size ≤ q) ∧ Below W.heap.size W w'

set_option maxRecDepth 20000 in
set_option maxHeartbeats 12800000 in
theorem FnExactCommitsOf_of {G : World → Prop} (hK : Keeps G) (SP : CtrCommitsOf 6 (fun _ => True)) (IM : CtrCommitsOf 8 G) (x_S : StoD) (r_S_0 : Value) (r_S_1 : Value) (n_Validity : Int) (n_From : Int) (w : World) (hG : G w) (h_r_S_0 : LfRd w (boxsLf x_S.boxes) r_S_0) (h_r_S_1 : LfRd w (commitsLf x_S.log) r_S_1) (hb_S : LsBnd x_S.lf) (hb_Validity : in64 n_Validity) (hb_From : in64 n_From) (hr_0 : szLs x_S.lf ≤ 1048576 → szLf (intsLf (ofL x_S n_Validity n_From)) ≤ 1000000000) :
    Calls Try.prog 3 #[.agg #[r_S_0, r_S_1, .int .i64 x_S.given], .int .i64 n_Validity, .int .i64 n_From] w fun e w' => e = .returned (.bool true) ∧ Below w.heap.size w w' := by
  have H_r_S_0 := Lib.hid h_r_S_0
  have H_r_S_1 := Lib.hid h_r_S_1
  obtain ⟨p_S_0, c_S_0, rfl⟩ := LfRd.slice h_r_S_0
  obtain ⟨p_S_1, c_S_1, rfl⟩ := LfRd.slice h_r_S_1
  clear h_r_S_0
  clear h_r_S_1
  by_cases k0 : szLs x_S.lf ≤ 1048576
  case neg =>
    have q0 := fun (ll : Int) (W : World) (hl : ll = ((1048576 : Nat) : Int)) (g0 : LfRd W (boxsLf x_S.boxes) (.slice p_S_0 x_S.boxes.length c_S_0)) (g1 : LfRd W (commitsLf x_S.log) (.slice p_S_1 x_S.log.length c_S_1)) => szStore_g x_S (.slice p_S_0 x_S.boxes.length c_S_0) (.slice p_S_1 x_S.log.length c_S_1) ll 1048576 hl W g0 g1 hb_S (by omega)
    simp only [show szN 1048576 (szLs x_S.lf) = -1 from szN_no k0] at q0
    have C_sz0 := Lib.hid q0
    clear q0 SP IM hr_0
    have hb : Below w.heap.size w (w.alloc (.cells #[(.slice p_S_0 x_S.boxes.length c_S_0), (.slice p_S_1 x_S.log.length c_S_1), .int .i64 x_S.given] 25)) := ((Below.refl _ _).alloc (Nat.le_refl _) _)
    have HB1 := Lib.hid (show (w.alloc (.cells #[(.slice p_S_0 x_S.boxes.length c_S_0), (.slice p_S_1 x_S.log.length c_S_1), .int .i64 x_S.given] 25)).heap[w.heap.size]? = some (.cells #[(.slice p_S_0 x_S.boxes.length c_S_0), (.slice p_S_1 x_S.log.length c_S_1), .int .i64 x_S.given] 25 (0, 0)) from by
      have h := heap_alloc_new w (.cells #[(.slice p_S_0 x_S.boxes.length c_S_0), (.slice p_S_1 x_S.log.length c_S_1), .int .i64 x_S.given] 25)
      exact h)
    have hz0 : w.heap.size + 1 ≤ (w.alloc (.cells #[(.slice p_S_0 x_S.boxes.length c_S_0), (.slice p_S_1 x_S.log.length c_S_1), .int .i64 x_S.given] 25)).heap.size := by simp
    generalize hW0 : (w.alloc (.cells #[(.slice p_S_0 x_S.boxes.length c_S_0), (.slice p_S_1 x_S.log.length c_S_1), .int .i64 x_S.given] 25)) = W0 at *
    go_enter Try.func3, Try.ntmps3
    have hbz := Lib.hid hb.size
    have y2 := (Lib.cell_of_heap HB1.out 0).trans (show _ = some ((.slice p_S_0 x_S.boxes.length c_S_0)) from rfl)
    have y3 := (Lib.cell_of_heap HB1.out 1).trans (show _ = some ((.slice p_S_1 x_S.log.length c_S_1)) from rfl)
    have y4 := (Lib.cell_of_heap HB1.out 2).trans (show _ = some (.int .i64 x_S.given) from rfl)
    go_wp2_with fail
    refine (C_sz0.out _ _ (by first | rfl | omega) (LfRd.below hb _ _ H_r_S_0.out) (LfRd.below hb _ _ H_r_S_1.out)).mono ?_
    rintro e w5 ⟨rfl, b6⟩
    clear y2 y3 y4
    have F7 := Lib.hid ((b6.block (w.heap.size) (Array.getElem?_eq_some_iff.1 HB1.out).1).trans HB1.out)
    clear HB1
    have hz8 : W0.heap.size ≤ w5.heap.size := b6.size
    replace hb := hb.trans (b6.mono hb.size)
    clear b6
    go_wp2
    go_ret
    exact ⟨rfl, hb⟩
  obtain ⟨L1, hL1⟩ : ∃ L, L + szLs x_S.lf = 1048576 := ⟨1048576 - szLs x_S.lf, by omega⟩
  have bL1 : L1 ≤ 1048576 := by omega
  have nL1 : ¬ (L1 : Int) < 0 := by omega
  have q0 := fun (ll : Int) (W : World) (hl : ll = ((1048576 : Nat) : Int)) (g0 : LfRd W (boxsLf x_S.boxes) (.slice p_S_0 x_S.boxes.length c_S_0)) (g1 : LfRd W (commitsLf x_S.log) (.slice p_S_1 x_S.log.length c_S_1)) => szStore_g x_S (.slice p_S_0 x_S.boxes.length c_S_0) (.slice p_S_1 x_S.log.length c_S_1) ll 1048576 hl W g0 g1 hb_S (by omega)
  simp only [show szN 1048576 (szLs x_S.lf) = (L1 : Int) from by rw [szN_yes k0]; omega] at q0
  have C_sz0 := Lib.hid q0
  clear q0
  have HL1 := Lib.hid hL1
  have hsz_0 : szLs x_S.lf ≤ 1048576 := by omega
  clear hL1
  have hsm_S : szLs x_S.lf ≤ 1048576 := by omega
  have SZ_S := Lib.hid hsm_S
  have CN_S := Lib.hid (show 1 + cntLf (boxsLf x_S.boxes) + cntLf (commitsLf x_S.log) ≤ 1000000000 from by have hs := StoD.sz x_S; have h0 := cntRow_le (boxsLf_fit x_S.boxes); have h1 := cntRow_le (commitsLf_fit x_S.log); simp only [boxsLf, commitsLf] at hs ⊢; omega)
  have C_to_S := Lib.hid (fun (W : World) (g0 : LfRd W (boxsLf x_S.boxes) (.slice p_S_0 x_S.boxes.length c_S_0)) (g1 : LfRd W (commitsLf x_S.log) (.slice p_S_1 x_S.log.length c_S_1)) => toStore_g x_S (.slice p_S_0 x_S.boxes.length c_S_0) (.slice p_S_1 x_S.log.length c_S_1) W g0 g1 (by omega))
  have C_spec := Lib.hid (fun (u_S_0 : Value) (u_S_1 : Value) (W : World) (k_S_0 : LfRd W (boxsLf x_S.boxes) u_S_0) (kc_S_0 : CapLe u_S_0) (k_S_1 : LfRd W (commitsLf x_S.log) u_S_1) (kc_S_1 : CapLe u_S_1) => SP x_S u_S_0 u_S_1 n_Validity n_From W trivial k_S_0 kc_S_0 k_S_1 kc_S_1 hsm_S hb_S hb_Validity hb_From)
  have C_impl := Lib.hid (fun (u_S_0 : Value) (u_S_1 : Value) (W : World) (hg : G W) (k_S_0 : LfRd W (boxsLf x_S.boxes) u_S_0) (kc_S_0 : CapLe u_S_0) (k_S_1 : LfRd W (commitsLf x_S.log) u_S_1) (kc_S_1 : CapLe u_S_1) => IM x_S u_S_0 u_S_1 n_Validity n_From W hg k_S_0 kc_S_0 k_S_1 kc_S_1 hsm_S hb_S hb_Validity hb_From)
  have hq_0 := hr_0 hsm_S
  have SZ_r0 := Lib.hid hq_0
  have CN_r0 := Lib.hid (show 1 + cntLf (intsLf (ofL x_S n_Validity n_From)) ≤ 100000000000 from by have h := cntRow_le (intsLf_fit (ofL x_S n_Validity n_From)); simp only [intsLf] at h hq_0 ⊢; omega)
  clear hq_0
  clear SP IM hr_0 hb_S hsm_S
  have hb : Below w.heap.size w (w.alloc (.cells #[(.slice p_S_0 x_S.boxes.length c_S_0), (.slice p_S_1 x_S.log.length c_S_1), .int .i64 x_S.given] 25)) := ((Below.refl _ _).alloc (Nat.le_refl _) _)
  have HB1 := Lib.hid (show (w.alloc (.cells #[(.slice p_S_0 x_S.boxes.length c_S_0), (.slice p_S_1 x_S.log.length c_S_1), .int .i64 x_S.given] 25)).heap[w.heap.size]? = some (.cells #[(.slice p_S_0 x_S.boxes.length c_S_0), (.slice p_S_1 x_S.log.length c_S_1), .int .i64 x_S.given] 25 (0, 0)) from by
    have h := heap_alloc_new w (.cells #[(.slice p_S_0 x_S.boxes.length c_S_0), (.slice p_S_1 x_S.log.length c_S_1), .int .i64 x_S.given] 25)
    exact h)
  have hz0 : w.heap.size + 1 ≤ (w.alloc (.cells #[(.slice p_S_0 x_S.boxes.length c_S_0), (.slice p_S_1 x_S.log.length c_S_1), .int .i64 x_S.given] 25)).heap.size := by simp
  generalize hW0 : (w.alloc (.cells #[(.slice p_S_0 x_S.boxes.length c_S_0), (.slice p_S_1 x_S.log.length c_S_1), .int .i64 x_S.given] 25)) = W0 at *
  go_enter Try.func3, Try.ntmps3
  have hbz := Lib.hid hb.size
  have y2 := (Lib.cell_of_heap HB1.out 0).trans (show _ = some ((.slice p_S_0 x_S.boxes.length c_S_0)) from rfl)
  have y3 := (Lib.cell_of_heap HB1.out 1).trans (show _ = some ((.slice p_S_1 x_S.log.length c_S_1)) from rfl)
  have y4 := (Lib.cell_of_heap HB1.out 2).trans (show _ = some (.int .i64 x_S.given) from rfl)
  go_wp2_with fail
  refine (C_sz0.out _ _ (by first | rfl | omega) (LfRd.below hb _ _ H_r_S_0.out) (LfRd.below hb _ _ H_r_S_1.out)).mono ?_
  rintro e w5 ⟨rfl, b6⟩
  clear y2 y3 y4
  have F7 := Lib.hid ((b6.block (w.heap.size) (Array.getElem?_eq_some_iff.1 HB1.out).1).trans HB1.out)
  clear HB1
  have hz8 : W0.heap.size ≤ w5.heap.size := b6.size
  replace hb := hb.trans (b6.mono hb.size)
  clear b6
  have y9 := (Lib.cell_of_heap F7.out 0).trans (show _ = some ((.slice p_S_0 x_S.boxes.length c_S_0)) from rfl)
  have y10 := (Lib.cell_of_heap F7.out 1).trans (show _ = some ((.slice p_S_1 x_S.log.length c_S_1)) from rfl)
  have y11 := (Lib.cell_of_heap F7.out 2).trans (show _ = some (.int .i64 x_S.given) from rfl)
  go_wp2_with fail
  refine (C_to_S.out _ (LfRd.below hb _ _ H_r_S_0.out) (LfRd.below hb _ _ H_r_S_1.out)).mono ?_
  rintro e w12 ⟨z15, f17, z16, f18, rfl, i19, i20, nd21, lo22, b13⟩
  clear y9 y10 y11
  have F23 := Lib.hid ((b13.block (w.heap.size) (Array.getElem?_eq_some_iff.1 F7.out).1).trans F7.out)
  clear F7
  have hz24 : w5.heap.size ≤ w12.heap.size := b13.size
  replace hb := hb.trans (b13.mono hb.size)
  have LO25 := Lib.hid (show ∀ q ∈ f17 ++ f18, w5.heap.size ≤ q from lo22)
  have HI26 := Lib.hid (show ∀ q ∈ f17 ++ f18, q < w12.heap.size from fun q hq => by simp only [List.mem_append] at hq; rcases hq with hq | hq <;> first | exact LfIn.lt _ _ _ i19 q hq | exact LfIn.lt _ _ _ i20 q hq)
  have ND27 := Lib.hid nd21
  have F28 := Lib.hid i19
  have LO29 := Lib.hid (show ∀ q ∈ f17, w5.heap.size ≤ q from fun q hq => LO25.out q (by simp [hq]))
  have HI30 := Lib.hid (show ∀ q ∈ f17, q < w12.heap.size from fun q hq => HI26.out q (by simp [hq]))
  obtain ⟨pz15, cz15, rfl⟩ := LfIn.slice i19
  have F31 := Lib.hid i20
  have LO32 := Lib.hid (show ∀ q ∈ f18, w5.heap.size ≤ q from fun q hq => LO25.out q (by simp [hq]))
  have HI33 := Lib.hid (show ∀ q ∈ f18, q < w12.heap.size from fun q hq => HI26.out q (by simp [hq]))
  obtain ⟨pz16, cz16, rfl⟩ := LfIn.slice i20
  clear i19
  clear i20
  clear nd21 lo22
  clear b13
  go_wp2_with fail
  refine (C_spec.out _ _ _ (LfIn.rd _ _ _ F28.out) (CapLe.of_in F28.out) (LfIn.rd _ _ _ F31.out) (CapLe.of_in F31.out)).mono ?_
  rintro e w34 ⟨z36, f37, rfl, i38, nd39, lo40, b35⟩
  have F41 := Lib.hid ((b35.block (w.heap.size) (Array.getElem?_eq_some_iff.1 F23.out).1).trans F23.out)
  clear F23
  have F42 := Lib.hid (LfIn.below F28.out b35)
  clear F28
  have F43 := Lib.hid (LfIn.below F31.out b35)
  clear F31
  have hz44 : w12.heap.size ≤ w34.heap.size := b35.size
  replace hb := hb.trans (b35.mono hb.size)
  have LO45 := Lib.hid (show ∀ q ∈ f37, w12.heap.size ≤ q from lo40)
  have HI46 := Lib.hid (show ∀ q ∈ f37, q < w34.heap.size from fun q hq => LfIn.lt _ _ _ i38 q hq)
  have ND47 := Lib.hid nd39
  have F48 := Lib.hid i38
  obtain ⟨pz36, cz36, rfl⟩ := LfIn.slice i38
  clear i38
  clear nd39 lo40
  clear b35
  have y49 := (Lib.cell_of_heap F41.out 0).trans (show _ = some ((.slice p_S_0 x_S.boxes.length c_S_0)) from rfl)
  have y50 := (Lib.cell_of_heap F41.out 1).trans (show _ = some ((.slice p_S_1 x_S.log.length c_S_1)) from rfl)
  have y51 := (Lib.cell_of_heap F41.out 2).trans (show _ = some (.int .i64 x_S.given) from rfl)
  go_wp2_with fail
  refine (C_to_S.out _ (LfRd.below hb _ _ H_r_S_0.out) (LfRd.below hb _ _ H_r_S_1.out)).mono ?_
  rintro e w52 ⟨z55, f57, z56, f58, rfl, i59, i60, nd61, lo62, b53⟩
  clear y49 y50 y51
  have F63 := Lib.hid ((b53.block (w.heap.size) (Array.getElem?_eq_some_iff.1 F41.out).1).trans F41.out)
  clear F41
  have F64 := Lib.hid (LfIn.below F42.out b53)
  clear F42
  have F65 := Lib.hid (LfIn.below F43.out b53)
  clear F43
  have F66 := Lib.hid (LfIn.below F48.out b53)
  clear F48
  have hz67 : w34.heap.size ≤ w52.heap.size := b53.size
  replace hb := hb.trans (b53.mono hb.size)
  have LO68 := Lib.hid (show ∀ q ∈ f57 ++ f58, w34.heap.size ≤ q from lo62)
  have HI69 := Lib.hid (show ∀ q ∈ f57 ++ f58, q < w52.heap.size from fun q hq => by simp only [List.mem_append] at hq; rcases hq with hq | hq <;> first | exact LfIn.lt _ _ _ i59 q hq | exact LfIn.lt _ _ _ i60 q hq)
  have ND70 := Lib.hid nd61
  have F71 := Lib.hid i59
  have LO72 := Lib.hid (show ∀ q ∈ f57, w34.heap.size ≤ q from fun q hq => LO68.out q (by simp [hq]))
  have HI73 := Lib.hid (show ∀ q ∈ f57, q < w52.heap.size from fun q hq => HI69.out q (by simp [hq]))
  obtain ⟨pz55, cz55, rfl⟩ := LfIn.slice i59
  have F74 := Lib.hid i60
  have LO75 := Lib.hid (show ∀ q ∈ f58, w34.heap.size ≤ q from fun q hq => LO68.out q (by simp [hq]))
  have HI76 := Lib.hid (show ∀ q ∈ f58, q < w52.heap.size from fun q hq => HI69.out q (by simp [hq]))
  obtain ⟨pz56, cz56, rfl⟩ := LfIn.slice i60
  clear i59
  clear i60
  clear nd61 lo62
  clear b53
  have b78 : Below w52.heap.size w52 (w52.alloc (.cells #[(.slice pz55 x_S.boxes.length cz55), (.slice pz56 x_S.log.length cz56), .int .i64 x_S.given] 32)) := (Below.refl _ _).alloc (Nat.le_refl _) _
  have F79 := Lib.hid (heap_alloc_new w52 (.cells #[(.slice pz55 x_S.boxes.length cz55), (.slice pz56 x_S.log.length cz56), .int .i64 x_S.given] 32))
  have hz80 : w52.heap.size < (w52.alloc (.cells #[(.slice pz55 x_S.boxes.length cz55), (.slice pz56 x_S.log.length cz56), .int .i64 x_S.given] 32)).heap.size := by simp
  generalize hX77 : w52.alloc (.cells #[(.slice pz55 x_S.boxes.length cz55), (.slice pz56 x_S.log.length cz56), .int .i64 x_S.given] 32) = X77 at *
  have F81 := Lib.hid ((b78.block (w.heap.size) (Array.getElem?_eq_some_iff.1 F63.out).1).trans F63.out)
  clear F63
  have F82 := Lib.hid (LfIn.below F64.out b78)
  clear F64
  have F83 := Lib.hid (LfIn.below F65.out b78)
  clear F65
  have F84 := Lib.hid (LfIn.below F66.out b78)
  clear F66
  have F85 := Lib.hid (LfIn.below F71.out b78)
  clear F71
  have F86 := Lib.hid (LfIn.below F74.out b78)
  clear F74
  have hz87 : w52.heap.size ≤ X77.heap.size := b78.size
  replace hb := hb.trans (b78.mono hb.size)
  clear b78
  have y88 := (Lib.cell_of_heap F79.out 0).trans (show _ = some ((.slice pz55 x_S.boxes.length cz55)) from rfl)
  have y89 := (Lib.cell_of_heap F79.out 1).trans (show _ = some ((.slice pz56 x_S.log.length cz56)) from rfl)
  have y90 := (Lib.cell_of_heap F79.out 2).trans (show _ = some (.int .i64 x_S.given) from rfl)
  go_wp2_with fail
  refine (C_impl.out _ _ _ (hK _ _ hG hb) (LfIn.rd _ _ _ F85.out) (CapLe.of_in F85.out) (LfIn.rd _ _ _ F86.out) (CapLe.of_in F86.out)).mono ?_
  rintro e w91 ⟨z93, f94, rfl, i95, nd96, lo97, b92⟩
  clear y88 y89 y90
  have F98 := Lib.hid ((b92.block (w.heap.size) (Array.getElem?_eq_some_iff.1 F81.out).1).trans F81.out)
  clear F81
  have F99 := Lib.hid (LfIn.below F82.out b92)
  clear F82
  have F100 := Lib.hid (LfIn.below F83.out b92)
  clear F83
  have F101 := Lib.hid (LfIn.below F84.out b92)
  clear F84
  have F102 := Lib.hid (LfIn.below F85.out b92)
  clear F85
  have F103 := Lib.hid (LfIn.below F86.out b92)
  clear F86
  have F104 := Lib.hid ((b92.block (w52.heap.size) (Array.getElem?_eq_some_iff.1 F79.out).1).trans F79.out)
  clear F79
  have hz105 : X77.heap.size ≤ w91.heap.size := b92.size
  replace hb := hb.trans (b92.mono hb.size)
  have LO106 := Lib.hid (show ∀ q ∈ f94, X77.heap.size ≤ q from lo97)
  have HI107 := Lib.hid (show ∀ q ∈ f94, q < w91.heap.size from fun q hq => LfIn.lt _ _ _ i95 q hq)
  have ND108 := Lib.hid nd96
  have F109 := Lib.hid i95
  obtain ⟨pz93, cz93, rfl⟩ := LfIn.slice i95
  clear i95
  clear nd96 lo97
  clear b92
  go_wp2_with fail
  refine (eqIntS_g _ _ (ofL x_S n_Validity n_From) _ (LfIn.rd _ _ _ F109.out) (LfIn.rd _ _ _ F101.out) (by have := SZ_r0.out; omega)).mono ?_
  rintro e w110 ⟨rfl, b111⟩
  have F112 := Lib.hid ((b111.block (w.heap.size) (Array.getElem?_eq_some_iff.1 F98.out).1).trans F98.out)
  clear F98
  have F113 := Lib.hid (LfIn.below F99.out b111)
  clear F99
  have F114 := Lib.hid (LfIn.below F100.out b111)
  clear F100
  have F115 := Lib.hid (LfIn.below F101.out b111)
  clear F101
  have F116 := Lib.hid (LfIn.below F102.out b111)
  clear F102
  have F117 := Lib.hid (LfIn.below F103.out b111)
  clear F103
  have F118 := Lib.hid ((b111.block (w52.heap.size) (Array.getElem?_eq_some_iff.1 F104.out).1).trans F104.out)
  clear F104
  have F119 := Lib.hid (LfIn.below F109.out b111)
  clear F109
  have hz120 : w91.heap.size ≤ w110.heap.size := b111.size
  replace hb := hb.trans (b111.mono hb.size)
  clear b111
  go_wp2
  refine ord_start [(0, true), (1, true), (2, false), (3, false), (4, true)] (fun W => W.heap[w52.heap.size]? = some (.cells #[(.slice pz55 x_S.boxes.length cz55), (.slice pz56 x_S.log.length cz56), .int .i64 x_S.given] 32 (0, 0)) ∧ W.heap[w.heap.size]? = some (.cells #[(.slice p_S_0 x_S.boxes.length c_S_0), (.slice p_S_1 x_S.log.length c_S_1), .int .i64 x_S.given] 25 (0, 0))) (by kernel_rfl) (by kernel_rfl) rfl (by kernel_rfl) ?_
  intro ops' hops
  clear hops
  simp only [List.map_cons, List.map_nil, pickOp_zero, pickOp_succ]
  have b122 : Below w110.heap.size w110 w110.drew := (Below.refl _ _).drew
  have hz123 : w110.drew.heap.size = w110.heap.size := rfl
  generalize w110.drew = D121 at *
  have F124 := Lib.hid ((b122.block (w.heap.size) (Array.getElem?_eq_some_iff.1 F112.out).1).trans F112.out)
  clear F112
  have F125 := Lib.hid (LfIn.below F113.out b122)
  clear F113
  have F126 := Lib.hid (LfIn.below F114.out b122)
  clear F114
  have F127 := Lib.hid (LfIn.below F115.out b122)
  clear F115
  have F128 := Lib.hid (LfIn.below F116.out b122)
  clear F116
  have F129 := Lib.hid (LfIn.below F117.out b122)
  clear F117
  have F130 := Lib.hid ((b122.block (w52.heap.size) (Array.getElem?_eq_some_iff.1 F118.out).1).trans F118.out)
  clear F118
  have F131 := Lib.hid (LfIn.below F119.out b122)
  clear F119
  have hz132 : w110.heap.size ≤ D121.heap.size := b122.size
  replace hb := hb.trans (b122.mono hb.size)
  clear b122
  refine ord_flo (.agg #[(.slice pz55 x_S.boxes.length cz55), (.slice pz56 x_S.log.length cz56), .int .i64 x_S.given]) (fun _ _ _ h => h) rfl ?_ ⟨F130.out, F124.out⟩ ?_
  · intro W hS
    have y0 := (Lib.cell_of_heap hS.1 0).trans (show _ = some ((.slice pz55 x_S.boxes.length cz55)) from rfl)
    have y1 := (Lib.cell_of_heap hS.1 1).trans (show _ = some ((.slice pz56 x_S.log.length cz56)) from rfl)
    have y2 := (Lib.cell_of_heap hS.1 2).trans (show _ = some (.int .i64 x_S.given) from rfl)
    clear hS
    go_simp
  refine ord_flo (.agg #[(.slice p_S_0 x_S.boxes.length c_S_0), (.slice p_S_1 x_S.log.length c_S_1), .int .i64 x_S.given]) (fun _ _ _ h => h) rfl ?_ ⟨F130.out, F124.out⟩ ?_
  · intro W hS
    have y0 := (Lib.cell_of_heap hS.2 0).trans (show _ = some ((.slice p_S_0 x_S.boxes.length c_S_0)) from rfl)
    have y1 := (Lib.cell_of_heap hS.2 1).trans (show _ = some ((.slice p_S_1 x_S.log.length c_S_1)) from rfl)
    have y2 := (Lib.cell_of_heap hS.2 2).trans (show _ = some (.int .i64 x_S.given) from rfl)
    clear hS
    go_simp
  refine ord_ev rfl ?_
  go_simp
  refine (C_to_S.out _ (LfRd.below hb _ _ H_r_S_0.out) (LfRd.below hb _ _ H_r_S_1.out)).mono ?_
  rintro e w133 ⟨z136, f138, z137, f139, rfl, i140, i141, nd142, lo143, b134⟩
  have F144 := Lib.hid ((b134.block (w.heap.size) (Array.getElem?_eq_some_iff.1 F124.out).1).trans F124.out)
  clear F124
  have F145 := Lib.hid (LfIn.below F125.out b134)
  clear F125
  have F146 := Lib.hid (LfIn.below F126.out b134)
  clear F126
  have F147 := Lib.hid (LfIn.below F127.out b134)
  clear F127
  have F148 := Lib.hid (LfIn.below F128.out b134)
  clear F128
  have F149 := Lib.hid (LfIn.below F129.out b134)
  clear F129
  have F150 := Lib.hid ((b134.block (w52.heap.size) (Array.getElem?_eq_some_iff.1 F130.out).1).trans F130.out)
  clear F130
  have F151 := Lib.hid (LfIn.below F131.out b134)
  clear F131
  have hz152 : D121.heap.size ≤ w133.heap.size := b134.size
  replace hb := hb.trans (b134.mono hb.size)
  have LO153 := Lib.hid (show ∀ q ∈ f138 ++ f139, D121.heap.size ≤ q from lo143)
  have HI154 := Lib.hid (show ∀ q ∈ f138 ++ f139, q < w133.heap.size from fun q hq => by simp only [List.mem_append] at hq; rcases hq with hq | hq <;> first | exact LfIn.lt _ _ _ i140 q hq | exact LfIn.lt _ _ _ i141 q hq)
  have ND155 := Lib.hid nd142
  have F156 := Lib.hid i140
  have LO157 := Lib.hid (show ∀ q ∈ f138, D121.heap.size ≤ q from fun q hq => LO153.out q (by simp [hq]))
  have HI158 := Lib.hid (show ∀ q ∈ f138, q < w133.heap.size from fun q hq => HI154.out q (by simp [hq]))
  obtain ⟨pz136, cz136, rfl⟩ := LfIn.slice i140
  have F159 := Lib.hid i141
  have LO160 := Lib.hid (show ∀ q ∈ f139, D121.heap.size ≤ q from fun q hq => LO153.out q (by simp [hq]))
  have HI161 := Lib.hid (show ∀ q ∈ f139, q < w133.heap.size from fun q hq => HI154.out q (by simp [hq]))
  obtain ⟨pz137, cz137, rfl⟩ := LfIn.slice i141
  clear i140
  clear i141
  clear nd142 lo143
  clear b134
  refine ⟨⟨F150.out, F144.out⟩, ?_⟩
  refine ord_ev rfl ?_
  go_simp
  refine (eqStore_g x_S _ _ _ _ _ (LfIn.rd _ _ _ F148.out) (LfIn.rd _ _ _ F156.out) (LfIn.rd _ _ _ F149.out) (LfIn.rd _ _ _ F159.out) (by have := SZ_S.out; omega)).mono ?_
  rintro e w162 ⟨rfl, b163⟩
  have F164 := Lib.hid ((b163.block (w.heap.size) (Array.getElem?_eq_some_iff.1 F144.out).1).trans F144.out)
  clear F144
  have F165 := Lib.hid (LfIn.below F145.out b163)
  clear F145
  have F166 := Lib.hid (LfIn.below F146.out b163)
  clear F146
  have F167 := Lib.hid (LfIn.below F147.out b163)
  clear F147
  have F168 := Lib.hid (LfIn.below F148.out b163)
  clear F148
  have F169 := Lib.hid (LfIn.below F149.out b163)
  clear F149
  have F170 := Lib.hid ((b163.block (w52.heap.size) (Array.getElem?_eq_some_iff.1 F150.out).1).trans F150.out)
  clear F150
  have F171 := Lib.hid (LfIn.below F151.out b163)
  clear F151
  have F172 := Lib.hid (LfIn.below F156.out b163)
  clear F156
  have F173 := Lib.hid (LfIn.below F159.out b163)
  clear F159
  have hz174 : w133.heap.size ≤ w162.heap.size := b163.size
  replace hb := hb.trans (b163.mono hb.size)
  clear b163
  refine ⟨⟨F170.out, F164.out⟩, ?_⟩
  iterate 1 (refine ord_flo ?_ (fun _ _ _ h => h) rfl ?_ ⟨F170.out, F164.out⟩ ?_; rotate_left; focus (intro W hS; obtain ⟨s0, s1⟩ := hS; go_simp; rfl))
  refine ord_done ?_
  go_simp
  have y175 := (Lib.cell_of_heap F170.out 0).trans (show _ = some ((.slice pz55 x_S.boxes.length cz55)) from rfl)
  have y176 := (Lib.cell_of_heap F170.out 1).trans (show _ = some ((.slice pz56 x_S.log.length cz56)) from rfl)
  have y177 := (Lib.cell_of_heap F170.out 2).trans (show _ = some (.int .i64 x_S.given) from rfl)
  go_wp2_with fail
  refine (markStore_g x_S _ _ _ 1 rfl f57 f58 _ F168.out F169.out ND70.out (by have := CN_S.out; omega) (by have := SZ_S.out; omega)).mono ?_
  rintro e w178 ⟨rfl, i181, i182, g180⟩
  clear y175 y176 y177
  clear F168
  have F183 := Lib.hid (LfIn.rd _ _ _ i181)
  clear F169
  have F184 := Lib.hid (LfIn.rd _ _ _ i182)
  have F185 := Lib.hid ((g180.block (w.heap.size) (Array.getElem?_eq_some_iff.1 F164.out).1 (fun hm => by have h3 := LO68.out _ hm; have h4 := HI69.out _ hm; omega)).trans F164.out)
  clear F164
  have F186 := Lib.hid (LfIn.away F165.out g180 (fun q hq hm => by have h1 := LO29.out q hq; have h2 := HI30.out q hq; have h3 := LO68.out q hm; have h4 := HI69.out q hm; omega))
  clear F165
  have F187 := Lib.hid (LfIn.away F166.out g180 (fun q hq hm => by have h1 := LO32.out q hq; have h2 := HI33.out q hq; have h3 := LO68.out q hm; have h4 := HI69.out q hm; omega))
  clear F166
  have F188 := Lib.hid (LfIn.away F167.out g180 (fun q hq hm => by have h1 := LO45.out q hq; have h2 := HI46.out q hq; have h3 := LO68.out q hm; have h4 := HI69.out q hm; omega))
  clear F167
  have F189 := Lib.hid ((g180.block (w52.heap.size) (Array.getElem?_eq_some_iff.1 F170.out).1 (fun hm => by have h3 := LO68.out _ hm; have h4 := HI69.out _ hm; omega)).trans F170.out)
  clear F170
  have F190 := Lib.hid (LfIn.away F171.out g180 (fun q hq hm => by have h1 := LO106.out q hq; have h2 := HI107.out q hq; have h3 := LO68.out q hm; have h4 := HI69.out q hm; omega))
  clear F171
  have F191 := Lib.hid (LfIn.away F172.out g180 (fun q hq hm => by have h1 := LO157.out q hq; have h2 := HI158.out q hq; have h3 := LO68.out q hm; have h4 := HI69.out q hm; omega))
  clear F172
  have F192 := Lib.hid (LfIn.away F173.out g180 (fun q hq hm => by have h1 := LO160.out q hq; have h2 := HI161.out q hq; have h3 := LO68.out q hm; have h4 := HI69.out q hm; omega))
  clear F173
  have hz193 : w162.heap.size ≤ w178.heap.size := g180.size
  replace hb := GrownIn.below hb g180 hb.size (fun q hq => by have h3 := LO68.out q hq; have h9 := hbz.out; omega)
  clear F183 F184
  clear g180 i181 i182
  obtain ⟨K194, hK194⟩ : ∃ K : Nat, K = 1 + cntLf (boxsLf x_S.boxes) + cntLf (commitsLf x_S.log) := ⟨_, rfl⟩
  rw [← hK194]
  have hnK194 : ¬ (K194 : Int) < 0 := by omega
  have hdK194 : decide ((K194 : Int) < 0) = false := decide_eq_false hnK194
  have HK194 := Lib.hid hK194
  clear hK194
  go_wp2_with fail
  refine (eqIntS_g _ _ (ofL x_S n_Validity n_From) _ (LfIn.rd _ _ _ F190.out) (LfIn.rd _ _ _ F188.out) (by have := SZ_r0.out; omega)).mono ?_
  rintro e w195 ⟨rfl, b196⟩
  have F197 := Lib.hid ((b196.block (w.heap.size) (Array.getElem?_eq_some_iff.1 F185.out).1).trans F185.out)
  clear F185
  have F198 := Lib.hid (LfIn.below F186.out b196)
  clear F186
  have F199 := Lib.hid (LfIn.below F187.out b196)
  clear F187
  have F200 := Lib.hid (LfIn.below F188.out b196)
  clear F188
  have F201 := Lib.hid ((b196.block (w52.heap.size) (Array.getElem?_eq_some_iff.1 F189.out).1).trans F189.out)
  clear F189
  have F202 := Lib.hid (LfIn.below F190.out b196)
  clear F190
  have F203 := Lib.hid (LfIn.below F191.out b196)
  clear F191
  have F204 := Lib.hid (LfIn.below F192.out b196)
  clear F192
  have hz205 : w178.heap.size ≤ w195.heap.size := b196.size
  replace hb := hb.trans (b196.mono hb.size)
  clear b196
  go_wp2_with fail
  refine (markIntS_g _ (ofL x_S n_Validity n_From) _ 1 rfl f94 _ F202.out ND108.out (by have := CN_r0.out; omega) (by have := SZ_r0.out; omega)).mono ?_
  rintro e w206 ⟨rfl, i209, g208⟩
  clear F202
  have F210 := Lib.hid (LfIn.rd _ _ _ i209)
  have F211 := Lib.hid ((g208.block (w.heap.size) (Array.getElem?_eq_some_iff.1 F197.out).1 (fun hm => by have h3 := LO106.out _ hm; have h4 := HI107.out _ hm; omega)).trans F197.out)
  clear F197
  have F212 := Lib.hid (LfIn.away F198.out g208 (fun q hq hm => by have h1 := LO29.out q hq; have h2 := HI30.out q hq; have h3 := LO106.out q hm; have h4 := HI107.out q hm; omega))
  clear F198
  have F213 := Lib.hid (LfIn.away F199.out g208 (fun q hq hm => by have h1 := LO32.out q hq; have h2 := HI33.out q hq; have h3 := LO106.out q hm; have h4 := HI107.out q hm; omega))
  clear F199
  have F214 := Lib.hid (LfIn.away F200.out g208 (fun q hq hm => by have h1 := LO45.out q hq; have h2 := HI46.out q hq; have h3 := LO106.out q hm; have h4 := HI107.out q hm; omega))
  clear F200
  have F215 := Lib.hid ((g208.block (w52.heap.size) (Array.getElem?_eq_some_iff.1 F201.out).1 (fun hm => by have h3 := LO106.out _ hm; have h4 := HI107.out _ hm; omega)).trans F201.out)
  clear F201
  have F216 := Lib.hid (LfIn.away F203.out g208 (fun q hq hm => by have h1 := LO157.out q hq; have h2 := HI158.out q hq; have h3 := LO106.out q hm; have h4 := HI107.out q hm; omega))
  clear F203
  have F217 := Lib.hid (LfIn.away F204.out g208 (fun q hq hm => by have h1 := LO160.out q hq; have h2 := HI161.out q hq; have h3 := LO106.out q hm; have h4 := HI107.out q hm; omega))
  clear F204
  have hz218 : w195.heap.size ≤ w206.heap.size := g208.size
  replace hb := GrownIn.below hb g208 hb.size (fun q hq => by have h3 := LO106.out q hq; have h9 := hbz.out; omega)
  clear g208 i209
  obtain ⟨K219, hK219⟩ : ∃ K : Nat, K = 1 + cntLf (intsLf (ofL x_S n_Validity n_From)) := ⟨_, rfl⟩
  rw [← hK219]
  have hnK219 : ¬ (K219 : Int) < 0 := by omega
  have hdK219 : decide ((K219 : Int) < 0) = false := decide_eq_false hnK219
  have HK219 := Lib.hid hK219
  clear hK219
  go_wp2_with fail
  refine (heldIntS_g _ (ofL x_S n_Validity n_From) _ 1 rfl _ F210.out (by have := CN_r0.out; omega) (by have := SZ_r0.out; omega)).mono ?_
  rintro e w220 ⟨rfl, b221⟩
  rw [← HK219.out]
  have F222 := Lib.hid ((b221.block (w.heap.size) (Array.getElem?_eq_some_iff.1 F211.out).1).trans F211.out)
  clear F211
  have F223 := Lib.hid (LfIn.below F212.out b221)
  clear F212
  have F224 := Lib.hid (LfIn.below F213.out b221)
  clear F213
  have F225 := Lib.hid (LfIn.below F214.out b221)
  clear F214
  have F226 := Lib.hid ((b221.block (w52.heap.size) (Array.getElem?_eq_some_iff.1 F215.out).1).trans F215.out)
  clear F215
  have F227 := Lib.hid (LfIn.below F216.out b221)
  clear F216
  have F228 := Lib.hid (LfIn.below F217.out b221)
  clear F217
  have F229 := Lib.hid (LfRd.below b221 _ _ F210.out)
  clear F210
  have hz230 : w206.heap.size ≤ w220.heap.size := b221.size
  replace hb := hb.trans (b221.mono hb.size)
  clear b221
  have y231 := (Lib.cell_of_heap F222.out 0).trans (show _ = some ((.slice p_S_0 x_S.boxes.length c_S_0)) from rfl)
  have y232 := (Lib.cell_of_heap F222.out 1).trans (show _ = some ((.slice p_S_1 x_S.log.length c_S_1)) from rfl)
  have y233 := (Lib.cell_of_heap F222.out 2).trans (show _ = some (.int .i64 x_S.given) from rfl)
  go_wp2_with fail
  refine (C_to_S.out _ (LfRd.below hb _ _ H_r_S_0.out) (LfRd.below hb _ _ H_r_S_1.out)).mono ?_
  rintro e w234 ⟨z237, f239, z238, f240, rfl, i241, i242, nd243, lo244, b235⟩
  clear y231 y232 y233
  have F245 := Lib.hid ((b235.block (w.heap.size) (Array.getElem?_eq_some_iff.1 F222.out).1).trans F222.out)
  clear F222
  have F246 := Lib.hid (LfIn.below F223.out b235)
  clear F223
  have F247 := Lib.hid (LfIn.below F224.out b235)
  clear F224
  have F248 := Lib.hid (LfIn.below F225.out b235)
  clear F225
  have F249 := Lib.hid ((b235.block (w52.heap.size) (Array.getElem?_eq_some_iff.1 F226.out).1).trans F226.out)
  clear F226
  have F250 := Lib.hid (LfIn.below F227.out b235)
  clear F227
  have F251 := Lib.hid (LfIn.below F228.out b235)
  clear F228
  have F252 := Lib.hid (LfRd.below b235 _ _ F229.out)
  clear F229
  have hz253 : w220.heap.size ≤ w234.heap.size := b235.size
  replace hb := hb.trans (b235.mono hb.size)
  have LO254 := Lib.hid (show ∀ q ∈ f239 ++ f240, w220.heap.size ≤ q from lo244)
  have HI255 := Lib.hid (show ∀ q ∈ f239 ++ f240, q < w234.heap.size from fun q hq => by simp only [List.mem_append] at hq; rcases hq with hq | hq <;> first | exact LfIn.lt _ _ _ i241 q hq | exact LfIn.lt _ _ _ i242 q hq)
  have ND256 := Lib.hid nd243
  have F257 := Lib.hid i241
  have LO258 := Lib.hid (show ∀ q ∈ f239, w220.heap.size ≤ q from fun q hq => LO254.out q (by simp [hq]))
  have HI259 := Lib.hid (show ∀ q ∈ f239, q < w234.heap.size from fun q hq => HI255.out q (by simp [hq]))
  obtain ⟨pz237, cz237, rfl⟩ := LfIn.slice i241
  have F260 := Lib.hid i242
  have LO261 := Lib.hid (show ∀ q ∈ f240, w220.heap.size ≤ q from fun q hq => LO254.out q (by simp [hq]))
  have HI262 := Lib.hid (show ∀ q ∈ f240, q < w234.heap.size from fun q hq => HI255.out q (by simp [hq]))
  obtain ⟨pz238, cz238, rfl⟩ := LfIn.slice i242
  clear i241
  clear i242
  clear nd243 lo244
  clear b235
  go_wp2_with fail
  refine (C_impl.out _ _ _ (hK _ _ hG hb) (LfIn.rd _ _ _ F257.out) (CapLe.of_in F257.out) (LfIn.rd _ _ _ F260.out) (CapLe.of_in F260.out)).mono ?_
  rintro e w263 ⟨z265, f266, rfl, i267, nd268, lo269, b264⟩
  have F270 := Lib.hid ((b264.block (w.heap.size) (Array.getElem?_eq_some_iff.1 F245.out).1).trans F245.out)
  clear F245
  have F271 := Lib.hid (LfIn.below F246.out b264)
  clear F246
  have F272 := Lib.hid (LfIn.below F247.out b264)
  clear F247
  have F273 := Lib.hid (LfIn.below F248.out b264)
  clear F248
  have F274 := Lib.hid ((b264.block (w52.heap.size) (Array.getElem?_eq_some_iff.1 F249.out).1).trans F249.out)
  clear F249
  have F275 := Lib.hid (LfIn.below F250.out b264)
  clear F250
  have F276 := Lib.hid (LfIn.below F251.out b264)
  clear F251
  have F277 := Lib.hid (LfRd.below b264 _ _ F252.out)
  clear F252
  have F278 := Lib.hid (LfIn.below F257.out b264)
  clear F257
  have F279 := Lib.hid (LfIn.below F260.out b264)
  clear F260
  have hz280 : w234.heap.size ≤ w263.heap.size := b264.size
  replace hb := hb.trans (b264.mono hb.size)
  have LO281 := Lib.hid (show ∀ q ∈ f266, w234.heap.size ≤ q from lo269)
  have HI282 := Lib.hid (show ∀ q ∈ f266, q < w263.heap.size from fun q hq => LfIn.lt _ _ _ i267 q hq)
  have ND283 := Lib.hid nd268
  have F284 := Lib.hid i267
  obtain ⟨pz265, cz265, rfl⟩ := LfIn.slice i267
  clear i267
  clear nd268 lo269
  clear b264
  go_wp2_with fail
  refine (eqIntS_g _ _ (ofL x_S n_Validity n_From) _ (LfIn.rd _ _ _ F284.out) (LfIn.rd _ _ _ F273.out) (by have := SZ_r0.out; omega)).mono ?_
  rintro e w285 ⟨rfl, b286⟩
  have F287 := Lib.hid ((b286.block (w.heap.size) (Array.getElem?_eq_some_iff.1 F270.out).1).trans F270.out)
  clear F270
  have F288 := Lib.hid (LfIn.below F271.out b286)
  clear F271
  have F289 := Lib.hid (LfIn.below F272.out b286)
  clear F272
  have F290 := Lib.hid (LfIn.below F273.out b286)
  clear F273
  have F291 := Lib.hid ((b286.block (w52.heap.size) (Array.getElem?_eq_some_iff.1 F274.out).1).trans F274.out)
  clear F274
  have F292 := Lib.hid (LfIn.below F275.out b286)
  clear F275
  have F293 := Lib.hid (LfIn.below F276.out b286)
  clear F276
  have F294 := Lib.hid (LfRd.below b286 _ _ F277.out)
  clear F277
  have F295 := Lib.hid (LfIn.below F278.out b286)
  clear F278
  have F296 := Lib.hid (LfIn.below F279.out b286)
  clear F279
  have F297 := Lib.hid (LfIn.below F284.out b286)
  clear F284
  have hz298 : w263.heap.size ≤ w285.heap.size := b286.size
  replace hb := hb.trans (b286.mono hb.size)
  clear b286
  go_wp2_with fail
  refine (heldIntS_g _ (ofL x_S n_Validity n_From) _ 1 rfl _ F294.out (by have := CN_r0.out; omega) (by have := SZ_r0.out; omega)).mono ?_
  rintro e w299 ⟨rfl, b300⟩
  rw [← HK219.out]
  have F301 := Lib.hid ((b300.block (w.heap.size) (Array.getElem?_eq_some_iff.1 F287.out).1).trans F287.out)
  clear F287
  have F302 := Lib.hid (LfIn.below F288.out b300)
  clear F288
  have F303 := Lib.hid (LfIn.below F289.out b300)
  clear F289
  have F304 := Lib.hid (LfIn.below F290.out b300)
  clear F290
  have F305 := Lib.hid ((b300.block (w52.heap.size) (Array.getElem?_eq_some_iff.1 F291.out).1).trans F291.out)
  clear F291
  have F306 := Lib.hid (LfIn.below F292.out b300)
  clear F292
  have F307 := Lib.hid (LfIn.below F293.out b300)
  clear F293
  have F308 := Lib.hid (LfRd.below b300 _ _ F294.out)
  clear F294
  have F309 := Lib.hid (LfIn.below F295.out b300)
  clear F295
  have F310 := Lib.hid (LfIn.below F296.out b300)
  clear F296
  have F311 := Lib.hid (LfIn.below F297.out b300)
  clear F297
  have hz312 : w285.heap.size ≤ w299.heap.size := b300.size
  replace hb := hb.trans (b300.mono hb.size)
  clear b300
  go_wp2
  go_ret
  exact ⟨rfl, hb⟩

end Go.Proofs.Ytbfgdbpfecffcaa
