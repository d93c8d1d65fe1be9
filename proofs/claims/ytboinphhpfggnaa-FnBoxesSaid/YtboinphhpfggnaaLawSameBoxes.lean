/-
  The exact law of SameBoxes out of what the two functions answer (made by tools/lawc.py).
-/
import Derived.Test.YtboinphhpfggnaaBoxA
import Derived.Test.YtboinphhpfggnaaLgB
import Derived.Test.YtboinphhpfggnaaGa
namespace Go.Proofs.Ytboinphhpfggnaa
open Go.RowKit

def CtrSameBoxes (f : FuncId) (G : World → Prop) : Prop := ∀ (l_A : List BoxD) (v_A : Value) (l_B : List BoxD) (v_B : Value) (W : World), G W → LfRd W (boxsLf l_A) v_A → szLf (boxsLf l_A) ≤ 1048576 → LfBnd (boxsLf l_A) → LfRd W (boxsLf l_B) v_B → szLf (boxsLf l_B) ≤ 1048576 → LfBnd (boxsLf l_B) → 
  Calls Try.prog f #[v_A, v_B] W fun e w' => e = .returned (.bool (decide (l_A = l_B))) ∧ Below W.heap.size W w'

set_option maxRecDepth 20000 in
set_option maxHeartbeats 12800000 in
theorem FnExactSameBoxes_of {G : World → Prop} (hK : Keeps G) (SP : CtrSameBoxes 39 (fun _ => True)) (IM : CtrSameBoxes 21 G) (l_A : List BoxD) (v_A : Value) (l_B : List BoxD) (v_B : Value) (w : World) (hG : G w) (h_v_A : LfRd w (boxsLf l_A) v_A) (hb_A : LfBnd (boxsLf l_A)) (h_v_B : LfRd w (boxsLf l_B) v_B) (hb_B : LfBnd (boxsLf l_B)) :
    Calls Try.prog 11 #[v_A, v_B] w fun e w' => e = .returned (.bool true) ∧ Below w.heap.size w w' := by
  have H_v_A := Lib.hid h_v_A
  obtain ⟨p_A, c_A, rfl⟩ := LfRd.slice h_v_A
  clear h_v_A
  have H_v_B := Lib.hid h_v_B
  obtain ⟨p_B, c_B, rfl⟩ := LfRd.slice h_v_B
  clear h_v_B
  by_cases k0 : szLf (boxsLf l_A) ≤ 1048576
  case neg =>
    have q0 := fun (ll : Int) (W : World) (hl : ll = ((1048576 : Nat) : Int)) (g : LfRd W (boxsLf l_A) (.slice p_A l_A.length c_A)) => szBoxS_g (.slice p_A l_A.length c_A) l_A ll 1048576 hl W g hb_A (by omega)
    simp only [show szN 1048576 (szLf (boxsLf l_A)) = -1 from szN_no k0] at q0
    have C_sz0 := Lib.hid q0
    clear q0 SP IM
    have hb : Below w.heap.size w w := Below.refl _ _
    go_enter Try.func11, Try.ntmps11
    have hbz := Lib.hid hb.size
    go_wp2_with fail
    refine (C_sz0.out _ _ (by first | rfl | omega) (LfRd.below hb _ _ H_v_A.out)).mono ?_
    rintro e w1 ⟨rfl, b2⟩
    have hz3 : w.heap.size ≤ w1.heap.size := b2.size
    replace hb := hb.trans (b2.mono hb.size)
    clear b2
    go_wp2
    go_ret
    exact ⟨rfl, hb⟩
  obtain ⟨L1, hL1⟩ : ∃ L, L + szLf (boxsLf l_A) = 1048576 := ⟨1048576 - szLf (boxsLf l_A), by omega⟩
  have bL1 : L1 ≤ 1048576 := by omega
  have nL1 : ¬ (L1 : Int) < 0 := by omega
  have q0 := fun (ll : Int) (W : World) (hl : ll = ((1048576 : Nat) : Int)) (g : LfRd W (boxsLf l_A) (.slice p_A l_A.length c_A)) => szBoxS_g (.slice p_A l_A.length c_A) l_A ll 1048576 hl W g hb_A (by omega)
  simp only [show szN 1048576 (szLf (boxsLf l_A)) = (L1 : Int) from by rw [szN_yes k0]; omega] at q0
  have C_sz0 := Lib.hid q0
  clear q0
  have HL1 := Lib.hid hL1
  have hsz_0 : szLf (boxsLf l_A) ≤ 1048576 := by omega
  clear hL1
  by_cases k1 : szLf (boxsLf l_B) ≤ L1
  case neg =>
    have q1 := fun (ll : Int) (W : World) (hl : ll = ((L1 : Nat) : Int)) (g : LfRd W (boxsLf l_B) (.slice p_B l_B.length c_B)) => szBoxS_g (.slice p_B l_B.length c_B) l_B ll L1 hl W g hb_B (by omega)
    simp only [show szN L1 (szLf (boxsLf l_B)) = -1 from szN_no k1] at q1
    have C_sz1 := Lib.hid q1
    clear q1 SP IM
    have hb : Below w.heap.size w w := Below.refl _ _
    go_enter Try.func11, Try.ntmps11
    have hbz := Lib.hid hb.size
    go_wp2_with fail
    refine (C_sz0.out _ _ (by first | rfl | omega) (LfRd.below hb _ _ H_v_A.out)).mono ?_
    rintro e w1 ⟨rfl, b2⟩
    have hz3 : w.heap.size ≤ w1.heap.size := b2.size
    replace hb := hb.trans (b2.mono hb.size)
    clear b2
    go_wp2_with fail
    refine (C_sz1.out _ _ (by first | rfl | omega) (LfRd.below hb _ _ H_v_B.out)).mono ?_
    rintro e w4 ⟨rfl, b5⟩
    have hz6 : w1.heap.size ≤ w4.heap.size := b5.size
    replace hb := hb.trans (b5.mono hb.size)
    clear b5
    go_wp2
    go_ret
    exact ⟨rfl, hb⟩
  obtain ⟨L2, hL2⟩ : ∃ L, L + szLf (boxsLf l_B) = L1 := ⟨L1 - szLf (boxsLf l_B), by omega⟩
  have bL2 : L2 ≤ 1048576 := by omega
  have nL2 : ¬ (L2 : Int) < 0 := by omega
  have q1 := fun (ll : Int) (W : World) (hl : ll = ((L1 : Nat) : Int)) (g : LfRd W (boxsLf l_B) (.slice p_B l_B.length c_B)) => szBoxS_g (.slice p_B l_B.length c_B) l_B ll L1 hl W g hb_B (by omega)
  simp only [show szN L1 (szLf (boxsLf l_B)) = (L2 : Int) from by rw [szN_yes k1]; omega] at q1
  have C_sz1 := Lib.hid q1
  clear q1
  have HL2 := Lib.hid hL2
  have hsz_1 : szLf (boxsLf l_B) ≤ 1048576 := by omega
  clear hL2
  have hsm_A : szLf (boxsLf l_A) ≤ 1048576 := by omega
  have SZ_A := Lib.hid hsm_A
  have CN_A := Lib.hid (show 1 + cntLf (boxsLf l_A) ≤ 1000000000 from by have h := cntRow_le (boxsLf_fit l_A); have h2 : szLf (boxsLf l_A) ≤ 1048576 := hsm_A; simp only [boxsLf] at h h2 ⊢; omega)
  have C_to_A := Lib.hid (fun (W : World) (g : LfRd W (boxsLf l_A) (.slice p_A l_A.length c_A)) => toBoxS_g (.slice p_A l_A.length c_A) l_A W g (by omega))
  have hsm_B : szLf (boxsLf l_B) ≤ 1048576 := by omega
  have SZ_B := Lib.hid hsm_B
  have CN_B := Lib.hid (show 1 + cntLf (boxsLf l_B) ≤ 1000000000 from by have h := cntRow_le (boxsLf_fit l_B); have h2 : szLf (boxsLf l_B) ≤ 1048576 := hsm_B; simp only [boxsLf] at h h2 ⊢; omega)
  have C_to_B := Lib.hid (fun (W : World) (g : LfRd W (boxsLf l_B) (.slice p_B l_B.length c_B)) => toBoxS_g (.slice p_B l_B.length c_B) l_B W g (by omega))
  have C_spec := Lib.hid (fun (u_A_0 : Value) (u_B_0 : Value) (W : World) (k_A_0 : LfRd W (boxsLf l_A) u_A_0) (k_B_0 : LfRd W (boxsLf l_B) u_B_0) => SP l_A u_A_0 l_B u_B_0 W trivial k_A_0 hsm_A hb_A k_B_0 hsm_B hb_B)
  have C_impl := Lib.hid (fun (u_A_0 : Value) (u_B_0 : Value) (W : World) (hg : G W) (k_A_0 : LfRd W (boxsLf l_A) u_A_0) (k_B_0 : LfRd W (boxsLf l_B) u_B_0) => IM l_A u_A_0 l_B u_B_0 W hg k_A_0 hsm_A hb_A k_B_0 hsm_B hb_B)
  clear SP IM hb_A hsm_A hb_B hsm_B
  generalize (decide (l_A = l_B)) = R0 at *
  have ne0 : (R0 != R0) = false := by simp
  have hb : Below w.heap.size w w := Below.refl _ _
  go_enter Try.func11, Try.ntmps11
  have hbz := Lib.hid hb.size
  go_wp2_with fail
  refine (C_sz0.out _ _ (by first | rfl | omega) (LfRd.below hb _ _ H_v_A.out)).mono ?_
  rintro e w1 ⟨rfl, b2⟩
  have hz3 : w.heap.size ≤ w1.heap.size := b2.size
  replace hb := hb.trans (b2.mono hb.size)
  clear b2
  go_wp2_with fail
  refine (C_sz1.out _ _ (by first | rfl | omega) (LfRd.below hb _ _ H_v_B.out)).mono ?_
  rintro e w4 ⟨rfl, b5⟩
  have hz6 : w1.heap.size ≤ w4.heap.size := b5.size
  replace hb := hb.trans (b5.mono hb.size)
  clear b5
  go_wp2_with fail
  refine (C_to_A.out _ (LfRd.below hb _ _ H_v_A.out)).mono ?_
  rintro e w7 ⟨z10, f11, rfl, t12, b8⟩
  have hz13 : w4.heap.size ≤ w7.heap.size := b8.size
  replace hb := hb.trans (b8.mono hb.size)
  have LO14 := Lib.hid (show ∀ q ∈ f11, w4.heap.size ≤ q from t12.low)
  have HI15 := Lib.hid (show ∀ q ∈ f11, q < w7.heap.size from fun q hq => LfIn.lt _ _ _ t12.is q hq)
  have ND16 := Lib.hid t12.nodup
  have F17 := Lib.hid t12.is
  obtain ⟨pz10, cz10, rfl⟩ := LfIn.slice t12.is
  clear t12
  clear b8
  go_wp2_with fail
  refine (C_to_B.out _ (LfRd.below hb _ _ H_v_B.out)).mono ?_
  rintro e w18 ⟨z21, f22, rfl, t23, b19⟩
  have F24 := Lib.hid (LfIn.below F17.out b19)
  clear F17
  have hz25 : w7.heap.size ≤ w18.heap.size := b19.size
  replace hb := hb.trans (b19.mono hb.size)
  have LO26 := Lib.hid (show ∀ q ∈ f22, w7.heap.size ≤ q from t23.low)
  have HI27 := Lib.hid (show ∀ q ∈ f22, q < w18.heap.size from fun q hq => LfIn.lt _ _ _ t23.is q hq)
  have ND28 := Lib.hid t23.nodup
  have F29 := Lib.hid t23.is
  obtain ⟨pz21, cz21, rfl⟩ := LfIn.slice t23.is
  clear t23
  clear b19
  go_wp2_with fail
  refine (C_spec.out _ _ _ (LfIn.rd _ _ _ F24.out) (LfIn.rd _ _ _ F29.out)).mono ?_
  rintro e w30 ⟨rfl, b31⟩
  have F32 := Lib.hid (LfIn.below F24.out b31)
  clear F24
  have F33 := Lib.hid (LfIn.below F29.out b31)
  clear F29
  have hz34 : w18.heap.size ≤ w30.heap.size := b31.size
  replace hb := hb.trans (b31.mono hb.size)
  clear b31
  go_wp2_with fail
  refine (C_to_A.out _ (LfRd.below hb _ _ H_v_A.out)).mono ?_
  rintro e w35 ⟨z38, f39, rfl, t40, b36⟩
  have F41 := Lib.hid (LfIn.below F32.out b36)
  clear F32
  have F42 := Lib.hid (LfIn.below F33.out b36)
  clear F33
  have hz43 : w30.heap.size ≤ w35.heap.size := b36.size
  replace hb := hb.trans (b36.mono hb.size)
  have LO44 := Lib.hid (show ∀ q ∈ f39, w30.heap.size ≤ q from t40.low)
  have HI45 := Lib.hid (show ∀ q ∈ f39, q < w35.heap.size from fun q hq => LfIn.lt _ _ _ t40.is q hq)
  have ND46 := Lib.hid t40.nodup
  have F47 := Lib.hid t40.is
  obtain ⟨pz38, cz38, rfl⟩ := LfIn.slice t40.is
  clear t40
  clear b36
  go_wp2_with fail
  refine (C_to_B.out _ (LfRd.below hb _ _ H_v_B.out)).mono ?_
  rintro e w48 ⟨z51, f52, rfl, t53, b49⟩
  have F54 := Lib.hid (LfIn.below F41.out b49)
  clear F41
  have F55 := Lib.hid (LfIn.below F42.out b49)
  clear F42
  have F56 := Lib.hid (LfIn.below F47.out b49)
  clear F47
  have hz57 : w35.heap.size ≤ w48.heap.size := b49.size
  replace hb := hb.trans (b49.mono hb.size)
  have LO58 := Lib.hid (show ∀ q ∈ f52, w35.heap.size ≤ q from t53.low)
  have HI59 := Lib.hid (show ∀ q ∈ f52, q < w48.heap.size from fun q hq => LfIn.lt _ _ _ t53.is q hq)
  have ND60 := Lib.hid t53.nodup
  have F61 := Lib.hid t53.is
  obtain ⟨pz51, cz51, rfl⟩ := LfIn.slice t53.is
  clear t53
  clear b49
  go_wp2_with fail
  refine (C_impl.out _ _ _ (hK _ _ hG hb) (LfIn.rd _ _ _ F56.out) (LfIn.rd _ _ _ F61.out)).mono ?_
  rintro e w62 ⟨rfl, b63⟩
  have F64 := Lib.hid (LfIn.below F54.out b63)
  clear F54
  have F65 := Lib.hid (LfIn.below F55.out b63)
  clear F55
  have F66 := Lib.hid (LfIn.below F56.out b63)
  clear F56
  have F67 := Lib.hid (LfIn.below F61.out b63)
  clear F61
  have hz68 : w48.heap.size ≤ w62.heap.size := b63.size
  replace hb := hb.trans (b63.mono hb.size)
  clear b63
  go_wp2_with fail
  refine (C_to_A.out _ (LfRd.below hb _ _ H_v_A.out)).mono ?_
  rintro e w69 ⟨z72, f73, rfl, t74, b70⟩
  have F75 := Lib.hid (LfIn.below F64.out b70)
  clear F64
  have F76 := Lib.hid (LfIn.below F65.out b70)
  clear F65
  have F77 := Lib.hid (LfIn.below F66.out b70)
  clear F66
  have F78 := Lib.hid (LfIn.below F67.out b70)
  clear F67
  have hz79 : w62.heap.size ≤ w69.heap.size := b70.size
  replace hb := hb.trans (b70.mono hb.size)
  have LO80 := Lib.hid (show ∀ q ∈ f73, w62.heap.size ≤ q from t74.low)
  have HI81 := Lib.hid (show ∀ q ∈ f73, q < w69.heap.size from fun q hq => LfIn.lt _ _ _ t74.is q hq)
  have ND82 := Lib.hid t74.nodup
  have F83 := Lib.hid t74.is
  obtain ⟨pz72, cz72, rfl⟩ := LfIn.slice t74.is
  clear t74
  clear b70
  go_wp2_with fail
  refine (eqBoxS_g _ _ l_A _ (LfIn.rd _ _ _ F77.out) (LfIn.rd _ _ _ F83.out) (by have := SZ_A.out; omega)).mono ?_
  rintro e w84 ⟨rfl, b85⟩
  have F86 := Lib.hid (LfIn.below F75.out b85)
  clear F75
  have F87 := Lib.hid (LfIn.below F76.out b85)
  clear F76
  have F88 := Lib.hid (LfIn.below F77.out b85)
  clear F77
  have F89 := Lib.hid (LfIn.below F78.out b85)
  clear F78
  have F90 := Lib.hid (LfIn.below F83.out b85)
  clear F83
  have hz91 : w69.heap.size ≤ w84.heap.size := b85.size
  replace hb := hb.trans (b85.mono hb.size)
  clear b85
  go_wp2_with fail
  refine (C_to_B.out _ (LfRd.below hb _ _ H_v_B.out)).mono ?_
  rintro e w92 ⟨z95, f96, rfl, t97, b93⟩
  have F98 := Lib.hid (LfIn.below F86.out b93)
  clear F86
  have F99 := Lib.hid (LfIn.below F87.out b93)
  clear F87
  have F100 := Lib.hid (LfIn.below F88.out b93)
  clear F88
  have F101 := Lib.hid (LfIn.below F89.out b93)
  clear F89
  have F102 := Lib.hid (LfIn.below F90.out b93)
  clear F90
  have hz103 : w84.heap.size ≤ w92.heap.size := b93.size
  replace hb := hb.trans (b93.mono hb.size)
  have LO104 := Lib.hid (show ∀ q ∈ f96, w84.heap.size ≤ q from t97.low)
  have HI105 := Lib.hid (show ∀ q ∈ f96, q < w92.heap.size from fun q hq => LfIn.lt _ _ _ t97.is q hq)
  have ND106 := Lib.hid t97.nodup
  have F107 := Lib.hid t97.is
  obtain ⟨pz95, cz95, rfl⟩ := LfIn.slice t97.is
  clear t97
  clear b93
  go_wp2_with fail
  refine (eqBoxS_g _ _ l_B _ (LfIn.rd _ _ _ F101.out) (LfIn.rd _ _ _ F107.out) (by have := SZ_B.out; omega)).mono ?_
  rintro e w108 ⟨rfl, b109⟩
  have F110 := Lib.hid (LfIn.below F98.out b109)
  clear F98
  have F111 := Lib.hid (LfIn.below F99.out b109)
  clear F99
  have F112 := Lib.hid (LfIn.below F100.out b109)
  clear F100
  have F113 := Lib.hid (LfIn.below F101.out b109)
  clear F101
  have F114 := Lib.hid (LfIn.below F102.out b109)
  clear F102
  have F115 := Lib.hid (LfIn.below F107.out b109)
  clear F107
  have hz116 : w92.heap.size ≤ w108.heap.size := b109.size
  replace hb := hb.trans (b109.mono hb.size)
  clear b109
  go_wp2
  go_ret
  exact ⟨rfl, hb⟩

end Go.Proofs.Ytboinphhpfggnaa
