/-
  Wg: LawAppliedAll LawApplied LawApplies LawCommitOk LawEventOf (what the claim needs of them).
-/
import Derived.Test.YtbfgdbpfecffcaaGreatDoorRows
import Derived.WalkKit
import Derived.WalkSpells
import Derived.WalkLawsBesides
import Derived.Laws.IdiomStrings
import Derived.Lib.Hide
import Derived.Deep.AppendLies
import Derived.OrdersHeld
import Derived.Lib.ItoaNum
import Derived.Lib.ItoaMem
import Derived.Lib.AppendStr
import Derived.Lib.ItoaLen
import Derived.Lib.Strings
import Derived.Lib.Bytealg
import Derived.Lib.OthersKept
import Derived.Laws.RangeAny
import Derived.Laws.BitsAllLaws
import Derived.Laws.BitsLemmas
import Derived.IntWalk
import Derived.Handy
import Derived.Lib.Join
import Derived.Deep.Strs
import Derived.Test.YtbfgdbpfecffcaaGreatDoorProg
import Derived.Test.YtbfgdbpfecffcaaGreatDoorWb
import Derived.Test.YtbfgdbpfecffcaaGreatDoorWc
import Derived.Test.YtbfgdbpfecffcaaGreatDoorWd
import Derived.Test.YtbfgdbpfecffcaaGreatDoorWe
import Derived.Test.YtbfgdbpfecffcaaGreatDoorWf

namespace Go.Proofs.YtbfgdbpfecffcaaGreatDoor
open Go.RowKit

def CtrAppliedAll (f : FuncId) (G : World → Prop) : Prop := ∀ (l_List : List BoxD) (v_List : Value) (l_Log : List ComD) (v_Log : Value) (W : World), G W → LfRd W (boxsLf l_List) v_List → CapLe v_List → szLf (boxsLf l_List) ≤ 1048576 → LfBnd (boxsLf l_List) → LfRd W (commitsLf l_Log) v_Log → CapLe v_Log → szLf (commitsLf l_Log) ≤ 1048576 → LfBnd (commitsLf l_Log) → 
  Calls Tryz.prog f #[v_List, v_Log] W fun e w' => ∃ z0 f0, e = .returned (.tuple #[z0, .bool ((allL l_List l_Log).2)]) ∧ LfIn w' (boxsLf ((allL l_List l_Log).1)) z0 f0 ∧ f0.Nodup ∧ (∀ q ∈ f0, W.heap.size ≤ q) ∧ Below W.heap.size W w'

set_option maxRecDepth 20000 in
set_option maxHeartbeats 12800000 in
theorem FnExactAppliedAll_of {G : World → Prop} (hK : Keeps G) (SP : CtrAppliedAll 29 (fun _ => True)) (IM : CtrAppliedAll 28 G) (l_List : List BoxD) (v_List : Value) (l_Log : List ComD) (v_Log : Value) (w : World) (hG : G w) (h_v_List : LfRd w (boxsLf l_List) v_List) (hb_List : LfBnd (boxsLf l_List)) (h_v_Log : LfRd w (commitsLf l_Log) v_Log) (hb_Log : LfBnd (commitsLf l_Log)) (hr_0 : szLf (boxsLf l_List) ≤ 1048576 → szLf (commitsLf l_Log) ≤ 1048576 → szLf (boxsLf ((allL l_List l_Log).1)) ≤ 1000000000) :
    Calls Tryz.prog 10 #[v_List, v_Log] w fun e w' => e = .returned (.bool true) ∧ Below w.heap.size w w' := by
  have H_v_List := Lib.hid h_v_List
  obtain ⟨p_List, c_List, rfl⟩ := LfRd.slice h_v_List
  clear h_v_List
  have H_v_Log := Lib.hid h_v_Log
  obtain ⟨p_Log, c_Log, rfl⟩ := LfRd.slice h_v_Log
  clear h_v_Log
  by_cases k0 : szLf (boxsLf l_List) ≤ 1048576
  case neg =>
    have q0 := fun (ll : Int) (W : World) (hl : ll = ((1048576 : Nat) : Int)) (g : LfRd W (boxsLf l_List) (.slice p_List l_List.length c_List)) => szBoxS_g (.slice p_List l_List.length c_List) l_List ll 1048576 hl W g hb_List (by omega)
    simp only [show szN 1048576 (szLf (boxsLf l_List)) = -1 from szN_no k0] at q0
    have C_sz0 := Lib.hid q0
    clear q0 SP IM hr_0
    have hb : Below w.heap.size w w := Below.refl _ _
    go_enter Tryz.func10, Tryz.ntmps10
    have hbz := Lib.hid hb.size
    go_wp2_with fail
    refine (C_sz0.out _ _ (by first | rfl | omega) (LfRd.below hb _ _ H_v_List.out)).mono ?_
    rintro e w1 ⟨rfl, b2⟩
    have hz3 : w.heap.size ≤ w1.heap.size := b2.size
    replace hb := hb.trans (b2.mono hb.size)
    clear b2
    go_wp2
    go_ret
    exact ⟨rfl, hb⟩
  obtain ⟨L1, hL1⟩ : ∃ L, L + szLf (boxsLf l_List) = 1048576 := ⟨1048576 - szLf (boxsLf l_List), by omega⟩
  have bL1 : L1 ≤ 1048576 := by omega
  have nL1 : ¬ (L1 : Int) < 0 := by omega
  have q0 := fun (ll : Int) (W : World) (hl : ll = ((1048576 : Nat) : Int)) (g : LfRd W (boxsLf l_List) (.slice p_List l_List.length c_List)) => szBoxS_g (.slice p_List l_List.length c_List) l_List ll 1048576 hl W g hb_List (by omega)
  simp only [show szN 1048576 (szLf (boxsLf l_List)) = (L1 : Int) from by rw [szN_yes k0]; omega] at q0
  have C_sz0 := Lib.hid q0
  clear q0
  have HL1 := Lib.hid hL1
  have hsz_0 : szLf (boxsLf l_List) ≤ 1048576 := by omega
  clear hL1
  by_cases k1 : szLf (commitsLf l_Log) ≤ L1
  case neg =>
    have q1 := fun (ll : Int) (W : World) (hl : ll = ((L1 : Nat) : Int)) (g : LfRd W (commitsLf l_Log) (.slice p_Log l_Log.length c_Log)) => szCommitS_g (.slice p_Log l_Log.length c_Log) l_Log ll L1 hl W g hb_Log (by omega)
    simp only [show szN L1 (szLf (commitsLf l_Log)) = -1 from szN_no k1] at q1
    have C_sz1 := Lib.hid q1
    clear q1 SP IM hr_0
    have hb : Below w.heap.size w w := Below.refl _ _
    go_enter Tryz.func10, Tryz.ntmps10
    have hbz := Lib.hid hb.size
    go_wp2_with fail
    refine (C_sz0.out _ _ (by first | rfl | omega) (LfRd.below hb _ _ H_v_List.out)).mono ?_
    rintro e w1 ⟨rfl, b2⟩
    have hz3 : w.heap.size ≤ w1.heap.size := b2.size
    replace hb := hb.trans (b2.mono hb.size)
    clear b2
    go_wp2_with fail
    refine (C_sz1.out _ _ (by first | rfl | omega) (LfRd.below hb _ _ H_v_Log.out)).mono ?_
    rintro e w4 ⟨rfl, b5⟩
    have hz6 : w1.heap.size ≤ w4.heap.size := b5.size
    replace hb := hb.trans (b5.mono hb.size)
    clear b5
    go_wp2
    go_ret
    exact ⟨rfl, hb⟩
  obtain ⟨L2, hL2⟩ : ∃ L, L + szLf (commitsLf l_Log) = L1 := ⟨L1 - szLf (commitsLf l_Log), by omega⟩
  have bL2 : L2 ≤ 1048576 := by omega
  have nL2 : ¬ (L2 : Int) < 0 := by omega
  have q1 := fun (ll : Int) (W : World) (hl : ll = ((L1 : Nat) : Int)) (g : LfRd W (commitsLf l_Log) (.slice p_Log l_Log.length c_Log)) => szCommitS_g (.slice p_Log l_Log.length c_Log) l_Log ll L1 hl W g hb_Log (by omega)
  simp only [show szN L1 (szLf (commitsLf l_Log)) = (L2 : Int) from by rw [szN_yes k1]; omega] at q1
  have C_sz1 := Lib.hid q1
  clear q1
  have HL2 := Lib.hid hL2
  have hsz_1 : szLf (commitsLf l_Log) ≤ 1048576 := by omega
  clear hL2
  have hsm_List : szLf (boxsLf l_List) ≤ 1048576 := by omega
  have SZ_List := Lib.hid hsm_List
  have CN_List := Lib.hid (show 1 + cntLf (boxsLf l_List) ≤ 1000000000 from by have h := cntRow_le (boxsLf_fit l_List); have h2 : szLf (boxsLf l_List) ≤ 1048576 := hsm_List; simp only [boxsLf] at h h2 ⊢; omega)
  have C_to_List := Lib.hid (fun (W : World) (g : LfRd W (boxsLf l_List) (.slice p_List l_List.length c_List)) => toBoxS_g (.slice p_List l_List.length c_List) l_List W g (by omega))
  have hsm_Log : szLf (commitsLf l_Log) ≤ 1048576 := by omega
  have SZ_Log := Lib.hid hsm_Log
  have CN_Log := Lib.hid (show 1 + cntLf (commitsLf l_Log) ≤ 1000000000 from by have h := cntRow_le (commitsLf_fit l_Log); have h2 : szLf (commitsLf l_Log) ≤ 1048576 := hsm_Log; simp only [commitsLf] at h h2 ⊢; omega)
  have C_to_Log := Lib.hid (fun (W : World) (g : LfRd W (commitsLf l_Log) (.slice p_Log l_Log.length c_Log)) => toCommitS_g (.slice p_Log l_Log.length c_Log) l_Log W g (by omega))
  have C_spec := Lib.hid (fun (u_List_0 : Value) (u_Log_0 : Value) (W : World) (k_List_0 : LfRd W (boxsLf l_List) u_List_0) (kc_List : CapLe u_List_0) (k_Log_0 : LfRd W (commitsLf l_Log) u_Log_0) (kc_Log : CapLe u_Log_0) => SP l_List u_List_0 l_Log u_Log_0 W trivial k_List_0 kc_List hsm_List hb_List k_Log_0 kc_Log hsm_Log hb_Log)
  have C_impl := Lib.hid (fun (u_List_0 : Value) (u_Log_0 : Value) (W : World) (hg : G W) (k_List_0 : LfRd W (boxsLf l_List) u_List_0) (kc_List : CapLe u_List_0) (k_Log_0 : LfRd W (commitsLf l_Log) u_Log_0) (kc_Log : CapLe u_Log_0) => IM l_List u_List_0 l_Log u_Log_0 W hg k_List_0 kc_List hsm_List hb_List k_Log_0 kc_Log hsm_Log hb_Log)
  have hq_0 := hr_0 hsm_List hsm_Log
  have SZ_r0 := Lib.hid hq_0
  have CN_r0 := Lib.hid (show 1 + cntLf (boxsLf ((allL l_List l_Log).1)) ≤ 100000000000 from by have h := cntRow_le (boxsLf_fit ((allL l_List l_Log).1)); simp only [boxsLf] at h hq_0 ⊢; omega)
  clear hq_0
  clear SP IM hr_0 hb_List hsm_List hb_Log hsm_Log
  generalize ((allL l_List l_Log).2) = R1 at *
  have ne1 : (R1 != R1) = false := by simp
  have hb : Below w.heap.size w w := Below.refl _ _
  go_enter Tryz.func10, Tryz.ntmps10
  have hbz := Lib.hid hb.size
  go_wp2_with fail
  refine (C_sz0.out _ _ (by first | rfl | omega) (LfRd.below hb _ _ H_v_List.out)).mono ?_
  rintro e w1 ⟨rfl, b2⟩
  have hz3 : w.heap.size ≤ w1.heap.size := b2.size
  replace hb := hb.trans (b2.mono hb.size)
  clear b2
  go_wp2_with fail
  refine (C_sz1.out _ _ (by first | rfl | omega) (LfRd.below hb _ _ H_v_Log.out)).mono ?_
  rintro e w4 ⟨rfl, b5⟩
  have hz6 : w1.heap.size ≤ w4.heap.size := b5.size
  replace hb := hb.trans (b5.mono hb.size)
  clear b5
  go_wp2_with fail
  refine (C_to_List.out _ (LfRd.below hb _ _ H_v_List.out)).mono ?_
  rintro e w7 ⟨z10, f11, rfl, t12, b8⟩
  have hz13 : w4.heap.size ≤ w7.heap.size := b8.size
  replace hb := hb.trans (b8.mono hb.size)
  have LO14 := Lib.hid (show ∀ q ∈ f11, w4.heap.size ≤ q from t12.low)
  have HI15 := Lib.hid (show ∀ q ∈ f11, q < w7.heap.size from fun q hq => LfIn.lt _ _ _ t12.is q hq)
  have ND16 := Lib.hid t12.nodup
  have F17 := Lib.hid t12.is
  obtain ⟨pz10, cz10, rfl⟩ := LfIn.slice t12.is
  clear t12
  clear b8
  go_wp2_with fail
  refine (C_to_Log.out _ (LfRd.below hb _ _ H_v_Log.out)).mono ?_
  rintro e w18 ⟨z21, f22, rfl, t23, b19⟩
  have F24 := Lib.hid (LfIn.below F17.out b19)
  clear F17
  have hz25 : w7.heap.size ≤ w18.heap.size := b19.size
  replace hb := hb.trans (b19.mono hb.size)
  have LO26 := Lib.hid (show ∀ q ∈ f22, w7.heap.size ≤ q from t23.low)
  have HI27 := Lib.hid (show ∀ q ∈ f22, q < w18.heap.size from fun q hq => LfIn.lt _ _ _ t23.is q hq)
  have ND28 := Lib.hid t23.nodup
  have F29 := Lib.hid t23.is
  obtain ⟨pz21, cz21, rfl⟩ := LfIn.slice t23.is
  clear t23
  clear b19
  go_wp2_with fail
  refine (C_spec.out _ _ _ (LfIn.rd _ _ _ F24.out) (CapLe.of_in F24.out) (LfIn.rd _ _ _ F29.out) (CapLe.of_in F29.out)).mono ?_
  rintro e w30 ⟨z32, f33, rfl, i34, nd35, lo36, b31⟩
  have F37 := Lib.hid (LfIn.below F24.out b31)
  clear F24
  have F38 := Lib.hid (LfIn.below F29.out b31)
  clear F29
  have hz39 : w18.heap.size ≤ w30.heap.size := b31.size
  replace hb := hb.trans (b31.mono hb.size)
  have LO40 := Lib.hid (show ∀ q ∈ f33, w18.heap.size ≤ q from lo36)
  have HI41 := Lib.hid (show ∀ q ∈ f33, q < w30.heap.size from fun q hq => LfIn.lt _ _ _ i34 q hq)
  have ND42 := Lib.hid nd35
  have F43 := Lib.hid i34
  obtain ⟨pz32, cz32, rfl⟩ := LfIn.slice i34
  clear i34
  clear nd35 lo36
  clear b31
  go_wp2_with fail
  refine (C_to_List.out _ (LfRd.below hb _ _ H_v_List.out)).mono ?_
  rintro e w44 ⟨z47, f48, rfl, t49, b45⟩
  have F50 := Lib.hid (LfIn.below F37.out b45)
  clear F37
  have F51 := Lib.hid (LfIn.below F38.out b45)
  clear F38
  have F52 := Lib.hid (LfIn.below F43.out b45)
  clear F43
  have hz53 : w30.heap.size ≤ w44.heap.size := b45.size
  replace hb := hb.trans (b45.mono hb.size)
  have LO54 := Lib.hid (show ∀ q ∈ f48, w30.heap.size ≤ q from t49.low)
  have HI55 := Lib.hid (show ∀ q ∈ f48, q < w44.heap.size from fun q hq => LfIn.lt _ _ _ t49.is q hq)
  have ND56 := Lib.hid t49.nodup
  have F57 := Lib.hid t49.is
  obtain ⟨pz47, cz47, rfl⟩ := LfIn.slice t49.is
  clear t49
  clear b45
  go_wp2_with fail
  refine (C_to_Log.out _ (LfRd.below hb _ _ H_v_Log.out)).mono ?_
  rintro e w58 ⟨z61, f62, rfl, t63, b59⟩
  have F64 := Lib.hid (LfIn.below F50.out b59)
  clear F50
  have F65 := Lib.hid (LfIn.below F51.out b59)
  clear F51
  have F66 := Lib.hid (LfIn.below F52.out b59)
  clear F52
  have F67 := Lib.hid (LfIn.below F57.out b59)
  clear F57
  have hz68 : w44.heap.size ≤ w58.heap.size := b59.size
  replace hb := hb.trans (b59.mono hb.size)
  have LO69 := Lib.hid (show ∀ q ∈ f62, w44.heap.size ≤ q from t63.low)
  have HI70 := Lib.hid (show ∀ q ∈ f62, q < w58.heap.size from fun q hq => LfIn.lt _ _ _ t63.is q hq)
  have ND71 := Lib.hid t63.nodup
  have F72 := Lib.hid t63.is
  obtain ⟨pz61, cz61, rfl⟩ := LfIn.slice t63.is
  clear t63
  clear b59
  go_wp2_with fail
  refine (C_impl.out _ _ _ (hK _ _ hG hb) (LfIn.rd _ _ _ F67.out) (CapLe.of_in F67.out) (LfIn.rd _ _ _ F72.out) (CapLe.of_in F72.out)).mono ?_
  rintro e w73 ⟨z75, f76, rfl, i77, nd78, lo79, b74⟩
  have F80 := Lib.hid (LfIn.below F64.out b74)
  clear F64
  have F81 := Lib.hid (LfIn.below F65.out b74)
  clear F65
  have F82 := Lib.hid (LfIn.below F66.out b74)
  clear F66
  have F83 := Lib.hid (LfIn.below F67.out b74)
  clear F67
  have F84 := Lib.hid (LfIn.below F72.out b74)
  clear F72
  have hz85 : w58.heap.size ≤ w73.heap.size := b74.size
  replace hb := hb.trans (b74.mono hb.size)
  have LO86 := Lib.hid (show ∀ q ∈ f76, w58.heap.size ≤ q from lo79)
  have HI87 := Lib.hid (show ∀ q ∈ f76, q < w73.heap.size from fun q hq => LfIn.lt _ _ _ i77 q hq)
  have ND88 := Lib.hid nd78
  have F89 := Lib.hid i77
  obtain ⟨pz75, cz75, rfl⟩ := LfIn.slice i77
  clear i77
  clear nd78 lo79
  clear b74
  go_wp2_with fail
  refine (eqBoxS_g _ _ ((allL l_List l_Log).1) _ (LfIn.rd _ _ _ F89.out) (LfIn.rd _ _ _ F82.out) (by have := SZ_r0.out; omega)).mono ?_
  rintro e w90 ⟨rfl, b91⟩
  have F92 := Lib.hid (LfIn.below F80.out b91)
  clear F80
  have F93 := Lib.hid (LfIn.below F81.out b91)
  clear F81
  have F94 := Lib.hid (LfIn.below F82.out b91)
  clear F82
  have F95 := Lib.hid (LfIn.below F83.out b91)
  clear F83
  have F96 := Lib.hid (LfIn.below F84.out b91)
  clear F84
  have F97 := Lib.hid (LfIn.below F89.out b91)
  clear F89
  have hz98 : w73.heap.size ≤ w90.heap.size := b91.size
  replace hb := hb.trans (b91.mono hb.size)
  clear b91
  go_wp2_with fail
  refine (C_to_List.out _ (LfRd.below hb _ _ H_v_List.out)).mono ?_
  rintro e w99 ⟨z102, f103, rfl, t104, b100⟩
  have F105 := Lib.hid (LfIn.below F92.out b100)
  clear F92
  have F106 := Lib.hid (LfIn.below F93.out b100)
  clear F93
  have F107 := Lib.hid (LfIn.below F94.out b100)
  clear F94
  have F108 := Lib.hid (LfIn.below F95.out b100)
  clear F95
  have F109 := Lib.hid (LfIn.below F96.out b100)
  clear F96
  have F110 := Lib.hid (LfIn.below F97.out b100)
  clear F97
  have hz111 : w90.heap.size ≤ w99.heap.size := b100.size
  replace hb := hb.trans (b100.mono hb.size)
  have LO112 := Lib.hid (show ∀ q ∈ f103, w90.heap.size ≤ q from t104.low)
  have HI113 := Lib.hid (show ∀ q ∈ f103, q < w99.heap.size from fun q hq => LfIn.lt _ _ _ t104.is q hq)
  have ND114 := Lib.hid t104.nodup
  have F115 := Lib.hid t104.is
  obtain ⟨pz102, cz102, rfl⟩ := LfIn.slice t104.is
  clear t104
  clear b100
  go_wp2_with fail
  refine (eqBoxS_g _ _ l_List _ (LfIn.rd _ _ _ F108.out) (LfIn.rd _ _ _ F115.out) (by have := SZ_List.out; omega)).mono ?_
  rintro e w116 ⟨rfl, b117⟩
  have F118 := Lib.hid (LfIn.below F105.out b117)
  clear F105
  have F119 := Lib.hid (LfIn.below F106.out b117)
  clear F106
  have F120 := Lib.hid (LfIn.below F107.out b117)
  clear F107
  have F121 := Lib.hid (LfIn.below F108.out b117)
  clear F108
  have F122 := Lib.hid (LfIn.below F109.out b117)
  clear F109
  have F123 := Lib.hid (LfIn.below F110.out b117)
  clear F110
  have F124 := Lib.hid (LfIn.below F115.out b117)
  clear F115
  have hz125 : w99.heap.size ≤ w116.heap.size := b117.size
  replace hb := hb.trans (b117.mono hb.size)
  clear b117
  go_wp2_with fail
  refine (C_to_Log.out _ (LfRd.below hb _ _ H_v_Log.out)).mono ?_
  rintro e w126 ⟨z129, f130, rfl, t131, b127⟩
  have F132 := Lib.hid (LfIn.below F118.out b127)
  clear F118
  have F133 := Lib.hid (LfIn.below F119.out b127)
  clear F119
  have F134 := Lib.hid (LfIn.below F120.out b127)
  clear F120
  have F135 := Lib.hid (LfIn.below F121.out b127)
  clear F121
  have F136 := Lib.hid (LfIn.below F122.out b127)
  clear F122
  have F137 := Lib.hid (LfIn.below F123.out b127)
  clear F123
  have F138 := Lib.hid (LfIn.below F124.out b127)
  clear F124
  have hz139 : w116.heap.size ≤ w126.heap.size := b127.size
  replace hb := hb.trans (b127.mono hb.size)
  have LO140 := Lib.hid (show ∀ q ∈ f130, w116.heap.size ≤ q from t131.low)
  have HI141 := Lib.hid (show ∀ q ∈ f130, q < w126.heap.size from fun q hq => LfIn.lt _ _ _ t131.is q hq)
  have ND142 := Lib.hid t131.nodup
  have F143 := Lib.hid t131.is
  obtain ⟨pz129, cz129, rfl⟩ := LfIn.slice t131.is
  clear t131
  clear b127
  go_wp2_with fail
  refine (eqCommitS_g _ _ l_Log _ (LfIn.rd _ _ _ F136.out) (LfIn.rd _ _ _ F143.out) (by have := SZ_Log.out; omega)).mono ?_
  rintro e w144 ⟨rfl, b145⟩
  have F146 := Lib.hid (LfIn.below F132.out b145)
  clear F132
  have F147 := Lib.hid (LfIn.below F133.out b145)
  clear F133
  have F148 := Lib.hid (LfIn.below F134.out b145)
  clear F134
  have F149 := Lib.hid (LfIn.below F135.out b145)
  clear F135
  have F150 := Lib.hid (LfIn.below F136.out b145)
  clear F136
  have F151 := Lib.hid (LfIn.below F137.out b145)
  clear F137
  have F152 := Lib.hid (LfIn.below F138.out b145)
  clear F138
  have F153 := Lib.hid (LfIn.below F143.out b145)
  clear F143
  have hz154 : w126.heap.size ≤ w144.heap.size := b145.size
  replace hb := hb.trans (b145.mono hb.size)
  clear b145
  go_wp2_with fail
  refine (markBoxS_g _ l_List _ 1 rfl f48 _ F149.out ND56.out (by have := CN_List.out; omega) (by have := SZ_List.out; omega)).mono ?_
  rintro e w155 ⟨rfl, i158, g157⟩
  clear F149
  have F159 := Lib.hid (LfIn.rd _ _ _ i158)
  have F160 := Lib.hid (LfIn.away F146.out g157 (fun q hq hm => by have h1 := LO14.out q hq; have h2 := HI15.out q hq; have h3 := LO54.out q hm; have h4 := HI55.out q hm; omega))
  clear F146
  have F161 := Lib.hid (LfIn.away F147.out g157 (fun q hq hm => by have h1 := LO26.out q hq; have h2 := HI27.out q hq; have h3 := LO54.out q hm; have h4 := HI55.out q hm; omega))
  clear F147
  have F162 := Lib.hid (LfIn.away F148.out g157 (fun q hq hm => by have h1 := LO40.out q hq; have h2 := HI41.out q hq; have h3 := LO54.out q hm; have h4 := HI55.out q hm; omega))
  clear F148
  have F163 := Lib.hid (LfIn.away F150.out g157 (fun q hq hm => by have h1 := LO69.out q hq; have h2 := HI70.out q hq; have h3 := LO54.out q hm; have h4 := HI55.out q hm; omega))
  clear F150
  have F164 := Lib.hid (LfIn.away F151.out g157 (fun q hq hm => by have h1 := LO86.out q hq; have h2 := HI87.out q hq; have h3 := LO54.out q hm; have h4 := HI55.out q hm; omega))
  clear F151
  have F165 := Lib.hid (LfIn.away F152.out g157 (fun q hq hm => by have h1 := LO112.out q hq; have h2 := HI113.out q hq; have h3 := LO54.out q hm; have h4 := HI55.out q hm; omega))
  clear F152
  have F166 := Lib.hid (LfIn.away F153.out g157 (fun q hq hm => by have h1 := LO140.out q hq; have h2 := HI141.out q hq; have h3 := LO54.out q hm; have h4 := HI55.out q hm; omega))
  clear F153
  have hz167 : w144.heap.size ≤ w155.heap.size := g157.size
  replace hb := GrownIn.below hb g157 hb.size (fun q hq => by have h3 := LO54.out q hq; have h9 := hbz.out; omega)
  clear F159
  clear g157 i158
  obtain ⟨K168, hK168⟩ : ∃ K : Nat, K = 1 + cntLf (boxsLf l_List) := ⟨_, rfl⟩
  rw [← hK168]
  have hnK168 : ¬ (K168 : Int) < 0 := by omega
  have hdK168 : decide ((K168 : Int) < 0) = false := decide_eq_false hnK168
  have HK168 := Lib.hid hK168
  clear hK168
  go_wp2_with fail
  refine (markCommitS_g _ l_Log _ K168 rfl f62 _ F163.out ND71.out (by have := HK168.out; have := CN_List.out; have := CN_Log.out; omega) (by have := SZ_Log.out; omega)).mono ?_
  rintro e w169 ⟨rfl, i172, g171⟩
  clear F163
  have F173 := Lib.hid (LfIn.rd _ _ _ i172)
  have F174 := Lib.hid (LfIn.away F160.out g171 (fun q hq hm => by have h1 := LO14.out q hq; have h2 := HI15.out q hq; have h3 := LO69.out q hm; have h4 := HI70.out q hm; omega))
  clear F160
  have F175 := Lib.hid (LfIn.away F161.out g171 (fun q hq hm => by have h1 := LO26.out q hq; have h2 := HI27.out q hq; have h3 := LO69.out q hm; have h4 := HI70.out q hm; omega))
  clear F161
  have F176 := Lib.hid (LfIn.away F162.out g171 (fun q hq hm => by have h1 := LO40.out q hq; have h2 := HI41.out q hq; have h3 := LO69.out q hm; have h4 := HI70.out q hm; omega))
  clear F162
  have F177 := Lib.hid (LfIn.away F164.out g171 (fun q hq hm => by have h1 := LO86.out q hq; have h2 := HI87.out q hq; have h3 := LO69.out q hm; have h4 := HI70.out q hm; omega))
  clear F164
  have F178 := Lib.hid (LfIn.away F165.out g171 (fun q hq hm => by have h1 := LO112.out q hq; have h2 := HI113.out q hq; have h3 := LO69.out q hm; have h4 := HI70.out q hm; omega))
  clear F165
  have F179 := Lib.hid (LfIn.away F166.out g171 (fun q hq hm => by have h1 := LO140.out q hq; have h2 := HI141.out q hq; have h3 := LO69.out q hm; have h4 := HI70.out q hm; omega))
  clear F166
  have hz180 : w155.heap.size ≤ w169.heap.size := g171.size
  replace hb := GrownIn.below hb g171 hb.size (fun q hq => by have h3 := LO69.out q hq; have h9 := hbz.out; omega)
  clear F173
  clear g171 i172
  obtain ⟨K181, hK181⟩ : ∃ K : Nat, K = K168 + cntLf (commitsLf l_Log) := ⟨_, rfl⟩
  rw [← hK181]
  have hnK181 : ¬ (K181 : Int) < 0 := by omega
  have hdK181 : decide ((K181 : Int) < 0) = false := decide_eq_false hnK181
  have HK181 := Lib.hid hK181
  clear hK181
  go_wp2_with fail
  refine (eqBoxS_g _ _ ((allL l_List l_Log).1) _ (LfIn.rd _ _ _ F177.out) (LfIn.rd _ _ _ F176.out) (by have := SZ_r0.out; omega)).mono ?_
  rintro e w182 ⟨rfl, b183⟩
  have F184 := Lib.hid (LfIn.below F174.out b183)
  clear F174
  have F185 := Lib.hid (LfIn.below F175.out b183)
  clear F175
  have F186 := Lib.hid (LfIn.below F176.out b183)
  clear F176
  have F187 := Lib.hid (LfIn.below F177.out b183)
  clear F177
  have F188 := Lib.hid (LfIn.below F178.out b183)
  clear F178
  have F189 := Lib.hid (LfIn.below F179.out b183)
  clear F179
  have hz190 : w169.heap.size ≤ w182.heap.size := b183.size
  replace hb := hb.trans (b183.mono hb.size)
  clear b183
  go_wp2_with fail
  refine (markBoxS_g _ ((allL l_List l_Log).1) _ 1 rfl f76 _ F187.out ND88.out (by have := CN_r0.out; omega) (by have := SZ_r0.out; omega)).mono ?_
  rintro e w191 ⟨rfl, i194, g193⟩
  clear F187
  have F195 := Lib.hid (LfIn.rd _ _ _ i194)
  have F196 := Lib.hid (LfIn.away F184.out g193 (fun q hq hm => by have h1 := LO14.out q hq; have h2 := HI15.out q hq; have h3 := LO86.out q hm; have h4 := HI87.out q hm; omega))
  clear F184
  have F197 := Lib.hid (LfIn.away F185.out g193 (fun q hq hm => by have h1 := LO26.out q hq; have h2 := HI27.out q hq; have h3 := LO86.out q hm; have h4 := HI87.out q hm; omega))
  clear F185
  have F198 := Lib.hid (LfIn.away F186.out g193 (fun q hq hm => by have h1 := LO40.out q hq; have h2 := HI41.out q hq; have h3 := LO86.out q hm; have h4 := HI87.out q hm; omega))
  clear F186
  have F199 := Lib.hid (LfIn.away F188.out g193 (fun q hq hm => by have h1 := LO112.out q hq; have h2 := HI113.out q hq; have h3 := LO86.out q hm; have h4 := HI87.out q hm; omega))
  clear F188
  have F200 := Lib.hid (LfIn.away F189.out g193 (fun q hq hm => by have h1 := LO140.out q hq; have h2 := HI141.out q hq; have h3 := LO86.out q hm; have h4 := HI87.out q hm; omega))
  clear F189
  have hz201 : w182.heap.size ≤ w191.heap.size := g193.size
  replace hb := GrownIn.below hb g193 hb.size (fun q hq => by have h3 := LO86.out q hq; have h9 := hbz.out; omega)
  clear g193 i194
  obtain ⟨K202, hK202⟩ : ∃ K : Nat, K = 1 + cntLf (boxsLf ((allL l_List l_Log).1)) := ⟨_, rfl⟩
  rw [← hK202]
  have hnK202 : ¬ (K202 : Int) < 0 := by omega
  have hdK202 : decide ((K202 : Int) < 0) = false := decide_eq_false hnK202
  have HK202 := Lib.hid hK202
  clear hK202
  go_wp2_with fail
  refine (heldBoxS_g _ ((allL l_List l_Log).1) _ 1 rfl _ F195.out (by have := CN_r0.out; omega) (by have := SZ_r0.out; omega)).mono ?_
  rintro e w203 ⟨rfl, b204⟩
  rw [← HK202.out]
  have F205 := Lib.hid (LfIn.below F196.out b204)
  clear F196
  have F206 := Lib.hid (LfIn.below F197.out b204)
  clear F197
  have F207 := Lib.hid (LfIn.below F198.out b204)
  clear F198
  have F208 := Lib.hid (LfIn.below F199.out b204)
  clear F199
  have F209 := Lib.hid (LfIn.below F200.out b204)
  clear F200
  have F210 := Lib.hid (LfRd.below b204 _ _ F195.out)
  clear F195
  have hz211 : w191.heap.size ≤ w203.heap.size := b204.size
  replace hb := hb.trans (b204.mono hb.size)
  clear b204
  go_wp2_with fail
  refine (C_to_List.out _ (LfRd.below hb _ _ H_v_List.out)).mono ?_
  rintro e w212 ⟨z215, f216, rfl, t217, b213⟩
  have F218 := Lib.hid (LfIn.below F205.out b213)
  clear F205
  have F219 := Lib.hid (LfIn.below F206.out b213)
  clear F206
  have F220 := Lib.hid (LfIn.below F207.out b213)
  clear F207
  have F221 := Lib.hid (LfIn.below F208.out b213)
  clear F208
  have F222 := Lib.hid (LfIn.below F209.out b213)
  clear F209
  have F223 := Lib.hid (LfRd.below b213 _ _ F210.out)
  clear F210
  have hz224 : w203.heap.size ≤ w212.heap.size := b213.size
  replace hb := hb.trans (b213.mono hb.size)
  have LO225 := Lib.hid (show ∀ q ∈ f216, w203.heap.size ≤ q from t217.low)
  have HI226 := Lib.hid (show ∀ q ∈ f216, q < w212.heap.size from fun q hq => LfIn.lt _ _ _ t217.is q hq)
  have ND227 := Lib.hid t217.nodup
  have F228 := Lib.hid t217.is
  obtain ⟨pz215, cz215, rfl⟩ := LfIn.slice t217.is
  clear t217
  clear b213
  go_wp2_with fail
  refine (C_to_Log.out _ (LfRd.below hb _ _ H_v_Log.out)).mono ?_
  rintro e w229 ⟨z232, f233, rfl, t234, b230⟩
  have F235 := Lib.hid (LfIn.below F218.out b230)
  clear F218
  have F236 := Lib.hid (LfIn.below F219.out b230)
  clear F219
  have F237 := Lib.hid (LfIn.below F220.out b230)
  clear F220
  have F238 := Lib.hid (LfIn.below F221.out b230)
  clear F221
  have F239 := Lib.hid (LfIn.below F222.out b230)
  clear F222
  have F240 := Lib.hid (LfRd.below b230 _ _ F223.out)
  clear F223
  have F241 := Lib.hid (LfIn.below F228.out b230)
  clear F228
  have hz242 : w212.heap.size ≤ w229.heap.size := b230.size
  replace hb := hb.trans (b230.mono hb.size)
  have LO243 := Lib.hid (show ∀ q ∈ f233, w212.heap.size ≤ q from t234.low)
  have HI244 := Lib.hid (show ∀ q ∈ f233, q < w229.heap.size from fun q hq => LfIn.lt _ _ _ t234.is q hq)
  have ND245 := Lib.hid t234.nodup
  have F246 := Lib.hid t234.is
  obtain ⟨pz232, cz232, rfl⟩ := LfIn.slice t234.is
  clear t234
  clear b230
  go_wp2_with fail
  refine (C_impl.out _ _ _ (hK _ _ hG hb) (LfIn.rd _ _ _ F241.out) (CapLe.of_in F241.out) (LfIn.rd _ _ _ F246.out) (CapLe.of_in F246.out)).mono ?_
  rintro e w247 ⟨z249, f250, rfl, i251, nd252, lo253, b248⟩
  have F254 := Lib.hid (LfIn.below F235.out b248)
  clear F235
  have F255 := Lib.hid (LfIn.below F236.out b248)
  clear F236
  have F256 := Lib.hid (LfIn.below F237.out b248)
  clear F237
  have F257 := Lib.hid (LfIn.below F238.out b248)
  clear F238
  have F258 := Lib.hid (LfIn.below F239.out b248)
  clear F239
  have F259 := Lib.hid (LfRd.below b248 _ _ F240.out)
  clear F240
  have F260 := Lib.hid (LfIn.below F241.out b248)
  clear F241
  have F261 := Lib.hid (LfIn.below F246.out b248)
  clear F246
  have hz262 : w229.heap.size ≤ w247.heap.size := b248.size
  replace hb := hb.trans (b248.mono hb.size)
  have LO263 := Lib.hid (show ∀ q ∈ f250, w229.heap.size ≤ q from lo253)
  have HI264 := Lib.hid (show ∀ q ∈ f250, q < w247.heap.size from fun q hq => LfIn.lt _ _ _ i251 q hq)
  have ND265 := Lib.hid nd252
  have F266 := Lib.hid i251
  obtain ⟨pz249, cz249, rfl⟩ := LfIn.slice i251
  clear i251
  clear nd252 lo253
  clear b248
  go_wp2_with fail
  refine (eqBoxS_g _ _ ((allL l_List l_Log).1) _ (LfIn.rd _ _ _ F266.out) (LfIn.rd _ _ _ F256.out) (by have := SZ_r0.out; omega)).mono ?_
  rintro e w267 ⟨rfl, b268⟩
  have F269 := Lib.hid (LfIn.below F254.out b268)
  clear F254
  have F270 := Lib.hid (LfIn.below F255.out b268)
  clear F255
  have F271 := Lib.hid (LfIn.below F256.out b268)
  clear F256
  have F272 := Lib.hid (LfIn.below F257.out b268)
  clear F257
  have F273 := Lib.hid (LfIn.below F258.out b268)
  clear F258
  have F274 := Lib.hid (LfRd.below b268 _ _ F259.out)
  clear F259
  have F275 := Lib.hid (LfIn.below F260.out b268)
  clear F260
  have F276 := Lib.hid (LfIn.below F261.out b268)
  clear F261
  have F277 := Lib.hid (LfIn.below F266.out b268)
  clear F266
  have hz278 : w247.heap.size ≤ w267.heap.size := b268.size
  replace hb := hb.trans (b268.mono hb.size)
  clear b268
  go_wp2_with fail
  refine (heldBoxS_g _ ((allL l_List l_Log).1) _ 1 rfl _ F274.out (by have := CN_r0.out; omega) (by have := SZ_r0.out; omega)).mono ?_
  rintro e w279 ⟨rfl, b280⟩
  rw [← HK202.out]
  have F281 := Lib.hid (LfIn.below F269.out b280)
  clear F269
  have F282 := Lib.hid (LfIn.below F270.out b280)
  clear F270
  have F283 := Lib.hid (LfIn.below F271.out b280)
  clear F271
  have F284 := Lib.hid (LfIn.below F272.out b280)
  clear F272
  have F285 := Lib.hid (LfIn.below F273.out b280)
  clear F273
  have F286 := Lib.hid (LfRd.below b280 _ _ F274.out)
  clear F274
  have F287 := Lib.hid (LfIn.below F275.out b280)
  clear F275
  have F288 := Lib.hid (LfIn.below F276.out b280)
  clear F276
  have F289 := Lib.hid (LfIn.below F277.out b280)
  clear F277
  have hz290 : w267.heap.size ≤ w279.heap.size := b280.size
  replace hb := hb.trans (b280.mono hb.size)
  clear b280
  go_wp2
  go_ret
  exact ⟨rfl, hb⟩

end Go.Proofs.YtbfgdbpfecffcaaGreatDoor

namespace Go.Proofs.YtbfgdbpfecffcaaGreatDoor
open Go.RowKit

def CtrApplied (f : FuncId) (G : World → Prop) : Prop := ∀ (l_List : List BoxD) (v_List : Value) (x_M : ComD) (W : World), G W → LfRd W (boxsLf l_List) v_List → CapLe v_List → szLf (boxsLf l_List) ≤ 1048576 → LfBnd (boxsLf l_List) → szLs x_M.lf ≤ 1048576 → LsBnd x_M.lf → 
  Calls Tryz.prog f #[v_List, .agg #[.int .i64 x_M.kind, .int .i64 x_M.validity, .int .i64 x_M.uid, .int .i64 x_M.flags, sv x_M.name, sv x_M.text]] W fun e w' => ∃ z0 f0, e = .returned (.tuple #[z0, .bool (appB l_List x_M)]) ∧ LfIn w' (boxsLf (appliedL l_List x_M)) z0 f0 ∧ f0.Nodup ∧ (∀ q ∈ f0, W.heap.size ≤ q) ∧ Below W.heap.size W w'

set_option maxRecDepth 20000 in
set_option maxHeartbeats 12800000 in
theorem FnExactApplied_of {G : World → Prop} (hK : Keeps G) (SP : CtrApplied 19 (fun _ => True)) (IM : CtrApplied 18 G) (l_List : List BoxD) (v_List : Value) (x_M : ComD) (w : World) (hG : G w) (h_v_List : LfRd w (boxsLf l_List) v_List) (hb_List : LfBnd (boxsLf l_List)) (hb_M : LsBnd x_M.lf) (hr_0 : szLf (boxsLf l_List) ≤ 1048576 → szLs x_M.lf ≤ 1048576 → szLf (boxsLf (appliedL l_List x_M)) ≤ 1000000000) :
    Calls Tryz.prog 9 #[v_List, .agg #[.int .i64 x_M.kind, .int .i64 x_M.validity, .int .i64 x_M.uid, .int .i64 x_M.flags, sv x_M.name, sv x_M.text]] w fun e w' => e = .returned (.bool true) ∧ Below w.heap.size w w' := by
  have H_v_List := Lib.hid h_v_List
  obtain ⟨p_List, c_List, rfl⟩ := LfRd.slice h_v_List
  clear h_v_List
  by_cases k0 : szLf (boxsLf l_List) ≤ 1048576
  case neg =>
    have q0 := fun (ll : Int) (W : World) (hl : ll = ((1048576 : Nat) : Int)) (g : LfRd W (boxsLf l_List) (.slice p_List l_List.length c_List)) => szBoxS_g (.slice p_List l_List.length c_List) l_List ll 1048576 hl W g hb_List (by omega)
    simp only [show szN 1048576 (szLf (boxsLf l_List)) = -1 from szN_no k0] at q0
    have C_sz0 := Lib.hid q0
    clear q0 SP IM hr_0
    have hb : Below w.heap.size w (w.alloc (.cells #[.int .i64 x_M.kind, .int .i64 x_M.validity, .int .i64 x_M.uid, .int .i64 x_M.flags, sv x_M.name, sv x_M.text] 57)) := ((Below.refl _ _).alloc (Nat.le_refl _) _)
    have HB1 := Lib.hid (show (w.alloc (.cells #[.int .i64 x_M.kind, .int .i64 x_M.validity, .int .i64 x_M.uid, .int .i64 x_M.flags, sv x_M.name, sv x_M.text] 57)).heap[w.heap.size]? = some (.cells #[.int .i64 x_M.kind, .int .i64 x_M.validity, .int .i64 x_M.uid, .int .i64 x_M.flags, sv x_M.name, sv x_M.text] 57 (0, 0)) from by
      have h := heap_alloc_new w (.cells #[.int .i64 x_M.kind, .int .i64 x_M.validity, .int .i64 x_M.uid, .int .i64 x_M.flags, sv x_M.name, sv x_M.text] 57)
      exact h)
    have hz0 : w.heap.size + 1 ≤ (w.alloc (.cells #[.int .i64 x_M.kind, .int .i64 x_M.validity, .int .i64 x_M.uid, .int .i64 x_M.flags, sv x_M.name, sv x_M.text] 57)).heap.size := by simp
    generalize hW0 : (w.alloc (.cells #[.int .i64 x_M.kind, .int .i64 x_M.validity, .int .i64 x_M.uid, .int .i64 x_M.flags, sv x_M.name, sv x_M.text] 57)) = W0 at *
    go_enter Tryz.func9, Tryz.ntmps9
    have hbz := Lib.hid hb.size
    go_wp2_with fail
    refine (C_sz0.out _ _ (by first | rfl | omega) (LfRd.below hb _ _ H_v_List.out)).mono ?_
    rintro e w2 ⟨rfl, b3⟩
    have F4 := Lib.hid ((b3.block (w.heap.size) (Array.getElem?_eq_some_iff.1 HB1.out).1).trans HB1.out)
    clear HB1
    have hz5 : W0.heap.size ≤ w2.heap.size := b3.size
    replace hb := hb.trans (b3.mono hb.size)
    clear b3
    go_wp2
    go_ret
    exact ⟨rfl, hb⟩
  obtain ⟨L1, hL1⟩ : ∃ L, L + szLf (boxsLf l_List) = 1048576 := ⟨1048576 - szLf (boxsLf l_List), by omega⟩
  have bL1 : L1 ≤ 1048576 := by omega
  have nL1 : ¬ (L1 : Int) < 0 := by omega
  have q0 := fun (ll : Int) (W : World) (hl : ll = ((1048576 : Nat) : Int)) (g : LfRd W (boxsLf l_List) (.slice p_List l_List.length c_List)) => szBoxS_g (.slice p_List l_List.length c_List) l_List ll 1048576 hl W g hb_List (by omega)
  simp only [show szN 1048576 (szLf (boxsLf l_List)) = (L1 : Int) from by rw [szN_yes k0]; omega] at q0
  have C_sz0 := Lib.hid q0
  clear q0
  have HL1 := Lib.hid hL1
  have hsz_0 : szLf (boxsLf l_List) ≤ 1048576 := by omega
  clear hL1
  by_cases k1 : szLs x_M.lf ≤ L1
  case neg =>
    have q1 := fun (ll : Int) (W : World) (hl : ll = ((L1 : Nat) : Int)) => szCommit_g x_M ll L1 hl W hb_M (by omega)
    simp only [show szN L1 (szLs x_M.lf) = -1 from szN_no k1] at q1
    have C_sz1 := Lib.hid q1
    clear q1 SP IM hr_0
    have hb : Below w.heap.size w (w.alloc (.cells #[.int .i64 x_M.kind, .int .i64 x_M.validity, .int .i64 x_M.uid, .int .i64 x_M.flags, sv x_M.name, sv x_M.text] 57)) := ((Below.refl _ _).alloc (Nat.le_refl _) _)
    have HB1 := Lib.hid (show (w.alloc (.cells #[.int .i64 x_M.kind, .int .i64 x_M.validity, .int .i64 x_M.uid, .int .i64 x_M.flags, sv x_M.name, sv x_M.text] 57)).heap[w.heap.size]? = some (.cells #[.int .i64 x_M.kind, .int .i64 x_M.validity, .int .i64 x_M.uid, .int .i64 x_M.flags, sv x_M.name, sv x_M.text] 57 (0, 0)) from by
      have h := heap_alloc_new w (.cells #[.int .i64 x_M.kind, .int .i64 x_M.validity, .int .i64 x_M.uid, .int .i64 x_M.flags, sv x_M.name, sv x_M.text] 57)
      exact h)
    have hz0 : w.heap.size + 1 ≤ (w.alloc (.cells #[.int .i64 x_M.kind, .int .i64 x_M.validity, .int .i64 x_M.uid, .int .i64 x_M.flags, sv x_M.name, sv x_M.text] 57)).heap.size := by simp
    generalize hW0 : (w.alloc (.cells #[.int .i64 x_M.kind, .int .i64 x_M.validity, .int .i64 x_M.uid, .int .i64 x_M.flags, sv x_M.name, sv x_M.text] 57)) = W0 at *
    go_enter Tryz.func9, Tryz.ntmps9
    have hbz := Lib.hid hb.size
    go_wp2_with fail
    refine (C_sz0.out _ _ (by first | rfl | omega) (LfRd.below hb _ _ H_v_List.out)).mono ?_
    rintro e w2 ⟨rfl, b3⟩
    have F4 := Lib.hid ((b3.block (w.heap.size) (Array.getElem?_eq_some_iff.1 HB1.out).1).trans HB1.out)
    clear HB1
    have hz5 : W0.heap.size ≤ w2.heap.size := b3.size
    replace hb := hb.trans (b3.mono hb.size)
    clear b3
    have y6 := (Lib.cell_of_heap F4.out 0).trans (show _ = some (.int .i64 x_M.kind) from rfl)
    have y7 := (Lib.cell_of_heap F4.out 1).trans (show _ = some (.int .i64 x_M.validity) from rfl)
    have y8 := (Lib.cell_of_heap F4.out 2).trans (show _ = some (.int .i64 x_M.uid) from rfl)
    have y9 := (Lib.cell_of_heap F4.out 3).trans (show _ = some (.int .i64 x_M.flags) from rfl)
    have y10 := (Lib.cell_of_heap F4.out 4).trans (show _ = some (sv x_M.name) from rfl)
    have y11 := (Lib.cell_of_heap F4.out 5).trans (show _ = some (sv x_M.text) from rfl)
    go_wp2_with fail
    refine (C_sz1.out _ _ (by first | rfl | omega) ).mono ?_
    rintro e w12 ⟨rfl, b13⟩
    clear y6 y7 y8 y9 y10 y11
    have F14 := Lib.hid ((b13.block (w.heap.size) (Array.getElem?_eq_some_iff.1 F4.out).1).trans F4.out)
    clear F4
    have hz15 : w2.heap.size ≤ w12.heap.size := b13.size
    replace hb := hb.trans (b13.mono hb.size)
    clear b13
    go_wp2
    go_ret
    exact ⟨rfl, hb⟩
  obtain ⟨L2, hL2⟩ : ∃ L, L + szLs x_M.lf = L1 := ⟨L1 - szLs x_M.lf, by omega⟩
  have bL2 : L2 ≤ 1048576 := by omega
  have nL2 : ¬ (L2 : Int) < 0 := by omega
  have q1 := fun (ll : Int) (W : World) (hl : ll = ((L1 : Nat) : Int)) => szCommit_g x_M ll L1 hl W hb_M (by omega)
  simp only [show szN L1 (szLs x_M.lf) = (L2 : Int) from by rw [szN_yes k1]; omega] at q1
  have C_sz1 := Lib.hid q1
  clear q1
  have HL2 := Lib.hid hL2
  have hsz_1 : szLs x_M.lf ≤ 1048576 := by omega
  clear hL2
  have hsm_List : szLf (boxsLf l_List) ≤ 1048576 := by omega
  have SZ_List := Lib.hid hsm_List
  have CN_List := Lib.hid (show 1 + cntLf (boxsLf l_List) ≤ 1000000000 from by have h := cntRow_le (boxsLf_fit l_List); have h2 : szLf (boxsLf l_List) ≤ 1048576 := hsm_List; simp only [boxsLf] at h h2 ⊢; omega)
  have C_to_List := Lib.hid (fun (W : World) (g : LfRd W (boxsLf l_List) (.slice p_List l_List.length c_List)) => toBoxS_g (.slice p_List l_List.length c_List) l_List W g (by omega))
  have hsm_M : szLs x_M.lf ≤ 1048576 := by omega
  have SZ_M := Lib.hid hsm_M
  have C_to_M := Lib.hid (fun (W : World) => toCommit_g x_M W (by omega))
  have C_spec := Lib.hid (fun (u_List_0 : Value) (W : World) (k_List_0 : LfRd W (boxsLf l_List) u_List_0) (kc_List : CapLe u_List_0) => SP l_List u_List_0 x_M W trivial k_List_0 kc_List hsm_List hb_List hsm_M hb_M)
  have C_impl := Lib.hid (fun (u_List_0 : Value) (W : World) (hg : G W) (k_List_0 : LfRd W (boxsLf l_List) u_List_0) (kc_List : CapLe u_List_0) => IM l_List u_List_0 x_M W hg k_List_0 kc_List hsm_List hb_List hsm_M hb_M)
  have hq_0 := hr_0 hsm_List hsm_M
  have SZ_r0 := Lib.hid hq_0
  have CN_r0 := Lib.hid (show 1 + cntLf (boxsLf (appliedL l_List x_M)) ≤ 100000000000 from by have h := cntRow_le (boxsLf_fit (appliedL l_List x_M)); simp only [boxsLf] at h hq_0 ⊢; omega)
  clear hq_0
  clear SP IM hr_0 hb_List hsm_List hb_M hsm_M
  generalize (appB l_List x_M) = R1 at *
  have ne1 : (R1 != R1) = false := by simp
  have hb : Below w.heap.size w (w.alloc (.cells #[.int .i64 x_M.kind, .int .i64 x_M.validity, .int .i64 x_M.uid, .int .i64 x_M.flags, sv x_M.name, sv x_M.text] 57)) := ((Below.refl _ _).alloc (Nat.le_refl _) _)
  have HB1 := Lib.hid (show (w.alloc (.cells #[.int .i64 x_M.kind, .int .i64 x_M.validity, .int .i64 x_M.uid, .int .i64 x_M.flags, sv x_M.name, sv x_M.text] 57)).heap[w.heap.size]? = some (.cells #[.int .i64 x_M.kind, .int .i64 x_M.validity, .int .i64 x_M.uid, .int .i64 x_M.flags, sv x_M.name, sv x_M.text] 57 (0, 0)) from by
    have h := heap_alloc_new w (.cells #[.int .i64 x_M.kind, .int .i64 x_M.validity, .int .i64 x_M.uid, .int .i64 x_M.flags, sv x_M.name, sv x_M.text] 57)
    exact h)
  have hz0 : w.heap.size + 1 ≤ (w.alloc (.cells #[.int .i64 x_M.kind, .int .i64 x_M.validity, .int .i64 x_M.uid, .int .i64 x_M.flags, sv x_M.name, sv x_M.text] 57)).heap.size := by simp
  generalize hW0 : (w.alloc (.cells #[.int .i64 x_M.kind, .int .i64 x_M.validity, .int .i64 x_M.uid, .int .i64 x_M.flags, sv x_M.name, sv x_M.text] 57)) = W0 at *
  go_enter Tryz.func9, Tryz.ntmps9
  have hbz := Lib.hid hb.size
  go_wp2_with fail
  refine (C_sz0.out _ _ (by first | rfl | omega) (LfRd.below hb _ _ H_v_List.out)).mono ?_
  rintro e w2 ⟨rfl, b3⟩
  have F4 := Lib.hid ((b3.block (w.heap.size) (Array.getElem?_eq_some_iff.1 HB1.out).1).trans HB1.out)
  clear HB1
  have hz5 : W0.heap.size ≤ w2.heap.size := b3.size
  replace hb := hb.trans (b3.mono hb.size)
  clear b3
  have y6 := (Lib.cell_of_heap F4.out 0).trans (show _ = some (.int .i64 x_M.kind) from rfl)
  have y7 := (Lib.cell_of_heap F4.out 1).trans (show _ = some (.int .i64 x_M.validity) from rfl)
  have y8 := (Lib.cell_of_heap F4.out 2).trans (show _ = some (.int .i64 x_M.uid) from rfl)
  have y9 := (Lib.cell_of_heap F4.out 3).trans (show _ = some (.int .i64 x_M.flags) from rfl)
  have y10 := (Lib.cell_of_heap F4.out 4).trans (show _ = some (sv x_M.name) from rfl)
  have y11 := (Lib.cell_of_heap F4.out 5).trans (show _ = some (sv x_M.text) from rfl)
  go_wp2_with fail
  refine (C_sz1.out _ _ (by first | rfl | omega) ).mono ?_
  rintro e w12 ⟨rfl, b13⟩
  clear y6 y7 y8 y9 y10 y11
  have F14 := Lib.hid ((b13.block (w.heap.size) (Array.getElem?_eq_some_iff.1 F4.out).1).trans F4.out)
  clear F4
  have hz15 : w2.heap.size ≤ w12.heap.size := b13.size
  replace hb := hb.trans (b13.mono hb.size)
  clear b13
  go_wp2
  refine ord_start [(0, true), (2, true), (1, false), (3, false), (4, false), (5, true), (6, true), (7, true), (8, true), (9, true)] (fun W => W.heap[w.heap.size]? = some (.cells #[.int .i64 x_M.kind, .int .i64 x_M.validity, .int .i64 x_M.uid, .int .i64 x_M.flags, sv x_M.name, sv x_M.text] 57 (0, 0))) (by kernel_rfl) (by kernel_rfl) rfl (by kernel_rfl) ?_
  intro ops' hops
  clear hops
  simp only [List.map_cons, List.map_nil, pickOp_zero, pickOp_succ]
  have b17 : Below w12.heap.size w12 w12.drew := (Below.refl _ _).drew
  have hz18 : w12.drew.heap.size = w12.heap.size := rfl
  generalize w12.drew = D16 at *
  have F19 := Lib.hid ((b17.block (w.heap.size) (Array.getElem?_eq_some_iff.1 F14.out).1).trans F14.out)
  clear F14
  have hz20 : w12.heap.size ≤ D16.heap.size := b17.size
  replace hb := hb.trans (b17.mono hb.size)
  clear b17
  iterate 1 (refine ord_flo ?_ (fun _ _ _ h => h) rfl ?_ F19.out ?_; rotate_left; focus (intro W hS; obtain _s := hS; go_simp; rfl))
  refine ord_flo (.agg #[.int .i64 x_M.kind, .int .i64 x_M.validity, .int .i64 x_M.uid, .int .i64 x_M.flags, sv x_M.name, sv x_M.text]) (fun _ _ _ h => h) rfl ?_ F19.out ?_
  · intro W hS
    have y0 := (Lib.cell_of_heap hS 0).trans (show _ = some (.int .i64 x_M.kind) from rfl)
    have y1 := (Lib.cell_of_heap hS 1).trans (show _ = some (.int .i64 x_M.validity) from rfl)
    have y2 := (Lib.cell_of_heap hS 2).trans (show _ = some (.int .i64 x_M.uid) from rfl)
    have y3 := (Lib.cell_of_heap hS 3).trans (show _ = some (.int .i64 x_M.flags) from rfl)
    have y4 := (Lib.cell_of_heap hS 4).trans (show _ = some (sv x_M.name) from rfl)
    have y5 := (Lib.cell_of_heap hS 5).trans (show _ = some (sv x_M.text) from rfl)
    clear hS
    go_simp
  refine ord_ev rfl ?_
  go_simp
  refine (C_to_List.out _ (LfRd.below hb _ _ H_v_List.out)).mono ?_
  rintro e w21 ⟨z24, f25, rfl, t26, b22⟩
  have F27 := Lib.hid ((b22.block (w.heap.size) (Array.getElem?_eq_some_iff.1 F19.out).1).trans F19.out)
  clear F19
  have hz28 : D16.heap.size ≤ w21.heap.size := b22.size
  replace hb := hb.trans (b22.mono hb.size)
  have LO29 := Lib.hid (show ∀ q ∈ f25, D16.heap.size ≤ q from t26.low)
  have HI30 := Lib.hid (show ∀ q ∈ f25, q < w21.heap.size from fun q hq => LfIn.lt _ _ _ t26.is q hq)
  have ND31 := Lib.hid t26.nodup
  have F32 := Lib.hid t26.is
  obtain ⟨pz24, cz24, rfl⟩ := LfIn.slice t26.is
  clear t26
  clear b22
  refine ⟨F27.out, ?_⟩
  refine ord_ev rfl ?_
  go_simp
  refine (C_to_M.out _ ).mono ?_
  rintro e w33 ⟨rfl, b34⟩
  have F36 := Lib.hid ((b34.block (w.heap.size) (Array.getElem?_eq_some_iff.1 F27.out).1).trans F27.out)
  clear F27
  have F37 := Lib.hid (LfIn.below F32.out b34)
  clear F32
  have hz38 : w21.heap.size ≤ w33.heap.size := b34.size
  replace hb := hb.trans (b34.mono hb.size)
  clear b34
  refine ⟨F36.out, ?_⟩
  refine ord_ev rfl ?_
  go_simp
  refine (C_spec.out _ _ (LfIn.rd _ _ _ F37.out) (CapLe.of_in F37.out)).mono ?_
  rintro e w39 ⟨z41, f42, rfl, i43, nd44, lo45, b40⟩
  have F46 := Lib.hid ((b40.block (w.heap.size) (Array.getElem?_eq_some_iff.1 F36.out).1).trans F36.out)
  clear F36
  have F47 := Lib.hid (LfIn.below F37.out b40)
  clear F37
  have hz48 : w33.heap.size ≤ w39.heap.size := b40.size
  replace hb := hb.trans (b40.mono hb.size)
  have LO49 := Lib.hid (show ∀ q ∈ f42, w33.heap.size ≤ q from lo45)
  have HI50 := Lib.hid (show ∀ q ∈ f42, q < w39.heap.size from fun q hq => LfIn.lt _ _ _ i43 q hq)
  have ND51 := Lib.hid nd44
  have F52 := Lib.hid i43
  obtain ⟨pz41, cz41, rfl⟩ := LfIn.slice i43
  clear i43
  clear nd44 lo45
  clear b40
  refine ⟨F46.out, ?_⟩
  iterate 1 (refine ord_flo ?_ (fun _ _ _ h => h) rfl ?_ F46.out ?_; rotate_left; focus (intro W hS; obtain _s := hS; go_simp; rfl))
  iterate 1 (refine ord_flo ?_ (fun _ _ _ h => h) rfl ?_ F46.out ?_; rotate_left; focus (intro W hS; obtain _s := hS; go_simp; rfl))
  iterate 1 (refine ord_flo ?_ (fun _ _ _ h => h) rfl ?_ F46.out ?_; rotate_left; focus (intro W hS; obtain _s := hS; go_simp; rfl))
  iterate 1 (refine ord_flo ?_ (fun _ _ _ h => h) rfl ?_ F46.out ?_; rotate_left; focus (intro W hS; obtain _s := hS; go_simp; rfl))
  iterate 1 (refine ord_flo ?_ (fun _ _ _ h => h) rfl ?_ F46.out ?_; rotate_left; focus (intro W hS; obtain _s := hS; go_simp; rfl))
  refine ord_done ?_
  go_simp
  go_wp2_with fail
  refine (C_to_List.out _ (LfRd.below hb _ _ H_v_List.out)).mono ?_
  rintro e w53 ⟨z56, f57, rfl, t58, b54⟩
  have F59 := Lib.hid ((b54.block (w.heap.size) (Array.getElem?_eq_some_iff.1 F46.out).1).trans F46.out)
  clear F46
  have F60 := Lib.hid (LfIn.below F47.out b54)
  clear F47
  have F61 := Lib.hid (LfIn.below F52.out b54)
  clear F52
  have hz62 : w39.heap.size ≤ w53.heap.size := b54.size
  replace hb := hb.trans (b54.mono hb.size)
  have LO63 := Lib.hid (show ∀ q ∈ f57, w39.heap.size ≤ q from t58.low)
  have HI64 := Lib.hid (show ∀ q ∈ f57, q < w53.heap.size from fun q hq => LfIn.lt _ _ _ t58.is q hq)
  have ND65 := Lib.hid t58.nodup
  have F66 := Lib.hid t58.is
  obtain ⟨pz56, cz56, rfl⟩ := LfIn.slice t58.is
  clear t58
  clear b54
  have y67 := (Lib.cell_of_heap F59.out 0).trans (show _ = some (.int .i64 x_M.kind) from rfl)
  have y68 := (Lib.cell_of_heap F59.out 1).trans (show _ = some (.int .i64 x_M.validity) from rfl)
  have y69 := (Lib.cell_of_heap F59.out 2).trans (show _ = some (.int .i64 x_M.uid) from rfl)
  have y70 := (Lib.cell_of_heap F59.out 3).trans (show _ = some (.int .i64 x_M.flags) from rfl)
  have y71 := (Lib.cell_of_heap F59.out 4).trans (show _ = some (sv x_M.name) from rfl)
  have y72 := (Lib.cell_of_heap F59.out 5).trans (show _ = some (sv x_M.text) from rfl)
  go_wp2_with fail
  refine (C_to_M.out _ ).mono ?_
  rintro e w73 ⟨rfl, b74⟩
  clear y67 y68 y69 y70 y71 y72
  have F76 := Lib.hid ((b74.block (w.heap.size) (Array.getElem?_eq_some_iff.1 F59.out).1).trans F59.out)
  clear F59
  have F77 := Lib.hid (LfIn.below F60.out b74)
  clear F60
  have F78 := Lib.hid (LfIn.below F61.out b74)
  clear F61
  have F79 := Lib.hid (LfIn.below F66.out b74)
  clear F66
  have hz80 : w53.heap.size ≤ w73.heap.size := b74.size
  replace hb := hb.trans (b74.mono hb.size)
  clear b74
  go_wp2_with fail
  refine (C_impl.out _ _ (hK _ _ hG hb) (LfIn.rd _ _ _ F79.out) (CapLe.of_in F79.out)).mono ?_
  rintro e w81 ⟨z83, f84, rfl, i85, nd86, lo87, b82⟩
  have F88 := Lib.hid ((b82.block (w.heap.size) (Array.getElem?_eq_some_iff.1 F76.out).1).trans F76.out)
  clear F76
  have F89 := Lib.hid (LfIn.below F77.out b82)
  clear F77
  have F90 := Lib.hid (LfIn.below F78.out b82)
  clear F78
  have F91 := Lib.hid (LfIn.below F79.out b82)
  clear F79
  have hz92 : w73.heap.size ≤ w81.heap.size := b82.size
  replace hb := hb.trans (b82.mono hb.size)
  have LO93 := Lib.hid (show ∀ q ∈ f84, w73.heap.size ≤ q from lo87)
  have HI94 := Lib.hid (show ∀ q ∈ f84, q < w81.heap.size from fun q hq => LfIn.lt _ _ _ i85 q hq)
  have ND95 := Lib.hid nd86
  have F96 := Lib.hid i85
  obtain ⟨pz83, cz83, rfl⟩ := LfIn.slice i85
  clear i85
  clear nd86 lo87
  clear b82
  go_wp2_with fail
  refine (eqBoxS_g _ _ (appliedL l_List x_M) _ (LfIn.rd _ _ _ F96.out) (LfIn.rd _ _ _ F90.out) (by have := SZ_r0.out; omega)).mono ?_
  rintro e w97 ⟨rfl, b98⟩
  have F99 := Lib.hid ((b98.block (w.heap.size) (Array.getElem?_eq_some_iff.1 F88.out).1).trans F88.out)
  clear F88
  have F100 := Lib.hid (LfIn.below F89.out b98)
  clear F89
  have F101 := Lib.hid (LfIn.below F90.out b98)
  clear F90
  have F102 := Lib.hid (LfIn.below F91.out b98)
  clear F91
  have F103 := Lib.hid (LfIn.below F96.out b98)
  clear F96
  have hz104 : w81.heap.size ≤ w97.heap.size := b98.size
  replace hb := hb.trans (b98.mono hb.size)
  clear b98
  go_wp2_with fail
  refine (C_to_List.out _ (LfRd.below hb _ _ H_v_List.out)).mono ?_
  rintro e w105 ⟨z108, f109, rfl, t110, b106⟩
  have F111 := Lib.hid ((b106.block (w.heap.size) (Array.getElem?_eq_some_iff.1 F99.out).1).trans F99.out)
  clear F99
  have F112 := Lib.hid (LfIn.below F100.out b106)
  clear F100
  have F113 := Lib.hid (LfIn.below F101.out b106)
  clear F101
  have F114 := Lib.hid (LfIn.below F102.out b106)
  clear F102
  have F115 := Lib.hid (LfIn.below F103.out b106)
  clear F103
  have hz116 : w97.heap.size ≤ w105.heap.size := b106.size
  replace hb := hb.trans (b106.mono hb.size)
  have LO117 := Lib.hid (show ∀ q ∈ f109, w97.heap.size ≤ q from t110.low)
  have HI118 := Lib.hid (show ∀ q ∈ f109, q < w105.heap.size from fun q hq => LfIn.lt _ _ _ t110.is q hq)
  have ND119 := Lib.hid t110.nodup
  have F120 := Lib.hid t110.is
  obtain ⟨pz108, cz108, rfl⟩ := LfIn.slice t110.is
  clear t110
  clear b106
  go_wp2_with fail
  refine (eqBoxS_g _ _ l_List _ (LfIn.rd _ _ _ F114.out) (LfIn.rd _ _ _ F120.out) (by have := SZ_List.out; omega)).mono ?_
  rintro e w121 ⟨rfl, b122⟩
  have F123 := Lib.hid ((b122.block (w.heap.size) (Array.getElem?_eq_some_iff.1 F111.out).1).trans F111.out)
  clear F111
  have F124 := Lib.hid (LfIn.below F112.out b122)
  clear F112
  have F125 := Lib.hid (LfIn.below F113.out b122)
  clear F113
  have F126 := Lib.hid (LfIn.below F114.out b122)
  clear F114
  have F127 := Lib.hid (LfIn.below F115.out b122)
  clear F115
  have F128 := Lib.hid (LfIn.below F120.out b122)
  clear F120
  have hz129 : w105.heap.size ≤ w121.heap.size := b122.size
  replace hb := hb.trans (b122.mono hb.size)
  clear b122
  go_wp2_with fail
  refine (markBoxS_g _ l_List _ 1 rfl f57 _ F126.out ND65.out (by have := CN_List.out; omega) (by have := SZ_List.out; omega)).mono ?_
  rintro e w130 ⟨rfl, i133, g132⟩
  clear F126
  have F134 := Lib.hid (LfIn.rd _ _ _ i133)
  have F135 := Lib.hid ((g132.block (w.heap.size) (Array.getElem?_eq_some_iff.1 F123.out).1 (fun hm => by have h3 := LO63.out _ hm; have h4 := HI64.out _ hm; omega)).trans F123.out)
  clear F123
  have F136 := Lib.hid (LfIn.away F124.out g132 (fun q hq hm => by have h1 := LO29.out q hq; have h2 := HI30.out q hq; have h3 := LO63.out q hm; have h4 := HI64.out q hm; omega))
  clear F124
  have F137 := Lib.hid (LfIn.away F125.out g132 (fun q hq hm => by have h1 := LO49.out q hq; have h2 := HI50.out q hq; have h3 := LO63.out q hm; have h4 := HI64.out q hm; omega))
  clear F125
  have F138 := Lib.hid (LfIn.away F127.out g132 (fun q hq hm => by have h1 := LO93.out q hq; have h2 := HI94.out q hq; have h3 := LO63.out q hm; have h4 := HI64.out q hm; omega))
  clear F127
  have F139 := Lib.hid (LfIn.away F128.out g132 (fun q hq hm => by have h1 := LO117.out q hq; have h2 := HI118.out q hq; have h3 := LO63.out q hm; have h4 := HI64.out q hm; omega))
  clear F128
  have hz140 : w121.heap.size ≤ w130.heap.size := g132.size
  replace hb := GrownIn.below hb g132 hb.size (fun q hq => by have h3 := LO63.out q hq; have h9 := hbz.out; omega)
  clear F134
  clear g132 i133
  obtain ⟨K141, hK141⟩ : ∃ K : Nat, K = 1 + cntLf (boxsLf l_List) := ⟨_, rfl⟩
  rw [← hK141]
  have hnK141 : ¬ (K141 : Int) < 0 := by omega
  have hdK141 : decide ((K141 : Int) < 0) = false := decide_eq_false hnK141
  have HK141 := Lib.hid hK141
  clear hK141
  go_wp2_with fail
  refine (eqBoxS_g _ _ (appliedL l_List x_M) _ (LfIn.rd _ _ _ F138.out) (LfIn.rd _ _ _ F137.out) (by have := SZ_r0.out; omega)).mono ?_
  rintro e w142 ⟨rfl, b143⟩
  have F144 := Lib.hid ((b143.block (w.heap.size) (Array.getElem?_eq_some_iff.1 F135.out).1).trans F135.out)
  clear F135
  have F145 := Lib.hid (LfIn.below F136.out b143)
  clear F136
  have F146 := Lib.hid (LfIn.below F137.out b143)
  clear F137
  have F147 := Lib.hid (LfIn.below F138.out b143)
  clear F138
  have F148 := Lib.hid (LfIn.below F139.out b143)
  clear F139
  have hz149 : w130.heap.size ≤ w142.heap.size := b143.size
  replace hb := hb.trans (b143.mono hb.size)
  clear b143
  go_wp2_with fail
  refine (markBoxS_g _ (appliedL l_List x_M) _ 1 rfl f84 _ F147.out ND95.out (by have := CN_r0.out; omega) (by have := SZ_r0.out; omega)).mono ?_
  rintro e w150 ⟨rfl, i153, g152⟩
  clear F147
  have F154 := Lib.hid (LfIn.rd _ _ _ i153)
  have F155 := Lib.hid ((g152.block (w.heap.size) (Array.getElem?_eq_some_iff.1 F144.out).1 (fun hm => by have h3 := LO93.out _ hm; have h4 := HI94.out _ hm; omega)).trans F144.out)
  clear F144
  have F156 := Lib.hid (LfIn.away F145.out g152 (fun q hq hm => by have h1 := LO29.out q hq; have h2 := HI30.out q hq; have h3 := LO93.out q hm; have h4 := HI94.out q hm; omega))
  clear F145
  have F157 := Lib.hid (LfIn.away F146.out g152 (fun q hq hm => by have h1 := LO49.out q hq; have h2 := HI50.out q hq; have h3 := LO93.out q hm; have h4 := HI94.out q hm; omega))
  clear F146
  have F158 := Lib.hid (LfIn.away F148.out g152 (fun q hq hm => by have h1 := LO117.out q hq; have h2 := HI118.out q hq; have h3 := LO93.out q hm; have h4 := HI94.out q hm; omega))
  clear F148
  have hz159 : w142.heap.size ≤ w150.heap.size := g152.size
  replace hb := GrownIn.below hb g152 hb.size (fun q hq => by have h3 := LO93.out q hq; have h9 := hbz.out; omega)
  clear g152 i153
  obtain ⟨K160, hK160⟩ : ∃ K : Nat, K = 1 + cntLf (boxsLf (appliedL l_List x_M)) := ⟨_, rfl⟩
  rw [← hK160]
  have hnK160 : ¬ (K160 : Int) < 0 := by omega
  have hdK160 : decide ((K160 : Int) < 0) = false := decide_eq_false hnK160
  have HK160 := Lib.hid hK160
  clear hK160
  go_wp2_with fail
  refine (heldBoxS_g _ (appliedL l_List x_M) _ 1 rfl _ F154.out (by have := CN_r0.out; omega) (by have := SZ_r0.out; omega)).mono ?_
  rintro e w161 ⟨rfl, b162⟩
  rw [← HK160.out]
  have F163 := Lib.hid ((b162.block (w.heap.size) (Array.getElem?_eq_some_iff.1 F155.out).1).trans F155.out)
  clear F155
  have F164 := Lib.hid (LfIn.below F156.out b162)
  clear F156
  have F165 := Lib.hid (LfIn.below F157.out b162)
  clear F157
  have F166 := Lib.hid (LfIn.below F158.out b162)
  clear F158
  have F167 := Lib.hid (LfRd.below b162 _ _ F154.out)
  clear F154
  have hz168 : w150.heap.size ≤ w161.heap.size := b162.size
  replace hb := hb.trans (b162.mono hb.size)
  clear b162
  go_wp2
  refine ord_start [(0, true), (2, true), (1, false), (3, false), (4, false), (5, true), (6, true), (7, true), (8, true), (9, true)] (fun W => W.heap[w.heap.size]? = some (.cells #[.int .i64 x_M.kind, .int .i64 x_M.validity, .int .i64 x_M.uid, .int .i64 x_M.flags, sv x_M.name, sv x_M.text] 57 (0, 0))) (by kernel_rfl) (by kernel_rfl) rfl (by kernel_rfl) ?_
  intro ops' hops
  clear hops
  simp only [List.map_cons, List.map_nil, pickOp_zero, pickOp_succ]
  have b170 : Below w161.heap.size w161 w161.drew := (Below.refl _ _).drew
  have hz171 : w161.drew.heap.size = w161.heap.size := rfl
  generalize w161.drew = D169 at *
  have F172 := Lib.hid ((b170.block (w.heap.size) (Array.getElem?_eq_some_iff.1 F163.out).1).trans F163.out)
  clear F163
  have F173 := Lib.hid (LfIn.below F164.out b170)
  clear F164
  have F174 := Lib.hid (LfIn.below F165.out b170)
  clear F165
  have F175 := Lib.hid (LfIn.below F166.out b170)
  clear F166
  have F176 := Lib.hid (LfRd.below b170 _ _ F167.out)
  clear F167
  have hz177 : w161.heap.size ≤ D169.heap.size := b170.size
  replace hb := hb.trans (b170.mono hb.size)
  clear b170
  iterate 1 (refine ord_flo ?_ (fun _ _ _ h => h) rfl ?_ F172.out ?_; rotate_left; focus (intro W hS; obtain _s := hS; go_simp; rfl))
  refine ord_flo (.agg #[.int .i64 x_M.kind, .int .i64 x_M.validity, .int .i64 x_M.uid, .int .i64 x_M.flags, sv x_M.name, sv x_M.text]) (fun _ _ _ h => h) rfl ?_ F172.out ?_
  · intro W hS
    have y0 := (Lib.cell_of_heap hS 0).trans (show _ = some (.int .i64 x_M.kind) from rfl)
    have y1 := (Lib.cell_of_heap hS 1).trans (show _ = some (.int .i64 x_M.validity) from rfl)
    have y2 := (Lib.cell_of_heap hS 2).trans (show _ = some (.int .i64 x_M.uid) from rfl)
    have y3 := (Lib.cell_of_heap hS 3).trans (show _ = some (.int .i64 x_M.flags) from rfl)
    have y4 := (Lib.cell_of_heap hS 4).trans (show _ = some (sv x_M.name) from rfl)
    have y5 := (Lib.cell_of_heap hS 5).trans (show _ = some (sv x_M.text) from rfl)
    clear hS
    go_simp
  refine ord_ev rfl ?_
  go_simp
  refine (C_to_List.out _ (LfRd.below hb _ _ H_v_List.out)).mono ?_
  rintro e w178 ⟨z181, f182, rfl, t183, b179⟩
  have F184 := Lib.hid ((b179.block (w.heap.size) (Array.getElem?_eq_some_iff.1 F172.out).1).trans F172.out)
  clear F172
  have F185 := Lib.hid (LfIn.below F173.out b179)
  clear F173
  have F186 := Lib.hid (LfIn.below F174.out b179)
  clear F174
  have F187 := Lib.hid (LfIn.below F175.out b179)
  clear F175
  have F188 := Lib.hid (LfRd.below b179 _ _ F176.out)
  clear F176
  have hz189 : D169.heap.size ≤ w178.heap.size := b179.size
  replace hb := hb.trans (b179.mono hb.size)
  have LO190 := Lib.hid (show ∀ q ∈ f182, D169.heap.size ≤ q from t183.low)
  have HI191 := Lib.hid (show ∀ q ∈ f182, q < w178.heap.size from fun q hq => LfIn.lt _ _ _ t183.is q hq)
  have ND192 := Lib.hid t183.nodup
  have F193 := Lib.hid t183.is
  obtain ⟨pz181, cz181, rfl⟩ := LfIn.slice t183.is
  clear t183
  clear b179
  refine ⟨F184.out, ?_⟩
  refine ord_ev rfl ?_
  go_simp
  refine (C_to_M.out _ ).mono ?_
  rintro e w194 ⟨rfl, b195⟩
  have F197 := Lib.hid ((b195.block (w.heap.size) (Array.getElem?_eq_some_iff.1 F184.out).1).trans F184.out)
  clear F184
  have F198 := Lib.hid (LfIn.below F185.out b195)
  clear F185
  have F199 := Lib.hid (LfIn.below F186.out b195)
  clear F186
  have F200 := Lib.hid (LfIn.below F187.out b195)
  clear F187
  have F201 := Lib.hid (LfRd.below b195 _ _ F188.out)
  clear F188
  have F202 := Lib.hid (LfIn.below F193.out b195)
  clear F193
  have hz203 : w178.heap.size ≤ w194.heap.size := b195.size
  replace hb := hb.trans (b195.mono hb.size)
  clear b195
  refine ⟨F197.out, ?_⟩
  refine ord_ev rfl ?_
  go_simp
  refine (C_impl.out _ _ (hK _ _ hG hb) (LfIn.rd _ _ _ F202.out) (CapLe.of_in F202.out)).mono ?_
  rintro e w204 ⟨z206, f207, rfl, i208, nd209, lo210, b205⟩
  have F211 := Lib.hid ((b205.block (w.heap.size) (Array.getElem?_eq_some_iff.1 F197.out).1).trans F197.out)
  clear F197
  have F212 := Lib.hid (LfIn.below F198.out b205)
  clear F198
  have F213 := Lib.hid (LfIn.below F199.out b205)
  clear F199
  have F214 := Lib.hid (LfIn.below F200.out b205)
  clear F200
  have F215 := Lib.hid (LfRd.below b205 _ _ F201.out)
  clear F201
  have F216 := Lib.hid (LfIn.below F202.out b205)
  clear F202
  have hz217 : w194.heap.size ≤ w204.heap.size := b205.size
  replace hb := hb.trans (b205.mono hb.size)
  have LO218 := Lib.hid (show ∀ q ∈ f207, w194.heap.size ≤ q from lo210)
  have HI219 := Lib.hid (show ∀ q ∈ f207, q < w204.heap.size from fun q hq => LfIn.lt _ _ _ i208 q hq)
  have ND220 := Lib.hid nd209
  have F221 := Lib.hid i208
  obtain ⟨pz206, cz206, rfl⟩ := LfIn.slice i208
  clear i208
  clear nd209 lo210
  clear b205
  refine ⟨F211.out, ?_⟩
  iterate 1 (refine ord_flo ?_ (fun _ _ _ h => h) rfl ?_ F211.out ?_; rotate_left; focus (intro W hS; obtain _s := hS; go_simp; rfl))
  iterate 1 (refine ord_flo ?_ (fun _ _ _ h => h) rfl ?_ F211.out ?_; rotate_left; focus (intro W hS; obtain _s := hS; go_simp; rfl))
  iterate 1 (refine ord_flo ?_ (fun _ _ _ h => h) rfl ?_ F211.out ?_; rotate_left; focus (intro W hS; obtain _s := hS; go_simp; rfl))
  iterate 1 (refine ord_flo ?_ (fun _ _ _ h => h) rfl ?_ F211.out ?_; rotate_left; focus (intro W hS; obtain _s := hS; go_simp; rfl))
  iterate 1 (refine ord_flo ?_ (fun _ _ _ h => h) rfl ?_ F211.out ?_; rotate_left; focus (intro W hS; obtain _s := hS; go_simp; rfl))
  refine ord_done ?_
  go_simp
  go_wp2_with fail
  refine (eqBoxS_g _ _ (appliedL l_List x_M) _ (LfIn.rd _ _ _ F221.out) (LfIn.rd _ _ _ F213.out) (by have := SZ_r0.out; omega)).mono ?_
  rintro e w222 ⟨rfl, b223⟩
  have F224 := Lib.hid ((b223.block (w.heap.size) (Array.getElem?_eq_some_iff.1 F211.out).1).trans F211.out)
  clear F211
  have F225 := Lib.hid (LfIn.below F212.out b223)
  clear F212
  have F226 := Lib.hid (LfIn.below F213.out b223)
  clear F213
  have F227 := Lib.hid (LfIn.below F214.out b223)
  clear F214
  have F228 := Lib.hid (LfRd.below b223 _ _ F215.out)
  clear F215
  have F229 := Lib.hid (LfIn.below F216.out b223)
  clear F216
  have F230 := Lib.hid (LfIn.below F221.out b223)
  clear F221
  have hz231 : w204.heap.size ≤ w222.heap.size := b223.size
  replace hb := hb.trans (b223.mono hb.size)
  clear b223
  go_wp2_with fail
  refine (heldBoxS_g _ (appliedL l_List x_M) _ 1 rfl _ F228.out (by have := CN_r0.out; omega) (by have := SZ_r0.out; omega)).mono ?_
  rintro e w232 ⟨rfl, b233⟩
  rw [← HK160.out]
  have F234 := Lib.hid ((b233.block (w.heap.size) (Array.getElem?_eq_some_iff.1 F224.out).1).trans F224.out)
  clear F224
  have F235 := Lib.hid (LfIn.below F225.out b233)
  clear F225
  have F236 := Lib.hid (LfIn.below F226.out b233)
  clear F226
  have F237 := Lib.hid (LfIn.below F227.out b233)
  clear F227
  have F238 := Lib.hid (LfRd.below b233 _ _ F228.out)
  clear F228
  have F239 := Lib.hid (LfIn.below F229.out b233)
  clear F229
  have F240 := Lib.hid (LfIn.below F230.out b233)
  clear F230
  have hz241 : w222.heap.size ≤ w232.heap.size := b233.size
  replace hb := hb.trans (b233.mono hb.size)
  clear b233
  go_wp2
  go_ret
  exact ⟨rfl, hb⟩

end Go.Proofs.YtbfgdbpfecffcaaGreatDoor

namespace Go.Proofs.YtbfgdbpfecffcaaGreatDoor
open Go.RowKit

def CtrApplies (f : FuncId) (G : World → Prop) : Prop := ∀ (l_List : List BoxD) (v_List : Value) (x_M : ComD) (W : World), G W → LfRd W (boxsLf l_List) v_List → CapLe v_List → szLf (boxsLf l_List) ≤ 1048576 → LfBnd (boxsLf l_List) → szLs x_M.lf ≤ 1048576 → LsBnd x_M.lf → 
  Calls Tryz.prog f #[v_List, .agg #[.int .i64 x_M.kind, .int .i64 x_M.validity, .int .i64 x_M.uid, .int .i64 x_M.flags, sv x_M.name, sv x_M.text]] W fun e w' => e = .returned (.bool (appB l_List x_M)) ∧ Below W.heap.size W w'

set_option maxRecDepth 20000 in
set_option maxHeartbeats 12800000 in
theorem FnExactApplies_of {G : World → Prop} (hK : Keeps G) (SP : CtrApplies 42 (fun _ => True)) (IM : CtrApplies 21 G) (l_List : List BoxD) (v_List : Value) (x_M : ComD) (w : World) (hG : G w) (h_v_List : LfRd w (boxsLf l_List) v_List) (hb_List : LfBnd (boxsLf l_List)) (hb_M : LsBnd x_M.lf) :
    Calls Tryz.prog 8 #[v_List, .agg #[.int .i64 x_M.kind, .int .i64 x_M.validity, .int .i64 x_M.uid, .int .i64 x_M.flags, sv x_M.name, sv x_M.text]] w fun e w' => e = .returned (.bool true) ∧ Below w.heap.size w w' := by
  have H_v_List := Lib.hid h_v_List
  obtain ⟨p_List, c_List, rfl⟩ := LfRd.slice h_v_List
  clear h_v_List
  by_cases k0 : szLf (boxsLf l_List) ≤ 1048576
  case neg =>
    have q0 := fun (ll : Int) (W : World) (hl : ll = ((1048576 : Nat) : Int)) (g : LfRd W (boxsLf l_List) (.slice p_List l_List.length c_List)) => szBoxS_g (.slice p_List l_List.length c_List) l_List ll 1048576 hl W g hb_List (by omega)
    simp only [show szN 1048576 (szLf (boxsLf l_List)) = -1 from szN_no k0] at q0
    have C_sz0 := Lib.hid q0
    clear q0 SP IM
    have hb : Below w.heap.size w (w.alloc (.cells #[.int .i64 x_M.kind, .int .i64 x_M.validity, .int .i64 x_M.uid, .int .i64 x_M.flags, sv x_M.name, sv x_M.text] 57)) := ((Below.refl _ _).alloc (Nat.le_refl _) _)
    have HB1 := Lib.hid (show (w.alloc (.cells #[.int .i64 x_M.kind, .int .i64 x_M.validity, .int .i64 x_M.uid, .int .i64 x_M.flags, sv x_M.name, sv x_M.text] 57)).heap[w.heap.size]? = some (.cells #[.int .i64 x_M.kind, .int .i64 x_M.validity, .int .i64 x_M.uid, .int .i64 x_M.flags, sv x_M.name, sv x_M.text] 57 (0, 0)) from by
      have h := heap_alloc_new w (.cells #[.int .i64 x_M.kind, .int .i64 x_M.validity, .int .i64 x_M.uid, .int .i64 x_M.flags, sv x_M.name, sv x_M.text] 57)
      exact h)
    have hz0 : w.heap.size + 1 ≤ (w.alloc (.cells #[.int .i64 x_M.kind, .int .i64 x_M.validity, .int .i64 x_M.uid, .int .i64 x_M.flags, sv x_M.name, sv x_M.text] 57)).heap.size := by simp
    generalize hW0 : (w.alloc (.cells #[.int .i64 x_M.kind, .int .i64 x_M.validity, .int .i64 x_M.uid, .int .i64 x_M.flags, sv x_M.name, sv x_M.text] 57)) = W0 at *
    go_enter Tryz.func8, Tryz.ntmps8
    have hbz := Lib.hid hb.size
    go_wp2_with fail
    refine (C_sz0.out _ _ (by first | rfl | omega) (LfRd.below hb _ _ H_v_List.out)).mono ?_
    rintro e w2 ⟨rfl, b3⟩
    have F4 := Lib.hid ((b3.block (w.heap.size) (Array.getElem?_eq_some_iff.1 HB1.out).1).trans HB1.out)
    clear HB1
    have hz5 : W0.heap.size ≤ w2.heap.size := b3.size
    replace hb := hb.trans (b3.mono hb.size)
    clear b3
    go_wp2
    go_ret
    exact ⟨rfl, hb⟩
  obtain ⟨L1, hL1⟩ : ∃ L, L + szLf (boxsLf l_List) = 1048576 := ⟨1048576 - szLf (boxsLf l_List), by omega⟩
  have bL1 : L1 ≤ 1048576 := by omega
  have nL1 : ¬ (L1 : Int) < 0 := by omega
  have q0 := fun (ll : Int) (W : World) (hl : ll = ((1048576 : Nat) : Int)) (g : LfRd W (boxsLf l_List) (.slice p_List l_List.length c_List)) => szBoxS_g (.slice p_List l_List.length c_List) l_List ll 1048576 hl W g hb_List (by omega)
  simp only [show szN 1048576 (szLf (boxsLf l_List)) = (L1 : Int) from by rw [szN_yes k0]; omega] at q0
  have C_sz0 := Lib.hid q0
  clear q0
  have HL1 := Lib.hid hL1
  have hsz_0 : szLf (boxsLf l_List) ≤ 1048576 := by omega
  clear hL1
  by_cases k1 : szLs x_M.lf ≤ L1
  case neg =>
    have q1 := fun (ll : Int) (W : World) (hl : ll = ((L1 : Nat) : Int)) => szCommit_g x_M ll L1 hl W hb_M (by omega)
    simp only [show szN L1 (szLs x_M.lf) = -1 from szN_no k1] at q1
    have C_sz1 := Lib.hid q1
    clear q1 SP IM
    have hb : Below w.heap.size w (w.alloc (.cells #[.int .i64 x_M.kind, .int .i64 x_M.validity, .int .i64 x_M.uid, .int .i64 x_M.flags, sv x_M.name, sv x_M.text] 57)) := ((Below.refl _ _).alloc (Nat.le_refl _) _)
    have HB1 := Lib.hid (show (w.alloc (.cells #[.int .i64 x_M.kind, .int .i64 x_M.validity, .int .i64 x_M.uid, .int .i64 x_M.flags, sv x_M.name, sv x_M.text] 57)).heap[w.heap.size]? = some (.cells #[.int .i64 x_M.kind, .int .i64 x_M.validity, .int .i64 x_M.uid, .int .i64 x_M.flags, sv x_M.name, sv x_M.text] 57 (0, 0)) from by
      have h := heap_alloc_new w (.cells #[.int .i64 x_M.kind, .int .i64 x_M.validity, .int .i64 x_M.uid, .int .i64 x_M.flags, sv x_M.name, sv x_M.text] 57)
      exact h)
    have hz0 : w.heap.size + 1 ≤ (w.alloc (.cells #[.int .i64 x_M.kind, .int .i64 x_M.validity, .int .i64 x_M.uid, .int .i64 x_M.flags, sv x_M.name, sv x_M.text] 57)).heap.size := by simp
    generalize hW0 : (w.alloc (.cells #[.int .i64 x_M.kind, .int .i64 x_M.validity, .int .i64 x_M.uid, .int .i64 x_M.flags, sv x_M.name, sv x_M.text] 57)) = W0 at *
    go_enter Tryz.func8, Tryz.ntmps8
    have hbz := Lib.hid hb.size
    go_wp2_with fail
    refine (C_sz0.out _ _ (by first | rfl | omega) (LfRd.below hb _ _ H_v_List.out)).mono ?_
    rintro e w2 ⟨rfl, b3⟩
    have F4 := Lib.hid ((b3.block (w.heap.size) (Array.getElem?_eq_some_iff.1 HB1.out).1).trans HB1.out)
    clear HB1
    have hz5 : W0.heap.size ≤ w2.heap.size := b3.size
    replace hb := hb.trans (b3.mono hb.size)
    clear b3
    have y6 := (Lib.cell_of_heap F4.out 0).trans (show _ = some (.int .i64 x_M.kind) from rfl)
    have y7 := (Lib.cell_of_heap F4.out 1).trans (show _ = some (.int .i64 x_M.validity) from rfl)
    have y8 := (Lib.cell_of_heap F4.out 2).trans (show _ = some (.int .i64 x_M.uid) from rfl)
    have y9 := (Lib.cell_of_heap F4.out 3).trans (show _ = some (.int .i64 x_M.flags) from rfl)
    have y10 := (Lib.cell_of_heap F4.out 4).trans (show _ = some (sv x_M.name) from rfl)
    have y11 := (Lib.cell_of_heap F4.out 5).trans (show _ = some (sv x_M.text) from rfl)
    go_wp2_with fail
    refine (C_sz1.out _ _ (by first | rfl | omega) ).mono ?_
    rintro e w12 ⟨rfl, b13⟩
    clear y6 y7 y8 y9 y10 y11
    have F14 := Lib.hid ((b13.block (w.heap.size) (Array.getElem?_eq_some_iff.1 F4.out).1).trans F4.out)
    clear F4
    have hz15 : w2.heap.size ≤ w12.heap.size := b13.size
    replace hb := hb.trans (b13.mono hb.size)
    clear b13
    go_wp2
    go_ret
    exact ⟨rfl, hb⟩
  obtain ⟨L2, hL2⟩ : ∃ L, L + szLs x_M.lf = L1 := ⟨L1 - szLs x_M.lf, by omega⟩
  have bL2 : L2 ≤ 1048576 := by omega
  have nL2 : ¬ (L2 : Int) < 0 := by omega
  have q1 := fun (ll : Int) (W : World) (hl : ll = ((L1 : Nat) : Int)) => szCommit_g x_M ll L1 hl W hb_M (by omega)
  simp only [show szN L1 (szLs x_M.lf) = (L2 : Int) from by rw [szN_yes k1]; omega] at q1
  have C_sz1 := Lib.hid q1
  clear q1
  have HL2 := Lib.hid hL2
  have hsz_1 : szLs x_M.lf ≤ 1048576 := by omega
  clear hL2
  have hsm_List : szLf (boxsLf l_List) ≤ 1048576 := by omega
  have SZ_List := Lib.hid hsm_List
  have CN_List := Lib.hid (show 1 + cntLf (boxsLf l_List) ≤ 1000000000 from by have h := cntRow_le (boxsLf_fit l_List); have h2 : szLf (boxsLf l_List) ≤ 1048576 := hsm_List; simp only [boxsLf] at h h2 ⊢; omega)
  have C_to_List := Lib.hid (fun (W : World) (g : LfRd W (boxsLf l_List) (.slice p_List l_List.length c_List)) => toBoxS_g (.slice p_List l_List.length c_List) l_List W g (by omega))
  have hsm_M : szLs x_M.lf ≤ 1048576 := by omega
  have SZ_M := Lib.hid hsm_M
  have C_to_M := Lib.hid (fun (W : World) => toCommit_g x_M W (by omega))
  have C_spec := Lib.hid (fun (u_List_0 : Value) (W : World) (k_List_0 : LfRd W (boxsLf l_List) u_List_0) (kc_List : CapLe u_List_0) => SP l_List u_List_0 x_M W trivial k_List_0 kc_List hsm_List hb_List hsm_M hb_M)
  have C_impl := Lib.hid (fun (u_List_0 : Value) (W : World) (hg : G W) (k_List_0 : LfRd W (boxsLf l_List) u_List_0) (kc_List : CapLe u_List_0) => IM l_List u_List_0 x_M W hg k_List_0 kc_List hsm_List hb_List hsm_M hb_M)
  clear SP IM hb_List hsm_List hb_M hsm_M
  generalize (appB l_List x_M) = R0 at *
  have ne0 : (R0 != R0) = false := by simp
  have hb : Below w.heap.size w (w.alloc (.cells #[.int .i64 x_M.kind, .int .i64 x_M.validity, .int .i64 x_M.uid, .int .i64 x_M.flags, sv x_M.name, sv x_M.text] 57)) := ((Below.refl _ _).alloc (Nat.le_refl _) _)
  have HB1 := Lib.hid (show (w.alloc (.cells #[.int .i64 x_M.kind, .int .i64 x_M.validity, .int .i64 x_M.uid, .int .i64 x_M.flags, sv x_M.name, sv x_M.text] 57)).heap[w.heap.size]? = some (.cells #[.int .i64 x_M.kind, .int .i64 x_M.validity, .int .i64 x_M.uid, .int .i64 x_M.flags, sv x_M.name, sv x_M.text] 57 (0, 0)) from by
    have h := heap_alloc_new w (.cells #[.int .i64 x_M.kind, .int .i64 x_M.validity, .int .i64 x_M.uid, .int .i64 x_M.flags, sv x_M.name, sv x_M.text] 57)
    exact h)
  have hz0 : w.heap.size + 1 ≤ (w.alloc (.cells #[.int .i64 x_M.kind, .int .i64 x_M.validity, .int .i64 x_M.uid, .int .i64 x_M.flags, sv x_M.name, sv x_M.text] 57)).heap.size := by simp
  generalize hW0 : (w.alloc (.cells #[.int .i64 x_M.kind, .int .i64 x_M.validity, .int .i64 x_M.uid, .int .i64 x_M.flags, sv x_M.name, sv x_M.text] 57)) = W0 at *
  go_enter Tryz.func8, Tryz.ntmps8
  have hbz := Lib.hid hb.size
  go_wp2_with fail
  refine (C_sz0.out _ _ (by first | rfl | omega) (LfRd.below hb _ _ H_v_List.out)).mono ?_
  rintro e w2 ⟨rfl, b3⟩
  have F4 := Lib.hid ((b3.block (w.heap.size) (Array.getElem?_eq_some_iff.1 HB1.out).1).trans HB1.out)
  clear HB1
  have hz5 : W0.heap.size ≤ w2.heap.size := b3.size
  replace hb := hb.trans (b3.mono hb.size)
  clear b3
  have y6 := (Lib.cell_of_heap F4.out 0).trans (show _ = some (.int .i64 x_M.kind) from rfl)
  have y7 := (Lib.cell_of_heap F4.out 1).trans (show _ = some (.int .i64 x_M.validity) from rfl)
  have y8 := (Lib.cell_of_heap F4.out 2).trans (show _ = some (.int .i64 x_M.uid) from rfl)
  have y9 := (Lib.cell_of_heap F4.out 3).trans (show _ = some (.int .i64 x_M.flags) from rfl)
  have y10 := (Lib.cell_of_heap F4.out 4).trans (show _ = some (sv x_M.name) from rfl)
  have y11 := (Lib.cell_of_heap F4.out 5).trans (show _ = some (sv x_M.text) from rfl)
  go_wp2_with fail
  refine (C_sz1.out _ _ (by first | rfl | omega) ).mono ?_
  rintro e w12 ⟨rfl, b13⟩
  clear y6 y7 y8 y9 y10 y11
  have F14 := Lib.hid ((b13.block (w.heap.size) (Array.getElem?_eq_some_iff.1 F4.out).1).trans F4.out)
  clear F4
  have hz15 : w2.heap.size ≤ w12.heap.size := b13.size
  replace hb := hb.trans (b13.mono hb.size)
  clear b13
  go_wp2
  refine ord_start [(0, true), (2, true), (1, false), (3, false), (4, false), (5, true)] (fun W => W.heap[w.heap.size]? = some (.cells #[.int .i64 x_M.kind, .int .i64 x_M.validity, .int .i64 x_M.uid, .int .i64 x_M.flags, sv x_M.name, sv x_M.text] 57 (0, 0))) (by kernel_rfl) (by kernel_rfl) rfl (by kernel_rfl) ?_
  intro ops' hops
  clear hops
  simp only [List.map_cons, List.map_nil, pickOp_zero, pickOp_succ]
  have b17 : Below w12.heap.size w12 w12.drew := (Below.refl _ _).drew
  have hz18 : w12.drew.heap.size = w12.heap.size := rfl
  generalize w12.drew = D16 at *
  have F19 := Lib.hid ((b17.block (w.heap.size) (Array.getElem?_eq_some_iff.1 F14.out).1).trans F14.out)
  clear F14
  have hz20 : w12.heap.size ≤ D16.heap.size := b17.size
  replace hb := hb.trans (b17.mono hb.size)
  clear b17
  iterate 1 (refine ord_flo ?_ (fun _ _ _ h => h) rfl ?_ F19.out ?_; rotate_left; focus (intro W hS; obtain _s := hS; go_simp; rfl))
  refine ord_flo (.agg #[.int .i64 x_M.kind, .int .i64 x_M.validity, .int .i64 x_M.uid, .int .i64 x_M.flags, sv x_M.name, sv x_M.text]) (fun _ _ _ h => h) rfl ?_ F19.out ?_
  · intro W hS
    have y0 := (Lib.cell_of_heap hS 0).trans (show _ = some (.int .i64 x_M.kind) from rfl)
    have y1 := (Lib.cell_of_heap hS 1).trans (show _ = some (.int .i64 x_M.validity) from rfl)
    have y2 := (Lib.cell_of_heap hS 2).trans (show _ = some (.int .i64 x_M.uid) from rfl)
    have y3 := (Lib.cell_of_heap hS 3).trans (show _ = some (.int .i64 x_M.flags) from rfl)
    have y4 := (Lib.cell_of_heap hS 4).trans (show _ = some (sv x_M.name) from rfl)
    have y5 := (Lib.cell_of_heap hS 5).trans (show _ = some (sv x_M.text) from rfl)
    clear hS
    go_simp
  refine ord_ev rfl ?_
  go_simp
  refine (C_to_List.out _ (LfRd.below hb _ _ H_v_List.out)).mono ?_
  rintro e w21 ⟨z24, f25, rfl, t26, b22⟩
  have F27 := Lib.hid ((b22.block (w.heap.size) (Array.getElem?_eq_some_iff.1 F19.out).1).trans F19.out)
  clear F19
  have hz28 : D16.heap.size ≤ w21.heap.size := b22.size
  replace hb := hb.trans (b22.mono hb.size)
  have LO29 := Lib.hid (show ∀ q ∈ f25, D16.heap.size ≤ q from t26.low)
  have HI30 := Lib.hid (show ∀ q ∈ f25, q < w21.heap.size from fun q hq => LfIn.lt _ _ _ t26.is q hq)
  have ND31 := Lib.hid t26.nodup
  have F32 := Lib.hid t26.is
  obtain ⟨pz24, cz24, rfl⟩ := LfIn.slice t26.is
  clear t26
  clear b22
  refine ⟨F27.out, ?_⟩
  refine ord_ev rfl ?_
  go_simp
  refine (C_to_M.out _ ).mono ?_
  rintro e w33 ⟨rfl, b34⟩
  have F36 := Lib.hid ((b34.block (w.heap.size) (Array.getElem?_eq_some_iff.1 F27.out).1).trans F27.out)
  clear F27
  have F37 := Lib.hid (LfIn.below F32.out b34)
  clear F32
  have hz38 : w21.heap.size ≤ w33.heap.size := b34.size
  replace hb := hb.trans (b34.mono hb.size)
  clear b34
  refine ⟨F36.out, ?_⟩
  refine ord_ev rfl ?_
  go_simp
  refine (C_spec.out _ _ (LfIn.rd _ _ _ F37.out) (CapLe.of_in F37.out)).mono ?_
  rintro e w39 ⟨rfl, b40⟩
  have F41 := Lib.hid ((b40.block (w.heap.size) (Array.getElem?_eq_some_iff.1 F36.out).1).trans F36.out)
  clear F36
  have F42 := Lib.hid (LfIn.below F37.out b40)
  clear F37
  have hz43 : w33.heap.size ≤ w39.heap.size := b40.size
  replace hb := hb.trans (b40.mono hb.size)
  clear b40
  refine ⟨F41.out, ?_⟩
  iterate 1 (refine ord_flo ?_ (fun _ _ _ h => h) rfl ?_ F41.out ?_; rotate_left; focus (intro W hS; obtain _s := hS; go_simp; rfl))
  refine ord_done ?_
  go_simp
  go_wp2_with fail
  refine (C_to_List.out _ (LfRd.below hb _ _ H_v_List.out)).mono ?_
  rintro e w44 ⟨z47, f48, rfl, t49, b45⟩
  have F50 := Lib.hid ((b45.block (w.heap.size) (Array.getElem?_eq_some_iff.1 F41.out).1).trans F41.out)
  clear F41
  have F51 := Lib.hid (LfIn.below F42.out b45)
  clear F42
  have hz52 : w39.heap.size ≤ w44.heap.size := b45.size
  replace hb := hb.trans (b45.mono hb.size)
  have LO53 := Lib.hid (show ∀ q ∈ f48, w39.heap.size ≤ q from t49.low)
  have HI54 := Lib.hid (show ∀ q ∈ f48, q < w44.heap.size from fun q hq => LfIn.lt _ _ _ t49.is q hq)
  have ND55 := Lib.hid t49.nodup
  have F56 := Lib.hid t49.is
  obtain ⟨pz47, cz47, rfl⟩ := LfIn.slice t49.is
  clear t49
  clear b45
  have y57 := (Lib.cell_of_heap F50.out 0).trans (show _ = some (.int .i64 x_M.kind) from rfl)
  have y58 := (Lib.cell_of_heap F50.out 1).trans (show _ = some (.int .i64 x_M.validity) from rfl)
  have y59 := (Lib.cell_of_heap F50.out 2).trans (show _ = some (.int .i64 x_M.uid) from rfl)
  have y60 := (Lib.cell_of_heap F50.out 3).trans (show _ = some (.int .i64 x_M.flags) from rfl)
  have y61 := (Lib.cell_of_heap F50.out 4).trans (show _ = some (sv x_M.name) from rfl)
  have y62 := (Lib.cell_of_heap F50.out 5).trans (show _ = some (sv x_M.text) from rfl)
  go_wp2_with fail
  refine (C_to_M.out _ ).mono ?_
  rintro e w63 ⟨rfl, b64⟩
  clear y57 y58 y59 y60 y61 y62
  have F66 := Lib.hid ((b64.block (w.heap.size) (Array.getElem?_eq_some_iff.1 F50.out).1).trans F50.out)
  clear F50
  have F67 := Lib.hid (LfIn.below F51.out b64)
  clear F51
  have F68 := Lib.hid (LfIn.below F56.out b64)
  clear F56
  have hz69 : w44.heap.size ≤ w63.heap.size := b64.size
  replace hb := hb.trans (b64.mono hb.size)
  clear b64
  go_wp2_with fail
  refine (C_impl.out _ _ (hK _ _ hG hb) (LfIn.rd _ _ _ F68.out) (CapLe.of_in F68.out)).mono ?_
  rintro e w70 ⟨rfl, b71⟩
  have F72 := Lib.hid ((b71.block (w.heap.size) (Array.getElem?_eq_some_iff.1 F66.out).1).trans F66.out)
  clear F66
  have F73 := Lib.hid (LfIn.below F67.out b71)
  clear F67
  have F74 := Lib.hid (LfIn.below F68.out b71)
  clear F68
  have hz75 : w63.heap.size ≤ w70.heap.size := b71.size
  replace hb := hb.trans (b71.mono hb.size)
  clear b71
  go_wp2_with fail
  refine (C_to_List.out _ (LfRd.below hb _ _ H_v_List.out)).mono ?_
  rintro e w76 ⟨z79, f80, rfl, t81, b77⟩
  have F82 := Lib.hid ((b77.block (w.heap.size) (Array.getElem?_eq_some_iff.1 F72.out).1).trans F72.out)
  clear F72
  have F83 := Lib.hid (LfIn.below F73.out b77)
  clear F73
  have F84 := Lib.hid (LfIn.below F74.out b77)
  clear F74
  have hz85 : w70.heap.size ≤ w76.heap.size := b77.size
  replace hb := hb.trans (b77.mono hb.size)
  have LO86 := Lib.hid (show ∀ q ∈ f80, w70.heap.size ≤ q from t81.low)
  have HI87 := Lib.hid (show ∀ q ∈ f80, q < w76.heap.size from fun q hq => LfIn.lt _ _ _ t81.is q hq)
  have ND88 := Lib.hid t81.nodup
  have F89 := Lib.hid t81.is
  obtain ⟨pz79, cz79, rfl⟩ := LfIn.slice t81.is
  clear t81
  clear b77
  go_wp2_with fail
  refine (eqBoxS_g _ _ l_List _ (LfIn.rd _ _ _ F84.out) (LfIn.rd _ _ _ F89.out) (by have := SZ_List.out; omega)).mono ?_
  rintro e w90 ⟨rfl, b91⟩
  have F92 := Lib.hid ((b91.block (w.heap.size) (Array.getElem?_eq_some_iff.1 F82.out).1).trans F82.out)
  clear F82
  have F93 := Lib.hid (LfIn.below F83.out b91)
  clear F83
  have F94 := Lib.hid (LfIn.below F84.out b91)
  clear F84
  have F95 := Lib.hid (LfIn.below F89.out b91)
  clear F89
  have hz96 : w76.heap.size ≤ w90.heap.size := b91.size
  replace hb := hb.trans (b91.mono hb.size)
  clear b91
  go_wp2
  go_ret
  exact ⟨rfl, hb⟩

end Go.Proofs.YtbfgdbpfecffcaaGreatDoor

namespace Go.Proofs.YtbfgdbpfecffcaaGreatDoor
open Go.RowKit

def CtrCommitOk (f : FuncId) (G : World → Prop) : Prop := ∀ (x_M : ComD) (W : World), G W → szLs x_M.lf ≤ 1048576 → LsBnd x_M.lf → 
  Calls Tryz.prog f #[.agg #[.int .i64 x_M.kind, .int .i64 x_M.validity, .int .i64 x_M.uid, .int .i64 x_M.flags, sv x_M.name, sv x_M.text]] W fun e w' => e = .returned (.bool (commitB x_M)) ∧ Below W.heap.size W w'

end Go.Proofs.YtbfgdbpfecffcaaGreatDoor
