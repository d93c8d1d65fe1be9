/-
  The exact law of BoxNamed out of what the two functions answer (made by tools/lawc.py).
-/
import Derived.Test.YtboinphhpfggnaaBoxA
import Derived.Test.YtboinphhpfggnaaLgB
import Derived.Test.YtboinphhpfggnaaGa
namespace Go.Proofs.Ytboinphhpfggnaa
open Go.RowKit

def CtrBoxNamed (f : FuncId) (G : World → Prop) : Prop := ∀ (l_List : List BoxD) (v_List : Value) (s_Name : List UInt8) (W : World), G W → LfRd W (boxsLf l_List) v_List → szLf (boxsLf l_List) ≤ 1048576 → LfBnd (boxsLf l_List) → s_Name.length ≤ 1048576 → 
  Calls Try.prog f #[v_List, sv s_Name] W fun e w' => e = .returned (.int .i64 (bxNamed l_List s_Name)) ∧ Below W.heap.size W w'

set_option maxRecDepth 20000 in
set_option maxHeartbeats 12800000 in
theorem FnExactBoxNamed_of {G : World → Prop} (hK : Keeps G) (SP : CtrBoxNamed 35 (fun _ => True)) (IM : CtrBoxNamed 16 G) (l_List : List BoxD) (v_List : Value) (s_Name : List UInt8) (w : World) (hG : G w) (h_v_List : LfRd w (boxsLf l_List) v_List) (hb_List : LfBnd (boxsLf l_List)) (hb_Name : s_Name.length ≤ 9223372036854775807) :
    Calls Try.prog 8 #[v_List, sv s_Name] w fun e w' => e = .returned (.bool true) ∧ Below w.heap.size w w' := by
  have H_v_List := Lib.hid h_v_List
  obtain ⟨p_List, c_List, rfl⟩ := LfRd.slice h_v_List
  clear h_v_List
  have bz_Name : (ByteArray.mk s_Name.toArray).size = s_Name.length := by show s_Name.toArray.size = _; simp
  by_cases hl_Name : s_Name.length ≤ 1048576
  case neg =>
    have hi_Name : (1048576 : Int) < (s_Name.length : Int) := by omega
    clear SP IM
    have hb : Below w.heap.size w w := Below.refl _ _
    go_enter Try.func8, Try.ntmps8
    have hbz := Lib.hid hb.size
    go_wp2
    go_ret
    exact ⟨rfl, hb⟩
  have hi_Name : ¬ (1048576 : Int) < (s_Name.length : Int) := by omega
  by_cases k0 : szLf (boxsLf l_List) ≤ 1048576
  case neg =>
    have q0 := fun (ll : Int) (W : World) (hl : ll = ((1048576 : Nat) : Int)) (g : LfRd W (boxsLf l_List) (.slice p_List l_List.length c_List)) => szBoxS_g (.slice p_List l_List.length c_List) l_List ll 1048576 hl W g hb_List (by omega)
    simp only [show szN 1048576 (szLf (boxsLf l_List)) = -1 from szN_no k0] at q0
    have C_sz0 := Lib.hid q0
    clear q0 SP IM
    have hb : Below w.heap.size w w := Below.refl _ _
    go_enter Try.func8, Try.ntmps8
    have hbz := Lib.hid hb.size
    go_wp2_with fail
    refine (C_sz0.out _ _ (by first | rfl | omega) (LfRd.below hb _ _ H_v_List.out)).mono ?_
    rintro e w1 ⟨rfl, b2⟩
    have hz3 : w.heap.size ≤ w1.heap.size := b2.size
    replace hb := hb.trans (b2.mono hb.size)
    clear b2
    go_wp2
    go_ret
    exact ⟨rfl, hb⟩
  obtain ⟨L1, hL1⟩ : ∃ L, L + szLf (boxsLf l_List) = 1048576 := ⟨1048576 - szLf (boxsLf l_List), by omega⟩
  have bL1 : L1 ≤ 1048576 := by omega
  have nL1 : ¬ (L1 : Int) < 0 := by omega
  have q0 := fun (ll : Int) (W : World) (hl : ll = ((1048576 : Nat) : Int)) (g : LfRd W (boxsLf l_List) (.slice p_List l_List.length c_List)) => szBoxS_g (.slice p_List l_List.length c_List) l_List ll 1048576 hl W g hb_List (by omega)
  simp only [show szN 1048576 (szLf (boxsLf l_List)) = (L1 : Int) from by rw [szN_yes k0]; omega] at q0
  have C_sz0 := Lib.hid q0
  clear q0
  have HL1 := Lib.hid hL1
  have hsz_0 : szLf (boxsLf l_List) ≤ 1048576 := by omega
  clear hL1
  have hsm_List : szLf (boxsLf l_List) ≤ 1048576 := by omega
  have SZ_List := Lib.hid hsm_List
  have CN_List := Lib.hid (show 1 + cntLf (boxsLf l_List) ≤ 1000000000 from by have h := cntRow_le (boxsLf_fit l_List); have h2 : szLf (boxsLf l_List) ≤ 1048576 := hsm_List; simp only [boxsLf] at h h2 ⊢; omega)
  have C_to_List := Lib.hid (fun (W : World) (g : LfRd W (boxsLf l_List) (.slice p_List l_List.length c_List)) => toBoxS_g (.slice p_List l_List.length c_List) l_List W g (by omega))
  have C_spec := Lib.hid (fun (u_List_0 : Value) (W : World) (k_List_0 : LfRd W (boxsLf l_List) u_List_0) => SP l_List u_List_0 s_Name W trivial k_List_0 hsm_List hb_List hl_Name)
  have C_impl := Lib.hid (fun (u_List_0 : Value) (W : World) (hg : G W) (k_List_0 : LfRd W (boxsLf l_List) u_List_0) => IM l_List u_List_0 s_Name W hg k_List_0 hsm_List hb_List hl_Name)
  clear SP IM hb_List hsm_List
  generalize (bxNamed l_List s_Name) = R0 at *
  have ne0 : (R0 != R0) = false := by simp
  have hb : Below w.heap.size w w := Below.refl _ _
  go_enter Try.func8, Try.ntmps8
  have hbz := Lib.hid hb.size
  go_wp2_with fail
  refine (C_sz0.out _ _ (by first | rfl | omega) (LfRd.below hb _ _ H_v_List.out)).mono ?_
  rintro e w1 ⟨rfl, b2⟩
  have hz3 : w.heap.size ≤ w1.heap.size := b2.size
  replace hb := hb.trans (b2.mono hb.size)
  clear b2
  go_wp2_with fail
  refine (C_to_List.out _ (LfRd.below hb _ _ H_v_List.out)).mono ?_
  rintro e w4 ⟨z7, f8, rfl, t9, b5⟩
  have hz10 : w1.heap.size ≤ w4.heap.size := b5.size
  replace hb := hb.trans (b5.mono hb.size)
  have LO11 := Lib.hid (show ∀ q ∈ f8, w1.heap.size ≤ q from t9.low)
  have HI12 := Lib.hid (show ∀ q ∈ f8, q < w4.heap.size from fun q hq => LfIn.lt _ _ _ t9.is q hq)
  have ND13 := Lib.hid t9.nodup
  have F14 := Lib.hid t9.is
  obtain ⟨pz7, cz7, rfl⟩ := LfIn.slice t9.is
  clear t9
  clear b5
  go_wp2_with fail
  refine (C_spec.out _ _ (LfIn.rd _ _ _ F14.out)).mono ?_
  rintro e w15 ⟨rfl, b16⟩
  have F17 := Lib.hid (LfIn.below F14.out b16)
  clear F14
  have hz18 : w4.heap.size ≤ w15.heap.size := b16.size
  replace hb := hb.trans (b16.mono hb.size)
  clear b16
  go_wp2_with fail
  refine (C_to_List.out _ (LfRd.below hb _ _ H_v_List.out)).mono ?_
  rintro e w19 ⟨z22, f23, rfl, t24, b20⟩
  have F25 := Lib.hid (LfIn.below F17.out b20)
  clear F17
  have hz26 : w15.heap.size ≤ w19.heap.size := b20.size
  replace hb := hb.trans (b20.mono hb.size)
  have LO27 := Lib.hid (show ∀ q ∈ f23, w15.heap.size ≤ q from t24.low)
  have HI28 := Lib.hid (show ∀ q ∈ f23, q < w19.heap.size from fun q hq => LfIn.lt _ _ _ t24.is q hq)
  have ND29 := Lib.hid t24.nodup
  have F30 := Lib.hid t24.is
  obtain ⟨pz22, cz22, rfl⟩ := LfIn.slice t24.is
  clear t24
  clear b20
  go_wp2_with fail
  refine (C_impl.out _ _ (hK _ _ hG hb) (LfIn.rd _ _ _ F30.out)).mono ?_
  rintro e w31 ⟨rfl, b32⟩
  have F33 := Lib.hid (LfIn.below F25.out b32)
  clear F25
  have F34 := Lib.hid (LfIn.below F30.out b32)
  clear F30
  have hz35 : w19.heap.size ≤ w31.heap.size := b32.size
  replace hb := hb.trans (b32.mono hb.size)
  clear b32
  go_wp2_with fail
  refine (C_to_List.out _ (LfRd.below hb _ _ H_v_List.out)).mono ?_
  rintro e w36 ⟨z39, f40, rfl, t41, b37⟩
  have F42 := Lib.hid (LfIn.below F33.out b37)
  clear F33
  have F43 := Lib.hid (LfIn.below F34.out b37)
  clear F34
  have hz44 : w31.heap.size ≤ w36.heap.size := b37.size
  replace hb := hb.trans (b37.mono hb.size)
  have LO45 := Lib.hid (show ∀ q ∈ f40, w31.heap.size ≤ q from t41.low)
  have HI46 := Lib.hid (show ∀ q ∈ f40, q < w36.heap.size from fun q hq => LfIn.lt _ _ _ t41.is q hq)
  have ND47 := Lib.hid t41.nodup
  have F48 := Lib.hid t41.is
  obtain ⟨pz39, cz39, rfl⟩ := LfIn.slice t41.is
  clear t41
  clear b37
  go_wp2_with fail
  refine (eqBoxS_g _ _ l_List _ (LfIn.rd _ _ _ F43.out) (LfIn.rd _ _ _ F48.out) (by have := SZ_List.out; omega)).mono ?_
  rintro e w49 ⟨rfl, b50⟩
  have F51 := Lib.hid (LfIn.below F42.out b50)
  clear F42
  have F52 := Lib.hid (LfIn.below F43.out b50)
  clear F43
  have F53 := Lib.hid (LfIn.below F48.out b50)
  clear F48
  have hz54 : w36.heap.size ≤ w49.heap.size := b50.size
  replace hb := hb.trans (b50.mono hb.size)
  clear b50
  go_wp2
  go_ret
  exact ⟨rfl, hb⟩

end Go.Proofs.Ytboinphhpfggnaa
