/-
  Zk: LawCommitted (what the claim needs of them).
-/
import Derived.Deep.DeepCutAuto
import Derived.Handy
import Derived.Test.YtbfgdbpfecffcaaGreatDoorRows
import Derived.WalkKit
import Derived.WalkSpells
import Derived.WalkLawsBesides
import Derived.Laws.IdiomStrings
import Derived.Lib.Hide
import Derived.Deep.AppendLies
import Derived.OrdersHeld
import Derived.Lib.ItoaNum
import Derived.Lib.ItoaMem
import Derived.Lib.AppendStr
import Derived.Lib.ItoaLen
import Derived.Lib.Strings
import Derived.Lib.Bytealg
import Derived.Lib.OthersKept
import Derived.Laws.RangeAny
import Derived.Laws.BitsAllLaws
import Derived.Laws.BitsLemmas
import Derived.IntWalk
import Derived.Lib.Join
import Derived.Deep.Strs
import Derived.Deep.Cut
import Derived.Test.YtbfgdbpfecffcaaGreatDoorProg
import Derived.Laws.Tables
import Derived.Test.YtbfgdbpfecffcaaGreatDoorYb
import Derived.Test.YtbfgdbpfecffcaaGreatDoorYc
import Derived.Test.YtbfgdbpfecffcaaGreatDoorYd
import Derived.Test.YtbfgdbpfecffcaaGreatDoorYe
import Derived.Test.YtbfgdbpfecffcaaGreatDoorYf
import Derived.Test.YtbfgdbpfecffcaaGreatDoorYm
import Derived.Test.YtbfgdbpfecffcaaGreatDoorZb
import Derived.Test.YtbfgdbpfecffcaaGreatDoorZc
import Derived.Test.YtbfgdbpfecffcaaGreatDoorZd

namespace Go.Proofs.YtbfgdbpfecffcaaGreatDoor
open Go.RowKit

def CtrCommitted (f : FuncId) (G : World → Prop) : Prop := ∀ (x_S : StoD) (r_S_0 : Value) (r_S_1 : Value) (x_M : ComD) (W : World), G W → LfRd W (boxsLf x_S.boxes) r_S_0 → CapLe r_S_0 → LfRd W (commitsLf x_S.log) r_S_1 → CapLe r_S_1 → szLs x_S.lf ≤ 1048576 → LsBnd x_S.lf → szLs x_M.lf ≤ 1048576 → LsBnd x_M.lf → 
  Calls Tryz.prog f #[.agg #[r_S_0, r_S_1, .int .i64 x_S.given], .agg #[.int .i64 x_M.kind, .int .i64 x_M.validity, .int .i64 x_M.uid, .int .i64 x_M.flags, sv x_M.name, sv x_M.text]] W fun e w' => ∃ z0_0 f0_0, ∃ z0_1 f0_1, e = .returned (.tuple #[.agg #[z0_0, z0_1, .int .i64 (storD x_S x_M).given], .bool (storB x_S x_M)]) ∧ LfIn w' (boxsLf (storD x_S x_M).boxes) z0_0 f0_0 ∧ LfIn w' (commitsLf (storD x_S x_M).log) z0_1 f0_1 ∧ (f0_0 ++ f0_1).Nodup ∧ (∀ q ∈ f0_0 ++ f0_1, W.heap.size ≤ q) ∧ Below W.heap.size W w'

set_option maxRecDepth 20000 in
set_option maxHeartbeats 12800000 in
theorem FnExactCommitted_of {G : World → Prop} (hK : Keeps G) (SP : CtrCommitted 38 (fun _ => True)) (IM : CtrCommitted 37 G) (x_S : StoD) (r_S_0 : Value) (r_S_1 : Value) (x_M : ComD) (w : World) (hG : G w) (h_r_S_0 : LfRd w (boxsLf x_S.boxes) r_S_0) (h_r_S_1 : LfRd w (commitsLf x_S.log) r_S_1) (hb_S : LsBnd x_S.lf) (hb_M : LsBnd x_M.lf) (hr_0 : szLs x_S.lf ≤ 1048576 → szLs x_M.lf ≤ 1048576 → szLs (storD x_S x_M).lf ≤ 1000000000) :
    Calls Tryz.prog 15 #[.agg #[r_S_0, r_S_1, .int .i64 x_S.given], .agg #[.int .i64 x_M.kind, .int .i64 x_M.validity, .int .i64 x_M.uid, .int .i64 x_M.flags, sv x_M.name, sv x_M.text]] w fun e w' => e = .returned (.bool true) ∧ Below w.heap.size w w' := by
  have H_r_S_0 := Lib.hid h_r_S_0
  have H_r_S_1 := Lib.hid h_r_S_1
  obtain ⟨p_S_0, c_S_0, rfl⟩ := LfRd.slice h_r_S_0
  obtain ⟨p_S_1, c_S_1, rfl⟩ := LfRd.slice h_r_S_1
  clear h_r_S_0
  clear h_r_S_1
  by_cases k0 : szLs x_S.lf ≤ 1048576
  case neg =>
    have q0 := fun (ll : Int) (W : World) (hl : ll = ((1048576 : Nat) : Int)) (g0 : LfRd W (boxsLf x_S.boxes) (.slice p_S_0 x_S.boxes.length c_S_0)) (g1 : LfRd W (commitsLf x_S.log) (.slice p_S_1 x_S.log.length c_S_1)) => szStore_g x_S (.slice p_S_0 x_S.boxes.length c_S_0) (.slice p_S_1 x_S.log.length c_S_1) ll 1048576 hl W g0 g1 hb_S (by omega)
    simp only [show szN 1048576 (szLs x_S.lf) = -1 from szN_no k0] at q0
    have C_sz0 := Lib.hid q0
    clear q0 SP IM hr_0
    have hb : Below w.heap.size w ((w.alloc (.cells #[(.slice p_S_0 x_S.boxes.length c_S_0), (.slice p_S_1 x_S.log.length c_S_1), .int .i64 x_S.given] 73)).alloc (.cells #[.int .i64 x_M.kind, .int .i64 x_M.validity, .int .i64 x_M.uid, .int .i64 x_M.flags, sv x_M.name, sv x_M.text] 57)) := (((Below.refl _ _).alloc (Nat.le_refl _) _).alloc (by simp) _)
    have HB1 := Lib.hid (show ((w.alloc (.cells #[(.slice p_S_0 x_S.boxes.length c_S_0), (.slice p_S_1 x_S.log.length c_S_1), .int .i64 x_S.given] 73)).alloc (.cells #[.int .i64 x_M.kind, .int .i64 x_M.validity, .int .i64 x_M.uid, .int .i64 x_M.flags, sv x_M.name, sv x_M.text] 57)).heap[w.heap.size]? = some (.cells #[(.slice p_S_0 x_S.boxes.length c_S_0), (.slice p_S_1 x_S.log.length c_S_1), .int .i64 x_S.given] 73 (0, 0)) from by
      have h := heap_alloc_new w (.cells #[(.slice p_S_0 x_S.boxes.length c_S_0), (.slice p_S_1 x_S.log.length c_S_1), .int .i64 x_S.given] 73)
      have h := (Below.heap_alloc (w.alloc (.cells #[(.slice p_S_0 x_S.boxes.length c_S_0), (.slice p_S_1 x_S.log.length c_S_1), .int .i64 x_S.given] 73)) (.cells #[.int .i64 x_M.kind, .int .i64 x_M.validity, .int .i64 x_M.uid, .int .i64 x_M.flags, sv x_M.name, sv x_M.text] 57) _ (by simp)).trans h
      exact h)
    have HB2 := Lib.hid (show ((w.alloc (.cells #[(.slice p_S_0 x_S.boxes.length c_S_0), (.slice p_S_1 x_S.log.length c_S_1), .int .i64 x_S.given] 73)).alloc (.cells #[.int .i64 x_M.kind, .int .i64 x_M.validity, .int .i64 x_M.uid, .int .i64 x_M.flags, sv x_M.name, sv x_M.text] 57)).heap[w.heap.size + 1]? = some (.cells #[.int .i64 x_M.kind, .int .i64 x_M.validity, .int .i64 x_M.uid, .int .i64 x_M.flags, sv x_M.name, sv x_M.text] 57 (0, 0)) from by
      have h := heap_alloc_new (w.alloc (.cells #[(.slice p_S_0 x_S.boxes.length c_S_0), (.slice p_S_1 x_S.log.length c_S_1), .int .i64 x_S.given] 73)) (.cells #[.int .i64 x_M.kind, .int .i64 x_M.validity, .int .i64 x_M.uid, .int .i64 x_M.flags, sv x_M.name, sv x_M.text] 57)
      simp only [World.size_alloc] at h
      exact h)
    have hz0 : w.heap.size + 2 ≤ ((w.alloc (.cells #[(.slice p_S_0 x_S.boxes.length c_S_0), (.slice p_S_1 x_S.log.length c_S_1), .int .i64 x_S.given] 73)).alloc (.cells #[.int .i64 x_M.kind, .int .i64 x_M.validity, .int .i64 x_M.uid, .int .i64 x_M.flags, sv x_M.name, sv x_M.text] 57)).heap.size := by simp
    generalize hW0 : ((w.alloc (.cells #[(.slice p_S_0 x_S.boxes.length c_S_0), (.slice p_S_1 x_S.log.length c_S_1), .int .i64 x_S.given] 73)).alloc (.cells #[.int .i64 x_M.kind, .int .i64 x_M.validity, .int .i64 x_M.uid, .int .i64 x_M.flags, sv x_M.name, sv x_M.text] 57)) = W0 at *
    go_enter Tryz.func15, Tryz.ntmps15
    have hbz := Lib.hid hb.size
    have y3 := (Lib.cell_of_heap HB1.out 0).trans (show _ = some ((.slice p_S_0 x_S.boxes.length c_S_0)) from rfl)
    have y4 := (Lib.cell_of_heap HB1.out 1).trans (show _ = some ((.slice p_S_1 x_S.log.length c_S_1)) from rfl)
    have y5 := (Lib.cell_of_heap HB1.out 2).trans (show _ = some (.int .i64 x_S.given) from rfl)
    go_wp2_with fail
    refine (C_sz0.out _ _ (by first | rfl | omega) (LfRd.below hb _ _ H_r_S_0.out) (LfRd.below hb _ _ H_r_S_1.out)).mono ?_
    rintro e w6 ⟨rfl, b7⟩
    clear y3 y4 y5
    have F8 := Lib.hid ((b7.block (w.heap.size) (Array.getElem?_eq_some_iff.1 HB1.out).1).trans HB1.out)
    clear HB1
    have F9 := Lib.hid ((b7.block (w.heap.size + 1) (Array.getElem?_eq_some_iff.1 HB2.out).1).trans HB2.out)
    clear HB2
    have hz10 : W0.heap.size ≤ w6.heap.size := b7.size
    replace hb := hb.trans (b7.mono hb.size)
    clear b7
    go_wp2
    go_ret
    exact ⟨rfl, hb⟩
  obtain ⟨L1, hL1⟩ : ∃ L, L + szLs x_S.lf = 1048576 := ⟨1048576 - szLs x_S.lf, by omega⟩
  have bL1 : L1 ≤ 1048576 := by omega
  have nL1 : ¬ (L1 : Int) < 0 := by omega
  have q0 := fun (ll : Int) (W : World) (hl : ll = ((1048576 : Nat) : Int)) (g0 : LfRd W (boxsLf x_S.boxes) (.slice p_S_0 x_S.boxes.length c_S_0)) (g1 : LfRd W (commitsLf x_S.log) (.slice p_S_1 x_S.log.length c_S_1)) => szStore_g x_S (.slice p_S_0 x_S.boxes.length c_S_0) (.slice p_S_1 x_S.log.length c_S_1) ll 1048576 hl W g0 g1 hb_S (by omega)
  simp only [show szN 1048576 (szLs x_S.lf) = (L1 : Int) from by rw [szN_yes k0]; omega] at q0
  have C_sz0 := Lib.hid q0
  clear q0
  have HL1 := Lib.hid hL1
  have hsz_0 : szLs x_S.lf ≤ 1048576 := by omega
  clear hL1
  by_cases k1 : szLs x_M.lf ≤ L1
  case neg =>
    have q1 := fun (ll : Int) (W : World) (hl : ll = ((L1 : Nat) : Int)) => szCommit_g x_M ll L1 hl W hb_M (by omega)
    simp only [show szN L1 (szLs x_M.lf) = -1 from szN_no k1] at q1
    have C_sz1 := Lib.hid q1
    clear q1 SP IM hr_0
    have hb : Below w.heap.size w ((w.alloc (.cells #[(.slice p_S_0 x_S.boxes.length c_S_0), (.slice p_S_1 x_S.log.length c_S_1), .int .i64 x_S.given] 73)).alloc (.cells #[.int .i64 x_M.kind, .int .i64 x_M.validity, .int .i64 x_M.uid, .int .i64 x_M.flags, sv x_M.name, sv x_M.text] 57)) := (((Below.refl _ _).alloc (Nat.le_refl _) _).alloc (by simp) _)
    have HB1 := Lib.hid (show ((w.alloc (.cells #[(.slice p_S_0 x_S.boxes.length c_S_0), (.slice p_S_1 x_S.log.length c_S_1), .int .i64 x_S.given] 73)).alloc (.cells #[.int .i64 x_M.kind, .int .i64 x_M.validity, .int .i64 x_M.uid, .int .i64 x_M.flags, sv x_M.name, sv x_M.text] 57)).heap[w.heap.size]? = some (.cells #[(.slice p_S_0 x_S.boxes.length c_S_0), (.slice p_S_1 x_S.log.length c_S_1), .int .i64 x_S.given] 73 (0, 0)) from by
      have h := heap_alloc_new w (.cells #[(.slice p_S_0 x_S.boxes.length c_S_0), (.slice p_S_1 x_S.log.length c_S_1), .int .i64 x_S.given] 73)
      have h := (Below.heap_alloc (w.alloc (.cells #[(.slice p_S_0 x_S.boxes.length c_S_0), (.slice p_S_1 x_S.log.length c_S_1), .int .i64 x_S.given] 73)) (.cells #[.int .i64 x_M.kind, .int .i64 x_M.validity, .int .i64 x_M.uid, .int .i64 x_M.flags, sv x_M.name, sv x_M.text] 57) _ (by simp)).trans h
      exact h)
    have HB2 := Lib.hid (show ((w.alloc (.cells #[(.slice p_S_0 x_S.boxes.length c_S_0), (.slice p_S_1 x_S.log.length c_S_1), .int .i64 x_S.given] 73)).alloc (.cells #[.int .i64 x_M.kind, .int .i64 x_M.validity, .int .i64 x_M.uid, .int .i64 x_M.flags, sv x_M.name, sv x_M.text] 57)).heap[w.heap.size + 1]? = some (.cells #[.int .i64 x_M.kind, .int .i64 x_M.validity, .int .i64 x_M.uid, .int .i64 x_M.flags, sv x_M.name, sv x_M.text] 57 (0, 0)) from by
      have h := heap_alloc_new (w.alloc (.cells #[(.slice p_S_0 x_S.boxes.length c_S_0), (.slice p_S_1 x_S.log.length c_S_1), .int .i64 x_S.given] 73)) (.cells #[.int .i64 x_M.kind, .int .i64 x_M.validity, .int .i64 x_M.uid, .int .i64 x_M.flags, sv x_M.name, sv x_M.text] 57)
      simp only [World.size_alloc] at h
      exact h)
    have hz0 : w.heap.size + 2 ≤ ((w.alloc (.cells #[(.slice p_S_0 x_S.boxes.length c_S_0), (.slice p_S_1 x_S.log.length c_S_1), .int .i64 x_S.given] 73)).alloc (.cells #[.int .i64 x_M.kind, .int .i64 x_M.validity, .int .i64 x_M.uid, .int .i64 x_M.flags, sv x_M.name, sv x_M.text] 57)).heap.size := by simp
    generalize hW0 : ((w.alloc (.cells #[(.slice p_S_0 x_S.boxes.length c_S_0), (.slice p_S_1 x_S.log.length c_S_1), .int .i64 x_S.given] 73)).alloc (.cells #[.int .i64 x_M.kind, .int .i64 x_M.validity, .int .i64 x_M.uid, .int .i64 x_M.flags, sv x_M.name, sv x_M.text] 57)) = W0 at *
    go_enter Tryz.func15, Tryz.ntmps15
    have hbz := Lib.hid hb.size
    have y3 := (Lib.cell_of_heap HB1.out 0).trans (show _ = some ((.slice p_S_0 x_S.boxes.length c_S_0)) from rfl)
    have y4 := (Lib.cell_of_heap HB1.out 1).trans (show _ = some ((.slice p_S_1 x_S.log.length c_S_1)) from rfl)
    have y5 := (Lib.cell_of_heap HB1.out 2).trans (show _ = some (.int .i64 x_S.given) from rfl)
    go_wp2_with fail
    refine (C_sz0.out _ _ (by first | rfl | omega) (LfRd.below hb _ _ H_r_S_0.out) (LfRd.below hb _ _ H_r_S_1.out)).mono ?_
    rintro e w6 ⟨rfl, b7⟩
    clear y3 y4 y5
    have F8 := Lib.hid ((b7.block (w.heap.size) (Array.getElem?_eq_some_iff.1 HB1.out).1).trans HB1.out)
    clear HB1
    have F9 := Lib.hid ((b7.block (w.heap.size + 1) (Array.getElem?_eq_some_iff.1 HB2.out).1).trans HB2.out)
    clear HB2
    have hz10 : W0.heap.size ≤ w6.heap.size := b7.size
    replace hb := hb.trans (b7.mono hb.size)
    clear b7
    have y11 := (Lib.cell_of_heap F9.out 0).trans (show _ = some (.int .i64 x_M.kind) from rfl)
    have y12 := (Lib.cell_of_heap F9.out 1).trans (show _ = some (.int .i64 x_M.validity) from rfl)
    have y13 := (Lib.cell_of_heap F9.out 2).trans (show _ = some (.int .i64 x_M.uid) from rfl)
    have y14 := (Lib.cell_of_heap F9.out 3).trans (show _ = some (.int .i64 x_M.flags) from rfl)
    have y15 := (Lib.cell_of_heap F9.out 4).trans (show _ = some (sv x_M.name) from rfl)
    have y16 := (Lib.cell_of_heap F9.out 5).trans (show _ = some (sv x_M.text) from rfl)
    go_wp2_with fail
    refine (C_sz1.out _ _ (by first | rfl | omega) ).mono ?_
    rintro e w17 ⟨rfl, b18⟩
    clear y11 y12 y13 y14 y15 y16
    have F19 := Lib.hid ((b18.block (w.heap.size) (Array.getElem?_eq_some_iff.1 F8.out).1).trans F8.out)
    clear F8
    have F20 := Lib.hid ((b18.block (w.heap.size + 1) (Array.getElem?_eq_some_iff.1 F9.out).1).trans F9.out)
    clear F9
    have hz21 : w6.heap.size ≤ w17.heap.size := b18.size
    replace hb := hb.trans (b18.mono hb.size)
    clear b18
    go_wp2
    go_ret
    exact ⟨rfl, hb⟩
  obtain ⟨L2, hL2⟩ : ∃ L, L + szLs x_M.lf = L1 := ⟨L1 - szLs x_M.lf, by omega⟩
  have bL2 : L2 ≤ 1048576 := by omega
  have nL2 : ¬ (L2 : Int) < 0 := by omega
  have q1 := fun (ll : Int) (W : World) (hl : ll = ((L1 : Nat) : Int)) => szCommit_g x_M ll L1 hl W hb_M (by omega)
  simp only [show szN L1 (szLs x_M.lf) = (L2 : Int) from by rw [szN_yes k1]; omega] at q1
  have C_sz1 := Lib.hid q1
  clear q1
  have HL2 := Lib.hid hL2
  have hsz_1 : szLs x_M.lf ≤ 1048576 := by omega
  clear hL2
  have hsm_S : szLs x_S.lf ≤ 1048576 := by omega
  have SZ_S := Lib.hid hsm_S
  have CN_S := Lib.hid (show 1 + cntLf (boxsLf x_S.boxes) + cntLf (commitsLf x_S.log) ≤ 1000000000 from by have hs := StoD.sz x_S; have h0 := cntRow_le (boxsLf_fit x_S.boxes); have h1 := cntRow_le (commitsLf_fit x_S.log); simp only [boxsLf, commitsLf] at hs ⊢; omega)
  have C_to_S := Lib.hid (fun (W : World) (g0 : LfRd W (boxsLf x_S.boxes) (.slice p_S_0 x_S.boxes.length c_S_0)) (g1 : LfRd W (commitsLf x_S.log) (.slice p_S_1 x_S.log.length c_S_1)) => toStore_g x_S (.slice p_S_0 x_S.boxes.length c_S_0) (.slice p_S_1 x_S.log.length c_S_1) W g0 g1 (by omega))
  have hsm_M : szLs x_M.lf ≤ 1048576 := by omega
  have SZ_M := Lib.hid hsm_M
  have C_to_M := Lib.hid (fun (W : World) => toCommit_g x_M W (by omega))
  have C_spec := Lib.hid (fun (u_S_0 : Value) (u_S_1 : Value) (W : World) (k_S_0 : LfRd W (boxsLf x_S.boxes) u_S_0) (kc_S_0 : CapLe u_S_0) (k_S_1 : LfRd W (commitsLf x_S.log) u_S_1) (kc_S_1 : CapLe u_S_1) => SP x_S u_S_0 u_S_1 x_M W trivial k_S_0 kc_S_0 k_S_1 kc_S_1 hsm_S hb_S hsm_M hb_M)
  have C_impl := Lib.hid (fun (u_S_0 : Value) (u_S_1 : Value) (W : World) (hg : G W) (k_S_0 : LfRd W (boxsLf x_S.boxes) u_S_0) (kc_S_0 : CapLe u_S_0) (k_S_1 : LfRd W (commitsLf x_S.log) u_S_1) (kc_S_1 : CapLe u_S_1) => IM x_S u_S_0 u_S_1 x_M W hg k_S_0 kc_S_0 k_S_1 kc_S_1 hsm_S hb_S hsm_M hb_M)
  have hq_0 := hr_0 hsm_S hsm_M
  have SZ_r0 := Lib.hid hq_0
  have CN_r0 := Lib.hid (show 1 + cntLf (boxsLf (storD x_S x_M).boxes) + cntLf (commitsLf (storD x_S x_M).log) ≤ 100000000000 from by have hs := StoD.sz (storD x_S x_M); have h0 := cntRow_le (boxsLf_fit (storD x_S x_M).boxes); have h1 := cntRow_le (commitsLf_fit (storD x_S x_M).log); simp only [boxsLf, commitsLf] at hs hq_0 ⊢; omega)
  clear hq_0
  clear SP IM hr_0 hb_S hsm_S hb_M hsm_M
  generalize (storB x_S x_M) = R1 at *
  have ne1 : (R1 != R1) = false := by simp
  have hb : Below w.heap.size w ((w.alloc (.cells #[(.slice p_S_0 x_S.boxes.length c_S_0), (.slice p_S_1 x_S.log.length c_S_1), .int .i64 x_S.given] 73)).alloc (.cells #[.int .i64 x_M.kind, .int .i64 x_M.validity, .int .i64 x_M.uid, .int .i64 x_M.flags, sv x_M.name, sv x_M.text] 57)) := (((Below.refl _ _).alloc (Nat.le_refl _) _).alloc (by simp) _)
  have HB1 := Lib.hid (show ((w.alloc (.cells #[(.slice p_S_0 x_S.boxes.length c_S_0), (.slice p_S_1 x_S.log.length c_S_1), .int .i64 x_S.given] 73)).alloc (.cells #[.int .i64 x_M.kind, .int .i64 x_M.validity, .int .i64 x_M.uid, .int .i64 x_M.flags, sv x_M.name, sv x_M.text] 57)).heap[w.heap.size]? = some (.cells #[(.slice p_S_0 x_S.boxes.length c_S_0), (.slice p_S_1 x_S.log.length c_S_1), .int .i64 x_S.given] 73 (0, 0)) from by
    have h := heap_alloc_new w (.cells #[(.slice p_S_0 x_S.boxes.length c_S_0), (.slice p_S_1 x_S.log.length c_S_1), .int .i64 x_S.given] 73)
    have h := (Below.heap_alloc (w.alloc (.cells #[(.slice p_S_0 x_S.boxes.length c_S_0), (.slice p_S_1 x_S.log.length c_S_1), .int .i64 x_S.given] 73)) (.cells #[.int .i64 x_M.kind, .int .i64 x_M.validity, .int .i64 x_M.uid, .int .i64 x_M.flags, sv x_M.name, sv x_M.text] 57) _ (by simp)).trans h
    exact h)
  have HB2 := Lib.hid (show ((w.alloc (.cells #[(.slice p_S_0 x_S.boxes.length c_S_0), (.slice p_S_1 x_S.log.length c_S_1), .int .i64 x_S.given] 73)).alloc (.cells #[.int .i64 x_M.kind, .int .i64 x_M.validity, .int .i64 x_M.uid, .int .i64 x_M.flags, sv x_M.name, sv x_M.text] 57)).heap[w.heap.size + 1]? = some (.cells #[.int .i64 x_M.kind, .int .i64 x_M.validity, .int .i64 x_M.uid, .int .i64 x_M.flags, sv x_M.name, sv x_M.text] 57 (0, 0)) from by
    have h := heap_alloc_new (w.alloc (.cells #[(.slice p_S_0 x_S.boxes.length c_S_0), (.slice p_S_1 x_S.log.length c_S_1), .int .i64 x_S.given] 73)) (.cells #[.int .i64 x_M.kind, .int .i64 x_M.validity, .int .i64 x_M.uid, .int .i64 x_M.flags, sv x_M.name, sv x_M.text] 57)
    simp only [World.size_alloc] at h
    exact h)
  have hz0 : w.heap.size + 2 ≤ ((w.alloc (.cells #[(.slice p_S_0 x_S.boxes.length c_S_0), (.slice p_S_1 x_S.log.length c_S_1), .int .i64 x_S.given] 73)).alloc (.cells #[.int .i64 x_M.kind, .int .i64 x_M.validity, .int .i64 x_M.uid, .int .i64 x_M.flags, sv x_M.name, sv x_M.text] 57)).heap.size := by simp
  generalize hW0 : ((w.alloc (.cells #[(.slice p_S_0 x_S.boxes.length c_S_0), (.slice p_S_1 x_S.log.length c_S_1), .int .i64 x_S.given] 73)).alloc (.cells #[.int .i64 x_M.kind, .int .i64 x_M.validity, .int .i64 x_M.uid, .int .i64 x_M.flags, sv x_M.name, sv x_M.text] 57)) = W0 at *
  go_enter Tryz.func15, Tryz.ntmps15
  have hbz := Lib.hid hb.size
  have y3 := (Lib.cell_of_heap HB1.out 0).trans (show _ = some ((.slice p_S_0 x_S.boxes.length c_S_0)) from rfl)
  have y4 := (Lib.cell_of_heap HB1.out 1).trans (show _ = some ((.slice p_S_1 x_S.log.length c_S_1)) from rfl)
  have y5 := (Lib.cell_of_heap HB1.out 2).trans (show _ = some (.int .i64 x_S.given) from rfl)
  go_wp2_with fail
  refine (C_sz0.out _ _ (by first | rfl | omega) (LfRd.below hb _ _ H_r_S_0.out) (LfRd.below hb _ _ H_r_S_1.out)).mono ?_
  rintro e w6 ⟨rfl, b7⟩
  clear y3 y4 y5
  have F8 := Lib.hid ((b7.block (w.heap.size) (Array.getElem?_eq_some_iff.1 HB1.out).1).trans HB1.out)
  clear HB1
  have F9 := Lib.hid ((b7.block (w.heap.size + 1) (Array.getElem?_eq_some_iff.1 HB2.out).1).trans HB2.out)
  clear HB2
  have hz10 : W0.heap.size ≤ w6.heap.size := b7.size
  replace hb := hb.trans (b7.mono hb.size)
  clear b7
  have y11 := (Lib.cell_of_heap F9.out 0).trans (show _ = some (.int .i64 x_M.kind) from rfl)
  have y12 := (Lib.cell_of_heap F9.out 1).trans (show _ = some (.int .i64 x_M.validity) from rfl)
  have y13 := (Lib.cell_of_heap F9.out 2).trans (show _ = some (.int .i64 x_M.uid) from rfl)
  have y14 := (Lib.cell_of_heap F9.out 3).trans (show _ = some (.int .i64 x_M.flags) from rfl)
  have y15 := (Lib.cell_of_heap F9.out 4).trans (show _ = some (sv x_M.name) from rfl)
  have y16 := (Lib.cell_of_heap F9.out 5).trans (show _ = some (sv x_M.text) from rfl)
  go_wp2_with fail
  refine (C_sz1.out _ _ (by first | rfl | omega) ).mono ?_
  rintro e w17 ⟨rfl, b18⟩
  clear y11 y12 y13 y14 y15 y16
  have F19 := Lib.hid ((b18.block (w.heap.size) (Array.getElem?_eq_some_iff.1 F8.out).1).trans F8.out)
  clear F8
  have F20 := Lib.hid ((b18.block (w.heap.size + 1) (Array.getElem?_eq_some_iff.1 F9.out).1).trans F9.out)
  clear F9
  have hz21 : w6.heap.size ≤ w17.heap.size := b18.size
  replace hb := hb.trans (b18.mono hb.size)
  clear b18
  go_upto_region 8 with fail
  go_cut [6, 7] (fun u6 u7 wx => ∃ (nb : Nat) (z0_ : Value) (z1_ : Value) (f0_ : List Nat) (f1_ : List Nat), u6 = .pointer (some ⟨nb, 0, none⟩) ∧ u7 = .bool R1 ∧ wx.heap[nb]? = some (.cells #[z0_, z1_, .int .i64 (storD x_S x_M).given] 46 (0, 0)) ∧ w17.heap.size ≤ nb ∧ LfIn wx (boxsLf (storD x_S x_M).boxes) z0_ f0_ ∧ LfIn wx (commitsLf (storD x_S x_M).log) z1_ f1_ ∧ (f0_ ++ f1_).Nodup ∧ (∀ q ∈ f0_ ++ f1_, w17.heap.size ≤ q ∧ q ≠ nb) ∧ Below w17.heap.size w17 wx)
  case first =>
    have b22 : Below w17.heap.size w17 w17.drew := (Below.refl _ _).drew
    have HZD := Lib.hid (show w17.drew.heap.size = w17.heap.size from rfl)
    replace hb := hb.trans (b22.mono hb.size)
    have HS := Lib.hid (show ∀ W, Below w17.drew.heap.size w17.drew W → (W.heap[w.heap.size]? = some (.cells #[(.slice p_S_0 x_S.boxes.length c_S_0), (.slice p_S_1 x_S.log.length c_S_1), .int .i64 x_S.given] 73 (0, 0)) ∧ W.heap[w.heap.size + 1]? = some (.cells #[.int .i64 x_M.kind, .int .i64 x_M.validity, .int .i64 x_M.uid, .int .i64 x_M.flags, sv x_M.name, sv x_M.text] 57 (0, 0))) from fun W g => ⟨((b22.trans g).block (w.heap.size) (Array.getElem?_eq_some_iff.1 F19.out).1).trans F19.out, ((b22.trans g).block (w.heap.size + 1) (Array.getElem?_eq_some_iff.1 F20.out).1).trans F20.out⟩)
    have HBD := Lib.hid (show ∀ W, Below w17.drew.heap.size w17.drew W → Below w17.heap.size w17 W from fun W g => b22.trans g)
    clear F19 F20
    refine ordT_start (OTree.flo 0 (.flo 2 (.fork 1 (.fork 3 (.fork 4 (.flo 5 (.flo 6 (.flo 7 (.ev 8 (.ev 9 (.flo 10 (.nil))))))) 8 (.ev 4 (.flo 5 (.flo 6 (.flo 7 (.ev 9 (.flo 10 (.nil)))))))) 8 (.ev 3 (.ev 4 (.flo 5 (.flo 6 (.flo 7 (.ev 9 (.flo 10 (.nil))))))))) 8 (.ev 1 (.ev 3 (.ev 4 (.flo 5 (.flo 6 (.flo 7 (.ev 9 (.flo 10 (.nil)))))))))))) (fun W => W.heap[w.heap.size]? = some (.cells #[(.slice p_S_0 x_S.boxes.length c_S_0), (.slice p_S_1 x_S.log.length c_S_1), .int .i64 x_S.given] 73 (0, 0)) ∧ W.heap[w.heap.size + 1]? = some (.cells #[.int .i64 x_M.kind, .int .i64 x_M.validity, .int .i64 x_M.uid, .int .i64 x_M.flags, sv x_M.name, sv x_M.text] 57 (0, 0))) (by kernel_rfl) (by kernel_rfl) rfl (by kernel_rfl) ?_
    intro ops1 hops1
    generalize w17.drew = D23 at *
    have g0 := get_of hops1 0
    have g1 := get_of hops1 1
    have g2 := get_of hops1 2
    have g3 := get_of hops1 3
    have g4 := get_of hops1 4
    have g5 := get_of hops1 5
    have g6 := get_of hops1 6
    have g7 := get_of hops1 7
    have g8 := get_of hops1 8
    have g9 := get_of hops1 9
    have g10 := get_of hops1 10
    simp only [List.getElem?_toArray, List.getElem?_cons_zero, List.getElem?_cons_succ] at g0 g1 g2 g3 g4 g5 g6 g7 g8 g9 g10
    clear hops1
    have bD : Below D23.heap.size D23 D23 := Below.refl _ _
    refine ordT_flo _ g0 (.agg #[(.slice p_S_0 x_S.boxes.length c_S_0), (.slice p_S_1 x_S.log.length c_S_1), .int .i64 x_S.given]) (fun _ _ _ h => h) rfl ?_ (HS.out _ bD) ?_
    · intro W hS
      have y0 := (Lib.cell_of_heap hS.1 0).trans (show _ = some ((.slice p_S_0 x_S.boxes.length c_S_0)) from rfl)
      have y1 := (Lib.cell_of_heap hS.1 1).trans (show _ = some ((.slice p_S_1 x_S.log.length c_S_1)) from rfl)
      have y2 := (Lib.cell_of_heap hS.1 2).trans (show _ = some (.int .i64 x_S.given) from rfl)
      clear hS
      go_simp
    refine ordT_flo _ g2 (.agg #[.int .i64 x_M.kind, .int .i64 x_M.validity, .int .i64 x_M.uid, .int .i64 x_M.flags, sv x_M.name, sv x_M.text]) (fun _ _ _ h => h) rfl ?_ (HS.out _ bD) ?_
    · intro W hS
      have y0 := (Lib.cell_of_heap hS.2 0).trans (show _ = some (.int .i64 x_M.kind) from rfl)
      have y1 := (Lib.cell_of_heap hS.2 1).trans (show _ = some (.int .i64 x_M.validity) from rfl)
      have y2 := (Lib.cell_of_heap hS.2 2).trans (show _ = some (.int .i64 x_M.uid) from rfl)
      have y3 := (Lib.cell_of_heap hS.2 3).trans (show _ = some (.int .i64 x_M.flags) from rfl)
      have y4 := (Lib.cell_of_heap hS.2 4).trans (show _ = some (sv x_M.name) from rfl)
      have y5 := (Lib.cell_of_heap hS.2 5).trans (show _ = some (sv x_M.text) from rfl)
      clear hS
      go_simp
    refine ordT_fork _ _ g1 g8 rfl rfl ?_ ?_
    · go_simp
      refine (C_to_S.out _ (LfRd.below hb _ _ H_r_S_0.out) (LfRd.below hb _ _ H_r_S_1.out)).mono ?_
      rintro e w24 ⟨z27, f29, z28, f30, rfl, i31, i32, nd33, lo34, b25⟩
      have hz35 : D23.heap.size ≤ w24.heap.size := b25.size
      replace hb := hb.trans (b25.mono hb.size)
      replace bD := bD.trans (b25.mono bD.size)
      have LO36 := Lib.hid (show ∀ q ∈ f29 ++ f30, D23.heap.size ≤ q from lo34)
      have HI37 := Lib.hid (show ∀ q ∈ f29 ++ f30, q < w24.heap.size from fun q hq => by simp only [List.mem_append] at hq; rcases hq with hq | hq <;> first | exact LfIn.lt _ _ _ i31 q hq | exact LfIn.lt _ _ _ i32 q hq)
      have ND38 := Lib.hid nd33
      have F39 := Lib.hid i31
      have LO40 := Lib.hid (show ∀ q ∈ f29, D23.heap.size ≤ q from fun q hq => LO36.out q (by simp [hq]))
      have HI41 := Lib.hid (show ∀ q ∈ f29, q < w24.heap.size from fun q hq => HI37.out q (by simp [hq]))
      obtain ⟨pz27, cz27, rfl⟩ := LfIn.slice i31
      have F42 := Lib.hid i32
      have LO43 := Lib.hid (show ∀ q ∈ f30, D23.heap.size ≤ q from fun q hq => LO36.out q (by simp [hq]))
      have HI44 := Lib.hid (show ∀ q ∈ f30, q < w24.heap.size from fun q hq => HI37.out q (by simp [hq]))
      obtain ⟨pz28, cz28, rfl⟩ := LfIn.slice i32
      clear i31
      clear i32
      clear nd33 lo34
      clear b25
      refine ⟨(HS.out _ bD), ?_⟩
      refine ordT_fork _ _ g3 g8 rfl rfl ?_ ?_
      · go_simp
        refine (C_to_M.out _ ).mono ?_
        rintro e w45 ⟨rfl, b46⟩
        have F48 := Lib.hid (LfIn.below F39.out b46)
        clear F39
        have F49 := Lib.hid (LfIn.below F42.out b46)
        clear F42
        have hz50 : w24.heap.size ≤ w45.heap.size := b46.size
        replace hb := hb.trans (b46.mono hb.size)
        replace bD := bD.trans (b46.mono bD.size)
        clear b46
        refine ⟨(HS.out _ bD), ?_⟩
        refine ordT_fork _ _ g4 g8 rfl rfl ?_ ?_
        · go_simp
          refine (C_spec.out _ _ _ (LfIn.rd _ _ _ F48.out) (CapLe.of_in F48.out) (LfIn.rd _ _ _ F49.out) (CapLe.of_in F49.out)).mono ?_
          rintro e w51 ⟨z53, f55, z54, f56, rfl, i57, i58, nd59, lo60, b52⟩
          have F61 := Lib.hid (LfIn.below F48.out b52)
          clear F48
          have F62 := Lib.hid (LfIn.below F49.out b52)
          clear F49
          have hz63 : w45.heap.size ≤ w51.heap.size := b52.size
          replace hb := hb.trans (b52.mono hb.size)
          replace bD := bD.trans (b52.mono bD.size)
          have LO64 := Lib.hid (show ∀ q ∈ f55 ++ f56, w45.heap.size ≤ q from lo60)
          have HI65 := Lib.hid (show ∀ q ∈ f55 ++ f56, q < w51.heap.size from fun q hq => by simp only [List.mem_append] at hq; rcases hq with hq | hq <;> first | exact LfIn.lt _ _ _ i57 q hq | exact LfIn.lt _ _ _ i58 q hq)
          have ND66 := Lib.hid nd59
          have F67 := Lib.hid i57
          have LO68 := Lib.hid (show ∀ q ∈ f55, w45.heap.size ≤ q from fun q hq => LO64.out q (by simp [hq]))
          have HI69 := Lib.hid (show ∀ q ∈ f55, q < w51.heap.size from fun q hq => HI65.out q (by simp [hq]))
          obtain ⟨pz53, cz53, rfl⟩ := LfIn.slice i57
          have F70 := Lib.hid i58
          have LO71 := Lib.hid (show ∀ q ∈ f56, w45.heap.size ≤ q from fun q hq => LO64.out q (by simp [hq]))
          have HI72 := Lib.hid (show ∀ q ∈ f56, q < w51.heap.size from fun q hq => HI65.out q (by simp [hq]))
          obtain ⟨pz54, cz54, rfl⟩ := LfIn.slice i58
          clear i57
          clear i58
          clear nd59 lo60
          clear b52
          refine ⟨(HS.out _ bD), ?_⟩
          refine ordT_flo _ g5 ?_ (fun _ _ _ h => h) rfl ?_ (HS.out _ bD) ?_; rotate_left; focus (intro W hS; go_simp; rfl)
          refine ordT_flo _ g6 ?_ (fun _ _ _ h => h) rfl ?_ (HS.out _ bD) ?_; rotate_left; focus (intro W hS; go_simp; rfl)
          refine ordT_flo _ g7 ?_ (fun _ _ _ h => h) rfl ?_ (HS.out _ bD) ?_; rotate_left; focus (intro W hS; go_simp; rfl)
          refine ordT_ev _ g8 rfl ?_
          go_simp
          have b74 : Below w51.heap.size w51 (w51.alloc (.cells #[.slice none 0 0, .slice none 0 0, .int .i64 0] 46)) := (Below.refl _ _).alloc (Nat.le_refl _) _
          have NB75 := Lib.hid (heap_alloc_new w51 (.cells #[.slice none 0 0, .slice none 0 0, .int .i64 0] 46))
          have hz76 : w51.heap.size + 1 ≤ (w51.alloc (.cells #[.slice none 0 0, .slice none 0 0, .int .i64 0] 46)).heap.size := by simp
          generalize hX73 : w51.alloc (.cells #[.slice none 0 0, .slice none 0 0, .int .i64 0] 46) = X73 at *
          have F77 := Lib.hid (LfIn.below F61.out b74)
          clear F61
          have F78 := Lib.hid (LfIn.below F62.out b74)
          clear F62
          have F79 := Lib.hid (LfIn.below F67.out b74)
          clear F67
          have F80 := Lib.hid (LfIn.below F70.out b74)
          clear F70
          have hz81 : w51.heap.size ≤ X73.heap.size := b74.size
          replace hb := hb.trans (b74.mono hb.size)
          replace bD := bD.trans (b74.mono bD.size)
          clear b74 hX73
          refine ⟨(HS.out _ bD), ?_⟩
          have nb0 := NB75.out
          obtain ⟨⟨q0_, q1_, q2_⟩, ⟨y0_, y1_, y2_⟩, t0_, t1_, t2_⟩ := blk_3c nb0
          have nb1 : (((X73.setCell ⟨w51.heap.size, 0, none⟩ ((.slice pz53 (storD x_S x_M).boxes.length cz53))).setCell ⟨w51.heap.size, 1, none⟩ ((.slice pz54 (storD x_S x_M).log.length cz54))).setCell ⟨w51.heap.size, 2, none⟩ (.int .i64 (storD x_S x_M).given)).heap[w51.heap.size]? = some (.cells #[(.slice pz53 (storD x_S x_M).boxes.length cz53), (.slice pz54 (storD x_S x_M).log.length cz54), .int .i64 (storD x_S x_M).given] 46 (0, 0)) := set_heap (set_heap (set_heap (nb0)))
          have in0_ : LfIn (((X73.setCell ⟨w51.heap.size, 0, none⟩ ((.slice pz53 (storD x_S x_M).boxes.length cz53))).setCell ⟨w51.heap.size, 1, none⟩ ((.slice pz54 (storD x_S x_M).log.length cz54))).setCell ⟨w51.heap.size, 2, none⟩ (.int .i64 (storD x_S x_M).given)) (boxsLf (storD x_S x_M).boxes) _ f55 := LfIn.set (LfIn.set (LfIn.set (F79.out) (fun hm => by have h1 := LO68.out _ hm; have h2 := HI69.out _ hm; omega)) (fun hm => by have h1 := LO68.out _ hm; have h2 := HI69.out _ hm; omega)) (fun hm => by have h1 := LO68.out _ hm; have h2 := HI69.out _ hm; omega)
          have in1_ : LfIn (((X73.setCell ⟨w51.heap.size, 0, none⟩ ((.slice pz53 (storD x_S x_M).boxes.length cz53))).setCell ⟨w51.heap.size, 1, none⟩ ((.slice pz54 (storD x_S x_M).log.length cz54))).setCell ⟨w51.heap.size, 2, none⟩ (.int .i64 (storD x_S x_M).given)) (commitsLf (storD x_S x_M).log) _ f56 := LfIn.set (LfIn.set (LfIn.set (F80.out) (fun hm => by have h1 := LO71.out _ hm; have h2 := HI72.out _ hm; omega)) (fun hm => by have h1 := LO71.out _ hm; have h2 := HI72.out _ hm; omega)) (fun hm => by have h1 := LO71.out _ hm; have h2 := HI72.out _ hm; omega)
          have hge : D23.heap.size ≤ w51.heap.size := by omega
          have bD9 : Below D23.heap.size D23 (((X73.setCell ⟨w51.heap.size, 0, none⟩ ((.slice pz53 (storD x_S x_M).boxes.length cz53))).setCell ⟨w51.heap.size, 1, none⟩ ((.slice pz54 (storD x_S x_M).log.length cz54))).setCell ⟨w51.heap.size, 2, none⟩ (.int .i64 (storD x_S x_M).given)) := (((bD.setCell hge _).setCell hge _).setCell hge _)
          refine ordT_ev _ g9 rfl ?_
          go_simp
          refine ⟨HS.out _ bD9, ?_⟩
          have HR := Lib.hid (And.intro nb1 (And.intro bD9 (And.intro hge (And.intro in0_ in1_))))
          clear nb0 nb1 bD9 in0_ in1_ q0_ q1_ q2_ y0_ y1_ y2_ t0_ t1_ t2_
          refine ordT_flo _ g10 ?_ (fun _ _ _ h => h) rfl ?_ (HS.out _ HR.out.2.1) ?_; rotate_left; focus (intro W hS; go_simp; rfl)
          refine ordT_done ?_
          clear g0 g1 g2 g3 g4 g5 g6 g7 g8 g9 g10
          go_wp2_with fail
          go_meet
          exact ⟨_, _, _, _, _, rfl, rfl, HR.out.1, by have := HR.out.2.2.1; have := HZD.out; omega, HR.out.2.2.2.1, HR.out.2.2.2.2, ND66.out, fun q hq => ⟨by have := LO64.out q hq; have := HZD.out; omega, by have h1 := LO64.out q hq; have h2 := HI65.out q hq; omega⟩, HBD.out _ HR.out.2.1⟩
        · go_simp
          have b83 : Below w45.heap.size w45 (w45.alloc (.cells #[.slice none 0 0, .slice none 0 0, .int .i64 0] 46)) := (Below.refl _ _).alloc (Nat.le_refl _) _
          have NB84 := Lib.hid (heap_alloc_new w45 (.cells #[.slice none 0 0, .slice none 0 0, .int .i64 0] 46))
          have hz85 : w45.heap.size + 1 ≤ (w45.alloc (.cells #[.slice none 0 0, .slice none 0 0, .int .i64 0] 46)).heap.size := by simp
          generalize hX82 : w45.alloc (.cells #[.slice none 0 0, .slice none 0 0, .int .i64 0] 46) = X82 at *
          have F86 := Lib.hid (LfIn.below F48.out b83)
          clear F48
          have F87 := Lib.hid (LfIn.below F49.out b83)
          clear F49
          have hz88 : w45.heap.size ≤ X82.heap.size := b83.size
          replace hb := hb.trans (b83.mono hb.size)
          replace bD := bD.trans (b83.mono bD.size)
          clear b83 hX82
          refine ⟨(HS.out _ bD), ?_⟩
          refine ordT_ev _ g4 rfl ?_
          go_simp
          refine (C_spec.out _ _ _ (LfIn.rd _ _ _ F86.out) (CapLe.of_in F86.out) (LfIn.rd _ _ _ F87.out) (CapLe.of_in F87.out)).mono ?_
          rintro e w89 ⟨z91, f93, z92, f94, rfl, i95, i96, nd97, lo98, b90⟩
          have F99 := Lib.hid (LfIn.below F86.out b90)
          clear F86
          have F100 := Lib.hid (LfIn.below F87.out b90)
          clear F87
          have F101 := Lib.hid ((b90.block (w45.heap.size) (Array.getElem?_eq_some_iff.1 NB84.out).1).trans NB84.out)
          clear NB84
          have hz102 : X82.heap.size ≤ w89.heap.size := b90.size
          replace hb := hb.trans (b90.mono hb.size)
          replace bD := bD.trans (b90.mono bD.size)
          have LO103 := Lib.hid (show ∀ q ∈ f93 ++ f94, X82.heap.size ≤ q from lo98)
          have HI104 := Lib.hid (show ∀ q ∈ f93 ++ f94, q < w89.heap.size from fun q hq => by simp only [List.mem_append] at hq; rcases hq with hq | hq <;> first | exact LfIn.lt _ _ _ i95 q hq | exact LfIn.lt _ _ _ i96 q hq)
          have ND105 := Lib.hid nd97
          have F106 := Lib.hid i95
          have LO107 := Lib.hid (show ∀ q ∈ f93, X82.heap.size ≤ q from fun q hq => LO103.out q (by simp [hq]))
          have HI108 := Lib.hid (show ∀ q ∈ f93, q < w89.heap.size from fun q hq => HI104.out q (by simp [hq]))
          obtain ⟨pz91, cz91, rfl⟩ := LfIn.slice i95
          have F109 := Lib.hid i96
          have LO110 := Lib.hid (show ∀ q ∈ f94, X82.heap.size ≤ q from fun q hq => LO103.out q (by simp [hq]))
          have HI111 := Lib.hid (show ∀ q ∈ f94, q < w89.heap.size from fun q hq => HI104.out q (by simp [hq]))
          obtain ⟨pz92, cz92, rfl⟩ := LfIn.slice i96
          clear i95
          clear i96
          clear nd97 lo98
          clear b90
          refine ⟨(HS.out _ bD), ?_⟩
          refine ordT_flo _ g5 ?_ (fun _ _ _ h => h) rfl ?_ (HS.out _ bD) ?_; rotate_left; focus (intro W hS; go_simp; rfl)
          refine ordT_flo _ g6 ?_ (fun _ _ _ h => h) rfl ?_ (HS.out _ bD) ?_; rotate_left; focus (intro W hS; go_simp; rfl)
          refine ordT_flo _ g7 ?_ (fun _ _ _ h => h) rfl ?_ (HS.out _ bD) ?_; rotate_left; focus (intro W hS; go_simp; rfl)
          have nb0 := F101.out
          obtain ⟨⟨q0_, q1_, q2_⟩, ⟨y0_, y1_, y2_⟩, t0_, t1_, t2_⟩ := blk_3c nb0
          have nb1 : (((w89.setCell ⟨w45.heap.size, 0, none⟩ ((.slice pz91 (storD x_S x_M).boxes.length cz91))).setCell ⟨w45.heap.size, 1, none⟩ ((.slice pz92 (storD x_S x_M).log.length cz92))).setCell ⟨w45.heap.size, 2, none⟩ (.int .i64 (storD x_S x_M).given)).heap[w45.heap.size]? = some (.cells #[(.slice pz91 (storD x_S x_M).boxes.length cz91), (.slice pz92 (storD x_S x_M).log.length cz92), .int .i64 (storD x_S x_M).given] 46 (0, 0)) := set_heap (set_heap (set_heap (nb0)))
          have in0_ : LfIn (((w89.setCell ⟨w45.heap.size, 0, none⟩ ((.slice pz91 (storD x_S x_M).boxes.length cz91))).setCell ⟨w45.heap.size, 1, none⟩ ((.slice pz92 (storD x_S x_M).log.length cz92))).setCell ⟨w45.heap.size, 2, none⟩ (.int .i64 (storD x_S x_M).given)) (boxsLf (storD x_S x_M).boxes) _ f93 := LfIn.set (LfIn.set (LfIn.set (F106.out) (fun hm => by have h1 := LO107.out _ hm; have h2 := HI108.out _ hm; omega)) (fun hm => by have h1 := LO107.out _ hm; have h2 := HI108.out _ hm; omega)) (fun hm => by have h1 := LO107.out _ hm; have h2 := HI108.out _ hm; omega)
          have in1_ : LfIn (((w89.setCell ⟨w45.heap.size, 0, none⟩ ((.slice pz91 (storD x_S x_M).boxes.length cz91))).setCell ⟨w45.heap.size, 1, none⟩ ((.slice pz92 (storD x_S x_M).log.length cz92))).setCell ⟨w45.heap.size, 2, none⟩ (.int .i64 (storD x_S x_M).given)) (commitsLf (storD x_S x_M).log) _ f94 := LfIn.set (LfIn.set (LfIn.set (F109.out) (fun hm => by have h1 := LO110.out _ hm; have h2 := HI111.out _ hm; omega)) (fun hm => by have h1 := LO110.out _ hm; have h2 := HI111.out _ hm; omega)) (fun hm => by have h1 := LO110.out _ hm; have h2 := HI111.out _ hm; omega)
          have hge : D23.heap.size ≤ w45.heap.size := by omega
          have bD9 : Below D23.heap.size D23 (((w89.setCell ⟨w45.heap.size, 0, none⟩ ((.slice pz91 (storD x_S x_M).boxes.length cz91))).setCell ⟨w45.heap.size, 1, none⟩ ((.slice pz92 (storD x_S x_M).log.length cz92))).setCell ⟨w45.heap.size, 2, none⟩ (.int .i64 (storD x_S x_M).given)) := (((bD.setCell hge _).setCell hge _).setCell hge _)
          refine ordT_ev _ g9 rfl ?_
          go_simp
          refine ⟨HS.out _ bD9, ?_⟩
          have HR := Lib.hid (And.intro nb1 (And.intro bD9 (And.intro hge (And.intro in0_ in1_))))
          clear nb0 nb1 bD9 in0_ in1_ q0_ q1_ q2_ y0_ y1_ y2_ t0_ t1_ t2_
          refine ordT_flo _ g10 ?_ (fun _ _ _ h => h) rfl ?_ (HS.out _ HR.out.2.1) ?_; rotate_left; focus (intro W hS; go_simp; rfl)
          refine ordT_done ?_
          clear g0 g1 g2 g3 g4 g5 g6 g7 g8 g9 g10
          go_wp2_with fail
          go_meet
          exact ⟨_, _, _, _, _, rfl, rfl, HR.out.1, by have := HR.out.2.2.1; have := HZD.out; omega, HR.out.2.2.2.1, HR.out.2.2.2.2, ND105.out, fun q hq => ⟨by have := LO103.out q hq; have := HZD.out; omega, by have h1 := LO103.out q hq; have h2 := HI104.out q hq; omega⟩, HBD.out _ HR.out.2.1⟩
      · go_simp
        have b113 : Below w24.heap.size w24 (w24.alloc (.cells #[.slice none 0 0, .slice none 0 0, .int .i64 0] 46)) := (Below.refl _ _).alloc (Nat.le_refl _) _
        have NB114 := Lib.hid (heap_alloc_new w24 (.cells #[.slice none 0 0, .slice none 0 0, .int .i64 0] 46))
        have hz115 : w24.heap.size + 1 ≤ (w24.alloc (.cells #[.slice none 0 0, .slice none 0 0, .int .i64 0] 46)).heap.size := by simp
        generalize hX112 : w24.alloc (.cells #[.slice none 0 0, .slice none 0 0, .int .i64 0] 46) = X112 at *
        have F116 := Lib.hid (LfIn.below F39.out b113)
        clear F39
        have F117 := Lib.hid (LfIn.below F42.out b113)
        clear F42
        have hz118 : w24.heap.size ≤ X112.heap.size := b113.size
        replace hb := hb.trans (b113.mono hb.size)
        replace bD := bD.trans (b113.mono bD.size)
        clear b113 hX112
        refine ⟨(HS.out _ bD), ?_⟩
        refine ordT_ev _ g3 rfl ?_
        go_simp
        refine (C_to_M.out _ ).mono ?_
        rintro e w119 ⟨rfl, b120⟩
        have F122 := Lib.hid (LfIn.below F116.out b120)
        clear F116
        have F123 := Lib.hid (LfIn.below F117.out b120)
        clear F117
        have F124 := Lib.hid ((b120.block (w24.heap.size) (Array.getElem?_eq_some_iff.1 NB114.out).1).trans NB114.out)
        clear NB114
        have hz125 : X112.heap.size ≤ w119.heap.size := b120.size
        replace hb := hb.trans (b120.mono hb.size)
        replace bD := bD.trans (b120.mono bD.size)
        clear b120
        refine ⟨(HS.out _ bD), ?_⟩
        refine ordT_ev _ g4 rfl ?_
        go_simp
        refine (C_spec.out _ _ _ (LfIn.rd _ _ _ F122.out) (CapLe.of_in F122.out) (LfIn.rd _ _ _ F123.out) (CapLe.of_in F123.out)).mono ?_
        rintro e w126 ⟨z128, f130, z129, f131, rfl, i132, i133, nd134, lo135, b127⟩
        have F136 := Lib.hid (LfIn.below F122.out b127)
        clear F122
        have F137 := Lib.hid (LfIn.below F123.out b127)
        clear F123
        have F138 := Lib.hid ((b127.block (w24.heap.size) (Array.getElem?_eq_some_iff.1 F124.out).1).trans F124.out)
        clear F124
        have hz139 : w119.heap.size ≤ w126.heap.size := b127.size
        replace hb := hb.trans (b127.mono hb.size)
        replace bD := bD.trans (b127.mono bD.size)
        have LO140 := Lib.hid (show ∀ q ∈ f130 ++ f131, w119.heap.size ≤ q from lo135)
        have HI141 := Lib.hid (show ∀ q ∈ f130 ++ f131, q < w126.heap.size from fun q hq => by simp only [List.mem_append] at hq; rcases hq with hq | hq <;> first | exact LfIn.lt _ _ _ i132 q hq | exact LfIn.lt _ _ _ i133 q hq)
        have ND142 := Lib.hid nd134
        have F143 := Lib.hid i132
        have LO144 := Lib.hid (show ∀ q ∈ f130, w119.heap.size ≤ q from fun q hq => LO140.out q (by simp [hq]))
        have HI145 := Lib.hid (show ∀ q ∈ f130, q < w126.heap.size from fun q hq => HI141.out q (by simp [hq]))
        obtain ⟨pz128, cz128, rfl⟩ := LfIn.slice i132
        have F146 := Lib.hid i133
        have LO147 := Lib.hid (show ∀ q ∈ f131, w119.heap.size ≤ q from fun q hq => LO140.out q (by simp [hq]))
        have HI148 := Lib.hid (show ∀ q ∈ f131, q < w126.heap.size from fun q hq => HI141.out q (by simp [hq]))
        obtain ⟨pz129, cz129, rfl⟩ := LfIn.slice i133
        clear i132
        clear i133
        clear nd134 lo135
        clear b127
        refine ⟨(HS.out _ bD), ?_⟩
        refine ordT_flo _ g5 ?_ (fun _ _ _ h => h) rfl ?_ (HS.out _ bD) ?_; rotate_left; focus (intro W hS; go_simp; rfl)
        refine ordT_flo _ g6 ?_ (fun _ _ _ h => h) rfl ?_ (HS.out _ bD) ?_; rotate_left; focus (intro W hS; go_simp; rfl)
        refine ordT_flo _ g7 ?_ (fun _ _ _ h => h) rfl ?_ (HS.out _ bD) ?_; rotate_left; focus (intro W hS; go_simp; rfl)
        have nb0 := F138.out
        obtain ⟨⟨q0_, q1_, q2_⟩, ⟨y0_, y1_, y2_⟩, t0_, t1_, t2_⟩ := blk_3c nb0
        have nb1 : (((w126.setCell ⟨w24.heap.size, 0, none⟩ ((.slice pz128 (storD x_S x_M).boxes.length cz128))).setCell ⟨w24.heap.size, 1, none⟩ ((.slice pz129 (storD x_S x_M).log.length cz129))).setCell ⟨w24.heap.size, 2, none⟩ (.int .i64 (storD x_S x_M).given)).heap[w24.heap.size]? = some (.cells #[(.slice pz128 (storD x_S x_M).boxes.length cz128), (.slice pz129 (storD x_S x_M).log.length cz129), .int .i64 (storD x_S x_M).given] 46 (0, 0)) := set_heap (set_heap (set_heap (nb0)))
        have in0_ : LfIn (((w126.setCell ⟨w24.heap.size, 0, none⟩ ((.slice pz128 (storD x_S x_M).boxes.length cz128))).setCell ⟨w24.heap.size, 1, none⟩ ((.slice pz129 (storD x_S x_M).log.length cz129))).setCell ⟨w24.heap.size, 2, none⟩ (.int .i64 (storD x_S x_M).given)) (boxsLf (storD x_S x_M).boxes) _ f130 := LfIn.set (LfIn.set (LfIn.set (F143.out) (fun hm => by have h1 := LO144.out _ hm; have h2 := HI145.out _ hm; omega)) (fun hm => by have h1 := LO144.out _ hm; have h2 := HI145.out _ hm; omega)) (fun hm => by have h1 := LO144.out _ hm; have h2 := HI145.out _ hm; omega)
        have in1_ : LfIn (((w126.setCell ⟨w24.heap.size, 0, none⟩ ((.slice pz128 (storD x_S x_M).boxes.length cz128))).setCell ⟨w24.heap.size, 1, none⟩ ((.slice pz129 (storD x_S x_M).log.length cz129))).setCell ⟨w24.heap.size, 2, none⟩ (.int .i64 (storD x_S x_M).given)) (commitsLf (storD x_S x_M).log) _ f131 := LfIn.set (LfIn.set (LfIn.set (F146.out) (fun hm => by have h1 := LO147.out _ hm; have h2 := HI148.out _ hm; omega)) (fun hm => by have h1 := LO147.out _ hm; have h2 := HI148.out _ hm; omega)) (fun hm => by have h1 := LO147.out _ hm; have h2 := HI148.out _ hm; omega)
        have hge : D23.heap.size ≤ w24.heap.size := by omega
        have bD9 : Below D23.heap.size D23 (((w126.setCell ⟨w24.heap.size, 0, none⟩ ((.slice pz128 (storD x_S x_M).boxes.length cz128))).setCell ⟨w24.heap.size, 1, none⟩ ((.slice pz129 (storD x_S x_M).log.length cz129))).setCell ⟨w24.heap.size, 2, none⟩ (.int .i64 (storD x_S x_M).given)) := (((bD.setCell hge _).setCell hge _).setCell hge _)
        refine ordT_ev _ g9 rfl ?_
        go_simp
        refine ⟨HS.out _ bD9, ?_⟩
        have HR := Lib.hid (And.intro nb1 (And.intro bD9 (And.intro hge (And.intro in0_ in1_))))
        clear nb0 nb1 bD9 in0_ in1_ q0_ q1_ q2_ y0_ y1_ y2_ t0_ t1_ t2_
        refine ordT_flo _ g10 ?_ (fun _ _ _ h => h) rfl ?_ (HS.out _ HR.out.2.1) ?_; rotate_left; focus (intro W hS; go_simp; rfl)
        refine ordT_done ?_
        clear g0 g1 g2 g3 g4 g5 g6 g7 g8 g9 g10
        go_wp2_with fail
        go_meet
        exact ⟨_, _, _, _, _, rfl, rfl, HR.out.1, by have := HR.out.2.2.1; have := HZD.out; omega, HR.out.2.2.2.1, HR.out.2.2.2.2, ND142.out, fun q hq => ⟨by have := LO140.out q hq; have := HZD.out; omega, by have h1 := LO140.out q hq; have h2 := HI141.out q hq; omega⟩, HBD.out _ HR.out.2.1⟩
    · go_simp
      have b150 : Below D23.heap.size D23 (D23.alloc (.cells #[.slice none 0 0, .slice none 0 0, .int .i64 0] 46)) := (Below.refl _ _).alloc (Nat.le_refl _) _
      have NB151 := Lib.hid (heap_alloc_new D23 (.cells #[.slice none 0 0, .slice none 0 0, .int .i64 0] 46))
      have hz152 : D23.heap.size + 1 ≤ (D23.alloc (.cells #[.slice none 0 0, .slice none 0 0, .int .i64 0] 46)).heap.size := by simp
      generalize hX149 : D23.alloc (.cells #[.slice none 0 0, .slice none 0 0, .int .i64 0] 46) = X149 at *
      have hz153 : D23.heap.size ≤ X149.heap.size := b150.size
      replace hb := hb.trans (b150.mono hb.size)
      replace bD := bD.trans (b150.mono bD.size)
      clear b150 hX149
      refine ⟨(HS.out _ bD), ?_⟩
      refine ordT_ev _ g1 rfl ?_
      go_simp
      refine (C_to_S.out _ (LfRd.below hb _ _ H_r_S_0.out) (LfRd.below hb _ _ H_r_S_1.out)).mono ?_
      rintro e w154 ⟨z157, f159, z158, f160, rfl, i161, i162, nd163, lo164, b155⟩
      have F165 := Lib.hid ((b155.block (D23.heap.size) (Array.getElem?_eq_some_iff.1 NB151.out).1).trans NB151.out)
      clear NB151
      have hz166 : X149.heap.size ≤ w154.heap.size := b155.size
      replace hb := hb.trans (b155.mono hb.size)
      replace bD := bD.trans (b155.mono bD.size)
      have LO167 := Lib.hid (show ∀ q ∈ f159 ++ f160, X149.heap.size ≤ q from lo164)
      have HI168 := Lib.hid (show ∀ q ∈ f159 ++ f160, q < w154.heap.size from fun q hq => by simp only [List.mem_append] at hq; rcases hq with hq | hq <;> first | exact LfIn.lt _ _ _ i161 q hq | exact LfIn.lt _ _ _ i162 q hq)
      have ND169 := Lib.hid nd163
      have F170 := Lib.hid i161
      have LO171 := Lib.hid (show ∀ q ∈ f159, X149.heap.size ≤ q from fun q hq => LO167.out q (by simp [hq]))
      have HI172 := Lib.hid (show ∀ q ∈ f159, q < w154.heap.size from fun q hq => HI168.out q (by simp [hq]))
      obtain ⟨pz157, cz157, rfl⟩ := LfIn.slice i161
      have F173 := Lib.hid i162
      have LO174 := Lib.hid (show ∀ q ∈ f160, X149.heap.size ≤ q from fun q hq => LO167.out q (by simp [hq]))
      have HI175 := Lib.hid (show ∀ q ∈ f160, q < w154.heap.size from fun q hq => HI168.out q (by simp [hq]))
      obtain ⟨pz158, cz158, rfl⟩ := LfIn.slice i162
      clear i161
      clear i162
      clear nd163 lo164
      clear b155
      refine ⟨(HS.out _ bD), ?_⟩
      refine ordT_ev _ g3 rfl ?_
      go_simp
      refine (C_to_M.out _ ).mono ?_
      rintro e w176 ⟨rfl, b177⟩
      have F179 := Lib.hid ((b177.block (D23.heap.size) (Array.getElem?_eq_some_iff.1 F165.out).1).trans F165.out)
      clear F165
      have F180 := Lib.hid (LfIn.below F170.out b177)
      clear F170
      have F181 := Lib.hid (LfIn.below F173.out b177)
      clear F173
      have hz182 : w154.heap.size ≤ w176.heap.size := b177.size
      replace hb := hb.trans (b177.mono hb.size)
      replace bD := bD.trans (b177.mono bD.size)
      clear b177
      refine ⟨(HS.out _ bD), ?_⟩
      refine ordT_ev _ g4 rfl ?_
      go_simp
      refine (C_spec.out _ _ _ (LfIn.rd _ _ _ F180.out) (CapLe.of_in F180.out) (LfIn.rd _ _ _ F181.out) (CapLe.of_in F181.out)).mono ?_
      rintro e w183 ⟨z185, f187, z186, f188, rfl, i189, i190, nd191, lo192, b184⟩
      have F193 := Lib.hid ((b184.block (D23.heap.size) (Array.getElem?_eq_some_iff.1 F179.out).1).trans F179.out)
      clear F179
      have F194 := Lib.hid (LfIn.below F180.out b184)
      clear F180
      have F195 := Lib.hid (LfIn.below F181.out b184)
      clear F181
      have hz196 : w176.heap.size ≤ w183.heap.size := b184.size
      replace hb := hb.trans (b184.mono hb.size)
      replace bD := bD.trans (b184.mono bD.size)
      have LO197 := Lib.hid (show ∀ q ∈ f187 ++ f188, w176.heap.size ≤ q from lo192)
      have HI198 := Lib.hid (show ∀ q ∈ f187 ++ f188, q < w183.heap.size from fun q hq => by simp only [List.mem_append] at hq; rcases hq with hq | hq <;> first | exact LfIn.lt _ _ _ i189 q hq | exact LfIn.lt _ _ _ i190 q hq)
      have ND199 := Lib.hid nd191
      have F200 := Lib.hid i189
      have LO201 := Lib.hid (show ∀ q ∈ f187, w176.heap.size ≤ q from fun q hq => LO197.out q (by simp [hq]))
      have HI202 := Lib.hid (show ∀ q ∈ f187, q < w183.heap.size from fun q hq => HI198.out q (by simp [hq]))
      obtain ⟨pz185, cz185, rfl⟩ := LfIn.slice i189
      have F203 := Lib.hid i190
      have LO204 := Lib.hid (show ∀ q ∈ f188, w176.heap.size ≤ q from fun q hq => LO197.out q (by simp [hq]))
      have HI205 := Lib.hid (show ∀ q ∈ f188, q < w183.heap.size from fun q hq => HI198.out q (by simp [hq]))
      obtain ⟨pz186, cz186, rfl⟩ := LfIn.slice i190
      clear i189
      clear i190
      clear nd191 lo192
      clear b184
      refine ⟨(HS.out _ bD), ?_⟩
      refine ordT_flo _ g5 ?_ (fun _ _ _ h => h) rfl ?_ (HS.out _ bD) ?_; rotate_left; focus (intro W hS; go_simp; rfl)
      refine ordT_flo _ g6 ?_ (fun _ _ _ h => h) rfl ?_ (HS.out _ bD) ?_; rotate_left; focus (intro W hS; go_simp; rfl)
      refine ordT_flo _ g7 ?_ (fun _ _ _ h => h) rfl ?_ (HS.out _ bD) ?_; rotate_left; focus (intro W hS; go_simp; rfl)
      have nb0 := F193.out
      obtain ⟨⟨q0_, q1_, q2_⟩, ⟨y0_, y1_, y2_⟩, t0_, t1_, t2_⟩ := blk_3c nb0
      have nb1 : (((w183.setCell ⟨D23.heap.size, 0, none⟩ ((.slice pz185 (storD x_S x_M).boxes.length cz185))).setCell ⟨D23.heap.size, 1, none⟩ ((.slice pz186 (storD x_S x_M).log.length cz186))).setCell ⟨D23.heap.size, 2, none⟩ (.int .i64 (storD x_S x_M).given)).heap[D23.heap.size]? = some (.cells #[(.slice pz185 (storD x_S x_M).boxes.length cz185), (.slice pz186 (storD x_S x_M).log.length cz186), .int .i64 (storD x_S x_M).given] 46 (0, 0)) := set_heap (set_heap (set_heap (nb0)))
      have in0_ : LfIn (((w183.setCell ⟨D23.heap.size, 0, none⟩ ((.slice pz185 (storD x_S x_M).boxes.length cz185))).setCell ⟨D23.heap.size, 1, none⟩ ((.slice pz186 (storD x_S x_M).log.length cz186))).setCell ⟨D23.heap.size, 2, none⟩ (.int .i64 (storD x_S x_M).given)) (boxsLf (storD x_S x_M).boxes) _ f187 := LfIn.set (LfIn.set (LfIn.set (F200.out) (fun hm => by have h1 := LO201.out _ hm; have h2 := HI202.out _ hm; omega)) (fun hm => by have h1 := LO201.out _ hm; have h2 := HI202.out _ hm; omega)) (fun hm => by have h1 := LO201.out _ hm; have h2 := HI202.out _ hm; omega)
      have in1_ : LfIn (((w183.setCell ⟨D23.heap.size, 0, none⟩ ((.slice pz185 (storD x_S x_M).boxes.length cz185))).setCell ⟨D23.heap.size, 1, none⟩ ((.slice pz186 (storD x_S x_M).log.length cz186))).setCell ⟨D23.heap.size, 2, none⟩ (.int .i64 (storD x_S x_M).given)) (commitsLf (storD x_S x_M).log) _ f188 := LfIn.set (LfIn.set (LfIn.set (F203.out) (fun hm => by have h1 := LO204.out _ hm; have h2 := HI205.out _ hm; omega)) (fun hm => by have h1 := LO204.out _ hm; have h2 := HI205.out _ hm; omega)) (fun hm => by have h1 := LO204.out _ hm; have h2 := HI205.out _ hm; omega)
      have hge : D23.heap.size ≤ D23.heap.size := by omega
      have bD9 : Below D23.heap.size D23 (((w183.setCell ⟨D23.heap.size, 0, none⟩ ((.slice pz185 (storD x_S x_M).boxes.length cz185))).setCell ⟨D23.heap.size, 1, none⟩ ((.slice pz186 (storD x_S x_M).log.length cz186))).setCell ⟨D23.heap.size, 2, none⟩ (.int .i64 (storD x_S x_M).given)) := (((bD.setCell hge _).setCell hge _).setCell hge _)
      refine ordT_ev _ g9 rfl ?_
      go_simp
      refine ⟨HS.out _ bD9, ?_⟩
      have HR := Lib.hid (And.intro nb1 (And.intro bD9 (And.intro hge (And.intro in0_ in1_))))
      clear nb0 nb1 bD9 in0_ in1_ q0_ q1_ q2_ y0_ y1_ y2_ t0_ t1_ t2_
      refine ordT_flo _ g10 ?_ (fun _ _ _ h => h) rfl ?_ (HS.out _ HR.out.2.1) ?_; rotate_left; focus (intro W hS; go_simp; rfl)
      refine ordT_done ?_
      clear g0 g1 g2 g3 g4 g5 g6 g7 g8 g9 g10
      go_wp2_with fail
      go_meet
      exact ⟨_, _, _, _, _, rfl, rfl, HR.out.1, by have := HR.out.2.2.1; have := HZD.out; omega, HR.out.2.2.2.1, HR.out.2.2.2.2, ND199.out, fun q hq => ⟨by have := LO197.out q hq; have := HZD.out; omega, by have h1 := LO197.out q hq; have h2 := HI198.out q hq; omega⟩, HBD.out _ HR.out.2.1⟩
  case rest =>
  obtain ⟨nb206, z207, z208, f209, f210, rfl, rfl, bk211, hn212, i213, i214, nd215, lo216, b217⟩ := hcut
  generalize wc = w218 at *
  have NE219 := Lib.hid (show ∀ q ∈ f209 ++ f210, q ≠ nb206 from fun q hq => (lo216 q hq).2)
  have lo220 : ∀ q ∈ f209 ++ f210, w17.heap.size ≤ q := fun q hq => (lo216 q hq).1
  clear lo216
  have F221 := Lib.hid ((b217.block (w.heap.size) (Array.getElem?_eq_some_iff.1 F19.out).1).trans F19.out)
  clear F19
  have F222 := Lib.hid ((b217.block (w.heap.size + 1) (Array.getElem?_eq_some_iff.1 F20.out).1).trans F20.out)
  clear F20
  have hz223 : w17.heap.size ≤ w218.heap.size := b217.size
  replace hb := hb.trans (b217.mono hb.size)
  have LO224 := Lib.hid (show ∀ q ∈ f209 ++ f210, w17.heap.size ≤ q from lo220)
  have HI225 := Lib.hid (show ∀ q ∈ f209 ++ f210, q < w218.heap.size from fun q hq => by simp only [List.mem_append] at hq; rcases hq with hq | hq <;> first | exact LfIn.lt _ _ _ i213 q hq | exact LfIn.lt _ _ _ i214 q hq)
  have ND226 := Lib.hid nd215
  have F227 := Lib.hid i213
  have LO228 := Lib.hid (show ∀ q ∈ f209, w17.heap.size ≤ q from fun q hq => LO224.out q (by simp [hq]))
  have HI229 := Lib.hid (show ∀ q ∈ f209, q < w218.heap.size from fun q hq => HI225.out q (by simp [hq]))
  obtain ⟨pz207, cz207, rfl⟩ := LfIn.slice i213
  have F230 := Lib.hid i214
  have LO231 := Lib.hid (show ∀ q ∈ f210, w17.heap.size ≤ q from fun q hq => LO224.out q (by simp [hq]))
  have HI232 := Lib.hid (show ∀ q ∈ f210, q < w218.heap.size from fun q hq => HI225.out q (by simp [hq]))
  obtain ⟨pz208, cz208, rfl⟩ := LfIn.slice i214
  clear i213
  clear i214
  clear nd215 lo220
  have hl233 : nb206 < w218.heap.size := (Array.getElem?_eq_some_iff.1 bk211).1
  have F234 := Lib.hid bk211
  clear bk211 b217
  have y235 := (Lib.cell_of_heap F221.out 0).trans (show _ = some ((.slice p_S_0 x_S.boxes.length c_S_0)) from rfl)
  have y236 := (Lib.cell_of_heap F221.out 1).trans (show _ = some ((.slice p_S_1 x_S.log.length c_S_1)) from rfl)
  have y237 := (Lib.cell_of_heap F221.out 2).trans (show _ = some (.int .i64 x_S.given) from rfl)
  go_wp2_with fail
  refine (C_to_S.out _ (LfRd.below hb _ _ H_r_S_0.out) (LfRd.below hb _ _ H_r_S_1.out)).mono ?_
  rintro e w238 ⟨z241, f243, z242, f244, rfl, i245, i246, nd247, lo248, b239⟩
  clear y235 y236 y237
  have F249 := Lib.hid ((b239.block (w.heap.size) (Array.getElem?_eq_some_iff.1 F221.out).1).trans F221.out)
  clear F221
  have F250 := Lib.hid ((b239.block (w.heap.size + 1) (Array.getElem?_eq_some_iff.1 F222.out).1).trans F222.out)
  clear F222
  have F251 := Lib.hid (LfIn.below F227.out b239)
  clear F227
  have F252 := Lib.hid (LfIn.below F230.out b239)
  clear F230
  have F253 := Lib.hid ((b239.block (nb206) (Array.getElem?_eq_some_iff.1 F234.out).1).trans F234.out)
  clear F234
  have hz254 : w218.heap.size ≤ w238.heap.size := b239.size
  replace hb := hb.trans (b239.mono hb.size)
  have LO255 := Lib.hid (show ∀ q ∈ f243 ++ f244, w218.heap.size ≤ q from lo248)
  have HI256 := Lib.hid (show ∀ q ∈ f243 ++ f244, q < w238.heap.size from fun q hq => by simp only [List.mem_append] at hq; rcases hq with hq | hq <;> first | exact LfIn.lt _ _ _ i245 q hq | exact LfIn.lt _ _ _ i246 q hq)
  have ND257 := Lib.hid nd247
  have F258 := Lib.hid i245
  have LO259 := Lib.hid (show ∀ q ∈ f243, w218.heap.size ≤ q from fun q hq => LO255.out q (by simp [hq]))
  have HI260 := Lib.hid (show ∀ q ∈ f243, q < w238.heap.size from fun q hq => HI256.out q (by simp [hq]))
  obtain ⟨pz241, cz241, rfl⟩ := LfIn.slice i245
  have F261 := Lib.hid i246
  have LO262 := Lib.hid (show ∀ q ∈ f244, w218.heap.size ≤ q from fun q hq => LO255.out q (by simp [hq]))
  have HI263 := Lib.hid (show ∀ q ∈ f244, q < w238.heap.size from fun q hq => HI256.out q (by simp [hq]))
  obtain ⟨pz242, cz242, rfl⟩ := LfIn.slice i246
  clear i245
  clear i246
  clear nd247 lo248
  clear b239
  have b265 : Below w238.heap.size w238 (w238.alloc (.cells #[(.slice pz241 x_S.boxes.length cz241), (.slice pz242 x_S.log.length cz242), .int .i64 x_S.given] 46)) := (Below.refl _ _).alloc (Nat.le_refl _) _
  have F266 := Lib.hid (heap_alloc_new w238 (.cells #[(.slice pz241 x_S.boxes.length cz241), (.slice pz242 x_S.log.length cz242), .int .i64 x_S.given] 46))
  have hz267 : w238.heap.size < (w238.alloc (.cells #[(.slice pz241 x_S.boxes.length cz241), (.slice pz242 x_S.log.length cz242), .int .i64 x_S.given] 46)).heap.size := by simp
  generalize hX264 : w238.alloc (.cells #[(.slice pz241 x_S.boxes.length cz241), (.slice pz242 x_S.log.length cz242), .int .i64 x_S.given] 46) = X264 at *
  have F268 := Lib.hid ((b265.block (w.heap.size) (Array.getElem?_eq_some_iff.1 F249.out).1).trans F249.out)
  clear F249
  have F269 := Lib.hid ((b265.block (w.heap.size + 1) (Array.getElem?_eq_some_iff.1 F250.out).1).trans F250.out)
  clear F250
  have F270 := Lib.hid (LfIn.below F251.out b265)
  clear F251
  have F271 := Lib.hid (LfIn.below F252.out b265)
  clear F252
  have F272 := Lib.hid ((b265.block (nb206) (Array.getElem?_eq_some_iff.1 F253.out).1).trans F253.out)
  clear F253
  have F273 := Lib.hid (LfIn.below F258.out b265)
  clear F258
  have F274 := Lib.hid (LfIn.below F261.out b265)
  clear F261
  have hz275 : w238.heap.size ≤ X264.heap.size := b265.size
  replace hb := hb.trans (b265.mono hb.size)
  clear b265
  go_upto_region 10 with fail
  go_cut [9, 10] (fun u9 u10 wx => ∃ (nb : Nat) (z0_ : Value) (z1_ : Value) (f0_ : List Nat) (f1_ : List Nat), u9 = .pointer (some ⟨nb, 0, none⟩) ∧ u10 = .bool R1 ∧ wx.heap[nb]? = some (.cells #[z0_, z1_, .int .i64 (storD x_S x_M).given] 46 (0, 0)) ∧ X264.heap.size ≤ nb ∧ LfIn wx (boxsLf (storD x_S x_M).boxes) z0_ f0_ ∧ LfIn wx (commitsLf (storD x_S x_M).log) z1_ f1_ ∧ (f0_ ++ f1_).Nodup ∧ (∀ q ∈ f0_ ++ f1_, X264.heap.size ≤ q ∧ q ≠ nb) ∧ Below X264.heap.size X264 wx)
  case first =>
    have b276 : Below X264.heap.size X264 X264.drew := (Below.refl _ _).drew
    have HZD := Lib.hid (show X264.drew.heap.size = X264.heap.size from rfl)
    replace hb := hb.trans (b276.mono hb.size)
    have HS := Lib.hid (show ∀ W, Below X264.drew.heap.size X264.drew W → (W.heap[w238.heap.size]? = some (.cells #[(.slice pz241 x_S.boxes.length cz241), (.slice pz242 x_S.log.length cz242), .int .i64 x_S.given] 46 (0, 0)) ∧ W.heap[w.heap.size + 1]? = some (.cells #[.int .i64 x_M.kind, .int .i64 x_M.validity, .int .i64 x_M.uid, .int .i64 x_M.flags, sv x_M.name, sv x_M.text] 57 (0, 0))) from fun W g => ⟨((b276.trans g).block (w238.heap.size) (Array.getElem?_eq_some_iff.1 F266.out).1).trans F266.out, ((b276.trans g).block (w.heap.size + 1) (Array.getElem?_eq_some_iff.1 F269.out).1).trans F269.out⟩)
    have HBD := Lib.hid (show ∀ W, Below X264.drew.heap.size X264.drew W → Below X264.heap.size X264 W from fun W g => b276.trans g)
    have F278 := Lib.hid (LfIn.below F273.out b276)
    have F279 := Lib.hid (LfIn.below F274.out b276)
    clear F268 F269 F270 F271 F272 F273 F274 F266
    refine ordT_start (OTree.flo 0 (.flo 1 (.fork 2 (.fork 3 (.flo 4 (.flo 5 (.flo 6 (.ev 7 (.ev 8 (.flo 9 (.nil))))))) 7 (.ev 3 (.flo 4 (.flo 5 (.flo 6 (.ev 8 (.flo 9 (.nil)))))))) 7 (.ev 2 (.ev 3 (.flo 4 (.flo 5 (.flo 6 (.ev 8 (.flo 9 (.nil))))))))))) (fun W => W.heap[w238.heap.size]? = some (.cells #[(.slice pz241 x_S.boxes.length cz241), (.slice pz242 x_S.log.length cz242), .int .i64 x_S.given] 46 (0, 0)) ∧ W.heap[w.heap.size + 1]? = some (.cells #[.int .i64 x_M.kind, .int .i64 x_M.validity, .int .i64 x_M.uid, .int .i64 x_M.flags, sv x_M.name, sv x_M.text] 57 (0, 0))) (by kernel_rfl) (by kernel_rfl) rfl (by kernel_rfl) ?_
    intro ops1 hops1
    generalize X264.drew = D277 at *
    have g0 := get_of hops1 0
    have g1 := get_of hops1 1
    have g2 := get_of hops1 2
    have g3 := get_of hops1 3
    have g4 := get_of hops1 4
    have g5 := get_of hops1 5
    have g6 := get_of hops1 6
    have g7 := get_of hops1 7
    have g8 := get_of hops1 8
    have g9 := get_of hops1 9
    simp only [List.getElem?_toArray, List.getElem?_cons_zero, List.getElem?_cons_succ] at g0 g1 g2 g3 g4 g5 g6 g7 g8 g9
    clear hops1
    have bD : Below D277.heap.size D277 D277 := Below.refl _ _
    refine ordT_flo _ g0 (.agg #[(.slice pz241 x_S.boxes.length cz241), (.slice pz242 x_S.log.length cz242), .int .i64 x_S.given]) (fun _ _ _ h => h) rfl ?_ (HS.out _ bD) ?_
    · intro W hS
      have y0 := (Lib.cell_of_heap hS.1 0).trans (show _ = some ((.slice pz241 x_S.boxes.length cz241)) from rfl)
      have y1 := (Lib.cell_of_heap hS.1 1).trans (show _ = some ((.slice pz242 x_S.log.length cz242)) from rfl)
      have y2 := (Lib.cell_of_heap hS.1 2).trans (show _ = some (.int .i64 x_S.given) from rfl)
      clear hS
      go_simp
    refine ordT_flo _ g1 (.agg #[.int .i64 x_M.kind, .int .i64 x_M.validity, .int .i64 x_M.uid, .int .i64 x_M.flags, sv x_M.name, sv x_M.text]) (fun _ _ _ h => h) rfl ?_ (HS.out _ bD) ?_
    · intro W hS
      have y0 := (Lib.cell_of_heap hS.2 0).trans (show _ = some (.int .i64 x_M.kind) from rfl)
      have y1 := (Lib.cell_of_heap hS.2 1).trans (show _ = some (.int .i64 x_M.validity) from rfl)
      have y2 := (Lib.cell_of_heap hS.2 2).trans (show _ = some (.int .i64 x_M.uid) from rfl)
      have y3 := (Lib.cell_of_heap hS.2 3).trans (show _ = some (.int .i64 x_M.flags) from rfl)
      have y4 := (Lib.cell_of_heap hS.2 4).trans (show _ = some (sv x_M.name) from rfl)
      have y5 := (Lib.cell_of_heap hS.2 5).trans (show _ = some (sv x_M.text) from rfl)
      clear hS
      go_simp
    refine ordT_fork _ _ g2 g7 rfl rfl ?_ ?_
    · go_simp
      refine (C_to_M.out _ ).mono ?_
      rintro e w280 ⟨rfl, b281⟩
      have F283 := Lib.hid (LfIn.below F278.out b281)
      clear F278
      have F284 := Lib.hid (LfIn.below F279.out b281)
      clear F279
      have hz285 : D277.heap.size ≤ w280.heap.size := b281.size
      replace hb := hb.trans (b281.mono hb.size)
      replace bD := bD.trans (b281.mono bD.size)
      clear b281
      refine ⟨(HS.out _ bD), ?_⟩
      refine ordT_fork _ _ g3 g7 rfl rfl ?_ ?_
      · go_simp
        refine (C_impl.out _ _ _ (hK _ _ hG hb) (LfIn.rd _ _ _ F283.out) (CapLe.of_in F283.out) (LfIn.rd _ _ _ F284.out) (CapLe.of_in F284.out)).mono ?_
        rintro e w286 ⟨z288, f290, z289, f291, rfl, i292, i293, nd294, lo295, b287⟩
        have F296 := Lib.hid (LfIn.below F283.out b287)
        clear F283
        have F297 := Lib.hid (LfIn.below F284.out b287)
        clear F284
        have hz298 : w280.heap.size ≤ w286.heap.size := b287.size
        replace hb := hb.trans (b287.mono hb.size)
        replace bD := bD.trans (b287.mono bD.size)
        have LO299 := Lib.hid (show ∀ q ∈ f290 ++ f291, w280.heap.size ≤ q from lo295)
        have HI300 := Lib.hid (show ∀ q ∈ f290 ++ f291, q < w286.heap.size from fun q hq => by simp only [List.mem_append] at hq; rcases hq with hq | hq <;> first | exact LfIn.lt _ _ _ i292 q hq | exact LfIn.lt _ _ _ i293 q hq)
        have ND301 := Lib.hid nd294
        have F302 := Lib.hid i292
        have LO303 := Lib.hid (show ∀ q ∈ f290, w280.heap.size ≤ q from fun q hq => LO299.out q (by simp [hq]))
        have HI304 := Lib.hid (show ∀ q ∈ f290, q < w286.heap.size from fun q hq => HI300.out q (by simp [hq]))
        obtain ⟨pz288, cz288, rfl⟩ := LfIn.slice i292
        have F305 := Lib.hid i293
        have LO306 := Lib.hid (show ∀ q ∈ f291, w280.heap.size ≤ q from fun q hq => LO299.out q (by simp [hq]))
        have HI307 := Lib.hid (show ∀ q ∈ f291, q < w286.heap.size from fun q hq => HI300.out q (by simp [hq]))
        obtain ⟨pz289, cz289, rfl⟩ := LfIn.slice i293
        clear i292
        clear i293
        clear nd294 lo295
        clear b287
        refine ⟨(HS.out _ bD), ?_⟩
        refine ordT_flo _ g4 ?_ (fun _ _ _ h => h) rfl ?_ (HS.out _ bD) ?_; rotate_left; focus (intro W hS; go_simp; rfl)
        refine ordT_flo _ g5 ?_ (fun _ _ _ h => h) rfl ?_ (HS.out _ bD) ?_; rotate_left; focus (intro W hS; go_simp; rfl)
        refine ordT_flo _ g6 ?_ (fun _ _ _ h => h) rfl ?_ (HS.out _ bD) ?_; rotate_left; focus (intro W hS; go_simp; rfl)
        refine ordT_ev _ g7 rfl ?_
        go_simp
        have b309 : Below w286.heap.size w286 (w286.alloc (.cells #[.slice none 0 0, .slice none 0 0, .int .i64 0] 46)) := (Below.refl _ _).alloc (Nat.le_refl _) _
        have NB310 := Lib.hid (heap_alloc_new w286 (.cells #[.slice none 0 0, .slice none 0 0, .int .i64 0] 46))
        have hz311 : w286.heap.size + 1 ≤ (w286.alloc (.cells #[.slice none 0 0, .slice none 0 0, .int .i64 0] 46)).heap.size := by simp
        generalize hX308 : w286.alloc (.cells #[.slice none 0 0, .slice none 0 0, .int .i64 0] 46) = X308 at *
        have F312 := Lib.hid (LfIn.below F296.out b309)
        clear F296
        have F313 := Lib.hid (LfIn.below F297.out b309)
        clear F297
        have F314 := Lib.hid (LfIn.below F302.out b309)
        clear F302
        have F315 := Lib.hid (LfIn.below F305.out b309)
        clear F305
        have hz316 : w286.heap.size ≤ X308.heap.size := b309.size
        replace hb := hb.trans (b309.mono hb.size)
        replace bD := bD.trans (b309.mono bD.size)
        clear b309 hX308
        refine ⟨(HS.out _ bD), ?_⟩
        have nb0 := NB310.out
        obtain ⟨⟨q0_, q1_, q2_⟩, ⟨y0_, y1_, y2_⟩, t0_, t1_, t2_⟩ := blk_3c nb0
        have nb1 : (((X308.setCell ⟨w286.heap.size, 0, none⟩ ((.slice pz288 (storD x_S x_M).boxes.length cz288))).setCell ⟨w286.heap.size, 1, none⟩ ((.slice pz289 (storD x_S x_M).log.length cz289))).setCell ⟨w286.heap.size, 2, none⟩ (.int .i64 (storD x_S x_M).given)).heap[w286.heap.size]? = some (.cells #[(.slice pz288 (storD x_S x_M).boxes.length cz288), (.slice pz289 (storD x_S x_M).log.length cz289), .int .i64 (storD x_S x_M).given] 46 (0, 0)) := set_heap (set_heap (set_heap (nb0)))
        have in0_ : LfIn (((X308.setCell ⟨w286.heap.size, 0, none⟩ ((.slice pz288 (storD x_S x_M).boxes.length cz288))).setCell ⟨w286.heap.size, 1, none⟩ ((.slice pz289 (storD x_S x_M).log.length cz289))).setCell ⟨w286.heap.size, 2, none⟩ (.int .i64 (storD x_S x_M).given)) (boxsLf (storD x_S x_M).boxes) _ f290 := LfIn.set (LfIn.set (LfIn.set (F314.out) (fun hm => by have h1 := LO303.out _ hm; have h2 := HI304.out _ hm; omega)) (fun hm => by have h1 := LO303.out _ hm; have h2 := HI304.out _ hm; omega)) (fun hm => by have h1 := LO303.out _ hm; have h2 := HI304.out _ hm; omega)
        have in1_ : LfIn (((X308.setCell ⟨w286.heap.size, 0, none⟩ ((.slice pz288 (storD x_S x_M).boxes.length cz288))).setCell ⟨w286.heap.size, 1, none⟩ ((.slice pz289 (storD x_S x_M).log.length cz289))).setCell ⟨w286.heap.size, 2, none⟩ (.int .i64 (storD x_S x_M).given)) (commitsLf (storD x_S x_M).log) _ f291 := LfIn.set (LfIn.set (LfIn.set (F315.out) (fun hm => by have h1 := LO306.out _ hm; have h2 := HI307.out _ hm; omega)) (fun hm => by have h1 := LO306.out _ hm; have h2 := HI307.out _ hm; omega)) (fun hm => by have h1 := LO306.out _ hm; have h2 := HI307.out _ hm; omega)
        have hge : D277.heap.size ≤ w286.heap.size := by omega
        have bD9 : Below D277.heap.size D277 (((X308.setCell ⟨w286.heap.size, 0, none⟩ ((.slice pz288 (storD x_S x_M).boxes.length cz288))).setCell ⟨w286.heap.size, 1, none⟩ ((.slice pz289 (storD x_S x_M).log.length cz289))).setCell ⟨w286.heap.size, 2, none⟩ (.int .i64 (storD x_S x_M).given)) := (((bD.setCell hge _).setCell hge _).setCell hge _)
        refine ordT_ev _ g8 rfl ?_
        go_simp
        refine ⟨HS.out _ bD9, ?_⟩
        have HR := Lib.hid (And.intro nb1 (And.intro bD9 (And.intro hge (And.intro in0_ in1_))))
        clear nb0 nb1 bD9 in0_ in1_ q0_ q1_ q2_ y0_ y1_ y2_ t0_ t1_ t2_
        refine ordT_flo _ g9 ?_ (fun _ _ _ h => h) rfl ?_ (HS.out _ HR.out.2.1) ?_; rotate_left; focus (intro W hS; go_simp; rfl)
        refine ordT_done ?_
        clear g0 g1 g2 g3 g4 g5 g6 g7 g8 g9
        go_wp2_with fail
        go_meet
        exact ⟨_, _, _, _, _, rfl, rfl, HR.out.1, by have := HR.out.2.2.1; have := HZD.out; omega, HR.out.2.2.2.1, HR.out.2.2.2.2, ND301.out, fun q hq => ⟨by have := LO299.out q hq; have := HZD.out; omega, by have h1 := LO299.out q hq; have h2 := HI300.out q hq; omega⟩, HBD.out _ HR.out.2.1⟩
      · go_simp
        have b318 : Below w280.heap.size w280 (w280.alloc (.cells #[.slice none 0 0, .slice none 0 0, .int .i64 0] 46)) := (Below.refl _ _).alloc (Nat.le_refl _) _
        have NB319 := Lib.hid (heap_alloc_new w280 (.cells #[.slice none 0 0, .slice none 0 0, .int .i64 0] 46))
        have hz320 : w280.heap.size + 1 ≤ (w280.alloc (.cells #[.slice none 0 0, .slice none 0 0, .int .i64 0] 46)).heap.size := by simp
        generalize hX317 : w280.alloc (.cells #[.slice none 0 0, .slice none 0 0, .int .i64 0] 46) = X317 at *
        have F321 := Lib.hid (LfIn.below F283.out b318)
        clear F283
        have F322 := Lib.hid (LfIn.below F284.out b318)
        clear F284
        have hz323 : w280.heap.size ≤ X317.heap.size := b318.size
        replace hb := hb.trans (b318.mono hb.size)
        replace bD := bD.trans (b318.mono bD.size)
        clear b318 hX317
        refine ⟨(HS.out _ bD), ?_⟩
        refine ordT_ev _ g3 rfl ?_
        go_simp
        refine (C_impl.out _ _ _ (hK _ _ hG hb) (LfIn.rd _ _ _ F321.out) (CapLe.of_in F321.out) (LfIn.rd _ _ _ F322.out) (CapLe.of_in F322.out)).mono ?_
        rintro e w324 ⟨z326, f328, z327, f329, rfl, i330, i331, nd332, lo333, b325⟩
        have F334 := Lib.hid (LfIn.below F321.out b325)
        clear F321
        have F335 := Lib.hid (LfIn.below F322.out b325)
        clear F322
        have F336 := Lib.hid ((b325.block (w280.heap.size) (Array.getElem?_eq_some_iff.1 NB319.out).1).trans NB319.out)
        clear NB319
        have hz337 : X317.heap.size ≤ w324.heap.size := b325.size
        replace hb := hb.trans (b325.mono hb.size)
        replace bD := bD.trans (b325.mono bD.size)
        have LO338 := Lib.hid (show ∀ q ∈ f328 ++ f329, X317.heap.size ≤ q from lo333)
        have HI339 := Lib.hid (show ∀ q ∈ f328 ++ f329, q < w324.heap.size from fun q hq => by simp only [List.mem_append] at hq; rcases hq with hq | hq <;> first | exact LfIn.lt _ _ _ i330 q hq | exact LfIn.lt _ _ _ i331 q hq)
        have ND340 := Lib.hid nd332
        have F341 := Lib.hid i330
        have LO342 := Lib.hid (show ∀ q ∈ f328, X317.heap.size ≤ q from fun q hq => LO338.out q (by simp [hq]))
        have HI343 := Lib.hid (show ∀ q ∈ f328, q < w324.heap.size from fun q hq => HI339.out q (by simp [hq]))
        obtain ⟨pz326, cz326, rfl⟩ := LfIn.slice i330
        have F344 := Lib.hid i331
        have LO345 := Lib.hid (show ∀ q ∈ f329, X317.heap.size ≤ q from fun q hq => LO338.out q (by simp [hq]))
        have HI346 := Lib.hid (show ∀ q ∈ f329, q < w324.heap.size from fun q hq => HI339.out q (by simp [hq]))
        obtain ⟨pz327, cz327, rfl⟩ := LfIn.slice i331
        clear i330
        clear i331
        clear nd332 lo333
        clear b325
        refine ⟨(HS.out _ bD), ?_⟩
        refine ordT_flo _ g4 ?_ (fun _ _ _ h => h) rfl ?_ (HS.out _ bD) ?_; rotate_left; focus (intro W hS; go_simp; rfl)
        refine ordT_flo _ g5 ?_ (fun _ _ _ h => h) rfl ?_ (HS.out _ bD) ?_; rotate_left; focus (intro W hS; go_simp; rfl)
        refine ordT_flo _ g6 ?_ (fun _ _ _ h => h) rfl ?_ (HS.out _ bD) ?_; rotate_left; focus (intro W hS; go_simp; rfl)
        have nb0 := F336.out
        obtain ⟨⟨q0_, q1_, q2_⟩, ⟨y0_, y1_, y2_⟩, t0_, t1_, t2_⟩ := blk_3c nb0
        have nb1 : (((w324.setCell ⟨w280.heap.size, 0, none⟩ ((.slice pz326 (storD x_S x_M).boxes.length cz326))).setCell ⟨w280.heap.size, 1, none⟩ ((.slice pz327 (storD x_S x_M).log.length cz327))).setCell ⟨w280.heap.size, 2, none⟩ (.int .i64 (storD x_S x_M).given)).heap[w280.heap.size]? = some (.cells #[(.slice pz326 (storD x_S x_M).boxes.length cz326), (.slice pz327 (storD x_S x_M).log.length cz327), .int .i64 (storD x_S x_M).given] 46 (0, 0)) := set_heap (set_heap (set_heap (nb0)))
        have in0_ : LfIn (((w324.setCell ⟨w280.heap.size, 0, none⟩ ((.slice pz326 (storD x_S x_M).boxes.length cz326))).setCell ⟨w280.heap.size, 1, none⟩ ((.slice pz327 (storD x_S x_M).log.length cz327))).setCell ⟨w280.heap.size, 2, none⟩ (.int .i64 (storD x_S x_M).given)) (boxsLf (storD x_S x_M).boxes) _ f328 := LfIn.set (LfIn.set (LfIn.set (F341.out) (fun hm => by have h1 := LO342.out _ hm; have h2 := HI343.out _ hm; omega)) (fun hm => by have h1 := LO342.out _ hm; have h2 := HI343.out _ hm; omega)) (fun hm => by have h1 := LO342.out _ hm; have h2 := HI343.out _ hm; omega)
        have in1_ : LfIn (((w324.setCell ⟨w280.heap.size, 0, none⟩ ((.slice pz326 (storD x_S x_M).boxes.length cz326))).setCell ⟨w280.heap.size, 1, none⟩ ((.slice pz327 (storD x_S x_M).log.length cz327))).setCell ⟨w280.heap.size, 2, none⟩ (.int .i64 (storD x_S x_M).given)) (commitsLf (storD x_S x_M).log) _ f329 := LfIn.set (LfIn.set (LfIn.set (F344.out) (fun hm => by have h1 := LO345.out _ hm; have h2 := HI346.out _ hm; omega)) (fun hm => by have h1 := LO345.out _ hm; have h2 := HI346.out _ hm; omega)) (fun hm => by have h1 := LO345.out _ hm; have h2 := HI346.out _ hm; omega)
        have hge : D277.heap.size ≤ w280.heap.size := by omega
        have bD9 : Below D277.heap.size D277 (((w324.setCell ⟨w280.heap.size, 0, none⟩ ((.slice pz326 (storD x_S x_M).boxes.length cz326))).setCell ⟨w280.heap.size, 1, none⟩ ((.slice pz327 (storD x_S x_M).log.length cz327))).setCell ⟨w280.heap.size, 2, none⟩ (.int .i64 (storD x_S x_M).given)) := (((bD.setCell hge _).setCell hge _).setCell hge _)
        refine ordT_ev _ g8 rfl ?_
        go_simp
        refine ⟨HS.out _ bD9, ?_⟩
        have HR := Lib.hid (And.intro nb1 (And.intro bD9 (And.intro hge (And.intro in0_ in1_))))
        clear nb0 nb1 bD9 in0_ in1_ q0_ q1_ q2_ y0_ y1_ y2_ t0_ t1_ t2_
        refine ordT_flo _ g9 ?_ (fun _ _ _ h => h) rfl ?_ (HS.out _ HR.out.2.1) ?_; rotate_left; focus (intro W hS; go_simp; rfl)
        refine ordT_done ?_
        clear g0 g1 g2 g3 g4 g5 g6 g7 g8 g9
        go_wp2_with fail
        go_meet
        exact ⟨_, _, _, _, _, rfl, rfl, HR.out.1, by have := HR.out.2.2.1; have := HZD.out; omega, HR.out.2.2.2.1, HR.out.2.2.2.2, ND340.out, fun q hq => ⟨by have := LO338.out q hq; have := HZD.out; omega, by have h1 := LO338.out q hq; have h2 := HI339.out q hq; omega⟩, HBD.out _ HR.out.2.1⟩
    · go_simp
      have b348 : Below D277.heap.size D277 (D277.alloc (.cells #[.slice none 0 0, .slice none 0 0, .int .i64 0] 46)) := (Below.refl _ _).alloc (Nat.le_refl _) _
      have NB349 := Lib.hid (heap_alloc_new D277 (.cells #[.slice none 0 0, .slice none 0 0, .int .i64 0] 46))
      have hz350 : D277.heap.size + 1 ≤ (D277.alloc (.cells #[.slice none 0 0, .slice none 0 0, .int .i64 0] 46)).heap.size := by simp
      generalize hX347 : D277.alloc (.cells #[.slice none 0 0, .slice none 0 0, .int .i64 0] 46) = X347 at *
      have F351 := Lib.hid (LfIn.below F278.out b348)
      clear F278
      have F352 := Lib.hid (LfIn.below F279.out b348)
      clear F279
      have hz353 : D277.heap.size ≤ X347.heap.size := b348.size
      replace hb := hb.trans (b348.mono hb.size)
      replace bD := bD.trans (b348.mono bD.size)
      clear b348 hX347
      refine ⟨(HS.out _ bD), ?_⟩
      refine ordT_ev _ g2 rfl ?_
      go_simp
      refine (C_to_M.out _ ).mono ?_
      rintro e w354 ⟨rfl, b355⟩
      have F357 := Lib.hid (LfIn.below F351.out b355)
      clear F351
      have F358 := Lib.hid (LfIn.below F352.out b355)
      clear F352
      have F359 := Lib.hid ((b355.block (D277.heap.size) (Array.getElem?_eq_some_iff.1 NB349.out).1).trans NB349.out)
      clear NB349
      have hz360 : X347.heap.size ≤ w354.heap.size := b355.size
      replace hb := hb.trans (b355.mono hb.size)
      replace bD := bD.trans (b355.mono bD.size)
      clear b355
      refine ⟨(HS.out _ bD), ?_⟩
      refine ordT_ev _ g3 rfl ?_
      go_simp
      refine (C_impl.out _ _ _ (hK _ _ hG hb) (LfIn.rd _ _ _ F357.out) (CapLe.of_in F357.out) (LfIn.rd _ _ _ F358.out) (CapLe.of_in F358.out)).mono ?_
      rintro e w361 ⟨z363, f365, z364, f366, rfl, i367, i368, nd369, lo370, b362⟩
      have F371 := Lib.hid (LfIn.below F357.out b362)
      clear F357
      have F372 := Lib.hid (LfIn.below F358.out b362)
      clear F358
      have F373 := Lib.hid ((b362.block (D277.heap.size) (Array.getElem?_eq_some_iff.1 F359.out).1).trans F359.out)
      clear F359
      have hz374 : w354.heap.size ≤ w361.heap.size := b362.size
      replace hb := hb.trans (b362.mono hb.size)
      replace bD := bD.trans (b362.mono bD.size)
      have LO375 := Lib.hid (show ∀ q ∈ f365 ++ f366, w354.heap.size ≤ q from lo370)
      have HI376 := Lib.hid (show ∀ q ∈ f365 ++ f366, q < w361.heap.size from fun q hq => by simp only [List.mem_append] at hq; rcases hq with hq | hq <;> first | exact LfIn.lt _ _ _ i367 q hq | exact LfIn.lt _ _ _ i368 q hq)
      have ND377 := Lib.hid nd369
      have F378 := Lib.hid i367
      have LO379 := Lib.hid (show ∀ q ∈ f365, w354.heap.size ≤ q from fun q hq => LO375.out q (by simp [hq]))
      have HI380 := Lib.hid (show ∀ q ∈ f365, q < w361.heap.size from fun q hq => HI376.out q (by simp [hq]))
      obtain ⟨pz363, cz363, rfl⟩ := LfIn.slice i367
      have F381 := Lib.hid i368
      have LO382 := Lib.hid (show ∀ q ∈ f366, w354.heap.size ≤ q from fun q hq => LO375.out q (by simp [hq]))
      have HI383 := Lib.hid (show ∀ q ∈ f366, q < w361.heap.size from fun q hq => HI376.out q (by simp [hq]))
      obtain ⟨pz364, cz364, rfl⟩ := LfIn.slice i368
      clear i367
      clear i368
      clear nd369 lo370
      clear b362
      refine ⟨(HS.out _ bD), ?_⟩
      refine ordT_flo _ g4 ?_ (fun _ _ _ h => h) rfl ?_ (HS.out _ bD) ?_; rotate_left; focus (intro W hS; go_simp; rfl)
      refine ordT_flo _ g5 ?_ (fun _ _ _ h => h) rfl ?_ (HS.out _ bD) ?_; rotate_left; focus (intro W hS; go_simp; rfl)
      refine ordT_flo _ g6 ?_ (fun _ _ _ h => h) rfl ?_ (HS.out _ bD) ?_; rotate_left; focus (intro W hS; go_simp; rfl)
      have nb0 := F373.out
      obtain ⟨⟨q0_, q1_, q2_⟩, ⟨y0_, y1_, y2_⟩, t0_, t1_, t2_⟩ := blk_3c nb0
      have nb1 : (((w361.setCell ⟨D277.heap.size, 0, none⟩ ((.slice pz363 (storD x_S x_M).boxes.length cz363))).setCell ⟨D277.heap.size, 1, none⟩ ((.slice pz364 (storD x_S x_M).log.length cz364))).setCell ⟨D277.heap.size, 2, none⟩ (.int .i64 (storD x_S x_M).given)).heap[D277.heap.size]? = some (.cells #[(.slice pz363 (storD x_S x_M).boxes.length cz363), (.slice pz364 (storD x_S x_M).log.length cz364), .int .i64 (storD x_S x_M).given] 46 (0, 0)) := set_heap (set_heap (set_heap (nb0)))
      have in0_ : LfIn (((w361.setCell ⟨D277.heap.size, 0, none⟩ ((.slice pz363 (storD x_S x_M).boxes.length cz363))).setCell ⟨D277.heap.size, 1, none⟩ ((.slice pz364 (storD x_S x_M).log.length cz364))).setCell ⟨D277.heap.size, 2, none⟩ (.int .i64 (storD x_S x_M).given)) (boxsLf (storD x_S x_M).boxes) _ f365 := LfIn.set (LfIn.set (LfIn.set (F378.out) (fun hm => by have h1 := LO379.out _ hm; have h2 := HI380.out _ hm; omega)) (fun hm => by have h1 := LO379.out _ hm; have h2 := HI380.out _ hm; omega)) (fun hm => by have h1 := LO379.out _ hm; have h2 := HI380.out _ hm; omega)
      have in1_ : LfIn (((w361.setCell ⟨D277.heap.size, 0, none⟩ ((.slice pz363 (storD x_S x_M).boxes.length cz363))).setCell ⟨D277.heap.size, 1, none⟩ ((.slice pz364 (storD x_S x_M).log.length cz364))).setCell ⟨D277.heap.size, 2, none⟩ (.int .i64 (storD x_S x_M).given)) (commitsLf (storD x_S x_M).log) _ f366 := LfIn.set (LfIn.set (LfIn.set (F381.out) (fun hm => by have h1 := LO382.out _ hm; have h2 := HI383.out _ hm; omega)) (fun hm => by have h1 := LO382.out _ hm; have h2 := HI383.out _ hm; omega)) (fun hm => by have h1 := LO382.out _ hm; have h2 := HI383.out _ hm; omega)
      have hge : D277.heap.size ≤ D277.heap.size := by omega
      have bD9 : Below D277.heap.size D277 (((w361.setCell ⟨D277.heap.size, 0, none⟩ ((.slice pz363 (storD x_S x_M).boxes.length cz363))).setCell ⟨D277.heap.size, 1, none⟩ ((.slice pz364 (storD x_S x_M).log.length cz364))).setCell ⟨D277.heap.size, 2, none⟩ (.int .i64 (storD x_S x_M).given)) := (((bD.setCell hge _).setCell hge _).setCell hge _)
      refine ordT_ev _ g8 rfl ?_
      go_simp
      refine ⟨HS.out _ bD9, ?_⟩
      have HR := Lib.hid (And.intro nb1 (And.intro bD9 (And.intro hge (And.intro in0_ in1_))))
      clear nb0 nb1 bD9 in0_ in1_ q0_ q1_ q2_ y0_ y1_ y2_ t0_ t1_ t2_
      refine ordT_flo _ g9 ?_ (fun _ _ _ h => h) rfl ?_ (HS.out _ HR.out.2.1) ?_; rotate_left; focus (intro W hS; go_simp; rfl)
      refine ordT_done ?_
      clear g0 g1 g2 g3 g4 g5 g6 g7 g8 g9
      go_wp2_with fail
      go_meet
      exact ⟨_, _, _, _, _, rfl, rfl, HR.out.1, by have := HR.out.2.2.1; have := HZD.out; omega, HR.out.2.2.2.1, HR.out.2.2.2.2, ND377.out, fun q hq => ⟨by have := LO375.out q hq; have := HZD.out; omega, by have h1 := LO375.out q hq; have h2 := HI376.out q hq; omega⟩, HBD.out _ HR.out.2.1⟩
  case rest =>
  obtain ⟨nb384, z385, z386, f387, f388, rfl, rfl, bk389, hn390, i391, i392, nd393, lo394, b395⟩ := hcut
  generalize wc = w396 at *
  have NE397 := Lib.hid (show ∀ q ∈ f387 ++ f388, q ≠ nb384 from fun q hq => (lo394 q hq).2)
  have lo398 : ∀ q ∈ f387 ++ f388, X264.heap.size ≤ q := fun q hq => (lo394 q hq).1
  clear lo394
  have F399 := Lib.hid ((b395.block (w.heap.size) (Array.getElem?_eq_some_iff.1 F268.out).1).trans F268.out)
  clear F268
  have F400 := Lib.hid ((b395.block (w.heap.size + 1) (Array.getElem?_eq_some_iff.1 F269.out).1).trans F269.out)
  clear F269
  have F401 := Lib.hid (LfIn.below F270.out b395)
  clear F270
  have F402 := Lib.hid (LfIn.below F271.out b395)
  clear F271
  have F403 := Lib.hid ((b395.block (nb206) (Array.getElem?_eq_some_iff.1 F272.out).1).trans F272.out)
  clear F272
  have F404 := Lib.hid (LfIn.below F273.out b395)
  clear F273
  have F405 := Lib.hid (LfIn.below F274.out b395)
  clear F274
  have F406 := Lib.hid ((b395.block (w238.heap.size) (Array.getElem?_eq_some_iff.1 F266.out).1).trans F266.out)
  clear F266
  have hz407 : X264.heap.size ≤ w396.heap.size := b395.size
  replace hb := hb.trans (b395.mono hb.size)
  have LO408 := Lib.hid (show ∀ q ∈ f387 ++ f388, X264.heap.size ≤ q from lo398)
  have HI409 := Lib.hid (show ∀ q ∈ f387 ++ f388, q < w396.heap.size from fun q hq => by simp only [List.mem_append] at hq; rcases hq with hq | hq <;> first | exact LfIn.lt _ _ _ i391 q hq | exact LfIn.lt _ _ _ i392 q hq)
  have ND410 := Lib.hid nd393
  have F411 := Lib.hid i391
  have LO412 := Lib.hid (show ∀ q ∈ f387, X264.heap.size ≤ q from fun q hq => LO408.out q (by simp [hq]))
  have HI413 := Lib.hid (show ∀ q ∈ f387, q < w396.heap.size from fun q hq => HI409.out q (by simp [hq]))
  obtain ⟨pz385, cz385, rfl⟩ := LfIn.slice i391
  have F414 := Lib.hid i392
  have LO415 := Lib.hid (show ∀ q ∈ f388, X264.heap.size ≤ q from fun q hq => LO408.out q (by simp [hq]))
  have HI416 := Lib.hid (show ∀ q ∈ f388, q < w396.heap.size from fun q hq => HI409.out q (by simp [hq]))
  obtain ⟨pz386, cz386, rfl⟩ := LfIn.slice i392
  clear i391
  clear i392
  clear nd393 lo398
  have hl417 : nb384 < w396.heap.size := (Array.getElem?_eq_some_iff.1 bk389).1
  have F418 := Lib.hid bk389
  clear bk389 b395
  have y419 := (Lib.cell_of_heap F418.out 0).trans (show _ = some ((.slice pz385 (storD x_S x_M).boxes.length cz385)) from rfl)
  have y420 := (Lib.cell_of_heap F418.out 1).trans (show _ = some ((.slice pz386 (storD x_S x_M).log.length cz386)) from rfl)
  have y421 := (Lib.cell_of_heap F418.out 2).trans (show _ = some (.int .i64 (storD x_S x_M).given) from rfl)
  have y422 := (Lib.cell_of_heap F403.out 0).trans (show _ = some ((.slice pz207 (storD x_S x_M).boxes.length cz207)) from rfl)
  have y423 := (Lib.cell_of_heap F403.out 1).trans (show _ = some ((.slice pz208 (storD x_S x_M).log.length cz208)) from rfl)
  have y424 := (Lib.cell_of_heap F403.out 2).trans (show _ = some (.int .i64 (storD x_S x_M).given) from rfl)
  go_wp2_with fail
  refine (eqStore_g (storD x_S x_M) _ _ _ _ _ (LfIn.rd _ _ _ F411.out) (LfIn.rd _ _ _ F401.out) (LfIn.rd _ _ _ F414.out) (LfIn.rd _ _ _ F402.out) (by have := SZ_r0.out; omega)).mono ?_
  rintro e w425 ⟨rfl, b426⟩
  clear y419 y420 y421 y422 y423 y424
  have F427 := Lib.hid ((b426.block (w.heap.size) (Array.getElem?_eq_some_iff.1 F399.out).1).trans F399.out)
  clear F399
  have F428 := Lib.hid ((b426.block (w.heap.size + 1) (Array.getElem?_eq_some_iff.1 F400.out).1).trans F400.out)
  clear F400
  have F429 := Lib.hid (LfIn.below F401.out b426)
  clear F401
  have F430 := Lib.hid (LfIn.below F402.out b426)
  clear F402
  have F431 := Lib.hid ((b426.block (nb206) (Array.getElem?_eq_some_iff.1 F403.out).1).trans F403.out)
  clear F403
  have F432 := Lib.hid (LfIn.below F404.out b426)
  clear F404
  have F433 := Lib.hid (LfIn.below F405.out b426)
  clear F405
  have F434 := Lib.hid ((b426.block (w238.heap.size) (Array.getElem?_eq_some_iff.1 F406.out).1).trans F406.out)
  clear F406
  have F435 := Lib.hid (LfIn.below F411.out b426)
  clear F411
  have F436 := Lib.hid (LfIn.below F414.out b426)
  clear F414
  have F437 := Lib.hid ((b426.block (nb384) (Array.getElem?_eq_some_iff.1 F418.out).1).trans F418.out)
  clear F418
  have hz438 : w396.heap.size ≤ w425.heap.size := b426.size
  replace hb := hb.trans (b426.mono hb.size)
  clear b426
  go_wp2
  refine ord_start [(0, true), (1, true), (2, false), (3, false), (4, true)] (fun W => W.heap[w238.heap.size]? = some (.cells #[(.slice pz241 x_S.boxes.length cz241), (.slice pz242 x_S.log.length cz242), .int .i64 x_S.given] 46 (0, 0)) ∧ W.heap[w.heap.size]? = some (.cells #[(.slice p_S_0 x_S.boxes.length c_S_0), (.slice p_S_1 x_S.log.length c_S_1), .int .i64 x_S.given] 73 (0, 0))) (by kernel_rfl) (by kernel_rfl) rfl (by kernel_rfl) ?_
  intro ops' hops
  clear hops
  simp only [List.map_cons, List.map_nil, pickOp_zero, pickOp_succ]
  have b440 : Below w425.heap.size w425 w425.drew := (Below.refl _ _).drew
  have hz441 : w425.drew.heap.size = w425.heap.size := rfl
  generalize w425.drew = D439 at *
  have F442 := Lib.hid ((b440.block (w.heap.size) (Array.getElem?_eq_some_iff.1 F427.out).1).trans F427.out)
  clear F427
  have F443 := Lib.hid ((b440.block (w.heap.size + 1) (Array.getElem?_eq_some_iff.1 F428.out).1).trans F428.out)
  clear F428
  have F444 := Lib.hid (LfIn.below F429.out b440)
  clear F429
  have F445 := Lib.hid (LfIn.below F430.out b440)
  clear F430
  have F446 := Lib.hid ((b440.block (nb206) (Array.getElem?_eq_some_iff.1 F431.out).1).trans F431.out)
  clear F431
  have F447 := Lib.hid (LfIn.below F432.out b440)
  clear F432
  have F448 := Lib.hid (LfIn.below F433.out b440)
  clear F433
  have F449 := Lib.hid ((b440.block (w238.heap.size) (Array.getElem?_eq_some_iff.1 F434.out).1).trans F434.out)
  clear F434
  have F450 := Lib.hid (LfIn.below F435.out b440)
  clear F435
  have F451 := Lib.hid (LfIn.below F436.out b440)
  clear F436
  have F452 := Lib.hid ((b440.block (nb384) (Array.getElem?_eq_some_iff.1 F437.out).1).trans F437.out)
  clear F437
  have hz453 : w425.heap.size ≤ D439.heap.size := b440.size
  replace hb := hb.trans (b440.mono hb.size)
  clear b440
  refine ord_flo (.agg #[(.slice pz241 x_S.boxes.length cz241), (.slice pz242 x_S.log.length cz242), .int .i64 x_S.given]) (fun _ _ _ h => h) rfl ?_ ⟨F449.out, F442.out⟩ ?_
  · intro W hS
    have y0 := (Lib.cell_of_heap hS.1 0).trans (show _ = some ((.slice pz241 x_S.boxes.length cz241)) from rfl)
    have y1 := (Lib.cell_of_heap hS.1 1).trans (show _ = some ((.slice pz242 x_S.log.length cz242)) from rfl)
    have y2 := (Lib.cell_of_heap hS.1 2).trans (show _ = some (.int .i64 x_S.given) from rfl)
    clear hS
    go_simp
  refine ord_flo (.agg #[(.slice p_S_0 x_S.boxes.length c_S_0), (.slice p_S_1 x_S.log.length c_S_1), .int .i64 x_S.given]) (fun _ _ _ h => h) rfl ?_ ⟨F449.out, F442.out⟩ ?_
  · intro W hS
    have y0 := (Lib.cell_of_heap hS.2 0).trans (show _ = some ((.slice p_S_0 x_S.boxes.length c_S_0)) from rfl)
    have y1 := (Lib.cell_of_heap hS.2 1).trans (show _ = some ((.slice p_S_1 x_S.log.length c_S_1)) from rfl)
    have y2 := (Lib.cell_of_heap hS.2 2).trans (show _ = some (.int .i64 x_S.given) from rfl)
    clear hS
    go_simp
  refine ord_ev rfl ?_
  go_simp
  refine (C_to_S.out _ (LfRd.below hb _ _ H_r_S_0.out) (LfRd.below hb _ _ H_r_S_1.out)).mono ?_
  rintro e w454 ⟨z457, f459, z458, f460, rfl, i461, i462, nd463, lo464, b455⟩
  have F465 := Lib.hid ((b455.block (w.heap.size) (Array.getElem?_eq_some_iff.1 F442.out).1).trans F442.out)
  clear F442
  have F466 := Lib.hid ((b455.block (w.heap.size + 1) (Array.getElem?_eq_some_iff.1 F443.out).1).trans F443.out)
  clear F443
  have F467 := Lib.hid (LfIn.below F444.out b455)
  clear F444
  have F468 := Lib.hid (LfIn.below F445.out b455)
  clear F445
  have F469 := Lib.hid ((b455.block (nb206) (Array.getElem?_eq_some_iff.1 F446.out).1).trans F446.out)
  clear F446
  have F470 := Lib.hid (LfIn.below F447.out b455)
  clear F447
  have F471 := Lib.hid (LfIn.below F448.out b455)
  clear F448
  have F472 := Lib.hid ((b455.block (w238.heap.size) (Array.getElem?_eq_some_iff.1 F449.out).1).trans F449.out)
  clear F449
  have F473 := Lib.hid (LfIn.below F450.out b455)
  clear F450
  have F474 := Lib.hid (LfIn.below F451.out b455)
  clear F451
  have F475 := Lib.hid ((b455.block (nb384) (Array.getElem?_eq_some_iff.1 F452.out).1).trans F452.out)
  clear F452
  have hz476 : D439.heap.size ≤ w454.heap.size := b455.size
  replace hb := hb.trans (b455.mono hb.size)
  have LO477 := Lib.hid (show ∀ q ∈ f459 ++ f460, D439.heap.size ≤ q from lo464)
  have HI478 := Lib.hid (show ∀ q ∈ f459 ++ f460, q < w454.heap.size from fun q hq => by simp only [List.mem_append] at hq; rcases hq with hq | hq <;> first | exact LfIn.lt _ _ _ i461 q hq | exact LfIn.lt _ _ _ i462 q hq)
  have ND479 := Lib.hid nd463
  have F480 := Lib.hid i461
  have LO481 := Lib.hid (show ∀ q ∈ f459, D439.heap.size ≤ q from fun q hq => LO477.out q (by simp [hq]))
  have HI482 := Lib.hid (show ∀ q ∈ f459, q < w454.heap.size from fun q hq => HI478.out q (by simp [hq]))
  obtain ⟨pz457, cz457, rfl⟩ := LfIn.slice i461
  have F483 := Lib.hid i462
  have LO484 := Lib.hid (show ∀ q ∈ f460, D439.heap.size ≤ q from fun q hq => LO477.out q (by simp [hq]))
  have HI485 := Lib.hid (show ∀ q ∈ f460, q < w454.heap.size from fun q hq => HI478.out q (by simp [hq]))
  obtain ⟨pz458, cz458, rfl⟩ := LfIn.slice i462
  clear i461
  clear i462
  clear nd463 lo464
  clear b455
  refine ⟨⟨F472.out, F465.out⟩, ?_⟩
  refine ord_ev rfl ?_
  go_simp
  refine (eqStore_g x_S _ _ _ _ _ (LfIn.rd _ _ _ F470.out) (LfIn.rd _ _ _ F480.out) (LfIn.rd _ _ _ F471.out) (LfIn.rd _ _ _ F483.out) (by have := SZ_S.out; omega)).mono ?_
  rintro e w486 ⟨rfl, b487⟩
  have F488 := Lib.hid ((b487.block (w.heap.size) (Array.getElem?_eq_some_iff.1 F465.out).1).trans F465.out)
  clear F465
  have F489 := Lib.hid ((b487.block (w.heap.size + 1) (Array.getElem?_eq_some_iff.1 F466.out).1).trans F466.out)
  clear F466
  have F490 := Lib.hid (LfIn.below F467.out b487)
  clear F467
  have F491 := Lib.hid (LfIn.below F468.out b487)
  clear F468
  have F492 := Lib.hid ((b487.block (nb206) (Array.getElem?_eq_some_iff.1 F469.out).1).trans F469.out)
  clear F469
  have F493 := Lib.hid (LfIn.below F470.out b487)
  clear F470
  have F494 := Lib.hid (LfIn.below F471.out b487)
  clear F471
  have F495 := Lib.hid ((b487.block (w238.heap.size) (Array.getElem?_eq_some_iff.1 F472.out).1).trans F472.out)
  clear F472
  have F496 := Lib.hid (LfIn.below F473.out b487)
  clear F473
  have F497 := Lib.hid (LfIn.below F474.out b487)
  clear F474
  have F498 := Lib.hid ((b487.block (nb384) (Array.getElem?_eq_some_iff.1 F475.out).1).trans F475.out)
  clear F475
  have F499 := Lib.hid (LfIn.below F480.out b487)
  clear F480
  have F500 := Lib.hid (LfIn.below F483.out b487)
  clear F483
  have hz501 : w454.heap.size ≤ w486.heap.size := b487.size
  replace hb := hb.trans (b487.mono hb.size)
  clear b487
  refine ⟨⟨F495.out, F488.out⟩, ?_⟩
  iterate 1 (refine ord_flo ?_ (fun _ _ _ h => h) rfl ?_ ⟨F495.out, F488.out⟩ ?_; rotate_left; focus (intro W hS; obtain ⟨s0, s1⟩ := hS; go_simp; rfl))
  refine ord_done ?_
  go_simp
  have y502 := (Lib.cell_of_heap F495.out 0).trans (show _ = some ((.slice pz241 x_S.boxes.length cz241)) from rfl)
  have y503 := (Lib.cell_of_heap F495.out 1).trans (show _ = some ((.slice pz242 x_S.log.length cz242)) from rfl)
  have y504 := (Lib.cell_of_heap F495.out 2).trans (show _ = some (.int .i64 x_S.given) from rfl)
  go_wp2_with fail
  refine (markStore_g x_S _ _ _ 1 rfl f243 f244 _ F493.out F494.out ND257.out (by have := CN_S.out; omega) (by have := SZ_S.out; omega)).mono ?_
  rintro e w505 ⟨rfl, i508, i509, g507⟩
  clear y502 y503 y504
  clear F493
  have F510 := Lib.hid (LfIn.rd _ _ _ i508)
  clear F494
  have F511 := Lib.hid (LfIn.rd _ _ _ i509)
  have F512 := Lib.hid ((g507.block (w.heap.size) (Array.getElem?_eq_some_iff.1 F488.out).1 (fun hm => by have h3 := LO255.out _ hm; have h4 := HI256.out _ hm; omega)).trans F488.out)
  clear F488
  have F513 := Lib.hid ((g507.block (w.heap.size + 1) (Array.getElem?_eq_some_iff.1 F489.out).1 (fun hm => by have h3 := LO255.out _ hm; have h4 := HI256.out _ hm; omega)).trans F489.out)
  clear F489
  have F514 := Lib.hid (LfIn.away F490.out g507 (fun q hq hm => by have h1 := LO228.out q hq; have h2 := HI229.out q hq; have h3 := LO255.out q hm; have h4 := HI256.out q hm; omega))
  clear F490
  have F515 := Lib.hid (LfIn.away F491.out g507 (fun q hq hm => by have h1 := LO231.out q hq; have h2 := HI232.out q hq; have h3 := LO255.out q hm; have h4 := HI256.out q hm; omega))
  clear F491
  have F516 := Lib.hid ((g507.block (nb206) (Array.getElem?_eq_some_iff.1 F492.out).1 (fun hm => by have h3 := LO255.out _ hm; have h4 := HI256.out _ hm; omega)).trans F492.out)
  clear F492
  have F517 := Lib.hid ((g507.block (w238.heap.size) (Array.getElem?_eq_some_iff.1 F495.out).1 (fun hm => by have h3 := LO255.out _ hm; have h4 := HI256.out _ hm; omega)).trans F495.out)
  clear F495
  have F518 := Lib.hid (LfIn.away F496.out g507 (fun q hq hm => by have h1 := LO412.out q hq; have h2 := HI413.out q hq; have h3 := LO255.out q hm; have h4 := HI256.out q hm; omega))
  clear F496
  have F519 := Lib.hid (LfIn.away F497.out g507 (fun q hq hm => by have h1 := LO415.out q hq; have h2 := HI416.out q hq; have h3 := LO255.out q hm; have h4 := HI256.out q hm; omega))
  clear F497
  have F520 := Lib.hid ((g507.block (nb384) (Array.getElem?_eq_some_iff.1 F498.out).1 (fun hm => by have h3 := LO255.out _ hm; have h4 := HI256.out _ hm; omega)).trans F498.out)
  clear F498
  have F521 := Lib.hid (LfIn.away F499.out g507 (fun q hq hm => by have h1 := LO481.out q hq; have h2 := HI482.out q hq; have h3 := LO255.out q hm; have h4 := HI256.out q hm; omega))
  clear F499
  have F522 := Lib.hid (LfIn.away F500.out g507 (fun q hq hm => by have h1 := LO484.out q hq; have h2 := HI485.out q hq; have h3 := LO255.out q hm; have h4 := HI256.out q hm; omega))
  clear F500
  have hz523 : w486.heap.size ≤ w505.heap.size := g507.size
  replace hb := GrownIn.below hb g507 hb.size (fun q hq => by have h3 := LO255.out q hq; have h9 := hbz.out; omega)
  clear F510 F511
  clear g507 i508 i509
  obtain ⟨K524, hK524⟩ : ∃ K : Nat, K = 1 + cntLf (boxsLf x_S.boxes) + cntLf (commitsLf x_S.log) := ⟨_, rfl⟩
  rw [← hK524]
  have hnK524 : ¬ (K524 : Int) < 0 := by omega
  have hdK524 : decide ((K524 : Int) < 0) = false := decide_eq_false hnK524
  have HK524 := Lib.hid hK524
  clear hK524
  have y525 := (Lib.cell_of_heap F520.out 0).trans (show _ = some ((.slice pz385 (storD x_S x_M).boxes.length cz385)) from rfl)
  have y526 := (Lib.cell_of_heap F520.out 1).trans (show _ = some ((.slice pz386 (storD x_S x_M).log.length cz386)) from rfl)
  have y527 := (Lib.cell_of_heap F520.out 2).trans (show _ = some (.int .i64 (storD x_S x_M).given) from rfl)
  have y528 := (Lib.cell_of_heap F516.out 0).trans (show _ = some ((.slice pz207 (storD x_S x_M).boxes.length cz207)) from rfl)
  have y529 := (Lib.cell_of_heap F516.out 1).trans (show _ = some ((.slice pz208 (storD x_S x_M).log.length cz208)) from rfl)
  have y530 := (Lib.cell_of_heap F516.out 2).trans (show _ = some (.int .i64 (storD x_S x_M).given) from rfl)
  go_wp2_with fail
  refine (eqStore_g (storD x_S x_M) _ _ _ _ _ (LfIn.rd _ _ _ F518.out) (LfIn.rd _ _ _ F514.out) (LfIn.rd _ _ _ F519.out) (LfIn.rd _ _ _ F515.out) (by have := SZ_r0.out; omega)).mono ?_
  rintro e w531 ⟨rfl, b532⟩
  clear y525 y526 y527 y528 y529 y530
  have F533 := Lib.hid ((b532.block (w.heap.size) (Array.getElem?_eq_some_iff.1 F512.out).1).trans F512.out)
  clear F512
  have F534 := Lib.hid ((b532.block (w.heap.size + 1) (Array.getElem?_eq_some_iff.1 F513.out).1).trans F513.out)
  clear F513
  have F535 := Lib.hid (LfIn.below F514.out b532)
  clear F514
  have F536 := Lib.hid (LfIn.below F515.out b532)
  clear F515
  have F537 := Lib.hid ((b532.block (nb206) (Array.getElem?_eq_some_iff.1 F516.out).1).trans F516.out)
  clear F516
  have F538 := Lib.hid ((b532.block (w238.heap.size) (Array.getElem?_eq_some_iff.1 F517.out).1).trans F517.out)
  clear F517
  have F539 := Lib.hid (LfIn.below F518.out b532)
  clear F518
  have F540 := Lib.hid (LfIn.below F519.out b532)
  clear F519
  have F541 := Lib.hid ((b532.block (nb384) (Array.getElem?_eq_some_iff.1 F520.out).1).trans F520.out)
  clear F520
  have F542 := Lib.hid (LfIn.below F521.out b532)
  clear F521
  have F543 := Lib.hid (LfIn.below F522.out b532)
  clear F522
  have hz544 : w505.heap.size ≤ w531.heap.size := b532.size
  replace hb := hb.trans (b532.mono hb.size)
  clear b532
  have y545 := (Lib.cell_of_heap F541.out 0).trans (show _ = some ((.slice pz385 (storD x_S x_M).boxes.length cz385)) from rfl)
  have y546 := (Lib.cell_of_heap F541.out 1).trans (show _ = some ((.slice pz386 (storD x_S x_M).log.length cz386)) from rfl)
  have y547 := (Lib.cell_of_heap F541.out 2).trans (show _ = some (.int .i64 (storD x_S x_M).given) from rfl)
  go_wp2_with fail
  refine (markStore_g (storD x_S x_M) _ _ _ 1 rfl f387 f388 _ F539.out F540.out ND410.out (by have := CN_r0.out; omega) (by have := SZ_r0.out; omega)).mono ?_
  rintro e w548 ⟨rfl, i551, i552, g550⟩
  clear y545 y546 y547
  clear F539
  have F553 := Lib.hid (LfIn.rd _ _ _ i551)
  clear F540
  have F554 := Lib.hid (LfIn.rd _ _ _ i552)
  have F555 := Lib.hid ((g550.block (w.heap.size) (Array.getElem?_eq_some_iff.1 F533.out).1 (fun hm => by have h3 := LO408.out _ hm; have h4 := HI409.out _ hm; omega)).trans F533.out)
  clear F533
  have F556 := Lib.hid ((g550.block (w.heap.size + 1) (Array.getElem?_eq_some_iff.1 F534.out).1 (fun hm => by have h3 := LO408.out _ hm; have h4 := HI409.out _ hm; omega)).trans F534.out)
  clear F534
  have F557 := Lib.hid (LfIn.away F535.out g550 (fun q hq hm => by have h1 := LO228.out q hq; have h2 := HI229.out q hq; have h3 := LO408.out q hm; have h4 := HI409.out q hm; omega))
  clear F535
  have F558 := Lib.hid (LfIn.away F536.out g550 (fun q hq hm => by have h1 := LO231.out q hq; have h2 := HI232.out q hq; have h3 := LO408.out q hm; have h4 := HI409.out q hm; omega))
  clear F536
  have F559 := Lib.hid ((g550.block (nb206) (Array.getElem?_eq_some_iff.1 F537.out).1 (fun hm => by have h3 := LO408.out _ hm; have h4 := HI409.out _ hm; omega)).trans F537.out)
  clear F537
  have F560 := Lib.hid ((g550.block (w238.heap.size) (Array.getElem?_eq_some_iff.1 F538.out).1 (fun hm => by have h3 := LO408.out _ hm; have h4 := HI409.out _ hm; omega)).trans F538.out)
  clear F538
  have F561 := Lib.hid ((g550.block (nb384) (Array.getElem?_eq_some_iff.1 F541.out).1 (fun hm => NE397.out _ hm rfl)).trans F541.out)
  clear F541
  have F562 := Lib.hid (LfIn.away F542.out g550 (fun q hq hm => by have h1 := LO481.out q hq; have h2 := HI482.out q hq; have h3 := LO408.out q hm; have h4 := HI409.out q hm; omega))
  clear F542
  have F563 := Lib.hid (LfIn.away F543.out g550 (fun q hq hm => by have h1 := LO484.out q hq; have h2 := HI485.out q hq; have h3 := LO408.out q hm; have h4 := HI409.out q hm; omega))
  clear F543
  have hz564 : w531.heap.size ≤ w548.heap.size := g550.size
  replace hb := GrownIn.below hb g550 hb.size (fun q hq => by have h3 := LO408.out q hq; have h9 := hbz.out; omega)
  clear g550 i551 i552
  obtain ⟨K565, hK565⟩ : ∃ K : Nat, K = 1 + cntLf (boxsLf (storD x_S x_M).boxes) + cntLf (commitsLf (storD x_S x_M).log) := ⟨_, rfl⟩
  rw [← hK565]
  have hnK565 : ¬ (K565 : Int) < 0 := by omega
  have hdK565 : decide ((K565 : Int) < 0) = false := decide_eq_false hnK565
  have HK565 := Lib.hid hK565
  clear hK565
  have y566 := (Lib.cell_of_heap F561.out 0).trans (show _ = some ((.slice pz385 (storD x_S x_M).boxes.length cz385)) from rfl)
  have y567 := (Lib.cell_of_heap F561.out 1).trans (show _ = some ((.slice pz386 (storD x_S x_M).log.length cz386)) from rfl)
  have y568 := (Lib.cell_of_heap F561.out 2).trans (show _ = some (.int .i64 (storD x_S x_M).given) from rfl)
  go_wp2_with fail
  refine (heldStore_g (storD x_S x_M) _ _ _ 1 rfl _ F553.out F554.out (by have := CN_r0.out; omega) (by have := SZ_r0.out; omega)).mono ?_
  rintro e w569 ⟨rfl, b570⟩
  clear y566 y567 y568
  rw [← HK565.out]
  have F571 := Lib.hid ((b570.block (w.heap.size) (Array.getElem?_eq_some_iff.1 F555.out).1).trans F555.out)
  clear F555
  have F572 := Lib.hid ((b570.block (w.heap.size + 1) (Array.getElem?_eq_some_iff.1 F556.out).1).trans F556.out)
  clear F556
  have F573 := Lib.hid (LfIn.below F557.out b570)
  clear F557
  have F574 := Lib.hid (LfIn.below F558.out b570)
  clear F558
  have F575 := Lib.hid ((b570.block (nb206) (Array.getElem?_eq_some_iff.1 F559.out).1).trans F559.out)
  clear F559
  have F576 := Lib.hid ((b570.block (w238.heap.size) (Array.getElem?_eq_some_iff.1 F560.out).1).trans F560.out)
  clear F560
  have F577 := Lib.hid ((b570.block (nb384) (Array.getElem?_eq_some_iff.1 F561.out).1).trans F561.out)
  clear F561
  have F578 := Lib.hid (LfIn.below F562.out b570)
  clear F562
  have F579 := Lib.hid (LfIn.below F563.out b570)
  clear F563
  have F580 := Lib.hid (LfRd.below b570 _ _ F553.out)
  clear F553
  have F581 := Lib.hid (LfRd.below b570 _ _ F554.out)
  clear F554
  have hz582 : w548.heap.size ≤ w569.heap.size := b570.size
  replace hb := hb.trans (b570.mono hb.size)
  clear b570
  go_upto_region 27 with fail
  go_cut [14, 15] (fun u14 u15 wx => ∃ (nb : Nat) (z0_ : Value) (z1_ : Value) (f0_ : List Nat) (f1_ : List Nat), u14 = .pointer (some ⟨nb, 0, none⟩) ∧ u15 = .bool R1 ∧ wx.heap[nb]? = some (.cells #[z0_, z1_, .int .i64 (storD x_S x_M).given] 46 (0, 0)) ∧ w569.heap.size ≤ nb ∧ LfIn wx (boxsLf (storD x_S x_M).boxes) z0_ f0_ ∧ LfIn wx (commitsLf (storD x_S x_M).log) z1_ f1_ ∧ (f0_ ++ f1_).Nodup ∧ (∀ q ∈ f0_ ++ f1_, w569.heap.size ≤ q ∧ q ≠ nb) ∧ Below w569.heap.size w569 wx)
  case first =>
    have b583 : Below w569.heap.size w569 w569.drew := (Below.refl _ _).drew
    have HZD := Lib.hid (show w569.drew.heap.size = w569.heap.size from rfl)
    replace hb := hb.trans (b583.mono hb.size)
    have HS := Lib.hid (show ∀ W, Below w569.drew.heap.size w569.drew W → (W.heap[w.heap.size]? = some (.cells #[(.slice p_S_0 x_S.boxes.length c_S_0), (.slice p_S_1 x_S.log.length c_S_1), .int .i64 x_S.given] 73 (0, 0)) ∧ W.heap[w.heap.size + 1]? = some (.cells #[.int .i64 x_M.kind, .int .i64 x_M.validity, .int .i64 x_M.uid, .int .i64 x_M.flags, sv x_M.name, sv x_M.text] 57 (0, 0))) from fun W g => ⟨((b583.trans g).block (w.heap.size) (Array.getElem?_eq_some_iff.1 F571.out).1).trans F571.out, ((b583.trans g).block (w.heap.size + 1) (Array.getElem?_eq_some_iff.1 F572.out).1).trans F572.out⟩)
    have HBD := Lib.hid (show ∀ W, Below w569.drew.heap.size w569.drew W → Below w569.heap.size w569 W from fun W g => b583.trans g)
    clear F571 F572 F573 F574 F575 F576 F577 F578 F579 F580 F581
    refine ordT_start (OTree.flo 0 (.flo 2 (.fork 1 (.fork 3 (.fork 4 (.flo 5 (.flo 6 (.flo 7 (.ev 8 (.ev 9 (.flo 10 (.nil))))))) 8 (.ev 4 (.flo 5 (.flo 6 (.flo 7 (.ev 9 (.flo 10 (.nil)))))))) 8 (.ev 3 (.ev 4 (.flo 5 (.flo 6 (.flo 7 (.ev 9 (.flo 10 (.nil))))))))) 8 (.ev 1 (.ev 3 (.ev 4 (.flo 5 (.flo 6 (.flo 7 (.ev 9 (.flo 10 (.nil)))))))))))) (fun W => W.heap[w.heap.size]? = some (.cells #[(.slice p_S_0 x_S.boxes.length c_S_0), (.slice p_S_1 x_S.log.length c_S_1), .int .i64 x_S.given] 73 (0, 0)) ∧ W.heap[w.heap.size + 1]? = some (.cells #[.int .i64 x_M.kind, .int .i64 x_M.validity, .int .i64 x_M.uid, .int .i64 x_M.flags, sv x_M.name, sv x_M.text] 57 (0, 0))) (by kernel_rfl) (by kernel_rfl) rfl (by kernel_rfl) ?_
    intro ops1 hops1
    generalize w569.drew = D584 at *
    have g0 := get_of hops1 0
    have g1 := get_of hops1 1
    have g2 := get_of hops1 2
    have g3 := get_of hops1 3
    have g4 := get_of hops1 4
    have g5 := get_of hops1 5
    have g6 := get_of hops1 6
    have g7 := get_of hops1 7
    have g8 := get_of hops1 8
    have g9 := get_of hops1 9
    have g10 := get_of hops1 10
    simp only [List.getElem?_toArray, List.getElem?_cons_zero, List.getElem?_cons_succ] at g0 g1 g2 g3 g4 g5 g6 g7 g8 g9 g10
    clear hops1
    have bD : Below D584.heap.size D584 D584 := Below.refl _ _
    refine ordT_flo _ g0 (.agg #[(.slice p_S_0 x_S.boxes.length c_S_0), (.slice p_S_1 x_S.log.length c_S_1), .int .i64 x_S.given]) (fun _ _ _ h => h) rfl ?_ (HS.out _ bD) ?_
    · intro W hS
      have y0 := (Lib.cell_of_heap hS.1 0).trans (show _ = some ((.slice p_S_0 x_S.boxes.length c_S_0)) from rfl)
      have y1 := (Lib.cell_of_heap hS.1 1).trans (show _ = some ((.slice p_S_1 x_S.log.length c_S_1)) from rfl)
      have y2 := (Lib.cell_of_heap hS.1 2).trans (show _ = some (.int .i64 x_S.given) from rfl)
      clear hS
      go_simp
    refine ordT_flo _ g2 (.agg #[.int .i64 x_M.kind, .int .i64 x_M.validity, .int .i64 x_M.uid, .int .i64 x_M.flags, sv x_M.name, sv x_M.text]) (fun _ _ _ h => h) rfl ?_ (HS.out _ bD) ?_
    · intro W hS
      have y0 := (Lib.cell_of_heap hS.2 0).trans (show _ = some (.int .i64 x_M.kind) from rfl)
      have y1 := (Lib.cell_of_heap hS.2 1).trans (show _ = some (.int .i64 x_M.validity) from rfl)
      have y2 := (Lib.cell_of_heap hS.2 2).trans (show _ = some (.int .i64 x_M.uid) from rfl)
      have y3 := (Lib.cell_of_heap hS.2 3).trans (show _ = some (.int .i64 x_M.flags) from rfl)
      have y4 := (Lib.cell_of_heap hS.2 4).trans (show _ = some (sv x_M.name) from rfl)
      have y5 := (Lib.cell_of_heap hS.2 5).trans (show _ = some (sv x_M.text) from rfl)
      clear hS
      go_simp
    refine ordT_fork _ _ g1 g8 rfl rfl ?_ ?_
    · go_simp
      refine (C_to_S.out _ (LfRd.below hb _ _ H_r_S_0.out) (LfRd.below hb _ _ H_r_S_1.out)).mono ?_
      rintro e w585 ⟨z588, f590, z589, f591, rfl, i592, i593, nd594, lo595, b586⟩
      have hz596 : D584.heap.size ≤ w585.heap.size := b586.size
      replace hb := hb.trans (b586.mono hb.size)
      replace bD := bD.trans (b586.mono bD.size)
      have LO597 := Lib.hid (show ∀ q ∈ f590 ++ f591, D584.heap.size ≤ q from lo595)
      have HI598 := Lib.hid (show ∀ q ∈ f590 ++ f591, q < w585.heap.size from fun q hq => by simp only [List.mem_append] at hq; rcases hq with hq | hq <;> first | exact LfIn.lt _ _ _ i592 q hq | exact LfIn.lt _ _ _ i593 q hq)
      have ND599 := Lib.hid nd594
      have F600 := Lib.hid i592
      have LO601 := Lib.hid (show ∀ q ∈ f590, D584.heap.size ≤ q from fun q hq => LO597.out q (by simp [hq]))
      have HI602 := Lib.hid (show ∀ q ∈ f590, q < w585.heap.size from fun q hq => HI598.out q (by simp [hq]))
      obtain ⟨pz588, cz588, rfl⟩ := LfIn.slice i592
      have F603 := Lib.hid i593
      have LO604 := Lib.hid (show ∀ q ∈ f591, D584.heap.size ≤ q from fun q hq => LO597.out q (by simp [hq]))
      have HI605 := Lib.hid (show ∀ q ∈ f591, q < w585.heap.size from fun q hq => HI598.out q (by simp [hq]))
      obtain ⟨pz589, cz589, rfl⟩ := LfIn.slice i593
      clear i592
      clear i593
      clear nd594 lo595
      clear b586
      refine ⟨(HS.out _ bD), ?_⟩
      refine ordT_fork _ _ g3 g8 rfl rfl ?_ ?_
      · go_simp
        refine (C_to_M.out _ ).mono ?_
        rintro e w606 ⟨rfl, b607⟩
        have F609 := Lib.hid (LfIn.below F600.out b607)
        clear F600
        have F610 := Lib.hid (LfIn.below F603.out b607)
        clear F603
        have hz611 : w585.heap.size ≤ w606.heap.size := b607.size
        replace hb := hb.trans (b607.mono hb.size)
        replace bD := bD.trans (b607.mono bD.size)
        clear b607
        refine ⟨(HS.out _ bD), ?_⟩
        refine ordT_fork _ _ g4 g8 rfl rfl ?_ ?_
        · go_simp
          refine (C_impl.out _ _ _ (hK _ _ hG hb) (LfIn.rd _ _ _ F609.out) (CapLe.of_in F609.out) (LfIn.rd _ _ _ F610.out) (CapLe.of_in F610.out)).mono ?_
          rintro e w612 ⟨z614, f616, z615, f617, rfl, i618, i619, nd620, lo621, b613⟩
          have F622 := Lib.hid (LfIn.below F609.out b613)
          clear F609
          have F623 := Lib.hid (LfIn.below F610.out b613)
          clear F610
          have hz624 : w606.heap.size ≤ w612.heap.size := b613.size
          replace hb := hb.trans (b613.mono hb.size)
          replace bD := bD.trans (b613.mono bD.size)
          have LO625 := Lib.hid (show ∀ q ∈ f616 ++ f617, w606.heap.size ≤ q from lo621)
          have HI626 := Lib.hid (show ∀ q ∈ f616 ++ f617, q < w612.heap.size from fun q hq => by simp only [List.mem_append] at hq; rcases hq with hq | hq <;> first | exact LfIn.lt _ _ _ i618 q hq | exact LfIn.lt _ _ _ i619 q hq)
          have ND627 := Lib.hid nd620
          have F628 := Lib.hid i618
          have LO629 := Lib.hid (show ∀ q ∈ f616, w606.heap.size ≤ q from fun q hq => LO625.out q (by simp [hq]))
          have HI630 := Lib.hid (show ∀ q ∈ f616, q < w612.heap.size from fun q hq => HI626.out q (by simp [hq]))
          obtain ⟨pz614, cz614, rfl⟩ := LfIn.slice i618
          have F631 := Lib.hid i619
          have LO632 := Lib.hid (show ∀ q ∈ f617, w606.heap.size ≤ q from fun q hq => LO625.out q (by simp [hq]))
          have HI633 := Lib.hid (show ∀ q ∈ f617, q < w612.heap.size from fun q hq => HI626.out q (by simp [hq]))
          obtain ⟨pz615, cz615, rfl⟩ := LfIn.slice i619
          clear i618
          clear i619
          clear nd620 lo621
          clear b613
          refine ⟨(HS.out _ bD), ?_⟩
          refine ordT_flo _ g5 ?_ (fun _ _ _ h => h) rfl ?_ (HS.out _ bD) ?_; rotate_left; focus (intro W hS; go_simp; rfl)
          refine ordT_flo _ g6 ?_ (fun _ _ _ h => h) rfl ?_ (HS.out _ bD) ?_; rotate_left; focus (intro W hS; go_simp; rfl)
          refine ordT_flo _ g7 ?_ (fun _ _ _ h => h) rfl ?_ (HS.out _ bD) ?_; rotate_left; focus (intro W hS; go_simp; rfl)
          refine ordT_ev _ g8 rfl ?_
          go_simp
          have b635 : Below w612.heap.size w612 (w612.alloc (.cells #[.slice none 0 0, .slice none 0 0, .int .i64 0] 46)) := (Below.refl _ _).alloc (Nat.le_refl _) _
          have NB636 := Lib.hid (heap_alloc_new w612 (.cells #[.slice none 0 0, .slice none 0 0, .int .i64 0] 46))
          have hz637 : w612.heap.size + 1 ≤ (w612.alloc (.cells #[.slice none 0 0, .slice none 0 0, .int .i64 0] 46)).heap.size := by simp
          generalize hX634 : w612.alloc (.cells #[.slice none 0 0, .slice none 0 0, .int .i64 0] 46) = X634 at *
          have F638 := Lib.hid (LfIn.below F622.out b635)
          clear F622
          have F639 := Lib.hid (LfIn.below F623.out b635)
          clear F623
          have F640 := Lib.hid (LfIn.below F628.out b635)
          clear F628
          have F641 := Lib.hid (LfIn.below F631.out b635)
          clear F631
          have hz642 : w612.heap.size ≤ X634.heap.size := b635.size
          replace hb := hb.trans (b635.mono hb.size)
          replace bD := bD.trans (b635.mono bD.size)
          clear b635 hX634
          refine ⟨(HS.out _ bD), ?_⟩
          have nb0 := NB636.out
          obtain ⟨⟨q0_, q1_, q2_⟩, ⟨y0_, y1_, y2_⟩, t0_, t1_, t2_⟩ := blk_3c nb0
          have nb1 : (((X634.setCell ⟨w612.heap.size, 0, none⟩ ((.slice pz614 (storD x_S x_M).boxes.length cz614))).setCell ⟨w612.heap.size, 1, none⟩ ((.slice pz615 (storD x_S x_M).log.length cz615))).setCell ⟨w612.heap.size, 2, none⟩ (.int .i64 (storD x_S x_M).given)).heap[w612.heap.size]? = some (.cells #[(.slice pz614 (storD x_S x_M).boxes.length cz614), (.slice pz615 (storD x_S x_M).log.length cz615), .int .i64 (storD x_S x_M).given] 46 (0, 0)) := set_heap (set_heap (set_heap (nb0)))
          have in0_ : LfIn (((X634.setCell ⟨w612.heap.size, 0, none⟩ ((.slice pz614 (storD x_S x_M).boxes.length cz614))).setCell ⟨w612.heap.size, 1, none⟩ ((.slice pz615 (storD x_S x_M).log.length cz615))).setCell ⟨w612.heap.size, 2, none⟩ (.int .i64 (storD x_S x_M).given)) (boxsLf (storD x_S x_M).boxes) _ f616 := LfIn.set (LfIn.set (LfIn.set (F640.out) (fun hm => by have h1 := LO629.out _ hm; have h2 := HI630.out _ hm; omega)) (fun hm => by have h1 := LO629.out _ hm; have h2 := HI630.out _ hm; omega)) (fun hm => by have h1 := LO629.out _ hm; have h2 := HI630.out _ hm; omega)
          have in1_ : LfIn (((X634.setCell ⟨w612.heap.size, 0, none⟩ ((.slice pz614 (storD x_S x_M).boxes.length cz614))).setCell ⟨w612.heap.size, 1, none⟩ ((.slice pz615 (storD x_S x_M).log.length cz615))).setCell ⟨w612.heap.size, 2, none⟩ (.int .i64 (storD x_S x_M).given)) (commitsLf (storD x_S x_M).log) _ f617 := LfIn.set (LfIn.set (LfIn.set (F641.out) (fun hm => by have h1 := LO632.out _ hm; have h2 := HI633.out _ hm; omega)) (fun hm => by have h1 := LO632.out _ hm; have h2 := HI633.out _ hm; omega)) (fun hm => by have h1 := LO632.out _ hm; have h2 := HI633.out _ hm; omega)
          have hge : D584.heap.size ≤ w612.heap.size := by omega
          have bD9 : Below D584.heap.size D584 (((X634.setCell ⟨w612.heap.size, 0, none⟩ ((.slice pz614 (storD x_S x_M).boxes.length cz614))).setCell ⟨w612.heap.size, 1, none⟩ ((.slice pz615 (storD x_S x_M).log.length cz615))).setCell ⟨w612.heap.size, 2, none⟩ (.int .i64 (storD x_S x_M).given)) := (((bD.setCell hge _).setCell hge _).setCell hge _)
          refine ordT_ev _ g9 rfl ?_
          go_simp
          refine ⟨HS.out _ bD9, ?_⟩
          have HR := Lib.hid (And.intro nb1 (And.intro bD9 (And.intro hge (And.intro in0_ in1_))))
          clear nb0 nb1 bD9 in0_ in1_ q0_ q1_ q2_ y0_ y1_ y2_ t0_ t1_ t2_
          refine ordT_flo _ g10 ?_ (fun _ _ _ h => h) rfl ?_ (HS.out _ HR.out.2.1) ?_; rotate_left; focus (intro W hS; go_simp; rfl)
          refine ordT_done ?_
          clear g0 g1 g2 g3 g4 g5 g6 g7 g8 g9 g10
          go_wp2_with fail
          go_meet
          exact ⟨_, _, _, _, _, rfl, rfl, HR.out.1, by have := HR.out.2.2.1; have := HZD.out; omega, HR.out.2.2.2.1, HR.out.2.2.2.2, ND627.out, fun q hq => ⟨by have := LO625.out q hq; have := HZD.out; omega, by have h1 := LO625.out q hq; have h2 := HI626.out q hq; omega⟩, HBD.out _ HR.out.2.1⟩
        · go_simp
          have b644 : Below w606.heap.size w606 (w606.alloc (.cells #[.slice none 0 0, .slice none 0 0, .int .i64 0] 46)) := (Below.refl _ _).alloc (Nat.le_refl _) _
          have NB645 := Lib.hid (heap_alloc_new w606 (.cells #[.slice none 0 0, .slice none 0 0, .int .i64 0] 46))
          have hz646 : w606.heap.size + 1 ≤ (w606.alloc (.cells #[.slice none 0 0, .slice none 0 0, .int .i64 0] 46)).heap.size := by simp
          generalize hX643 : w606.alloc (.cells #[.slice none 0 0, .slice none 0 0, .int .i64 0] 46) = X643 at *
          have F647 := Lib.hid (LfIn.below F609.out b644)
          clear F609
          have F648 := Lib.hid (LfIn.below F610.out b644)
          clear F610
          have hz649 : w606.heap.size ≤ X643.heap.size := b644.size
          replace hb := hb.trans (b644.mono hb.size)
          replace bD := bD.trans (b644.mono bD.size)
          clear b644 hX643
          refine ⟨(HS.out _ bD), ?_⟩
          refine ordT_ev _ g4 rfl ?_
          go_simp
          refine (C_impl.out _ _ _ (hK _ _ hG hb) (LfIn.rd _ _ _ F647.out) (CapLe.of_in F647.out) (LfIn.rd _ _ _ F648.out) (CapLe.of_in F648.out)).mono ?_
          rintro e w650 ⟨z652, f654, z653, f655, rfl, i656, i657, nd658, lo659, b651⟩
          have F660 := Lib.hid (LfIn.below F647.out b651)
          clear F647
          have F661 := Lib.hid (LfIn.below F648.out b651)
          clear F648
          have F662 := Lib.hid ((b651.block (w606.heap.size) (Array.getElem?_eq_some_iff.1 NB645.out).1).trans NB645.out)
          clear NB645
          have hz663 : X643.heap.size ≤ w650.heap.size := b651.size
          replace hb := hb.trans (b651.mono hb.size)
          replace bD := bD.trans (b651.mono bD.size)
          have LO664 := Lib.hid (show ∀ q ∈ f654 ++ f655, X643.heap.size ≤ q from lo659)
          have HI665 := Lib.hid (show ∀ q ∈ f654 ++ f655, q < w650.heap.size from fun q hq => by simp only [List.mem_append] at hq; rcases hq with hq | hq <;> first | exact LfIn.lt _ _ _ i656 q hq | exact LfIn.lt _ _ _ i657 q hq)
          have ND666 := Lib.hid nd658
          have F667 := Lib.hid i656
          have LO668 := Lib.hid (show ∀ q ∈ f654, X643.heap.size ≤ q from fun q hq => LO664.out q (by simp [hq]))
          have HI669 := Lib.hid (show ∀ q ∈ f654, q < w650.heap.size from fun q hq => HI665.out q (by simp [hq]))
          obtain ⟨pz652, cz652, rfl⟩ := LfIn.slice i656
          have F670 := Lib.hid i657
          have LO671 := Lib.hid (show ∀ q ∈ f655, X643.heap.size ≤ q from fun q hq => LO664.out q (by simp [hq]))
          have HI672 := Lib.hid (show ∀ q ∈ f655, q < w650.heap.size from fun q hq => HI665.out q (by simp [hq]))
          obtain ⟨pz653, cz653, rfl⟩ := LfIn.slice i657
          clear i656
          clear i657
          clear nd658 lo659
          clear b651
          refine ⟨(HS.out _ bD), ?_⟩
          refine ordT_flo _ g5 ?_ (fun _ _ _ h => h) rfl ?_ (HS.out _ bD) ?_; rotate_left; focus (intro W hS; go_simp; rfl)
          refine ordT_flo _ g6 ?_ (fun _ _ _ h => h) rfl ?_ (HS.out _ bD) ?_; rotate_left; focus (intro W hS; go_simp; rfl)
          refine ordT_flo _ g7 ?_ (fun _ _ _ h => h) rfl ?_ (HS.out _ bD) ?_; rotate_left; focus (intro W hS; go_simp; rfl)
          have nb0 := F662.out
          obtain ⟨⟨q0_, q1_, q2_⟩, ⟨y0_, y1_, y2_⟩, t0_, t1_, t2_⟩ := blk_3c nb0
          have nb1 : (((w650.setCell ⟨w606.heap.size, 0, none⟩ ((.slice pz652 (storD x_S x_M).boxes.length cz652))).setCell ⟨w606.heap.size, 1, none⟩ ((.slice pz653 (storD x_S x_M).log.length cz653))).setCell ⟨w606.heap.size, 2, none⟩ (.int .i64 (storD x_S x_M).given)).heap[w606.heap.size]? = some (.cells #[(.slice pz652 (storD x_S x_M).boxes.length cz652), (.slice pz653 (storD x_S x_M).log.length cz653), .int .i64 (storD x_S x_M).given] 46 (0, 0)) := set_heap (set_heap (set_heap (nb0)))
          have in0_ : LfIn (((w650.setCell ⟨w606.heap.size, 0, none⟩ ((.slice pz652 (storD x_S x_M).boxes.length cz652))).setCell ⟨w606.heap.size, 1, none⟩ ((.slice pz653 (storD x_S x_M).log.length cz653))).setCell ⟨w606.heap.size, 2, none⟩ (.int .i64 (storD x_S x_M).given)) (boxsLf (storD x_S x_M).boxes) _ f654 := LfIn.set (LfIn.set (LfIn.set (F667.out) (fun hm => by have h1 := LO668.out _ hm; have h2 := HI669.out _ hm; omega)) (fun hm => by have h1 := LO668.out _ hm; have h2 := HI669.out _ hm; omega)) (fun hm => by have h1 := LO668.out _ hm; have h2 := HI669.out _ hm; omega)
          have in1_ : LfIn (((w650.setCell ⟨w606.heap.size, 0, none⟩ ((.slice pz652 (storD x_S x_M).boxes.length cz652))).setCell ⟨w606.heap.size, 1, none⟩ ((.slice pz653 (storD x_S x_M).log.length cz653))).setCell ⟨w606.heap.size, 2, none⟩ (.int .i64 (storD x_S x_M).given)) (commitsLf (storD x_S x_M).log) _ f655 := LfIn.set (LfIn.set (LfIn.set (F670.out) (fun hm => by have h1 := LO671.out _ hm; have h2 := HI672.out _ hm; omega)) (fun hm => by have h1 := LO671.out _ hm; have h2 := HI672.out _ hm; omega)) (fun hm => by have h1 := LO671.out _ hm; have h2 := HI672.out _ hm; omega)
          have hge : D584.heap.size ≤ w606.heap.size := by omega
          have bD9 : Below D584.heap.size D584 (((w650.setCell ⟨w606.heap.size, 0, none⟩ ((.slice pz652 (storD x_S x_M).boxes.length cz652))).setCell ⟨w606.heap.size, 1, none⟩ ((.slice pz653 (storD x_S x_M).log.length cz653))).setCell ⟨w606.heap.size, 2, none⟩ (.int .i64 (storD x_S x_M).given)) := (((bD.setCell hge _).setCell hge _).setCell hge _)
          refine ordT_ev _ g9 rfl ?_
          go_simp
          refine ⟨HS.out _ bD9, ?_⟩
          have HR := Lib.hid (And.intro nb1 (And.intro bD9 (And.intro hge (And.intro in0_ in1_))))
          clear nb0 nb1 bD9 in0_ in1_ q0_ q1_ q2_ y0_ y1_ y2_ t0_ t1_ t2_
          refine ordT_flo _ g10 ?_ (fun _ _ _ h => h) rfl ?_ (HS.out _ HR.out.2.1) ?_; rotate_left; focus (intro W hS; go_simp; rfl)
          refine ordT_done ?_
          clear g0 g1 g2 g3 g4 g5 g6 g7 g8 g9 g10
          go_wp2_with fail
          go_meet
          exact ⟨_, _, _, _, _, rfl, rfl, HR.out.1, by have := HR.out.2.2.1; have := HZD.out; omega, HR.out.2.2.2.1, HR.out.2.2.2.2, ND666.out, fun q hq => ⟨by have := LO664.out q hq; have := HZD.out; omega, by have h1 := LO664.out q hq; have h2 := HI665.out q hq; omega⟩, HBD.out _ HR.out.2.1⟩
      · go_simp
        have b674 : Below w585.heap.size w585 (w585.alloc (.cells #[.slice none 0 0, .slice none 0 0, .int .i64 0] 46)) := (Below.refl _ _).alloc (Nat.le_refl _) _
        have NB675 := Lib.hid (heap_alloc_new w585 (.cells #[.slice none 0 0, .slice none 0 0, .int .i64 0] 46))
        have hz676 : w585.heap.size + 1 ≤ (w585.alloc (.cells #[.slice none 0 0, .slice none 0 0, .int .i64 0] 46)).heap.size := by simp
        generalize hX673 : w585.alloc (.cells #[.slice none 0 0, .slice none 0 0, .int .i64 0] 46) = X673 at *
        have F677 := Lib.hid (LfIn.below F600.out b674)
        clear F600
        have F678 := Lib.hid (LfIn.below F603.out b674)
        clear F603
        have hz679 : w585.heap.size ≤ X673.heap.size := b674.size
        replace hb := hb.trans (b674.mono hb.size)
        replace bD := bD.trans (b674.mono bD.size)
        clear b674 hX673
        refine ⟨(HS.out _ bD), ?_⟩
        refine ordT_ev _ g3 rfl ?_
        go_simp
        refine (C_to_M.out _ ).mono ?_
        rintro e w680 ⟨rfl, b681⟩
        have F683 := Lib.hid (LfIn.below F677.out b681)
        clear F677
        have F684 := Lib.hid (LfIn.below F678.out b681)
        clear F678
        have F685 := Lib.hid ((b681.block (w585.heap.size) (Array.getElem?_eq_some_iff.1 NB675.out).1).trans NB675.out)
        clear NB675
        have hz686 : X673.heap.size ≤ w680.heap.size := b681.size
        replace hb := hb.trans (b681.mono hb.size)
        replace bD := bD.trans (b681.mono bD.size)
        clear b681
        refine ⟨(HS.out _ bD), ?_⟩
        refine ordT_ev _ g4 rfl ?_
        go_simp
        refine (C_impl.out _ _ _ (hK _ _ hG hb) (LfIn.rd _ _ _ F683.out) (CapLe.of_in F683.out) (LfIn.rd _ _ _ F684.out) (CapLe.of_in F684.out)).mono ?_
        rintro e w687 ⟨z689, f691, z690, f692, rfl, i693, i694, nd695, lo696, b688⟩
        have F697 := Lib.hid (LfIn.below F683.out b688)
        clear F683
        have F698 := Lib.hid (LfIn.below F684.out b688)
        clear F684
        have F699 := Lib.hid ((b688.block (w585.heap.size) (Array.getElem?_eq_some_iff.1 F685.out).1).trans F685.out)
        clear F685
        have hz700 : w680.heap.size ≤ w687.heap.size := b688.size
        replace hb := hb.trans (b688.mono hb.size)
        replace bD := bD.trans (b688.mono bD.size)
        have LO701 := Lib.hid (show ∀ q ∈ f691 ++ f692, w680.heap.size ≤ q from lo696)
        have HI702 := Lib.hid (show ∀ q ∈ f691 ++ f692, q < w687.heap.size from fun q hq => by simp only [List.mem_append] at hq; rcases hq with hq | hq <;> first | exact LfIn.lt _ _ _ i693 q hq | exact LfIn.lt _ _ _ i694 q hq)
        have ND703 := Lib.hid nd695
        have F704 := Lib.hid i693
        have LO705 := Lib.hid (show ∀ q ∈ f691, w680.heap.size ≤ q from fun q hq => LO701.out q (by simp [hq]))
        have HI706 := Lib.hid (show ∀ q ∈ f691, q < w687.heap.size from fun q hq => HI702.out q (by simp [hq]))
        obtain ⟨pz689, cz689, rfl⟩ := LfIn.slice i693
        have F707 := Lib.hid i694
        have LO708 := Lib.hid (show ∀ q ∈ f692, w680.heap.size ≤ q from fun q hq => LO701.out q (by simp [hq]))
        have HI709 := Lib.hid (show ∀ q ∈ f692, q < w687.heap.size from fun q hq => HI702.out q (by simp [hq]))
        obtain ⟨pz690, cz690, rfl⟩ := LfIn.slice i694
        clear i693
        clear i694
        clear nd695 lo696
        clear b688
        refine ⟨(HS.out _ bD), ?_⟩
        refine ordT_flo _ g5 ?_ (fun _ _ _ h => h) rfl ?_ (HS.out _ bD) ?_; rotate_left; focus (intro W hS; go_simp; rfl)
        refine ordT_flo _ g6 ?_ (fun _ _ _ h => h) rfl ?_ (HS.out _ bD) ?_; rotate_left; focus (intro W hS; go_simp; rfl)
        refine ordT_flo _ g7 ?_ (fun _ _ _ h => h) rfl ?_ (HS.out _ bD) ?_; rotate_left; focus (intro W hS; go_simp; rfl)
        have nb0 := F699.out
        obtain ⟨⟨q0_, q1_, q2_⟩, ⟨y0_, y1_, y2_⟩, t0_, t1_, t2_⟩ := blk_3c nb0
        have nb1 : (((w687.setCell ⟨w585.heap.size, 0, none⟩ ((.slice pz689 (storD x_S x_M).boxes.length cz689))).setCell ⟨w585.heap.size, 1, none⟩ ((.slice pz690 (storD x_S x_M).log.length cz690))).setCell ⟨w585.heap.size, 2, none⟩ (.int .i64 (storD x_S x_M).given)).heap[w585.heap.size]? = some (.cells #[(.slice pz689 (storD x_S x_M).boxes.length cz689), (.slice pz690 (storD x_S x_M).log.length cz690), .int .i64 (storD x_S x_M).given] 46 (0, 0)) := set_heap (set_heap (set_heap (nb0)))
        have in0_ : LfIn (((w687.setCell ⟨w585.heap.size, 0, none⟩ ((.slice pz689 (storD x_S x_M).boxes.length cz689))).setCell ⟨w585.heap.size, 1, none⟩ ((.slice pz690 (storD x_S x_M).log.length cz690))).setCell ⟨w585.heap.size, 2, none⟩ (.int .i64 (storD x_S x_M).given)) (boxsLf (storD x_S x_M).boxes) _ f691 := LfIn.set (LfIn.set (LfIn.set (F704.out) (fun hm => by have h1 := LO705.out _ hm; have h2 := HI706.out _ hm; omega)) (fun hm => by have h1 := LO705.out _ hm; have h2 := HI706.out _ hm; omega)) (fun hm => by have h1 := LO705.out _ hm; have h2 := HI706.out _ hm; omega)
        have in1_ : LfIn (((w687.setCell ⟨w585.heap.size, 0, none⟩ ((.slice pz689 (storD x_S x_M).boxes.length cz689))).setCell ⟨w585.heap.size, 1, none⟩ ((.slice pz690 (storD x_S x_M).log.length cz690))).setCell ⟨w585.heap.size, 2, none⟩ (.int .i64 (storD x_S x_M).given)) (commitsLf (storD x_S x_M).log) _ f692 := LfIn.set (LfIn.set (LfIn.set (F707.out) (fun hm => by have h1 := LO708.out _ hm; have h2 := HI709.out _ hm; omega)) (fun hm => by have h1 := LO708.out _ hm; have h2 := HI709.out _ hm; omega)) (fun hm => by have h1 := LO708.out _ hm; have h2 := HI709.out _ hm; omega)
        have hge : D584.heap.size ≤ w585.heap.size := by omega
        have bD9 : Below D584.heap.size D584 (((w687.setCell ⟨w585.heap.size, 0, none⟩ ((.slice pz689 (storD x_S x_M).boxes.length cz689))).setCell ⟨w585.heap.size, 1, none⟩ ((.slice pz690 (storD x_S x_M).log.length cz690))).setCell ⟨w585.heap.size, 2, none⟩ (.int .i64 (storD x_S x_M).given)) := (((bD.setCell hge _).setCell hge _).setCell hge _)
        refine ordT_ev _ g9 rfl ?_
        go_simp
        refine ⟨HS.out _ bD9, ?_⟩
        have HR := Lib.hid (And.intro nb1 (And.intro bD9 (And.intro hge (And.intro in0_ in1_))))
        clear nb0 nb1 bD9 in0_ in1_ q0_ q1_ q2_ y0_ y1_ y2_ t0_ t1_ t2_
        refine ordT_flo _ g10 ?_ (fun _ _ _ h => h) rfl ?_ (HS.out _ HR.out.2.1) ?_; rotate_left; focus (intro W hS; go_simp; rfl)
        refine ordT_done ?_
        clear g0 g1 g2 g3 g4 g5 g6 g7 g8 g9 g10
        go_wp2_with fail
        go_meet
        exact ⟨_, _, _, _, _, rfl, rfl, HR.out.1, by have := HR.out.2.2.1; have := HZD.out; omega, HR.out.2.2.2.1, HR.out.2.2.2.2, ND703.out, fun q hq => ⟨by have := LO701.out q hq; have := HZD.out; omega, by have h1 := LO701.out q hq; have h2 := HI702.out q hq; omega⟩, HBD.out _ HR.out.2.1⟩
    · go_simp
      have b711 : Below D584.heap.size D584 (D584.alloc (.cells #[.slice none 0 0, .slice none 0 0, .int .i64 0] 46)) := (Below.refl _ _).alloc (Nat.le_refl _) _
      have NB712 := Lib.hid (heap_alloc_new D584 (.cells #[.slice none 0 0, .slice none 0 0, .int .i64 0] 46))
      have hz713 : D584.heap.size + 1 ≤ (D584.alloc (.cells #[.slice none 0 0, .slice none 0 0, .int .i64 0] 46)).heap.size := by simp
      generalize hX710 : D584.alloc (.cells #[.slice none 0 0, .slice none 0 0, .int .i64 0] 46) = X710 at *
      have hz714 : D584.heap.size ≤ X710.heap.size := b711.size
      replace hb := hb.trans (b711.mono hb.size)
      replace bD := bD.trans (b711.mono bD.size)
      clear b711 hX710
      refine ⟨(HS.out _ bD), ?_⟩
      refine ordT_ev _ g1 rfl ?_
      go_simp
      refine (C_to_S.out _ (LfRd.below hb _ _ H_r_S_0.out) (LfRd.below hb _ _ H_r_S_1.out)).mono ?_
      rintro e w715 ⟨z718, f720, z719, f721, rfl, i722, i723, nd724, lo725, b716⟩
      have F726 := Lib.hid ((b716.block (D584.heap.size) (Array.getElem?_eq_some_iff.1 NB712.out).1).trans NB712.out)
      clear NB712
      have hz727 : X710.heap.size ≤ w715.heap.size := b716.size
      replace hb := hb.trans (b716.mono hb.size)
      replace bD := bD.trans (b716.mono bD.size)
      have LO728 := Lib.hid (show ∀ q ∈ f720 ++ f721, X710.heap.size ≤ q from lo725)
      have HI729 := Lib.hid (show ∀ q ∈ f720 ++ f721, q < w715.heap.size from fun q hq => by simp only [List.mem_append] at hq; rcases hq with hq | hq <;> first | exact LfIn.lt _ _ _ i722 q hq | exact LfIn.lt _ _ _ i723 q hq)
      have ND730 := Lib.hid nd724
      have F731 := Lib.hid i722
      have LO732 := Lib.hid (show ∀ q ∈ f720, X710.heap.size ≤ q from fun q hq => LO728.out q (by simp [hq]))
      have HI733 := Lib.hid (show ∀ q ∈ f720, q < w715.heap.size from fun q hq => HI729.out q (by simp [hq]))
      obtain ⟨pz718, cz718, rfl⟩ := LfIn.slice i722
      have F734 := Lib.hid i723
      have LO735 := Lib.hid (show ∀ q ∈ f721, X710.heap.size ≤ q from fun q hq => LO728.out q (by simp [hq]))
      have HI736 := Lib.hid (show ∀ q ∈ f721, q < w715.heap.size from fun q hq => HI729.out q (by simp [hq]))
      obtain ⟨pz719, cz719, rfl⟩ := LfIn.slice i723
      clear i722
      clear i723
      clear nd724 lo725
      clear b716
      refine ⟨(HS.out _ bD), ?_⟩
      refine ordT_ev _ g3 rfl ?_
      go_simp
      refine (C_to_M.out _ ).mono ?_
      rintro e w737 ⟨rfl, b738⟩
      have F740 := Lib.hid ((b738.block (D584.heap.size) (Array.getElem?_eq_some_iff.1 F726.out).1).trans F726.out)
      clear F726
      have F741 := Lib.hid (LfIn.below F731.out b738)
      clear F731
      have F742 := Lib.hid (LfIn.below F734.out b738)
      clear F734
      have hz743 : w715.heap.size ≤ w737.heap.size := b738.size
      replace hb := hb.trans (b738.mono hb.size)
      replace bD := bD.trans (b738.mono bD.size)
      clear b738
      refine ⟨(HS.out _ bD), ?_⟩
      refine ordT_ev _ g4 rfl ?_
      go_simp
      refine (C_impl.out _ _ _ (hK _ _ hG hb) (LfIn.rd _ _ _ F741.out) (CapLe.of_in F741.out) (LfIn.rd _ _ _ F742.out) (CapLe.of_in F742.out)).mono ?_
      rintro e w744 ⟨z746, f748, z747, f749, rfl, i750, i751, nd752, lo753, b745⟩
      have F754 := Lib.hid ((b745.block (D584.heap.size) (Array.getElem?_eq_some_iff.1 F740.out).1).trans F740.out)
      clear F740
      have F755 := Lib.hid (LfIn.below F741.out b745)
      clear F741
      have F756 := Lib.hid (LfIn.below F742.out b745)
      clear F742
      have hz757 : w737.heap.size ≤ w744.heap.size := b745.size
      replace hb := hb.trans (b745.mono hb.size)
      replace bD := bD.trans (b745.mono bD.size)
      have LO758 := Lib.hid (show ∀ q ∈ f748 ++ f749, w737.heap.size ≤ q from lo753)
      have HI759 := Lib.hid (show ∀ q ∈ f748 ++ f749, q < w744.heap.size from fun q hq => by simp only [List.mem_append] at hq; rcases hq with hq | hq <;> first | exact LfIn.lt _ _ _ i750 q hq | exact LfIn.lt _ _ _ i751 q hq)
      have ND760 := Lib.hid nd752
      have F761 := Lib.hid i750
      have LO762 := Lib.hid (show ∀ q ∈ f748, w737.heap.size ≤ q from fun q hq => LO758.out q (by simp [hq]))
      have HI763 := Lib.hid (show ∀ q ∈ f748, q < w744.heap.size from fun q hq => HI759.out q (by simp [hq]))
      obtain ⟨pz746, cz746, rfl⟩ := LfIn.slice i750
      have F764 := Lib.hid i751
      have LO765 := Lib.hid (show ∀ q ∈ f749, w737.heap.size ≤ q from fun q hq => LO758.out q (by simp [hq]))
      have HI766 := Lib.hid (show ∀ q ∈ f749, q < w744.heap.size from fun q hq => HI759.out q (by simp [hq]))
      obtain ⟨pz747, cz747, rfl⟩ := LfIn.slice i751
      clear i750
      clear i751
      clear nd752 lo753
      clear b745
      refine ⟨(HS.out _ bD), ?_⟩
      refine ordT_flo _ g5 ?_ (fun _ _ _ h => h) rfl ?_ (HS.out _ bD) ?_; rotate_left; focus (intro W hS; go_simp; rfl)
      refine ordT_flo _ g6 ?_ (fun _ _ _ h => h) rfl ?_ (HS.out _ bD) ?_; rotate_left; focus (intro W hS; go_simp; rfl)
      refine ordT_flo _ g7 ?_ (fun _ _ _ h => h) rfl ?_ (HS.out _ bD) ?_; rotate_left; focus (intro W hS; go_simp; rfl)
      have nb0 := F754.out
      obtain ⟨⟨q0_, q1_, q2_⟩, ⟨y0_, y1_, y2_⟩, t0_, t1_, t2_⟩ := blk_3c nb0
      have nb1 : (((w744.setCell ⟨D584.heap.size, 0, none⟩ ((.slice pz746 (storD x_S x_M).boxes.length cz746))).setCell ⟨D584.heap.size, 1, none⟩ ((.slice pz747 (storD x_S x_M).log.length cz747))).setCell ⟨D584.heap.size, 2, none⟩ (.int .i64 (storD x_S x_M).given)).heap[D584.heap.size]? = some (.cells #[(.slice pz746 (storD x_S x_M).boxes.length cz746), (.slice pz747 (storD x_S x_M).log.length cz747), .int .i64 (storD x_S x_M).given] 46 (0, 0)) := set_heap (set_heap (set_heap (nb0)))
      have in0_ : LfIn (((w744.setCell ⟨D584.heap.size, 0, none⟩ ((.slice pz746 (storD x_S x_M).boxes.length cz746))).setCell ⟨D584.heap.size, 1, none⟩ ((.slice pz747 (storD x_S x_M).log.length cz747))).setCell ⟨D584.heap.size, 2, none⟩ (.int .i64 (storD x_S x_M).given)) (boxsLf (storD x_S x_M).boxes) _ f748 := LfIn.set (LfIn.set (LfIn.set (F761.out) (fun hm => by have h1 := LO762.out _ hm; have h2 := HI763.out _ hm; omega)) (fun hm => by have h1 := LO762.out _ hm; have h2 := HI763.out _ hm; omega)) (fun hm => by have h1 := LO762.out _ hm; have h2 := HI763.out _ hm; omega)
      have in1_ : LfIn (((w744.setCell ⟨D584.heap.size, 0, none⟩ ((.slice pz746 (storD x_S x_M).boxes.length cz746))).setCell ⟨D584.heap.size, 1, none⟩ ((.slice pz747 (storD x_S x_M).log.length cz747))).setCell ⟨D584.heap.size, 2, none⟩ (.int .i64 (storD x_S x_M).given)) (commitsLf (storD x_S x_M).log) _ f749 := LfIn.set (LfIn.set (LfIn.set (F764.out) (fun hm => by have h1 := LO765.out _ hm; have h2 := HI766.out _ hm; omega)) (fun hm => by have h1 := LO765.out _ hm; have h2 := HI766.out _ hm; omega)) (fun hm => by have h1 := LO765.out _ hm; have h2 := HI766.out _ hm; omega)
      have hge : D584.heap.size ≤ D584.heap.size := by omega
      have bD9 : Below D584.heap.size D584 (((w744.setCell ⟨D584.heap.size, 0, none⟩ ((.slice pz746 (storD x_S x_M).boxes.length cz746))).setCell ⟨D584.heap.size, 1, none⟩ ((.slice pz747 (storD x_S x_M).log.length cz747))).setCell ⟨D584.heap.size, 2, none⟩ (.int .i64 (storD x_S x_M).given)) := (((bD.setCell hge _).setCell hge _).setCell hge _)
      refine ordT_ev _ g9 rfl ?_
      go_simp
      refine ⟨HS.out _ bD9, ?_⟩
      have HR := Lib.hid (And.intro nb1 (And.intro bD9 (And.intro hge (And.intro in0_ in1_))))
      clear nb0 nb1 bD9 in0_ in1_ q0_ q1_ q2_ y0_ y1_ y2_ t0_ t1_ t2_
      refine ordT_flo _ g10 ?_ (fun _ _ _ h => h) rfl ?_ (HS.out _ HR.out.2.1) ?_; rotate_left; focus (intro W hS; go_simp; rfl)
      refine ordT_done ?_
      clear g0 g1 g2 g3 g4 g5 g6 g7 g8 g9 g10
      go_wp2_with fail
      go_meet
      exact ⟨_, _, _, _, _, rfl, rfl, HR.out.1, by have := HR.out.2.2.1; have := HZD.out; omega, HR.out.2.2.2.1, HR.out.2.2.2.2, ND760.out, fun q hq => ⟨by have := LO758.out q hq; have := HZD.out; omega, by have h1 := LO758.out q hq; have h2 := HI759.out q hq; omega⟩, HBD.out _ HR.out.2.1⟩
  case rest =>
  obtain ⟨nb767, z768, z769, f770, f771, rfl, rfl, bk772, hn773, i774, i775, nd776, lo777, b778⟩ := hcut
  generalize wc = w779 at *
  have NE780 := Lib.hid (show ∀ q ∈ f770 ++ f771, q ≠ nb767 from fun q hq => (lo777 q hq).2)
  have lo781 : ∀ q ∈ f770 ++ f771, w569.heap.size ≤ q := fun q hq => (lo777 q hq).1
  clear lo777
  have F782 := Lib.hid ((b778.block (w.heap.size) (Array.getElem?_eq_some_iff.1 F571.out).1).trans F571.out)
  clear F571
  have F783 := Lib.hid ((b778.block (w.heap.size + 1) (Array.getElem?_eq_some_iff.1 F572.out).1).trans F572.out)
  clear F572
  have F784 := Lib.hid (LfIn.below F573.out b778)
  clear F573
  have F785 := Lib.hid (LfIn.below F574.out b778)
  clear F574
  have F786 := Lib.hid ((b778.block (nb206) (Array.getElem?_eq_some_iff.1 F575.out).1).trans F575.out)
  clear F575
  have F787 := Lib.hid ((b778.block (w238.heap.size) (Array.getElem?_eq_some_iff.1 F576.out).1).trans F576.out)
  clear F576
  have F788 := Lib.hid ((b778.block (nb384) (Array.getElem?_eq_some_iff.1 F577.out).1).trans F577.out)
  clear F577
  have F789 := Lib.hid (LfIn.below F578.out b778)
  clear F578
  have F790 := Lib.hid (LfIn.below F579.out b778)
  clear F579
  have F791 := Lib.hid (LfRd.below b778 _ _ F580.out)
  clear F580
  have F792 := Lib.hid (LfRd.below b778 _ _ F581.out)
  clear F581
  have hz793 : w569.heap.size ≤ w779.heap.size := b778.size
  replace hb := hb.trans (b778.mono hb.size)
  have LO794 := Lib.hid (show ∀ q ∈ f770 ++ f771, w569.heap.size ≤ q from lo781)
  have HI795 := Lib.hid (show ∀ q ∈ f770 ++ f771, q < w779.heap.size from fun q hq => by simp only [List.mem_append] at hq; rcases hq with hq | hq <;> first | exact LfIn.lt _ _ _ i774 q hq | exact LfIn.lt _ _ _ i775 q hq)
  have ND796 := Lib.hid nd776
  have F797 := Lib.hid i774
  have LO798 := Lib.hid (show ∀ q ∈ f770, w569.heap.size ≤ q from fun q hq => LO794.out q (by simp [hq]))
  have HI799 := Lib.hid (show ∀ q ∈ f770, q < w779.heap.size from fun q hq => HI795.out q (by simp [hq]))
  obtain ⟨pz768, cz768, rfl⟩ := LfIn.slice i774
  have F800 := Lib.hid i775
  have LO801 := Lib.hid (show ∀ q ∈ f771, w569.heap.size ≤ q from fun q hq => LO794.out q (by simp [hq]))
  have HI802 := Lib.hid (show ∀ q ∈ f771, q < w779.heap.size from fun q hq => HI795.out q (by simp [hq]))
  obtain ⟨pz769, cz769, rfl⟩ := LfIn.slice i775
  clear i774
  clear i775
  clear nd776 lo781
  have hl803 : nb767 < w779.heap.size := (Array.getElem?_eq_some_iff.1 bk772).1
  have F804 := Lib.hid bk772
  clear bk772 b778
  have y805 := (Lib.cell_of_heap F804.out 0).trans (show _ = some ((.slice pz768 (storD x_S x_M).boxes.length cz768)) from rfl)
  have y806 := (Lib.cell_of_heap F804.out 1).trans (show _ = some ((.slice pz769 (storD x_S x_M).log.length cz769)) from rfl)
  have y807 := (Lib.cell_of_heap F804.out 2).trans (show _ = some (.int .i64 (storD x_S x_M).given) from rfl)
  have y808 := (Lib.cell_of_heap F786.out 0).trans (show _ = some ((.slice pz207 (storD x_S x_M).boxes.length cz207)) from rfl)
  have y809 := (Lib.cell_of_heap F786.out 1).trans (show _ = some ((.slice pz208 (storD x_S x_M).log.length cz208)) from rfl)
  have y810 := (Lib.cell_of_heap F786.out 2).trans (show _ = some (.int .i64 (storD x_S x_M).given) from rfl)
  go_wp2_with fail
  refine (eqStore_g (storD x_S x_M) _ _ _ _ _ (LfIn.rd _ _ _ F797.out) (LfIn.rd _ _ _ F784.out) (LfIn.rd _ _ _ F800.out) (LfIn.rd _ _ _ F785.out) (by have := SZ_r0.out; omega)).mono ?_
  rintro e w811 ⟨rfl, b812⟩
  clear y805 y806 y807 y808 y809 y810
  have F813 := Lib.hid ((b812.block (w.heap.size) (Array.getElem?_eq_some_iff.1 F782.out).1).trans F782.out)
  clear F782
  have F814 := Lib.hid ((b812.block (w.heap.size + 1) (Array.getElem?_eq_some_iff.1 F783.out).1).trans F783.out)
  clear F783
  have F815 := Lib.hid (LfIn.below F784.out b812)
  clear F784
  have F816 := Lib.hid (LfIn.below F785.out b812)
  clear F785
  have F817 := Lib.hid ((b812.block (nb206) (Array.getElem?_eq_some_iff.1 F786.out).1).trans F786.out)
  clear F786
  have F818 := Lib.hid ((b812.block (w238.heap.size) (Array.getElem?_eq_some_iff.1 F787.out).1).trans F787.out)
  clear F787
  have F819 := Lib.hid ((b812.block (nb384) (Array.getElem?_eq_some_iff.1 F788.out).1).trans F788.out)
  clear F788
  have F820 := Lib.hid (LfIn.below F789.out b812)
  clear F789
  have F821 := Lib.hid (LfIn.below F790.out b812)
  clear F790
  have F822 := Lib.hid (LfRd.below b812 _ _ F791.out)
  clear F791
  have F823 := Lib.hid (LfRd.below b812 _ _ F792.out)
  clear F792
  have F824 := Lib.hid (LfIn.below F797.out b812)
  clear F797
  have F825 := Lib.hid (LfIn.below F800.out b812)
  clear F800
  have F826 := Lib.hid ((b812.block (nb767) (Array.getElem?_eq_some_iff.1 F804.out).1).trans F804.out)
  clear F804
  have hz827 : w779.heap.size ≤ w811.heap.size := b812.size
  replace hb := hb.trans (b812.mono hb.size)
  clear b812
  have y828 := (Lib.cell_of_heap F819.out 0).trans (show _ = some ((.slice pz385 (storD x_S x_M).boxes.length cz385)) from rfl)
  have y829 := (Lib.cell_of_heap F819.out 1).trans (show _ = some ((.slice pz386 (storD x_S x_M).log.length cz386)) from rfl)
  have y830 := (Lib.cell_of_heap F819.out 2).trans (show _ = some (.int .i64 (storD x_S x_M).given) from rfl)
  go_wp2_with fail
  refine (heldStore_g (storD x_S x_M) _ _ _ 1 rfl _ F822.out F823.out (by have := CN_r0.out; omega) (by have := SZ_r0.out; omega)).mono ?_
  rintro e w831 ⟨rfl, b832⟩
  clear y828 y829 y830
  rw [← HK565.out]
  have F833 := Lib.hid ((b832.block (w.heap.size) (Array.getElem?_eq_some_iff.1 F813.out).1).trans F813.out)
  clear F813
  have F834 := Lib.hid ((b832.block (w.heap.size + 1) (Array.getElem?_eq_some_iff.1 F814.out).1).trans F814.out)
  clear F814
  have F835 := Lib.hid (LfIn.below F815.out b832)
  clear F815
  have F836 := Lib.hid (LfIn.below F816.out b832)
  clear F816
  have F837 := Lib.hid ((b832.block (nb206) (Array.getElem?_eq_some_iff.1 F817.out).1).trans F817.out)
  clear F817
  have F838 := Lib.hid ((b832.block (w238.heap.size) (Array.getElem?_eq_some_iff.1 F818.out).1).trans F818.out)
  clear F818
  have F839 := Lib.hid ((b832.block (nb384) (Array.getElem?_eq_some_iff.1 F819.out).1).trans F819.out)
  clear F819
  have F840 := Lib.hid (LfIn.below F820.out b832)
  clear F820
  have F841 := Lib.hid (LfIn.below F821.out b832)
  clear F821
  have F842 := Lib.hid (LfRd.below b832 _ _ F822.out)
  clear F822
  have F843 := Lib.hid (LfRd.below b832 _ _ F823.out)
  clear F823
  have F844 := Lib.hid (LfIn.below F824.out b832)
  clear F824
  have F845 := Lib.hid (LfIn.below F825.out b832)
  clear F825
  have F846 := Lib.hid ((b832.block (nb767) (Array.getElem?_eq_some_iff.1 F826.out).1).trans F826.out)
  clear F826
  have hz847 : w811.heap.size ≤ w831.heap.size := b832.size
  replace hb := hb.trans (b832.mono hb.size)
  clear b832
  go_wp2
  go_ret
  exact ⟨rfl, hb⟩

end Go.Proofs.YtbfgdbpfecffcaaGreatDoor
