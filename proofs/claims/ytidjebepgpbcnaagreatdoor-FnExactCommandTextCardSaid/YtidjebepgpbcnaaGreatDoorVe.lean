/-
  Ve: LawCommandText (what the claim needs of them).
-/
import Derived.Lib.Fields
import Derived.Deep.DeepCutAuto
import Derived.Deep.Cut
import Derived.Deep.CutRange
import Derived.Deep.LoopGhost
import Derived.Lib.OwnKind
import Derived.Test.YtidjebepgpbcnaaGreatDoorRows
import Derived.WalkKit
import Derived.WalkSpells
import Derived.WalkLawsBesides
import Derived.Laws.IdiomStrings
import Derived.Lib.Hide
import Derived.Deep.AppendLies
import Derived.OrdersHeld
import Derived.Lib.ItoaNum
import Derived.Lib.ItoaMem
import Derived.Lib.AppendStr
import Derived.Lib.ItoaLen
import Derived.Lib.Strings
import Derived.Lib.Bytealg
import Derived.Lib.OthersKept
import Derived.Laws.RangeAny
import Derived.Laws.BitsAllLaws
import Derived.Laws.BitsLemmas
import Derived.IntWalk
import Derived.Handy
import Derived.Lib.Join
import Derived.Deep.Strs
import Derived.ProofKit
import Derived.Lib.SmallJoins
import Derived.Deep.SlicePairs
import Derived.Test.YtidjebepgpbcnaaGreatDoorProg
import Derived.Test.YtidjebepgpbcnaaGreatDoorUb
import Derived.Test.YtidjebepgpbcnaaGreatDoorUc
import Derived.Test.YtidjebepgpbcnaaGreatDoorUe
import Derived.Test.YtidjebepgpbcnaaGreatDoorUr
import Derived.Test.YtidjebepgpbcnaaGreatDoorUs

namespace Go.Proofs.YtidjebepgpbcnaaGreatDoor
open Go.RowKit

def CtrCommandText (f : FuncId) (G : World → Prop) : Prop := ∀ (x_C : CmdD) (r_C_5 : Value) (r_C_10 : Value) (W : World), G W → LfRd W (spnsLf x_C.sset) r_C_5 → LfRd W (scpsLf x_C.filter.scopes) r_C_10 → szLs x_C.lf ≤ 1048576 → LsBnd x_C.lf → 
  Calls Tryz.prog f #[.agg #[sv x_C.tag, .int .i64 x_C.kind, sv x_C.box, sv x_C.dst, .bool x_C.uid, r_C_5, .int .i64 x_C.op, .int .i64 x_C.flags, sv x_C.text, .bool x_C.filter.on, r_C_10]] W fun e w' => e = .returned (sv (lineL (cmdTks x_C))) ∧ Below W.heap.size W w'

set_option maxRecDepth 20000 in
set_option maxHeartbeats 12800000 in
theorem FnExactCommandText_of {G : World → Prop} (hK : Keeps G) (SP : CtrCommandText 14 (fun _ => True)) (IM : CtrCommandText 15 G) (x_C : CmdD) (r_C_5 : Value) (r_C_10 : Value) (w : World) (hG : G w) (h_r_C_5 : LfRd w (spnsLf x_C.sset) r_C_5) (h_r_C_10 : LfRd w (scpsLf x_C.filter.scopes) r_C_10) (hb_C : LsBnd x_C.lf) :
    Calls Tryz.prog 4 #[.agg #[sv x_C.tag, .int .i64 x_C.kind, sv x_C.box, sv x_C.dst, .bool x_C.uid, r_C_5, .int .i64 x_C.op, .int .i64 x_C.flags, sv x_C.text, .bool x_C.filter.on, r_C_10]] w fun e w' => e = .returned (.bool true) ∧ Below w.heap.size w w' := by
  have H_r_C_5 := Lib.hid h_r_C_5
  have H_r_C_10 := Lib.hid h_r_C_10
  obtain ⟨p_C_5, c_C_5, rfl⟩ := LfRd.slice h_r_C_5
  obtain ⟨p_C_10, c_C_10, rfl⟩ := LfRd.slice h_r_C_10
  clear h_r_C_5
  clear h_r_C_10
  by_cases k0 : szLs x_C.lf ≤ 1048576
  case neg =>
    have q0 := fun (ll : Int) (W : World) (hl : ll = ((1048576 : Nat) : Int)) (g0 : LfRd W (spnsLf x_C.sset) (.slice p_C_5 x_C.sset.length c_C_5)) (g1 : LfRd W (scpsLf x_C.filter.scopes) (.slice p_C_10 x_C.filter.scopes.length c_C_10)) => szCommand_g x_C (.slice p_C_5 x_C.sset.length c_C_5) (.slice p_C_10 x_C.filter.scopes.length c_C_10) ll 1048576 hl W g0 g1 hb_C (by omega)
    simp only [show szN 1048576 (szLs x_C.lf) = -1 from szN_no k0] at q0
    have C_sz0 := Lib.hid q0
    clear q0 SP IM
    have hb : Below w.heap.size w (w.alloc (.cells #[sv x_C.tag, .int .i64 x_C.kind, sv x_C.box, sv x_C.dst, .bool x_C.uid, (.slice p_C_5 x_C.sset.length c_C_5), .int .i64 x_C.op, .int .i64 x_C.flags, sv x_C.text, .bool x_C.filter.on, (.slice p_C_10 x_C.filter.scopes.length c_C_10)] 27)) := ((Below.refl _ _).alloc (Nat.le_refl _) _)
    have HB1 := Lib.hid (show (w.alloc (.cells #[sv x_C.tag, .int .i64 x_C.kind, sv x_C.box, sv x_C.dst, .bool x_C.uid, (.slice p_C_5 x_C.sset.length c_C_5), .int .i64 x_C.op, .int .i64 x_C.flags, sv x_C.text, .bool x_C.filter.on, (.slice p_C_10 x_C.filter.scopes.length c_C_10)] 27)).heap[w.heap.size]? = some (.cells #[sv x_C.tag, .int .i64 x_C.kind, sv x_C.box, sv x_C.dst, .bool x_C.uid, (.slice p_C_5 x_C.sset.length c_C_5), .int .i64 x_C.op, .int .i64 x_C.flags, sv x_C.text, .bool x_C.filter.on, (.slice p_C_10 x_C.filter.scopes.length c_C_10)] 27 (0, 0)) from by
      have h := heap_alloc_new w (.cells #[sv x_C.tag, .int .i64 x_C.kind, sv x_C.box, sv x_C.dst, .bool x_C.uid, (.slice p_C_5 x_C.sset.length c_C_5), .int .i64 x_C.op, .int .i64 x_C.flags, sv x_C.text, .bool x_C.filter.on, (.slice p_C_10 x_C.filter.scopes.length c_C_10)] 27)
      exact h)
    have hz0 : w.heap.size + 1 ≤ (w.alloc (.cells #[sv x_C.tag, .int .i64 x_C.kind, sv x_C.box, sv x_C.dst, .bool x_C.uid, (.slice p_C_5 x_C.sset.length c_C_5), .int .i64 x_C.op, .int .i64 x_C.flags, sv x_C.text, .bool x_C.filter.on, (.slice p_C_10 x_C.filter.scopes.length c_C_10)] 27)).heap.size := by simp
    generalize hW0 : (w.alloc (.cells #[sv x_C.tag, .int .i64 x_C.kind, sv x_C.box, sv x_C.dst, .bool x_C.uid, (.slice p_C_5 x_C.sset.length c_C_5), .int .i64 x_C.op, .int .i64 x_C.flags, sv x_C.text, .bool x_C.filter.on, (.slice p_C_10 x_C.filter.scopes.length c_C_10)] 27)) = W0 at *
    go_enter Tryz.func4, Tryz.ntmps4
    have hbz := Lib.hid hb.size
    have y2 := (Lib.cell_of_heap HB1.out 0).trans (show _ = some (sv x_C.tag) from rfl)
    have y3 := (Lib.cell_of_heap HB1.out 1).trans (show _ = some (.int .i64 x_C.kind) from rfl)
    have y4 := (Lib.cell_of_heap HB1.out 2).trans (show _ = some (sv x_C.box) from rfl)
    have y5 := (Lib.cell_of_heap HB1.out 3).trans (show _ = some (sv x_C.dst) from rfl)
    have y6 := (Lib.cell_of_heap HB1.out 4).trans (show _ = some (.bool x_C.uid) from rfl)
    have y7 := (Lib.cell_of_heap HB1.out 5).trans (show _ = some ((.slice p_C_5 x_C.sset.length c_C_5)) from rfl)
    have y8 := (Lib.cell_of_heap HB1.out 6).trans (show _ = some (.int .i64 x_C.op) from rfl)
    have y9 := (Lib.cell_of_heap HB1.out 7).trans (show _ = some (.int .i64 x_C.flags) from rfl)
    have y10 := (Lib.cell_of_heap HB1.out 8).trans (show _ = some (sv x_C.text) from rfl)
    have y11 := (Lib.cell_of_heap HB1.out 9).trans (show _ = some (.bool x_C.filter.on) from rfl)
    have y12 := (Lib.cell_of_heap HB1.out 10).trans (show _ = some ((.slice p_C_10 x_C.filter.scopes.length c_C_10)) from rfl)
    go_wp2_with fail
    refine (C_sz0.out _ _ (by first | rfl | omega) (LfRd.below hb _ _ H_r_C_5.out) (LfRd.below hb _ _ H_r_C_10.out)).mono ?_
    rintro e w13 ⟨rfl, b14⟩
    clear y2 y3 y4 y5 y6 y7 y8 y9 y10 y11 y12
    have F15 := Lib.hid ((b14.block (w.heap.size) (Array.getElem?_eq_some_iff.1 HB1.out).1).trans HB1.out)
    clear HB1
    have hz16 : W0.heap.size ≤ w13.heap.size := b14.size
    replace hb := hb.trans (b14.mono hb.size)
    clear b14
    go_wp2
    go_ret
    exact ⟨rfl, hb⟩
  obtain ⟨L1, hL1⟩ : ∃ L, L + szLs x_C.lf = 1048576 := ⟨1048576 - szLs x_C.lf, by omega⟩
  have bL1 : L1 ≤ 1048576 := by omega
  have nL1 : ¬ (L1 : Int) < 0 := by omega
  have q0 := fun (ll : Int) (W : World) (hl : ll = ((1048576 : Nat) : Int)) (g0 : LfRd W (spnsLf x_C.sset) (.slice p_C_5 x_C.sset.length c_C_5)) (g1 : LfRd W (scpsLf x_C.filter.scopes) (.slice p_C_10 x_C.filter.scopes.length c_C_10)) => szCommand_g x_C (.slice p_C_5 x_C.sset.length c_C_5) (.slice p_C_10 x_C.filter.scopes.length c_C_10) ll 1048576 hl W g0 g1 hb_C (by omega)
  simp only [show szN 1048576 (szLs x_C.lf) = (L1 : Int) from by rw [szN_yes k0]; omega] at q0
  have C_sz0 := Lib.hid q0
  clear q0
  have HL1 := Lib.hid hL1
  have hsz_0 : szLs x_C.lf ≤ 1048576 := by omega
  clear hL1
  have hsm_C : szLs x_C.lf ≤ 1048576 := by omega
  have SZ_C := Lib.hid hsm_C
  have CN_C := Lib.hid (show 1 + cntLf (spnsLf x_C.sset) + cntLf (scpsLf x_C.filter.scopes) ≤ 1000000000 from by have hs := CmdD.sz x_C; have h5 := cntRow_le (spnsLf_fit x_C.sset); have h10 := cntRow_le (scpsLf_fit x_C.filter.scopes); simp only [scpsLf, spnsLf] at hs ⊢; omega)
  have C_to_C := Lib.hid (fun (W : World) (g0 : LfRd W (spnsLf x_C.sset) (.slice p_C_5 x_C.sset.length c_C_5)) (g1 : LfRd W (scpsLf x_C.filter.scopes) (.slice p_C_10 x_C.filter.scopes.length c_C_10)) => toCommand_g x_C (.slice p_C_5 x_C.sset.length c_C_5) (.slice p_C_10 x_C.filter.scopes.length c_C_10) W g0 g1 (by omega))
  have C_spec := Lib.hid (fun (u_C_0 : Value) (u_C_1 : Value) (W : World) (k_C_0 : LfRd W (spnsLf x_C.sset) u_C_0) (k_C_1 : LfRd W (scpsLf x_C.filter.scopes) u_C_1) => SP x_C u_C_0 u_C_1 W trivial k_C_0 k_C_1 hsm_C hb_C)
  have C_impl := Lib.hid (fun (u_C_0 : Value) (u_C_1 : Value) (W : World) (hg : G W) (k_C_0 : LfRd W (spnsLf x_C.sset) u_C_0) (k_C_1 : LfRd W (scpsLf x_C.filter.scopes) u_C_1) => IM x_C u_C_0 u_C_1 W hg k_C_0 k_C_1 hsm_C hb_C)
  clear SP IM hb_C hsm_C
  generalize (lineL (cmdTks x_C)) = R0 at *
  have ne0 : (R0 != R0) = false := by simp
  have hb : Below w.heap.size w (w.alloc (.cells #[sv x_C.tag, .int .i64 x_C.kind, sv x_C.box, sv x_C.dst, .bool x_C.uid, (.slice p_C_5 x_C.sset.length c_C_5), .int .i64 x_C.op, .int .i64 x_C.flags, sv x_C.text, .bool x_C.filter.on, (.slice p_C_10 x_C.filter.scopes.length c_C_10)] 27)) := ((Below.refl _ _).alloc (Nat.le_refl _) _)
  have HB1 := Lib.hid (show (w.alloc (.cells #[sv x_C.tag, .int .i64 x_C.kind, sv x_C.box, sv x_C.dst, .bool x_C.uid, (.slice p_C_5 x_C.sset.length c_C_5), .int .i64 x_C.op, .int .i64 x_C.flags, sv x_C.text, .bool x_C.filter.on, (.slice p_C_10 x_C.filter.scopes.length c_C_10)] 27)).heap[w.heap.size]? = some (.cells #[sv x_C.tag, .int .i64 x_C.kind, sv x_C.box, sv x_C.dst, .bool x_C.uid, (.slice p_C_5 x_C.sset.length c_C_5), .int .i64 x_C.op, .int .i64 x_C.flags, sv x_C.text, .bool x_C.filter.on, (.slice p_C_10 x_C.filter.scopes.length c_C_10)] 27 (0, 0)) from by
    have h := heap_alloc_new w (.cells #[sv x_C.tag, .int .i64 x_C.kind, sv x_C.box, sv x_C.dst, .bool x_C.uid, (.slice p_C_5 x_C.sset.length c_C_5), .int .i64 x_C.op, .int .i64 x_C.flags, sv x_C.text, .bool x_C.filter.on, (.slice p_C_10 x_C.filter.scopes.length c_C_10)] 27)
    exact h)
  have hz0 : w.heap.size + 1 ≤ (w.alloc (.cells #[sv x_C.tag, .int .i64 x_C.kind, sv x_C.box, sv x_C.dst, .bool x_C.uid, (.slice p_C_5 x_C.sset.length c_C_5), .int .i64 x_C.op, .int .i64 x_C.flags, sv x_C.text, .bool x_C.filter.on, (.slice p_C_10 x_C.filter.scopes.length c_C_10)] 27)).heap.size := by simp
  generalize hW0 : (w.alloc (.cells #[sv x_C.tag, .int .i64 x_C.kind, sv x_C.box, sv x_C.dst, .bool x_C.uid, (.slice p_C_5 x_C.sset.length c_C_5), .int .i64 x_C.op, .int .i64 x_C.flags, sv x_C.text, .bool x_C.filter.on, (.slice p_C_10 x_C.filter.scopes.length c_C_10)] 27)) = W0 at *
  go_enter Tryz.func4, Tryz.ntmps4
  have hbz := Lib.hid hb.size
  have y2 := (Lib.cell_of_heap HB1.out 0).trans (show _ = some (sv x_C.tag) from rfl)
  have y3 := (Lib.cell_of_heap HB1.out 1).trans (show _ = some (.int .i64 x_C.kind) from rfl)
  have y4 := (Lib.cell_of_heap HB1.out 2).trans (show _ = some (sv x_C.box) from rfl)
  have y5 := (Lib.cell_of_heap HB1.out 3).trans (show _ = some (sv x_C.dst) from rfl)
  have y6 := (Lib.cell_of_heap HB1.out 4).trans (show _ = some (.bool x_C.uid) from rfl)
  have y7 := (Lib.cell_of_heap HB1.out 5).trans (show _ = some ((.slice p_C_5 x_C.sset.length c_C_5)) from rfl)
  have y8 := (Lib.cell_of_heap HB1.out 6).trans (show _ = some (.int .i64 x_C.op) from rfl)
  have y9 := (Lib.cell_of_heap HB1.out 7).trans (show _ = some (.int .i64 x_C.flags) from rfl)
  have y10 := (Lib.cell_of_heap HB1.out 8).trans (show _ = some (sv x_C.text) from rfl)
  have y11 := (Lib.cell_of_heap HB1.out 9).trans (show _ = some (.bool x_C.filter.on) from rfl)
  have y12 := (Lib.cell_of_heap HB1.out 10).trans (show _ = some ((.slice p_C_10 x_C.filter.scopes.length c_C_10)) from rfl)
  go_wp2_with fail
  refine (C_sz0.out _ _ (by first | rfl | omega) (LfRd.below hb _ _ H_r_C_5.out) (LfRd.below hb _ _ H_r_C_10.out)).mono ?_
  rintro e w13 ⟨rfl, b14⟩
  clear y2 y3 y4 y5 y6 y7 y8 y9 y10 y11 y12
  have F15 := Lib.hid ((b14.block (w.heap.size) (Array.getElem?_eq_some_iff.1 HB1.out).1).trans HB1.out)
  clear HB1
  have hz16 : W0.heap.size ≤ w13.heap.size := b14.size
  replace hb := hb.trans (b14.mono hb.size)
  clear b14
  have y17 := (Lib.cell_of_heap F15.out 0).trans (show _ = some (sv x_C.tag) from rfl)
  have y18 := (Lib.cell_of_heap F15.out 1).trans (show _ = some (.int .i64 x_C.kind) from rfl)
  have y19 := (Lib.cell_of_heap F15.out 2).trans (show _ = some (sv x_C.box) from rfl)
  have y20 := (Lib.cell_of_heap F15.out 3).trans (show _ = some (sv x_C.dst) from rfl)
  have y21 := (Lib.cell_of_heap F15.out 4).trans (show _ = some (.bool x_C.uid) from rfl)
  have y22 := (Lib.cell_of_heap F15.out 5).trans (show _ = some ((.slice p_C_5 x_C.sset.length c_C_5)) from rfl)
  have y23 := (Lib.cell_of_heap F15.out 6).trans (show _ = some (.int .i64 x_C.op) from rfl)
  have y24 := (Lib.cell_of_heap F15.out 7).trans (show _ = some (.int .i64 x_C.flags) from rfl)
  have y25 := (Lib.cell_of_heap F15.out 8).trans (show _ = some (sv x_C.text) from rfl)
  have y26 := (Lib.cell_of_heap F15.out 9).trans (show _ = some (.bool x_C.filter.on) from rfl)
  have y27 := (Lib.cell_of_heap F15.out 10).trans (show _ = some ((.slice p_C_10 x_C.filter.scopes.length c_C_10)) from rfl)
  go_wp2_with fail
  refine (C_to_C.out _ (LfRd.below hb _ _ H_r_C_5.out) (LfRd.below hb _ _ H_r_C_10.out)).mono ?_
  rintro e w28 ⟨z31, f33, z32, f34, rfl, i35, i36, nd37, lo38, b29⟩
  clear y17 y18 y19 y20 y21 y22 y23 y24 y25 y26 y27
  have F39 := Lib.hid ((b29.block (w.heap.size) (Array.getElem?_eq_some_iff.1 F15.out).1).trans F15.out)
  clear F15
  have hz40 : w13.heap.size ≤ w28.heap.size := b29.size
  replace hb := hb.trans (b29.mono hb.size)
  have LO41 := Lib.hid (show ∀ q ∈ f33 ++ f34, w13.heap.size ≤ q from lo38)
  have HI42 := Lib.hid (show ∀ q ∈ f33 ++ f34, q < w28.heap.size from fun q hq => by simp only [List.mem_append] at hq; rcases hq with hq | hq <;> first | exact LfIn.lt _ _ _ i35 q hq | exact LfIn.lt _ _ _ i36 q hq)
  have ND43 := Lib.hid nd37
  have F44 := Lib.hid i35
  have LO45 := Lib.hid (show ∀ q ∈ f33, w13.heap.size ≤ q from fun q hq => LO41.out q (by simp [hq]))
  have HI46 := Lib.hid (show ∀ q ∈ f33, q < w28.heap.size from fun q hq => HI42.out q (by simp [hq]))
  obtain ⟨pz31, cz31, rfl⟩ := LfIn.slice i35
  have F47 := Lib.hid i36
  have LO48 := Lib.hid (show ∀ q ∈ f34, w13.heap.size ≤ q from fun q hq => LO41.out q (by simp [hq]))
  have HI49 := Lib.hid (show ∀ q ∈ f34, q < w28.heap.size from fun q hq => HI42.out q (by simp [hq]))
  obtain ⟨pz32, cz32, rfl⟩ := LfIn.slice i36
  clear i35
  clear i36
  clear nd37 lo38
  clear b29
  go_wp2_with fail
  refine (C_spec.out _ _ _ (LfIn.rd _ _ _ F44.out) (LfIn.rd _ _ _ F47.out)).mono ?_
  rintro e w50 ⟨rfl, b51⟩
  have F52 := Lib.hid ((b51.block (w.heap.size) (Array.getElem?_eq_some_iff.1 F39.out).1).trans F39.out)
  clear F39
  have F53 := Lib.hid (LfIn.below F44.out b51)
  clear F44
  have F54 := Lib.hid (LfIn.below F47.out b51)
  clear F47
  have hz55 : w28.heap.size ≤ w50.heap.size := b51.size
  replace hb := hb.trans (b51.mono hb.size)
  clear b51
  have y56 := (Lib.cell_of_heap F52.out 0).trans (show _ = some (sv x_C.tag) from rfl)
  have y57 := (Lib.cell_of_heap F52.out 1).trans (show _ = some (.int .i64 x_C.kind) from rfl)
  have y58 := (Lib.cell_of_heap F52.out 2).trans (show _ = some (sv x_C.box) from rfl)
  have y59 := (Lib.cell_of_heap F52.out 3).trans (show _ = some (sv x_C.dst) from rfl)
  have y60 := (Lib.cell_of_heap F52.out 4).trans (show _ = some (.bool x_C.uid) from rfl)
  have y61 := (Lib.cell_of_heap F52.out 5).trans (show _ = some ((.slice p_C_5 x_C.sset.length c_C_5)) from rfl)
  have y62 := (Lib.cell_of_heap F52.out 6).trans (show _ = some (.int .i64 x_C.op) from rfl)
  have y63 := (Lib.cell_of_heap F52.out 7).trans (show _ = some (.int .i64 x_C.flags) from rfl)
  have y64 := (Lib.cell_of_heap F52.out 8).trans (show _ = some (sv x_C.text) from rfl)
  have y65 := (Lib.cell_of_heap F52.out 9).trans (show _ = some (.bool x_C.filter.on) from rfl)
  have y66 := (Lib.cell_of_heap F52.out 10).trans (show _ = some ((.slice p_C_10 x_C.filter.scopes.length c_C_10)) from rfl)
  go_wp2_with fail
  refine (C_to_C.out _ (LfRd.below hb _ _ H_r_C_5.out) (LfRd.below hb _ _ H_r_C_10.out)).mono ?_
  rintro e w67 ⟨z70, f72, z71, f73, rfl, i74, i75, nd76, lo77, b68⟩
  clear y56 y57 y58 y59 y60 y61 y62 y63 y64 y65 y66
  have F78 := Lib.hid ((b68.block (w.heap.size) (Array.getElem?_eq_some_iff.1 F52.out).1).trans F52.out)
  clear F52
  have F79 := Lib.hid (LfIn.below F53.out b68)
  clear F53
  have F80 := Lib.hid (LfIn.below F54.out b68)
  clear F54
  have hz81 : w50.heap.size ≤ w67.heap.size := b68.size
  replace hb := hb.trans (b68.mono hb.size)
  have LO82 := Lib.hid (show ∀ q ∈ f72 ++ f73, w50.heap.size ≤ q from lo77)
  have HI83 := Lib.hid (show ∀ q ∈ f72 ++ f73, q < w67.heap.size from fun q hq => by simp only [List.mem_append] at hq; rcases hq with hq | hq <;> first | exact LfIn.lt _ _ _ i74 q hq | exact LfIn.lt _ _ _ i75 q hq)
  have ND84 := Lib.hid nd76
  have F85 := Lib.hid i74
  have LO86 := Lib.hid (show ∀ q ∈ f72, w50.heap.size ≤ q from fun q hq => LO82.out q (by simp [hq]))
  have HI87 := Lib.hid (show ∀ q ∈ f72, q < w67.heap.size from fun q hq => HI83.out q (by simp [hq]))
  obtain ⟨pz70, cz70, rfl⟩ := LfIn.slice i74
  have F88 := Lib.hid i75
  have LO89 := Lib.hid (show ∀ q ∈ f73, w50.heap.size ≤ q from fun q hq => LO82.out q (by simp [hq]))
  have HI90 := Lib.hid (show ∀ q ∈ f73, q < w67.heap.size from fun q hq => HI83.out q (by simp [hq]))
  obtain ⟨pz71, cz71, rfl⟩ := LfIn.slice i75
  clear i74
  clear i75
  clear nd76 lo77
  clear b68
  have b92 : Below w67.heap.size w67 (w67.alloc (.cells #[sv x_C.tag, .int .i64 x_C.kind, sv x_C.box, sv x_C.dst, .bool x_C.uid, (.slice pz70 x_C.sset.length cz70), .int .i64 x_C.op, .int .i64 x_C.flags, sv x_C.text, .bool x_C.filter.on, (.slice pz71 x_C.filter.scopes.length cz71)] 36)) := (Below.refl _ _).alloc (Nat.le_refl _) _
  have F93 := Lib.hid (heap_alloc_new w67 (.cells #[sv x_C.tag, .int .i64 x_C.kind, sv x_C.box, sv x_C.dst, .bool x_C.uid, (.slice pz70 x_C.sset.length cz70), .int .i64 x_C.op, .int .i64 x_C.flags, sv x_C.text, .bool x_C.filter.on, (.slice pz71 x_C.filter.scopes.length cz71)] 36))
  have hz94 : w67.heap.size < (w67.alloc (.cells #[sv x_C.tag, .int .i64 x_C.kind, sv x_C.box, sv x_C.dst, .bool x_C.uid, (.slice pz70 x_C.sset.length cz70), .int .i64 x_C.op, .int .i64 x_C.flags, sv x_C.text, .bool x_C.filter.on, (.slice pz71 x_C.filter.scopes.length cz71)] 36)).heap.size := by simp
  generalize hX91 : w67.alloc (.cells #[sv x_C.tag, .int .i64 x_C.kind, sv x_C.box, sv x_C.dst, .bool x_C.uid, (.slice pz70 x_C.sset.length cz70), .int .i64 x_C.op, .int .i64 x_C.flags, sv x_C.text, .bool x_C.filter.on, (.slice pz71 x_C.filter.scopes.length cz71)] 36) = X91 at *
  have F95 := Lib.hid ((b92.block (w.heap.size) (Array.getElem?_eq_some_iff.1 F78.out).1).trans F78.out)
  clear F78
  have F96 := Lib.hid (LfIn.below F79.out b92)
  clear F79
  have F97 := Lib.hid (LfIn.below F80.out b92)
  clear F80
  have F98 := Lib.hid (LfIn.below F85.out b92)
  clear F85
  have F99 := Lib.hid (LfIn.below F88.out b92)
  clear F88
  have hz100 : w67.heap.size ≤ X91.heap.size := b92.size
  replace hb := hb.trans (b92.mono hb.size)
  clear b92
  have y101 := (Lib.cell_of_heap F93.out 0).trans (show _ = some (sv x_C.tag) from rfl)
  have y102 := (Lib.cell_of_heap F93.out 1).trans (show _ = some (.int .i64 x_C.kind) from rfl)
  have y103 := (Lib.cell_of_heap F93.out 2).trans (show _ = some (sv x_C.box) from rfl)
  have y104 := (Lib.cell_of_heap F93.out 3).trans (show _ = some (sv x_C.dst) from rfl)
  have y105 := (Lib.cell_of_heap F93.out 4).trans (show _ = some (.bool x_C.uid) from rfl)
  have y106 := (Lib.cell_of_heap F93.out 5).trans (show _ = some ((.slice pz70 x_C.sset.length cz70)) from rfl)
  have y107 := (Lib.cell_of_heap F93.out 6).trans (show _ = some (.int .i64 x_C.op) from rfl)
  have y108 := (Lib.cell_of_heap F93.out 7).trans (show _ = some (.int .i64 x_C.flags) from rfl)
  have y109 := (Lib.cell_of_heap F93.out 8).trans (show _ = some (sv x_C.text) from rfl)
  have y110 := (Lib.cell_of_heap F93.out 9).trans (show _ = some (.bool x_C.filter.on) from rfl)
  have y111 := (Lib.cell_of_heap F93.out 10).trans (show _ = some ((.slice pz71 x_C.filter.scopes.length cz71)) from rfl)
  go_wp2_with fail
  refine (C_impl.out _ _ _ (hK _ _ hG hb) (LfIn.rd _ _ _ F98.out) (LfIn.rd _ _ _ F99.out)).mono ?_
  rintro e w112 ⟨rfl, b113⟩
  clear y101 y102 y103 y104 y105 y106 y107 y108 y109 y110 y111
  have F114 := Lib.hid ((b113.block (w.heap.size) (Array.getElem?_eq_some_iff.1 F95.out).1).trans F95.out)
  clear F95
  have F115 := Lib.hid (LfIn.below F96.out b113)
  clear F96
  have F116 := Lib.hid (LfIn.below F97.out b113)
  clear F97
  have F117 := Lib.hid (LfIn.below F98.out b113)
  clear F98
  have F118 := Lib.hid (LfIn.below F99.out b113)
  clear F99
  have F119 := Lib.hid ((b113.block (w67.heap.size) (Array.getElem?_eq_some_iff.1 F93.out).1).trans F93.out)
  clear F93
  have hz120 : X91.heap.size ≤ w112.heap.size := b113.size
  replace hb := hb.trans (b113.mono hb.size)
  clear b113
  go_wp2
  refine ord_start [(0, true), (1, true), (2, false), (3, false), (4, true)] (fun W => W.heap[w67.heap.size]? = some (.cells #[sv x_C.tag, .int .i64 x_C.kind, sv x_C.box, sv x_C.dst, .bool x_C.uid, (.slice pz70 x_C.sset.length cz70), .int .i64 x_C.op, .int .i64 x_C.flags, sv x_C.text, .bool x_C.filter.on, (.slice pz71 x_C.filter.scopes.length cz71)] 36 (0, 0)) ∧ W.heap[w.heap.size]? = some (.cells #[sv x_C.tag, .int .i64 x_C.kind, sv x_C.box, sv x_C.dst, .bool x_C.uid, (.slice p_C_5 x_C.sset.length c_C_5), .int .i64 x_C.op, .int .i64 x_C.flags, sv x_C.text, .bool x_C.filter.on, (.slice p_C_10 x_C.filter.scopes.length c_C_10)] 27 (0, 0))) (by kernel_rfl) (by kernel_rfl) rfl (by kernel_rfl) ?_
  intro ops' hops
  clear hops
  simp only [List.map_cons, List.map_nil, pickOp_zero, pickOp_succ]
  have b122 : Below w112.heap.size w112 w112.drew := (Below.refl _ _).drew
  have hz123 : w112.drew.heap.size = w112.heap.size := rfl
  generalize w112.drew = D121 at *
  have F124 := Lib.hid ((b122.block (w.heap.size) (Array.getElem?_eq_some_iff.1 F114.out).1).trans F114.out)
  clear F114
  have F125 := Lib.hid (LfIn.below F115.out b122)
  clear F115
  have F126 := Lib.hid (LfIn.below F116.out b122)
  clear F116
  have F127 := Lib.hid (LfIn.below F117.out b122)
  clear F117
  have F128 := Lib.hid (LfIn.below F118.out b122)
  clear F118
  have F129 := Lib.hid ((b122.block (w67.heap.size) (Array.getElem?_eq_some_iff.1 F119.out).1).trans F119.out)
  clear F119
  have hz130 : w112.heap.size ≤ D121.heap.size := b122.size
  replace hb := hb.trans (b122.mono hb.size)
  clear b122
  refine ord_flo (.agg #[sv x_C.tag, .int .i64 x_C.kind, sv x_C.box, sv x_C.dst, .bool x_C.uid, (.slice pz70 x_C.sset.length cz70), .int .i64 x_C.op, .int .i64 x_C.flags, sv x_C.text, .bool x_C.filter.on, (.slice pz71 x_C.filter.scopes.length cz71)]) (fun _ _ _ h => h) rfl ?_ ⟨F129.out, F124.out⟩ ?_
  · intro W hS
    have y0 := (Lib.cell_of_heap hS.1 0).trans (show _ = some (sv x_C.tag) from rfl)
    have y1 := (Lib.cell_of_heap hS.1 1).trans (show _ = some (.int .i64 x_C.kind) from rfl)
    have y2 := (Lib.cell_of_heap hS.1 2).trans (show _ = some (sv x_C.box) from rfl)
    have y3 := (Lib.cell_of_heap hS.1 3).trans (show _ = some (sv x_C.dst) from rfl)
    have y4 := (Lib.cell_of_heap hS.1 4).trans (show _ = some (.bool x_C.uid) from rfl)
    have y5 := (Lib.cell_of_heap hS.1 5).trans (show _ = some ((.slice pz70 x_C.sset.length cz70)) from rfl)
    have y6 := (Lib.cell_of_heap hS.1 6).trans (show _ = some (.int .i64 x_C.op) from rfl)
    have y7 := (Lib.cell_of_heap hS.1 7).trans (show _ = some (.int .i64 x_C.flags) from rfl)
    have y8 := (Lib.cell_of_heap hS.1 8).trans (show _ = some (sv x_C.text) from rfl)
    have y9 := (Lib.cell_of_heap hS.1 9).trans (show _ = some (.bool x_C.filter.on) from rfl)
    have y10 := (Lib.cell_of_heap hS.1 10).trans (show _ = some ((.slice pz71 x_C.filter.scopes.length cz71)) from rfl)
    clear hS
    go_simp
  refine ord_flo (.agg #[sv x_C.tag, .int .i64 x_C.kind, sv x_C.box, sv x_C.dst, .bool x_C.uid, (.slice p_C_5 x_C.sset.length c_C_5), .int .i64 x_C.op, .int .i64 x_C.flags, sv x_C.text, .bool x_C.filter.on, (.slice p_C_10 x_C.filter.scopes.length c_C_10)]) (fun _ _ _ h => h) rfl ?_ ⟨F129.out, F124.out⟩ ?_
  · intro W hS
    have y0 := (Lib.cell_of_heap hS.2 0).trans (show _ = some (sv x_C.tag) from rfl)
    have y1 := (Lib.cell_of_heap hS.2 1).trans (show _ = some (.int .i64 x_C.kind) from rfl)
    have y2 := (Lib.cell_of_heap hS.2 2).trans (show _ = some (sv x_C.box) from rfl)
    have y3 := (Lib.cell_of_heap hS.2 3).trans (show _ = some (sv x_C.dst) from rfl)
    have y4 := (Lib.cell_of_heap hS.2 4).trans (show _ = some (.bool x_C.uid) from rfl)
    have y5 := (Lib.cell_of_heap hS.2 5).trans (show _ = some ((.slice p_C_5 x_C.sset.length c_C_5)) from rfl)
    have y6 := (Lib.cell_of_heap hS.2 6).trans (show _ = some (.int .i64 x_C.op) from rfl)
    have y7 := (Lib.cell_of_heap hS.2 7).trans (show _ = some (.int .i64 x_C.flags) from rfl)
    have y8 := (Lib.cell_of_heap hS.2 8).trans (show _ = some (sv x_C.text) from rfl)
    have y9 := (Lib.cell_of_heap hS.2 9).trans (show _ = some (.bool x_C.filter.on) from rfl)
    have y10 := (Lib.cell_of_heap hS.2 10).trans (show _ = some ((.slice p_C_10 x_C.filter.scopes.length c_C_10)) from rfl)
    clear hS
    go_simp
  refine ord_ev rfl ?_
  go_simp
  refine (C_to_C.out _ (LfRd.below hb _ _ H_r_C_5.out) (LfRd.below hb _ _ H_r_C_10.out)).mono ?_
  rintro e w131 ⟨z134, f136, z135, f137, rfl, i138, i139, nd140, lo141, b132⟩
  have F142 := Lib.hid ((b132.block (w.heap.size) (Array.getElem?_eq_some_iff.1 F124.out).1).trans F124.out)
  clear F124
  have F143 := Lib.hid (LfIn.below F125.out b132)
  clear F125
  have F144 := Lib.hid (LfIn.below F126.out b132)
  clear F126
  have F145 := Lib.hid (LfIn.below F127.out b132)
  clear F127
  have F146 := Lib.hid (LfIn.below F128.out b132)
  clear F128
  have F147 := Lib.hid ((b132.block (w67.heap.size) (Array.getElem?_eq_some_iff.1 F129.out).1).trans F129.out)
  clear F129
  have hz148 : D121.heap.size ≤ w131.heap.size := b132.size
  replace hb := hb.trans (b132.mono hb.size)
  have LO149 := Lib.hid (show ∀ q ∈ f136 ++ f137, D121.heap.size ≤ q from lo141)
  have HI150 := Lib.hid (show ∀ q ∈ f136 ++ f137, q < w131.heap.size from fun q hq => by simp only [List.mem_append] at hq; rcases hq with hq | hq <;> first | exact LfIn.lt _ _ _ i138 q hq | exact LfIn.lt _ _ _ i139 q hq)
  have ND151 := Lib.hid nd140
  have F152 := Lib.hid i138
  have LO153 := Lib.hid (show ∀ q ∈ f136, D121.heap.size ≤ q from fun q hq => LO149.out q (by simp [hq]))
  have HI154 := Lib.hid (show ∀ q ∈ f136, q < w131.heap.size from fun q hq => HI150.out q (by simp [hq]))
  obtain ⟨pz134, cz134, rfl⟩ := LfIn.slice i138
  have F155 := Lib.hid i139
  have LO156 := Lib.hid (show ∀ q ∈ f137, D121.heap.size ≤ q from fun q hq => LO149.out q (by simp [hq]))
  have HI157 := Lib.hid (show ∀ q ∈ f137, q < w131.heap.size from fun q hq => HI150.out q (by simp [hq]))
  obtain ⟨pz135, cz135, rfl⟩ := LfIn.slice i139
  clear i138
  clear i139
  clear nd140 lo141
  clear b132
  refine ⟨⟨F147.out, F142.out⟩, ?_⟩
  refine ord_ev rfl ?_
  go_simp
  refine (eqCommand_g x_C _ _ _ _ _ (LfIn.rd _ _ _ F145.out) (LfIn.rd _ _ _ F152.out) (LfIn.rd _ _ _ F146.out) (LfIn.rd _ _ _ F155.out) (by have := SZ_C.out; omega)).mono ?_
  rintro e w158 ⟨rfl, b159⟩
  have F160 := Lib.hid ((b159.block (w.heap.size) (Array.getElem?_eq_some_iff.1 F142.out).1).trans F142.out)
  clear F142
  have F161 := Lib.hid (LfIn.below F143.out b159)
  clear F143
  have F162 := Lib.hid (LfIn.below F144.out b159)
  clear F144
  have F163 := Lib.hid (LfIn.below F145.out b159)
  clear F145
  have F164 := Lib.hid (LfIn.below F146.out b159)
  clear F146
  have F165 := Lib.hid ((b159.block (w67.heap.size) (Array.getElem?_eq_some_iff.1 F147.out).1).trans F147.out)
  clear F147
  have F166 := Lib.hid (LfIn.below F152.out b159)
  clear F152
  have F167 := Lib.hid (LfIn.below F155.out b159)
  clear F155
  have hz168 : w131.heap.size ≤ w158.heap.size := b159.size
  replace hb := hb.trans (b159.mono hb.size)
  clear b159
  refine ⟨⟨F165.out, F160.out⟩, ?_⟩
  iterate 1 (refine ord_flo ?_ (fun _ _ _ h => h) rfl ?_ ⟨F165.out, F160.out⟩ ?_; rotate_left; focus (intro W hS; obtain ⟨s0, s1⟩ := hS; go_simp; rfl))
  refine ord_done ?_
  go_simp
  go_wp2
  go_ret
  exact ⟨rfl, hb⟩

end Go.Proofs.YtidjebepgpbcnaaGreatDoor
