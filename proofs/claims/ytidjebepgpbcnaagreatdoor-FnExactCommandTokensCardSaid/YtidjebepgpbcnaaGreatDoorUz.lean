/-
  Uz: LawCommandTokens (what the claim needs of them).
-/
import Derived.Lib.Fields
import Derived.Deep.DeepCutAuto
import Derived.Deep.Cut
import Derived.Deep.CutRange
import Derived.Deep.LoopGhost
import Derived.Lib.OwnKind
import Derived.Test.YtidjebepgpbcnaaGreatDoorRows
import Derived.WalkKit
import Derived.WalkSpells
import Derived.WalkLawsBesides
import Derived.Laws.IdiomStrings
import Derived.Lib.Hide
import Derived.Deep.AppendLies
import Derived.OrdersHeld
import Derived.Lib.ItoaNum
import Derived.Lib.ItoaMem
import Derived.Lib.AppendStr
import Derived.Lib.ItoaLen
import Derived.Lib.Strings
import Derived.Lib.Bytealg
import Derived.Lib.OthersKept
import Derived.Laws.RangeAny
import Derived.Laws.BitsAllLaws
import Derived.Laws.BitsLemmas
import Derived.IntWalk
import Derived.Handy
import Derived.Lib.Join
import Derived.Deep.Strs
import Derived.ProofKit
import Derived.Lib.SmallJoins
import Derived.Deep.SlicePairs
import Derived.Test.YtidjebepgpbcnaaGreatDoorProg
import Derived.Test.YtidjebepgpbcnaaGreatDoorUb
import Derived.Test.YtidjebepgpbcnaaGreatDoorUc
import Derived.Test.YtidjebepgpbcnaaGreatDoorUe
import Derived.Test.YtidjebepgpbcnaaGreatDoorUr
import Derived.Test.YtidjebepgpbcnaaGreatDoorUs

namespace Go.Proofs.YtidjebepgpbcnaaGreatDoor
open Go.RowKit

def CtrCommandTokens (f : FuncId) (G : World → Prop) : Prop := ∀ (x_C : CmdD) (r_C_5 : Value) (r_C_10 : Value) (W : World), G W → LfRd W (spnsLf x_C.sset) r_C_5 → LfRd W (scpsLf x_C.filter.scopes) r_C_10 → szLs x_C.lf ≤ 1048576 → LsBnd x_C.lf → 
  Calls Tryz.prog f #[.agg #[sv x_C.tag, .int .i64 x_C.kind, sv x_C.box, sv x_C.dst, .bool x_C.uid, r_C_5, .int .i64 x_C.op, .int .i64 x_C.flags, sv x_C.text, .bool x_C.filter.on, r_C_10]] W fun e w' => ∃ z0 f0, e = .returned (z0) ∧ LfIn w' (toksLf (cmdTks x_C)) z0 f0 ∧ f0.Nodup ∧ (∀ q ∈ f0, W.heap.size ≤ q) ∧ Below W.heap.size W w'

set_option maxRecDepth 20000 in
set_option maxHeartbeats 12800000 in
theorem FnExactCommandTokens_of {G : World → Prop} (hK : Keeps G) (SP : CtrCommandTokens 6 (fun _ => True)) (IM : CtrCommandTokens 8 G) (x_C : CmdD) (r_C_5 : Value) (r_C_10 : Value) (w : World) (hG : G w) (h_r_C_5 : LfRd w (spnsLf x_C.sset) r_C_5) (h_r_C_10 : LfRd w (scpsLf x_C.filter.scopes) r_C_10) (hb_C : LsBnd x_C.lf) (hr_0 : szLs x_C.lf ≤ 1048576 → szLf (toksLf (cmdTks x_C)) ≤ 1000000000) :
    Calls Tryz.prog 3 #[.agg #[sv x_C.tag, .int .i64 x_C.kind, sv x_C.box, sv x_C.dst, .bool x_C.uid, r_C_5, .int .i64 x_C.op, .int .i64 x_C.flags, sv x_C.text, .bool x_C.filter.on, r_C_10]] w fun e w' => e = .returned (.bool true) ∧ Below w.heap.size w w' := by
  have H_r_C_5 := Lib.hid h_r_C_5
  have H_r_C_10 := Lib.hid h_r_C_10
  obtain ⟨p_C_5, c_C_5, rfl⟩ := LfRd.slice h_r_C_5
  obtain ⟨p_C_10, c_C_10, rfl⟩ := LfRd.slice h_r_C_10
  clear h_r_C_5
  clear h_r_C_10
  by_cases k0 : szLs x_C.lf ≤ 1048576
  case neg =>
    have q0 := fun (ll : Int) (W : World) (hl : ll = ((1048576 : Nat) : Int)) (g0 : LfRd W (spnsLf x_C.sset) (.slice p_C_5 x_C.sset.length c_C_5)) (g1 : LfRd W (scpsLf x_C.filter.scopes) (.slice p_C_10 x_C.filter.scopes.length c_C_10)) => szCommand_g x_C (.slice p_C_5 x_C.sset.length c_C_5) (.slice p_C_10 x_C.filter.scopes.length c_C_10) ll 1048576 hl W g0 g1 hb_C (by omega)
    simp only [show szN 1048576 (szLs x_C.lf) = -1 from szN_no k0] at q0
    have C_sz0 := Lib.hid q0
    clear q0 SP IM hr_0
    have hb : Below w.heap.size w (w.alloc (.cells #[sv x_C.tag, .int .i64 x_C.kind, sv x_C.box, sv x_C.dst, .bool x_C.uid, (.slice p_C_5 x_C.sset.length c_C_5), .int .i64 x_C.op, .int .i64 x_C.flags, sv x_C.text, .bool x_C.filter.on, (.slice p_C_10 x_C.filter.scopes.length c_C_10)] 27)) := ((Below.refl _ _).alloc (Nat.le_refl _) _)
    have HB1 := Lib.hid (show (w.alloc (.cells #[sv x_C.tag, .int .i64 x_C.kind, sv x_C.box, sv x_C.dst, .bool x_C.uid, (.slice p_C_5 x_C.sset.length c_C_5), .int .i64 x_C.op, .int .i64 x_C.flags, sv x_C.text, .bool x_C.filter.on, (.slice p_C_10 x_C.filter.scopes.length c_C_10)] 27)).heap[w.heap.size]? = some (.cells #[sv x_C.tag, .int .i64 x_C.kind, sv x_C.box, sv x_C.dst, .bool x_C.uid, (.slice p_C_5 x_C.sset.length c_C_5), .int .i64 x_C.op, .int .i64 x_C.flags, sv x_C.text, .bool x_C.filter.on, (.slice p_C_10 x_C.filter.scopes.length c_C_10)] 27 (0, 0)) from by
      have h := heap_alloc_new w (.cells #[sv x_C.tag, .int .i64 x_C.kind, sv x_C.box, sv x_C.dst, .bool x_C.uid, (.slice p_C_5 x_C.sset.length c_C_5), .int .i64 x_C.op, .int .i64 x_C.flags, sv x_C.text, .bool x_C.filter.on, (.slice p_C_10 x_C.filter.scopes.length c_C_10)] 27)
      exact h)
    have hz0 : w.heap.size + 1 ≤ (w.alloc (.cells #[sv x_C.tag, .int .i64 x_C.kind, sv x_C.box, sv x_C.dst, .bool x_C.uid, (.slice p_C_5 x_C.sset.length c_C_5), .int .i64 x_C.op, .int .i64 x_C.flags, sv x_C.text, .bool x_C.filter.on, (.slice p_C_10 x_C.filter.scopes.length c_C_10)] 27)).heap.size := by simp
    generalize hW0 : (w.alloc (.cells #[sv x_C.tag, .int .i64 x_C.kind, sv x_C.box, sv x_C.dst, .bool x_C.uid, (.slice p_C_5 x_C.sset.length c_C_5), .int .i64 x_C.op, .int .i64 x_C.flags, sv x_C.text, .bool x_C.filter.on, (.slice p_C_10 x_C.filter.scopes.length c_C_10)] 27)) = W0 at *
    go_enter Tryz.func3, Tryz.ntmps3
    have hbz := Lib.hid hb.size
    have y2 := (Lib.cell_of_heap HB1.out 0).trans (show _ = some (sv x_C.tag) from rfl)
    have y3 := (Lib.cell_of_heap HB1.out 1).trans (show _ = some (.int .i64 x_C.kind) from rfl)
    have y4 := (Lib.cell_of_heap HB1.out 2).trans (show _ = some (sv x_C.box) from rfl)
    have y5 := (Lib.cell_of_heap HB1.out 3).trans (show _ = some (sv x_C.dst) from rfl)
    have y6 := (Lib.cell_of_heap HB1.out 4).trans (show _ = some (.bool x_C.uid) from rfl)
    have y7 := (Lib.cell_of_heap HB1.out 5).trans (show _ = some ((.slice p_C_5 x_C.sset.length c_C_5)) from rfl)
    have y8 := (Lib.cell_of_heap HB1.out 6).trans (show _ = some (.int .i64 x_C.op) from rfl)
    have y9 := (Lib.cell_of_heap HB1.out 7).trans (show _ = some (.int .i64 x_C.flags) from rfl)
    have y10 := (Lib.cell_of_heap HB1.out 8).trans (show _ = some (sv x_C.text) from rfl)
    have y11 := (Lib.cell_of_heap HB1.out 9).trans (show _ = some (.bool x_C.filter.on) from rfl)
    have y12 := (Lib.cell_of_heap HB1.out 10).trans (show _ = some ((.slice p_C_10 x_C.filter.scopes.length c_C_10)) from rfl)
    go_wp2_with fail
    refine (C_sz0.out _ _ (by first | rfl | omega) (LfRd.below hb _ _ H_r_C_5.out) (LfRd.below hb _ _ H_r_C_10.out)).mono ?_
    rintro e w13 ⟨rfl, b14⟩
    clear y2 y3 y4 y5 y6 y7 y8 y9 y10 y11 y12
    have F15 := Lib.hid ((b14.block (w.heap.size) (Array.getElem?_eq_some_iff.1 HB1.out).1).trans HB1.out)
    clear HB1
    have hz16 : W0.heap.size ≤ w13.heap.size := b14.size
    replace hb := hb.trans (b14.mono hb.size)
    clear b14
    go_wp2
    go_ret
    exact ⟨rfl, hb⟩
  obtain ⟨L1, hL1⟩ : ∃ L, L + szLs x_C.lf = 1048576 := ⟨1048576 - szLs x_C.lf, by omega⟩
  have bL1 : L1 ≤ 1048576 := by omega
  have nL1 : ¬ (L1 : Int) < 0 := by omega
  have q0 := fun (ll : Int) (W : World) (hl : ll = ((1048576 : Nat) : Int)) (g0 : LfRd W (spnsLf x_C.sset) (.slice p_C_5 x_C.sset.length c_C_5)) (g1 : LfRd W (scpsLf x_C.filter.scopes) (.slice p_C_10 x_C.filter.scopes.length c_C_10)) => szCommand_g x_C (.slice p_C_5 x_C.sset.length c_C_5) (.slice p_C_10 x_C.filter.scopes.length c_C_10) ll 1048576 hl W g0 g1 hb_C (by omega)
  simp only [show szN 1048576 (szLs x_C.lf) = (L1 : Int) from by rw [szN_yes k0]; omega] at q0
  have C_sz0 := Lib.hid q0
  clear q0
  have HL1 := Lib.hid hL1
  have hsz_0 : szLs x_C.lf ≤ 1048576 := by omega
  clear hL1
  have hsm_C : szLs x_C.lf ≤ 1048576 := by omega
  have SZ_C := Lib.hid hsm_C
  have CN_C := Lib.hid (show 1 + cntLf (spnsLf x_C.sset) + cntLf (scpsLf x_C.filter.scopes) ≤ 1000000000 from by have hs := CmdD.sz x_C; have h5 := cntRow_le (spnsLf_fit x_C.sset); have h10 := cntRow_le (scpsLf_fit x_C.filter.scopes); simp only [scpsLf, spnsLf] at hs ⊢; omega)
  have C_to_C := Lib.hid (fun (W : World) (g0 : LfRd W (spnsLf x_C.sset) (.slice p_C_5 x_C.sset.length c_C_5)) (g1 : LfRd W (scpsLf x_C.filter.scopes) (.slice p_C_10 x_C.filter.scopes.length c_C_10)) => toCommand_g x_C (.slice p_C_5 x_C.sset.length c_C_5) (.slice p_C_10 x_C.filter.scopes.length c_C_10) W g0 g1 (by omega))
  have C_spec := Lib.hid (fun (u_C_0 : Value) (u_C_1 : Value) (W : World) (k_C_0 : LfRd W (spnsLf x_C.sset) u_C_0) (k_C_1 : LfRd W (scpsLf x_C.filter.scopes) u_C_1) => SP x_C u_C_0 u_C_1 W trivial k_C_0 k_C_1 hsm_C hb_C)
  have C_impl := Lib.hid (fun (u_C_0 : Value) (u_C_1 : Value) (W : World) (hg : G W) (k_C_0 : LfRd W (spnsLf x_C.sset) u_C_0) (k_C_1 : LfRd W (scpsLf x_C.filter.scopes) u_C_1) => IM x_C u_C_0 u_C_1 W hg k_C_0 k_C_1 hsm_C hb_C)
  have hq_0 := hr_0 hsm_C
  have SZ_r0 := Lib.hid hq_0
  have CN_r0 := Lib.hid (show 1 + cntLf (toksLf (cmdTks x_C)) ≤ 100000000000 from by have h := cntRow_le (toksLf_fit (cmdTks x_C)); simp only [toksLf] at h hq_0 ⊢; omega)
  clear hq_0
  clear SP IM hr_0 hb_C hsm_C
  have hb : Below w.heap.size w (w.alloc (.cells #[sv x_C.tag, .int .i64 x_C.kind, sv x_C.box, sv x_C.dst, .bool x_C.uid, (.slice p_C_5 x_C.sset.length c_C_5), .int .i64 x_C.op, .int .i64 x_C.flags, sv x_C.text, .bool x_C.filter.on, (.slice p_C_10 x_C.filter.scopes.length c_C_10)] 27)) := ((Below.refl _ _).alloc (Nat.le_refl _) _)
  have HB1 := Lib.hid (show (w.alloc (.cells #[sv x_C.tag, .int .i64 x_C.kind, sv x_C.box, sv x_C.dst, .bool x_C.uid, (.slice p_C_5 x_C.sset.length c_C_5), .int .i64 x_C.op, .int .i64 x_C.flags, sv x_C.text, .bool x_C.filter.on, (.slice p_C_10 x_C.filter.scopes.length c_C_10)] 27)).heap[w.heap.size]? = some (.cells #[sv x_C.tag, .int .i64 x_C.kind, sv x_C.box, sv x_C.dst, .bool x_C.uid, (.slice p_C_5 x_C.sset.length c_C_5), .int .i64 x_C.op, .int .i64 x_C.flags, sv x_C.text, .bool x_C.filter.on, (.slice p_C_10 x_C.filter.scopes.length c_C_10)] 27 (0, 0)) from by
    have h := heap_alloc_new w (.cells #[sv x_C.tag, .int .i64 x_C.kind, sv x_C.box, sv x_C.dst, .bool x_C.uid, (.slice p_C_5 x_C.sset.length c_C_5), .int .i64 x_C.op, .int .i64 x_C.flags, sv x_C.text, .bool x_C.filter.on, (.slice p_C_10 x_C.filter.scopes.length c_C_10)] 27)
    exact h)
  have hz0 : w.heap.size + 1 ≤ (w.alloc (.cells #[sv x_C.tag, .int .i64 x_C.kind, sv x_C.box, sv x_C.dst, .bool x_C.uid, (.slice p_C_5 x_C.sset.length c_C_5), .int .i64 x_C.op, .int .i64 x_C.flags, sv x_C.text, .bool x_C.filter.on, (.slice p_C_10 x_C.filter.scopes.length c_C_10)] 27)).heap.size := by simp
  generalize hW0 : (w.alloc (.cells #[sv x_C.tag, .int .i64 x_C.kind, sv x_C.box, sv x_C.dst, .bool x_C.uid, (.slice p_C_5 x_C.sset.length c_C_5), .int .i64 x_C.op, .int .i64 x_C.flags, sv x_C.text, .bool x_C.filter.on, (.slice p_C_10 x_C.filter.scopes.length c_C_10)] 27)) = W0 at *
  go_enter Tryz.func3, Tryz.ntmps3
  have hbz := Lib.hid hb.size
  have y2 := (Lib.cell_of_heap HB1.out 0).trans (show _ = some (sv x_C.tag) from rfl)
  have y3 := (Lib.cell_of_heap HB1.out 1).trans (show _ = some (.int .i64 x_C.kind) from rfl)
  have y4 := (Lib.cell_of_heap HB1.out 2).trans (show _ = some (sv x_C.box) from rfl)
  have y5 := (Lib.cell_of_heap HB1.out 3).trans (show _ = some (sv x_C.dst) from rfl)
  have y6 := (Lib.cell_of_heap HB1.out 4).trans (show _ = some (.bool x_C.uid) from rfl)
  have y7 := (Lib.cell_of_heap HB1.out 5).trans (show _ = some ((.slice p_C_5 x_C.sset.length c_C_5)) from rfl)
  have y8 := (Lib.cell_of_heap HB1.out 6).trans (show _ = some (.int .i64 x_C.op) from rfl)
  have y9 := (Lib.cell_of_heap HB1.out 7).trans (show _ = some (.int .i64 x_C.flags) from rfl)
  have y10 := (Lib.cell_of_heap HB1.out 8).trans (show _ = some (sv x_C.text) from rfl)
  have y11 := (Lib.cell_of_heap HB1.out 9).trans (show _ = some (.bool x_C.filter.on) from rfl)
  have y12 := (Lib.cell_of_heap HB1.out 10).trans (show _ = some ((.slice p_C_10 x_C.filter.scopes.length c_C_10)) from rfl)
  go_wp2_with fail
  refine (C_sz0.out _ _ (by first | rfl | omega) (LfRd.below hb _ _ H_r_C_5.out) (LfRd.below hb _ _ H_r_C_10.out)).mono ?_
  rintro e w13 ⟨rfl, b14⟩
  clear y2 y3 y4 y5 y6 y7 y8 y9 y10 y11 y12
  have F15 := Lib.hid ((b14.block (w.heap.size) (Array.getElem?_eq_some_iff.1 HB1.out).1).trans HB1.out)
  clear HB1
  have hz16 : W0.heap.size ≤ w13.heap.size := b14.size
  replace hb := hb.trans (b14.mono hb.size)
  clear b14
  have y17 := (Lib.cell_of_heap F15.out 0).trans (show _ = some (sv x_C.tag) from rfl)
  have y18 := (Lib.cell_of_heap F15.out 1).trans (show _ = some (.int .i64 x_C.kind) from rfl)
  have y19 := (Lib.cell_of_heap F15.out 2).trans (show _ = some (sv x_C.box) from rfl)
  have y20 := (Lib.cell_of_heap F15.out 3).trans (show _ = some (sv x_C.dst) from rfl)
  have y21 := (Lib.cell_of_heap F15.out 4).trans (show _ = some (.bool x_C.uid) from rfl)
  have y22 := (Lib.cell_of_heap F15.out 5).trans (show _ = some ((.slice p_C_5 x_C.sset.length c_C_5)) from rfl)
  have y23 := (Lib.cell_of_heap F15.out 6).trans (show _ = some (.int .i64 x_C.op) from rfl)
  have y24 := (Lib.cell_of_heap F15.out 7).trans (show _ = some (.int .i64 x_C.flags) from rfl)
  have y25 := (Lib.cell_of_heap F15.out 8).trans (show _ = some (sv x_C.text) from rfl)
  have y26 := (Lib.cell_of_heap F15.out 9).trans (show _ = some (.bool x_C.filter.on) from rfl)
  have y27 := (Lib.cell_of_heap F15.out 10).trans (show _ = some ((.slice p_C_10 x_C.filter.scopes.length c_C_10)) from rfl)
  go_wp2_with fail
  refine (C_to_C.out _ (LfRd.below hb _ _ H_r_C_5.out) (LfRd.below hb _ _ H_r_C_10.out)).mono ?_
  rintro e w28 ⟨z31, f33, z32, f34, rfl, i35, i36, nd37, lo38, b29⟩
  clear y17 y18 y19 y20 y21 y22 y23 y24 y25 y26 y27
  have F39 := Lib.hid ((b29.block (w.heap.size) (Array.getElem?_eq_some_iff.1 F15.out).1).trans F15.out)
  clear F15
  have hz40 : w13.heap.size ≤ w28.heap.size := b29.size
  replace hb := hb.trans (b29.mono hb.size)
  have LO41 := Lib.hid (show ∀ q ∈ f33 ++ f34, w13.heap.size ≤ q from lo38)
  have HI42 := Lib.hid (show ∀ q ∈ f33 ++ f34, q < w28.heap.size from fun q hq => by simp only [List.mem_append] at hq; rcases hq with hq | hq <;> first | exact LfIn.lt _ _ _ i35 q hq | exact LfIn.lt _ _ _ i36 q hq)
  have ND43 := Lib.hid nd37
  have F44 := Lib.hid i35
  have LO45 := Lib.hid (show ∀ q ∈ f33, w13.heap.size ≤ q from fun q hq => LO41.out q (by simp [hq]))
  have HI46 := Lib.hid (show ∀ q ∈ f33, q < w28.heap.size from fun q hq => HI42.out q (by simp [hq]))
  obtain ⟨pz31, cz31, rfl⟩ := LfIn.slice i35
  have F47 := Lib.hid i36
  have LO48 := Lib.hid (show ∀ q ∈ f34, w13.heap.size ≤ q from fun q hq => LO41.out q (by simp [hq]))
  have HI49 := Lib.hid (show ∀ q ∈ f34, q < w28.heap.size from fun q hq => HI42.out q (by simp [hq]))
  obtain ⟨pz32, cz32, rfl⟩ := LfIn.slice i36
  clear i35
  clear i36
  clear nd37 lo38
  clear b29
  go_wp2_with fail
  refine (C_spec.out _ _ _ (LfIn.rd _ _ _ F44.out) (LfIn.rd _ _ _ F47.out)).mono ?_
  rintro e w50 ⟨z52, f53, rfl, i54, nd55, lo56, b51⟩
  have F57 := Lib.hid ((b51.block (w.heap.size) (Array.getElem?_eq_some_iff.1 F39.out).1).trans F39.out)
  clear F39
  have F58 := Lib.hid (LfIn.below F44.out b51)
  clear F44
  have F59 := Lib.hid (LfIn.below F47.out b51)
  clear F47
  have hz60 : w28.heap.size ≤ w50.heap.size := b51.size
  replace hb := hb.trans (b51.mono hb.size)
  have LO61 := Lib.hid (show ∀ q ∈ f53, w28.heap.size ≤ q from lo56)
  have HI62 := Lib.hid (show ∀ q ∈ f53, q < w50.heap.size from fun q hq => LfIn.lt _ _ _ i54 q hq)
  have ND63 := Lib.hid nd55
  have F64 := Lib.hid i54
  obtain ⟨pz52, cz52, rfl⟩ := LfIn.slice i54
  clear i54
  clear nd55 lo56
  clear b51
  have y65 := (Lib.cell_of_heap F57.out 0).trans (show _ = some (sv x_C.tag) from rfl)
  have y66 := (Lib.cell_of_heap F57.out 1).trans (show _ = some (.int .i64 x_C.kind) from rfl)
  have y67 := (Lib.cell_of_heap F57.out 2).trans (show _ = some (sv x_C.box) from rfl)
  have y68 := (Lib.cell_of_heap F57.out 3).trans (show _ = some (sv x_C.dst) from rfl)
  have y69 := (Lib.cell_of_heap F57.out 4).trans (show _ = some (.bool x_C.uid) from rfl)
  have y70 := (Lib.cell_of_heap F57.out 5).trans (show _ = some ((.slice p_C_5 x_C.sset.length c_C_5)) from rfl)
  have y71 := (Lib.cell_of_heap F57.out 6).trans (show _ = some (.int .i64 x_C.op) from rfl)
  have y72 := (Lib.cell_of_heap F57.out 7).trans (show _ = some (.int .i64 x_C.flags) from rfl)
  have y73 := (Lib.cell_of_heap F57.out 8).trans (show _ = some (sv x_C.text) from rfl)
  have y74 := (Lib.cell_of_heap F57.out 9).trans (show _ = some (.bool x_C.filter.on) from rfl)
  have y75 := (Lib.cell_of_heap F57.out 10).trans (show _ = some ((.slice p_C_10 x_C.filter.scopes.length c_C_10)) from rfl)
  go_wp2_with fail
  refine (C_to_C.out _ (LfRd.below hb _ _ H_r_C_5.out) (LfRd.below hb _ _ H_r_C_10.out)).mono ?_
  rintro e w76 ⟨z79, f81, z80, f82, rfl, i83, i84, nd85, lo86, b77⟩
  clear y65 y66 y67 y68 y69 y70 y71 y72 y73 y74 y75
  have F87 := Lib.hid ((b77.block (w.heap.size) (Array.getElem?_eq_some_iff.1 F57.out).1).trans F57.out)
  clear F57
  have F88 := Lib.hid (LfIn.below F58.out b77)
  clear F58
  have F89 := Lib.hid (LfIn.below F59.out b77)
  clear F59
  have F90 := Lib.hid (LfIn.below F64.out b77)
  clear F64
  have hz91 : w50.heap.size ≤ w76.heap.size := b77.size
  replace hb := hb.trans (b77.mono hb.size)
  have LO92 := Lib.hid (show ∀ q ∈ f81 ++ f82, w50.heap.size ≤ q from lo86)
  have HI93 := Lib.hid (show ∀ q ∈ f81 ++ f82, q < w76.heap.size from fun q hq => by simp only [List.mem_append] at hq; rcases hq with hq | hq <;> first | exact LfIn.lt _ _ _ i83 q hq | exact LfIn.lt _ _ _ i84 q hq)
  have ND94 := Lib.hid nd85
  have F95 := Lib.hid i83
  have LO96 := Lib.hid (show ∀ q ∈ f81, w50.heap.size ≤ q from fun q hq => LO92.out q (by simp [hq]))
  have HI97 := Lib.hid (show ∀ q ∈ f81, q < w76.heap.size from fun q hq => HI93.out q (by simp [hq]))
  obtain ⟨pz79, cz79, rfl⟩ := LfIn.slice i83
  have F98 := Lib.hid i84
  have LO99 := Lib.hid (show ∀ q ∈ f82, w50.heap.size ≤ q from fun q hq => LO92.out q (by simp [hq]))
  have HI100 := Lib.hid (show ∀ q ∈ f82, q < w76.heap.size from fun q hq => HI93.out q (by simp [hq]))
  obtain ⟨pz80, cz80, rfl⟩ := LfIn.slice i84
  clear i83
  clear i84
  clear nd85 lo86
  clear b77
  have b102 : Below w76.heap.size w76 (w76.alloc (.cells #[sv x_C.tag, .int .i64 x_C.kind, sv x_C.box, sv x_C.dst, .bool x_C.uid, (.slice pz79 x_C.sset.length cz79), .int .i64 x_C.op, .int .i64 x_C.flags, sv x_C.text, .bool x_C.filter.on, (.slice pz80 x_C.filter.scopes.length cz80)] 36)) := (Below.refl _ _).alloc (Nat.le_refl _) _
  have F103 := Lib.hid (heap_alloc_new w76 (.cells #[sv x_C.tag, .int .i64 x_C.kind, sv x_C.box, sv x_C.dst, .bool x_C.uid, (.slice pz79 x_C.sset.length cz79), .int .i64 x_C.op, .int .i64 x_C.flags, sv x_C.text, .bool x_C.filter.on, (.slice pz80 x_C.filter.scopes.length cz80)] 36))
  have hz104 : w76.heap.size < (w76.alloc (.cells #[sv x_C.tag, .int .i64 x_C.kind, sv x_C.box, sv x_C.dst, .bool x_C.uid, (.slice pz79 x_C.sset.length cz79), .int .i64 x_C.op, .int .i64 x_C.flags, sv x_C.text, .bool x_C.filter.on, (.slice pz80 x_C.filter.scopes.length cz80)] 36)).heap.size := by simp
  generalize hX101 : w76.alloc (.cells #[sv x_C.tag, .int .i64 x_C.kind, sv x_C.box, sv x_C.dst, .bool x_C.uid, (.slice pz79 x_C.sset.length cz79), .int .i64 x_C.op, .int .i64 x_C.flags, sv x_C.text, .bool x_C.filter.on, (.slice pz80 x_C.filter.scopes.length cz80)] 36) = X101 at *
  have F105 := Lib.hid ((b102.block (w.heap.size) (Array.getElem?_eq_some_iff.1 F87.out).1).trans F87.out)
  clear F87
  have F106 := Lib.hid (LfIn.below F88.out b102)
  clear F88
  have F107 := Lib.hid (LfIn.below F89.out b102)
  clear F89
  have F108 := Lib.hid (LfIn.below F90.out b102)
  clear F90
  have F109 := Lib.hid (LfIn.below F95.out b102)
  clear F95
  have F110 := Lib.hid (LfIn.below F98.out b102)
  clear F98
  have hz111 : w76.heap.size ≤ X101.heap.size := b102.size
  replace hb := hb.trans (b102.mono hb.size)
  clear b102
  have y112 := (Lib.cell_of_heap F103.out 0).trans (show _ = some (sv x_C.tag) from rfl)
  have y113 := (Lib.cell_of_heap F103.out 1).trans (show _ = some (.int .i64 x_C.kind) from rfl)
  have y114 := (Lib.cell_of_heap F103.out 2).trans (show _ = some (sv x_C.box) from rfl)
  have y115 := (Lib.cell_of_heap F103.out 3).trans (show _ = some (sv x_C.dst) from rfl)
  have y116 := (Lib.cell_of_heap F103.out 4).trans (show _ = some (.bool x_C.uid) from rfl)
  have y117 := (Lib.cell_of_heap F103.out 5).trans (show _ = some ((.slice pz79 x_C.sset.length cz79)) from rfl)
  have y118 := (Lib.cell_of_heap F103.out 6).trans (show _ = some (.int .i64 x_C.op) from rfl)
  have y119 := (Lib.cell_of_heap F103.out 7).trans (show _ = some (.int .i64 x_C.flags) from rfl)
  have y120 := (Lib.cell_of_heap F103.out 8).trans (show _ = some (sv x_C.text) from rfl)
  have y121 := (Lib.cell_of_heap F103.out 9).trans (show _ = some (.bool x_C.filter.on) from rfl)
  have y122 := (Lib.cell_of_heap F103.out 10).trans (show _ = some ((.slice pz80 x_C.filter.scopes.length cz80)) from rfl)
  go_wp2_with fail
  refine (C_impl.out _ _ _ (hK _ _ hG hb) (LfIn.rd _ _ _ F109.out) (LfIn.rd _ _ _ F110.out)).mono ?_
  rintro e w123 ⟨z125, f126, rfl, i127, nd128, lo129, b124⟩
  clear y112 y113 y114 y115 y116 y117 y118 y119 y120 y121 y122
  have F130 := Lib.hid ((b124.block (w.heap.size) (Array.getElem?_eq_some_iff.1 F105.out).1).trans F105.out)
  clear F105
  have F131 := Lib.hid (LfIn.below F106.out b124)
  clear F106
  have F132 := Lib.hid (LfIn.below F107.out b124)
  clear F107
  have F133 := Lib.hid (LfIn.below F108.out b124)
  clear F108
  have F134 := Lib.hid (LfIn.below F109.out b124)
  clear F109
  have F135 := Lib.hid (LfIn.below F110.out b124)
  clear F110
  have F136 := Lib.hid ((b124.block (w76.heap.size) (Array.getElem?_eq_some_iff.1 F103.out).1).trans F103.out)
  clear F103
  have hz137 : X101.heap.size ≤ w123.heap.size := b124.size
  replace hb := hb.trans (b124.mono hb.size)
  have LO138 := Lib.hid (show ∀ q ∈ f126, X101.heap.size ≤ q from lo129)
  have HI139 := Lib.hid (show ∀ q ∈ f126, q < w123.heap.size from fun q hq => LfIn.lt _ _ _ i127 q hq)
  have ND140 := Lib.hid nd128
  have F141 := Lib.hid i127
  obtain ⟨pz125, cz125, rfl⟩ := LfIn.slice i127
  clear i127
  clear nd128 lo129
  clear b124
  go_wp2_with fail
  refine (eqTokenS_g _ _ (cmdTks x_C) _ (LfIn.rd _ _ _ F141.out) (LfIn.rd _ _ _ F133.out) (by have := SZ_r0.out; omega)).mono ?_
  rintro e w142 ⟨rfl, b143⟩
  have F144 := Lib.hid ((b143.block (w.heap.size) (Array.getElem?_eq_some_iff.1 F130.out).1).trans F130.out)
  clear F130
  have F145 := Lib.hid (LfIn.below F131.out b143)
  clear F131
  have F146 := Lib.hid (LfIn.below F132.out b143)
  clear F132
  have F147 := Lib.hid (LfIn.below F133.out b143)
  clear F133
  have F148 := Lib.hid (LfIn.below F134.out b143)
  clear F134
  have F149 := Lib.hid (LfIn.below F135.out b143)
  clear F135
  have F150 := Lib.hid ((b143.block (w76.heap.size) (Array.getElem?_eq_some_iff.1 F136.out).1).trans F136.out)
  clear F136
  have F151 := Lib.hid (LfIn.below F141.out b143)
  clear F141
  have hz152 : w123.heap.size ≤ w142.heap.size := b143.size
  replace hb := hb.trans (b143.mono hb.size)
  clear b143
  go_wp2
  refine ord_start [(0, true), (1, true), (2, false), (3, false), (4, true)] (fun W => W.heap[w76.heap.size]? = some (.cells #[sv x_C.tag, .int .i64 x_C.kind, sv x_C.box, sv x_C.dst, .bool x_C.uid, (.slice pz79 x_C.sset.length cz79), .int .i64 x_C.op, .int .i64 x_C.flags, sv x_C.text, .bool x_C.filter.on, (.slice pz80 x_C.filter.scopes.length cz80)] 36 (0, 0)) ∧ W.heap[w.heap.size]? = some (.cells #[sv x_C.tag, .int .i64 x_C.kind, sv x_C.box, sv x_C.dst, .bool x_C.uid, (.slice p_C_5 x_C.sset.length c_C_5), .int .i64 x_C.op, .int .i64 x_C.flags, sv x_C.text, .bool x_C.filter.on, (.slice p_C_10 x_C.filter.scopes.length c_C_10)] 27 (0, 0))) (by kernel_rfl) (by kernel_rfl) rfl (by kernel_rfl) ?_
  intro ops' hops
  clear hops
  simp only [List.map_cons, List.map_nil, pickOp_zero, pickOp_succ]
  have b154 : Below w142.heap.size w142 w142.drew := (Below.refl _ _).drew
  have hz155 : w142.drew.heap.size = w142.heap.size := rfl
  generalize w142.drew = D153 at *
  have F156 := Lib.hid ((b154.block (w.heap.size) (Array.getElem?_eq_some_iff.1 F144.out).1).trans F144.out)
  clear F144
  have F157 := Lib.hid (LfIn.below F145.out b154)
  clear F145
  have F158 := Lib.hid (LfIn.below F146.out b154)
  clear F146
  have F159 := Lib.hid (LfIn.below F147.out b154)
  clear F147
  have F160 := Lib.hid (LfIn.below F148.out b154)
  clear F148
  have F161 := Lib.hid (LfIn.below F149.out b154)
  clear F149
  have F162 := Lib.hid ((b154.block (w76.heap.size) (Array.getElem?_eq_some_iff.1 F150.out).1).trans F150.out)
  clear F150
  have F163 := Lib.hid (LfIn.below F151.out b154)
  clear F151
  have hz164 : w142.heap.size ≤ D153.heap.size := b154.size
  replace hb := hb.trans (b154.mono hb.size)
  clear b154
  refine ord_flo (.agg #[sv x_C.tag, .int .i64 x_C.kind, sv x_C.box, sv x_C.dst, .bool x_C.uid, (.slice pz79 x_C.sset.length cz79), .int .i64 x_C.op, .int .i64 x_C.flags, sv x_C.text, .bool x_C.filter.on, (.slice pz80 x_C.filter.scopes.length cz80)]) (fun _ _ _ h => h) rfl ?_ ⟨F162.out, F156.out⟩ ?_
  · intro W hS
    have y0 := (Lib.cell_of_heap hS.1 0).trans (show _ = some (sv x_C.tag) from rfl)
    have y1 := (Lib.cell_of_heap hS.1 1).trans (show _ = some (.int .i64 x_C.kind) from rfl)
    have y2 := (Lib.cell_of_heap hS.1 2).trans (show _ = some (sv x_C.box) from rfl)
    have y3 := (Lib.cell_of_heap hS.1 3).trans (show _ = some (sv x_C.dst) from rfl)
    have y4 := (Lib.cell_of_heap hS.1 4).trans (show _ = some (.bool x_C.uid) from rfl)
    have y5 := (Lib.cell_of_heap hS.1 5).trans (show _ = some ((.slice pz79 x_C.sset.length cz79)) from rfl)
    have y6 := (Lib.cell_of_heap hS.1 6).trans (show _ = some (.int .i64 x_C.op) from rfl)
    have y7 := (Lib.cell_of_heap hS.1 7).trans (show _ = some (.int .i64 x_C.flags) from rfl)
    have y8 := (Lib.cell_of_heap hS.1 8).trans (show _ = some (sv x_C.text) from rfl)
    have y9 := (Lib.cell_of_heap hS.1 9).trans (show _ = some (.bool x_C.filter.on) from rfl)
    have y10 := (Lib.cell_of_heap hS.1 10).trans (show _ = some ((.slice pz80 x_C.filter.scopes.length cz80)) from rfl)
    clear hS
    go_simp
  refine ord_flo (.agg #[sv x_C.tag, .int .i64 x_C.kind, sv x_C.box, sv x_C.dst, .bool x_C.uid, (.slice p_C_5 x_C.sset.length c_C_5), .int .i64 x_C.op, .int .i64 x_C.flags, sv x_C.text, .bool x_C.filter.on, (.slice p_C_10 x_C.filter.scopes.length c_C_10)]) (fun _ _ _ h => h) rfl ?_ ⟨F162.out, F156.out⟩ ?_
  · intro W hS
    have y0 := (Lib.cell_of_heap hS.2 0).trans (show _ = some (sv x_C.tag) from rfl)
    have y1 := (Lib.cell_of_heap hS.2 1).trans (show _ = some (.int .i64 x_C.kind) from rfl)
    have y2 := (Lib.cell_of_heap hS.2 2).trans (show _ = some (sv x_C.box) from rfl)
    have y3 := (Lib.cell_of_heap hS.2 3).trans (show _ = some (sv x_C.dst) from rfl)
    have y4 := (Lib.cell_of_heap hS.2 4).trans (show _ = some (.bool x_C.uid) from rfl)
    have y5 := (Lib.cell_of_heap hS.2 5).trans (show _ = some ((.slice p_C_5 x_C.sset.length c_C_5)) from rfl)
    have y6 := (Lib.cell_of_heap hS.2 6).trans (show _ = some (.int .i64 x_C.op) from rfl)
    have y7 := (Lib.cell_of_heap hS.2 7).trans (show _ = some (.int .i64 x_C.flags) from rfl)
    have y8 := (Lib.cell_of_heap hS.2 8).trans (show _ = some (sv x_C.text) from rfl)
    have y9 := (Lib.cell_of_heap hS.2 9).trans (show _ = some (.bool x_C.filter.on) from rfl)
    have y10 := (Lib.cell_of_heap hS.2 10).trans (show _ = some ((.slice p_C_10 x_C.filter.scopes.length c_C_10)) from rfl)
    clear hS
    go_simp
  refine ord_ev rfl ?_
  go_simp
  refine (C_to_C.out _ (LfRd.below hb _ _ H_r_C_5.out) (LfRd.below hb _ _ H_r_C_10.out)).mono ?_
  rintro e w165 ⟨z168, f170, z169, f171, rfl, i172, i173, nd174, lo175, b166⟩
  have F176 := Lib.hid ((b166.block (w.heap.size) (Array.getElem?_eq_some_iff.1 F156.out).1).trans F156.out)
  clear F156
  have F177 := Lib.hid (LfIn.below F157.out b166)
  clear F157
  have F178 := Lib.hid (LfIn.below F158.out b166)
  clear F158
  have F179 := Lib.hid (LfIn.below F159.out b166)
  clear F159
  have F180 := Lib.hid (LfIn.below F160.out b166)
  clear F160
  have F181 := Lib.hid (LfIn.below F161.out b166)
  clear F161
  have F182 := Lib.hid ((b166.block (w76.heap.size) (Array.getElem?_eq_some_iff.1 F162.out).1).trans F162.out)
  clear F162
  have F183 := Lib.hid (LfIn.below F163.out b166)
  clear F163
  have hz184 : D153.heap.size ≤ w165.heap.size := b166.size
  replace hb := hb.trans (b166.mono hb.size)
  have LO185 := Lib.hid (show ∀ q ∈ f170 ++ f171, D153.heap.size ≤ q from lo175)
  have HI186 := Lib.hid (show ∀ q ∈ f170 ++ f171, q < w165.heap.size from fun q hq => by simp only [List.mem_append] at hq; rcases hq with hq | hq <;> first | exact LfIn.lt _ _ _ i172 q hq | exact LfIn.lt _ _ _ i173 q hq)
  have ND187 := Lib.hid nd174
  have F188 := Lib.hid i172
  have LO189 := Lib.hid (show ∀ q ∈ f170, D153.heap.size ≤ q from fun q hq => LO185.out q (by simp [hq]))
  have HI190 := Lib.hid (show ∀ q ∈ f170, q < w165.heap.size from fun q hq => HI186.out q (by simp [hq]))
  obtain ⟨pz168, cz168, rfl⟩ := LfIn.slice i172
  have F191 := Lib.hid i173
  have LO192 := Lib.hid (show ∀ q ∈ f171, D153.heap.size ≤ q from fun q hq => LO185.out q (by simp [hq]))
  have HI193 := Lib.hid (show ∀ q ∈ f171, q < w165.heap.size from fun q hq => HI186.out q (by simp [hq]))
  obtain ⟨pz169, cz169, rfl⟩ := LfIn.slice i173
  clear i172
  clear i173
  clear nd174 lo175
  clear b166
  refine ⟨⟨F182.out, F176.out⟩, ?_⟩
  refine ord_ev rfl ?_
  go_simp
  refine (eqCommand_g x_C _ _ _ _ _ (LfIn.rd _ _ _ F180.out) (LfIn.rd _ _ _ F188.out) (LfIn.rd _ _ _ F181.out) (LfIn.rd _ _ _ F191.out) (by have := SZ_C.out; omega)).mono ?_
  rintro e w194 ⟨rfl, b195⟩
  have F196 := Lib.hid ((b195.block (w.heap.size) (Array.getElem?_eq_some_iff.1 F176.out).1).trans F176.out)
  clear F176
  have F197 := Lib.hid (LfIn.below F177.out b195)
  clear F177
  have F198 := Lib.hid (LfIn.below F178.out b195)
  clear F178
  have F199 := Lib.hid (LfIn.below F179.out b195)
  clear F179
  have F200 := Lib.hid (LfIn.below F180.out b195)
  clear F180
  have F201 := Lib.hid (LfIn.below F181.out b195)
  clear F181
  have F202 := Lib.hid ((b195.block (w76.heap.size) (Array.getElem?_eq_some_iff.1 F182.out).1).trans F182.out)
  clear F182
  have F203 := Lib.hid (LfIn.below F183.out b195)
  clear F183
  have F204 := Lib.hid (LfIn.below F188.out b195)
  clear F188
  have F205 := Lib.hid (LfIn.below F191.out b195)
  clear F191
  have hz206 : w165.heap.size ≤ w194.heap.size := b195.size
  replace hb := hb.trans (b195.mono hb.size)
  clear b195
  refine ⟨⟨F202.out, F196.out⟩, ?_⟩
  iterate 1 (refine ord_flo ?_ (fun _ _ _ h => h) rfl ?_ ⟨F202.out, F196.out⟩ ?_; rotate_left; focus (intro W hS; obtain ⟨s0, s1⟩ := hS; go_simp; rfl))
  refine ord_done ?_
  go_simp
  have y207 := (Lib.cell_of_heap F202.out 0).trans (show _ = some (sv x_C.tag) from rfl)
  have y208 := (Lib.cell_of_heap F202.out 1).trans (show _ = some (.int .i64 x_C.kind) from rfl)
  have y209 := (Lib.cell_of_heap F202.out 2).trans (show _ = some (sv x_C.box) from rfl)
  have y210 := (Lib.cell_of_heap F202.out 3).trans (show _ = some (sv x_C.dst) from rfl)
  have y211 := (Lib.cell_of_heap F202.out 4).trans (show _ = some (.bool x_C.uid) from rfl)
  have y212 := (Lib.cell_of_heap F202.out 5).trans (show _ = some ((.slice pz79 x_C.sset.length cz79)) from rfl)
  have y213 := (Lib.cell_of_heap F202.out 6).trans (show _ = some (.int .i64 x_C.op) from rfl)
  have y214 := (Lib.cell_of_heap F202.out 7).trans (show _ = some (.int .i64 x_C.flags) from rfl)
  have y215 := (Lib.cell_of_heap F202.out 8).trans (show _ = some (sv x_C.text) from rfl)
  have y216 := (Lib.cell_of_heap F202.out 9).trans (show _ = some (.bool x_C.filter.on) from rfl)
  have y217 := (Lib.cell_of_heap F202.out 10).trans (show _ = some ((.slice pz80 x_C.filter.scopes.length cz80)) from rfl)
  go_wp2_with fail
  refine (markCommand_g x_C _ _ _ 1 rfl f81 f82 _ F200.out F201.out ND94.out (by have := CN_C.out; omega) (by have := SZ_C.out; omega)).mono ?_
  rintro e w218 ⟨rfl, i221, i222, g220⟩
  clear y207 y208 y209 y210 y211 y212 y213 y214 y215 y216 y217
  clear F200
  have F223 := Lib.hid (LfIn.rd _ _ _ i221)
  clear F201
  have F224 := Lib.hid (LfIn.rd _ _ _ i222)
  have F225 := Lib.hid ((g220.block (w.heap.size) (Array.getElem?_eq_some_iff.1 F196.out).1 (fun hm => by have h3 := LO92.out _ hm; have h4 := HI93.out _ hm; omega)).trans F196.out)
  clear F196
  have F226 := Lib.hid (LfIn.away F197.out g220 (fun q hq hm => by have h1 := LO45.out q hq; have h2 := HI46.out q hq; have h3 := LO92.out q hm; have h4 := HI93.out q hm; omega))
  clear F197
  have F227 := Lib.hid (LfIn.away F198.out g220 (fun q hq hm => by have h1 := LO48.out q hq; have h2 := HI49.out q hq; have h3 := LO92.out q hm; have h4 := HI93.out q hm; omega))
  clear F198
  have F228 := Lib.hid (LfIn.away F199.out g220 (fun q hq hm => by have h1 := LO61.out q hq; have h2 := HI62.out q hq; have h3 := LO92.out q hm; have h4 := HI93.out q hm; omega))
  clear F199
  have F229 := Lib.hid ((g220.block (w76.heap.size) (Array.getElem?_eq_some_iff.1 F202.out).1 (fun hm => by have h3 := LO92.out _ hm; have h4 := HI93.out _ hm; omega)).trans F202.out)
  clear F202
  have F230 := Lib.hid (LfIn.away F203.out g220 (fun q hq hm => by have h1 := LO138.out q hq; have h2 := HI139.out q hq; have h3 := LO92.out q hm; have h4 := HI93.out q hm; omega))
  clear F203
  have F231 := Lib.hid (LfIn.away F204.out g220 (fun q hq hm => by have h1 := LO189.out q hq; have h2 := HI190.out q hq; have h3 := LO92.out q hm; have h4 := HI93.out q hm; omega))
  clear F204
  have F232 := Lib.hid (LfIn.away F205.out g220 (fun q hq hm => by have h1 := LO192.out q hq; have h2 := HI193.out q hq; have h3 := LO92.out q hm; have h4 := HI93.out q hm; omega))
  clear F205
  have hz233 : w194.heap.size ≤ w218.heap.size := g220.size
  replace hb := GrownIn.below hb g220 hb.size (fun q hq => by have h3 := LO92.out q hq; have h9 := hbz.out; omega)
  clear F223 F224
  clear g220 i221 i222
  obtain ⟨K234, hK234⟩ : ∃ K : Nat, K = 1 + cntLf (spnsLf x_C.sset) + cntLf (scpsLf x_C.filter.scopes) := ⟨_, rfl⟩
  rw [← hK234]
  have hnK234 : ¬ (K234 : Int) < 0 := by omega
  have hdK234 : decide ((K234 : Int) < 0) = false := decide_eq_false hnK234
  have HK234 := Lib.hid hK234
  clear hK234
  go_wp2_with fail
  refine (eqTokenS_g _ _ (cmdTks x_C) _ (LfIn.rd _ _ _ F230.out) (LfIn.rd _ _ _ F228.out) (by have := SZ_r0.out; omega)).mono ?_
  rintro e w235 ⟨rfl, b236⟩
  have F237 := Lib.hid ((b236.block (w.heap.size) (Array.getElem?_eq_some_iff.1 F225.out).1).trans F225.out)
  clear F225
  have F238 := Lib.hid (LfIn.below F226.out b236)
  clear F226
  have F239 := Lib.hid (LfIn.below F227.out b236)
  clear F227
  have F240 := Lib.hid (LfIn.below F228.out b236)
  clear F228
  have F241 := Lib.hid ((b236.block (w76.heap.size) (Array.getElem?_eq_some_iff.1 F229.out).1).trans F229.out)
  clear F229
  have F242 := Lib.hid (LfIn.below F230.out b236)
  clear F230
  have F243 := Lib.hid (LfIn.below F231.out b236)
  clear F231
  have F244 := Lib.hid (LfIn.below F232.out b236)
  clear F232
  have hz245 : w218.heap.size ≤ w235.heap.size := b236.size
  replace hb := hb.trans (b236.mono hb.size)
  clear b236
  go_wp2_with fail
  refine (markTokenS_g _ (cmdTks x_C) _ 1 rfl f126 _ F242.out ND140.out (by have := CN_r0.out; omega) (by have := SZ_r0.out; omega)).mono ?_
  rintro e w246 ⟨rfl, i249, g248⟩
  clear F242
  have F250 := Lib.hid (LfIn.rd _ _ _ i249)
  have F251 := Lib.hid ((g248.block (w.heap.size) (Array.getElem?_eq_some_iff.1 F237.out).1 (fun hm => by have h3 := LO138.out _ hm; have h4 := HI139.out _ hm; omega)).trans F237.out)
  clear F237
  have F252 := Lib.hid (LfIn.away F238.out g248 (fun q hq hm => by have h1 := LO45.out q hq; have h2 := HI46.out q hq; have h3 := LO138.out q hm; have h4 := HI139.out q hm; omega))
  clear F238
  have F253 := Lib.hid (LfIn.away F239.out g248 (fun q hq hm => by have h1 := LO48.out q hq; have h2 := HI49.out q hq; have h3 := LO138.out q hm; have h4 := HI139.out q hm; omega))
  clear F239
  have F254 := Lib.hid (LfIn.away F240.out g248 (fun q hq hm => by have h1 := LO61.out q hq; have h2 := HI62.out q hq; have h3 := LO138.out q hm; have h4 := HI139.out q hm; omega))
  clear F240
  have F255 := Lib.hid ((g248.block (w76.heap.size) (Array.getElem?_eq_some_iff.1 F241.out).1 (fun hm => by have h3 := LO138.out _ hm; have h4 := HI139.out _ hm; omega)).trans F241.out)
  clear F241
  have F256 := Lib.hid (LfIn.away F243.out g248 (fun q hq hm => by have h1 := LO189.out q hq; have h2 := HI190.out q hq; have h3 := LO138.out q hm; have h4 := HI139.out q hm; omega))
  clear F243
  have F257 := Lib.hid (LfIn.away F244.out g248 (fun q hq hm => by have h1 := LO192.out q hq; have h2 := HI193.out q hq; have h3 := LO138.out q hm; have h4 := HI139.out q hm; omega))
  clear F244
  have hz258 : w235.heap.size ≤ w246.heap.size := g248.size
  replace hb := GrownIn.below hb g248 hb.size (fun q hq => by have h3 := LO138.out q hq; have h9 := hbz.out; omega)
  clear g248 i249
  obtain ⟨K259, hK259⟩ : ∃ K : Nat, K = 1 + cntLf (toksLf (cmdTks x_C)) := ⟨_, rfl⟩
  rw [← hK259]
  have hnK259 : ¬ (K259 : Int) < 0 := by omega
  have hdK259 : decide ((K259 : Int) < 0) = false := decide_eq_false hnK259
  have HK259 := Lib.hid hK259
  clear hK259
  go_wp2_with fail
  refine (heldTokenS_g _ (cmdTks x_C) _ 1 rfl _ F250.out (by have := CN_r0.out; omega) (by have := SZ_r0.out; omega)).mono ?_
  rintro e w260 ⟨rfl, b261⟩
  rw [← HK259.out]
  have F262 := Lib.hid ((b261.block (w.heap.size) (Array.getElem?_eq_some_iff.1 F251.out).1).trans F251.out)
  clear F251
  have F263 := Lib.hid (LfIn.below F252.out b261)
  clear F252
  have F264 := Lib.hid (LfIn.below F253.out b261)
  clear F253
  have F265 := Lib.hid (LfIn.below F254.out b261)
  clear F254
  have F266 := Lib.hid ((b261.block (w76.heap.size) (Array.getElem?_eq_some_iff.1 F255.out).1).trans F255.out)
  clear F255
  have F267 := Lib.hid (LfIn.below F256.out b261)
  clear F256
  have F268 := Lib.hid (LfIn.below F257.out b261)
  clear F257
  have F269 := Lib.hid (LfRd.below b261 _ _ F250.out)
  clear F250
  have hz270 : w246.heap.size ≤ w260.heap.size := b261.size
  replace hb := hb.trans (b261.mono hb.size)
  clear b261
  have y271 := (Lib.cell_of_heap F262.out 0).trans (show _ = some (sv x_C.tag) from rfl)
  have y272 := (Lib.cell_of_heap F262.out 1).trans (show _ = some (.int .i64 x_C.kind) from rfl)
  have y273 := (Lib.cell_of_heap F262.out 2).trans (show _ = some (sv x_C.box) from rfl)
  have y274 := (Lib.cell_of_heap F262.out 3).trans (show _ = some (sv x_C.dst) from rfl)
  have y275 := (Lib.cell_of_heap F262.out 4).trans (show _ = some (.bool x_C.uid) from rfl)
  have y276 := (Lib.cell_of_heap F262.out 5).trans (show _ = some ((.slice p_C_5 x_C.sset.length c_C_5)) from rfl)
  have y277 := (Lib.cell_of_heap F262.out 6).trans (show _ = some (.int .i64 x_C.op) from rfl)
  have y278 := (Lib.cell_of_heap F262.out 7).trans (show _ = some (.int .i64 x_C.flags) from rfl)
  have y279 := (Lib.cell_of_heap F262.out 8).trans (show _ = some (sv x_C.text) from rfl)
  have y280 := (Lib.cell_of_heap F262.out 9).trans (show _ = some (.bool x_C.filter.on) from rfl)
  have y281 := (Lib.cell_of_heap F262.out 10).trans (show _ = some ((.slice p_C_10 x_C.filter.scopes.length c_C_10)) from rfl)
  go_wp2_with fail
  refine (C_to_C.out _ (LfRd.below hb _ _ H_r_C_5.out) (LfRd.below hb _ _ H_r_C_10.out)).mono ?_
  rintro e w282 ⟨z285, f287, z286, f288, rfl, i289, i290, nd291, lo292, b283⟩
  clear y271 y272 y273 y274 y275 y276 y277 y278 y279 y280 y281
  have F293 := Lib.hid ((b283.block (w.heap.size) (Array.getElem?_eq_some_iff.1 F262.out).1).trans F262.out)
  clear F262
  have F294 := Lib.hid (LfIn.below F263.out b283)
  clear F263
  have F295 := Lib.hid (LfIn.below F264.out b283)
  clear F264
  have F296 := Lib.hid (LfIn.below F265.out b283)
  clear F265
  have F297 := Lib.hid ((b283.block (w76.heap.size) (Array.getElem?_eq_some_iff.1 F266.out).1).trans F266.out)
  clear F266
  have F298 := Lib.hid (LfIn.below F267.out b283)
  clear F267
  have F299 := Lib.hid (LfIn.below F268.out b283)
  clear F268
  have F300 := Lib.hid (LfRd.below b283 _ _ F269.out)
  clear F269
  have hz301 : w260.heap.size ≤ w282.heap.size := b283.size
  replace hb := hb.trans (b283.mono hb.size)
  have LO302 := Lib.hid (show ∀ q ∈ f287 ++ f288, w260.heap.size ≤ q from lo292)
  have HI303 := Lib.hid (show ∀ q ∈ f287 ++ f288, q < w282.heap.size from fun q hq => by simp only [List.mem_append] at hq; rcases hq with hq | hq <;> first | exact LfIn.lt _ _ _ i289 q hq | exact LfIn.lt _ _ _ i290 q hq)
  have ND304 := Lib.hid nd291
  have F305 := Lib.hid i289
  have LO306 := Lib.hid (show ∀ q ∈ f287, w260.heap.size ≤ q from fun q hq => LO302.out q (by simp [hq]))
  have HI307 := Lib.hid (show ∀ q ∈ f287, q < w282.heap.size from fun q hq => HI303.out q (by simp [hq]))
  obtain ⟨pz285, cz285, rfl⟩ := LfIn.slice i289
  have F308 := Lib.hid i290
  have LO309 := Lib.hid (show ∀ q ∈ f288, w260.heap.size ≤ q from fun q hq => LO302.out q (by simp [hq]))
  have HI310 := Lib.hid (show ∀ q ∈ f288, q < w282.heap.size from fun q hq => HI303.out q (by simp [hq]))
  obtain ⟨pz286, cz286, rfl⟩ := LfIn.slice i290
  clear i289
  clear i290
  clear nd291 lo292
  clear b283
  go_wp2_with fail
  refine (C_impl.out _ _ _ (hK _ _ hG hb) (LfIn.rd _ _ _ F305.out) (LfIn.rd _ _ _ F308.out)).mono ?_
  rintro e w311 ⟨z313, f314, rfl, i315, nd316, lo317, b312⟩
  have F318 := Lib.hid ((b312.block (w.heap.size) (Array.getElem?_eq_some_iff.1 F293.out).1).trans F293.out)
  clear F293
  have F319 := Lib.hid (LfIn.below F294.out b312)
  clear F294
  have F320 := Lib.hid (LfIn.below F295.out b312)
  clear F295
  have F321 := Lib.hid (LfIn.below F296.out b312)
  clear F296
  have F322 := Lib.hid ((b312.block (w76.heap.size) (Array.getElem?_eq_some_iff.1 F297.out).1).trans F297.out)
  clear F297
  have F323 := Lib.hid (LfIn.below F298.out b312)
  clear F298
  have F324 := Lib.hid (LfIn.below F299.out b312)
  clear F299
  have F325 := Lib.hid (LfRd.below b312 _ _ F300.out)
  clear F300
  have F326 := Lib.hid (LfIn.below F305.out b312)
  clear F305
  have F327 := Lib.hid (LfIn.below F308.out b312)
  clear F308
  have hz328 : w282.heap.size ≤ w311.heap.size := b312.size
  replace hb := hb.trans (b312.mono hb.size)
  have LO329 := Lib.hid (show ∀ q ∈ f314, w282.heap.size ≤ q from lo317)
  have HI330 := Lib.hid (show ∀ q ∈ f314, q < w311.heap.size from fun q hq => LfIn.lt _ _ _ i315 q hq)
  have ND331 := Lib.hid nd316
  have F332 := Lib.hid i315
  obtain ⟨pz313, cz313, rfl⟩ := LfIn.slice i315
  clear i315
  clear nd316 lo317
  clear b312
  go_wp2_with fail
  refine (eqTokenS_g _ _ (cmdTks x_C) _ (LfIn.rd _ _ _ F332.out) (LfIn.rd _ _ _ F321.out) (by have := SZ_r0.out; omega)).mono ?_
  rintro e w333 ⟨rfl, b334⟩
  have F335 := Lib.hid ((b334.block (w.heap.size) (Array.getElem?_eq_some_iff.1 F318.out).1).trans F318.out)
  clear F318
  have F336 := Lib.hid (LfIn.below F319.out b334)
  clear F319
  have F337 := Lib.hid (LfIn.below F320.out b334)
  clear F320
  have F338 := Lib.hid (LfIn.below F321.out b334)
  clear F321
  have F339 := Lib.hid ((b334.block (w76.heap.size) (Array.getElem?_eq_some_iff.1 F322.out).1).trans F322.out)
  clear F322
  have F340 := Lib.hid (LfIn.below F323.out b334)
  clear F323
  have F341 := Lib.hid (LfIn.below F324.out b334)
  clear F324
  have F342 := Lib.hid (LfRd.below b334 _ _ F325.out)
  clear F325
  have F343 := Lib.hid (LfIn.below F326.out b334)
  clear F326
  have F344 := Lib.hid (LfIn.below F327.out b334)
  clear F327
  have F345 := Lib.hid (LfIn.below F332.out b334)
  clear F332
  have hz346 : w311.heap.size ≤ w333.heap.size := b334.size
  replace hb := hb.trans (b334.mono hb.size)
  clear b334
  go_wp2_with fail
  refine (heldTokenS_g _ (cmdTks x_C) _ 1 rfl _ F342.out (by have := CN_r0.out; omega) (by have := SZ_r0.out; omega)).mono ?_
  rintro e w347 ⟨rfl, b348⟩
  rw [← HK259.out]
  have F349 := Lib.hid ((b348.block (w.heap.size) (Array.getElem?_eq_some_iff.1 F335.out).1).trans F335.out)
  clear F335
  have F350 := Lib.hid (LfIn.below F336.out b348)
  clear F336
  have F351 := Lib.hid (LfIn.below F337.out b348)
  clear F337
  have F352 := Lib.hid (LfIn.below F338.out b348)
  clear F338
  have F353 := Lib.hid ((b348.block (w76.heap.size) (Array.getElem?_eq_some_iff.1 F339.out).1).trans F339.out)
  clear F339
  have F354 := Lib.hid (LfIn.below F340.out b348)
  clear F340
  have F355 := Lib.hid (LfIn.below F341.out b348)
  clear F341
  have F356 := Lib.hid (LfRd.below b348 _ _ F342.out)
  clear F342
  have F357 := Lib.hid (LfIn.below F343.out b348)
  clear F343
  have F358 := Lib.hid (LfIn.below F344.out b348)
  clear F344
  have F359 := Lib.hid (LfIn.below F345.out b348)
  clear F345
  have hz360 : w333.heap.size ≤ w347.heap.size := b348.size
  replace hb := hb.trans (b348.mono hb.size)
  clear b348
  go_wp2
  go_ret
  exact ⟨rfl, hb⟩

end Go.Proofs.YtidjebepgpbcnaaGreatDoor
