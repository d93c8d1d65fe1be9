/-
  Uw: CmdTa CmdTb (what the claim needs of them).
-/
import Derived.Handy
import Derived.Laws.IdiomRangeMap
import Derived.Maps.RangeRun
import Derived.WalkKit
import Derived.Maps.RangeWalk
import Derived.Deep.DeepCutAuto
import Derived.Deep.Cut
import Derived.Deep.CutRange
import Derived.Lib.Fields
import Derived.Lib.OwnKind
import Derived.Deep.LoopGhost
import Derived.Test.YtidjebepgpbcnaaGreatDoorRows
import Derived.WalkSpells
import Derived.WalkLawsBesides
import Derived.Laws.IdiomStrings
import Derived.Lib.Hide
import Derived.Deep.AppendLies
import Derived.OrdersHeld
import Derived.Lib.ItoaNum
import Derived.Lib.ItoaMem
import Derived.Lib.AppendStr
import Derived.Lib.ItoaLen
import Derived.Lib.Strings
import Derived.Lib.Bytealg
import Derived.Lib.OthersKept
import Derived.Laws.RangeAny
import Derived.Laws.BitsAllLaws
import Derived.Laws.BitsLemmas
import Derived.IntWalk
import Derived.Lib.Join
import Derived.Deep.Strs
import Derived.ProofKit
import Derived.Lib.SmallJoins
import Derived.Deep.SlicePairs
import Derived.Laws.CopyOwn
import Derived.Test.YtidjebepgpbcnaaGreatDoorProg
import Derived.Lib.LaidTab
import Derived.Lib.AppendIntMem
import Derived.OpenShut
import Derived.WalkSmall
import Derived.ChangeKeysEq
import Derived.Test.YtidjebepgpbcnaaGreatDoorUb
import Derived.Test.YtidjebepgpbcnaaGreatDoorUc
import Derived.Test.YtidjebepgpbcnaaGreatDoorUe
import Derived.Test.YtidjebepgpbcnaaGreatDoorUf
import Derived.Test.YtidjebepgpbcnaaGreatDoorUg
import Derived.Test.YtidjebepgpbcnaaGreatDoorUi
import Derived.Test.YtidjebepgpbcnaaGreatDoorUj
import Derived.Test.YtidjebepgpbcnaaGreatDoorUr
import Derived.Test.YtidjebepgpbcnaaGreatDoorUs
import Derived.Test.YtidjebepgpbcnaaGreatDoorUt
import Derived.Test.YtidjebepgpbcnaaGreatDoorUu

namespace Go.Proofs.YtidjebepgpbcnaaGreatDoor
open Go.RowKit

set_option maxRecDepth 20000 in
set_option maxHeartbeats 12800000 in
theorem spk_n (x : CmdD) (a5 a10 : Value) (w : World) (hok : cmdB x = true) (hk : ¬ (x.kind = 14 ∨ x.kind = 8 ∨ x.kind = 11 ∨ x.kind = 6 ∨ x.kind = 10 ∨ x.kind = 7 ∨ x.kind = 2 ∨ x.kind = 12 ∨ x.kind = 13)) (ha : LfRd w (spnsLf x.sset) a5) (ha2 : LfRd w (scpsLf x.filter.scopes) a10) (hs : szLs x.lf ≤ 1048576) :
    Calls Tryz.prog 6 #[cmdv x a5 a10] w (TksPost (cmdTks x) w) := by
  have hO := CmdOk.of hok
  obtain ⟨z1, z2, z3, z5, z8, z9, z10⟩ := CmdD.small hs
  have cOK := fun W (h : Below w.heap.size w W) => specCommandOk_at x a5 a10 W (LfRd.below h _ _ ha) (LfRd.below h _ _ ha2) hs
  simp only [hok] at cOK
  obtain ⟨p, c, rfl, _⟩ := Spn.at ha
  obtain ⟨q, d, rfl, _⟩ := scps_at ha2
  have hbx : boxedB x.kind = false := by unfold boxedB; simp only [Bool.or_eq_false_iff, beq_eq_false_iff_ne]; omega
  have hst : setsB x.kind = false := by unfold setsB; simp only [Bool.or_eq_false_iff, beq_eq_false_iff_ne]; omega
  have hnt := tag_ne hO.tag
  have hnk := kdW_ne hO.kind
  have hb0 := hO.noBox hbx
  have ho0 := hO.noTo (by omega)
  have hu := hO.noUid hst
  have hs0 := hO.noSet hst
  have hp0 := hO.noOp (by omega)
  have HL : leadT x = [atT x.tag, atT (kdW x.kind)] := by
    unfold leadT leadS
    rw [hb0, ho0, hs0, hu, hp0]
    have e0 : setT [] = [] := rfl
    have e1 : opT 0 = [] := rfl
    skip
    simp [notE_no, notE_yes hnt, notE_yes hnk, e0, e1]
  have HTL : tailT x = [] := by
    unfold tailT
    rw [if_neg (by omega), if_neg (by omega), if_neg (by omega)]
    simp
  have HV := Lib.hid (show cmdTks x = leadT x ++ tailT x from by unfold cmdTks; rw [if_pos hok])
  rw [HL, HTL] at HV
  have t8 : (x.kind == 8) = false := by rw [beq_eq_false_iff_ne]; omega
  have t11 : (x.kind == 11) = false := by rw [beq_eq_false_iff_ne]; omega
  have t6 : (x.kind == 6) = false := by rw [beq_eq_false_iff_ne]; omega
  have COK := Lib.hid cOK
  have CK := Lib.hid (fun W => specKindWord_any x.kind W)
  have CO := Lib.hid (fun W => specOpText_any x.op W)
  have CA := Lib.hid (fun s W => l6Atom_any s W)
  have hW0 : ∃ W0, w.alloc (.cells #[sv x.tag, .int .i64 x.kind, sv x.box, sv x.dst, .bool x.uid, .slice p x.sset.length c, .int .i64 x.op, .int .i64 x.flags, sv x.text, .bool x.filter.on, .slice q x.filter.scopes.length d] 36) = W0 := ⟨_, rfl⟩
  obtain ⟨W0, hW0⟩ := hW0
  have HW0 := Lib.hid hW0
  have HB1 := Lib.hid (show Below w.heap.size w W0 from by rw [← hW0]; exact (Below.refl _ _).alloc (Nat.le_refl _) _)
  have hA : W0.heap[w.heap.size]? = some (.cells #[sv x.tag, .int .i64 x.kind, sv x.box, sv x.dst, .bool x.uid, .slice p x.sset.length c, .int .i64 x.op, .int .i64 x.flags, sv x.text, .bool x.filter.on, .slice q x.filter.scopes.length d] 36 (0, 0)) := by rw [← hW0]; exact heap_alloc_new w _
  have HZ1 := Lib.hid (show W0.heap.size = w.heap.size + 1 from by rw [← hW0]; simp)
  rw [hb0, ho0, hs0, hu, hp0] at hA
  have HQ := Lib.hid (fun (W : World) (hb : Below W0.heap.size W0 W) => (⟨(Lib.cell_of_heap ((hb.block w.heap.size (by rw [HZ1.out]; omega)).trans hA) 0).trans rfl, (Lib.cell_of_heap ((hb.block w.heap.size (by rw [HZ1.out]; omega)).trans hA) 1).trans rfl, (Lib.cell_of_heap ((hb.block w.heap.size (by rw [HZ1.out]; omega)).trans hA) 2).trans rfl, (Lib.cell_of_heap ((hb.block w.heap.size (by rw [HZ1.out]; omega)).trans hA) 3).trans rfl, (Lib.cell_of_heap ((hb.block w.heap.size (by rw [HZ1.out]; omega)).trans hA) 4).trans rfl, (Lib.cell_of_heap ((hb.block w.heap.size (by rw [HZ1.out]; omega)).trans hA) 5).trans rfl, (Lib.cell_of_heap ((hb.block w.heap.size (by rw [HZ1.out]; omega)).trans hA) 6).trans rfl, (Lib.cell_of_heap ((hb.block w.heap.size (by rw [HZ1.out]; omega)).trans hA) 7).trans rfl, (Lib.cell_of_heap ((hb.block w.heap.size (by rw [HZ1.out]; omega)).trans hA) 8).trans rfl, (Lib.cell_of_heap ((hb.block w.heap.size (by rw [HZ1.out]; omega)).trans hA) 9).trans rfl, (Lib.cell_of_heap ((hb.block w.heap.size (by rw [HZ1.out]; omega)).trans hA) 10).trans rfl⟩ : W.cell? ⟨w.heap.size, 0, none⟩ = some (sv x.tag) ∧ W.cell? ⟨w.heap.size, 1, none⟩ = some (.int .i64 x.kind) ∧ W.cell? ⟨w.heap.size, 2, none⟩ = some (sv []) ∧ W.cell? ⟨w.heap.size, 3, none⟩ = some (sv []) ∧ W.cell? ⟨w.heap.size, 4, none⟩ = some (.bool false) ∧ W.cell? ⟨w.heap.size, 5, none⟩ = some (.slice p 0 c) ∧ W.cell? ⟨w.heap.size, 6, none⟩ = some (.int .i64 0) ∧ W.cell? ⟨w.heap.size, 7, none⟩ = some (.int .i64 x.flags) ∧ W.cell? ⟨w.heap.size, 8, none⟩ = some (sv x.text) ∧ W.cell? ⟨w.heap.size, 9, none⟩ = some (.bool x.filter.on) ∧ W.cell? ⟨w.heap.size, 10, none⟩ = some (.slice q x.filter.scopes.length d)))
  clear cOK ha ha2 hs hok hO z1 z2 z3 z5 z8 z9 z10 hbx hst hnt hnk HL HTL hW0 hA hk
  clear hs0
  clear hu
  clear hb0
  clear ho0
  clear hp0
  go_enter Tryz.func6, Tryz.ntmps6
  go_wp2_with fail
  rw [HW0.out]
  have hbA : Below W0.heap.size W0 (W0.alloc (.cells #[] 48)) := (Below.refl _ _).alloc (Nat.le_refl _) _
  have HO0 := Lib.hid (show (W0.alloc (.cells #[] 48)).ownsRow W0.heap.size 48 2 (.slice (some ⟨w.heap.size + 1, 0, none⟩) 0 0) 0 [] by rw [← HZ1.out]; exact World.ownsRow_made W0 #[] 0 (Nat.le_refl _) (by unfold maxLen; omega) rfl)
  refine (COK.out _ (HB1.out.trans (hbA.mono (by rw [HZ1.out]; omega)))).mono ?_
  rintro e w1 ⟨rfl, b1⟩
  have TK0 := Lib.hid ((show TkC W0 (.slice (some ⟨w.heap.size + 1, 0, none⟩) 0 0) [] (W0.alloc (.cells #[] 48)) from ⟨HO0.out, hbA⟩).call b1)
  clear b1 hbA HO0 COK
  obtain ⟨q0, q1, q2, q3, q4, q5, q6, q7, q8, q9, q10⟩ := HQ.out _ TK0.out.below
  go_wp2_with fail
  refine (CA.out x.tag _).mono ?_
  rintro e w1_ ⟨rfl, b_⟩
  have TK1 := Lib.hid (TK0.out.call b_)
  clear q0 q1 q2 q3 q4 q5 q6 q7 q8 q9 q10
  clear b_ TK0
  obtain ⟨q0, q1, q2, q3, q4, q5, q6, q7, q8, q9, q10⟩ := HQ.out _ TK1.out.below
  go_wp2_with (at_builtin; refine wpList_tkc rfl TK1.out (atT x.tag) (.tmp 11) (.tmp 15) rfl rfl (.inr rfl) rfl (by simp) ?_)
  intro u2 v2 tk_ _
  have TK2 := Lib.hid tk_
  clear q0 q1 q2 q3 q4 q5 q6 q7 q8 q9 q10
  clear tk_ TK1
  obtain ⟨q0, q1, q2, q3, q4, q5, q6, q7, q8, q9, q10⟩ := HQ.out _ TK2.out.below
  go_wp2_with fail
  refine (CK.out _).mono ?_
  rintro e w3_ ⟨rfl, b_⟩
  have TK3 := Lib.hid (TK2.out.call b_)
  clear q0 q1 q2 q3 q4 q5 q6 q7 q8 q9 q10
  clear b_ TK2
  obtain ⟨q0, q1, q2, q3, q4, q5, q6, q7, q8, q9, q10⟩ := HQ.out _ TK3.out.below
  go_wp2_with fail
  refine (CA.out (kdW x.kind) _).mono ?_
  rintro e w4_ ⟨rfl, b_⟩
  have TK4 := Lib.hid (TK3.out.call b_)
  clear q0 q1 q2 q3 q4 q5 q6 q7 q8 q9 q10
  clear b_ TK3
  obtain ⟨q0, q1, q2, q3, q4, q5, q6, q7, q8, q9, q10⟩ := HQ.out _ TK4.out.below
  go_wp2_with (at_builtin; refine wpList_tkc rfl TK4.out (atT (kdW x.kind)) (.tmp 23) (.tmp 28) rfl rfl (.inr rfl) rfl (by simp) ?_)
  intro u5 v5 tk_ _
  have TK5 := Lib.hid tk_
  clear q0 q1 q2 q3 q4 q5 q6 q7 q8 q9 q10
  clear tk_ TK4
  obtain ⟨q0, q1, q2, q3, q4, q5, q6, q7, q8, q9, q10⟩ := HQ.out _ TK5.out.below
  have HF := Lib.hid (show TkC W0 _ (cmdTks x) _ from by rw [HV.out]; simpa using TK5.out)
  clear TK5
  go_wp2
  go_ret
  exact ⟨_, rfl, own_lower HF.out.own (by rw [HZ1.out]; omega), HB1.out.trans (HF.out.below.mono (by rw [HZ1.out]; omega))⟩

set_option maxRecDepth 20000 in
set_option maxHeartbeats 12800000 in
theorem spk_b (x : CmdD) (a5 a10 : Value) (w : World) (hok : cmdB x = true) (hk : x.kind = 2 ∨ x.kind = 12 ∨ x.kind = 13) (ha : LfRd w (spnsLf x.sset) a5) (ha2 : LfRd w (scpsLf x.filter.scopes) a10) (hs : szLs x.lf ≤ 1048576) :
    Calls Tryz.prog 6 #[cmdv x a5 a10] w (TksPost (cmdTks x) w) := by
  have hO := CmdOk.of hok
  obtain ⟨z1, z2, z3, z5, z8, z9, z10⟩ := CmdD.small hs
  have cOK := fun W (h : Below w.heap.size w W) => specCommandOk_at x a5 a10 W (LfRd.below h _ _ ha) (LfRd.below h _ _ ha2) hs
  simp only [hok] at cOK
  obtain ⟨p, c, rfl, _⟩ := Spn.at ha
  obtain ⟨q, d, rfl, _⟩ := scps_at ha2
  have hbx : boxedB x.kind = true := by unfold boxedB; simp only [Bool.or_eq_true, beq_iff_eq]; omega
  have hst : setsB x.kind = false := by unfold setsB; simp only [Bool.or_eq_false_iff, beq_eq_false_iff_ne]; omega
  have hnt := tag_ne hO.tag
  have hnk := kdW_ne hO.kind
  have hnb := name_ne (hO.box hbx)
  have ho0 := hO.noTo (by omega)
  have hu := hO.noUid hst
  have hs0 := hO.noSet hst
  have hp0 := hO.noOp (by omega)
  have HL : leadT x = [atT x.tag, atT (kdW x.kind), atT x.box] := by
    unfold leadT leadS
    rw [ho0, hs0, hu, hp0]
    have e0 : setT [] = [] := rfl
    have e1 : opT 0 = [] := rfl
    skip
    simp [notE_no, notE_yes hnt, notE_yes hnk, notE_yes hnb, e0, e1]
  have HTL : tailT x = [] := by
    unfold tailT
    rw [if_neg (by omega), if_neg (by omega), if_neg (by omega)]
    simp
  have HV := Lib.hid (show cmdTks x = leadT x ++ tailT x from by unfold cmdTks; rw [if_pos hok])
  rw [HL, HTL] at HV
  have t8 : (x.kind == 8) = false := by rw [beq_eq_false_iff_ne]; omega
  have t11 : (x.kind == 11) = false := by rw [beq_eq_false_iff_ne]; omega
  have t6 : (x.kind == 6) = false := by rw [beq_eq_false_iff_ne]; omega
  have COK := Lib.hid cOK
  have CK := Lib.hid (fun W => specKindWord_any x.kind W)
  have CO := Lib.hid (fun W => specOpText_any x.op W)
  have CA := Lib.hid (fun s W => l6Atom_any s W)
  have hW0 : ∃ W0, w.alloc (.cells #[sv x.tag, .int .i64 x.kind, sv x.box, sv x.dst, .bool x.uid, .slice p x.sset.length c, .int .i64 x.op, .int .i64 x.flags, sv x.text, .bool x.filter.on, .slice q x.filter.scopes.length d] 36) = W0 := ⟨_, rfl⟩
  obtain ⟨W0, hW0⟩ := hW0
  have HW0 := Lib.hid hW0
  have HB1 := Lib.hid (show Below w.heap.size w W0 from by rw [← hW0]; exact (Below.refl _ _).alloc (Nat.le_refl _) _)
  have hA : W0.heap[w.heap.size]? = some (.cells #[sv x.tag, .int .i64 x.kind, sv x.box, sv x.dst, .bool x.uid, .slice p x.sset.length c, .int .i64 x.op, .int .i64 x.flags, sv x.text, .bool x.filter.on, .slice q x.filter.scopes.length d] 36 (0, 0)) := by rw [← hW0]; exact heap_alloc_new w _
  have HZ1 := Lib.hid (show W0.heap.size = w.heap.size + 1 from by rw [← hW0]; simp)
  rw [ho0, hs0, hu, hp0] at hA
  have HQ := Lib.hid (fun (W : World) (hb : Below W0.heap.size W0 W) => (⟨(Lib.cell_of_heap ((hb.block w.heap.size (by rw [HZ1.out]; omega)).trans hA) 0).trans rfl, (Lib.cell_of_heap ((hb.block w.heap.size (by rw [HZ1.out]; omega)).trans hA) 1).trans rfl, (Lib.cell_of_heap ((hb.block w.heap.size (by rw [HZ1.out]; omega)).trans hA) 2).trans rfl, (Lib.cell_of_heap ((hb.block w.heap.size (by rw [HZ1.out]; omega)).trans hA) 3).trans rfl, (Lib.cell_of_heap ((hb.block w.heap.size (by rw [HZ1.out]; omega)).trans hA) 4).trans rfl, (Lib.cell_of_heap ((hb.block w.heap.size (by rw [HZ1.out]; omega)).trans hA) 5).trans rfl, (Lib.cell_of_heap ((hb.block w.heap.size (by rw [HZ1.out]; omega)).trans hA) 6).trans rfl, (Lib.cell_of_heap ((hb.block w.heap.size (by rw [HZ1.out]; omega)).trans hA) 7).trans rfl, (Lib.cell_of_heap ((hb.block w.heap.size (by rw [HZ1.out]; omega)).trans hA) 8).trans rfl, (Lib.cell_of_heap ((hb.block w.heap.size (by rw [HZ1.out]; omega)).trans hA) 9).trans rfl, (Lib.cell_of_heap ((hb.block w.heap.size (by rw [HZ1.out]; omega)).trans hA) 10).trans rfl⟩ : W.cell? ⟨w.heap.size, 0, none⟩ = some (sv x.tag) ∧ W.cell? ⟨w.heap.size, 1, none⟩ = some (.int .i64 x.kind) ∧ W.cell? ⟨w.heap.size, 2, none⟩ = some (sv x.box) ∧ W.cell? ⟨w.heap.size, 3, none⟩ = some (sv []) ∧ W.cell? ⟨w.heap.size, 4, none⟩ = some (.bool false) ∧ W.cell? ⟨w.heap.size, 5, none⟩ = some (.slice p 0 c) ∧ W.cell? ⟨w.heap.size, 6, none⟩ = some (.int .i64 0) ∧ W.cell? ⟨w.heap.size, 7, none⟩ = some (.int .i64 x.flags) ∧ W.cell? ⟨w.heap.size, 8, none⟩ = some (sv x.text) ∧ W.cell? ⟨w.heap.size, 9, none⟩ = some (.bool x.filter.on) ∧ W.cell? ⟨w.heap.size, 10, none⟩ = some (.slice q x.filter.scopes.length d)))
  have hbne : ¬ x.box = [] := hnb
  have hbie := List.isEmpty_eq_false_iff.2 hnb
  clear hnb
  clear cOK ha ha2 hs hok hO z1 z2 z3 z5 z8 z9 z10 hbx hst hnt hnk HL HTL hW0 hA hk
  clear hs0
  clear hu
  clear ho0
  clear hp0
  go_enter Tryz.func6, Tryz.ntmps6
  go_wp2_with fail
  rw [HW0.out]
  have hbA : Below W0.heap.size W0 (W0.alloc (.cells #[] 48)) := (Below.refl _ _).alloc (Nat.le_refl _) _
  have HO0 := Lib.hid (show (W0.alloc (.cells #[] 48)).ownsRow W0.heap.size 48 2 (.slice (some ⟨w.heap.size + 1, 0, none⟩) 0 0) 0 [] by rw [← HZ1.out]; exact World.ownsRow_made W0 #[] 0 (Nat.le_refl _) (by unfold maxLen; omega) rfl)
  refine (COK.out _ (HB1.out.trans (hbA.mono (by rw [HZ1.out]; omega)))).mono ?_
  rintro e w1 ⟨rfl, b1⟩
  have TK0 := Lib.hid ((show TkC W0 (.slice (some ⟨w.heap.size + 1, 0, none⟩) 0 0) [] (W0.alloc (.cells #[] 48)) from ⟨HO0.out, hbA⟩).call b1)
  clear b1 hbA HO0 COK
  obtain ⟨q0, q1, q2, q3, q4, q5, q6, q7, q8, q9, q10⟩ := HQ.out _ TK0.out.below
  go_wp2_with fail
  refine (CA.out x.tag _).mono ?_
  rintro e w1_ ⟨rfl, b_⟩
  have TK1 := Lib.hid (TK0.out.call b_)
  clear q0 q1 q2 q3 q4 q5 q6 q7 q8 q9 q10
  clear b_ TK0
  obtain ⟨q0, q1, q2, q3, q4, q5, q6, q7, q8, q9, q10⟩ := HQ.out _ TK1.out.below
  go_wp2_with (at_builtin; refine wpList_tkc rfl TK1.out (atT x.tag) (.tmp 11) (.tmp 15) rfl rfl (.inr rfl) rfl (by simp) ?_)
  intro u2 v2 tk_ _
  have TK2 := Lib.hid tk_
  clear q0 q1 q2 q3 q4 q5 q6 q7 q8 q9 q10
  clear tk_ TK1
  obtain ⟨q0, q1, q2, q3, q4, q5, q6, q7, q8, q9, q10⟩ := HQ.out _ TK2.out.below
  go_wp2_with fail
  refine (CK.out _).mono ?_
  rintro e w3_ ⟨rfl, b_⟩
  have TK3 := Lib.hid (TK2.out.call b_)
  clear q0 q1 q2 q3 q4 q5 q6 q7 q8 q9 q10
  clear b_ TK2
  obtain ⟨q0, q1, q2, q3, q4, q5, q6, q7, q8, q9, q10⟩ := HQ.out _ TK3.out.below
  go_wp2_with fail
  refine (CA.out (kdW x.kind) _).mono ?_
  rintro e w4_ ⟨rfl, b_⟩
  have TK4 := Lib.hid (TK3.out.call b_)
  clear q0 q1 q2 q3 q4 q5 q6 q7 q8 q9 q10
  clear b_ TK3
  obtain ⟨q0, q1, q2, q3, q4, q5, q6, q7, q8, q9, q10⟩ := HQ.out _ TK4.out.below
  go_wp2_with (at_builtin; refine wpList_tkc rfl TK4.out (atT (kdW x.kind)) (.tmp 23) (.tmp 28) rfl rfl (.inr rfl) rfl (by simp) ?_)
  intro u5 v5 tk_ _
  have TK5 := Lib.hid tk_
  clear q0 q1 q2 q3 q4 q5 q6 q7 q8 q9 q10
  clear tk_ TK4
  obtain ⟨q0, q1, q2, q3, q4, q5, q6, q7, q8, q9, q10⟩ := HQ.out _ TK5.out.below
  go_wp2_with fail
  refine (CA.out x.box _).mono ?_
  rintro e w6_ ⟨rfl, b_⟩
  have TK6 := Lib.hid (TK5.out.call b_)
  clear q0 q1 q2 q3 q4 q5 q6 q7 q8 q9 q10
  clear b_ TK5
  obtain ⟨q0, q1, q2, q3, q4, q5, q6, q7, q8, q9, q10⟩ := HQ.out _ TK6.out.below
  go_wp2_with (at_builtin; refine wpList_tkc rfl TK6.out (atT x.box) (.tmp 54) (.tmp 58) rfl rfl (.inr rfl) rfl (by simp) ?_)
  intro u7 v7 tk_ _
  have TK7 := Lib.hid tk_
  clear q0 q1 q2 q3 q4 q5 q6 q7 q8 q9 q10
  clear tk_ TK6
  obtain ⟨q0, q1, q2, q3, q4, q5, q6, q7, q8, q9, q10⟩ := HQ.out _ TK7.out.below
  have HF := Lib.hid (show TkC W0 _ (cmdTks x) _ from by rw [HV.out]; simpa using TK7.out)
  clear TK7
  go_wp2
  go_ret
  exact ⟨_, rfl, own_lower HF.out.own (by rw [HZ1.out]; omega), HB1.out.trans (HF.out.below.mono (by rw [HZ1.out]; omega))⟩

set_option maxRecDepth 20000 in
set_option maxHeartbeats 12800000 in
theorem spk_r (x : CmdD) (a5 a10 : Value) (w : World) (hok : cmdB x = true) (hk : x.kind = 14) (ha : LfRd w (spnsLf x.sset) a5) (ha2 : LfRd w (scpsLf x.filter.scopes) a10) (hs : szLs x.lf ≤ 1048576) :
    Calls Tryz.prog 6 #[cmdv x a5 a10] w (TksPost (cmdTks x) w) := by
  have hO := CmdOk.of hok
  obtain ⟨z1, z2, z3, z5, z8, z9, z10⟩ := CmdD.small hs
  have cOK := fun W (h : Below w.heap.size w W) => specCommandOk_at x a5 a10 W (LfRd.below h _ _ ha) (LfRd.below h _ _ ha2) hs
  simp only [hok] at cOK
  obtain ⟨p, c, rfl, _⟩ := Spn.at ha
  obtain ⟨q, d, rfl, _⟩ := scps_at ha2
  have hbx : boxedB x.kind = true := by unfold boxedB; simp only [Bool.or_eq_true, beq_iff_eq]; omega
  have hst : setsB x.kind = false := by unfold setsB; simp only [Bool.or_eq_false_iff, beq_eq_false_iff_ne]; omega
  have hnt := tag_ne hO.tag
  have hnk := kdW_ne hO.kind
  have hnb := name_ne (hO.box hbx)
  have hno := name_ne (hO.dest (by omega))
  have hu := hO.noUid hst
  have hs0 := hO.noSet hst
  have hp0 := hO.noOp (by omega)
  have HL : leadT x = [atT x.tag, atT (kdW x.kind), atT x.box, atT x.dst] := by
    unfold leadT leadS
    rw [hs0, hu, hp0]
    have e0 : setT [] = [] := rfl
    have e1 : opT 0 = [] := rfl
    skip
    simp [notE_no, notE_yes hnt, notE_yes hnk, notE_yes hnb, notE_yes hno, e0, e1]
  have HTL : tailT x = [] := by
    unfold tailT
    rw [if_neg (by omega), if_neg (by omega), if_neg (by omega)]
    simp
  have HV := Lib.hid (show cmdTks x = leadT x ++ tailT x from by unfold cmdTks; rw [if_pos hok])
  rw [HL, HTL] at HV
  have t8 : (x.kind == 8) = false := by rw [beq_eq_false_iff_ne]; omega
  have t11 : (x.kind == 11) = false := by rw [beq_eq_false_iff_ne]; omega
  have t6 : (x.kind == 6) = false := by rw [beq_eq_false_iff_ne]; omega
  have COK := Lib.hid cOK
  have CK := Lib.hid (fun W => specKindWord_any x.kind W)
  have CO := Lib.hid (fun W => specOpText_any x.op W)
  have CA := Lib.hid (fun s W => l6Atom_any s W)
  have hW0 : ∃ W0, w.alloc (.cells #[sv x.tag, .int .i64 x.kind, sv x.box, sv x.dst, .bool x.uid, .slice p x.sset.length c, .int .i64 x.op, .int .i64 x.flags, sv x.text, .bool x.filter.on, .slice q x.filter.scopes.length d] 36) = W0 := ⟨_, rfl⟩
  obtain ⟨W0, hW0⟩ := hW0
  have HW0 := Lib.hid hW0
  have HB1 := Lib.hid (show Below w.heap.size w W0 from by rw [← hW0]; exact (Below.refl _ _).alloc (Nat.le_refl _) _)
  have hA : W0.heap[w.heap.size]? = some (.cells #[sv x.tag, .int .i64 x.kind, sv x.box, sv x.dst, .bool x.uid, .slice p x.sset.length c, .int .i64 x.op, .int .i64 x.flags, sv x.text, .bool x.filter.on, .slice q x.filter.scopes.length d] 36 (0, 0)) := by rw [← hW0]; exact heap_alloc_new w _
  have HZ1 := Lib.hid (show W0.heap.size = w.heap.size + 1 from by rw [← hW0]; simp)
  rw [hs0, hu, hp0] at hA
  have HQ := Lib.hid (fun (W : World) (hb : Below W0.heap.size W0 W) => (⟨(Lib.cell_of_heap ((hb.block w.heap.size (by rw [HZ1.out]; omega)).trans hA) 0).trans rfl, (Lib.cell_of_heap ((hb.block w.heap.size (by rw [HZ1.out]; omega)).trans hA) 1).trans rfl, (Lib.cell_of_heap ((hb.block w.heap.size (by rw [HZ1.out]; omega)).trans hA) 2).trans rfl, (Lib.cell_of_heap ((hb.block w.heap.size (by rw [HZ1.out]; omega)).trans hA) 3).trans rfl, (Lib.cell_of_heap ((hb.block w.heap.size (by rw [HZ1.out]; omega)).trans hA) 4).trans rfl, (Lib.cell_of_heap ((hb.block w.heap.size (by rw [HZ1.out]; omega)).trans hA) 5).trans rfl, (Lib.cell_of_heap ((hb.block w.heap.size (by rw [HZ1.out]; omega)).trans hA) 6).trans rfl, (Lib.cell_of_heap ((hb.block w.heap.size (by rw [HZ1.out]; omega)).trans hA) 7).trans rfl, (Lib.cell_of_heap ((hb.block w.heap.size (by rw [HZ1.out]; omega)).trans hA) 8).trans rfl, (Lib.cell_of_heap ((hb.block w.heap.size (by rw [HZ1.out]; omega)).trans hA) 9).trans rfl, (Lib.cell_of_heap ((hb.block w.heap.size (by rw [HZ1.out]; omega)).trans hA) 10).trans rfl⟩ : W.cell? ⟨w.heap.size, 0, none⟩ = some (sv x.tag) ∧ W.cell? ⟨w.heap.size, 1, none⟩ = some (.int .i64 x.kind) ∧ W.cell? ⟨w.heap.size, 2, none⟩ = some (sv x.box) ∧ W.cell? ⟨w.heap.size, 3, none⟩ = some (sv x.dst) ∧ W.cell? ⟨w.heap.size, 4, none⟩ = some (.bool false) ∧ W.cell? ⟨w.heap.size, 5, none⟩ = some (.slice p 0 c) ∧ W.cell? ⟨w.heap.size, 6, none⟩ = some (.int .i64 0) ∧ W.cell? ⟨w.heap.size, 7, none⟩ = some (.int .i64 x.flags) ∧ W.cell? ⟨w.heap.size, 8, none⟩ = some (sv x.text) ∧ W.cell? ⟨w.heap.size, 9, none⟩ = some (.bool x.filter.on) ∧ W.cell? ⟨w.heap.size, 10, none⟩ = some (.slice q x.filter.scopes.length d)))
  have hbne : ¬ x.box = [] := hnb
  have hbie := List.isEmpty_eq_false_iff.2 hnb
  clear hnb
  have hdne : ¬ x.dst = [] := hno
  have hdie := List.isEmpty_eq_false_iff.2 hno
  clear hno
  clear cOK ha ha2 hs hok hO z1 z2 z3 z5 z8 z9 z10 hbx hst hnt hnk HL HTL hW0 hA hk
  clear hs0
  clear hu
  clear hp0
  go_enter Tryz.func6, Tryz.ntmps6
  go_wp2_with fail
  rw [HW0.out]
  have hbA : Below W0.heap.size W0 (W0.alloc (.cells #[] 48)) := (Below.refl _ _).alloc (Nat.le_refl _) _
  have HO0 := Lib.hid (show (W0.alloc (.cells #[] 48)).ownsRow W0.heap.size 48 2 (.slice (some ⟨w.heap.size + 1, 0, none⟩) 0 0) 0 [] by rw [← HZ1.out]; exact World.ownsRow_made W0 #[] 0 (Nat.le_refl _) (by unfold maxLen; omega) rfl)
  refine (COK.out _ (HB1.out.trans (hbA.mono (by rw [HZ1.out]; omega)))).mono ?_
  rintro e w1 ⟨rfl, b1⟩
  have TK0 := Lib.hid ((show TkC W0 (.slice (some ⟨w.heap.size + 1, 0, none⟩) 0 0) [] (W0.alloc (.cells #[] 48)) from ⟨HO0.out, hbA⟩).call b1)
  clear b1 hbA HO0 COK
  obtain ⟨q0, q1, q2, q3, q4, q5, q6, q7, q8, q9, q10⟩ := HQ.out _ TK0.out.below
  go_wp2_with fail
  refine (CA.out x.tag _).mono ?_
  rintro e w1_ ⟨rfl, b_⟩
  have TK1 := Lib.hid (TK0.out.call b_)
  clear q0 q1 q2 q3 q4 q5 q6 q7 q8 q9 q10
  clear b_ TK0
  obtain ⟨q0, q1, q2, q3, q4, q5, q6, q7, q8, q9, q10⟩ := HQ.out _ TK1.out.below
  go_wp2_with (at_builtin; refine wpList_tkc rfl TK1.out (atT x.tag) (.tmp 11) (.tmp 15) rfl rfl (.inr rfl) rfl (by simp) ?_)
  intro u2 v2 tk_ _
  have TK2 := Lib.hid tk_
  clear q0 q1 q2 q3 q4 q5 q6 q7 q8 q9 q10
  clear tk_ TK1
  obtain ⟨q0, q1, q2, q3, q4, q5, q6, q7, q8, q9, q10⟩ := HQ.out _ TK2.out.below
  go_wp2_with fail
  refine (CK.out _).mono ?_
  rintro e w3_ ⟨rfl, b_⟩
  have TK3 := Lib.hid (TK2.out.call b_)
  clear q0 q1 q2 q3 q4 q5 q6 q7 q8 q9 q10
  clear b_ TK2
  obtain ⟨q0, q1, q2, q3, q4, q5, q6, q7, q8, q9, q10⟩ := HQ.out _ TK3.out.below
  go_wp2_with fail
  refine (CA.out (kdW x.kind) _).mono ?_
  rintro e w4_ ⟨rfl, b_⟩
  have TK4 := Lib.hid (TK3.out.call b_)
  clear q0 q1 q2 q3 q4 q5 q6 q7 q8 q9 q10
  clear b_ TK3
  obtain ⟨q0, q1, q2, q3, q4, q5, q6, q7, q8, q9, q10⟩ := HQ.out _ TK4.out.below
  go_wp2_with (at_builtin; refine wpList_tkc rfl TK4.out (atT (kdW x.kind)) (.tmp 23) (.tmp 28) rfl rfl (.inr rfl) rfl (by simp) ?_)
  intro u5 v5 tk_ _
  have TK5 := Lib.hid tk_
  clear q0 q1 q2 q3 q4 q5 q6 q7 q8 q9 q10
  clear tk_ TK4
  obtain ⟨q0, q1, q2, q3, q4, q5, q6, q7, q8, q9, q10⟩ := HQ.out _ TK5.out.below
  go_wp2_with fail
  refine (CA.out x.box _).mono ?_
  rintro e w6_ ⟨rfl, b_⟩
  have TK6 := Lib.hid (TK5.out.call b_)
  clear q0 q1 q2 q3 q4 q5 q6 q7 q8 q9 q10
  clear b_ TK5
  obtain ⟨q0, q1, q2, q3, q4, q5, q6, q7, q8, q9, q10⟩ := HQ.out _ TK6.out.below
  go_wp2_with (at_builtin; refine wpList_tkc rfl TK6.out (atT x.box) (.tmp 54) (.tmp 58) rfl rfl (.inr rfl) rfl (by simp) ?_)
  intro u7 v7 tk_ _
  have TK7 := Lib.hid tk_
  clear q0 q1 q2 q3 q4 q5 q6 q7 q8 q9 q10
  clear tk_ TK6
  obtain ⟨q0, q1, q2, q3, q4, q5, q6, q7, q8, q9, q10⟩ := HQ.out _ TK7.out.below
  go_wp2_with fail
  refine (CA.out x.dst _).mono ?_
  rintro e w8_ ⟨rfl, b_⟩
  have TK8 := Lib.hid (TK7.out.call b_)
  clear q0 q1 q2 q3 q4 q5 q6 q7 q8 q9 q10
  clear b_ TK7
  obtain ⟨q0, q1, q2, q3, q4, q5, q6, q7, q8, q9, q10⟩ := HQ.out _ TK8.out.below
  go_wp2_with (at_builtin; refine wpList_tkc rfl TK8.out (atT x.dst) (.tmp 63) (.tmp 67) rfl rfl (.inr rfl) rfl (by simp) ?_)
  intro u9 v9 tk_ _
  have TK9 := Lib.hid tk_
  clear q0 q1 q2 q3 q4 q5 q6 q7 q8 q9 q10
  clear tk_ TK8
  obtain ⟨q0, q1, q2, q3, q4, q5, q6, q7, q8, q9, q10⟩ := HQ.out _ TK9.out.below
  have HF := Lib.hid (show TkC W0 _ (cmdTks x) _ from by rw [HV.out]; simpa using TK9.out)
  clear TK9
  go_wp2
  go_ret
  exact ⟨_, rfl, own_lower HF.out.own (by rw [HZ1.out]; omega), HB1.out.trans (HF.out.below.mono (by rw [HZ1.out]; omega))⟩

end Go.Proofs.YtidjebepgpbcnaaGreatDoor

namespace Go.Proofs.YtidjebepgpbcnaaGreatDoor
open Go.RowKit

set_option maxRecDepth 20000 in
set_option maxHeartbeats 12800000 in
theorem spk_f0 (x : CmdD) (a5 a10 : Value) (w : World) (hok : cmdB x = true) (hk : x.kind = 7) (hu : x.uid = false) (ha : LfRd w (spnsLf x.sset) a5) (ha2 : LfRd w (scpsLf x.filter.scopes) a10) (hs : szLs x.lf ≤ 1048576) :
    Calls Tryz.prog 6 #[cmdv x a5 a10] w (TksPost (cmdTks x) w) := by
  have hO := CmdOk.of hok
  obtain ⟨z1, z2, z3, z5, z8, z9, z10⟩ := CmdD.small hs
  have cOK := fun W (h : Below w.heap.size w W) => specCommandOk_at x a5 a10 W (LfRd.below h _ _ ha) (LfRd.below h _ _ ha2) hs
  simp only [hok] at cOK
  have cS := fun W (h : Below w.heap.size w W) => specSetText_any a5 x.sset W (spns_rd (LfRd.below h _ _ ha)) (by omega)
  have CS := Lib.hid cS
  clear cS
  obtain ⟨p, c, rfl, _⟩ := Spn.at ha
  obtain ⟨q, d, rfl, _⟩ := scps_at ha2
  have hbx : boxedB x.kind = false := by unfold boxedB; simp only [Bool.or_eq_false_iff, beq_eq_false_iff_ne]; omega
  have hst : setsB x.kind = true := by unfold setsB; simp only [Bool.or_eq_true, beq_iff_eq]; omega
  have hnt := tag_ne hO.tag
  have hnk := kdW_ne hO.kind
  have hb0 := hO.noBox hbx
  have ho0 := hO.noTo (by omega)
  have hns := setT_ne (hO.sset hst)
  have hsl := List.length_pos_iff.2 (sset_ne (hO.sset hst))
  have hp0 := hO.noOp (by omega)
  have HL : leadT x = [atT x.tag, atT (kdW x.kind), atT (setT x.sset)] := by
    unfold leadT leadS
    rw [hb0, ho0, hu, hp0]
    skip
    have e1 : opT 0 = [] := rfl
    skip
    simp [notE_no, notE_yes hnt, notE_yes hnk, notE_yes hns, e1]
  have HTL : tailT x = [] := by
    unfold tailT
    rw [if_neg (by omega), if_neg (by omega), if_neg (by omega)]
    simp
  have HV := Lib.hid (show cmdTks x = leadT x ++ tailT x from by unfold cmdTks; rw [if_pos hok])
  rw [HL, HTL] at HV
  have t8 : (x.kind == 8) = false := by rw [beq_eq_false_iff_ne]; omega
  have t11 : (x.kind == 11) = false := by rw [beq_eq_false_iff_ne]; omega
  have t6 : (x.kind == 6) = false := by rw [beq_eq_false_iff_ne]; omega
  have COK := Lib.hid cOK
  have CK := Lib.hid (fun W => specKindWord_any x.kind W)
  have CO := Lib.hid (fun W => specOpText_any x.op W)
  have CA := Lib.hid (fun s W => l6Atom_any s W)
  have hW0 : ∃ W0, w.alloc (.cells #[sv x.tag, .int .i64 x.kind, sv x.box, sv x.dst, .bool x.uid, .slice p x.sset.length c, .int .i64 x.op, .int .i64 x.flags, sv x.text, .bool x.filter.on, .slice q x.filter.scopes.length d] 36) = W0 := ⟨_, rfl⟩
  obtain ⟨W0, hW0⟩ := hW0
  have HW0 := Lib.hid hW0
  have HB1 := Lib.hid (show Below w.heap.size w W0 from by rw [← hW0]; exact (Below.refl _ _).alloc (Nat.le_refl _) _)
  have hA : W0.heap[w.heap.size]? = some (.cells #[sv x.tag, .int .i64 x.kind, sv x.box, sv x.dst, .bool x.uid, .slice p x.sset.length c, .int .i64 x.op, .int .i64 x.flags, sv x.text, .bool x.filter.on, .slice q x.filter.scopes.length d] 36 (0, 0)) := by rw [← hW0]; exact heap_alloc_new w _
  have HZ1 := Lib.hid (show W0.heap.size = w.heap.size + 1 from by rw [← hW0]; simp)
  rw [hb0, ho0, hu, hp0] at hA
  have HQ := Lib.hid (fun (W : World) (hb : Below W0.heap.size W0 W) => (⟨(Lib.cell_of_heap ((hb.block w.heap.size (by rw [HZ1.out]; omega)).trans hA) 0).trans rfl, (Lib.cell_of_heap ((hb.block w.heap.size (by rw [HZ1.out]; omega)).trans hA) 1).trans rfl, (Lib.cell_of_heap ((hb.block w.heap.size (by rw [HZ1.out]; omega)).trans hA) 2).trans rfl, (Lib.cell_of_heap ((hb.block w.heap.size (by rw [HZ1.out]; omega)).trans hA) 3).trans rfl, (Lib.cell_of_heap ((hb.block w.heap.size (by rw [HZ1.out]; omega)).trans hA) 4).trans rfl, (Lib.cell_of_heap ((hb.block w.heap.size (by rw [HZ1.out]; omega)).trans hA) 5).trans rfl, (Lib.cell_of_heap ((hb.block w.heap.size (by rw [HZ1.out]; omega)).trans hA) 6).trans rfl, (Lib.cell_of_heap ((hb.block w.heap.size (by rw [HZ1.out]; omega)).trans hA) 7).trans rfl, (Lib.cell_of_heap ((hb.block w.heap.size (by rw [HZ1.out]; omega)).trans hA) 8).trans rfl, (Lib.cell_of_heap ((hb.block w.heap.size (by rw [HZ1.out]; omega)).trans hA) 9).trans rfl, (Lib.cell_of_heap ((hb.block w.heap.size (by rw [HZ1.out]; omega)).trans hA) 10).trans rfl⟩ : W.cell? ⟨w.heap.size, 0, none⟩ = some (sv x.tag) ∧ W.cell? ⟨w.heap.size, 1, none⟩ = some (.int .i64 x.kind) ∧ W.cell? ⟨w.heap.size, 2, none⟩ = some (sv []) ∧ W.cell? ⟨w.heap.size, 3, none⟩ = some (sv []) ∧ W.cell? ⟨w.heap.size, 4, none⟩ = some (.bool false) ∧ W.cell? ⟨w.heap.size, 5, none⟩ = some (.slice p x.sset.length c) ∧ W.cell? ⟨w.heap.size, 6, none⟩ = some (.int .i64 0) ∧ W.cell? ⟨w.heap.size, 7, none⟩ = some (.int .i64 x.flags) ∧ W.cell? ⟨w.heap.size, 8, none⟩ = some (sv x.text) ∧ W.cell? ⟨w.heap.size, 9, none⟩ = some (.bool x.filter.on) ∧ W.cell? ⟨w.heap.size, 10, none⟩ = some (.slice q x.filter.scopes.length d)))
  have hsl2 : (0 : Int) < (x.sset.length : Int) := by omega
  clear hsl hns
  clear cOK ha ha2 hs hok hO z1 z2 z3 z5 z8 z9 z10 hbx hst hnt hnk HL HTL hW0 hA hk
  clear hu
  clear hb0
  clear ho0
  clear hp0
  go_enter Tryz.func6, Tryz.ntmps6
  go_wp2_with fail
  rw [HW0.out]
  have hbA : Below W0.heap.size W0 (W0.alloc (.cells #[] 48)) := (Below.refl _ _).alloc (Nat.le_refl _) _
  have HO0 := Lib.hid (show (W0.alloc (.cells #[] 48)).ownsRow W0.heap.size 48 2 (.slice (some ⟨w.heap.size + 1, 0, none⟩) 0 0) 0 [] by rw [← HZ1.out]; exact World.ownsRow_made W0 #[] 0 (Nat.le_refl _) (by unfold maxLen; omega) rfl)
  refine (COK.out _ (HB1.out.trans (hbA.mono (by rw [HZ1.out]; omega)))).mono ?_
  rintro e w1 ⟨rfl, b1⟩
  have TK0 := Lib.hid ((show TkC W0 (.slice (some ⟨w.heap.size + 1, 0, none⟩) 0 0) [] (W0.alloc (.cells #[] 48)) from ⟨HO0.out, hbA⟩).call b1)
  clear b1 hbA HO0 COK
  obtain ⟨q0, q1, q2, q3, q4, q5, q6, q7, q8, q9, q10⟩ := HQ.out _ TK0.out.below
  go_wp2_with fail
  refine (CA.out x.tag _).mono ?_
  rintro e w1_ ⟨rfl, b_⟩
  have TK1 := Lib.hid (TK0.out.call b_)
  clear q0 q1 q2 q3 q4 q5 q6 q7 q8 q9 q10
  clear b_ TK0
  obtain ⟨q0, q1, q2, q3, q4, q5, q6, q7, q8, q9, q10⟩ := HQ.out _ TK1.out.below
  go_wp2_with (at_builtin; refine wpList_tkc rfl TK1.out (atT x.tag) (.tmp 11) (.tmp 15) rfl rfl (.inr rfl) rfl (by simp) ?_)
  intro u2 v2 tk_ _
  have TK2 := Lib.hid tk_
  clear q0 q1 q2 q3 q4 q5 q6 q7 q8 q9 q10
  clear tk_ TK1
  obtain ⟨q0, q1, q2, q3, q4, q5, q6, q7, q8, q9, q10⟩ := HQ.out _ TK2.out.below
  go_wp2_with fail
  refine (CK.out _).mono ?_
  rintro e w3_ ⟨rfl, b_⟩
  have TK3 := Lib.hid (TK2.out.call b_)
  clear q0 q1 q2 q3 q4 q5 q6 q7 q8 q9 q10
  clear b_ TK2
  obtain ⟨q0, q1, q2, q3, q4, q5, q6, q7, q8, q9, q10⟩ := HQ.out _ TK3.out.below
  go_wp2_with fail
  refine (CA.out (kdW x.kind) _).mono ?_
  rintro e w4_ ⟨rfl, b_⟩
  have TK4 := Lib.hid (TK3.out.call b_)
  clear q0 q1 q2 q3 q4 q5 q6 q7 q8 q9 q10
  clear b_ TK3
  obtain ⟨q0, q1, q2, q3, q4, q5, q6, q7, q8, q9, q10⟩ := HQ.out _ TK4.out.below
  go_wp2_with (at_builtin; refine wpList_tkc rfl TK4.out (atT (kdW x.kind)) (.tmp 23) (.tmp 28) rfl rfl (.inr rfl) rfl (by simp) ?_)
  intro u5 v5 tk_ _
  have TK5 := Lib.hid tk_
  clear q0 q1 q2 q3 q4 q5 q6 q7 q8 q9 q10
  clear tk_ TK4
  obtain ⟨q0, q1, q2, q3, q4, q5, q6, q7, q8, q9, q10⟩ := HQ.out _ TK5.out.below
  go_wp2_with fail
  refine (CS.out _ (HB1.out.trans (TK5.out.below.mono (by rw [HZ1.out]; omega)))).mono ?_
  rintro e w6_ ⟨rfl, b_⟩
  have TK6 := Lib.hid (TK5.out.call b_)
  clear q0 q1 q2 q3 q4 q5 q6 q7 q8 q9 q10
  clear b_ TK5
  obtain ⟨q0, q1, q2, q3, q4, q5, q6, q7, q8, q9, q10⟩ := HQ.out _ TK6.out.below
  go_wp2_with fail
  refine (CA.out (setT x.sset) _).mono ?_
  rintro e w7_ ⟨rfl, b_⟩
  have TK7 := Lib.hid (TK6.out.call b_)
  clear q0 q1 q2 q3 q4 q5 q6 q7 q8 q9 q10
  clear b_ TK6
  obtain ⟨q0, q1, q2, q3, q4, q5, q6, q7, q8, q9, q10⟩ := HQ.out _ TK7.out.below
  go_wp2_with (at_builtin; refine wpList_tkc rfl TK7.out (atT (setT x.sset)) (.tmp 34) (.tmp 39) rfl rfl (.inr rfl) rfl (by simp) ?_)
  intro u8 v8 tk_ _
  have TK8 := Lib.hid tk_
  clear q0 q1 q2 q3 q4 q5 q6 q7 q8 q9 q10
  clear tk_ TK7
  obtain ⟨q0, q1, q2, q3, q4, q5, q6, q7, q8, q9, q10⟩ := HQ.out _ TK8.out.below
  have HF := Lib.hid (show TkC W0 _ (cmdTks x) _ from by rw [HV.out]; simpa using TK8.out)
  clear TK8
  go_wp2
  go_ret
  exact ⟨_, rfl, own_lower HF.out.own (by rw [HZ1.out]; omega), HB1.out.trans (HF.out.below.mono (by rw [HZ1.out]; omega))⟩

set_option maxRecDepth 20000 in
set_option maxHeartbeats 12800000 in
theorem spk_f1 (x : CmdD) (a5 a10 : Value) (w : World) (hok : cmdB x = true) (hk : x.kind = 7) (hu : x.uid = true) (ha : LfRd w (spnsLf x.sset) a5) (ha2 : LfRd w (scpsLf x.filter.scopes) a10) (hs : szLs x.lf ≤ 1048576) :
    Calls Tryz.prog 6 #[cmdv x a5 a10] w (TksPost (cmdTks x) w) := by
  have hO := CmdOk.of hok
  obtain ⟨z1, z2, z3, z5, z8, z9, z10⟩ := CmdD.small hs
  have cOK := fun W (h : Below w.heap.size w W) => specCommandOk_at x a5 a10 W (LfRd.below h _ _ ha) (LfRd.below h _ _ ha2) hs
  simp only [hok] at cOK
  have cS := fun W (h : Below w.heap.size w W) => specSetText_any a5 x.sset W (spns_rd (LfRd.below h _ _ ha)) (by omega)
  have CS := Lib.hid cS
  clear cS
  obtain ⟨p, c, rfl, _⟩ := Spn.at ha
  obtain ⟨q, d, rfl, _⟩ := scps_at ha2
  have hbx : boxedB x.kind = false := by unfold boxedB; simp only [Bool.or_eq_false_iff, beq_eq_false_iff_ne]; omega
  have hst : setsB x.kind = true := by unfold setsB; simp only [Bool.or_eq_true, beq_iff_eq]; omega
  have hnt := tag_ne hO.tag
  have hnk := kdW_ne hO.kind
  have hb0 := hO.noBox hbx
  have ho0 := hO.noTo (by omega)
  have hns := setT_ne (hO.sset hst)
  have hsl := List.length_pos_iff.2 (sset_ne (hO.sset hst))
  have hp0 := hO.noOp (by omega)
  have HL : leadT x = [atT x.tag, atT uidW, atT (kdW x.kind), atT (setT x.sset)] := by
    unfold leadT leadS
    rw [hb0, ho0, hu, hp0]
    skip
    have e1 : opT 0 = [] := rfl
    have eu : notE uidW = true := rfl
    simp [notE_no, notE_yes hnt, notE_yes hnk, notE_yes hns, e1, eu]
  have HTL : tailT x = [] := by
    unfold tailT
    rw [if_neg (by omega), if_neg (by omega), if_neg (by omega)]
    simp
  have HV := Lib.hid (show cmdTks x = leadT x ++ tailT x from by unfold cmdTks; rw [if_pos hok])
  rw [HL, HTL] at HV
  have t8 : (x.kind == 8) = false := by rw [beq_eq_false_iff_ne]; omega
  have t11 : (x.kind == 11) = false := by rw [beq_eq_false_iff_ne]; omega
  have t6 : (x.kind == 6) = false := by rw [beq_eq_false_iff_ne]; omega
  have COK := Lib.hid cOK
  have CK := Lib.hid (fun W => specKindWord_any x.kind W)
  have CO := Lib.hid (fun W => specOpText_any x.op W)
  have CA := Lib.hid (fun s W => l6Atom_any s W)
  have hW0 : ∃ W0, w.alloc (.cells #[sv x.tag, .int .i64 x.kind, sv x.box, sv x.dst, .bool x.uid, .slice p x.sset.length c, .int .i64 x.op, .int .i64 x.flags, sv x.text, .bool x.filter.on, .slice q x.filter.scopes.length d] 36) = W0 := ⟨_, rfl⟩
  obtain ⟨W0, hW0⟩ := hW0
  have HW0 := Lib.hid hW0
  have HB1 := Lib.hid (show Below w.heap.size w W0 from by rw [← hW0]; exact (Below.refl _ _).alloc (Nat.le_refl _) _)
  have hA : W0.heap[w.heap.size]? = some (.cells #[sv x.tag, .int .i64 x.kind, sv x.box, sv x.dst, .bool x.uid, .slice p x.sset.length c, .int .i64 x.op, .int .i64 x.flags, sv x.text, .bool x.filter.on, .slice q x.filter.scopes.length d] 36 (0, 0)) := by rw [← hW0]; exact heap_alloc_new w _
  have HZ1 := Lib.hid (show W0.heap.size = w.heap.size + 1 from by rw [← hW0]; simp)
  rw [hb0, ho0, hu, hp0] at hA
  have HQ := Lib.hid (fun (W : World) (hb : Below W0.heap.size W0 W) => (⟨(Lib.cell_of_heap ((hb.block w.heap.size (by rw [HZ1.out]; omega)).trans hA) 0).trans rfl, (Lib.cell_of_heap ((hb.block w.heap.size (by rw [HZ1.out]; omega)).trans hA) 1).trans rfl, (Lib.cell_of_heap ((hb.block w.heap.size (by rw [HZ1.out]; omega)).trans hA) 2).trans rfl, (Lib.cell_of_heap ((hb.block w.heap.size (by rw [HZ1.out]; omega)).trans hA) 3).trans rfl, (Lib.cell_of_heap ((hb.block w.heap.size (by rw [HZ1.out]; omega)).trans hA) 4).trans rfl, (Lib.cell_of_heap ((hb.block w.heap.size (by rw [HZ1.out]; omega)).trans hA) 5).trans rfl, (Lib.cell_of_heap ((hb.block w.heap.size (by rw [HZ1.out]; omega)).trans hA) 6).trans rfl, (Lib.cell_of_heap ((hb.block w.heap.size (by rw [HZ1.out]; omega)).trans hA) 7).trans rfl, (Lib.cell_of_heap ((hb.block w.heap.size (by rw [HZ1.out]; omega)).trans hA) 8).trans rfl, (Lib.cell_of_heap ((hb.block w.heap.size (by rw [HZ1.out]; omega)).trans hA) 9).trans rfl, (Lib.cell_of_heap ((hb.block w.heap.size (by rw [HZ1.out]; omega)).trans hA) 10).trans rfl⟩ : W.cell? ⟨w.heap.size, 0, none⟩ = some (sv x.tag) ∧ W.cell? ⟨w.heap.size, 1, none⟩ = some (.int .i64 x.kind) ∧ W.cell? ⟨w.heap.size, 2, none⟩ = some (sv []) ∧ W.cell? ⟨w.heap.size, 3, none⟩ = some (sv []) ∧ W.cell? ⟨w.heap.size, 4, none⟩ = some (.bool true) ∧ W.cell? ⟨w.heap.size, 5, none⟩ = some (.slice p x.sset.length c) ∧ W.cell? ⟨w.heap.size, 6, none⟩ = some (.int .i64 0) ∧ W.cell? ⟨w.heap.size, 7, none⟩ = some (.int .i64 x.flags) ∧ W.cell? ⟨w.heap.size, 8, none⟩ = some (sv x.text) ∧ W.cell? ⟨w.heap.size, 9, none⟩ = some (.bool x.filter.on) ∧ W.cell? ⟨w.heap.size, 10, none⟩ = some (.slice q x.filter.scopes.length d)))
  have hsl2 : (0 : Int) < (x.sset.length : Int) := by omega
  clear hsl hns
  clear cOK ha ha2 hs hok hO z1 z2 z3 z5 z8 z9 z10 hbx hst hnt hnk HL HTL hW0 hA hk
  clear hu
  clear hb0
  clear ho0
  clear hp0
  go_enter Tryz.func6, Tryz.ntmps6
  go_wp2_with fail
  rw [HW0.out]
  have hbA : Below W0.heap.size W0 (W0.alloc (.cells #[] 48)) := (Below.refl _ _).alloc (Nat.le_refl _) _
  have HO0 := Lib.hid (show (W0.alloc (.cells #[] 48)).ownsRow W0.heap.size 48 2 (.slice (some ⟨w.heap.size + 1, 0, none⟩) 0 0) 0 [] by rw [← HZ1.out]; exact World.ownsRow_made W0 #[] 0 (Nat.le_refl _) (by unfold maxLen; omega) rfl)
  refine (COK.out _ (HB1.out.trans (hbA.mono (by rw [HZ1.out]; omega)))).mono ?_
  rintro e w1 ⟨rfl, b1⟩
  have TK0 := Lib.hid ((show TkC W0 (.slice (some ⟨w.heap.size + 1, 0, none⟩) 0 0) [] (W0.alloc (.cells #[] 48)) from ⟨HO0.out, hbA⟩).call b1)
  clear b1 hbA HO0 COK
  obtain ⟨q0, q1, q2, q3, q4, q5, q6, q7, q8, q9, q10⟩ := HQ.out _ TK0.out.below
  go_wp2_with fail
  refine (CA.out x.tag _).mono ?_
  rintro e w1_ ⟨rfl, b_⟩
  have TK1 := Lib.hid (TK0.out.call b_)
  clear q0 q1 q2 q3 q4 q5 q6 q7 q8 q9 q10
  clear b_ TK0
  obtain ⟨q0, q1, q2, q3, q4, q5, q6, q7, q8, q9, q10⟩ := HQ.out _ TK1.out.below
  go_wp2_with (at_builtin; refine wpList_tkc rfl TK1.out (atT x.tag) (.tmp 11) (.tmp 15) rfl rfl (.inr rfl) rfl (by simp) ?_)
  intro u2 v2 tk_ _
  have TK2 := Lib.hid tk_
  clear q0 q1 q2 q3 q4 q5 q6 q7 q8 q9 q10
  clear tk_ TK1
  obtain ⟨q0, q1, q2, q3, q4, q5, q6, q7, q8, q9, q10⟩ := HQ.out _ TK2.out.below
  go_wp2_with fail
  refine (CA.out uidW _).mono ?_
  rintro e w3_ ⟨rfl, b_⟩
  have TK3 := Lib.hid (TK2.out.call b_)
  clear q0 q1 q2 q3 q4 q5 q6 q7 q8 q9 q10
  clear b_ TK2
  obtain ⟨q0, q1, q2, q3, q4, q5, q6, q7, q8, q9, q10⟩ := HQ.out _ TK3.out.below
  go_wp2_with (at_builtin; refine wpList_tkc rfl TK3.out (atT uidW) (.tmp 19) (.tmp 21) rfl rfl (.inr rfl) rfl (by simp) ?_)
  intro u4 v4 tk_ _
  have TK4 := Lib.hid tk_
  clear q0 q1 q2 q3 q4 q5 q6 q7 q8 q9 q10
  clear tk_ TK3
  obtain ⟨q0, q1, q2, q3, q4, q5, q6, q7, q8, q9, q10⟩ := HQ.out _ TK4.out.below
  go_wp2_with fail
  refine (CK.out _).mono ?_
  rintro e w5_ ⟨rfl, b_⟩
  have TK5 := Lib.hid (TK4.out.call b_)
  clear q0 q1 q2 q3 q4 q5 q6 q7 q8 q9 q10
  clear b_ TK4
  obtain ⟨q0, q1, q2, q3, q4, q5, q6, q7, q8, q9, q10⟩ := HQ.out _ TK5.out.below
  go_wp2_with fail
  refine (CA.out (kdW x.kind) _).mono ?_
  rintro e w6_ ⟨rfl, b_⟩
  have TK6 := Lib.hid (TK5.out.call b_)
  clear q0 q1 q2 q3 q4 q5 q6 q7 q8 q9 q10
  clear b_ TK5
  obtain ⟨q0, q1, q2, q3, q4, q5, q6, q7, q8, q9, q10⟩ := HQ.out _ TK6.out.below
  go_wp2_with (at_builtin; refine wpList_tkc rfl TK6.out (atT (kdW x.kind)) (.tmp 23) (.tmp 28) rfl rfl (.inr rfl) rfl (by simp) ?_)
  intro u7 v7 tk_ _
  have TK7 := Lib.hid tk_
  clear q0 q1 q2 q3 q4 q5 q6 q7 q8 q9 q10
  clear tk_ TK6
  obtain ⟨q0, q1, q2, q3, q4, q5, q6, q7, q8, q9, q10⟩ := HQ.out _ TK7.out.below
  go_wp2_with fail
  refine (CS.out _ (HB1.out.trans (TK7.out.below.mono (by rw [HZ1.out]; omega)))).mono ?_
  rintro e w8_ ⟨rfl, b_⟩
  have TK8 := Lib.hid (TK7.out.call b_)
  clear q0 q1 q2 q3 q4 q5 q6 q7 q8 q9 q10
  clear b_ TK7
  obtain ⟨q0, q1, q2, q3, q4, q5, q6, q7, q8, q9, q10⟩ := HQ.out _ TK8.out.below
  go_wp2_with fail
  refine (CA.out (setT x.sset) _).mono ?_
  rintro e w9_ ⟨rfl, b_⟩
  have TK9 := Lib.hid (TK8.out.call b_)
  clear q0 q1 q2 q3 q4 q5 q6 q7 q8 q9 q10
  clear b_ TK8
  obtain ⟨q0, q1, q2, q3, q4, q5, q6, q7, q8, q9, q10⟩ := HQ.out _ TK9.out.below
  go_wp2_with (at_builtin; refine wpList_tkc rfl TK9.out (atT (setT x.sset)) (.tmp 34) (.tmp 39) rfl rfl (.inr rfl) rfl (by simp) ?_)
  intro u10 v10 tk_ _
  have TK10 := Lib.hid tk_
  clear q0 q1 q2 q3 q4 q5 q6 q7 q8 q9 q10
  clear tk_ TK9
  obtain ⟨q0, q1, q2, q3, q4, q5, q6, q7, q8, q9, q10⟩ := HQ.out _ TK10.out.below
  have HF := Lib.hid (show TkC W0 _ (cmdTks x) _ from by rw [HV.out]; simpa using TK10.out)
  clear TK10
  go_wp2
  go_ret
  exact ⟨_, rfl, own_lower HF.out.own (by rw [HZ1.out]; omega), HB1.out.trans (HF.out.below.mono (by rw [HZ1.out]; omega))⟩

set_option maxRecDepth 20000 in
set_option maxHeartbeats 12800000 in
theorem spk_c0 (x : CmdD) (a5 a10 : Value) (w : World) (hok : cmdB x = true) (hk : x.kind = 10) (hu : x.uid = false) (ha : LfRd w (spnsLf x.sset) a5) (ha2 : LfRd w (scpsLf x.filter.scopes) a10) (hs : szLs x.lf ≤ 1048576) :
    Calls Tryz.prog 6 #[cmdv x a5 a10] w (TksPost (cmdTks x) w) := by
  have hO := CmdOk.of hok
  obtain ⟨z1, z2, z3, z5, z8, z9, z10⟩ := CmdD.small hs
  have cOK := fun W (h : Below w.heap.size w W) => specCommandOk_at x a5 a10 W (LfRd.below h _ _ ha) (LfRd.below h _ _ ha2) hs
  simp only [hok] at cOK
  have cS := fun W (h : Below w.heap.size w W) => specSetText_any a5 x.sset W (spns_rd (LfRd.below h _ _ ha)) (by omega)
  have CS := Lib.hid cS
  clear cS
  obtain ⟨p, c, rfl, _⟩ := Spn.at ha
  obtain ⟨q, d, rfl, _⟩ := scps_at ha2
  have hbx : boxedB x.kind = true := by unfold boxedB; simp only [Bool.or_eq_true, beq_iff_eq]; omega
  have hst : setsB x.kind = true := by unfold setsB; simp only [Bool.or_eq_true, beq_iff_eq]; omega
  have hnt := tag_ne hO.tag
  have hnk := kdW_ne hO.kind
  have hnb := name_ne (hO.box hbx)
  have ho0 := hO.noTo (by omega)
  have hns := setT_ne (hO.sset hst)
  have hsl := List.length_pos_iff.2 (sset_ne (hO.sset hst))
  have hp0 := hO.noOp (by omega)
  have HL : leadT x = [atT x.tag, atT (kdW x.kind), atT (setT x.sset), atT x.box] := by
    unfold leadT leadS
    rw [ho0, hu, hp0]
    skip
    have e1 : opT 0 = [] := rfl
    skip
    simp [notE_no, notE_yes hnt, notE_yes hnk, notE_yes hnb, notE_yes hns, e1]
  have HTL : tailT x = [] := by
    unfold tailT
    rw [if_neg (by omega), if_neg (by omega), if_neg (by omega)]
    simp
  have HV := Lib.hid (show cmdTks x = leadT x ++ tailT x from by unfold cmdTks; rw [if_pos hok])
  rw [HL, HTL] at HV
  have t8 : (x.kind == 8) = false := by rw [beq_eq_false_iff_ne]; omega
  have t11 : (x.kind == 11) = false := by rw [beq_eq_false_iff_ne]; omega
  have t6 : (x.kind == 6) = false := by rw [beq_eq_false_iff_ne]; omega
  have COK := Lib.hid cOK
  have CK := Lib.hid (fun W => specKindWord_any x.kind W)
  have CO := Lib.hid (fun W => specOpText_any x.op W)
  have CA := Lib.hid (fun s W => l6Atom_any s W)
  have hW0 : ∃ W0, w.alloc (.cells #[sv x.tag, .int .i64 x.kind, sv x.box, sv x.dst, .bool x.uid, .slice p x.sset.length c, .int .i64 x.op, .int .i64 x.flags, sv x.text, .bool x.filter.on, .slice q x.filter.scopes.length d] 36) = W0 := ⟨_, rfl⟩
  obtain ⟨W0, hW0⟩ := hW0
  have HW0 := Lib.hid hW0
  have HB1 := Lib.hid (show Below w.heap.size w W0 from by rw [← hW0]; exact (Below.refl _ _).alloc (Nat.le_refl _) _)
  have hA : W0.heap[w.heap.size]? = some (.cells #[sv x.tag, .int .i64 x.kind, sv x.box, sv x.dst, .bool x.uid, .slice p x.sset.length c, .int .i64 x.op, .int .i64 x.flags, sv x.text, .bool x.filter.on, .slice q x.filter.scopes.length d] 36 (0, 0)) := by rw [← hW0]; exact heap_alloc_new w _
  have HZ1 := Lib.hid (show W0.heap.size = w.heap.size + 1 from by rw [← hW0]; simp)
  rw [ho0, hu, hp0] at hA
  have HQ := Lib.hid (fun (W : World) (hb : Below W0.heap.size W0 W) => (⟨(Lib.cell_of_heap ((hb.block w.heap.size (by rw [HZ1.out]; omega)).trans hA) 0).trans rfl, (Lib.cell_of_heap ((hb.block w.heap.size (by rw [HZ1.out]; omega)).trans hA) 1).trans rfl, (Lib.cell_of_heap ((hb.block w.heap.size (by rw [HZ1.out]; omega)).trans hA) 2).trans rfl, (Lib.cell_of_heap ((hb.block w.heap.size (by rw [HZ1.out]; omega)).trans hA) 3).trans rfl, (Lib.cell_of_heap ((hb.block w.heap.size (by rw [HZ1.out]; omega)).trans hA) 4).trans rfl, (Lib.cell_of_heap ((hb.block w.heap.size (by rw [HZ1.out]; omega)).trans hA) 5).trans rfl, (Lib.cell_of_heap ((hb.block w.heap.size (by rw [HZ1.out]; omega)).trans hA) 6).trans rfl, (Lib.cell_of_heap ((hb.block w.heap.size (by rw [HZ1.out]; omega)).trans hA) 7).trans rfl, (Lib.cell_of_heap ((hb.block w.heap.size (by rw [HZ1.out]; omega)).trans hA) 8).trans rfl, (Lib.cell_of_heap ((hb.block w.heap.size (by rw [HZ1.out]; omega)).trans hA) 9).trans rfl, (Lib.cell_of_heap ((hb.block w.heap.size (by rw [HZ1.out]; omega)).trans hA) 10).trans rfl⟩ : W.cell? ⟨w.heap.size, 0, none⟩ = some (sv x.tag) ∧ W.cell? ⟨w.heap.size, 1, none⟩ = some (.int .i64 x.kind) ∧ W.cell? ⟨w.heap.size, 2, none⟩ = some (sv x.box) ∧ W.cell? ⟨w.heap.size, 3, none⟩ = some (sv []) ∧ W.cell? ⟨w.heap.size, 4, none⟩ = some (.bool false) ∧ W.cell? ⟨w.heap.size, 5, none⟩ = some (.slice p x.sset.length c) ∧ W.cell? ⟨w.heap.size, 6, none⟩ = some (.int .i64 0) ∧ W.cell? ⟨w.heap.size, 7, none⟩ = some (.int .i64 x.flags) ∧ W.cell? ⟨w.heap.size, 8, none⟩ = some (sv x.text) ∧ W.cell? ⟨w.heap.size, 9, none⟩ = some (.bool x.filter.on) ∧ W.cell? ⟨w.heap.size, 10, none⟩ = some (.slice q x.filter.scopes.length d)))
  have hbne : ¬ x.box = [] := hnb
  have hbie := List.isEmpty_eq_false_iff.2 hnb
  clear hnb
  have hsl2 : (0 : Int) < (x.sset.length : Int) := by omega
  clear hsl hns
  clear cOK ha ha2 hs hok hO z1 z2 z3 z5 z8 z9 z10 hbx hst hnt hnk HL HTL hW0 hA hk
  clear hu
  clear ho0
  clear hp0
  go_enter Tryz.func6, Tryz.ntmps6
  go_wp2_with fail
  rw [HW0.out]
  have hbA : Below W0.heap.size W0 (W0.alloc (.cells #[] 48)) := (Below.refl _ _).alloc (Nat.le_refl _) _
  have HO0 := Lib.hid (show (W0.alloc (.cells #[] 48)).ownsRow W0.heap.size 48 2 (.slice (some ⟨w.heap.size + 1, 0, none⟩) 0 0) 0 [] by rw [← HZ1.out]; exact World.ownsRow_made W0 #[] 0 (Nat.le_refl _) (by unfold maxLen; omega) rfl)
  refine (COK.out _ (HB1.out.trans (hbA.mono (by rw [HZ1.out]; omega)))).mono ?_
  rintro e w1 ⟨rfl, b1⟩
  have TK0 := Lib.hid ((show TkC W0 (.slice (some ⟨w.heap.size + 1, 0, none⟩) 0 0) [] (W0.alloc (.cells #[] 48)) from ⟨HO0.out, hbA⟩).call b1)
  clear b1 hbA HO0 COK
  obtain ⟨q0, q1, q2, q3, q4, q5, q6, q7, q8, q9, q10⟩ := HQ.out _ TK0.out.below
  go_wp2_with fail
  refine (CA.out x.tag _).mono ?_
  rintro e w1_ ⟨rfl, b_⟩
  have TK1 := Lib.hid (TK0.out.call b_)
  clear q0 q1 q2 q3 q4 q5 q6 q7 q8 q9 q10
  clear b_ TK0
  obtain ⟨q0, q1, q2, q3, q4, q5, q6, q7, q8, q9, q10⟩ := HQ.out _ TK1.out.below
  go_wp2_with (at_builtin; refine wpList_tkc rfl TK1.out (atT x.tag) (.tmp 11) (.tmp 15) rfl rfl (.inr rfl) rfl (by simp) ?_)
  intro u2 v2 tk_ _
  have TK2 := Lib.hid tk_
  clear q0 q1 q2 q3 q4 q5 q6 q7 q8 q9 q10
  clear tk_ TK1
  obtain ⟨q0, q1, q2, q3, q4, q5, q6, q7, q8, q9, q10⟩ := HQ.out _ TK2.out.below
  go_wp2_with fail
  refine (CK.out _).mono ?_
  rintro e w3_ ⟨rfl, b_⟩
  have TK3 := Lib.hid (TK2.out.call b_)
  clear q0 q1 q2 q3 q4 q5 q6 q7 q8 q9 q10
  clear b_ TK2
  obtain ⟨q0, q1, q2, q3, q4, q5, q6, q7, q8, q9, q10⟩ := HQ.out _ TK3.out.below
  go_wp2_with fail
  refine (CA.out (kdW x.kind) _).mono ?_
  rintro e w4_ ⟨rfl, b_⟩
  have TK4 := Lib.hid (TK3.out.call b_)
  clear q0 q1 q2 q3 q4 q5 q6 q7 q8 q9 q10
  clear b_ TK3
  obtain ⟨q0, q1, q2, q3, q4, q5, q6, q7, q8, q9, q10⟩ := HQ.out _ TK4.out.below
  go_wp2_with (at_builtin; refine wpList_tkc rfl TK4.out (atT (kdW x.kind)) (.tmp 23) (.tmp 28) rfl rfl (.inr rfl) rfl (by simp) ?_)
  intro u5 v5 tk_ _
  have TK5 := Lib.hid tk_
  clear q0 q1 q2 q3 q4 q5 q6 q7 q8 q9 q10
  clear tk_ TK4
  obtain ⟨q0, q1, q2, q3, q4, q5, q6, q7, q8, q9, q10⟩ := HQ.out _ TK5.out.below
  go_wp2_with fail
  refine (CS.out _ (HB1.out.trans (TK5.out.below.mono (by rw [HZ1.out]; omega)))).mono ?_
  rintro e w6_ ⟨rfl, b_⟩
  have TK6 := Lib.hid (TK5.out.call b_)
  clear q0 q1 q2 q3 q4 q5 q6 q7 q8 q9 q10
  clear b_ TK5
  obtain ⟨q0, q1, q2, q3, q4, q5, q6, q7, q8, q9, q10⟩ := HQ.out _ TK6.out.below
  go_wp2_with fail
  refine (CA.out (setT x.sset) _).mono ?_
  rintro e w7_ ⟨rfl, b_⟩
  have TK7 := Lib.hid (TK6.out.call b_)
  clear q0 q1 q2 q3 q4 q5 q6 q7 q8 q9 q10
  clear b_ TK6
  obtain ⟨q0, q1, q2, q3, q4, q5, q6, q7, q8, q9, q10⟩ := HQ.out _ TK7.out.below
  go_wp2_with (at_builtin; refine wpList_tkc rfl TK7.out (atT (setT x.sset)) (.tmp 34) (.tmp 39) rfl rfl (.inr rfl) rfl (by simp) ?_)
  intro u8 v8 tk_ _
  have TK8 := Lib.hid tk_
  clear q0 q1 q2 q3 q4 q5 q6 q7 q8 q9 q10
  clear tk_ TK7
  obtain ⟨q0, q1, q2, q3, q4, q5, q6, q7, q8, q9, q10⟩ := HQ.out _ TK8.out.below
  go_wp2_with fail
  refine (CA.out x.box _).mono ?_
  rintro e w9_ ⟨rfl, b_⟩
  have TK9 := Lib.hid (TK8.out.call b_)
  clear q0 q1 q2 q3 q4 q5 q6 q7 q8 q9 q10
  clear b_ TK8
  obtain ⟨q0, q1, q2, q3, q4, q5, q6, q7, q8, q9, q10⟩ := HQ.out _ TK9.out.below
  go_wp2_with (at_builtin; refine wpList_tkc rfl TK9.out (atT x.box) (.tmp 54) (.tmp 58) rfl rfl (.inr rfl) rfl (by simp) ?_)
  intro u10 v10 tk_ _
  have TK10 := Lib.hid tk_
  clear q0 q1 q2 q3 q4 q5 q6 q7 q8 q9 q10
  clear tk_ TK9
  obtain ⟨q0, q1, q2, q3, q4, q5, q6, q7, q8, q9, q10⟩ := HQ.out _ TK10.out.below
  have HF := Lib.hid (show TkC W0 _ (cmdTks x) _ from by rw [HV.out]; simpa using TK10.out)
  clear TK10
  go_wp2
  go_ret
  exact ⟨_, rfl, own_lower HF.out.own (by rw [HZ1.out]; omega), HB1.out.trans (HF.out.below.mono (by rw [HZ1.out]; omega))⟩

set_option maxRecDepth 20000 in
set_option maxHeartbeats 12800000 in
theorem spk_c1 (x : CmdD) (a5 a10 : Value) (w : World) (hok : cmdB x = true) (hk : x.kind = 10) (hu : x.uid = true) (ha : LfRd w (spnsLf x.sset) a5) (ha2 : LfRd w (scpsLf x.filter.scopes) a10) (hs : szLs x.lf ≤ 1048576) :
    Calls Tryz.prog 6 #[cmdv x a5 a10] w (TksPost (cmdTks x) w) := by
  have hO := CmdOk.of hok
  obtain ⟨z1, z2, z3, z5, z8, z9, z10⟩ := CmdD.small hs
  have cOK := fun W (h : Below w.heap.size w W) => specCommandOk_at x a5 a10 W (LfRd.below h _ _ ha) (LfRd.below h _ _ ha2) hs
  simp only [hok] at cOK
  have cS := fun W (h : Below w.heap.size w W) => specSetText_any a5 x.sset W (spns_rd (LfRd.below h _ _ ha)) (by omega)
  have CS := Lib.hid cS
  clear cS
  obtain ⟨p, c, rfl, _⟩ := Spn.at ha
  obtain ⟨q, d, rfl, _⟩ := scps_at ha2
  have hbx : boxedB x.kind = true := by unfold boxedB; simp only [Bool.or_eq_true, beq_iff_eq]; omega
  have hst : setsB x.kind = true := by unfold setsB; simp only [Bool.or_eq_true, beq_iff_eq]; omega
  have hnt := tag_ne hO.tag
  have hnk := kdW_ne hO.kind
  have hnb := name_ne (hO.box hbx)
  have ho0 := hO.noTo (by omega)
  have hns := setT_ne (hO.sset hst)
  have hsl := List.length_pos_iff.2 (sset_ne (hO.sset hst))
  have hp0 := hO.noOp (by omega)
  have HL : leadT x = [atT x.tag, atT uidW, atT (kdW x.kind), atT (setT x.sset), atT x.box] := by
    unfold leadT leadS
    rw [ho0, hu, hp0]
    skip
    have e1 : opT 0 = [] := rfl
    have eu : notE uidW = true := rfl
    simp [notE_no, notE_yes hnt, notE_yes hnk, notE_yes hnb, notE_yes hns, e1, eu]
  have HTL : tailT x = [] := by
    unfold tailT
    rw [if_neg (by omega), if_neg (by omega), if_neg (by omega)]
    simp
  have HV := Lib.hid (show cmdTks x = leadT x ++ tailT x from by unfold cmdTks; rw [if_pos hok])
  rw [HL, HTL] at HV
  have t8 : (x.kind == 8) = false := by rw [beq_eq_false_iff_ne]; omega
  have t11 : (x.kind == 11) = false := by rw [beq_eq_false_iff_ne]; omega
  have t6 : (x.kind == 6) = false := by rw [beq_eq_false_iff_ne]; omega
  have COK := Lib.hid cOK
  have CK := Lib.hid (fun W => specKindWord_any x.kind W)
  have CO := Lib.hid (fun W => specOpText_any x.op W)
  have CA := Lib.hid (fun s W => l6Atom_any s W)
  have hW0 : ∃ W0, w.alloc (.cells #[sv x.tag, .int .i64 x.kind, sv x.box, sv x.dst, .bool x.uid, .slice p x.sset.length c, .int .i64 x.op, .int .i64 x.flags, sv x.text, .bool x.filter.on, .slice q x.filter.scopes.length d] 36) = W0 := ⟨_, rfl⟩
  obtain ⟨W0, hW0⟩ := hW0
  have HW0 := Lib.hid hW0
  have HB1 := Lib.hid (show Below w.heap.size w W0 from by rw [← hW0]; exact (Below.refl _ _).alloc (Nat.le_refl _) _)
  have hA : W0.heap[w.heap.size]? = some (.cells #[sv x.tag, .int .i64 x.kind, sv x.box, sv x.dst, .bool x.uid, .slice p x.sset.length c, .int .i64 x.op, .int .i64 x.flags, sv x.text, .bool x.filter.on, .slice q x.filter.scopes.length d] 36 (0, 0)) := by rw [← hW0]; exact heap_alloc_new w _
  have HZ1 := Lib.hid (show W0.heap.size = w.heap.size + 1 from by rw [← hW0]; simp)
  rw [ho0, hu, hp0] at hA
  have HQ := Lib.hid (fun (W : World) (hb : Below W0.heap.size W0 W) => (⟨(Lib.cell_of_heap ((hb.block w.heap.size (by rw [HZ1.out]; omega)).trans hA) 0).trans rfl, (Lib.cell_of_heap ((hb.block w.heap.size (by rw [HZ1.out]; omega)).trans hA) 1).trans rfl, (Lib.cell_of_heap ((hb.block w.heap.size (by rw [HZ1.out]; omega)).trans hA) 2).trans rfl, (Lib.cell_of_heap ((hb.block w.heap.size (by rw [HZ1.out]; omega)).trans hA) 3).trans rfl, (Lib.cell_of_heap ((hb.block w.heap.size (by rw [HZ1.out]; omega)).trans hA) 4).trans rfl, (Lib.cell_of_heap ((hb.block w.heap.size (by rw [HZ1.out]; omega)).trans hA) 5).trans rfl, (Lib.cell_of_heap ((hb.block w.heap.size (by rw [HZ1.out]; omega)).trans hA) 6).trans rfl, (Lib.cell_of_heap ((hb.block w.heap.size (by rw [HZ1.out]; omega)).trans hA) 7).trans rfl, (Lib.cell_of_heap ((hb.block w.heap.size (by rw [HZ1.out]; omega)).trans hA) 8).trans rfl, (Lib.cell_of_heap ((hb.block w.heap.size (by rw [HZ1.out]; omega)).trans hA) 9).trans rfl, (Lib.cell_of_heap ((hb.block w.heap.size (by rw [HZ1.out]; omega)).trans hA) 10).trans rfl⟩ : W.cell? ⟨w.heap.size, 0, none⟩ = some (sv x.tag) ∧ W.cell? ⟨w.heap.size, 1, none⟩ = some (.int .i64 x.kind) ∧ W.cell? ⟨w.heap.size, 2, none⟩ = some (sv x.box) ∧ W.cell? ⟨w.heap.size, 3, none⟩ = some (sv []) ∧ W.cell? ⟨w.heap.size, 4, none⟩ = some (.bool true) ∧ W.cell? ⟨w.heap.size, 5, none⟩ = some (.slice p x.sset.length c) ∧ W.cell? ⟨w.heap.size, 6, none⟩ = some (.int .i64 0) ∧ W.cell? ⟨w.heap.size, 7, none⟩ = some (.int .i64 x.flags) ∧ W.cell? ⟨w.heap.size, 8, none⟩ = some (sv x.text) ∧ W.cell? ⟨w.heap.size, 9, none⟩ = some (.bool x.filter.on) ∧ W.cell? ⟨w.heap.size, 10, none⟩ = some (.slice q x.filter.scopes.length d)))
  have hbne : ¬ x.box = [] := hnb
  have hbie := List.isEmpty_eq_false_iff.2 hnb
  clear hnb
  have hsl2 : (0 : Int) < (x.sset.length : Int) := by omega
  clear hsl hns
  clear cOK ha ha2 hs hok hO z1 z2 z3 z5 z8 z9 z10 hbx hst hnt hnk HL HTL hW0 hA hk
  clear hu
  clear ho0
  clear hp0
  go_enter Tryz.func6, Tryz.ntmps6
  go_wp2_with fail
  rw [HW0.out]
  have hbA : Below W0.heap.size W0 (W0.alloc (.cells #[] 48)) := (Below.refl _ _).alloc (Nat.le_refl _) _
  have HO0 := Lib.hid (show (W0.alloc (.cells #[] 48)).ownsRow W0.heap.size 48 2 (.slice (some ⟨w.heap.size + 1, 0, none⟩) 0 0) 0 [] by rw [← HZ1.out]; exact World.ownsRow_made W0 #[] 0 (Nat.le_refl _) (by unfold maxLen; omega) rfl)
  refine (COK.out _ (HB1.out.trans (hbA.mono (by rw [HZ1.out]; omega)))).mono ?_
  rintro e w1 ⟨rfl, b1⟩
  have TK0 := Lib.hid ((show TkC W0 (.slice (some ⟨w.heap.size + 1, 0, none⟩) 0 0) [] (W0.alloc (.cells #[] 48)) from ⟨HO0.out, hbA⟩).call b1)
  clear b1 hbA HO0 COK
  obtain ⟨q0, q1, q2, q3, q4, q5, q6, q7, q8, q9, q10⟩ := HQ.out _ TK0.out.below
  go_wp2_with fail
  refine (CA.out x.tag _).mono ?_
  rintro e w1_ ⟨rfl, b_⟩
  have TK1 := Lib.hid (TK0.out.call b_)
  clear q0 q1 q2 q3 q4 q5 q6 q7 q8 q9 q10
  clear b_ TK0
  obtain ⟨q0, q1, q2, q3, q4, q5, q6, q7, q8, q9, q10⟩ := HQ.out _ TK1.out.below
  go_wp2_with (at_builtin; refine wpList_tkc rfl TK1.out (atT x.tag) (.tmp 11) (.tmp 15) rfl rfl (.inr rfl) rfl (by simp) ?_)
  intro u2 v2 tk_ _
  have TK2 := Lib.hid tk_
  clear q0 q1 q2 q3 q4 q5 q6 q7 q8 q9 q10
  clear tk_ TK1
  obtain ⟨q0, q1, q2, q3, q4, q5, q6, q7, q8, q9, q10⟩ := HQ.out _ TK2.out.below
  go_wp2_with fail
  refine (CA.out uidW _).mono ?_
  rintro e w3_ ⟨rfl, b_⟩
  have TK3 := Lib.hid (TK2.out.call b_)
  clear q0 q1 q2 q3 q4 q5 q6 q7 q8 q9 q10
  clear b_ TK2
  obtain ⟨q0, q1, q2, q3, q4, q5, q6, q7, q8, q9, q10⟩ := HQ.out _ TK3.out.below
  go_wp2_with (at_builtin; refine wpList_tkc rfl TK3.out (atT uidW) (.tmp 19) (.tmp 21) rfl rfl (.inr rfl) rfl (by simp) ?_)
  intro u4 v4 tk_ _
  have TK4 := Lib.hid tk_
  clear q0 q1 q2 q3 q4 q5 q6 q7 q8 q9 q10
  clear tk_ TK3
  obtain ⟨q0, q1, q2, q3, q4, q5, q6, q7, q8, q9, q10⟩ := HQ.out _ TK4.out.below
  go_wp2_with fail
  refine (CK.out _).mono ?_
  rintro e w5_ ⟨rfl, b_⟩
  have TK5 := Lib.hid (TK4.out.call b_)
  clear q0 q1 q2 q3 q4 q5 q6 q7 q8 q9 q10
  clear b_ TK4
  obtain ⟨q0, q1, q2, q3, q4, q5, q6, q7, q8, q9, q10⟩ := HQ.out _ TK5.out.below
  go_wp2_with fail
  refine (CA.out (kdW x.kind) _).mono ?_
  rintro e w6_ ⟨rfl, b_⟩
  have TK6 := Lib.hid (TK5.out.call b_)
  clear q0 q1 q2 q3 q4 q5 q6 q7 q8 q9 q10
  clear b_ TK5
  obtain ⟨q0, q1, q2, q3, q4, q5, q6, q7, q8, q9, q10⟩ := HQ.out _ TK6.out.below
  go_wp2_with (at_builtin; refine wpList_tkc rfl TK6.out (atT (kdW x.kind)) (.tmp 23) (.tmp 28) rfl rfl (.inr rfl) rfl (by simp) ?_)
  intro u7 v7 tk_ _
  have TK7 := Lib.hid tk_
  clear q0 q1 q2 q3 q4 q5 q6 q7 q8 q9 q10
  clear tk_ TK6
  obtain ⟨q0, q1, q2, q3, q4, q5, q6, q7, q8, q9, q10⟩ := HQ.out _ TK7.out.below
  go_wp2_with fail
  refine (CS.out _ (HB1.out.trans (TK7.out.below.mono (by rw [HZ1.out]; omega)))).mono ?_
  rintro e w8_ ⟨rfl, b_⟩
  have TK8 := Lib.hid (TK7.out.call b_)
  clear q0 q1 q2 q3 q4 q5 q6 q7 q8 q9 q10
  clear b_ TK7
  obtain ⟨q0, q1, q2, q3, q4, q5, q6, q7, q8, q9, q10⟩ := HQ.out _ TK8.out.below
  go_wp2_with fail
  refine (CA.out (setT x.sset) _).mono ?_
  rintro e w9_ ⟨rfl, b_⟩
  have TK9 := Lib.hid (TK8.out.call b_)
  clear q0 q1 q2 q3 q4 q5 q6 q7 q8 q9 q10
  clear b_ TK8
  obtain ⟨q0, q1, q2, q3, q4, q5, q6, q7, q8, q9, q10⟩ := HQ.out _ TK9.out.below
  go_wp2_with (at_builtin; refine wpList_tkc rfl TK9.out (atT (setT x.sset)) (.tmp 34) (.tmp 39) rfl rfl (.inr rfl) rfl (by simp) ?_)
  intro u10 v10 tk_ _
  have TK10 := Lib.hid tk_
  clear q0 q1 q2 q3 q4 q5 q6 q7 q8 q9 q10
  clear tk_ TK9
  obtain ⟨q0, q1, q2, q3, q4, q5, q6, q7, q8, q9, q10⟩ := HQ.out _ TK10.out.below
  go_wp2_with fail
  refine (CA.out x.box _).mono ?_
  rintro e w11_ ⟨rfl, b_⟩
  have TK11 := Lib.hid (TK10.out.call b_)
  clear q0 q1 q2 q3 q4 q5 q6 q7 q8 q9 q10
  clear b_ TK10
  obtain ⟨q0, q1, q2, q3, q4, q5, q6, q7, q8, q9, q10⟩ := HQ.out _ TK11.out.below
  go_wp2_with (at_builtin; refine wpList_tkc rfl TK11.out (atT x.box) (.tmp 54) (.tmp 58) rfl rfl (.inr rfl) rfl (by simp) ?_)
  intro u12 v12 tk_ _
  have TK12 := Lib.hid tk_
  clear q0 q1 q2 q3 q4 q5 q6 q7 q8 q9 q10
  clear tk_ TK11
  obtain ⟨q0, q1, q2, q3, q4, q5, q6, q7, q8, q9, q10⟩ := HQ.out _ TK12.out.below
  have HF := Lib.hid (show TkC W0 _ (cmdTks x) _ from by rw [HV.out]; simpa using TK12.out)
  clear TK12
  go_wp2
  go_ret
  exact ⟨_, rfl, own_lower HF.out.own (by rw [HZ1.out]; omega), HB1.out.trans (HF.out.below.mono (by rw [HZ1.out]; omega))⟩

set_option maxRecDepth 20000 in
set_option maxHeartbeats 12800000 in
theorem spk_y (x : CmdD) (a5 a10 : Value) (w : World) (hok : cmdB x = true) (hk : x.kind = 6) (ha : LfRd w (spnsLf x.sset) a5) (ha2 : LfRd w (scpsLf x.filter.scopes) a10) (hs : szLs x.lf ≤ 1048576) :
    Calls Tryz.prog 6 #[cmdv x a5 a10] w (TksPost (cmdTks x) w) := by
  have hO := CmdOk.of hok
  obtain ⟨z1, z2, z3, z5, z8, z9, z10⟩ := CmdD.small hs
  have cOK := fun W (h : Below w.heap.size w W) => specCommandOk_at x a5 a10 W (LfRd.below h _ _ ha) (LfRd.below h _ _ ha2) hs
  simp only [hok] at cOK
  have cF := fun W (h : Below w.heap.size w W) => specFilterTokens_any x.filter a10 W (LfRd.below h _ _ ha2) (by omega) (fun s hm => ⟨by have := (z10 s hm).1; omega, fun y hy => by have := (z10 s hm).2 y hy; omega⟩)
  have CF := Lib.hid cF
  clear cF
  obtain ⟨p, c, rfl, _⟩ := Spn.at ha
  obtain ⟨q, d, rfl, _⟩ := scps_at ha2
  have hbx : boxedB x.kind = false := by unfold boxedB; simp only [Bool.or_eq_false_iff, beq_eq_false_iff_ne]; omega
  have hst : setsB x.kind = false := by unfold setsB; simp only [Bool.or_eq_false_iff, beq_eq_false_iff_ne]; omega
  have hnt := tag_ne hO.tag
  have hnk := kdW_ne hO.kind
  have hb0 := hO.noBox hbx
  have ho0 := hO.noTo (by omega)
  have hu := hO.noUid hst
  have hs0 := hO.noSet hst
  have hp0 := hO.noOp (by omega)
  have HL : leadT x = [atT x.tag, atT (kdW x.kind)] := by
    unfold leadT leadS
    rw [hb0, ho0, hs0, hu, hp0]
    have e0 : setT [] = [] := rfl
    have e1 : opT 0 = [] := rfl
    skip
    simp [notE_no, notE_yes hnt, notE_yes hnk, e0, e1]
  have HTL : tailT x = fTks x.filter := by
    unfold tailT
    rw [if_neg (by omega), if_neg (by omega), if_pos (by omega)]
    simp
  have HV := Lib.hid (show cmdTks x = leadT x ++ tailT x from by unfold cmdTks; rw [if_pos hok])
  rw [HL, HTL] at HV
  have t8 : (x.kind == 8) = false := by rw [beq_eq_false_iff_ne]; omega
  have t11 : (x.kind == 11) = false := by rw [beq_eq_false_iff_ne]; omega
  have t6 : (x.kind == 6) = true := by rw [beq_iff_eq]; omega
  have COK := Lib.hid cOK
  have CK := Lib.hid (fun W => specKindWord_any x.kind W)
  have CO := Lib.hid (fun W => specOpText_any x.op W)
  have CA := Lib.hid (fun s W => l6Atom_any s W)
  have hW0 : ∃ W0, w.alloc (.cells #[sv x.tag, .int .i64 x.kind, sv x.box, sv x.dst, .bool x.uid, .slice p x.sset.length c, .int .i64 x.op, .int .i64 x.flags, sv x.text, .bool x.filter.on, .slice q x.filter.scopes.length d] 36) = W0 := ⟨_, rfl⟩
  obtain ⟨W0, hW0⟩ := hW0
  have HW0 := Lib.hid hW0
  have HB1 := Lib.hid (show Below w.heap.size w W0 from by rw [← hW0]; exact (Below.refl _ _).alloc (Nat.le_refl _) _)
  have hA : W0.heap[w.heap.size]? = some (.cells #[sv x.tag, .int .i64 x.kind, sv x.box, sv x.dst, .bool x.uid, .slice p x.sset.length c, .int .i64 x.op, .int .i64 x.flags, sv x.text, .bool x.filter.on, .slice q x.filter.scopes.length d] 36 (0, 0)) := by rw [← hW0]; exact heap_alloc_new w _
  have HZ1 := Lib.hid (show W0.heap.size = w.heap.size + 1 from by rw [← hW0]; simp)
  rw [hb0, ho0, hs0, hu, hp0] at hA
  have HQ := Lib.hid (fun (W : World) (hb : Below W0.heap.size W0 W) => (⟨(Lib.cell_of_heap ((hb.block w.heap.size (by rw [HZ1.out]; omega)).trans hA) 0).trans rfl, (Lib.cell_of_heap ((hb.block w.heap.size (by rw [HZ1.out]; omega)).trans hA) 1).trans rfl, (Lib.cell_of_heap ((hb.block w.heap.size (by rw [HZ1.out]; omega)).trans hA) 2).trans rfl, (Lib.cell_of_heap ((hb.block w.heap.size (by rw [HZ1.out]; omega)).trans hA) 3).trans rfl, (Lib.cell_of_heap ((hb.block w.heap.size (by rw [HZ1.out]; omega)).trans hA) 4).trans rfl, (Lib.cell_of_heap ((hb.block w.heap.size (by rw [HZ1.out]; omega)).trans hA) 5).trans rfl, (Lib.cell_of_heap ((hb.block w.heap.size (by rw [HZ1.out]; omega)).trans hA) 6).trans rfl, (Lib.cell_of_heap ((hb.block w.heap.size (by rw [HZ1.out]; omega)).trans hA) 7).trans rfl, (Lib.cell_of_heap ((hb.block w.heap.size (by rw [HZ1.out]; omega)).trans hA) 8).trans rfl, (Lib.cell_of_heap ((hb.block w.heap.size (by rw [HZ1.out]; omega)).trans hA) 9).trans rfl, (Lib.cell_of_heap ((hb.block w.heap.size (by rw [HZ1.out]; omega)).trans hA) 10).trans rfl⟩ : W.cell? ⟨w.heap.size, 0, none⟩ = some (sv x.tag) ∧ W.cell? ⟨w.heap.size, 1, none⟩ = some (.int .i64 x.kind) ∧ W.cell? ⟨w.heap.size, 2, none⟩ = some (sv []) ∧ W.cell? ⟨w.heap.size, 3, none⟩ = some (sv []) ∧ W.cell? ⟨w.heap.size, 4, none⟩ = some (.bool false) ∧ W.cell? ⟨w.heap.size, 5, none⟩ = some (.slice p 0 c) ∧ W.cell? ⟨w.heap.size, 6, none⟩ = some (.int .i64 0) ∧ W.cell? ⟨w.heap.size, 7, none⟩ = some (.int .i64 x.flags) ∧ W.cell? ⟨w.heap.size, 8, none⟩ = some (sv x.text) ∧ W.cell? ⟨w.heap.size, 9, none⟩ = some (.bool x.filter.on) ∧ W.cell? ⟨w.heap.size, 10, none⟩ = some (.slice q x.filter.scopes.length d)))
  clear cOK ha ha2 hs hok hO z1 z2 z3 z5 z8 z9 z10 hbx hst hnt hnk HL HTL hW0 hA hk
  clear hs0
  clear hu
  clear hb0
  clear ho0
  clear hp0
  go_enter Tryz.func6, Tryz.ntmps6
  go_wp2_with fail
  rw [HW0.out]
  have hbA : Below W0.heap.size W0 (W0.alloc (.cells #[] 48)) := (Below.refl _ _).alloc (Nat.le_refl _) _
  have HO0 := Lib.hid (show (W0.alloc (.cells #[] 48)).ownsRow W0.heap.size 48 2 (.slice (some ⟨w.heap.size + 1, 0, none⟩) 0 0) 0 [] by rw [← HZ1.out]; exact World.ownsRow_made W0 #[] 0 (Nat.le_refl _) (by unfold maxLen; omega) rfl)
  refine (COK.out _ (HB1.out.trans (hbA.mono (by rw [HZ1.out]; omega)))).mono ?_
  rintro e w1 ⟨rfl, b1⟩
  have TK0 := Lib.hid ((show TkC W0 (.slice (some ⟨w.heap.size + 1, 0, none⟩) 0 0) [] (W0.alloc (.cells #[] 48)) from ⟨HO0.out, hbA⟩).call b1)
  clear b1 hbA HO0 COK
  obtain ⟨q0, q1, q2, q3, q4, q5, q6, q7, q8, q9, q10⟩ := HQ.out _ TK0.out.below
  go_wp2_with fail
  refine (CA.out x.tag _).mono ?_
  rintro e w1_ ⟨rfl, b_⟩
  have TK1 := Lib.hid (TK0.out.call b_)
  clear q0 q1 q2 q3 q4 q5 q6 q7 q8 q9 q10
  clear b_ TK0
  obtain ⟨q0, q1, q2, q3, q4, q5, q6, q7, q8, q9, q10⟩ := HQ.out _ TK1.out.below
  go_wp2_with (at_builtin; refine wpList_tkc rfl TK1.out (atT x.tag) (.tmp 11) (.tmp 15) rfl rfl (.inr rfl) rfl (by simp) ?_)
  intro u2 v2 tk_ _
  have TK2 := Lib.hid tk_
  clear q0 q1 q2 q3 q4 q5 q6 q7 q8 q9 q10
  clear tk_ TK1
  obtain ⟨q0, q1, q2, q3, q4, q5, q6, q7, q8, q9, q10⟩ := HQ.out _ TK2.out.below
  go_wp2_with fail
  refine (CK.out _).mono ?_
  rintro e w3_ ⟨rfl, b_⟩
  have TK3 := Lib.hid (TK2.out.call b_)
  clear q0 q1 q2 q3 q4 q5 q6 q7 q8 q9 q10
  clear b_ TK2
  obtain ⟨q0, q1, q2, q3, q4, q5, q6, q7, q8, q9, q10⟩ := HQ.out _ TK3.out.below
  go_wp2_with fail
  refine (CA.out (kdW x.kind) _).mono ?_
  rintro e w4_ ⟨rfl, b_⟩
  have TK4 := Lib.hid (TK3.out.call b_)
  clear q0 q1 q2 q3 q4 q5 q6 q7 q8 q9 q10
  clear b_ TK3
  obtain ⟨q0, q1, q2, q3, q4, q5, q6, q7, q8, q9, q10⟩ := HQ.out _ TK4.out.below
  go_wp2_with (at_builtin; refine wpList_tkc rfl TK4.out (atT (kdW x.kind)) (.tmp 23) (.tmp 28) rfl rfl (.inr rfl) rfl (by simp) ?_)
  intro u5 v5 tk_ _
  have TK5 := Lib.hid tk_
  clear q0 q1 q2 q3 q4 q5 q6 q7 q8 q9 q10
  clear tk_ TK4
  obtain ⟨q0, q1, q2, q3, q4, q5, q6, q7, q8, q9, q10⟩ := HQ.out _ TK5.out.below
  go_wp2_with fail
  refine (CF.out _ (HB1.out.trans (TK5.out.below.mono (by rw [HZ1.out]; omega)))).mono ?_
  rintro e w6_ ⟨vf, rfl, ow, b_⟩
  have TK6 := Lib.hid (TK5.out.call b_)
  have RF := Lib.hid (show Rd 2 tokc _ vf (fTks x.filter) from Rd.of_own (enc := tokc) (fun _ => rfl) rfl ow)
  have HFL := Lib.hid (fTks_len x.filter)
  clear q0 q1 q2 q3 q4 q5 q6 q7 q8 q9 q10
  clear b_ TK5 ow
  go_wp2_with (at_builtin; refine wpList_tkcR rfl TK6.out (fTks x.filter) (.tmp 120) (.tmp 123) rfl rfl vf rfl RF.out (by have := HFL.out; simp; omega) ?_)
  intro u7 v7 tk_
  have TK7 := Lib.hid tk_
  clear tk_ TK6
  obtain ⟨q0, q1, q2, q3, q4, q5, q6, q7, q8, q9, q10⟩ := HQ.out _ TK7.out.below
  have HF := Lib.hid (show TkC W0 _ (cmdTks x) _ from by rw [HV.out]; simpa using TK7.out)
  clear TK7
  go_wp2
  go_ret
  exact ⟨_, rfl, own_lower HF.out.own (by rw [HZ1.out]; omega), HB1.out.trans (HF.out.below.mono (by rw [HZ1.out]; omega))⟩

end Go.Proofs.YtidjebepgpbcnaaGreatDoor
