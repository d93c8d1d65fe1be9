/-
  Ux: CmdTc (what the claim needs of them).
-/
import Derived.Handy
import Derived.Laws.IdiomRangeMap
import Derived.Maps.RangeRun
import Derived.WalkKit
import Derived.Maps.RangeWalk
import Derived.Deep.DeepCutAuto
import Derived.Deep.Cut
import Derived.Deep.CutRange
import Derived.Lib.Fields
import Derived.Lib.OwnKind
import Derived.Deep.LoopGhost
import Derived.Test.YtidjebepgpbcnaaGreatDoorRows
import Derived.WalkSpells
import Derived.WalkLawsBesides
import Derived.Laws.IdiomStrings
import Derived.Lib.Hide
import Derived.Deep.AppendLies
import Derived.OrdersHeld
import Derived.Lib.ItoaNum
import Derived.Lib.ItoaMem
import Derived.Lib.AppendStr
import Derived.Lib.ItoaLen
import Derived.Lib.Strings
import Derived.Lib.Bytealg
import Derived.Lib.OthersKept
import Derived.Laws.RangeAny
import Derived.Laws.BitsAllLaws
import Derived.Laws.BitsLemmas
import Derived.IntWalk
import Derived.Lib.Join
import Derived.Deep.Strs
import Derived.ProofKit
import Derived.Lib.SmallJoins
import Derived.Deep.SlicePairs
import Derived.Laws.CopyOwn
import Derived.Test.YtidjebepgpbcnaaGreatDoorProg
import Derived.Lib.LaidTab
import Derived.Lib.AppendIntMem
import Derived.OpenShut
import Derived.WalkSmall
import Derived.ChangeKeysEq
import Derived.Test.YtidjebepgpbcnaaGreatDoorUb
import Derived.Test.YtidjebepgpbcnaaGreatDoorUc
import Derived.Test.YtidjebepgpbcnaaGreatDoorUd
import Derived.Test.YtidjebepgpbcnaaGreatDoorUe
import Derived.Test.YtidjebepgpbcnaaGreatDoorUf
import Derived.Test.YtidjebepgpbcnaaGreatDoorUg
import Derived.Test.YtidjebepgpbcnaaGreatDoorUj
import Derived.Test.YtidjebepgpbcnaaGreatDoorUr
import Derived.Test.YtidjebepgpbcnaaGreatDoorUs
import Derived.Test.YtidjebepgpbcnaaGreatDoorUt
import Derived.Test.YtidjebepgpbcnaaGreatDoorUu

namespace Go.Proofs.YtidjebepgpbcnaaGreatDoor
open Go.RowKit

set_option maxRecDepth 20000 in
set_option maxHeartbeats 12800000 in
theorem spk_a0 (x : CmdD) (a5 a10 : Value) (w : World) (hok : cmdB x = true) (hk : x.kind = 11) (hf : x.flags = 0) (ha : LfRd w (spnsLf x.sset) a5) (ha2 : LfRd w (scpsLf x.filter.scopes) a10) (hs : szLs x.lf ≤ 1048576) :
    Calls Tryz.prog 6 #[cmdv x a5 a10] w (TksPost (cmdTks x) w) := by
  have hO := CmdOk.of hok
  obtain ⟨z1, z2, z3, z5, z8, z9, z10⟩ := CmdD.small hs
  have cOK := fun W (h : Below w.heap.size w W) => specCommandOk_at x a5 a10 W (LfRd.below h _ _ ha) (LfRd.below h _ _ ha2) hs
  simp only [hok] at cOK
  obtain ⟨p, c, rfl, _⟩ := Spn.at ha
  obtain ⟨q, d, rfl, _⟩ := scps_at ha2
  have hbx : boxedB x.kind = true := by unfold boxedB; simp only [Bool.or_eq_true, beq_iff_eq]; omega
  have hst : setsB x.kind = false := by unfold setsB; simp only [Bool.or_eq_false_iff, beq_eq_false_iff_ne]; omega
  have hnt := tag_ne hO.tag
  have hnk := kdW_ne hO.kind
  have hnb := name_ne (hO.box hbx)
  have ho0 := hO.noTo (by omega)
  have hu := hO.noUid hst
  have hs0 := hO.noSet hst
  have hp0 := hO.noOp (by omega)
  have hfl := hO.flags
  have HL : leadT x = [atT x.tag, atT (kdW x.kind), atT x.box] := by
    unfold leadT leadS
    rw [ho0, hs0, hu, hp0]
    have e0 : setT [] = [] := rfl
    have e1 : opT 0 = [] := rfl
    skip
    simp [notE_no, notE_yes hnt, notE_yes hnk, notE_yes hnb, e0, e1]
  have HTL : tailT x = grpF (flTo x.flags.toNat 5) ++ [⟨2, x.text⟩] := by
    unfold tailT
    rw [if_pos (by omega), if_pos (by omega), if_neg (by omega)]
    simp
  have HV := Lib.hid (show cmdTks x = leadT x ++ tailT x from by unfold cmdTks; rw [if_pos hok])
  rw [HL, HTL] at HV
  have HP1 := Lib.hid (show partsl 32 [] = [[]] from rfl)
  have hw0 : flTo x.flags.toNat 5 = [] := by rw [hf]; rfl
  rw [hw0] at HV
  have t8 : (x.kind == 8) = false := by rw [beq_eq_false_iff_ne]; omega
  have t11 : (x.kind == 11) = true := by rw [beq_iff_eq]; omega
  have t6 : (x.kind == 6) = false := by rw [beq_eq_false_iff_ne]; omega
  have cFT := fun W => specFlagsText_any 0 W
  simp only [show flT 0 = [] from rfl] at cFT
  have CFT := Lib.hid cFT
  clear cFT
  have CP := Lib.hid (fun W => specParts_any ⟨([] : List UInt8).toArray⟩ 32 W (by show ([] : List UInt8).toArray.size ≤ _; simp))
  have COK := Lib.hid cOK
  have CK := Lib.hid (fun W => specKindWord_any x.kind W)
  have CO := Lib.hid (fun W => specOpText_any x.op W)
  have CA := Lib.hid (fun s W => l6Atom_any s W)
  have hW0 : ∃ W0, w.alloc (.cells #[sv x.tag, .int .i64 x.kind, sv x.box, sv x.dst, .bool x.uid, .slice p x.sset.length c, .int .i64 x.op, .int .i64 x.flags, sv x.text, .bool x.filter.on, .slice q x.filter.scopes.length d] 36) = W0 := ⟨_, rfl⟩
  obtain ⟨W0, hW0⟩ := hW0
  have HW0 := Lib.hid hW0
  have HB1 := Lib.hid (show Below w.heap.size w W0 from by rw [← hW0]; exact (Below.refl _ _).alloc (Nat.le_refl _) _)
  have hA : W0.heap[w.heap.size]? = some (.cells #[sv x.tag, .int .i64 x.kind, sv x.box, sv x.dst, .bool x.uid, .slice p x.sset.length c, .int .i64 x.op, .int .i64 x.flags, sv x.text, .bool x.filter.on, .slice q x.filter.scopes.length d] 36 (0, 0)) := by rw [← hW0]; exact heap_alloc_new w _
  have HZ1 := Lib.hid (show W0.heap.size = w.heap.size + 1 from by rw [← hW0]; simp)
  rw [ho0, hs0, hu, hp0, hf] at hA
  have HQ := Lib.hid (fun (W : World) (hb : Below W0.heap.size W0 W) => (⟨(Lib.cell_of_heap ((hb.block w.heap.size (by rw [HZ1.out]; omega)).trans hA) 0).trans rfl, (Lib.cell_of_heap ((hb.block w.heap.size (by rw [HZ1.out]; omega)).trans hA) 1).trans rfl, (Lib.cell_of_heap ((hb.block w.heap.size (by rw [HZ1.out]; omega)).trans hA) 2).trans rfl, (Lib.cell_of_heap ((hb.block w.heap.size (by rw [HZ1.out]; omega)).trans hA) 3).trans rfl, (Lib.cell_of_heap ((hb.block w.heap.size (by rw [HZ1.out]; omega)).trans hA) 4).trans rfl, (Lib.cell_of_heap ((hb.block w.heap.size (by rw [HZ1.out]; omega)).trans hA) 5).trans rfl, (Lib.cell_of_heap ((hb.block w.heap.size (by rw [HZ1.out]; omega)).trans hA) 6).trans rfl, (Lib.cell_of_heap ((hb.block w.heap.size (by rw [HZ1.out]; omega)).trans hA) 7).trans rfl, (Lib.cell_of_heap ((hb.block w.heap.size (by rw [HZ1.out]; omega)).trans hA) 8).trans rfl, (Lib.cell_of_heap ((hb.block w.heap.size (by rw [HZ1.out]; omega)).trans hA) 9).trans rfl, (Lib.cell_of_heap ((hb.block w.heap.size (by rw [HZ1.out]; omega)).trans hA) 10).trans rfl⟩ : W.cell? ⟨w.heap.size, 0, none⟩ = some (sv x.tag) ∧ W.cell? ⟨w.heap.size, 1, none⟩ = some (.int .i64 x.kind) ∧ W.cell? ⟨w.heap.size, 2, none⟩ = some (sv x.box) ∧ W.cell? ⟨w.heap.size, 3, none⟩ = some (sv []) ∧ W.cell? ⟨w.heap.size, 4, none⟩ = some (.bool false) ∧ W.cell? ⟨w.heap.size, 5, none⟩ = some (.slice p 0 c) ∧ W.cell? ⟨w.heap.size, 6, none⟩ = some (.int .i64 0) ∧ W.cell? ⟨w.heap.size, 7, none⟩ = some (.int .i64 0) ∧ W.cell? ⟨w.heap.size, 8, none⟩ = some (sv x.text) ∧ W.cell? ⟨w.heap.size, 9, none⟩ = some (.bool x.filter.on) ∧ W.cell? ⟨w.heap.size, 10, none⟩ = some (.slice q x.filter.scopes.length d)))
  have hbne : ¬ x.box = [] := hnb
  have hbie := List.isEmpty_eq_false_iff.2 hnb
  clear hnb
  clear cOK ha ha2 hs hok hO z1 z2 z3 z5 z8 z9 z10 hbx hst hnt hnk HL HTL hW0 hA hk
  clear hs0
  clear hu
  clear ho0
  clear hp0
  clear hf hfl
  go_enter Tryz.func6, Tryz.ntmps6
  go_wp2_with fail
  rw [HW0.out]
  have hbA : Below W0.heap.size W0 (W0.alloc (.cells #[] 48)) := (Below.refl _ _).alloc (Nat.le_refl _) _
  have HO0 := Lib.hid (show (W0.alloc (.cells #[] 48)).ownsRow W0.heap.size 48 2 (.slice (some ⟨w.heap.size + 1, 0, none⟩) 0 0) 0 [] by rw [← HZ1.out]; exact World.ownsRow_made W0 #[] 0 (Nat.le_refl _) (by unfold maxLen; omega) rfl)
  refine (COK.out _ (HB1.out.trans (hbA.mono (by rw [HZ1.out]; omega)))).mono ?_
  rintro e w1 ⟨rfl, b1⟩
  have TK0 := Lib.hid ((show TkC W0 (.slice (some ⟨w.heap.size + 1, 0, none⟩) 0 0) [] (W0.alloc (.cells #[] 48)) from ⟨HO0.out, hbA⟩).call b1)
  clear b1 hbA HO0 COK
  obtain ⟨q0, q1, q2, q3, q4, q5, q6, q7, q8, q9, q10⟩ := HQ.out _ TK0.out.below
  go_wp2_with fail
  refine (CA.out x.tag _).mono ?_
  rintro e w1_ ⟨rfl, b_⟩
  have TK1 := Lib.hid (TK0.out.call b_)
  clear q0 q1 q2 q3 q4 q5 q6 q7 q8 q9 q10
  clear b_ TK0
  obtain ⟨q0, q1, q2, q3, q4, q5, q6, q7, q8, q9, q10⟩ := HQ.out _ TK1.out.below
  go_wp2_with (at_builtin; refine wpList_tkc rfl TK1.out (atT x.tag) (.tmp 11) (.tmp 15) rfl rfl (.inr rfl) rfl (by simp) ?_)
  intro u2 v2 tk_ _
  have TK2 := Lib.hid tk_
  clear q0 q1 q2 q3 q4 q5 q6 q7 q8 q9 q10
  clear tk_ TK1
  obtain ⟨q0, q1, q2, q3, q4, q5, q6, q7, q8, q9, q10⟩ := HQ.out _ TK2.out.below
  go_wp2_with fail
  refine (CK.out _).mono ?_
  rintro e w3_ ⟨rfl, b_⟩
  have TK3 := Lib.hid (TK2.out.call b_)
  clear q0 q1 q2 q3 q4 q5 q6 q7 q8 q9 q10
  clear b_ TK2
  obtain ⟨q0, q1, q2, q3, q4, q5, q6, q7, q8, q9, q10⟩ := HQ.out _ TK3.out.below
  go_wp2_with fail
  refine (CA.out (kdW x.kind) _).mono ?_
  rintro e w4_ ⟨rfl, b_⟩
  have TK4 := Lib.hid (TK3.out.call b_)
  clear q0 q1 q2 q3 q4 q5 q6 q7 q8 q9 q10
  clear b_ TK3
  obtain ⟨q0, q1, q2, q3, q4, q5, q6, q7, q8, q9, q10⟩ := HQ.out _ TK4.out.below
  go_wp2_with (at_builtin; refine wpList_tkc rfl TK4.out (atT (kdW x.kind)) (.tmp 23) (.tmp 28) rfl rfl (.inr rfl) rfl (by simp) ?_)
  intro u5 v5 tk_ _
  have TK5 := Lib.hid tk_
  clear q0 q1 q2 q3 q4 q5 q6 q7 q8 q9 q10
  clear tk_ TK4
  obtain ⟨q0, q1, q2, q3, q4, q5, q6, q7, q8, q9, q10⟩ := HQ.out _ TK5.out.below
  go_wp2_with fail
  refine (CA.out x.box _).mono ?_
  rintro e w6_ ⟨rfl, b_⟩
  have TK6 := Lib.hid (TK5.out.call b_)
  clear q0 q1 q2 q3 q4 q5 q6 q7 q8 q9 q10
  clear b_ TK5
  obtain ⟨q0, q1, q2, q3, q4, q5, q6, q7, q8, q9, q10⟩ := HQ.out _ TK6.out.below
  go_wp2_with (at_builtin; refine wpList_tkc rfl TK6.out (atT x.box) (.tmp 54) (.tmp 58) rfl rfl (.inr rfl) rfl (by simp) ?_)
  intro u7 v7 tk_ _
  have TK7 := Lib.hid tk_
  clear q0 q1 q2 q3 q4 q5 q6 q7 q8 q9 q10
  clear tk_ TK6
  obtain ⟨q0, q1, q2, q3, q4, q5, q6, q7, q8, q9, q10⟩ := HQ.out _ TK7.out.below
  go_wp2_with fail
  refine (l6Open_any _).mono ?_
  rintro e w8_ ⟨rfl, b_⟩
  have TK8 := Lib.hid (TK7.out.call b_)
  clear q0 q1 q2 q3 q4 q5 q6 q7 q8 q9 q10
  clear b_ TK7
  obtain ⟨q0, q1, q2, q3, q4, q5, q6, q7, q8, q9, q10⟩ := HQ.out _ TK8.out.below
  go_wp2_with (at_builtin; refine wpList_tkc rfl TK8.out opT3 (.tmp 77) (.tmp 79) rfl rfl (.inr rfl) rfl (by simp) ?_)
  intro u9 v9 tk_ _
  have TK9 := Lib.hid tk_
  clear q0 q1 q2 q3 q4 q5 q6 q7 q8 q9 q10
  clear tk_ TK8
  obtain ⟨q0, q1, q2, q3, q4, q5, q6, q7, q8, q9, q10⟩ := HQ.out _ TK9.out.below
  go_wp2_with fail
  refine (CFT.out _).mono ?_
  rintro e w10_ ⟨rfl, b_⟩
  have TK10 := Lib.hid (TK9.out.call b_)
  clear q0 q1 q2 q3 q4 q5 q6 q7 q8 q9 q10
  clear b_ TK9
  obtain ⟨q0, q1, q2, q3, q4, q5, q6, q7, q8, q9, q10⟩ := HQ.out _ TK10.out.below
  go_wp2_with fail
  refine (CP.out _).mono ?_
  rintro e w11_ ⟨v4, rfl, ow, b_⟩
  have TK11 := Lib.hid (TK10.out.call b_)
  obtain ⟨v4p, v4c, v4e⟩ : ∃ pp cc, v4 = .slice pp 1 cc := by
    rw [HP1.out] at ow
    rcases ow.2 with ⟨_, h⟩ | ⟨g, cp, _, h, _⟩
    · cases h
    · exact ⟨_, _, h⟩
  subst v4e
  clear q0 q1 q2 q3 q4 q5 q6 q7 q8 q9 q10
  clear b_ TK10 ow
  obtain ⟨q0, q1, q2, q3, q4, q5, q6, q7, q8, q9, q10⟩ := HQ.out _ TK11.out.below
  go_wp2
  refine wp_loop_rounds 1 ?_
  rw [rounds_succ]
  go_wp2_with fail
  refine (l6Close_any _).mono ?_
  rintro e w12_ ⟨rfl, b_⟩
  have TK12 := Lib.hid (TK11.out.call b_)
  clear q0 q1 q2 q3 q4 q5 q6 q7 q8 q9 q10
  clear b_ TK11
  obtain ⟨q0, q1, q2, q3, q4, q5, q6, q7, q8, q9, q10⟩ := HQ.out _ TK12.out.below
  go_wp2_with (at_builtin; refine wpList_tkc rfl TK12.out clT4 (.tmp 104) (.tmp 106) rfl rfl (.inr rfl) rfl (by simp) ?_)
  intro u13 v13 tk_ _
  have TK13 := Lib.hid tk_
  clear q0 q1 q2 q3 q4 q5 q6 q7 q8 q9 q10
  clear tk_ TK12
  obtain ⟨q0, q1, q2, q3, q4, q5, q6, q7, q8, q9, q10⟩ := HQ.out _ TK13.out.below
  go_wp2_with (at_builtin; refine wpList_tkc rfl TK13.out ⟨2, x.text⟩ (.tmp 111) (.tmp 115) rfl rfl (.inr rfl) rfl (by simp) ?_)
  intro u14 v14 tk_ _
  have TK14 := Lib.hid tk_
  clear q0 q1 q2 q3 q4 q5 q6 q7 q8 q9 q10
  clear tk_ TK13
  obtain ⟨q0, q1, q2, q3, q4, q5, q6, q7, q8, q9, q10⟩ := HQ.out _ TK14.out.below
  have HF := Lib.hid (show TkC W0 _ (cmdTks x) _ from by rw [HV.out]; simpa [grpF] using TK14.out)
  clear TK14
  go_wp2
  go_ret
  exact ⟨_, rfl, own_lower HF.out.own (by rw [HZ1.out]; omega), HB1.out.trans (HF.out.below.mono (by rw [HZ1.out]; omega))⟩

set_option maxRecDepth 20000 in
set_option maxHeartbeats 12800000 in
theorem spk_a1 (x : CmdD) (a5 a10 : Value) (w : World) (hok : cmdB x = true) (hk : x.kind = 11) (hf : ¬ x.flags = 0) (ha : LfRd w (spnsLf x.sset) a5) (ha2 : LfRd w (scpsLf x.filter.scopes) a10) (hs : szLs x.lf ≤ 1048576) :
    Calls Tryz.prog 6 #[cmdv x a5 a10] w (TksPost (cmdTks x) w) := by
  have hO := CmdOk.of hok
  obtain ⟨z1, z2, z3, z5, z8, z9, z10⟩ := CmdD.small hs
  have cOK := fun W (h : Below w.heap.size w W) => specCommandOk_at x a5 a10 W (LfRd.below h _ _ ha) (LfRd.below h _ _ ha2) hs
  simp only [hok] at cOK
  obtain ⟨p, c, rfl, _⟩ := Spn.at ha
  obtain ⟨q, d, rfl, _⟩ := scps_at ha2
  have hbx : boxedB x.kind = true := by unfold boxedB; simp only [Bool.or_eq_true, beq_iff_eq]; omega
  have hst : setsB x.kind = false := by unfold setsB; simp only [Bool.or_eq_false_iff, beq_eq_false_iff_ne]; omega
  have hnt := tag_ne hO.tag
  have hnk := kdW_ne hO.kind
  have hnb := name_ne (hO.box hbx)
  have ho0 := hO.noTo (by omega)
  have hu := hO.noUid hst
  have hs0 := hO.noSet hst
  have hp0 := hO.noOp (by omega)
  have hfl := hO.flags
  have HL : leadT x = [atT x.tag, atT (kdW x.kind), atT x.box] := by
    unfold leadT leadS
    rw [ho0, hs0, hu, hp0]
    have e0 : setT [] = [] := rfl
    have e1 : opT 0 = [] := rfl
    skip
    simp [notE_no, notE_yes hnt, notE_yes hnk, notE_yes hnb, e0, e1]
  have HTL : tailT x = grpF (flTo x.flags.toNat 5) ++ [⟨2, x.text⟩] := by
    unfold tailT
    rw [if_pos (by omega), if_pos (by omega), if_neg (by omega)]
    simp
  have HV := Lib.hid (show cmdTks x = leadT x ++ tailT x from by unfold cmdTks; rw [if_pos hok])
  rw [HL, HTL] at HV
  have hpw := flT_words hfl hf
  have HPW0 := Lib.hid hpw
  have hfp : (0 : Int) < x.flags := by obtain ⟨m, hm, _⟩ := flB_nat hfl; omega
  have hwl := flTo_len x.flags.toNat 5
  have t8 : (x.kind == 8) = false := by rw [beq_eq_false_iff_ne]; omega
  have t11 : (x.kind == 11) = true := by rw [beq_iff_eq]; omega
  have t6 : (x.kind == 6) = false := by rw [beq_eq_false_iff_ne]; omega
  have CFT := Lib.hid (fun W => specFlagsText_any x.flags W)
  have CP := Lib.hid (fun W => specParts_any ⟨(flT x.flags).toArray⟩ 32 W (by show (flT x.flags).toArray.size ≤ _; have := flT_len x.flags; simp; omega))
  have COK := Lib.hid cOK
  have CK := Lib.hid (fun W => specKindWord_any x.kind W)
  have CO := Lib.hid (fun W => specOpText_any x.op W)
  have CA := Lib.hid (fun s W => l6Atom_any s W)
  have hW0 : ∃ W0, w.alloc (.cells #[sv x.tag, .int .i64 x.kind, sv x.box, sv x.dst, .bool x.uid, .slice p x.sset.length c, .int .i64 x.op, .int .i64 x.flags, sv x.text, .bool x.filter.on, .slice q x.filter.scopes.length d] 36) = W0 := ⟨_, rfl⟩
  obtain ⟨W0, hW0⟩ := hW0
  have HW0 := Lib.hid hW0
  have HB1 := Lib.hid (show Below w.heap.size w W0 from by rw [← hW0]; exact (Below.refl _ _).alloc (Nat.le_refl _) _)
  have hA : W0.heap[w.heap.size]? = some (.cells #[sv x.tag, .int .i64 x.kind, sv x.box, sv x.dst, .bool x.uid, .slice p x.sset.length c, .int .i64 x.op, .int .i64 x.flags, sv x.text, .bool x.filter.on, .slice q x.filter.scopes.length d] 36 (0, 0)) := by rw [← hW0]; exact heap_alloc_new w _
  have HZ1 := Lib.hid (show W0.heap.size = w.heap.size + 1 from by rw [← hW0]; simp)
  rw [ho0, hs0, hu, hp0] at hA
  have HQ := Lib.hid (fun (W : World) (hb : Below W0.heap.size W0 W) => (⟨(Lib.cell_of_heap ((hb.block w.heap.size (by rw [HZ1.out]; omega)).trans hA) 0).trans rfl, (Lib.cell_of_heap ((hb.block w.heap.size (by rw [HZ1.out]; omega)).trans hA) 1).trans rfl, (Lib.cell_of_heap ((hb.block w.heap.size (by rw [HZ1.out]; omega)).trans hA) 2).trans rfl, (Lib.cell_of_heap ((hb.block w.heap.size (by rw [HZ1.out]; omega)).trans hA) 3).trans rfl, (Lib.cell_of_heap ((hb.block w.heap.size (by rw [HZ1.out]; omega)).trans hA) 4).trans rfl, (Lib.cell_of_heap ((hb.block w.heap.size (by rw [HZ1.out]; omega)).trans hA) 5).trans rfl, (Lib.cell_of_heap ((hb.block w.heap.size (by rw [HZ1.out]; omega)).trans hA) 6).trans rfl, (Lib.cell_of_heap ((hb.block w.heap.size (by rw [HZ1.out]; omega)).trans hA) 7).trans rfl, (Lib.cell_of_heap ((hb.block w.heap.size (by rw [HZ1.out]; omega)).trans hA) 8).trans rfl, (Lib.cell_of_heap ((hb.block w.heap.size (by rw [HZ1.out]; omega)).trans hA) 9).trans rfl, (Lib.cell_of_heap ((hb.block w.heap.size (by rw [HZ1.out]; omega)).trans hA) 10).trans rfl⟩ : W.cell? ⟨w.heap.size, 0, none⟩ = some (sv x.tag) ∧ W.cell? ⟨w.heap.size, 1, none⟩ = some (.int .i64 x.kind) ∧ W.cell? ⟨w.heap.size, 2, none⟩ = some (sv x.box) ∧ W.cell? ⟨w.heap.size, 3, none⟩ = some (sv []) ∧ W.cell? ⟨w.heap.size, 4, none⟩ = some (.bool false) ∧ W.cell? ⟨w.heap.size, 5, none⟩ = some (.slice p 0 c) ∧ W.cell? ⟨w.heap.size, 6, none⟩ = some (.int .i64 0) ∧ W.cell? ⟨w.heap.size, 7, none⟩ = some (.int .i64 x.flags) ∧ W.cell? ⟨w.heap.size, 8, none⟩ = some (sv x.text) ∧ W.cell? ⟨w.heap.size, 9, none⟩ = some (.bool x.filter.on) ∧ W.cell? ⟨w.heap.size, 10, none⟩ = some (.slice q x.filter.scopes.length d)))
  have hbne : ¬ x.box = [] := hnb
  have hbie := List.isEmpty_eq_false_iff.2 hnb
  clear hnb
  clear cOK ha ha2 hs hok hO z1 z2 z3 z5 z8 z9 z10 hbx hst hnt hnk HL HTL hW0 hA hk
  clear hs0
  clear hu
  clear ho0
  clear hp0
  clear hf hfl
  go_enter Tryz.func6, Tryz.ntmps6
  go_wp2_with fail
  rw [HW0.out]
  have hbA : Below W0.heap.size W0 (W0.alloc (.cells #[] 48)) := (Below.refl _ _).alloc (Nat.le_refl _) _
  have HO0 := Lib.hid (show (W0.alloc (.cells #[] 48)).ownsRow W0.heap.size 48 2 (.slice (some ⟨w.heap.size + 1, 0, none⟩) 0 0) 0 [] by rw [← HZ1.out]; exact World.ownsRow_made W0 #[] 0 (Nat.le_refl _) (by unfold maxLen; omega) rfl)
  refine (COK.out _ (HB1.out.trans (hbA.mono (by rw [HZ1.out]; omega)))).mono ?_
  rintro e w1 ⟨rfl, b1⟩
  have TK0 := Lib.hid ((show TkC W0 (.slice (some ⟨w.heap.size + 1, 0, none⟩) 0 0) [] (W0.alloc (.cells #[] 48)) from ⟨HO0.out, hbA⟩).call b1)
  clear b1 hbA HO0 COK
  obtain ⟨q0, q1, q2, q3, q4, q5, q6, q7, q8, q9, q10⟩ := HQ.out _ TK0.out.below
  go_wp2_with fail
  refine (CA.out x.tag _).mono ?_
  rintro e w1_ ⟨rfl, b_⟩
  have TK1 := Lib.hid (TK0.out.call b_)
  clear q0 q1 q2 q3 q4 q5 q6 q7 q8 q9 q10
  clear b_ TK0
  obtain ⟨q0, q1, q2, q3, q4, q5, q6, q7, q8, q9, q10⟩ := HQ.out _ TK1.out.below
  go_wp2_with (at_builtin; refine wpList_tkc rfl TK1.out (atT x.tag) (.tmp 11) (.tmp 15) rfl rfl (.inr rfl) rfl (by simp) ?_)
  intro u2 v2 tk_ _
  have TK2 := Lib.hid tk_
  clear q0 q1 q2 q3 q4 q5 q6 q7 q8 q9 q10
  clear tk_ TK1
  obtain ⟨q0, q1, q2, q3, q4, q5, q6, q7, q8, q9, q10⟩ := HQ.out _ TK2.out.below
  go_wp2_with fail
  refine (CK.out _).mono ?_
  rintro e w3_ ⟨rfl, b_⟩
  have TK3 := Lib.hid (TK2.out.call b_)
  clear q0 q1 q2 q3 q4 q5 q6 q7 q8 q9 q10
  clear b_ TK2
  obtain ⟨q0, q1, q2, q3, q4, q5, q6, q7, q8, q9, q10⟩ := HQ.out _ TK3.out.below
  go_wp2_with fail
  refine (CA.out (kdW x.kind) _).mono ?_
  rintro e w4_ ⟨rfl, b_⟩
  have TK4 := Lib.hid (TK3.out.call b_)
  clear q0 q1 q2 q3 q4 q5 q6 q7 q8 q9 q10
  clear b_ TK3
  obtain ⟨q0, q1, q2, q3, q4, q5, q6, q7, q8, q9, q10⟩ := HQ.out _ TK4.out.below
  go_wp2_with (at_builtin; refine wpList_tkc rfl TK4.out (atT (kdW x.kind)) (.tmp 23) (.tmp 28) rfl rfl (.inr rfl) rfl (by simp) ?_)
  intro u5 v5 tk_ _
  have TK5 := Lib.hid tk_
  clear q0 q1 q2 q3 q4 q5 q6 q7 q8 q9 q10
  clear tk_ TK4
  obtain ⟨q0, q1, q2, q3, q4, q5, q6, q7, q8, q9, q10⟩ := HQ.out _ TK5.out.below
  go_wp2_with fail
  refine (CA.out x.box _).mono ?_
  rintro e w6_ ⟨rfl, b_⟩
  have TK6 := Lib.hid (TK5.out.call b_)
  clear q0 q1 q2 q3 q4 q5 q6 q7 q8 q9 q10
  clear b_ TK5
  obtain ⟨q0, q1, q2, q3, q4, q5, q6, q7, q8, q9, q10⟩ := HQ.out _ TK6.out.below
  go_wp2_with (at_builtin; refine wpList_tkc rfl TK6.out (atT x.box) (.tmp 54) (.tmp 58) rfl rfl (.inr rfl) rfl (by simp) ?_)
  intro u7 v7 tk_ _
  have TK7 := Lib.hid tk_
  clear q0 q1 q2 q3 q4 q5 q6 q7 q8 q9 q10
  clear tk_ TK6
  obtain ⟨q0, q1, q2, q3, q4, q5, q6, q7, q8, q9, q10⟩ := HQ.out _ TK7.out.below
  go_wp2_with fail
  refine (l6Open_any _).mono ?_
  rintro e w8_ ⟨rfl, b_⟩
  have TK8 := Lib.hid (TK7.out.call b_)
  clear q0 q1 q2 q3 q4 q5 q6 q7 q8 q9 q10
  clear b_ TK7
  obtain ⟨q0, q1, q2, q3, q4, q5, q6, q7, q8, q9, q10⟩ := HQ.out _ TK8.out.below
  go_wp2_with (at_builtin; refine wpList_tkc rfl TK8.out opT3 (.tmp 77) (.tmp 79) rfl rfl (.inr rfl) rfl (by simp) ?_)
  intro u9 v9 tk_ _
  have TK9 := Lib.hid tk_
  clear q0 q1 q2 q3 q4 q5 q6 q7 q8 q9 q10
  clear tk_ TK8
  obtain ⟨q0, q1, q2, q3, q4, q5, q6, q7, q8, q9, q10⟩ := HQ.out _ TK9.out.below
  go_wp2_with fail
  refine (CFT.out _).mono ?_
  rintro e w10_ ⟨rfl, b_⟩
  have TK10 := Lib.hid (TK9.out.call b_)
  clear q0 q1 q2 q3 q4 q5 q6 q7 q8 q9 q10
  clear b_ TK9
  obtain ⟨q0, q1, q2, q3, q4, q5, q6, q7, q8, q9, q10⟩ := HQ.out _ TK10.out.below
  go_wp2_with fail
  refine (CP.out _).mono ?_
  rintro e w11_ ⟨v4, rfl, ow, b_⟩
  have TK11 := Lib.hid (TK10.out.call b_)
  rw [HPW0.out] at ow
  generalize hws : flTo x.flags.toNat 5 = ws at *
  obtain ⟨gB, cp, cur, rfl, hbB, hcur⟩ : ∃ g cap cur, v4 = .slice (some ⟨g, 0, none⟩) ws.length cap ∧ w11_.heap[g]? = some (.cells cur 9 (0, 0)) ∧ ∀ i y, ws[i]? = some y → cur[i]? = some (sv y) := by
    rcases ow.2 with ⟨_, h⟩ | ⟨g, cap, cur, h1, _, h3, h4, _, h6, h7⟩
    · exfalso
      have hl0 : ws = [] := List.length_eq_zero_iff.1 h
      have e1 : partsl 32 (flT x.flags) = [] := by rw [hpw, hl0]
      exact partsl_ne 32 _ e1
    · refine ⟨g, cap, cur, h1, h3, fun i y hy => ?_⟩
      have hi := (List.getElem?_eq_some_iff.1 hy).1
      have h8 : (cur.toList.take (ws.length * 1))[i]? = some (sv y) := by rw [h7, List.getElem?_map, hy]; rfl
      rw [List.getElem?_take_of_lt (by omega)] at h8
      simpa using h8
  have HBB := Lib.hid hbB
  have HCUR := Lib.hid hcur
  have HPW := Lib.hid hpw
  clear q0 q1 q2 q3 q4 q5 q6 q7 q8 q9 q10
  clear b_ TK10 ow hbB hcur hpw hws
  generalize hP : ([atT x.tag, atT (kdW x.kind), atT x.box, opT3] : List Tok) = P0
  have TKp := Lib.hid (show TkC W0 _ P0 _ from by rw [← hP]; simpa using TK11.out)
  have HPL := Lib.hid (show P0.length ≤ 9 by rw [← hP]; simp)
  clear TK11
  have HPE := Lib.hid hP.symm
  clear hP
  obtain ⟨q0, q1, q2, q3, q4, q5, q6, q7, q8, q9, q10⟩ := HQ.out _ TKp.out.below
  go_wp2
  clear q0 q1 q2 q3 q4 q5 q6 q7 q8 q9 q10
  go_loopg [3, 5] ws.length (fun gk u i wr => ∃ k : Nat, k ≤ ws.length ∧ gk = ws.length - k ∧ i = .int .i64 k ∧ TkC W0 u (P0 ++ (ws.map atT).take k) wr ∧ wr.heap[gB]? = some (.cells cur 9 (0, 0)))
  case atStart => exact ⟨0, by omega, rfl, rfl, by simpa using TKp.out, HBB.out⟩
  case round =>
    obtain ⟨k, hk, rfl, rfl, tk, hb⟩ := hrel
    have TKk := Lib.hid tk
    have HBk := Lib.hid hb
    clear tk hb TKp HBB
    obtain ⟨q0, q1, q2, q3, q4, q5, q6, q7, q8, q9, q10⟩ := HQ.out _ TKk.out.below
    by_cases hlt : k < ws.length
    · obtain ⟨y, hy⟩ : ∃ y, ws[k]? = some y := ⟨_, List.getElem?_eq_getElem hlt⟩
      have e1 : wr.cell? ⟨gB, k, none⟩ = some (sv y) := (Lib.cell_of_heap HBk.out k).trans (HCUR.out k y hy)
      have HT1 := Lib.hid (show (ws.map atT).take (k + 1) = (ws.map atT).take k ++ [atT y] by
        obtain ⟨h3, h2⟩ := List.getElem?_eq_some_iff.1 hy
        rw [← List.map_take, ← List.map_take, List.take_succ_eq_append_getElem h3, h2, List.map_append]; rfl)
      have HLEN := Lib.hid (show (P0 ++ (ws.map atT).take k).length ≤ 100000 by
        have h1 := HPL.out
        rw [List.length_append]
        have h2 : ((ws.map atT).take k).length ≤ k := by simp [Nat.min_le_left]
        omega)
      clear hy
      go_wp2_with fail
      refine (CA.out y _).mono ?_
      rintro e wa ⟨rfl, b_⟩
      have TKa := Lib.hid (TKk.out.call b_)
      have HBa := Lib.hid ((b_.block gB (Array.getElem?_eq_some_iff.1 HBk.out).1).trans HBk.out)
      clear b_ e1 TKk HBk q0 q1 q2 q3 q4 q5 q6 q7 q8 q9 q10
      go_wp2_with (at_builtin; refine wpList_tkc rfl TKa.out (atT y) (.tmp 96) (.tmp 102) rfl rfl (.inr rfl) rfl HLEN.out ?_)
      intro u' w' tk' st
      have TKn := Lib.hid (show TkC W0 u' (P0 ++ (ws.map atT).take (k + 1)) w' by rw [HT1.out]; simpa [List.append_assoc] using tk')
      have HBn := Lib.hid (st gB _ _ _ (by decide) HBa.out)
      clear tk' st TKa HBa
      go_wp2
      go_roundg (ws.length - (k + 1))
      case measure => omega
      case rel => exact ⟨k + 1, by omega, rfl, by go_num, TKn.out, HBn.out⟩
    · obtain rfl : k = ws.length := by omega
      have TKe := Lib.hid (show TkC W0 _ (P0 ++ ws.map atT) wr from by have := TKk.out; rwa [List.take_of_length_le (by simp)] at this)
      clear TKk HBk
      go_wp2_with fail
      refine (l6Close_any _).mono ?_
      rintro e wc_ ⟨rfl, b_⟩
      have TK50 := Lib.hid (TKe.out.call b_)
      clear b_ TKe q0 q1 q2 q3 q4 q5 q6 q7 q8 q9 q10
      obtain ⟨q0, q1, q2, q3, q4, q5, q6, q7, q8, q9, q10⟩ := HQ.out _ TK50.out.below
      go_wp2_with (at_builtin; refine wpList_tkc rfl TK50.out clT4 (.tmp 104) (.tmp 106) rfl rfl (.inr rfl) rfl (by have h1 := HPL.out; rw [List.length_append, List.length_map]; omega) ?_)
      intro u51 v51 tk_ _
      have TK51 := Lib.hid tk_
      clear tk_ TK50 q0 q1 q2 q3 q4 q5 q6 q7 q8 q9 q10
      obtain ⟨q0, q1, q2, q3, q4, q5, q6, q7, q8, q9, q10⟩ := HQ.out _ TK51.out.below
      go_wp2_with (at_builtin; refine wpList_tkc rfl TK51.out ⟨2, x.text⟩ (.tmp 111) (.tmp 115) rfl rfl (.inr rfl) rfl (by have h1 := HPL.out; simp only [List.length_append, List.length_map, List.length_cons, List.length_nil]; omega) ?_)
      intro u52 v52 tk_ _
      have TK52 := Lib.hid tk_
      clear tk_ TK51 q0 q1 q2 q3 q4 q5 q6 q7 q8 q9 q10
      obtain ⟨q0, q1, q2, q3, q4, q5, q6, q7, q8, q9, q10⟩ := HQ.out _ TK52.out.below
      have HF := Lib.hid (show TkC W0 _ (cmdTks x) _ from by rw [HV.out]; have := TK52.out; rw [HPE.out] at this; simpa [grpF] using this)
      clear TK52
      go_wp2
      go_ret
      exact ⟨_, rfl, own_lower HF.out.own (by rw [HZ1.out]; omega), HB1.out.trans (HF.out.below.mono (by rw [HZ1.out]; omega))⟩

set_option maxRecDepth 20000 in
set_option maxHeartbeats 12800000 in
theorem spk_s00 (x : CmdD) (a5 a10 : Value) (w : World) (hok : cmdB x = true) (hk : x.kind = 8) (hu : x.uid = false) (hf : x.flags = 0) (ha : LfRd w (spnsLf x.sset) a5) (ha2 : LfRd w (scpsLf x.filter.scopes) a10) (hs : szLs x.lf ≤ 1048576) :
    Calls Tryz.prog 6 #[cmdv x a5 a10] w (TksPost (cmdTks x) w) := by
  have hO := CmdOk.of hok
  obtain ⟨z1, z2, z3, z5, z8, z9, z10⟩ := CmdD.small hs
  have cOK := fun W (h : Below w.heap.size w W) => specCommandOk_at x a5 a10 W (LfRd.below h _ _ ha) (LfRd.below h _ _ ha2) hs
  simp only [hok] at cOK
  have cS := fun W (h : Below w.heap.size w W) => specSetText_any a5 x.sset W (spns_rd (LfRd.below h _ _ ha)) (by omega)
  have CS := Lib.hid cS
  clear cS
  obtain ⟨p, c, rfl, _⟩ := Spn.at ha
  obtain ⟨q, d, rfl, _⟩ := scps_at ha2
  have hbx : boxedB x.kind = false := by unfold boxedB; simp only [Bool.or_eq_false_iff, beq_eq_false_iff_ne]; omega
  have hst : setsB x.kind = true := by unfold setsB; simp only [Bool.or_eq_true, beq_iff_eq]; omega
  have hnt := tag_ne hO.tag
  have hnk := kdW_ne hO.kind
  have hb0 := hO.noBox hbx
  have ho0 := hO.noTo (by omega)
  have hns := setT_ne (hO.sset hst)
  have hsl := List.length_pos_iff.2 (sset_ne (hO.sset hst))
  have hop := hO.op (by omega)
  have hnp := opT_ne hop
  have hfl := hO.flags
  have HL : leadT x = [atT x.tag, atT (kdW x.kind), atT (setT x.sset), atT (opT x.op)] := by
    unfold leadT leadS
    rw [hb0, ho0, hu]
    skip
    skip
    skip
    simp [notE_no, notE_yes hnt, notE_yes hnk, notE_yes hns, notE_yes hnp]
  have HTL : tailT x = grpF (flTo x.flags.toNat 5) := by
    unfold tailT
    rw [if_pos (by omega), if_neg (by omega), if_neg (by omega)]
    simp
  have HV := Lib.hid (show cmdTks x = leadT x ++ tailT x from by unfold cmdTks; rw [if_pos hok])
  rw [HL, HTL] at HV
  have HP1 := Lib.hid (show partsl 32 [] = [[]] from rfl)
  have hw0 : flTo x.flags.toNat 5 = [] := by rw [hf]; rfl
  rw [hw0] at HV
  have t8 : (x.kind == 8) = true := by rw [beq_iff_eq]; omega
  have t11 : (x.kind == 11) = false := by rw [beq_eq_false_iff_ne]; omega
  have t6 : (x.kind == 6) = false := by rw [beq_eq_false_iff_ne]; omega
  have cFT := fun W => specFlagsText_any 0 W
  simp only [show flT 0 = [] from rfl] at cFT
  have CFT := Lib.hid cFT
  clear cFT
  have CP := Lib.hid (fun W => specParts_any ⟨([] : List UInt8).toArray⟩ 32 W (by show ([] : List UInt8).toArray.size ≤ _; simp))
  have COK := Lib.hid cOK
  have CK := Lib.hid (fun W => specKindWord_any x.kind W)
  have CO := Lib.hid (fun W => specOpText_any x.op W)
  have CA := Lib.hid (fun s W => l6Atom_any s W)
  have hW0 : ∃ W0, w.alloc (.cells #[sv x.tag, .int .i64 x.kind, sv x.box, sv x.dst, .bool x.uid, .slice p x.sset.length c, .int .i64 x.op, .int .i64 x.flags, sv x.text, .bool x.filter.on, .slice q x.filter.scopes.length d] 36) = W0 := ⟨_, rfl⟩
  obtain ⟨W0, hW0⟩ := hW0
  have HW0 := Lib.hid hW0
  have HB1 := Lib.hid (show Below w.heap.size w W0 from by rw [← hW0]; exact (Below.refl _ _).alloc (Nat.le_refl _) _)
  have hA : W0.heap[w.heap.size]? = some (.cells #[sv x.tag, .int .i64 x.kind, sv x.box, sv x.dst, .bool x.uid, .slice p x.sset.length c, .int .i64 x.op, .int .i64 x.flags, sv x.text, .bool x.filter.on, .slice q x.filter.scopes.length d] 36 (0, 0)) := by rw [← hW0]; exact heap_alloc_new w _
  have HZ1 := Lib.hid (show W0.heap.size = w.heap.size + 1 from by rw [← hW0]; simp)
  rw [hb0, ho0, hu, hf] at hA
  have HQ := Lib.hid (fun (W : World) (hb : Below W0.heap.size W0 W) => (⟨(Lib.cell_of_heap ((hb.block w.heap.size (by rw [HZ1.out]; omega)).trans hA) 0).trans rfl, (Lib.cell_of_heap ((hb.block w.heap.size (by rw [HZ1.out]; omega)).trans hA) 1).trans rfl, (Lib.cell_of_heap ((hb.block w.heap.size (by rw [HZ1.out]; omega)).trans hA) 2).trans rfl, (Lib.cell_of_heap ((hb.block w.heap.size (by rw [HZ1.out]; omega)).trans hA) 3).trans rfl, (Lib.cell_of_heap ((hb.block w.heap.size (by rw [HZ1.out]; omega)).trans hA) 4).trans rfl, (Lib.cell_of_heap ((hb.block w.heap.size (by rw [HZ1.out]; omega)).trans hA) 5).trans rfl, (Lib.cell_of_heap ((hb.block w.heap.size (by rw [HZ1.out]; omega)).trans hA) 6).trans rfl, (Lib.cell_of_heap ((hb.block w.heap.size (by rw [HZ1.out]; omega)).trans hA) 7).trans rfl, (Lib.cell_of_heap ((hb.block w.heap.size (by rw [HZ1.out]; omega)).trans hA) 8).trans rfl, (Lib.cell_of_heap ((hb.block w.heap.size (by rw [HZ1.out]; omega)).trans hA) 9).trans rfl, (Lib.cell_of_heap ((hb.block w.heap.size (by rw [HZ1.out]; omega)).trans hA) 10).trans rfl⟩ : W.cell? ⟨w.heap.size, 0, none⟩ = some (sv x.tag) ∧ W.cell? ⟨w.heap.size, 1, none⟩ = some (.int .i64 x.kind) ∧ W.cell? ⟨w.heap.size, 2, none⟩ = some (sv []) ∧ W.cell? ⟨w.heap.size, 3, none⟩ = some (sv []) ∧ W.cell? ⟨w.heap.size, 4, none⟩ = some (.bool false) ∧ W.cell? ⟨w.heap.size, 5, none⟩ = some (.slice p x.sset.length c) ∧ W.cell? ⟨w.heap.size, 6, none⟩ = some (.int .i64 x.op) ∧ W.cell? ⟨w.heap.size, 7, none⟩ = some (.int .i64 0) ∧ W.cell? ⟨w.heap.size, 8, none⟩ = some (sv x.text) ∧ W.cell? ⟨w.heap.size, 9, none⟩ = some (.bool x.filter.on) ∧ W.cell? ⟨w.heap.size, 10, none⟩ = some (.slice q x.filter.scopes.length d)))
  have hsl2 : (0 : Int) < (x.sset.length : Int) := by omega
  clear hsl hns
  have hop2 : 0 < x.op := by omega
  clear hop hnp
  clear cOK ha ha2 hs hok hO z1 z2 z3 z5 z8 z9 z10 hbx hst hnt hnk HL HTL hW0 hA hk
  clear hu
  clear hb0
  clear ho0
  clear hf hfl
  go_enter Tryz.func6, Tryz.ntmps6
  go_wp2_with fail
  rw [HW0.out]
  have hbA : Below W0.heap.size W0 (W0.alloc (.cells #[] 48)) := (Below.refl _ _).alloc (Nat.le_refl _) _
  have HO0 := Lib.hid (show (W0.alloc (.cells #[] 48)).ownsRow W0.heap.size 48 2 (.slice (some ⟨w.heap.size + 1, 0, none⟩) 0 0) 0 [] by rw [← HZ1.out]; exact World.ownsRow_made W0 #[] 0 (Nat.le_refl _) (by unfold maxLen; omega) rfl)
  refine (COK.out _ (HB1.out.trans (hbA.mono (by rw [HZ1.out]; omega)))).mono ?_
  rintro e w1 ⟨rfl, b1⟩
  have TK0 := Lib.hid ((show TkC W0 (.slice (some ⟨w.heap.size + 1, 0, none⟩) 0 0) [] (W0.alloc (.cells #[] 48)) from ⟨HO0.out, hbA⟩).call b1)
  clear b1 hbA HO0 COK
  obtain ⟨q0, q1, q2, q3, q4, q5, q6, q7, q8, q9, q10⟩ := HQ.out _ TK0.out.below
  go_wp2_with fail
  refine (CA.out x.tag _).mono ?_
  rintro e w1_ ⟨rfl, b_⟩
  have TK1 := Lib.hid (TK0.out.call b_)
  clear q0 q1 q2 q3 q4 q5 q6 q7 q8 q9 q10
  clear b_ TK0
  obtain ⟨q0, q1, q2, q3, q4, q5, q6, q7, q8, q9, q10⟩ := HQ.out _ TK1.out.below
  go_wp2_with (at_builtin; refine wpList_tkc rfl TK1.out (atT x.tag) (.tmp 11) (.tmp 15) rfl rfl (.inr rfl) rfl (by simp) ?_)
  intro u2 v2 tk_ _
  have TK2 := Lib.hid tk_
  clear q0 q1 q2 q3 q4 q5 q6 q7 q8 q9 q10
  clear tk_ TK1
  obtain ⟨q0, q1, q2, q3, q4, q5, q6, q7, q8, q9, q10⟩ := HQ.out _ TK2.out.below
  go_wp2_with fail
  refine (CK.out _).mono ?_
  rintro e w3_ ⟨rfl, b_⟩
  have TK3 := Lib.hid (TK2.out.call b_)
  clear q0 q1 q2 q3 q4 q5 q6 q7 q8 q9 q10
  clear b_ TK2
  obtain ⟨q0, q1, q2, q3, q4, q5, q6, q7, q8, q9, q10⟩ := HQ.out _ TK3.out.below
  go_wp2_with fail
  refine (CA.out (kdW x.kind) _).mono ?_
  rintro e w4_ ⟨rfl, b_⟩
  have TK4 := Lib.hid (TK3.out.call b_)
  clear q0 q1 q2 q3 q4 q5 q6 q7 q8 q9 q10
  clear b_ TK3
  obtain ⟨q0, q1, q2, q3, q4, q5, q6, q7, q8, q9, q10⟩ := HQ.out _ TK4.out.below
  go_wp2_with (at_builtin; refine wpList_tkc rfl TK4.out (atT (kdW x.kind)) (.tmp 23) (.tmp 28) rfl rfl (.inr rfl) rfl (by simp) ?_)
  intro u5 v5 tk_ _
  have TK5 := Lib.hid tk_
  clear q0 q1 q2 q3 q4 q5 q6 q7 q8 q9 q10
  clear tk_ TK4
  obtain ⟨q0, q1, q2, q3, q4, q5, q6, q7, q8, q9, q10⟩ := HQ.out _ TK5.out.below
  go_wp2_with fail
  refine (CS.out _ (HB1.out.trans (TK5.out.below.mono (by rw [HZ1.out]; omega)))).mono ?_
  rintro e w6_ ⟨rfl, b_⟩
  have TK6 := Lib.hid (TK5.out.call b_)
  clear q0 q1 q2 q3 q4 q5 q6 q7 q8 q9 q10
  clear b_ TK5
  obtain ⟨q0, q1, q2, q3, q4, q5, q6, q7, q8, q9, q10⟩ := HQ.out _ TK6.out.below
  go_wp2_with fail
  refine (CA.out (setT x.sset) _).mono ?_
  rintro e w7_ ⟨rfl, b_⟩
  have TK7 := Lib.hid (TK6.out.call b_)
  clear q0 q1 q2 q3 q4 q5 q6 q7 q8 q9 q10
  clear b_ TK6
  obtain ⟨q0, q1, q2, q3, q4, q5, q6, q7, q8, q9, q10⟩ := HQ.out _ TK7.out.below
  go_wp2_with (at_builtin; refine wpList_tkc rfl TK7.out (atT (setT x.sset)) (.tmp 34) (.tmp 39) rfl rfl (.inr rfl) rfl (by simp) ?_)
  intro u8 v8 tk_ _
  have TK8 := Lib.hid tk_
  clear q0 q1 q2 q3 q4 q5 q6 q7 q8 q9 q10
  clear tk_ TK7
  obtain ⟨q0, q1, q2, q3, q4, q5, q6, q7, q8, q9, q10⟩ := HQ.out _ TK8.out.below
  go_wp2_with fail
  refine (CO.out _).mono ?_
  rintro e w9_ ⟨rfl, b_⟩
  have TK9 := Lib.hid (TK8.out.call b_)
  clear q0 q1 q2 q3 q4 q5 q6 q7 q8 q9 q10
  clear b_ TK8
  obtain ⟨q0, q1, q2, q3, q4, q5, q6, q7, q8, q9, q10⟩ := HQ.out _ TK9.out.below
  go_wp2_with fail
  refine (CA.out (opT x.op) _).mono ?_
  rintro e w10_ ⟨rfl, b_⟩
  have TK10 := Lib.hid (TK9.out.call b_)
  clear q0 q1 q2 q3 q4 q5 q6 q7 q8 q9 q10
  clear b_ TK9
  obtain ⟨q0, q1, q2, q3, q4, q5, q6, q7, q8, q9, q10⟩ := HQ.out _ TK10.out.below
  go_wp2_with (at_builtin; refine wpList_tkc rfl TK10.out (atT (opT x.op)) (.tmp 44) (.tmp 49) rfl rfl (.inr rfl) rfl (by simp) ?_)
  intro u11 v11 tk_ _
  have TK11 := Lib.hid tk_
  clear q0 q1 q2 q3 q4 q5 q6 q7 q8 q9 q10
  clear tk_ TK10
  obtain ⟨q0, q1, q2, q3, q4, q5, q6, q7, q8, q9, q10⟩ := HQ.out _ TK11.out.below
  go_wp2_with fail
  refine (l6Open_any _).mono ?_
  rintro e w12_ ⟨rfl, b_⟩
  have TK12 := Lib.hid (TK11.out.call b_)
  clear q0 q1 q2 q3 q4 q5 q6 q7 q8 q9 q10
  clear b_ TK11
  obtain ⟨q0, q1, q2, q3, q4, q5, q6, q7, q8, q9, q10⟩ := HQ.out _ TK12.out.below
  go_wp2_with (at_builtin; refine wpList_tkc rfl TK12.out opT3 (.tmp 77) (.tmp 79) rfl rfl (.inr rfl) rfl (by simp) ?_)
  intro u13 v13 tk_ _
  have TK13 := Lib.hid tk_
  clear q0 q1 q2 q3 q4 q5 q6 q7 q8 q9 q10
  clear tk_ TK12
  obtain ⟨q0, q1, q2, q3, q4, q5, q6, q7, q8, q9, q10⟩ := HQ.out _ TK13.out.below
  go_wp2_with fail
  refine (CFT.out _).mono ?_
  rintro e w14_ ⟨rfl, b_⟩
  have TK14 := Lib.hid (TK13.out.call b_)
  clear q0 q1 q2 q3 q4 q5 q6 q7 q8 q9 q10
  clear b_ TK13
  obtain ⟨q0, q1, q2, q3, q4, q5, q6, q7, q8, q9, q10⟩ := HQ.out _ TK14.out.below
  go_wp2_with fail
  refine (CP.out _).mono ?_
  rintro e w15_ ⟨v4, rfl, ow, b_⟩
  have TK15 := Lib.hid (TK14.out.call b_)
  obtain ⟨v4p, v4c, v4e⟩ : ∃ pp cc, v4 = .slice pp 1 cc := by
    rw [HP1.out] at ow
    rcases ow.2 with ⟨_, h⟩ | ⟨g, cp, _, h, _⟩
    · cases h
    · exact ⟨_, _, h⟩
  subst v4e
  clear q0 q1 q2 q3 q4 q5 q6 q7 q8 q9 q10
  clear b_ TK14 ow
  obtain ⟨q0, q1, q2, q3, q4, q5, q6, q7, q8, q9, q10⟩ := HQ.out _ TK15.out.below
  go_wp2
  refine wp_loop_rounds 1 ?_
  rw [rounds_succ]
  go_wp2_with fail
  refine (l6Close_any _).mono ?_
  rintro e w16_ ⟨rfl, b_⟩
  have TK16 := Lib.hid (TK15.out.call b_)
  clear q0 q1 q2 q3 q4 q5 q6 q7 q8 q9 q10
  clear b_ TK15
  obtain ⟨q0, q1, q2, q3, q4, q5, q6, q7, q8, q9, q10⟩ := HQ.out _ TK16.out.below
  go_wp2_with (at_builtin; refine wpList_tkc rfl TK16.out clT4 (.tmp 104) (.tmp 106) rfl rfl (.inr rfl) rfl (by simp) ?_)
  intro u17 v17 tk_ _
  have TK17 := Lib.hid tk_
  clear q0 q1 q2 q3 q4 q5 q6 q7 q8 q9 q10
  clear tk_ TK16
  obtain ⟨q0, q1, q2, q3, q4, q5, q6, q7, q8, q9, q10⟩ := HQ.out _ TK17.out.below
  have HF := Lib.hid (show TkC W0 _ (cmdTks x) _ from by rw [HV.out]; simpa [grpF] using TK17.out)
  clear TK17
  go_wp2
  go_ret
  exact ⟨_, rfl, own_lower HF.out.own (by rw [HZ1.out]; omega), HB1.out.trans (HF.out.below.mono (by rw [HZ1.out]; omega))⟩

set_option maxRecDepth 20000 in
set_option maxHeartbeats 12800000 in
theorem spk_s01 (x : CmdD) (a5 a10 : Value) (w : World) (hok : cmdB x = true) (hk : x.kind = 8) (hu : x.uid = false) (hf : ¬ x.flags = 0) (ha : LfRd w (spnsLf x.sset) a5) (ha2 : LfRd w (scpsLf x.filter.scopes) a10) (hs : szLs x.lf ≤ 1048576) :
    Calls Tryz.prog 6 #[cmdv x a5 a10] w (TksPost (cmdTks x) w) := by
  have hO := CmdOk.of hok
  obtain ⟨z1, z2, z3, z5, z8, z9, z10⟩ := CmdD.small hs
  have cOK := fun W (h : Below w.heap.size w W) => specCommandOk_at x a5 a10 W (LfRd.below h _ _ ha) (LfRd.below h _ _ ha2) hs
  simp only [hok] at cOK
  have cS := fun W (h : Below w.heap.size w W) => specSetText_any a5 x.sset W (spns_rd (LfRd.below h _ _ ha)) (by omega)
  have CS := Lib.hid cS
  clear cS
  obtain ⟨p, c, rfl, _⟩ := Spn.at ha
  obtain ⟨q, d, rfl, _⟩ := scps_at ha2
  have hbx : boxedB x.kind = false := by unfold boxedB; simp only [Bool.or_eq_false_iff, beq_eq_false_iff_ne]; omega
  have hst : setsB x.kind = true := by unfold setsB; simp only [Bool.or_eq_true, beq_iff_eq]; omega
  have hnt := tag_ne hO.tag
  have hnk := kdW_ne hO.kind
  have hb0 := hO.noBox hbx
  have ho0 := hO.noTo (by omega)
  have hns := setT_ne (hO.sset hst)
  have hsl := List.length_pos_iff.2 (sset_ne (hO.sset hst))
  have hop := hO.op (by omega)
  have hnp := opT_ne hop
  have hfl := hO.flags
  have HL : leadT x = [atT x.tag, atT (kdW x.kind), atT (setT x.sset), atT (opT x.op)] := by
    unfold leadT leadS
    rw [hb0, ho0, hu]
    skip
    skip
    skip
    simp [notE_no, notE_yes hnt, notE_yes hnk, notE_yes hns, notE_yes hnp]
  have HTL : tailT x = grpF (flTo x.flags.toNat 5) := by
    unfold tailT
    rw [if_pos (by omega), if_neg (by omega), if_neg (by omega)]
    simp
  have HV := Lib.hid (show cmdTks x = leadT x ++ tailT x from by unfold cmdTks; rw [if_pos hok])
  rw [HL, HTL] at HV
  have hpw := flT_words hfl hf
  have HPW0 := Lib.hid hpw
  have hfp : (0 : Int) < x.flags := by obtain ⟨m, hm, _⟩ := flB_nat hfl; omega
  have hwl := flTo_len x.flags.toNat 5
  have t8 : (x.kind == 8) = true := by rw [beq_iff_eq]; omega
  have t11 : (x.kind == 11) = false := by rw [beq_eq_false_iff_ne]; omega
  have t6 : (x.kind == 6) = false := by rw [beq_eq_false_iff_ne]; omega
  have CFT := Lib.hid (fun W => specFlagsText_any x.flags W)
  have CP := Lib.hid (fun W => specParts_any ⟨(flT x.flags).toArray⟩ 32 W (by show (flT x.flags).toArray.size ≤ _; have := flT_len x.flags; simp; omega))
  have COK := Lib.hid cOK
  have CK := Lib.hid (fun W => specKindWord_any x.kind W)
  have CO := Lib.hid (fun W => specOpText_any x.op W)
  have CA := Lib.hid (fun s W => l6Atom_any s W)
  have hW0 : ∃ W0, w.alloc (.cells #[sv x.tag, .int .i64 x.kind, sv x.box, sv x.dst, .bool x.uid, .slice p x.sset.length c, .int .i64 x.op, .int .i64 x.flags, sv x.text, .bool x.filter.on, .slice q x.filter.scopes.length d] 36) = W0 := ⟨_, rfl⟩
  obtain ⟨W0, hW0⟩ := hW0
  have HW0 := Lib.hid hW0
  have HB1 := Lib.hid (show Below w.heap.size w W0 from by rw [← hW0]; exact (Below.refl _ _).alloc (Nat.le_refl _) _)
  have hA : W0.heap[w.heap.size]? = some (.cells #[sv x.tag, .int .i64 x.kind, sv x.box, sv x.dst, .bool x.uid, .slice p x.sset.length c, .int .i64 x.op, .int .i64 x.flags, sv x.text, .bool x.filter.on, .slice q x.filter.scopes.length d] 36 (0, 0)) := by rw [← hW0]; exact heap_alloc_new w _
  have HZ1 := Lib.hid (show W0.heap.size = w.heap.size + 1 from by rw [← hW0]; simp)
  rw [hb0, ho0, hu] at hA
  have HQ := Lib.hid (fun (W : World) (hb : Below W0.heap.size W0 W) => (⟨(Lib.cell_of_heap ((hb.block w.heap.size (by rw [HZ1.out]; omega)).trans hA) 0).trans rfl, (Lib.cell_of_heap ((hb.block w.heap.size (by rw [HZ1.out]; omega)).trans hA) 1).trans rfl, (Lib.cell_of_heap ((hb.block w.heap.size (by rw [HZ1.out]; omega)).trans hA) 2).trans rfl, (Lib.cell_of_heap ((hb.block w.heap.size (by rw [HZ1.out]; omega)).trans hA) 3).trans rfl, (Lib.cell_of_heap ((hb.block w.heap.size (by rw [HZ1.out]; omega)).trans hA) 4).trans rfl, (Lib.cell_of_heap ((hb.block w.heap.size (by rw [HZ1.out]; omega)).trans hA) 5).trans rfl, (Lib.cell_of_heap ((hb.block w.heap.size (by rw [HZ1.out]; omega)).trans hA) 6).trans rfl, (Lib.cell_of_heap ((hb.block w.heap.size (by rw [HZ1.out]; omega)).trans hA) 7).trans rfl, (Lib.cell_of_heap ((hb.block w.heap.size (by rw [HZ1.out]; omega)).trans hA) 8).trans rfl, (Lib.cell_of_heap ((hb.block w.heap.size (by rw [HZ1.out]; omega)).trans hA) 9).trans rfl, (Lib.cell_of_heap ((hb.block w.heap.size (by rw [HZ1.out]; omega)).trans hA) 10).trans rfl⟩ : W.cell? ⟨w.heap.size, 0, none⟩ = some (sv x.tag) ∧ W.cell? ⟨w.heap.size, 1, none⟩ = some (.int .i64 x.kind) ∧ W.cell? ⟨w.heap.size, 2, none⟩ = some (sv []) ∧ W.cell? ⟨w.heap.size, 3, none⟩ = some (sv []) ∧ W.cell? ⟨w.heap.size, 4, none⟩ = some (.bool false) ∧ W.cell? ⟨w.heap.size, 5, none⟩ = some (.slice p x.sset.length c) ∧ W.cell? ⟨w.heap.size, 6, none⟩ = some (.int .i64 x.op) ∧ W.cell? ⟨w.heap.size, 7, none⟩ = some (.int .i64 x.flags) ∧ W.cell? ⟨w.heap.size, 8, none⟩ = some (sv x.text) ∧ W.cell? ⟨w.heap.size, 9, none⟩ = some (.bool x.filter.on) ∧ W.cell? ⟨w.heap.size, 10, none⟩ = some (.slice q x.filter.scopes.length d)))
  have hsl2 : (0 : Int) < (x.sset.length : Int) := by omega
  clear hsl hns
  have hop2 : 0 < x.op := by omega
  clear hop hnp
  clear cOK ha ha2 hs hok hO z1 z2 z3 z5 z8 z9 z10 hbx hst hnt hnk HL HTL hW0 hA hk
  clear hu
  clear hb0
  clear ho0
  clear hf hfl
  go_enter Tryz.func6, Tryz.ntmps6
  go_wp2_with fail
  rw [HW0.out]
  have hbA : Below W0.heap.size W0 (W0.alloc (.cells #[] 48)) := (Below.refl _ _).alloc (Nat.le_refl _) _
  have HO0 := Lib.hid (show (W0.alloc (.cells #[] 48)).ownsRow W0.heap.size 48 2 (.slice (some ⟨w.heap.size + 1, 0, none⟩) 0 0) 0 [] by rw [← HZ1.out]; exact World.ownsRow_made W0 #[] 0 (Nat.le_refl _) (by unfold maxLen; omega) rfl)
  refine (COK.out _ (HB1.out.trans (hbA.mono (by rw [HZ1.out]; omega)))).mono ?_
  rintro e w1 ⟨rfl, b1⟩
  have TK0 := Lib.hid ((show TkC W0 (.slice (some ⟨w.heap.size + 1, 0, none⟩) 0 0) [] (W0.alloc (.cells #[] 48)) from ⟨HO0.out, hbA⟩).call b1)
  clear b1 hbA HO0 COK
  obtain ⟨q0, q1, q2, q3, q4, q5, q6, q7, q8, q9, q10⟩ := HQ.out _ TK0.out.below
  go_wp2_with fail
  refine (CA.out x.tag _).mono ?_
  rintro e w1_ ⟨rfl, b_⟩
  have TK1 := Lib.hid (TK0.out.call b_)
  clear q0 q1 q2 q3 q4 q5 q6 q7 q8 q9 q10
  clear b_ TK0
  obtain ⟨q0, q1, q2, q3, q4, q5, q6, q7, q8, q9, q10⟩ := HQ.out _ TK1.out.below
  go_wp2_with (at_builtin; refine wpList_tkc rfl TK1.out (atT x.tag) (.tmp 11) (.tmp 15) rfl rfl (.inr rfl) rfl (by simp) ?_)
  intro u2 v2 tk_ _
  have TK2 := Lib.hid tk_
  clear q0 q1 q2 q3 q4 q5 q6 q7 q8 q9 q10
  clear tk_ TK1
  obtain ⟨q0, q1, q2, q3, q4, q5, q6, q7, q8, q9, q10⟩ := HQ.out _ TK2.out.below
  go_wp2_with fail
  refine (CK.out _).mono ?_
  rintro e w3_ ⟨rfl, b_⟩
  have TK3 := Lib.hid (TK2.out.call b_)
  clear q0 q1 q2 q3 q4 q5 q6 q7 q8 q9 q10
  clear b_ TK2
  obtain ⟨q0, q1, q2, q3, q4, q5, q6, q7, q8, q9, q10⟩ := HQ.out _ TK3.out.below
  go_wp2_with fail
  refine (CA.out (kdW x.kind) _).mono ?_
  rintro e w4_ ⟨rfl, b_⟩
  have TK4 := Lib.hid (TK3.out.call b_)
  clear q0 q1 q2 q3 q4 q5 q6 q7 q8 q9 q10
  clear b_ TK3
  obtain ⟨q0, q1, q2, q3, q4, q5, q6, q7, q8, q9, q10⟩ := HQ.out _ TK4.out.below
  go_wp2_with (at_builtin; refine wpList_tkc rfl TK4.out (atT (kdW x.kind)) (.tmp 23) (.tmp 28) rfl rfl (.inr rfl) rfl (by simp) ?_)
  intro u5 v5 tk_ _
  have TK5 := Lib.hid tk_
  clear q0 q1 q2 q3 q4 q5 q6 q7 q8 q9 q10
  clear tk_ TK4
  obtain ⟨q0, q1, q2, q3, q4, q5, q6, q7, q8, q9, q10⟩ := HQ.out _ TK5.out.below
  go_wp2_with fail
  refine (CS.out _ (HB1.out.trans (TK5.out.below.mono (by rw [HZ1.out]; omega)))).mono ?_
  rintro e w6_ ⟨rfl, b_⟩
  have TK6 := Lib.hid (TK5.out.call b_)
  clear q0 q1 q2 q3 q4 q5 q6 q7 q8 q9 q10
  clear b_ TK5
  obtain ⟨q0, q1, q2, q3, q4, q5, q6, q7, q8, q9, q10⟩ := HQ.out _ TK6.out.below
  go_wp2_with fail
  refine (CA.out (setT x.sset) _).mono ?_
  rintro e w7_ ⟨rfl, b_⟩
  have TK7 := Lib.hid (TK6.out.call b_)
  clear q0 q1 q2 q3 q4 q5 q6 q7 q8 q9 q10
  clear b_ TK6
  obtain ⟨q0, q1, q2, q3, q4, q5, q6, q7, q8, q9, q10⟩ := HQ.out _ TK7.out.below
  go_wp2_with (at_builtin; refine wpList_tkc rfl TK7.out (atT (setT x.sset)) (.tmp 34) (.tmp 39) rfl rfl (.inr rfl) rfl (by simp) ?_)
  intro u8 v8 tk_ _
  have TK8 := Lib.hid tk_
  clear q0 q1 q2 q3 q4 q5 q6 q7 q8 q9 q10
  clear tk_ TK7
  obtain ⟨q0, q1, q2, q3, q4, q5, q6, q7, q8, q9, q10⟩ := HQ.out _ TK8.out.below
  go_wp2_with fail
  refine (CO.out _).mono ?_
  rintro e w9_ ⟨rfl, b_⟩
  have TK9 := Lib.hid (TK8.out.call b_)
  clear q0 q1 q2 q3 q4 q5 q6 q7 q8 q9 q10
  clear b_ TK8
  obtain ⟨q0, q1, q2, q3, q4, q5, q6, q7, q8, q9, q10⟩ := HQ.out _ TK9.out.below
  go_wp2_with fail
  refine (CA.out (opT x.op) _).mono ?_
  rintro e w10_ ⟨rfl, b_⟩
  have TK10 := Lib.hid (TK9.out.call b_)
  clear q0 q1 q2 q3 q4 q5 q6 q7 q8 q9 q10
  clear b_ TK9
  obtain ⟨q0, q1, q2, q3, q4, q5, q6, q7, q8, q9, q10⟩ := HQ.out _ TK10.out.below
  go_wp2_with (at_builtin; refine wpList_tkc rfl TK10.out (atT (opT x.op)) (.tmp 44) (.tmp 49) rfl rfl (.inr rfl) rfl (by simp) ?_)
  intro u11 v11 tk_ _
  have TK11 := Lib.hid tk_
  clear q0 q1 q2 q3 q4 q5 q6 q7 q8 q9 q10
  clear tk_ TK10
  obtain ⟨q0, q1, q2, q3, q4, q5, q6, q7, q8, q9, q10⟩ := HQ.out _ TK11.out.below
  go_wp2_with fail
  refine (l6Open_any _).mono ?_
  rintro e w12_ ⟨rfl, b_⟩
  have TK12 := Lib.hid (TK11.out.call b_)
  clear q0 q1 q2 q3 q4 q5 q6 q7 q8 q9 q10
  clear b_ TK11
  obtain ⟨q0, q1, q2, q3, q4, q5, q6, q7, q8, q9, q10⟩ := HQ.out _ TK12.out.below
  go_wp2_with (at_builtin; refine wpList_tkc rfl TK12.out opT3 (.tmp 77) (.tmp 79) rfl rfl (.inr rfl) rfl (by simp) ?_)
  intro u13 v13 tk_ _
  have TK13 := Lib.hid tk_
  clear q0 q1 q2 q3 q4 q5 q6 q7 q8 q9 q10
  clear tk_ TK12
  obtain ⟨q0, q1, q2, q3, q4, q5, q6, q7, q8, q9, q10⟩ := HQ.out _ TK13.out.below
  go_wp2_with fail
  refine (CFT.out _).mono ?_
  rintro e w14_ ⟨rfl, b_⟩
  have TK14 := Lib.hid (TK13.out.call b_)
  clear q0 q1 q2 q3 q4 q5 q6 q7 q8 q9 q10
  clear b_ TK13
  obtain ⟨q0, q1, q2, q3, q4, q5, q6, q7, q8, q9, q10⟩ := HQ.out _ TK14.out.below
  go_wp2_with fail
  refine (CP.out _).mono ?_
  rintro e w15_ ⟨v4, rfl, ow, b_⟩
  have TK15 := Lib.hid (TK14.out.call b_)
  rw [HPW0.out] at ow
  generalize hws : flTo x.flags.toNat 5 = ws at *
  obtain ⟨gB, cp, cur, rfl, hbB, hcur⟩ : ∃ g cap cur, v4 = .slice (some ⟨g, 0, none⟩) ws.length cap ∧ w15_.heap[g]? = some (.cells cur 9 (0, 0)) ∧ ∀ i y, ws[i]? = some y → cur[i]? = some (sv y) := by
    rcases ow.2 with ⟨_, h⟩ | ⟨g, cap, cur, h1, _, h3, h4, _, h6, h7⟩
    · exfalso
      have hl0 : ws = [] := List.length_eq_zero_iff.1 h
      have e1 : partsl 32 (flT x.flags) = [] := by rw [hpw, hl0]
      exact partsl_ne 32 _ e1
    · refine ⟨g, cap, cur, h1, h3, fun i y hy => ?_⟩
      have hi := (List.getElem?_eq_some_iff.1 hy).1
      have h8 : (cur.toList.take (ws.length * 1))[i]? = some (sv y) := by rw [h7, List.getElem?_map, hy]; rfl
      rw [List.getElem?_take_of_lt (by omega)] at h8
      simpa using h8
  have HBB := Lib.hid hbB
  have HCUR := Lib.hid hcur
  have HPW := Lib.hid hpw
  clear q0 q1 q2 q3 q4 q5 q6 q7 q8 q9 q10
  clear b_ TK14 ow hbB hcur hpw hws
  generalize hP : ([atT x.tag, atT (kdW x.kind), atT (setT x.sset), atT (opT x.op), opT3] : List Tok) = P0
  have TKp := Lib.hid (show TkC W0 _ P0 _ from by rw [← hP]; simpa using TK15.out)
  have HPL := Lib.hid (show P0.length ≤ 9 by rw [← hP]; simp)
  clear TK15
  have HPE := Lib.hid hP.symm
  clear hP
  obtain ⟨q0, q1, q2, q3, q4, q5, q6, q7, q8, q9, q10⟩ := HQ.out _ TKp.out.below
  go_wp2
  clear q0 q1 q2 q3 q4 q5 q6 q7 q8 q9 q10
  go_loopg [3, 5] ws.length (fun gk u i wr => ∃ k : Nat, k ≤ ws.length ∧ gk = ws.length - k ∧ i = .int .i64 k ∧ TkC W0 u (P0 ++ (ws.map atT).take k) wr ∧ wr.heap[gB]? = some (.cells cur 9 (0, 0)))
  case atStart => exact ⟨0, by omega, rfl, rfl, by simpa using TKp.out, HBB.out⟩
  case round =>
    obtain ⟨k, hk, rfl, rfl, tk, hb⟩ := hrel
    have TKk := Lib.hid tk
    have HBk := Lib.hid hb
    clear tk hb TKp HBB
    obtain ⟨q0, q1, q2, q3, q4, q5, q6, q7, q8, q9, q10⟩ := HQ.out _ TKk.out.below
    by_cases hlt : k < ws.length
    · obtain ⟨y, hy⟩ : ∃ y, ws[k]? = some y := ⟨_, List.getElem?_eq_getElem hlt⟩
      have e1 : wr.cell? ⟨gB, k, none⟩ = some (sv y) := (Lib.cell_of_heap HBk.out k).trans (HCUR.out k y hy)
      have HT1 := Lib.hid (show (ws.map atT).take (k + 1) = (ws.map atT).take k ++ [atT y] by
        obtain ⟨h3, h2⟩ := List.getElem?_eq_some_iff.1 hy
        rw [← List.map_take, ← List.map_take, List.take_succ_eq_append_getElem h3, h2, List.map_append]; rfl)
      have HLEN := Lib.hid (show (P0 ++ (ws.map atT).take k).length ≤ 100000 by
        have h1 := HPL.out
        rw [List.length_append]
        have h2 : ((ws.map atT).take k).length ≤ k := by simp [Nat.min_le_left]
        omega)
      clear hy
      go_wp2_with fail
      refine (CA.out y _).mono ?_
      rintro e wa ⟨rfl, b_⟩
      have TKa := Lib.hid (TKk.out.call b_)
      have HBa := Lib.hid ((b_.block gB (Array.getElem?_eq_some_iff.1 HBk.out).1).trans HBk.out)
      clear b_ e1 TKk HBk q0 q1 q2 q3 q4 q5 q6 q7 q8 q9 q10
      go_wp2_with (at_builtin; refine wpList_tkc rfl TKa.out (atT y) (.tmp 96) (.tmp 102) rfl rfl (.inr rfl) rfl HLEN.out ?_)
      intro u' w' tk' st
      have TKn := Lib.hid (show TkC W0 u' (P0 ++ (ws.map atT).take (k + 1)) w' by rw [HT1.out]; simpa [List.append_assoc] using tk')
      have HBn := Lib.hid (st gB _ _ _ (by decide) HBa.out)
      clear tk' st TKa HBa
      go_wp2
      go_roundg (ws.length - (k + 1))
      case measure => omega
      case rel => exact ⟨k + 1, by omega, rfl, by go_num, TKn.out, HBn.out⟩
    · obtain rfl : k = ws.length := by omega
      have TKe := Lib.hid (show TkC W0 _ (P0 ++ ws.map atT) wr from by have := TKk.out; rwa [List.take_of_length_le (by simp)] at this)
      clear TKk HBk
      go_wp2_with fail
      refine (l6Close_any _).mono ?_
      rintro e wc_ ⟨rfl, b_⟩
      have TK50 := Lib.hid (TKe.out.call b_)
      clear b_ TKe q0 q1 q2 q3 q4 q5 q6 q7 q8 q9 q10
      obtain ⟨q0, q1, q2, q3, q4, q5, q6, q7, q8, q9, q10⟩ := HQ.out _ TK50.out.below
      go_wp2_with (at_builtin; refine wpList_tkc rfl TK50.out clT4 (.tmp 104) (.tmp 106) rfl rfl (.inr rfl) rfl (by have h1 := HPL.out; rw [List.length_append, List.length_map]; omega) ?_)
      intro u51 v51 tk_ _
      have TK51 := Lib.hid tk_
      clear tk_ TK50 q0 q1 q2 q3 q4 q5 q6 q7 q8 q9 q10
      obtain ⟨q0, q1, q2, q3, q4, q5, q6, q7, q8, q9, q10⟩ := HQ.out _ TK51.out.below
      have HF := Lib.hid (show TkC W0 _ (cmdTks x) _ from by rw [HV.out]; have := TK51.out; rw [HPE.out] at this; simpa [grpF] using this)
      clear TK51
      go_wp2
      go_ret
      exact ⟨_, rfl, own_lower HF.out.own (by rw [HZ1.out]; omega), HB1.out.trans (HF.out.below.mono (by rw [HZ1.out]; omega))⟩

end Go.Proofs.YtidjebepgpbcnaaGreatDoor
