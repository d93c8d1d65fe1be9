/-
  Um: CmdO (what the claim needs of them).
-/
import Derived.Handy
import Derived.Maps.RangeWalk
import Derived.Deep.LoopGhost
import Derived.Test.YtidjebepgpbcnaaGreatDoorRows
import Derived.WalkKit
import Derived.WalkSpells
import Derived.WalkLawsBesides
import Derived.Laws.IdiomStrings
import Derived.Lib.Hide
import Derived.Deep.AppendLies
import Derived.OrdersHeld
import Derived.Lib.ItoaNum
import Derived.Lib.ItoaMem
import Derived.Lib.AppendStr
import Derived.Lib.ItoaLen
import Derived.Lib.Strings
import Derived.Lib.Bytealg
import Derived.Lib.OthersKept
import Derived.Laws.RangeAny
import Derived.Laws.BitsAllLaws
import Derived.Laws.BitsLemmas
import Derived.IntWalk
import Derived.Lib.Join
import Derived.Deep.Strs
import Derived.Laws.CopyOwn
import Derived.Test.YtidjebepgpbcnaaGreatDoorProg
import Derived.Lib.LaidTab
import Derived.OpenShut
import Derived.WalkSmall
import Derived.ChangeKeysEq
import Derived.Test.YtidjebepgpbcnaaGreatDoorUb
import Derived.Test.YtidjebepgpbcnaaGreatDoorUc
import Derived.Test.YtidjebepgpbcnaaGreatDoorUd
import Derived.Test.YtidjebepgpbcnaaGreatDoorUe
import Derived.Test.YtidjebepgpbcnaaGreatDoorUg
import Derived.Test.YtidjebepgpbcnaaGreatDoorUi
import Derived.Test.YtidjebepgpbcnaaGreatDoorUj

namespace Go.Proofs.YtidjebepgpbcnaaGreatDoor
open Go.RowKit

set_option maxRecDepth 20000 in
set_option maxHeartbeats 6400000 in
theorem own_10 (x : CmdD) (p q : Option Addr) (c d : Nat) (w : World) (hk : x.kind = 10) (ha : LfRd w (spnsLf x.sset) (.slice p x.sset.length c)) (_ha2 : LfRd w (scpsLf x.filter.scopes) (.slice q x.filter.scopes.length d)) (hs : szLs x.lf ≤ 1048576) (hbd : LsBnd x.lf) :
    Calls Tryz.prog 60 #[cmdv x (.slice p x.sset.length c) (.slice q x.filter.scopes.length d)] w fun e w' => e = .returned (.tuple #[.agg #[sv x.tag, .int .i64 x.kind, sv x.box, sv [], .bool x.uid, .slice p x.sset.length c, .int .i64 0, .int .i64 0, sv [], .bool false, .slice none 0 0], .bool (setB x.sset && nameB x.box)]) ∧ Below w.heap.size w w' := by
  obtain ⟨_, z2, z3, z5, z8, z9, z10⟩ := CmdD.small hs
  obtain ⟨_, i6, i7, i5, i10⟩ := CmdD.bndO hbd
  have cset5 := fun W (h : Below w.heap.size w W) => implSetOk_big (.slice p x.sset.length c) x.sset W (spns_rd (LfRd.below h _ _ ha)) (by omega)
  have cname2 := fun W => implNameOk_any ⟨x.box.toArray⟩ W (by unfold maxLen; show x.box.toArray.size ≤ _; simp; omega)
  clear ha _ha2 z2 z3 z5 z8 z9 z10 i6 i7 i5 i10 hs hbd
  have t1 : (x.kind == 1) = false := by rw [beq_eq_false_iff_ne]; omega
  have t3 : (x.kind == 3) = false := by rw [beq_eq_false_iff_ne]; omega
  have t4 : (x.kind == 4) = false := by rw [beq_eq_false_iff_ne]; omega
  have t5 : (x.kind == 5) = false := by rw [beq_eq_false_iff_ne]; omega
  have t9 : (x.kind == 9) = false := by rw [beq_eq_false_iff_ne]; omega
  have t15 : (x.kind == 15) = false := by rw [beq_eq_false_iff_ne]; omega
  have t2 : (x.kind == 2) = false := by rw [beq_eq_false_iff_ne]; omega
  have t12 : (x.kind == 12) = false := by rw [beq_eq_false_iff_ne]; omega
  have t13 : (x.kind == 13) = false := by rw [beq_eq_false_iff_ne]; omega
  have t14 : (x.kind == 14) = false := by rw [beq_eq_false_iff_ne]; omega
  have t11 : (x.kind == 11) = false := by rw [beq_eq_false_iff_ne]; omega
  have t7 : (x.kind == 7) = false := by rw [beq_eq_false_iff_ne]; omega
  have t10 : (x.kind == 10) = true := by rw [beq_iff_eq]; omega
  clear hk
  have Cset5 := Lib.hid cset5
  clear cset5
  have Cname2 := Lib.hid cname2
  clear cname2
  go_enter Tryz.func60, Tryz.ntmps60
  go_wp2
  refine wp_named ?_
  intro X hX
  have H0 := Lib.hid (Own3.of hX)
  clear hX
  have HS := Lib.hid (fun (W : World) (R O : Array Value) (H : Own3 36 w W #[sv x.tag, .int .i64 x.kind, sv x.box, sv x.dst, .bool x.uid, .slice p x.sset.length c, .int .i64 x.op, .int .i64 x.flags, sv x.text, .bool x.filter.on, .slice q x.filter.scopes.length d] R O) => (⟨(Lib.cell_of_heap H.a 4).trans rfl, (Lib.cell_of_heap H.a 5).trans rfl, (Lib.cell_of_heap H.a 2).trans rfl⟩ : W.cell? ⟨w.heap.size, 4, none⟩ = some (.bool x.uid) ∧ W.cell? ⟨w.heap.size, 5, none⟩ = some (.slice p x.sset.length c) ∧ W.cell? ⟨w.heap.size, 2, none⟩ = some (sv x.box)))
  have hs0 := HS.out X.drew _ _ H0.out.drew
  refine ord_start [(0, true), (1, true), (2, true), (3, true), (4, true), (5, true), (6, true), (7, false), (8, true), (9, false), (10, true), (11, false)] (fun W => W.cell? ⟨w.heap.size, 4, none⟩ = some (.bool x.uid) ∧ W.cell? ⟨w.heap.size, 5, none⟩ = some (.slice p x.sset.length c) ∧ W.cell? ⟨w.heap.size, 2, none⟩ = some (sv x.box)) (by kernel_rfl) (by kernel_rfl) rfl (by kernel_rfl) ?_
  intro ops' hops
  clear hops
  simp only [List.map_cons, List.map_nil, pickOp_zero, pickOp_succ]
  iterate 7 (refine ord_flo ?_ (fun _ _ _ h => h) rfl ?_ hs0 ?_; rotate_left; focus (intro W hS; obtain ⟨s0, s1, s2⟩ := hS; go_simp; rfl))
  go_frame
  refine ord_ev rfl ?_
  refine wp_store_cell _ _ _ rfl (w.heap.size + 1 + 1) 4 (.bool x.uid) (by rfl) (by rfl) _ _ (H0.out.drew).o (by simp) (by kernel_rfl) rfl rfl ?_
  intro X1 hX1
  have H1 := Lib.hid (show Own3 _ w X1 _ _ _ from by rw [hX1]; exact (H0.out.drew).setO 4 (.bool x.uid))
  clear hX1
  refine ⟨HS.out _ _ _ H1.out, ?_⟩
  have hs1 := HS.out _ _ _ H1.out
  iterate 1 (refine ord_flo ?_ (fun _ _ _ h => h) rfl ?_ hs1 ?_; rotate_left; focus (intro W hS; obtain ⟨s0, s1, s2⟩ := hS; go_simp; rfl))
  go_frame
  refine ord_ev rfl ?_
  refine wp_store_cell _ _ _ rfl (w.heap.size + 1 + 1) 5 (.slice p x.sset.length c) (by rfl) (by rfl) _ _ (H1.out).o (by simp) (by kernel_rfl) rfl rfl ?_
  intro X2 hX2
  have H2 := Lib.hid (show Own3 _ w X2 _ _ _ from by rw [hX2]; exact (H1.out).setO 5 (.slice p x.sset.length c))
  clear hX2
  refine ⟨HS.out _ _ _ H2.out, ?_⟩
  have hs2 := HS.out _ _ _ H2.out
  iterate 1 (refine ord_flo ?_ (fun _ _ _ h => h) rfl ?_ hs2 ?_; rotate_left; focus (intro W hS; obtain ⟨s0, s1, s2⟩ := hS; go_simp; rfl))
  go_frame
  refine ord_ev rfl ?_
  refine wp_store_cell _ _ _ rfl (w.heap.size + 1 + 1) 2 (sv x.box) (by rfl) (by rfl) _ _ (H2.out).o (by simp) (by kernel_rfl) rfl rfl ?_
  intro X3 hX3
  have H3 := Lib.hid (show Own3 _ w X3 _ _ _ from by rw [hX3]; exact (H2.out).setO 2 (sv x.box))
  clear hX3
  refine ⟨HS.out _ _ _ H3.out, ?_⟩
  have hs3 := HS.out _ _ _ H3.out
  refine ord_done ?_
  go_simp
  clear HS hs0 hs1 hs2 hs3
  go_wp2
  have K0 := Lib.hid H3.out
  clear H0 H1 H2 H3
  have HS := Lib.hid (fun (W : World) (R : Array Value) (H : Own3 36 w W #[sv x.tag, .int .i64 x.kind, sv x.box, sv x.dst, .bool x.uid, .slice p x.sset.length c, .int .i64 x.op, .int .i64 x.flags, sv x.text, .bool x.filter.on, .slice q x.filter.scopes.length d] R #[sv x.tag, .int .i64 x.kind, sv x.box, sv [], .bool x.uid, .slice p x.sset.length c, .int .i64 0, .int .i64 0, sv [], .bool false, .slice none 0 0]) => (⟨(Lib.cell_of_heap H.a 5).trans rfl, (Lib.cell_of_heap H.a 2).trans rfl, (Lib.cell_of_heap H.o 0).trans rfl, (Lib.cell_of_heap H.o 1).trans rfl, (Lib.cell_of_heap H.o 2).trans rfl, (Lib.cell_of_heap H.o 3).trans rfl, (Lib.cell_of_heap H.o 4).trans rfl, (Lib.cell_of_heap H.o 5).trans rfl, (Lib.cell_of_heap H.o 6).trans rfl, (Lib.cell_of_heap H.o 7).trans rfl, (Lib.cell_of_heap H.o 8).trans rfl, (Lib.cell_of_heap H.o 9).trans rfl, (Lib.cell_of_heap H.o 10).trans rfl⟩ : W.cell? ⟨w.heap.size, 5, none⟩ = some (.slice p x.sset.length c) ∧ W.cell? ⟨w.heap.size, 2, none⟩ = some (sv x.box) ∧ W.cell? ⟨w.heap.size + 1 + 1, 0, none⟩ = some (sv x.tag) ∧ W.cell? ⟨w.heap.size + 1 + 1, 1, none⟩ = some (.int .i64 x.kind) ∧ W.cell? ⟨w.heap.size + 1 + 1, 2, none⟩ = some (sv x.box) ∧ W.cell? ⟨w.heap.size + 1 + 1, 3, none⟩ = some (sv []) ∧ W.cell? ⟨w.heap.size + 1 + 1, 4, none⟩ = some (.bool x.uid) ∧ W.cell? ⟨w.heap.size + 1 + 1, 5, none⟩ = some (.slice p x.sset.length c) ∧ W.cell? ⟨w.heap.size + 1 + 1, 6, none⟩ = some (.int .i64 0) ∧ W.cell? ⟨w.heap.size + 1 + 1, 7, none⟩ = some (.int .i64 0) ∧ W.cell? ⟨w.heap.size + 1 + 1, 8, none⟩ = some (sv []) ∧ W.cell? ⟨w.heap.size + 1 + 1, 9, none⟩ = some (.bool false) ∧ W.cell? ⟨w.heap.size + 1 + 1, 10, none⟩ = some (.slice none 0 0)))
  have hs0 := HS.out X3.drew _ K0.out.drew
  cases e0 : (setB x.sset) with
  | true =>
    cases e1 : (nameB x.box) with
    | true =>
      rw [e0] at Cset5
      rw [show nameB (ByteArray.mk x.box.toArray).data.toList = true from e1] at Cname2
      refine ord_start [(0, true), (1, true), (2, true), (3, false), (4, true), (5, true), (6, true), (7, false), (8, true), (9, false), (10, true)] (fun W => W.cell? ⟨w.heap.size, 5, none⟩ = some (.slice p x.sset.length c) ∧ W.cell? ⟨w.heap.size, 2, none⟩ = some (sv x.box) ∧ W.cell? ⟨w.heap.size + 1 + 1, 0, none⟩ = some (sv x.tag) ∧ W.cell? ⟨w.heap.size + 1 + 1, 1, none⟩ = some (.int .i64 x.kind) ∧ W.cell? ⟨w.heap.size + 1 + 1, 2, none⟩ = some (sv x.box) ∧ W.cell? ⟨w.heap.size + 1 + 1, 3, none⟩ = some (sv []) ∧ W.cell? ⟨w.heap.size + 1 + 1, 4, none⟩ = some (.bool x.uid) ∧ W.cell? ⟨w.heap.size + 1 + 1, 5, none⟩ = some (.slice p x.sset.length c) ∧ W.cell? ⟨w.heap.size + 1 + 1, 6, none⟩ = some (.int .i64 0) ∧ W.cell? ⟨w.heap.size + 1 + 1, 7, none⟩ = some (.int .i64 0) ∧ W.cell? ⟨w.heap.size + 1 + 1, 8, none⟩ = some (sv []) ∧ W.cell? ⟨w.heap.size + 1 + 1, 9, none⟩ = some (.bool false) ∧ W.cell? ⟨w.heap.size + 1 + 1, 10, none⟩ = some (.slice none 0 0)) (by kernel_rfl) (by kernel_rfl) rfl (by kernel_rfl) ?_
      intro ops' hops
      simp only [List.map_cons, List.map_nil, pickOp_zero, pickOp_succ]
      iterate 3 (refine ord_flo ?_ (fun _ _ _ h => h) rfl ?_ hs0 ?_; rotate_left; focus (intro W hS; obtain ⟨s0, s1, s2, s3, s4, s5, s6, s7, s8, s9, s10, s11, s12⟩ := hS; go_simp; rfl))
      try go_frame
      refine ord_ev rfl ?_
      go_simp
      refine (Cset5.out _ (K0.out.drew).b).mono ?_
      rintro e w1 ⟨rfl, b1⟩
      have K1 := Lib.hid ((K0.out.drew).call b1)
      clear b1
      have hs1 := HS.out _ _ K1.out
      refine ⟨hs1, ?_⟩
      iterate 1 (refine ord_flo ?_ (fun _ _ _ h => h) rfl ?_ hs1 ?_; rotate_left; focus (intro W hS; obtain ⟨s0, s1, s2, s3, s4, s5, s6, s7, s8, s9, s10, s11, s12⟩ := hS; go_simp; rfl))
      iterate 2 (refine ord_flo ?_ (fun _ _ _ h => h) (by rw [hops.out]; kernel_rfl) ?_ hs1 ?_; rotate_left; focus (intro W hS; obtain ⟨s0, s1, s2, s3, s4, s5, s6, s7, s8, s9, s10, s11, s12⟩ := hS; go_simp; rfl))
      try go_frame
      refine ord_ev (by rw [hops.out]; kernel_rfl) ?_
      go_simp
      refine (Cname2.out _).mono ?_
      rintro e w2 ⟨rfl, b2⟩
      have K2 := Lib.hid ((K1.out).call b2)
      clear b2
      have hs2 := HS.out _ _ K2.out
      refine ⟨hs2, ?_⟩
      iterate 1 (refine ord_flo ?_ (fun _ _ _ h => h) rfl ?_ hs2 ?_; rotate_left; focus (intro W hS; obtain ⟨s0, s1, s2, s3, s4, s5, s6, s7, s8, s9, s10, s11, s12⟩ := hS; go_simp; rfl))
      try go_frame
      refine ord_ev rfl ?_
      refine wp_store_row2 _ _ _ rfl (w.heap.size + 1) #[sv x.tag, .int .i64 x.kind, sv x.box, sv [], .bool x.uid, .slice p x.sset.length c, .int .i64 0, .int .i64 0, sv [], .bool false, .slice none 0 0] (by rfl) (by rfl) _ _ (K2.out).r (by kernel_rfl) rfl (by simp [Value.oneCell', sv]) ?_
      intro Z hZ
      have KF := Lib.hid (show Own3 _ w Z _ _ _ from by rw [hZ]; exact (K2.out).setR #[sv x.tag, .int .i64 x.kind, sv x.box, sv [], .bool x.uid, .slice p x.sset.length c, .int .i64 0, .int .i64 0, sv [], .bool false, .slice none 0 0])
      clear hZ
      refine ⟨HS.out _ _ KF.out, ?_⟩
      have hsf := HS.out _ _ KF.out
      iterate 1 (refine ord_flo ?_ (fun _ _ _ h => h) rfl ?_ hsf ?_; rotate_left; focus (intro W hS; obtain ⟨s0, s1, s2, s3, s4, s5, s6, s7, s8, s9, s10, s11, s12⟩ := hS; go_simp; rfl))
      refine ord_done ?_
      go_simp
      clear HS hsf hs0 hs1 hs2
      have g0 := (Lib.cell_of_heap KF.out.r 0).trans (show _ = some (sv x.tag) from rfl)
      have g1 := (Lib.cell_of_heap KF.out.r 1).trans (show _ = some (.int .i64 x.kind) from rfl)
      have g2 := (Lib.cell_of_heap KF.out.r 2).trans (show _ = some (sv x.box) from rfl)
      have g3 := (Lib.cell_of_heap KF.out.r 3).trans (show _ = some (sv []) from rfl)
      have g4 := (Lib.cell_of_heap KF.out.r 4).trans (show _ = some (.bool x.uid) from rfl)
      have g5 := (Lib.cell_of_heap KF.out.r 5).trans (show _ = some (.slice p x.sset.length c) from rfl)
      have g6 := (Lib.cell_of_heap KF.out.r 6).trans (show _ = some (.int .i64 0) from rfl)
      have g7 := (Lib.cell_of_heap KF.out.r 7).trans (show _ = some (.int .i64 0) from rfl)
      have g8 := (Lib.cell_of_heap KF.out.r 8).trans (show _ = some (sv []) from rfl)
      have g9 := (Lib.cell_of_heap KF.out.r 9).trans (show _ = some (.bool false) from rfl)
      have g10 := (Lib.cell_of_heap KF.out.r 10).trans (show _ = some (.slice none 0 0) from rfl)
      have HB := Lib.hid KF.out.b
      clear KF
      go_wp2
      exact bodyPost_ret (v := .tuple #[.agg #[sv x.tag, .int .i64 x.kind, sv x.box, sv [], .bool x.uid, .slice p x.sset.length c, .int .i64 0, .int .i64 0, sv [], .bool false, .slice none 0 0], .bool true]) (by simp [results, Tryz.results60, go_sem, g0, g1, g2, g3, g4, g5, g6, g7, g8, g9, g10]) rfl ⟨fin2 (by first | rfl | (rw [e0] <;> rfl) | (rw [e0, e1] <;> rfl)), HB.out⟩
    | false =>
      rw [e0] at Cset5
      rw [show nameB (ByteArray.mk x.box.toArray).data.toList = false from e1] at Cname2
      refine ord_start [(0, true), (1, true), (2, true), (3, false), (4, true), (5, true), (6, true), (7, false), (8, true), (9, false), (10, true)] (fun W => W.cell? ⟨w.heap.size, 5, none⟩ = some (.slice p x.sset.length c) ∧ W.cell? ⟨w.heap.size, 2, none⟩ = some (sv x.box) ∧ W.cell? ⟨w.heap.size + 1 + 1, 0, none⟩ = some (sv x.tag) ∧ W.cell? ⟨w.heap.size + 1 + 1, 1, none⟩ = some (.int .i64 x.kind) ∧ W.cell? ⟨w.heap.size + 1 + 1, 2, none⟩ = some (sv x.box) ∧ W.cell? ⟨w.heap.size + 1 + 1, 3, none⟩ = some (sv []) ∧ W.cell? ⟨w.heap.size + 1 + 1, 4, none⟩ = some (.bool x.uid) ∧ W.cell? ⟨w.heap.size + 1 + 1, 5, none⟩ = some (.slice p x.sset.length c) ∧ W.cell? ⟨w.heap.size + 1 + 1, 6, none⟩ = some (.int .i64 0) ∧ W.cell? ⟨w.heap.size + 1 + 1, 7, none⟩ = some (.int .i64 0) ∧ W.cell? ⟨w.heap.size + 1 + 1, 8, none⟩ = some (sv []) ∧ W.cell? ⟨w.heap.size + 1 + 1, 9, none⟩ = some (.bool false) ∧ W.cell? ⟨w.heap.size + 1 + 1, 10, none⟩ = some (.slice none 0 0)) (by kernel_rfl) (by kernel_rfl) rfl (by kernel_rfl) ?_
      intro ops' hops
      simp only [List.map_cons, List.map_nil, pickOp_zero, pickOp_succ]
      iterate 3 (refine ord_flo ?_ (fun _ _ _ h => h) rfl ?_ hs0 ?_; rotate_left; focus (intro W hS; obtain ⟨s0, s1, s2, s3, s4, s5, s6, s7, s8, s9, s10, s11, s12⟩ := hS; go_simp; rfl))
      try go_frame
      refine ord_ev rfl ?_
      go_simp
      refine (Cset5.out _ (K0.out.drew).b).mono ?_
      rintro e w1 ⟨rfl, b1⟩
      have K1 := Lib.hid ((K0.out.drew).call b1)
      clear b1
      have hs1 := HS.out _ _ K1.out
      refine ⟨hs1, ?_⟩
      iterate 1 (refine ord_flo ?_ (fun _ _ _ h => h) rfl ?_ hs1 ?_; rotate_left; focus (intro W hS; obtain ⟨s0, s1, s2, s3, s4, s5, s6, s7, s8, s9, s10, s11, s12⟩ := hS; go_simp; rfl))
      iterate 2 (refine ord_flo ?_ (fun _ _ _ h => h) (by rw [hops.out]; kernel_rfl) ?_ hs1 ?_; rotate_left; focus (intro W hS; obtain ⟨s0, s1, s2, s3, s4, s5, s6, s7, s8, s9, s10, s11, s12⟩ := hS; go_simp; rfl))
      try go_frame
      refine ord_ev (by rw [hops.out]; kernel_rfl) ?_
      go_simp
      refine (Cname2.out _).mono ?_
      rintro e w2 ⟨rfl, b2⟩
      have K2 := Lib.hid ((K1.out).call b2)
      clear b2
      have hs2 := HS.out _ _ K2.out
      refine ⟨hs2, ?_⟩
      iterate 1 (refine ord_flo ?_ (fun _ _ _ h => h) rfl ?_ hs2 ?_; rotate_left; focus (intro W hS; obtain ⟨s0, s1, s2, s3, s4, s5, s6, s7, s8, s9, s10, s11, s12⟩ := hS; go_simp; rfl))
      try go_frame
      refine ord_ev rfl ?_
      refine wp_store_row2 _ _ _ rfl (w.heap.size + 1) #[sv x.tag, .int .i64 x.kind, sv x.box, sv [], .bool x.uid, .slice p x.sset.length c, .int .i64 0, .int .i64 0, sv [], .bool false, .slice none 0 0] (by rfl) (by rfl) _ _ (K2.out).r (by kernel_rfl) rfl (by simp [Value.oneCell', sv]) ?_
      intro Z hZ
      have KF := Lib.hid (show Own3 _ w Z _ _ _ from by rw [hZ]; exact (K2.out).setR #[sv x.tag, .int .i64 x.kind, sv x.box, sv [], .bool x.uid, .slice p x.sset.length c, .int .i64 0, .int .i64 0, sv [], .bool false, .slice none 0 0])
      clear hZ
      refine ⟨HS.out _ _ KF.out, ?_⟩
      have hsf := HS.out _ _ KF.out
      iterate 1 (refine ord_flo ?_ (fun _ _ _ h => h) rfl ?_ hsf ?_; rotate_left; focus (intro W hS; obtain ⟨s0, s1, s2, s3, s4, s5, s6, s7, s8, s9, s10, s11, s12⟩ := hS; go_simp; rfl))
      refine ord_done ?_
      go_simp
      clear HS hsf hs0 hs1 hs2
      have g0 := (Lib.cell_of_heap KF.out.r 0).trans (show _ = some (sv x.tag) from rfl)
      have g1 := (Lib.cell_of_heap KF.out.r 1).trans (show _ = some (.int .i64 x.kind) from rfl)
      have g2 := (Lib.cell_of_heap KF.out.r 2).trans (show _ = some (sv x.box) from rfl)
      have g3 := (Lib.cell_of_heap KF.out.r 3).trans (show _ = some (sv []) from rfl)
      have g4 := (Lib.cell_of_heap KF.out.r 4).trans (show _ = some (.bool x.uid) from rfl)
      have g5 := (Lib.cell_of_heap KF.out.r 5).trans (show _ = some (.slice p x.sset.length c) from rfl)
      have g6 := (Lib.cell_of_heap KF.out.r 6).trans (show _ = some (.int .i64 0) from rfl)
      have g7 := (Lib.cell_of_heap KF.out.r 7).trans (show _ = some (.int .i64 0) from rfl)
      have g8 := (Lib.cell_of_heap KF.out.r 8).trans (show _ = some (sv []) from rfl)
      have g9 := (Lib.cell_of_heap KF.out.r 9).trans (show _ = some (.bool false) from rfl)
      have g10 := (Lib.cell_of_heap KF.out.r 10).trans (show _ = some (.slice none 0 0) from rfl)
      have HB := Lib.hid KF.out.b
      clear KF
      go_wp2
      exact bodyPost_ret (v := .tuple #[.agg #[sv x.tag, .int .i64 x.kind, sv x.box, sv [], .bool x.uid, .slice p x.sset.length c, .int .i64 0, .int .i64 0, sv [], .bool false, .slice none 0 0], .bool false]) (by simp [results, Tryz.results60, go_sem, g0, g1, g2, g3, g4, g5, g6, g7, g8, g9, g10]) rfl ⟨fin2 (by first | rfl | (rw [e0] <;> rfl) | (rw [e0, e1] <;> rfl)), HB.out⟩
  | false =>
    rw [e0] at Cset5
    refine ord_start [(0, true), (1, true), (2, true), (3, false), (4, true), (5, true), (6, true), (7, false), (8, true), (9, false), (10, true)] (fun W => W.cell? ⟨w.heap.size, 5, none⟩ = some (.slice p x.sset.length c) ∧ W.cell? ⟨w.heap.size, 2, none⟩ = some (sv x.box) ∧ W.cell? ⟨w.heap.size + 1 + 1, 0, none⟩ = some (sv x.tag) ∧ W.cell? ⟨w.heap.size + 1 + 1, 1, none⟩ = some (.int .i64 x.kind) ∧ W.cell? ⟨w.heap.size + 1 + 1, 2, none⟩ = some (sv x.box) ∧ W.cell? ⟨w.heap.size + 1 + 1, 3, none⟩ = some (sv []) ∧ W.cell? ⟨w.heap.size + 1 + 1, 4, none⟩ = some (.bool x.uid) ∧ W.cell? ⟨w.heap.size + 1 + 1, 5, none⟩ = some (.slice p x.sset.length c) ∧ W.cell? ⟨w.heap.size + 1 + 1, 6, none⟩ = some (.int .i64 0) ∧ W.cell? ⟨w.heap.size + 1 + 1, 7, none⟩ = some (.int .i64 0) ∧ W.cell? ⟨w.heap.size + 1 + 1, 8, none⟩ = some (sv []) ∧ W.cell? ⟨w.heap.size + 1 + 1, 9, none⟩ = some (.bool false) ∧ W.cell? ⟨w.heap.size + 1 + 1, 10, none⟩ = some (.slice none 0 0)) (by kernel_rfl) (by kernel_rfl) rfl (by kernel_rfl) ?_
    intro ops' hops
    simp only [List.map_cons, List.map_nil, pickOp_zero, pickOp_succ]
    iterate 3 (refine ord_flo ?_ (fun _ _ _ h => h) rfl ?_ hs0 ?_; rotate_left; focus (intro W hS; obtain ⟨s0, s1, s2, s3, s4, s5, s6, s7, s8, s9, s10, s11, s12⟩ := hS; go_simp; rfl))
    try go_frame
    refine ord_ev rfl ?_
    go_simp
    refine (Cset5.out _ (K0.out.drew).b).mono ?_
    rintro e w1 ⟨rfl, b1⟩
    have K1 := Lib.hid ((K0.out.drew).call b1)
    clear b1
    have hs1 := HS.out _ _ K1.out
    refine ⟨hs1, ?_⟩
    iterate 1 (refine ord_flo ?_ (fun _ _ _ h => h) rfl ?_ hs1 ?_; rotate_left; focus (intro W hS; obtain ⟨s0, s1, s2, s3, s4, s5, s6, s7, s8, s9, s10, s11, s12⟩ := hS; go_simp; rfl))
    iterate 2 (refine ord_not (fun _ _ _ h => h) (by rw [hops.out]; kernel_rfl) hs1 ?_)
    refine ord_evnot hs1 (by rw [hops.out]; kernel_rfl) ?_
    iterate 1 (refine ord_flo ?_ (fun _ _ _ h => h) rfl ?_ hs1 ?_; rotate_left; focus (intro W hS; obtain ⟨s0, s1, s2, s3, s4, s5, s6, s7, s8, s9, s10, s11, s12⟩ := hS; go_simp; rfl))
    try go_frame
    refine ord_ev rfl ?_
    refine wp_store_row2 _ _ _ rfl (w.heap.size + 1) #[sv x.tag, .int .i64 x.kind, sv x.box, sv [], .bool x.uid, .slice p x.sset.length c, .int .i64 0, .int .i64 0, sv [], .bool false, .slice none 0 0] (by rfl) (by rfl) _ _ (K1.out).r (by kernel_rfl) rfl (by simp [Value.oneCell', sv]) ?_
    intro Z hZ
    have KF := Lib.hid (show Own3 _ w Z _ _ _ from by rw [hZ]; exact (K1.out).setR #[sv x.tag, .int .i64 x.kind, sv x.box, sv [], .bool x.uid, .slice p x.sset.length c, .int .i64 0, .int .i64 0, sv [], .bool false, .slice none 0 0])
    clear hZ
    refine ⟨HS.out _ _ KF.out, ?_⟩
    have hsf := HS.out _ _ KF.out
    iterate 1 (refine ord_flo ?_ (fun _ _ _ h => h) rfl ?_ hsf ?_; rotate_left; focus (intro W hS; obtain ⟨s0, s1, s2, s3, s4, s5, s6, s7, s8, s9, s10, s11, s12⟩ := hS; go_simp; rfl))
    refine ord_done ?_
    go_simp
    clear HS hsf hs0 hs1
    have g0 := (Lib.cell_of_heap KF.out.r 0).trans (show _ = some (sv x.tag) from rfl)
    have g1 := (Lib.cell_of_heap KF.out.r 1).trans (show _ = some (.int .i64 x.kind) from rfl)
    have g2 := (Lib.cell_of_heap KF.out.r 2).trans (show _ = some (sv x.box) from rfl)
    have g3 := (Lib.cell_of_heap KF.out.r 3).trans (show _ = some (sv []) from rfl)
    have g4 := (Lib.cell_of_heap KF.out.r 4).trans (show _ = some (.bool x.uid) from rfl)
    have g5 := (Lib.cell_of_heap KF.out.r 5).trans (show _ = some (.slice p x.sset.length c) from rfl)
    have g6 := (Lib.cell_of_heap KF.out.r 6).trans (show _ = some (.int .i64 0) from rfl)
    have g7 := (Lib.cell_of_heap KF.out.r 7).trans (show _ = some (.int .i64 0) from rfl)
    have g8 := (Lib.cell_of_heap KF.out.r 8).trans (show _ = some (sv []) from rfl)
    have g9 := (Lib.cell_of_heap KF.out.r 9).trans (show _ = some (.bool false) from rfl)
    have g10 := (Lib.cell_of_heap KF.out.r 10).trans (show _ = some (.slice none 0 0) from rfl)
    have HB := Lib.hid KF.out.b
    clear KF
    go_wp2
    exact bodyPost_ret (v := .tuple #[.agg #[sv x.tag, .int .i64 x.kind, sv x.box, sv [], .bool x.uid, .slice p x.sset.length c, .int .i64 0, .int .i64 0, sv [], .bool false, .slice none 0 0], .bool false]) (by simp [results, Tryz.results60, go_sem, g0, g1, g2, g3, g4, g5, g6, g7, g8, g9, g10]) rfl ⟨fin2 (by first | rfl | (rw [e0] <;> rfl)), HB.out⟩

set_option maxRecDepth 20000 in
set_option maxHeartbeats 6400000 in
theorem own_8 (x : CmdD) (p q : Option Addr) (c d : Nat) (w : World) (hk : x.kind = 8) (ha : LfRd w (spnsLf x.sset) (.slice p x.sset.length c)) (_ha2 : LfRd w (scpsLf x.filter.scopes) (.slice q x.filter.scopes.length d)) (hs : szLs x.lf ≤ 1048576) (hbd : LsBnd x.lf) :
    Calls Tryz.prog 60 #[cmdv x (.slice p x.sset.length c) (.slice q x.filter.scopes.length d)] w fun e w' => e = .returned (.tuple #[.agg #[sv x.tag, .int .i64 x.kind, sv [], sv [], .bool x.uid, .slice p x.sset.length c, .int .i64 x.op, .int .i64 x.flags, sv [], .bool false, .slice none 0 0], .bool (setB x.sset && opB x.op && flB x.flags)]) ∧ Below w.heap.size w w' := by
  obtain ⟨_, z2, z3, z5, z8, z9, z10⟩ := CmdD.small hs
  obtain ⟨_, i6, i7, i5, i10⟩ := CmdD.bndO hbd
  have cset5 := fun W (h : Below w.heap.size w W) => implSetOk_big (.slice p x.sset.length c) x.sset W (spns_rd (LfRd.below h _ _ ha)) (by omega)
  have cop6 := fun W => implOpText_at x.op W
  have cflags7 := fun W => implFlagsOk_at x.flags W
  clear ha _ha2 z2 z3 z5 z8 z9 z10 i6 i7 i5 i10 hs hbd
  have t1 : (x.kind == 1) = false := by rw [beq_eq_false_iff_ne]; omega
  have t3 : (x.kind == 3) = false := by rw [beq_eq_false_iff_ne]; omega
  have t4 : (x.kind == 4) = false := by rw [beq_eq_false_iff_ne]; omega
  have t5 : (x.kind == 5) = false := by rw [beq_eq_false_iff_ne]; omega
  have t9 : (x.kind == 9) = false := by rw [beq_eq_false_iff_ne]; omega
  have t15 : (x.kind == 15) = false := by rw [beq_eq_false_iff_ne]; omega
  have t2 : (x.kind == 2) = false := by rw [beq_eq_false_iff_ne]; omega
  have t12 : (x.kind == 12) = false := by rw [beq_eq_false_iff_ne]; omega
  have t13 : (x.kind == 13) = false := by rw [beq_eq_false_iff_ne]; omega
  have t14 : (x.kind == 14) = false := by rw [beq_eq_false_iff_ne]; omega
  have t11 : (x.kind == 11) = false := by rw [beq_eq_false_iff_ne]; omega
  have t7 : (x.kind == 7) = false := by rw [beq_eq_false_iff_ne]; omega
  have t10 : (x.kind == 10) = false := by rw [beq_eq_false_iff_ne]; omega
  have t8 : (x.kind == 8) = true := by rw [beq_iff_eq]; omega
  clear hk
  have Cset5 := Lib.hid cset5
  clear cset5
  have Cop6 := Lib.hid cop6
  clear cop6
  have Cflags7 := Lib.hid cflags7
  clear cflags7
  go_enter Tryz.func60, Tryz.ntmps60
  go_wp2
  refine wp_named ?_
  intro X hX
  have H0 := Lib.hid (Own3.of hX)
  clear hX
  have HS := Lib.hid (fun (W : World) (R O : Array Value) (H : Own3 36 w W #[sv x.tag, .int .i64 x.kind, sv x.box, sv x.dst, .bool x.uid, .slice p x.sset.length c, .int .i64 x.op, .int .i64 x.flags, sv x.text, .bool x.filter.on, .slice q x.filter.scopes.length d] R O) => (⟨(Lib.cell_of_heap H.a 4).trans rfl, (Lib.cell_of_heap H.a 5).trans rfl, (Lib.cell_of_heap H.a 6).trans rfl, (Lib.cell_of_heap H.a 7).trans rfl⟩ : W.cell? ⟨w.heap.size, 4, none⟩ = some (.bool x.uid) ∧ W.cell? ⟨w.heap.size, 5, none⟩ = some (.slice p x.sset.length c) ∧ W.cell? ⟨w.heap.size, 6, none⟩ = some (.int .i64 x.op) ∧ W.cell? ⟨w.heap.size, 7, none⟩ = some (.int .i64 x.flags)))
  have hs0 := HS.out X.drew _ _ H0.out.drew
  refine ord_start [(0, true), (1, true), (2, true), (3, true), (4, true), (5, true), (6, true), (7, true), (8, true), (9, false), (10, true), (11, false), (12, true), (13, false), (14, true), (15, false)] (fun W => W.cell? ⟨w.heap.size, 4, none⟩ = some (.bool x.uid) ∧ W.cell? ⟨w.heap.size, 5, none⟩ = some (.slice p x.sset.length c) ∧ W.cell? ⟨w.heap.size, 6, none⟩ = some (.int .i64 x.op) ∧ W.cell? ⟨w.heap.size, 7, none⟩ = some (.int .i64 x.flags)) (by kernel_rfl) (by kernel_rfl) rfl (by kernel_rfl) ?_
  intro ops' hops
  clear hops
  simp only [List.map_cons, List.map_nil, pickOp_zero, pickOp_succ]
  iterate 9 (refine ord_flo ?_ (fun _ _ _ h => h) rfl ?_ hs0 ?_; rotate_left; focus (intro W hS; obtain ⟨s0, s1, s2, s3⟩ := hS; go_simp; rfl))
  go_frame
  refine ord_ev rfl ?_
  refine wp_store_cell _ _ _ rfl (w.heap.size + 1 + 1) 4 (.bool x.uid) (by rfl) (by rfl) _ _ (H0.out.drew).o (by simp) (by kernel_rfl) rfl rfl ?_
  intro X1 hX1
  have H1 := Lib.hid (show Own3 _ w X1 _ _ _ from by rw [hX1]; exact (H0.out.drew).setO 4 (.bool x.uid))
  clear hX1
  refine ⟨HS.out _ _ _ H1.out, ?_⟩
  have hs1 := HS.out _ _ _ H1.out
  iterate 1 (refine ord_flo ?_ (fun _ _ _ h => h) rfl ?_ hs1 ?_; rotate_left; focus (intro W hS; obtain ⟨s0, s1, s2, s3⟩ := hS; go_simp; rfl))
  go_frame
  refine ord_ev rfl ?_
  refine wp_store_cell _ _ _ rfl (w.heap.size + 1 + 1) 5 (.slice p x.sset.length c) (by rfl) (by rfl) _ _ (H1.out).o (by simp) (by kernel_rfl) rfl rfl ?_
  intro X2 hX2
  have H2 := Lib.hid (show Own3 _ w X2 _ _ _ from by rw [hX2]; exact (H1.out).setO 5 (.slice p x.sset.length c))
  clear hX2
  refine ⟨HS.out _ _ _ H2.out, ?_⟩
  have hs2 := HS.out _ _ _ H2.out
  iterate 1 (refine ord_flo ?_ (fun _ _ _ h => h) rfl ?_ hs2 ?_; rotate_left; focus (intro W hS; obtain ⟨s0, s1, s2, s3⟩ := hS; go_simp; rfl))
  go_frame
  refine ord_ev rfl ?_
  refine wp_store_cell _ _ _ rfl (w.heap.size + 1 + 1) 6 (.int .i64 x.op) (by rfl) (by rfl) _ _ (H2.out).o (by simp) (by kernel_rfl) rfl rfl ?_
  intro X3 hX3
  have H3 := Lib.hid (show Own3 _ w X3 _ _ _ from by rw [hX3]; exact (H2.out).setO 6 (.int .i64 x.op))
  clear hX3
  refine ⟨HS.out _ _ _ H3.out, ?_⟩
  have hs3 := HS.out _ _ _ H3.out
  iterate 1 (refine ord_flo ?_ (fun _ _ _ h => h) rfl ?_ hs3 ?_; rotate_left; focus (intro W hS; obtain ⟨s0, s1, s2, s3⟩ := hS; go_simp; rfl))
  go_frame
  refine ord_ev rfl ?_
  refine wp_store_cell _ _ _ rfl (w.heap.size + 1 + 1) 7 (.int .i64 x.flags) (by rfl) (by rfl) _ _ (H3.out).o (by simp) (by kernel_rfl) rfl rfl ?_
  intro X4 hX4
  have H4 := Lib.hid (show Own3 _ w X4 _ _ _ from by rw [hX4]; exact (H3.out).setO 7 (.int .i64 x.flags))
  clear hX4
  refine ⟨HS.out _ _ _ H4.out, ?_⟩
  have hs4 := HS.out _ _ _ H4.out
  refine ord_done ?_
  go_simp
  clear HS hs0 hs1 hs2 hs3 hs4
  go_wp2
  have K0 := Lib.hid H4.out
  clear H0 H1 H2 H3 H4
  have HS := Lib.hid (fun (W : World) (R : Array Value) (H : Own3 36 w W #[sv x.tag, .int .i64 x.kind, sv x.box, sv x.dst, .bool x.uid, .slice p x.sset.length c, .int .i64 x.op, .int .i64 x.flags, sv x.text, .bool x.filter.on, .slice q x.filter.scopes.length d] R #[sv x.tag, .int .i64 x.kind, sv [], sv [], .bool x.uid, .slice p x.sset.length c, .int .i64 x.op, .int .i64 x.flags, sv [], .bool false, .slice none 0 0]) => (⟨(Lib.cell_of_heap H.a 5).trans rfl, (Lib.cell_of_heap H.a 6).trans rfl, (Lib.cell_of_heap H.a 7).trans rfl, (Lib.cell_of_heap H.o 0).trans rfl, (Lib.cell_of_heap H.o 1).trans rfl, (Lib.cell_of_heap H.o 2).trans rfl, (Lib.cell_of_heap H.o 3).trans rfl, (Lib.cell_of_heap H.o 4).trans rfl, (Lib.cell_of_heap H.o 5).trans rfl, (Lib.cell_of_heap H.o 6).trans rfl, (Lib.cell_of_heap H.o 7).trans rfl, (Lib.cell_of_heap H.o 8).trans rfl, (Lib.cell_of_heap H.o 9).trans rfl, (Lib.cell_of_heap H.o 10).trans rfl⟩ : W.cell? ⟨w.heap.size, 5, none⟩ = some (.slice p x.sset.length c) ∧ W.cell? ⟨w.heap.size, 6, none⟩ = some (.int .i64 x.op) ∧ W.cell? ⟨w.heap.size, 7, none⟩ = some (.int .i64 x.flags) ∧ W.cell? ⟨w.heap.size + 1 + 1, 0, none⟩ = some (sv x.tag) ∧ W.cell? ⟨w.heap.size + 1 + 1, 1, none⟩ = some (.int .i64 x.kind) ∧ W.cell? ⟨w.heap.size + 1 + 1, 2, none⟩ = some (sv []) ∧ W.cell? ⟨w.heap.size + 1 + 1, 3, none⟩ = some (sv []) ∧ W.cell? ⟨w.heap.size + 1 + 1, 4, none⟩ = some (.bool x.uid) ∧ W.cell? ⟨w.heap.size + 1 + 1, 5, none⟩ = some (.slice p x.sset.length c) ∧ W.cell? ⟨w.heap.size + 1 + 1, 6, none⟩ = some (.int .i64 x.op) ∧ W.cell? ⟨w.heap.size + 1 + 1, 7, none⟩ = some (.int .i64 x.flags) ∧ W.cell? ⟨w.heap.size + 1 + 1, 8, none⟩ = some (sv []) ∧ W.cell? ⟨w.heap.size + 1 + 1, 9, none⟩ = some (.bool false) ∧ W.cell? ⟨w.heap.size + 1 + 1, 10, none⟩ = some (.slice none 0 0)))
  have hs0 := HS.out X4.drew _ K0.out.drew
  cases e0 : (setB x.sset) with
  | true =>
    cases e1 : (opB x.op) with
    | true =>
      cases e2 : (flB x.flags) with
      | true =>
        rw [e0] at Cset5
        have eop : (opT x.op != []) = true := (opB_text x.op).trans e1
        have eop2 : ¬ opT x.op = [] := by simpa using eop
        rw [e2] at Cflags7
        refine ord_start [(0, true), (1, true), (2, true), (3, false), (4, true), (5, true), (6, true), (7, false), (8, true), (9, true), (10, true), (11, true), (12, true), (13, false), (14, true), (15, false), (16, true)] (fun W => W.cell? ⟨w.heap.size, 5, none⟩ = some (.slice p x.sset.length c) ∧ W.cell? ⟨w.heap.size, 6, none⟩ = some (.int .i64 x.op) ∧ W.cell? ⟨w.heap.size, 7, none⟩ = some (.int .i64 x.flags) ∧ W.cell? ⟨w.heap.size + 1 + 1, 0, none⟩ = some (sv x.tag) ∧ W.cell? ⟨w.heap.size + 1 + 1, 1, none⟩ = some (.int .i64 x.kind) ∧ W.cell? ⟨w.heap.size + 1 + 1, 2, none⟩ = some (sv []) ∧ W.cell? ⟨w.heap.size + 1 + 1, 3, none⟩ = some (sv []) ∧ W.cell? ⟨w.heap.size + 1 + 1, 4, none⟩ = some (.bool x.uid) ∧ W.cell? ⟨w.heap.size + 1 + 1, 5, none⟩ = some (.slice p x.sset.length c) ∧ W.cell? ⟨w.heap.size + 1 + 1, 6, none⟩ = some (.int .i64 x.op) ∧ W.cell? ⟨w.heap.size + 1 + 1, 7, none⟩ = some (.int .i64 x.flags) ∧ W.cell? ⟨w.heap.size + 1 + 1, 8, none⟩ = some (sv []) ∧ W.cell? ⟨w.heap.size + 1 + 1, 9, none⟩ = some (.bool false) ∧ W.cell? ⟨w.heap.size + 1 + 1, 10, none⟩ = some (.slice none 0 0)) (by kernel_rfl) (by kernel_rfl) rfl (by kernel_rfl) ?_
        intro ops' hops
        simp only [List.map_cons, List.map_nil, pickOp_zero, pickOp_succ]
        iterate 3 (refine ord_flo ?_ (fun _ _ _ h => h) rfl ?_ hs0 ?_; rotate_left; focus (intro W hS; obtain ⟨s0, s1, s2, s3, s4, s5, s6, s7, s8, s9, s10, s11, s12, s13⟩ := hS; go_simp; rfl))
        try go_frame
        refine ord_ev rfl ?_
        go_simp
        refine (Cset5.out _ (K0.out.drew).b).mono ?_
        rintro e w1 ⟨rfl, b1⟩
        have K1 := Lib.hid ((K0.out.drew).call b1)
        clear b1
        have hs1 := HS.out _ _ K1.out
        refine ⟨hs1, ?_⟩
        iterate 1 (refine ord_flo ?_ (fun _ _ _ h => h) rfl ?_ hs1 ?_; rotate_left; focus (intro W hS; obtain ⟨s0, s1, s2, s3, s4, s5, s6, s7, s8, s9, s10, s11, s12, s13⟩ := hS; go_simp; rfl))
        iterate 2 (refine ord_flo ?_ (fun _ _ _ h => h) (by rw [hops.out]; kernel_rfl) ?_ hs1 ?_; rotate_left; focus (intro W hS; obtain ⟨s0, s1, s2, s3, s4, s5, s6, s7, s8, s9, s10, s11, s12, s13⟩ := hS; go_simp; rfl))
        try go_frame
        refine ord_ev (by rw [hops.out]; kernel_rfl) ?_
        go_simp
        refine (Cop6.out _).mono ?_
        rintro e w2 ⟨rfl, rfl⟩
        have K2 := Lib.hid (K1.out)
        have hs2 := HS.out _ _ K2.out
        refine ⟨hs2, ?_⟩
        refine ord_flo (.bool true) (fun _ _ _ h => h) (by rw [hops.out]; kernel_rfl) (fun W hS => ?_) hs2 ?_
        focus (go_simp; try simp [eop2])
        iterate 2 (refine ord_flo ?_ (fun _ _ _ h => h) rfl ?_ hs2 ?_; rotate_left; focus (intro W hS; obtain ⟨s0, s1, s2, s3, s4, s5, s6, s7, s8, s9, s10, s11, s12, s13⟩ := hS; go_simp; rfl))
        iterate 2 (refine ord_flo ?_ (fun _ _ _ h => h) (by rw [hops.out]; kernel_rfl) ?_ hs2 ?_; rotate_left; focus (intro W hS; obtain ⟨s0, s1, s2, s3, s4, s5, s6, s7, s8, s9, s10, s11, s12, s13⟩ := hS; go_simp; rfl))
        try go_frame
        refine ord_ev (by rw [hops.out]; kernel_rfl) ?_
        go_simp
        refine (Cflags7.out _).mono ?_
        rintro e w3 ⟨rfl, rfl⟩
        have K3 := Lib.hid (K2.out)
        have hs3 := HS.out _ _ K3.out
        refine ⟨hs3, ?_⟩
        iterate 1 (refine ord_flo ?_ (fun _ _ _ h => h) rfl ?_ hs3 ?_; rotate_left; focus (intro W hS; obtain ⟨s0, s1, s2, s3, s4, s5, s6, s7, s8, s9, s10, s11, s12, s13⟩ := hS; go_simp; rfl))
        try go_frame
        refine ord_ev rfl ?_
        refine wp_store_row2 _ _ _ rfl (w.heap.size + 1) #[sv x.tag, .int .i64 x.kind, sv [], sv [], .bool x.uid, .slice p x.sset.length c, .int .i64 x.op, .int .i64 x.flags, sv [], .bool false, .slice none 0 0] (by rfl) (by rfl) _ _ (K3.out).r (by kernel_rfl) rfl (by simp [Value.oneCell', sv]) ?_
        intro Z hZ
        have KF := Lib.hid (show Own3 _ w Z _ _ _ from by rw [hZ]; exact (K3.out).setR #[sv x.tag, .int .i64 x.kind, sv [], sv [], .bool x.uid, .slice p x.sset.length c, .int .i64 x.op, .int .i64 x.flags, sv [], .bool false, .slice none 0 0])
        clear hZ
        refine ⟨HS.out _ _ KF.out, ?_⟩
        have hsf := HS.out _ _ KF.out
        iterate 1 (refine ord_flo ?_ (fun _ _ _ h => h) rfl ?_ hsf ?_; rotate_left; focus (intro W hS; obtain ⟨s0, s1, s2, s3, s4, s5, s6, s7, s8, s9, s10, s11, s12, s13⟩ := hS; go_simp; rfl))
        refine ord_done ?_
        go_simp
        clear HS hsf hs0 hs1 hs2 hs3
        have g0 := (Lib.cell_of_heap KF.out.r 0).trans (show _ = some (sv x.tag) from rfl)
        have g1 := (Lib.cell_of_heap KF.out.r 1).trans (show _ = some (.int .i64 x.kind) from rfl)
        have g2 := (Lib.cell_of_heap KF.out.r 2).trans (show _ = some (sv []) from rfl)
        have g3 := (Lib.cell_of_heap KF.out.r 3).trans (show _ = some (sv []) from rfl)
        have g4 := (Lib.cell_of_heap KF.out.r 4).trans (show _ = some (.bool x.uid) from rfl)
        have g5 := (Lib.cell_of_heap KF.out.r 5).trans (show _ = some (.slice p x.sset.length c) from rfl)
        have g6 := (Lib.cell_of_heap KF.out.r 6).trans (show _ = some (.int .i64 x.op) from rfl)
        have g7 := (Lib.cell_of_heap KF.out.r 7).trans (show _ = some (.int .i64 x.flags) from rfl)
        have g8 := (Lib.cell_of_heap KF.out.r 8).trans (show _ = some (sv []) from rfl)
        have g9 := (Lib.cell_of_heap KF.out.r 9).trans (show _ = some (.bool false) from rfl)
        have g10 := (Lib.cell_of_heap KF.out.r 10).trans (show _ = some (.slice none 0 0) from rfl)
        have HB := Lib.hid KF.out.b
        clear KF
        go_wp2
        exact bodyPost_ret (v := .tuple #[.agg #[sv x.tag, .int .i64 x.kind, sv [], sv [], .bool x.uid, .slice p x.sset.length c, .int .i64 x.op, .int .i64 x.flags, sv [], .bool false, .slice none 0 0], .bool true]) (by simp [results, Tryz.results60, go_sem, g0, g1, g2, g3, g4, g5, g6, g7, g8, g9, g10]) rfl ⟨fin2 (by first | rfl | (rw [e0] <;> rfl) | (rw [e0, e1] <;> rfl) | (rw [e0, e1, e2] <;> rfl)), HB.out⟩
      | false =>
        rw [e0] at Cset5
        have eop : (opT x.op != []) = true := (opB_text x.op).trans e1
        have eop2 : ¬ opT x.op = [] := by simpa using eop
        rw [e2] at Cflags7
        refine ord_start [(0, true), (1, true), (2, true), (3, false), (4, true), (5, true), (6, true), (7, false), (8, true), (9, true), (10, true), (11, true), (12, true), (13, false), (14, true), (15, false), (16, true)] (fun W => W.cell? ⟨w.heap.size, 5, none⟩ = some (.slice p x.sset.length c) ∧ W.cell? ⟨w.heap.size, 6, none⟩ = some (.int .i64 x.op) ∧ W.cell? ⟨w.heap.size, 7, none⟩ = some (.int .i64 x.flags) ∧ W.cell? ⟨w.heap.size + 1 + 1, 0, none⟩ = some (sv x.tag) ∧ W.cell? ⟨w.heap.size + 1 + 1, 1, none⟩ = some (.int .i64 x.kind) ∧ W.cell? ⟨w.heap.size + 1 + 1, 2, none⟩ = some (sv []) ∧ W.cell? ⟨w.heap.size + 1 + 1, 3, none⟩ = some (sv []) ∧ W.cell? ⟨w.heap.size + 1 + 1, 4, none⟩ = some (.bool x.uid) ∧ W.cell? ⟨w.heap.size + 1 + 1, 5, none⟩ = some (.slice p x.sset.length c) ∧ W.cell? ⟨w.heap.size + 1 + 1, 6, none⟩ = some (.int .i64 x.op) ∧ W.cell? ⟨w.heap.size + 1 + 1, 7, none⟩ = some (.int .i64 x.flags) ∧ W.cell? ⟨w.heap.size + 1 + 1, 8, none⟩ = some (sv []) ∧ W.cell? ⟨w.heap.size + 1 + 1, 9, none⟩ = some (.bool false) ∧ W.cell? ⟨w.heap.size + 1 + 1, 10, none⟩ = some (.slice none 0 0)) (by kernel_rfl) (by kernel_rfl) rfl (by kernel_rfl) ?_
        intro ops' hops
        simp only [List.map_cons, List.map_nil, pickOp_zero, pickOp_succ]
        iterate 3 (refine ord_flo ?_ (fun _ _ _ h => h) rfl ?_ hs0 ?_; rotate_left; focus (intro W hS; obtain ⟨s0, s1, s2, s3, s4, s5, s6, s7, s8, s9, s10, s11, s12, s13⟩ := hS; go_simp; rfl))
        try go_frame
        refine ord_ev rfl ?_
        go_simp
        refine (Cset5.out _ (K0.out.drew).b).mono ?_
        rintro e w1 ⟨rfl, b1⟩
        have K1 := Lib.hid ((K0.out.drew).call b1)
        clear b1
        have hs1 := HS.out _ _ K1.out
        refine ⟨hs1, ?_⟩
        iterate 1 (refine ord_flo ?_ (fun _ _ _ h => h) rfl ?_ hs1 ?_; rotate_left; focus (intro W hS; obtain ⟨s0, s1, s2, s3, s4, s5, s6, s7, s8, s9, s10, s11, s12, s13⟩ := hS; go_simp; rfl))
        iterate 2 (refine ord_flo ?_ (fun _ _ _ h => h) (by rw [hops.out]; kernel_rfl) ?_ hs1 ?_; rotate_left; focus (intro W hS; obtain ⟨s0, s1, s2, s3, s4, s5, s6, s7, s8, s9, s10, s11, s12, s13⟩ := hS; go_simp; rfl))
        try go_frame
        refine ord_ev (by rw [hops.out]; kernel_rfl) ?_
        go_simp
        refine (Cop6.out _).mono ?_
        rintro e w2 ⟨rfl, rfl⟩
        have K2 := Lib.hid (K1.out)
        have hs2 := HS.out _ _ K2.out
        refine ⟨hs2, ?_⟩
        refine ord_flo (.bool true) (fun _ _ _ h => h) (by rw [hops.out]; kernel_rfl) (fun W hS => ?_) hs2 ?_
        focus (go_simp; try simp [eop2])
        iterate 2 (refine ord_flo ?_ (fun _ _ _ h => h) rfl ?_ hs2 ?_; rotate_left; focus (intro W hS; obtain ⟨s0, s1, s2, s3, s4, s5, s6, s7, s8, s9, s10, s11, s12, s13⟩ := hS; go_simp; rfl))
        iterate 2 (refine ord_flo ?_ (fun _ _ _ h => h) (by rw [hops.out]; kernel_rfl) ?_ hs2 ?_; rotate_left; focus (intro W hS; obtain ⟨s0, s1, s2, s3, s4, s5, s6, s7, s8, s9, s10, s11, s12, s13⟩ := hS; go_simp; rfl))
        try go_frame
        refine ord_ev (by rw [hops.out]; kernel_rfl) ?_
        go_simp
        refine (Cflags7.out _).mono ?_
        rintro e w3 ⟨rfl, rfl⟩
        have K3 := Lib.hid (K2.out)
        have hs3 := HS.out _ _ K3.out
        refine ⟨hs3, ?_⟩
        iterate 1 (refine ord_flo ?_ (fun _ _ _ h => h) rfl ?_ hs3 ?_; rotate_left; focus (intro W hS; obtain ⟨s0, s1, s2, s3, s4, s5, s6, s7, s8, s9, s10, s11, s12, s13⟩ := hS; go_simp; rfl))
        try go_frame
        refine ord_ev rfl ?_
        refine wp_store_row2 _ _ _ rfl (w.heap.size + 1) #[sv x.tag, .int .i64 x.kind, sv [], sv [], .bool x.uid, .slice p x.sset.length c, .int .i64 x.op, .int .i64 x.flags, sv [], .bool false, .slice none 0 0] (by rfl) (by rfl) _ _ (K3.out).r (by kernel_rfl) rfl (by simp [Value.oneCell', sv]) ?_
        intro Z hZ
        have KF := Lib.hid (show Own3 _ w Z _ _ _ from by rw [hZ]; exact (K3.out).setR #[sv x.tag, .int .i64 x.kind, sv [], sv [], .bool x.uid, .slice p x.sset.length c, .int .i64 x.op, .int .i64 x.flags, sv [], .bool false, .slice none 0 0])
        clear hZ
        refine ⟨HS.out _ _ KF.out, ?_⟩
        have hsf := HS.out _ _ KF.out
        iterate 1 (refine ord_flo ?_ (fun _ _ _ h => h) rfl ?_ hsf ?_; rotate_left; focus (intro W hS; obtain ⟨s0, s1, s2, s3, s4, s5, s6, s7, s8, s9, s10, s11, s12, s13⟩ := hS; go_simp; rfl))
        refine ord_done ?_
        go_simp
        clear HS hsf hs0 hs1 hs2 hs3
        have g0 := (Lib.cell_of_heap KF.out.r 0).trans (show _ = some (sv x.tag) from rfl)
        have g1 := (Lib.cell_of_heap KF.out.r 1).trans (show _ = some (.int .i64 x.kind) from rfl)
        have g2 := (Lib.cell_of_heap KF.out.r 2).trans (show _ = some (sv []) from rfl)
        have g3 := (Lib.cell_of_heap KF.out.r 3).trans (show _ = some (sv []) from rfl)
        have g4 := (Lib.cell_of_heap KF.out.r 4).trans (show _ = some (.bool x.uid) from rfl)
        have g5 := (Lib.cell_of_heap KF.out.r 5).trans (show _ = some (.slice p x.sset.length c) from rfl)
        have g6 := (Lib.cell_of_heap KF.out.r 6).trans (show _ = some (.int .i64 x.op) from rfl)
        have g7 := (Lib.cell_of_heap KF.out.r 7).trans (show _ = some (.int .i64 x.flags) from rfl)
        have g8 := (Lib.cell_of_heap KF.out.r 8).trans (show _ = some (sv []) from rfl)
        have g9 := (Lib.cell_of_heap KF.out.r 9).trans (show _ = some (.bool false) from rfl)
        have g10 := (Lib.cell_of_heap KF.out.r 10).trans (show _ = some (.slice none 0 0) from rfl)
        have HB := Lib.hid KF.out.b
        clear KF
        go_wp2
        exact bodyPost_ret (v := .tuple #[.agg #[sv x.tag, .int .i64 x.kind, sv [], sv [], .bool x.uid, .slice p x.sset.length c, .int .i64 x.op, .int .i64 x.flags, sv [], .bool false, .slice none 0 0], .bool false]) (by simp [results, Tryz.results60, go_sem, g0, g1, g2, g3, g4, g5, g6, g7, g8, g9, g10]) rfl ⟨fin2 (by first | rfl | (rw [e0] <;> rfl) | (rw [e0, e1] <;> rfl) | (rw [e0, e1, e2] <;> rfl)), HB.out⟩
    | false =>
      rw [e0] at Cset5
      have eop : (opT x.op != []) = false := (opB_text x.op).trans e1
      have eop2 : opT x.op = [] := by simpa using eop
      refine ord_start [(0, true), (1, true), (2, true), (3, false), (4, true), (5, true), (6, true), (7, false), (8, true), (9, true), (10, true), (11, true), (12, true), (13, false), (14, true), (15, false), (16, true)] (fun W => W.cell? ⟨w.heap.size, 5, none⟩ = some (.slice p x.sset.length c) ∧ W.cell? ⟨w.heap.size, 6, none⟩ = some (.int .i64 x.op) ∧ W.cell? ⟨w.heap.size, 7, none⟩ = some (.int .i64 x.flags) ∧ W.cell? ⟨w.heap.size + 1 + 1, 0, none⟩ = some (sv x.tag) ∧ W.cell? ⟨w.heap.size + 1 + 1, 1, none⟩ = some (.int .i64 x.kind) ∧ W.cell? ⟨w.heap.size + 1 + 1, 2, none⟩ = some (sv []) ∧ W.cell? ⟨w.heap.size + 1 + 1, 3, none⟩ = some (sv []) ∧ W.cell? ⟨w.heap.size + 1 + 1, 4, none⟩ = some (.bool x.uid) ∧ W.cell? ⟨w.heap.size + 1 + 1, 5, none⟩ = some (.slice p x.sset.length c) ∧ W.cell? ⟨w.heap.size + 1 + 1, 6, none⟩ = some (.int .i64 x.op) ∧ W.cell? ⟨w.heap.size + 1 + 1, 7, none⟩ = some (.int .i64 x.flags) ∧ W.cell? ⟨w.heap.size + 1 + 1, 8, none⟩ = some (sv []) ∧ W.cell? ⟨w.heap.size + 1 + 1, 9, none⟩ = some (.bool false) ∧ W.cell? ⟨w.heap.size + 1 + 1, 10, none⟩ = some (.slice none 0 0)) (by kernel_rfl) (by kernel_rfl) rfl (by kernel_rfl) ?_
      intro ops' hops
      simp only [List.map_cons, List.map_nil, pickOp_zero, pickOp_succ]
      iterate 3 (refine ord_flo ?_ (fun _ _ _ h => h) rfl ?_ hs0 ?_; rotate_left; focus (intro W hS; obtain ⟨s0, s1, s2, s3, s4, s5, s6, s7, s8, s9, s10, s11, s12, s13⟩ := hS; go_simp; rfl))
      try go_frame
      refine ord_ev rfl ?_
      go_simp
      refine (Cset5.out _ (K0.out.drew).b).mono ?_
      rintro e w1 ⟨rfl, b1⟩
      have K1 := Lib.hid ((K0.out.drew).call b1)
      clear b1
      have hs1 := HS.out _ _ K1.out
      refine ⟨hs1, ?_⟩
      iterate 1 (refine ord_flo ?_ (fun _ _ _ h => h) rfl ?_ hs1 ?_; rotate_left; focus (intro W hS; obtain ⟨s0, s1, s2, s3, s4, s5, s6, s7, s8, s9, s10, s11, s12, s13⟩ := hS; go_simp; rfl))
      iterate 2 (refine ord_flo ?_ (fun _ _ _ h => h) (by rw [hops.out]; kernel_rfl) ?_ hs1 ?_; rotate_left; focus (intro W hS; obtain ⟨s0, s1, s2, s3, s4, s5, s6, s7, s8, s9, s10, s11, s12, s13⟩ := hS; go_simp; rfl))
      try go_frame
      refine ord_ev (by rw [hops.out]; kernel_rfl) ?_
      go_simp
      refine (Cop6.out _).mono ?_
      rintro e w2 ⟨rfl, rfl⟩
      have K2 := Lib.hid (K1.out)
      have hs2 := HS.out _ _ K2.out
      refine ⟨hs2, ?_⟩
      refine ord_flo (.bool false) (fun _ _ _ h => h) (by rw [hops.out]; kernel_rfl) (fun W hS => ?_) hs2 ?_
      focus (go_simp; try simp [eop2])
      iterate 2 (refine ord_flo ?_ (fun _ _ _ h => h) rfl ?_ hs2 ?_; rotate_left; focus (intro W hS; obtain ⟨s0, s1, s2, s3, s4, s5, s6, s7, s8, s9, s10, s11, s12, s13⟩ := hS; go_simp; rfl))
      iterate 2 (refine ord_not (fun _ _ _ h => h) (by rw [hops.out]; kernel_rfl) hs2 ?_)
      refine ord_evnot hs2 (by rw [hops.out]; kernel_rfl) ?_
      iterate 1 (refine ord_flo ?_ (fun _ _ _ h => h) rfl ?_ hs2 ?_; rotate_left; focus (intro W hS; obtain ⟨s0, s1, s2, s3, s4, s5, s6, s7, s8, s9, s10, s11, s12, s13⟩ := hS; go_simp; rfl))
      try go_frame
      refine ord_ev rfl ?_
      refine wp_store_row2 _ _ _ rfl (w.heap.size + 1) #[sv x.tag, .int .i64 x.kind, sv [], sv [], .bool x.uid, .slice p x.sset.length c, .int .i64 x.op, .int .i64 x.flags, sv [], .bool false, .slice none 0 0] (by rfl) (by rfl) _ _ (K2.out).r (by kernel_rfl) rfl (by simp [Value.oneCell', sv]) ?_
      intro Z hZ
      have KF := Lib.hid (show Own3 _ w Z _ _ _ from by rw [hZ]; exact (K2.out).setR #[sv x.tag, .int .i64 x.kind, sv [], sv [], .bool x.uid, .slice p x.sset.length c, .int .i64 x.op, .int .i64 x.flags, sv [], .bool false, .slice none 0 0])
      clear hZ
      refine ⟨HS.out _ _ KF.out, ?_⟩
      have hsf := HS.out _ _ KF.out
      iterate 1 (refine ord_flo ?_ (fun _ _ _ h => h) rfl ?_ hsf ?_; rotate_left; focus (intro W hS; obtain ⟨s0, s1, s2, s3, s4, s5, s6, s7, s8, s9, s10, s11, s12, s13⟩ := hS; go_simp; rfl))
      refine ord_done ?_
      go_simp
      clear HS hsf hs0 hs1 hs2
      have g0 := (Lib.cell_of_heap KF.out.r 0).trans (show _ = some (sv x.tag) from rfl)
      have g1 := (Lib.cell_of_heap KF.out.r 1).trans (show _ = some (.int .i64 x.kind) from rfl)
      have g2 := (Lib.cell_of_heap KF.out.r 2).trans (show _ = some (sv []) from rfl)
      have g3 := (Lib.cell_of_heap KF.out.r 3).trans (show _ = some (sv []) from rfl)
      have g4 := (Lib.cell_of_heap KF.out.r 4).trans (show _ = some (.bool x.uid) from rfl)
      have g5 := (Lib.cell_of_heap KF.out.r 5).trans (show _ = some (.slice p x.sset.length c) from rfl)
      have g6 := (Lib.cell_of_heap KF.out.r 6).trans (show _ = some (.int .i64 x.op) from rfl)
      have g7 := (Lib.cell_of_heap KF.out.r 7).trans (show _ = some (.int .i64 x.flags) from rfl)
      have g8 := (Lib.cell_of_heap KF.out.r 8).trans (show _ = some (sv []) from rfl)
      have g9 := (Lib.cell_of_heap KF.out.r 9).trans (show _ = some (.bool false) from rfl)
      have g10 := (Lib.cell_of_heap KF.out.r 10).trans (show _ = some (.slice none 0 0) from rfl)
      have HB := Lib.hid KF.out.b
      clear KF
      go_wp2
      exact bodyPost_ret (v := .tuple #[.agg #[sv x.tag, .int .i64 x.kind, sv [], sv [], .bool x.uid, .slice p x.sset.length c, .int .i64 x.op, .int .i64 x.flags, sv [], .bool false, .slice none 0 0], .bool false]) (by simp [results, Tryz.results60, go_sem, g0, g1, g2, g3, g4, g5, g6, g7, g8, g9, g10]) rfl ⟨fin2 (by first | rfl | (rw [e0] <;> rfl) | (rw [e0, e1] <;> rfl)), HB.out⟩
  | false =>
    rw [e0] at Cset5
    refine ord_start [(0, true), (1, true), (2, true), (3, false), (4, true), (5, true), (6, true), (7, false), (8, true), (9, true), (10, true), (11, true), (12, true), (13, false), (14, true), (15, false), (16, true)] (fun W => W.cell? ⟨w.heap.size, 5, none⟩ = some (.slice p x.sset.length c) ∧ W.cell? ⟨w.heap.size, 6, none⟩ = some (.int .i64 x.op) ∧ W.cell? ⟨w.heap.size, 7, none⟩ = some (.int .i64 x.flags) ∧ W.cell? ⟨w.heap.size + 1 + 1, 0, none⟩ = some (sv x.tag) ∧ W.cell? ⟨w.heap.size + 1 + 1, 1, none⟩ = some (.int .i64 x.kind) ∧ W.cell? ⟨w.heap.size + 1 + 1, 2, none⟩ = some (sv []) ∧ W.cell? ⟨w.heap.size + 1 + 1, 3, none⟩ = some (sv []) ∧ W.cell? ⟨w.heap.size + 1 + 1, 4, none⟩ = some (.bool x.uid) ∧ W.cell? ⟨w.heap.size + 1 + 1, 5, none⟩ = some (.slice p x.sset.length c) ∧ W.cell? ⟨w.heap.size + 1 + 1, 6, none⟩ = some (.int .i64 x.op) ∧ W.cell? ⟨w.heap.size + 1 + 1, 7, none⟩ = some (.int .i64 x.flags) ∧ W.cell? ⟨w.heap.size + 1 + 1, 8, none⟩ = some (sv []) ∧ W.cell? ⟨w.heap.size + 1 + 1, 9, none⟩ = some (.bool false) ∧ W.cell? ⟨w.heap.size + 1 + 1, 10, none⟩ = some (.slice none 0 0)) (by kernel_rfl) (by kernel_rfl) rfl (by kernel_rfl) ?_
    intro ops' hops
    simp only [List.map_cons, List.map_nil, pickOp_zero, pickOp_succ]
    iterate 3 (refine ord_flo ?_ (fun _ _ _ h => h) rfl ?_ hs0 ?_; rotate_left; focus (intro W hS; obtain ⟨s0, s1, s2, s3, s4, s5, s6, s7, s8, s9, s10, s11, s12, s13⟩ := hS; go_simp; rfl))
    try go_frame
    refine ord_ev rfl ?_
    go_simp
    refine (Cset5.out _ (K0.out.drew).b).mono ?_
    rintro e w1 ⟨rfl, b1⟩
    have K1 := Lib.hid ((K0.out.drew).call b1)
    clear b1
    have hs1 := HS.out _ _ K1.out
    refine ⟨hs1, ?_⟩
    iterate 1 (refine ord_flo ?_ (fun _ _ _ h => h) rfl ?_ hs1 ?_; rotate_left; focus (intro W hS; obtain ⟨s0, s1, s2, s3, s4, s5, s6, s7, s8, s9, s10, s11, s12, s13⟩ := hS; go_simp; rfl))
    iterate 2 (refine ord_not (fun _ _ _ h => h) (by rw [hops.out]; kernel_rfl) hs1 ?_)
    refine ord_evnot hs1 (by rw [hops.out]; kernel_rfl) ?_
    iterate 1 (refine ord_not (fun _ _ _ h => h) (by rw [hops.out]; kernel_rfl) hs1 ?_)
    iterate 2 (refine ord_flo ?_ (fun _ _ _ h => h) rfl ?_ hs1 ?_; rotate_left; focus (intro W hS; obtain ⟨s0, s1, s2, s3, s4, s5, s6, s7, s8, s9, s10, s11, s12, s13⟩ := hS; go_simp; rfl))
    iterate 2 (refine ord_not (fun _ _ _ h => h) (by rw [hops.out]; kernel_rfl) hs1 ?_)
    refine ord_evnot hs1 (by rw [hops.out]; kernel_rfl) ?_
    iterate 1 (refine ord_flo ?_ (fun _ _ _ h => h) rfl ?_ hs1 ?_; rotate_left; focus (intro W hS; obtain ⟨s0, s1, s2, s3, s4, s5, s6, s7, s8, s9, s10, s11, s12, s13⟩ := hS; go_simp; rfl))
    try go_frame
    refine ord_ev rfl ?_
    refine wp_store_row2 _ _ _ rfl (w.heap.size + 1) #[sv x.tag, .int .i64 x.kind, sv [], sv [], .bool x.uid, .slice p x.sset.length c, .int .i64 x.op, .int .i64 x.flags, sv [], .bool false, .slice none 0 0] (by rfl) (by rfl) _ _ (K1.out).r (by kernel_rfl) rfl (by simp [Value.oneCell', sv]) ?_
    intro Z hZ
    have KF := Lib.hid (show Own3 _ w Z _ _ _ from by rw [hZ]; exact (K1.out).setR #[sv x.tag, .int .i64 x.kind, sv [], sv [], .bool x.uid, .slice p x.sset.length c, .int .i64 x.op, .int .i64 x.flags, sv [], .bool false, .slice none 0 0])
    clear hZ
    refine ⟨HS.out _ _ KF.out, ?_⟩
    have hsf := HS.out _ _ KF.out
    iterate 1 (refine ord_flo ?_ (fun _ _ _ h => h) rfl ?_ hsf ?_; rotate_left; focus (intro W hS; obtain ⟨s0, s1, s2, s3, s4, s5, s6, s7, s8, s9, s10, s11, s12, s13⟩ := hS; go_simp; rfl))
    refine ord_done ?_
    go_simp
    clear HS hsf hs0 hs1
    have g0 := (Lib.cell_of_heap KF.out.r 0).trans (show _ = some (sv x.tag) from rfl)
    have g1 := (Lib.cell_of_heap KF.out.r 1).trans (show _ = some (.int .i64 x.kind) from rfl)
    have g2 := (Lib.cell_of_heap KF.out.r 2).trans (show _ = some (sv []) from rfl)
    have g3 := (Lib.cell_of_heap KF.out.r 3).trans (show _ = some (sv []) from rfl)
    have g4 := (Lib.cell_of_heap KF.out.r 4).trans (show _ = some (.bool x.uid) from rfl)
    have g5 := (Lib.cell_of_heap KF.out.r 5).trans (show _ = some (.slice p x.sset.length c) from rfl)
    have g6 := (Lib.cell_of_heap KF.out.r 6).trans (show _ = some (.int .i64 x.op) from rfl)
    have g7 := (Lib.cell_of_heap KF.out.r 7).trans (show _ = some (.int .i64 x.flags) from rfl)
    have g8 := (Lib.cell_of_heap KF.out.r 8).trans (show _ = some (sv []) from rfl)
    have g9 := (Lib.cell_of_heap KF.out.r 9).trans (show _ = some (.bool false) from rfl)
    have g10 := (Lib.cell_of_heap KF.out.r 10).trans (show _ = some (.slice none 0 0) from rfl)
    have HB := Lib.hid KF.out.b
    clear KF
    go_wp2
    exact bodyPost_ret (v := .tuple #[.agg #[sv x.tag, .int .i64 x.kind, sv [], sv [], .bool x.uid, .slice p x.sset.length c, .int .i64 x.op, .int .i64 x.flags, sv [], .bool false, .slice none 0 0], .bool false]) (by simp [results, Tryz.results60, go_sem, g0, g1, g2, g3, g4, g5, g6, g7, g8, g9, g10]) rfl ⟨fin2 (by first | rfl | (rw [e0] <;> rfl)), HB.out⟩

set_option maxRecDepth 20000 in
set_option maxHeartbeats 6400000 in
theorem own_6 (x : CmdD) (p q : Option Addr) (c d : Nat) (w : World) (hk : x.kind = 6) (_ha : LfRd w (spnsLf x.sset) (.slice p x.sset.length c)) (ha2 : LfRd w (scpsLf x.filter.scopes) (.slice q x.filter.scopes.length d)) (hs : szLs x.lf ≤ 1048576) (hbd : LsBnd x.lf) :
    Calls Tryz.prog 60 #[cmdv x (.slice p x.sset.length c) (.slice q x.filter.scopes.length d)] w fun e w' => e = .returned (.tuple #[.agg #[sv x.tag, .int .i64 x.kind, sv [], sv [], .bool false, .slice none 0 0, .int .i64 0, .int .i64 0, sv [], .bool x.filter.on, .slice q x.filter.scopes.length d], .bool (filterB x.filter)]) ∧ Below w.heap.size w w' := by
  obtain ⟨_, z2, z3, z5, z8, z9, z10⟩ := CmdD.small hs
  obtain ⟨_, i6, i7, i5, i10⟩ := CmdD.bndO hbd
  have cfilter9 := fun W (h : Below w.heap.size w W) => implFilterOk_any x.filter (.slice q x.filter.scopes.length d) W trivial (LfRd.below h _ _ ha2) z9 z10 i10
  clear _ha ha2 z2 z3 z5 z8 z9 z10 i6 i7 i5 i10 hs hbd
  have t1 : (x.kind == 1) = false := by rw [beq_eq_false_iff_ne]; omega
  have t3 : (x.kind == 3) = false := by rw [beq_eq_false_iff_ne]; omega
  have t4 : (x.kind == 4) = false := by rw [beq_eq_false_iff_ne]; omega
  have t5 : (x.kind == 5) = false := by rw [beq_eq_false_iff_ne]; omega
  have t9 : (x.kind == 9) = false := by rw [beq_eq_false_iff_ne]; omega
  have t15 : (x.kind == 15) = false := by rw [beq_eq_false_iff_ne]; omega
  have t2 : (x.kind == 2) = false := by rw [beq_eq_false_iff_ne]; omega
  have t12 : (x.kind == 12) = false := by rw [beq_eq_false_iff_ne]; omega
  have t13 : (x.kind == 13) = false := by rw [beq_eq_false_iff_ne]; omega
  have t14 : (x.kind == 14) = false := by rw [beq_eq_false_iff_ne]; omega
  have t11 : (x.kind == 11) = false := by rw [beq_eq_false_iff_ne]; omega
  have t7 : (x.kind == 7) = false := by rw [beq_eq_false_iff_ne]; omega
  have t10 : (x.kind == 10) = false := by rw [beq_eq_false_iff_ne]; omega
  have t8 : (x.kind == 8) = false := by rw [beq_eq_false_iff_ne]; omega
  have t6 : (x.kind == 6) = true := by rw [beq_iff_eq]; omega
  clear hk
  have Cfilter9 := Lib.hid cfilter9
  clear cfilter9
  go_enter Tryz.func60, Tryz.ntmps60
  go_wp2
  refine wp_named ?_
  intro X hX
  have H0 := Lib.hid (Own3.of hX)
  clear hX
  have K0 := Lib.hid H0.out
  clear H0
  have HS := Lib.hid (fun (W : World) (R : Array Value) (H : Own3 36 w W #[sv x.tag, .int .i64 x.kind, sv x.box, sv x.dst, .bool x.uid, .slice p x.sset.length c, .int .i64 x.op, .int .i64 x.flags, sv x.text, .bool x.filter.on, .slice q x.filter.scopes.length d] R #[sv x.tag, .int .i64 x.kind, sv [], sv [], .bool false, .slice none 0 0, .int .i64 0, .int .i64 0, sv [], .bool x.filter.on, .slice q x.filter.scopes.length d]) => (⟨(Lib.cell_of_heap H.a 9).trans rfl, (Lib.cell_of_heap H.a 10).trans rfl, (Lib.cell_of_heap H.o 0).trans rfl, (Lib.cell_of_heap H.o 1).trans rfl, (Lib.cell_of_heap H.o 2).trans rfl, (Lib.cell_of_heap H.o 3).trans rfl, (Lib.cell_of_heap H.o 4).trans rfl, (Lib.cell_of_heap H.o 5).trans rfl, (Lib.cell_of_heap H.o 6).trans rfl, (Lib.cell_of_heap H.o 7).trans rfl, (Lib.cell_of_heap H.o 8).trans rfl, (Lib.cell_of_heap H.o 9).trans rfl, (Lib.cell_of_heap H.o 10).trans rfl⟩ : W.cell? ⟨w.heap.size, 9, none⟩ = some (.bool x.filter.on) ∧ W.cell? ⟨w.heap.size, 10, none⟩ = some (.slice q x.filter.scopes.length d) ∧ W.cell? ⟨w.heap.size + 1 + 1, 0, none⟩ = some (sv x.tag) ∧ W.cell? ⟨w.heap.size + 1 + 1, 1, none⟩ = some (.int .i64 x.kind) ∧ W.cell? ⟨w.heap.size + 1 + 1, 2, none⟩ = some (sv []) ∧ W.cell? ⟨w.heap.size + 1 + 1, 3, none⟩ = some (sv []) ∧ W.cell? ⟨w.heap.size + 1 + 1, 4, none⟩ = some (.bool false) ∧ W.cell? ⟨w.heap.size + 1 + 1, 5, none⟩ = some (.slice none 0 0) ∧ W.cell? ⟨w.heap.size + 1 + 1, 6, none⟩ = some (.int .i64 0) ∧ W.cell? ⟨w.heap.size + 1 + 1, 7, none⟩ = some (.int .i64 0) ∧ W.cell? ⟨w.heap.size + 1 + 1, 8, none⟩ = some (sv []) ∧ W.cell? ⟨w.heap.size + 1 + 1, 9, none⟩ = some (.bool x.filter.on) ∧ W.cell? ⟨w.heap.size + 1 + 1, 10, none⟩ = some (.slice q x.filter.scopes.length d)))
  have hs0 := HS.out X.drew _ K0.out.drew
  cases e0 : (filterB x.filter) with
  | true =>
    rw [e0] at Cfilter9
    refine ord_start [(0, true), (1, true), (2, true), (3, false), (4, false), (5, true)] (fun W => W.cell? ⟨w.heap.size, 9, none⟩ = some (.bool x.filter.on) ∧ W.cell? ⟨w.heap.size, 10, none⟩ = some (.slice q x.filter.scopes.length d) ∧ W.cell? ⟨w.heap.size + 1 + 1, 0, none⟩ = some (sv x.tag) ∧ W.cell? ⟨w.heap.size + 1 + 1, 1, none⟩ = some (.int .i64 x.kind) ∧ W.cell? ⟨w.heap.size + 1 + 1, 2, none⟩ = some (sv []) ∧ W.cell? ⟨w.heap.size + 1 + 1, 3, none⟩ = some (sv []) ∧ W.cell? ⟨w.heap.size + 1 + 1, 4, none⟩ = some (.bool false) ∧ W.cell? ⟨w.heap.size + 1 + 1, 5, none⟩ = some (.slice none 0 0) ∧ W.cell? ⟨w.heap.size + 1 + 1, 6, none⟩ = some (.int .i64 0) ∧ W.cell? ⟨w.heap.size + 1 + 1, 7, none⟩ = some (.int .i64 0) ∧ W.cell? ⟨w.heap.size + 1 + 1, 8, none⟩ = some (sv []) ∧ W.cell? ⟨w.heap.size + 1 + 1, 9, none⟩ = some (.bool x.filter.on) ∧ W.cell? ⟨w.heap.size + 1 + 1, 10, none⟩ = some (.slice q x.filter.scopes.length d)) (by kernel_rfl) (by kernel_rfl) rfl (by kernel_rfl) ?_
    intro ops' hops
    simp only [List.map_cons, List.map_nil, pickOp_zero, pickOp_succ]
    iterate 3 (refine ord_flo ?_ (fun _ _ _ h => h) rfl ?_ hs0 ?_; rotate_left; focus (intro W hS; obtain ⟨s0, s1, s2, s3, s4, s5, s6, s7, s8, s9, s10, s11, s12⟩ := hS; go_simp; rfl))
    try go_frame
    refine ord_ev rfl ?_
    go_simp
    refine (Cfilter9.out _ (K0.out.drew).b).mono ?_
    rintro e w1 ⟨rfl, b1⟩
    have K1 := Lib.hid ((K0.out.drew).call b1)
    clear b1
    have hs1 := HS.out _ _ K1.out
    refine ⟨hs1, ?_⟩
    try go_frame
    refine ord_ev rfl ?_
    refine wp_store_row2 _ _ _ rfl (w.heap.size + 1) #[sv x.tag, .int .i64 x.kind, sv [], sv [], .bool false, .slice none 0 0, .int .i64 0, .int .i64 0, sv [], .bool x.filter.on, .slice q x.filter.scopes.length d] (by rfl) (by rfl) _ _ (K1.out).r (by kernel_rfl) rfl (by simp [Value.oneCell', sv]) ?_
    intro Z hZ
    have KF := Lib.hid (show Own3 _ w Z _ _ _ from by rw [hZ]; exact (K1.out).setR #[sv x.tag, .int .i64 x.kind, sv [], sv [], .bool false, .slice none 0 0, .int .i64 0, .int .i64 0, sv [], .bool x.filter.on, .slice q x.filter.scopes.length d])
    clear hZ
    refine ⟨HS.out _ _ KF.out, ?_⟩
    have hsf := HS.out _ _ KF.out
    iterate 1 (refine ord_flo ?_ (fun _ _ _ h => h) rfl ?_ hsf ?_; rotate_left; focus (intro W hS; obtain ⟨s0, s1, s2, s3, s4, s5, s6, s7, s8, s9, s10, s11, s12⟩ := hS; go_simp; rfl))
    refine ord_done ?_
    go_simp
    clear HS hsf hs0 hs1
    have g0 := (Lib.cell_of_heap KF.out.r 0).trans (show _ = some (sv x.tag) from rfl)
    have g1 := (Lib.cell_of_heap KF.out.r 1).trans (show _ = some (.int .i64 x.kind) from rfl)
    have g2 := (Lib.cell_of_heap KF.out.r 2).trans (show _ = some (sv []) from rfl)
    have g3 := (Lib.cell_of_heap KF.out.r 3).trans (show _ = some (sv []) from rfl)
    have g4 := (Lib.cell_of_heap KF.out.r 4).trans (show _ = some (.bool false) from rfl)
    have g5 := (Lib.cell_of_heap KF.out.r 5).trans (show _ = some (.slice none 0 0) from rfl)
    have g6 := (Lib.cell_of_heap KF.out.r 6).trans (show _ = some (.int .i64 0) from rfl)
    have g7 := (Lib.cell_of_heap KF.out.r 7).trans (show _ = some (.int .i64 0) from rfl)
    have g8 := (Lib.cell_of_heap KF.out.r 8).trans (show _ = some (sv []) from rfl)
    have g9 := (Lib.cell_of_heap KF.out.r 9).trans (show _ = some (.bool x.filter.on) from rfl)
    have g10 := (Lib.cell_of_heap KF.out.r 10).trans (show _ = some (.slice q x.filter.scopes.length d) from rfl)
    have HB := Lib.hid KF.out.b
    clear KF
    go_wp2
    exact bodyPost_ret (v := .tuple #[.agg #[sv x.tag, .int .i64 x.kind, sv [], sv [], .bool false, .slice none 0 0, .int .i64 0, .int .i64 0, sv [], .bool x.filter.on, .slice q x.filter.scopes.length d], .bool true]) (by simp [results, Tryz.results60, go_sem, g0, g1, g2, g3, g4, g5, g6, g7, g8, g9, g10]) rfl ⟨fin2 (by first | rfl | (rw [e0] <;> rfl)), HB.out⟩
  | false =>
    rw [e0] at Cfilter9
    refine ord_start [(0, true), (1, true), (2, true), (3, false), (4, false), (5, true)] (fun W => W.cell? ⟨w.heap.size, 9, none⟩ = some (.bool x.filter.on) ∧ W.cell? ⟨w.heap.size, 10, none⟩ = some (.slice q x.filter.scopes.length d) ∧ W.cell? ⟨w.heap.size + 1 + 1, 0, none⟩ = some (sv x.tag) ∧ W.cell? ⟨w.heap.size + 1 + 1, 1, none⟩ = some (.int .i64 x.kind) ∧ W.cell? ⟨w.heap.size + 1 + 1, 2, none⟩ = some (sv []) ∧ W.cell? ⟨w.heap.size + 1 + 1, 3, none⟩ = some (sv []) ∧ W.cell? ⟨w.heap.size + 1 + 1, 4, none⟩ = some (.bool false) ∧ W.cell? ⟨w.heap.size + 1 + 1, 5, none⟩ = some (.slice none 0 0) ∧ W.cell? ⟨w.heap.size + 1 + 1, 6, none⟩ = some (.int .i64 0) ∧ W.cell? ⟨w.heap.size + 1 + 1, 7, none⟩ = some (.int .i64 0) ∧ W.cell? ⟨w.heap.size + 1 + 1, 8, none⟩ = some (sv []) ∧ W.cell? ⟨w.heap.size + 1 + 1, 9, none⟩ = some (.bool x.filter.on) ∧ W.cell? ⟨w.heap.size + 1 + 1, 10, none⟩ = some (.slice q x.filter.scopes.length d)) (by kernel_rfl) (by kernel_rfl) rfl (by kernel_rfl) ?_
    intro ops' hops
    simp only [List.map_cons, List.map_nil, pickOp_zero, pickOp_succ]
    iterate 3 (refine ord_flo ?_ (fun _ _ _ h => h) rfl ?_ hs0 ?_; rotate_left; focus (intro W hS; obtain ⟨s0, s1, s2, s3, s4, s5, s6, s7, s8, s9, s10, s11, s12⟩ := hS; go_simp; rfl))
    try go_frame
    refine ord_ev rfl ?_
    go_simp
    refine (Cfilter9.out _ (K0.out.drew).b).mono ?_
    rintro e w1 ⟨rfl, b1⟩
    have K1 := Lib.hid ((K0.out.drew).call b1)
    clear b1
    have hs1 := HS.out _ _ K1.out
    refine ⟨hs1, ?_⟩
    try go_frame
    refine ord_ev rfl ?_
    refine wp_store_row2 _ _ _ rfl (w.heap.size + 1) #[sv x.tag, .int .i64 x.kind, sv [], sv [], .bool false, .slice none 0 0, .int .i64 0, .int .i64 0, sv [], .bool x.filter.on, .slice q x.filter.scopes.length d] (by rfl) (by rfl) _ _ (K1.out).r (by kernel_rfl) rfl (by simp [Value.oneCell', sv]) ?_
    intro Z hZ
    have KF := Lib.hid (show Own3 _ w Z _ _ _ from by rw [hZ]; exact (K1.out).setR #[sv x.tag, .int .i64 x.kind, sv [], sv [], .bool false, .slice none 0 0, .int .i64 0, .int .i64 0, sv [], .bool x.filter.on, .slice q x.filter.scopes.length d])
    clear hZ
    refine ⟨HS.out _ _ KF.out, ?_⟩
    have hsf := HS.out _ _ KF.out
    iterate 1 (refine ord_flo ?_ (fun _ _ _ h => h) rfl ?_ hsf ?_; rotate_left; focus (intro W hS; obtain ⟨s0, s1, s2, s3, s4, s5, s6, s7, s8, s9, s10, s11, s12⟩ := hS; go_simp; rfl))
    refine ord_done ?_
    go_simp
    clear HS hsf hs0 hs1
    have g0 := (Lib.cell_of_heap KF.out.r 0).trans (show _ = some (sv x.tag) from rfl)
    have g1 := (Lib.cell_of_heap KF.out.r 1).trans (show _ = some (.int .i64 x.kind) from rfl)
    have g2 := (Lib.cell_of_heap KF.out.r 2).trans (show _ = some (sv []) from rfl)
    have g3 := (Lib.cell_of_heap KF.out.r 3).trans (show _ = some (sv []) from rfl)
    have g4 := (Lib.cell_of_heap KF.out.r 4).trans (show _ = some (.bool false) from rfl)
    have g5 := (Lib.cell_of_heap KF.out.r 5).trans (show _ = some (.slice none 0 0) from rfl)
    have g6 := (Lib.cell_of_heap KF.out.r 6).trans (show _ = some (.int .i64 0) from rfl)
    have g7 := (Lib.cell_of_heap KF.out.r 7).trans (show _ = some (.int .i64 0) from rfl)
    have g8 := (Lib.cell_of_heap KF.out.r 8).trans (show _ = some (sv []) from rfl)
    have g9 := (Lib.cell_of_heap KF.out.r 9).trans (show _ = some (.bool x.filter.on) from rfl)
    have g10 := (Lib.cell_of_heap KF.out.r 10).trans (show _ = some (.slice q x.filter.scopes.length d) from rfl)
    have HB := Lib.hid KF.out.b
    clear KF
    go_wp2
    exact bodyPost_ret (v := .tuple #[.agg #[sv x.tag, .int .i64 x.kind, sv [], sv [], .bool false, .slice none 0 0, .int .i64 0, .int .i64 0, sv [], .bool x.filter.on, .slice q x.filter.scopes.length d], .bool false]) (by simp [results, Tryz.results60, go_sem, g0, g1, g2, g3, g4, g5, g6, g7, g8, g9, g10]) rfl ⟨fin2 (by first | rfl | (rw [e0] <;> rfl)), HB.out⟩

set_option maxRecDepth 20000 in
set_option maxHeartbeats 6400000 in
theorem own_no (x : CmdD) (p q : Option Addr) (c d : Nat) (w : World) (hk : ¬ (1 ≤ x.kind ∧ x.kind ≤ 15)) :
    Calls Tryz.prog 60 #[cmdv x (.slice p x.sset.length c) (.slice q x.filter.scopes.length d)] w fun e w' => e = .returned (.tuple #[.agg #[sv [], .int .i64 0, sv [], sv [], .bool false, .slice none 0 0, .int .i64 0, .int .i64 0, sv [], .bool false, .slice none 0 0], .bool false]) ∧ Below w.heap.size w w' := by
  have t1 : (x.kind == 1) = false := by rw [beq_eq_false_iff_ne]; omega
  have t3 : (x.kind == 3) = false := by rw [beq_eq_false_iff_ne]; omega
  have t4 : (x.kind == 4) = false := by rw [beq_eq_false_iff_ne]; omega
  have t5 : (x.kind == 5) = false := by rw [beq_eq_false_iff_ne]; omega
  have t9 : (x.kind == 9) = false := by rw [beq_eq_false_iff_ne]; omega
  have t15 : (x.kind == 15) = false := by rw [beq_eq_false_iff_ne]; omega
  have t2 : (x.kind == 2) = false := by rw [beq_eq_false_iff_ne]; omega
  have t12 : (x.kind == 12) = false := by rw [beq_eq_false_iff_ne]; omega
  have t13 : (x.kind == 13) = false := by rw [beq_eq_false_iff_ne]; omega
  have t14 : (x.kind == 14) = false := by rw [beq_eq_false_iff_ne]; omega
  have t11 : (x.kind == 11) = false := by rw [beq_eq_false_iff_ne]; omega
  have t7 : (x.kind == 7) = false := by rw [beq_eq_false_iff_ne]; omega
  have t10 : (x.kind == 10) = false := by rw [beq_eq_false_iff_ne]; omega
  have t8 : (x.kind == 8) = false := by rw [beq_eq_false_iff_ne]; omega
  have t6 : (x.kind == 6) = false := by rw [beq_eq_false_iff_ne]; omega
  clear hk
  go_enter Tryz.func60, Tryz.ntmps60
  go_wp2
  go_returns
  exact ⟨rfl, (((Below.refl _ _).alloc (Nat.le_refl _) _).alloc (by simp) _).alloc (by simp; omega) _⟩

end Go.Proofs.YtidjebepgpbcnaaGreatDoor
