/-
  Uk: CmdO (what the claim needs of them).
-/
import Derived.Handy
import Derived.Maps.RangeWalk
import Derived.Deep.LoopGhost
import Derived.Test.YtidjebepgpbcnaaGreatDoorRows
import Derived.WalkKit
import Derived.WalkSpells
import Derived.WalkLawsBesides
import Derived.Laws.IdiomStrings
import Derived.Lib.Hide
import Derived.Deep.AppendLies
import Derived.OrdersHeld
import Derived.Lib.ItoaNum
import Derived.Lib.ItoaMem
import Derived.Lib.AppendStr
import Derived.Lib.ItoaLen
import Derived.Lib.Strings
import Derived.Lib.Bytealg
import Derived.Lib.OthersKept
import Derived.Laws.RangeAny
import Derived.Laws.BitsAllLaws
import Derived.Laws.BitsLemmas
import Derived.IntWalk
import Derived.Lib.Join
import Derived.Deep.Strs
import Derived.Laws.CopyOwn
import Derived.Test.YtidjebepgpbcnaaGreatDoorProg
import Derived.Lib.LaidTab
import Derived.OpenShut
import Derived.WalkSmall
import Derived.ChangeKeysEq
import Derived.Test.YtidjebepgpbcnaaGreatDoorUb
import Derived.Test.YtidjebepgpbcnaaGreatDoorUc
import Derived.Test.YtidjebepgpbcnaaGreatDoorUe
import Derived.Test.YtidjebepgpbcnaaGreatDoorUj

namespace Go.Proofs.YtidjebepgpbcnaaGreatDoor
open Go.RowKit

set_option maxRecDepth 20000 in
set_option maxHeartbeats 6400000 in
theorem own_1 (x : CmdD) (p q : Option Addr) (c d : Nat) (w : World) (hk : x.kind = 1) (_ha : LfRd w (spnsLf x.sset) (.slice p x.sset.length c)) (_ha2 : LfRd w (scpsLf x.filter.scopes) (.slice q x.filter.scopes.length d)) (hs : szLs x.lf ≤ 1048576) (hbd : LsBnd x.lf) :
    Calls Tryz.prog 60 #[cmdv x (.slice p x.sset.length c) (.slice q x.filter.scopes.length d)] w fun e w' => e = .returned (.tuple #[.agg #[sv x.tag, .int .i64 x.kind, sv [], sv [], .bool false, .slice none 0 0, .int .i64 0, .int .i64 0, sv [], .bool false, .slice none 0 0], .bool (true)]) ∧ Below w.heap.size w w' := by
  obtain ⟨_, z2, z3, z5, z8, z9, z10⟩ := CmdD.small hs
  obtain ⟨_, i6, i7, i5, i10⟩ := CmdD.bndO hbd
  clear _ha _ha2 z2 z3 z5 z8 z9 z10 i6 i7 i5 i10 hs hbd
  have t1 : (x.kind == 1) = true := by rw [beq_iff_eq]; omega
  clear hk
  go_enter Tryz.func60, Tryz.ntmps60
  go_wp2
  go_returns
  exact ⟨rfl, (((Below.refl _ _).alloc (Nat.le_refl _) _).alloc (by simp) _).alloc (by simp; omega) _⟩

set_option maxRecDepth 20000 in
set_option maxHeartbeats 6400000 in
theorem own_3 (x : CmdD) (p q : Option Addr) (c d : Nat) (w : World) (hk : x.kind = 3) (_ha : LfRd w (spnsLf x.sset) (.slice p x.sset.length c)) (_ha2 : LfRd w (scpsLf x.filter.scopes) (.slice q x.filter.scopes.length d)) (hs : szLs x.lf ≤ 1048576) (hbd : LsBnd x.lf) :
    Calls Tryz.prog 60 #[cmdv x (.slice p x.sset.length c) (.slice q x.filter.scopes.length d)] w fun e w' => e = .returned (.tuple #[.agg #[sv x.tag, .int .i64 x.kind, sv [], sv [], .bool false, .slice none 0 0, .int .i64 0, .int .i64 0, sv [], .bool false, .slice none 0 0], .bool (true)]) ∧ Below w.heap.size w w' := by
  obtain ⟨_, z2, z3, z5, z8, z9, z10⟩ := CmdD.small hs
  obtain ⟨_, i6, i7, i5, i10⟩ := CmdD.bndO hbd
  clear _ha _ha2 z2 z3 z5 z8 z9 z10 i6 i7 i5 i10 hs hbd
  have t1 : (x.kind == 1) = false := by rw [beq_eq_false_iff_ne]; omega
  have t3 : (x.kind == 3) = true := by rw [beq_iff_eq]; omega
  clear hk
  go_enter Tryz.func60, Tryz.ntmps60
  go_wp2
  go_returns
  exact ⟨rfl, (((Below.refl _ _).alloc (Nat.le_refl _) _).alloc (by simp) _).alloc (by simp; omega) _⟩

set_option maxRecDepth 20000 in
set_option maxHeartbeats 6400000 in
theorem own_4 (x : CmdD) (p q : Option Addr) (c d : Nat) (w : World) (hk : x.kind = 4) (_ha : LfRd w (spnsLf x.sset) (.slice p x.sset.length c)) (_ha2 : LfRd w (scpsLf x.filter.scopes) (.slice q x.filter.scopes.length d)) (hs : szLs x.lf ≤ 1048576) (hbd : LsBnd x.lf) :
    Calls Tryz.prog 60 #[cmdv x (.slice p x.sset.length c) (.slice q x.filter.scopes.length d)] w fun e w' => e = .returned (.tuple #[.agg #[sv x.tag, .int .i64 x.kind, sv [], sv [], .bool false, .slice none 0 0, .int .i64 0, .int .i64 0, sv [], .bool false, .slice none 0 0], .bool (true)]) ∧ Below w.heap.size w w' := by
  obtain ⟨_, z2, z3, z5, z8, z9, z10⟩ := CmdD.small hs
  obtain ⟨_, i6, i7, i5, i10⟩ := CmdD.bndO hbd
  clear _ha _ha2 z2 z3 z5 z8 z9 z10 i6 i7 i5 i10 hs hbd
  have t1 : (x.kind == 1) = false := by rw [beq_eq_false_iff_ne]; omega
  have t3 : (x.kind == 3) = false := by rw [beq_eq_false_iff_ne]; omega
  have t4 : (x.kind == 4) = true := by rw [beq_iff_eq]; omega
  clear hk
  go_enter Tryz.func60, Tryz.ntmps60
  go_wp2
  go_returns
  exact ⟨rfl, (((Below.refl _ _).alloc (Nat.le_refl _) _).alloc (by simp) _).alloc (by simp; omega) _⟩

set_option maxRecDepth 20000 in
set_option maxHeartbeats 6400000 in
theorem own_5 (x : CmdD) (p q : Option Addr) (c d : Nat) (w : World) (hk : x.kind = 5) (_ha : LfRd w (spnsLf x.sset) (.slice p x.sset.length c)) (_ha2 : LfRd w (scpsLf x.filter.scopes) (.slice q x.filter.scopes.length d)) (hs : szLs x.lf ≤ 1048576) (hbd : LsBnd x.lf) :
    Calls Tryz.prog 60 #[cmdv x (.slice p x.sset.length c) (.slice q x.filter.scopes.length d)] w fun e w' => e = .returned (.tuple #[.agg #[sv x.tag, .int .i64 x.kind, sv [], sv [], .bool false, .slice none 0 0, .int .i64 0, .int .i64 0, sv [], .bool false, .slice none 0 0], .bool (true)]) ∧ Below w.heap.size w w' := by
  obtain ⟨_, z2, z3, z5, z8, z9, z10⟩ := CmdD.small hs
  obtain ⟨_, i6, i7, i5, i10⟩ := CmdD.bndO hbd
  clear _ha _ha2 z2 z3 z5 z8 z9 z10 i6 i7 i5 i10 hs hbd
  have t1 : (x.kind == 1) = false := by rw [beq_eq_false_iff_ne]; omega
  have t3 : (x.kind == 3) = false := by rw [beq_eq_false_iff_ne]; omega
  have t4 : (x.kind == 4) = false := by rw [beq_eq_false_iff_ne]; omega
  have t5 : (x.kind == 5) = true := by rw [beq_iff_eq]; omega
  clear hk
  go_enter Tryz.func60, Tryz.ntmps60
  go_wp2
  go_returns
  exact ⟨rfl, (((Below.refl _ _).alloc (Nat.le_refl _) _).alloc (by simp) _).alloc (by simp; omega) _⟩

set_option maxRecDepth 20000 in
set_option maxHeartbeats 6400000 in
theorem own_9 (x : CmdD) (p q : Option Addr) (c d : Nat) (w : World) (hk : x.kind = 9) (_ha : LfRd w (spnsLf x.sset) (.slice p x.sset.length c)) (_ha2 : LfRd w (scpsLf x.filter.scopes) (.slice q x.filter.scopes.length d)) (hs : szLs x.lf ≤ 1048576) (hbd : LsBnd x.lf) :
    Calls Tryz.prog 60 #[cmdv x (.slice p x.sset.length c) (.slice q x.filter.scopes.length d)] w fun e w' => e = .returned (.tuple #[.agg #[sv x.tag, .int .i64 x.kind, sv [], sv [], .bool false, .slice none 0 0, .int .i64 0, .int .i64 0, sv [], .bool false, .slice none 0 0], .bool (true)]) ∧ Below w.heap.size w w' := by
  obtain ⟨_, z2, z3, z5, z8, z9, z10⟩ := CmdD.small hs
  obtain ⟨_, i6, i7, i5, i10⟩ := CmdD.bndO hbd
  clear _ha _ha2 z2 z3 z5 z8 z9 z10 i6 i7 i5 i10 hs hbd
  have t1 : (x.kind == 1) = false := by rw [beq_eq_false_iff_ne]; omega
  have t3 : (x.kind == 3) = false := by rw [beq_eq_false_iff_ne]; omega
  have t4 : (x.kind == 4) = false := by rw [beq_eq_false_iff_ne]; omega
  have t5 : (x.kind == 5) = false := by rw [beq_eq_false_iff_ne]; omega
  have t9 : (x.kind == 9) = true := by rw [beq_iff_eq]; omega
  clear hk
  go_enter Tryz.func60, Tryz.ntmps60
  go_wp2
  go_returns
  exact ⟨rfl, (((Below.refl _ _).alloc (Nat.le_refl _) _).alloc (by simp) _).alloc (by simp; omega) _⟩

set_option maxRecDepth 20000 in
set_option maxHeartbeats 6400000 in
theorem own_15 (x : CmdD) (p q : Option Addr) (c d : Nat) (w : World) (hk : x.kind = 15) (_ha : LfRd w (spnsLf x.sset) (.slice p x.sset.length c)) (_ha2 : LfRd w (scpsLf x.filter.scopes) (.slice q x.filter.scopes.length d)) (hs : szLs x.lf ≤ 1048576) (hbd : LsBnd x.lf) :
    Calls Tryz.prog 60 #[cmdv x (.slice p x.sset.length c) (.slice q x.filter.scopes.length d)] w fun e w' => e = .returned (.tuple #[.agg #[sv x.tag, .int .i64 x.kind, sv [], sv [], .bool false, .slice none 0 0, .int .i64 0, .int .i64 0, sv [], .bool false, .slice none 0 0], .bool (true)]) ∧ Below w.heap.size w w' := by
  obtain ⟨_, z2, z3, z5, z8, z9, z10⟩ := CmdD.small hs
  obtain ⟨_, i6, i7, i5, i10⟩ := CmdD.bndO hbd
  clear _ha _ha2 z2 z3 z5 z8 z9 z10 i6 i7 i5 i10 hs hbd
  have t1 : (x.kind == 1) = false := by rw [beq_eq_false_iff_ne]; omega
  have t3 : (x.kind == 3) = false := by rw [beq_eq_false_iff_ne]; omega
  have t4 : (x.kind == 4) = false := by rw [beq_eq_false_iff_ne]; omega
  have t5 : (x.kind == 5) = false := by rw [beq_eq_false_iff_ne]; omega
  have t9 : (x.kind == 9) = false := by rw [beq_eq_false_iff_ne]; omega
  have t15 : (x.kind == 15) = true := by rw [beq_iff_eq]; omega
  clear hk
  go_enter Tryz.func60, Tryz.ntmps60
  go_wp2
  go_returns
  exact ⟨rfl, (((Below.refl _ _).alloc (Nat.le_refl _) _).alloc (by simp) _).alloc (by simp; omega) _⟩

set_option maxRecDepth 20000 in
set_option maxHeartbeats 6400000 in
theorem own_2 (x : CmdD) (p q : Option Addr) (c d : Nat) (w : World) (hk : x.kind = 2) (_ha : LfRd w (spnsLf x.sset) (.slice p x.sset.length c)) (_ha2 : LfRd w (scpsLf x.filter.scopes) (.slice q x.filter.scopes.length d)) (hs : szLs x.lf ≤ 1048576) (hbd : LsBnd x.lf) :
    Calls Tryz.prog 60 #[cmdv x (.slice p x.sset.length c) (.slice q x.filter.scopes.length d)] w fun e w' => e = .returned (.tuple #[.agg #[sv x.tag, .int .i64 x.kind, sv x.box, sv [], .bool false, .slice none 0 0, .int .i64 0, .int .i64 0, sv [], .bool false, .slice none 0 0], .bool (nameB x.box)]) ∧ Below w.heap.size w w' := by
  obtain ⟨_, z2, z3, z5, z8, z9, z10⟩ := CmdD.small hs
  obtain ⟨_, i6, i7, i5, i10⟩ := CmdD.bndO hbd
  have cname2 := fun W => implNameOk_any ⟨x.box.toArray⟩ W (by unfold maxLen; show x.box.toArray.size ≤ _; simp; omega)
  clear _ha _ha2 z2 z3 z5 z8 z9 z10 i6 i7 i5 i10 hs hbd
  have t1 : (x.kind == 1) = false := by rw [beq_eq_false_iff_ne]; omega
  have t3 : (x.kind == 3) = false := by rw [beq_eq_false_iff_ne]; omega
  have t4 : (x.kind == 4) = false := by rw [beq_eq_false_iff_ne]; omega
  have t5 : (x.kind == 5) = false := by rw [beq_eq_false_iff_ne]; omega
  have t9 : (x.kind == 9) = false := by rw [beq_eq_false_iff_ne]; omega
  have t15 : (x.kind == 15) = false := by rw [beq_eq_false_iff_ne]; omega
  have t2 : (x.kind == 2) = true := by rw [beq_iff_eq]; omega
  clear hk
  have Cname2 := Lib.hid cname2
  clear cname2
  go_enter Tryz.func60, Tryz.ntmps60
  go_wp2
  refine wp_named ?_
  intro X hX
  have H0 := Lib.hid (Own3.of hX)
  clear hX
  have K0 := Lib.hid H0.out
  clear H0
  have HS := Lib.hid (fun (W : World) (R : Array Value) (H : Own3 36 w W #[sv x.tag, .int .i64 x.kind, sv x.box, sv x.dst, .bool x.uid, .slice p x.sset.length c, .int .i64 x.op, .int .i64 x.flags, sv x.text, .bool x.filter.on, .slice q x.filter.scopes.length d] R #[sv x.tag, .int .i64 x.kind, sv x.box, sv [], .bool false, .slice none 0 0, .int .i64 0, .int .i64 0, sv [], .bool false, .slice none 0 0]) => (⟨(Lib.cell_of_heap H.a 2).trans rfl, (Lib.cell_of_heap H.o 0).trans rfl, (Lib.cell_of_heap H.o 1).trans rfl, (Lib.cell_of_heap H.o 2).trans rfl, (Lib.cell_of_heap H.o 3).trans rfl, (Lib.cell_of_heap H.o 4).trans rfl, (Lib.cell_of_heap H.o 5).trans rfl, (Lib.cell_of_heap H.o 6).trans rfl, (Lib.cell_of_heap H.o 7).trans rfl, (Lib.cell_of_heap H.o 8).trans rfl, (Lib.cell_of_heap H.o 9).trans rfl, (Lib.cell_of_heap H.o 10).trans rfl⟩ : W.cell? ⟨w.heap.size, 2, none⟩ = some (sv x.box) ∧ W.cell? ⟨w.heap.size + 1 + 1, 0, none⟩ = some (sv x.tag) ∧ W.cell? ⟨w.heap.size + 1 + 1, 1, none⟩ = some (.int .i64 x.kind) ∧ W.cell? ⟨w.heap.size + 1 + 1, 2, none⟩ = some (sv x.box) ∧ W.cell? ⟨w.heap.size + 1 + 1, 3, none⟩ = some (sv []) ∧ W.cell? ⟨w.heap.size + 1 + 1, 4, none⟩ = some (.bool false) ∧ W.cell? ⟨w.heap.size + 1 + 1, 5, none⟩ = some (.slice none 0 0) ∧ W.cell? ⟨w.heap.size + 1 + 1, 6, none⟩ = some (.int .i64 0) ∧ W.cell? ⟨w.heap.size + 1 + 1, 7, none⟩ = some (.int .i64 0) ∧ W.cell? ⟨w.heap.size + 1 + 1, 8, none⟩ = some (sv []) ∧ W.cell? ⟨w.heap.size + 1 + 1, 9, none⟩ = some (.bool false) ∧ W.cell? ⟨w.heap.size + 1 + 1, 10, none⟩ = some (.slice none 0 0)))
  have hs0 := HS.out X.drew _ K0.out.drew
  cases e0 : (nameB x.box) with
  | true =>
    rw [show nameB (ByteArray.mk x.box.toArray).data.toList = true from e0] at Cname2
    refine ord_start [(0, true), (1, true), (2, true), (3, false), (4, false), (5, true)] (fun W => W.cell? ⟨w.heap.size, 2, none⟩ = some (sv x.box) ∧ W.cell? ⟨w.heap.size + 1 + 1, 0, none⟩ = some (sv x.tag) ∧ W.cell? ⟨w.heap.size + 1 + 1, 1, none⟩ = some (.int .i64 x.kind) ∧ W.cell? ⟨w.heap.size + 1 + 1, 2, none⟩ = some (sv x.box) ∧ W.cell? ⟨w.heap.size + 1 + 1, 3, none⟩ = some (sv []) ∧ W.cell? ⟨w.heap.size + 1 + 1, 4, none⟩ = some (.bool false) ∧ W.cell? ⟨w.heap.size + 1 + 1, 5, none⟩ = some (.slice none 0 0) ∧ W.cell? ⟨w.heap.size + 1 + 1, 6, none⟩ = some (.int .i64 0) ∧ W.cell? ⟨w.heap.size + 1 + 1, 7, none⟩ = some (.int .i64 0) ∧ W.cell? ⟨w.heap.size + 1 + 1, 8, none⟩ = some (sv []) ∧ W.cell? ⟨w.heap.size + 1 + 1, 9, none⟩ = some (.bool false) ∧ W.cell? ⟨w.heap.size + 1 + 1, 10, none⟩ = some (.slice none 0 0)) (by kernel_rfl) (by kernel_rfl) rfl (by kernel_rfl) ?_
    intro ops' hops
    simp only [List.map_cons, List.map_nil, pickOp_zero, pickOp_succ]
    iterate 3 (refine ord_flo ?_ (fun _ _ _ h => h) rfl ?_ hs0 ?_; rotate_left; focus (intro W hS; obtain ⟨s0, s1, s2, s3, s4, s5, s6, s7, s8, s9, s10, s11⟩ := hS; go_simp; rfl))
    try go_frame
    refine ord_ev rfl ?_
    go_simp
    refine (Cname2.out _).mono ?_
    rintro e w1 ⟨rfl, b1⟩
    have K1 := Lib.hid ((K0.out.drew).call b1)
    clear b1
    have hs1 := HS.out _ _ K1.out
    refine ⟨hs1, ?_⟩
    try go_frame
    refine ord_ev rfl ?_
    refine wp_store_row2 _ _ _ rfl (w.heap.size + 1) #[sv x.tag, .int .i64 x.kind, sv x.box, sv [], .bool false, .slice none 0 0, .int .i64 0, .int .i64 0, sv [], .bool false, .slice none 0 0] (by rfl) (by rfl) _ _ (K1.out).r (by kernel_rfl) rfl (by simp [Value.oneCell', sv]) ?_
    intro Z hZ
    have KF := Lib.hid (show Own3 _ w Z _ _ _ from by rw [hZ]; exact (K1.out).setR #[sv x.tag, .int .i64 x.kind, sv x.box, sv [], .bool false, .slice none 0 0, .int .i64 0, .int .i64 0, sv [], .bool false, .slice none 0 0])
    clear hZ
    refine ⟨HS.out _ _ KF.out, ?_⟩
    have hsf := HS.out _ _ KF.out
    iterate 1 (refine ord_flo ?_ (fun _ _ _ h => h) rfl ?_ hsf ?_; rotate_left; focus (intro W hS; obtain ⟨s0, s1, s2, s3, s4, s5, s6, s7, s8, s9, s10, s11⟩ := hS; go_simp; rfl))
    refine ord_done ?_
    go_simp
    clear HS hsf hs0 hs1
    have g0 := (Lib.cell_of_heap KF.out.r 0).trans (show _ = some (sv x.tag) from rfl)
    have g1 := (Lib.cell_of_heap KF.out.r 1).trans (show _ = some (.int .i64 x.kind) from rfl)
    have g2 := (Lib.cell_of_heap KF.out.r 2).trans (show _ = some (sv x.box) from rfl)
    have g3 := (Lib.cell_of_heap KF.out.r 3).trans (show _ = some (sv []) from rfl)
    have g4 := (Lib.cell_of_heap KF.out.r 4).trans (show _ = some (.bool false) from rfl)
    have g5 := (Lib.cell_of_heap KF.out.r 5).trans (show _ = some (.slice none 0 0) from rfl)
    have g6 := (Lib.cell_of_heap KF.out.r 6).trans (show _ = some (.int .i64 0) from rfl)
    have g7 := (Lib.cell_of_heap KF.out.r 7).trans (show _ = some (.int .i64 0) from rfl)
    have g8 := (Lib.cell_of_heap KF.out.r 8).trans (show _ = some (sv []) from rfl)
    have g9 := (Lib.cell_of_heap KF.out.r 9).trans (show _ = some (.bool false) from rfl)
    have g10 := (Lib.cell_of_heap KF.out.r 10).trans (show _ = some (.slice none 0 0) from rfl)
    have HB := Lib.hid KF.out.b
    clear KF
    go_wp2
    exact bodyPost_ret (v := .tuple #[.agg #[sv x.tag, .int .i64 x.kind, sv x.box, sv [], .bool false, .slice none 0 0, .int .i64 0, .int .i64 0, sv [], .bool false, .slice none 0 0], .bool true]) (by simp [results, Tryz.results60, go_sem, g0, g1, g2, g3, g4, g5, g6, g7, g8, g9, g10]) rfl ⟨fin2 (by first | rfl | (rw [e0] <;> rfl)), HB.out⟩
  | false =>
    rw [show nameB (ByteArray.mk x.box.toArray).data.toList = false from e0] at Cname2
    refine ord_start [(0, true), (1, true), (2, true), (3, false), (4, false), (5, true)] (fun W => W.cell? ⟨w.heap.size, 2, none⟩ = some (sv x.box) ∧ W.cell? ⟨w.heap.size + 1 + 1, 0, none⟩ = some (sv x.tag) ∧ W.cell? ⟨w.heap.size + 1 + 1, 1, none⟩ = some (.int .i64 x.kind) ∧ W.cell? ⟨w.heap.size + 1 + 1, 2, none⟩ = some (sv x.box) ∧ W.cell? ⟨w.heap.size + 1 + 1, 3, none⟩ = some (sv []) ∧ W.cell? ⟨w.heap.size + 1 + 1, 4, none⟩ = some (.bool false) ∧ W.cell? ⟨w.heap.size + 1 + 1, 5, none⟩ = some (.slice none 0 0) ∧ W.cell? ⟨w.heap.size + 1 + 1, 6, none⟩ = some (.int .i64 0) ∧ W.cell? ⟨w.heap.size + 1 + 1, 7, none⟩ = some (.int .i64 0) ∧ W.cell? ⟨w.heap.size + 1 + 1, 8, none⟩ = some (sv []) ∧ W.cell? ⟨w.heap.size + 1 + 1, 9, none⟩ = some (.bool false) ∧ W.cell? ⟨w.heap.size + 1 + 1, 10, none⟩ = some (.slice none 0 0)) (by kernel_rfl) (by kernel_rfl) rfl (by kernel_rfl) ?_
    intro ops' hops
    simp only [List.map_cons, List.map_nil, pickOp_zero, pickOp_succ]
    iterate 3 (refine ord_flo ?_ (fun _ _ _ h => h) rfl ?_ hs0 ?_; rotate_left; focus (intro W hS; obtain ⟨s0, s1, s2, s3, s4, s5, s6, s7, s8, s9, s10, s11⟩ := hS; go_simp; rfl))
    try go_frame
    refine ord_ev rfl ?_
    go_simp
    refine (Cname2.out _).mono ?_
    rintro e w1 ⟨rfl, b1⟩
    have K1 := Lib.hid ((K0.out.drew).call b1)
    clear b1
    have hs1 := HS.out _ _ K1.out
    refine ⟨hs1, ?_⟩
    try go_frame
    refine ord_ev rfl ?_
    refine wp_store_row2 _ _ _ rfl (w.heap.size + 1) #[sv x.tag, .int .i64 x.kind, sv x.box, sv [], .bool false, .slice none 0 0, .int .i64 0, .int .i64 0, sv [], .bool false, .slice none 0 0] (by rfl) (by rfl) _ _ (K1.out).r (by kernel_rfl) rfl (by simp [Value.oneCell', sv]) ?_
    intro Z hZ
    have KF := Lib.hid (show Own3 _ w Z _ _ _ from by rw [hZ]; exact (K1.out).setR #[sv x.tag, .int .i64 x.kind, sv x.box, sv [], .bool false, .slice none 0 0, .int .i64 0, .int .i64 0, sv [], .bool false, .slice none 0 0])
    clear hZ
    refine ⟨HS.out _ _ KF.out, ?_⟩
    have hsf := HS.out _ _ KF.out
    iterate 1 (refine ord_flo ?_ (fun _ _ _ h => h) rfl ?_ hsf ?_; rotate_left; focus (intro W hS; obtain ⟨s0, s1, s2, s3, s4, s5, s6, s7, s8, s9, s10, s11⟩ := hS; go_simp; rfl))
    refine ord_done ?_
    go_simp
    clear HS hsf hs0 hs1
    have g0 := (Lib.cell_of_heap KF.out.r 0).trans (show _ = some (sv x.tag) from rfl)
    have g1 := (Lib.cell_of_heap KF.out.r 1).trans (show _ = some (.int .i64 x.kind) from rfl)
    have g2 := (Lib.cell_of_heap KF.out.r 2).trans (show _ = some (sv x.box) from rfl)
    have g3 := (Lib.cell_of_heap KF.out.r 3).trans (show _ = some (sv []) from rfl)
    have g4 := (Lib.cell_of_heap KF.out.r 4).trans (show _ = some (.bool false) from rfl)
    have g5 := (Lib.cell_of_heap KF.out.r 5).trans (show _ = some (.slice none 0 0) from rfl)
    have g6 := (Lib.cell_of_heap KF.out.r 6).trans (show _ = some (.int .i64 0) from rfl)
    have g7 := (Lib.cell_of_heap KF.out.r 7).trans (show _ = some (.int .i64 0) from rfl)
    have g8 := (Lib.cell_of_heap KF.out.r 8).trans (show _ = some (sv []) from rfl)
    have g9 := (Lib.cell_of_heap KF.out.r 9).trans (show _ = some (.bool false) from rfl)
    have g10 := (Lib.cell_of_heap KF.out.r 10).trans (show _ = some (.slice none 0 0) from rfl)
    have HB := Lib.hid KF.out.b
    clear KF
    go_wp2
    exact bodyPost_ret (v := .tuple #[.agg #[sv x.tag, .int .i64 x.kind, sv x.box, sv [], .bool false, .slice none 0 0, .int .i64 0, .int .i64 0, sv [], .bool false, .slice none 0 0], .bool false]) (by simp [results, Tryz.results60, go_sem, g0, g1, g2, g3, g4, g5, g6, g7, g8, g9, g10]) rfl ⟨fin2 (by first | rfl | (rw [e0] <;> rfl)), HB.out⟩

set_option maxRecDepth 20000 in
set_option maxHeartbeats 6400000 in
theorem own_12 (x : CmdD) (p q : Option Addr) (c d : Nat) (w : World) (hk : x.kind = 12) (_ha : LfRd w (spnsLf x.sset) (.slice p x.sset.length c)) (_ha2 : LfRd w (scpsLf x.filter.scopes) (.slice q x.filter.scopes.length d)) (hs : szLs x.lf ≤ 1048576) (hbd : LsBnd x.lf) :
    Calls Tryz.prog 60 #[cmdv x (.slice p x.sset.length c) (.slice q x.filter.scopes.length d)] w fun e w' => e = .returned (.tuple #[.agg #[sv x.tag, .int .i64 x.kind, sv x.box, sv [], .bool false, .slice none 0 0, .int .i64 0, .int .i64 0, sv [], .bool false, .slice none 0 0], .bool (nameB x.box)]) ∧ Below w.heap.size w w' := by
  obtain ⟨_, z2, z3, z5, z8, z9, z10⟩ := CmdD.small hs
  obtain ⟨_, i6, i7, i5, i10⟩ := CmdD.bndO hbd
  have cname2 := fun W => implNameOk_any ⟨x.box.toArray⟩ W (by unfold maxLen; show x.box.toArray.size ≤ _; simp; omega)
  clear _ha _ha2 z2 z3 z5 z8 z9 z10 i6 i7 i5 i10 hs hbd
  have t1 : (x.kind == 1) = false := by rw [beq_eq_false_iff_ne]; omega
  have t3 : (x.kind == 3) = false := by rw [beq_eq_false_iff_ne]; omega
  have t4 : (x.kind == 4) = false := by rw [beq_eq_false_iff_ne]; omega
  have t5 : (x.kind == 5) = false := by rw [beq_eq_false_iff_ne]; omega
  have t9 : (x.kind == 9) = false := by rw [beq_eq_false_iff_ne]; omega
  have t15 : (x.kind == 15) = false := by rw [beq_eq_false_iff_ne]; omega
  have t2 : (x.kind == 2) = false := by rw [beq_eq_false_iff_ne]; omega
  have t12 : (x.kind == 12) = true := by rw [beq_iff_eq]; omega
  clear hk
  have Cname2 := Lib.hid cname2
  clear cname2
  go_enter Tryz.func60, Tryz.ntmps60
  go_wp2
  refine wp_named ?_
  intro X hX
  have H0 := Lib.hid (Own3.of hX)
  clear hX
  have K0 := Lib.hid H0.out
  clear H0
  have HS := Lib.hid (fun (W : World) (R : Array Value) (H : Own3 36 w W #[sv x.tag, .int .i64 x.kind, sv x.box, sv x.dst, .bool x.uid, .slice p x.sset.length c, .int .i64 x.op, .int .i64 x.flags, sv x.text, .bool x.filter.on, .slice q x.filter.scopes.length d] R #[sv x.tag, .int .i64 x.kind, sv x.box, sv [], .bool false, .slice none 0 0, .int .i64 0, .int .i64 0, sv [], .bool false, .slice none 0 0]) => (⟨(Lib.cell_of_heap H.a 2).trans rfl, (Lib.cell_of_heap H.o 0).trans rfl, (Lib.cell_of_heap H.o 1).trans rfl, (Lib.cell_of_heap H.o 2).trans rfl, (Lib.cell_of_heap H.o 3).trans rfl, (Lib.cell_of_heap H.o 4).trans rfl, (Lib.cell_of_heap H.o 5).trans rfl, (Lib.cell_of_heap H.o 6).trans rfl, (Lib.cell_of_heap H.o 7).trans rfl, (Lib.cell_of_heap H.o 8).trans rfl, (Lib.cell_of_heap H.o 9).trans rfl, (Lib.cell_of_heap H.o 10).trans rfl⟩ : W.cell? ⟨w.heap.size, 2, none⟩ = some (sv x.box) ∧ W.cell? ⟨w.heap.size + 1 + 1, 0, none⟩ = some (sv x.tag) ∧ W.cell? ⟨w.heap.size + 1 + 1, 1, none⟩ = some (.int .i64 x.kind) ∧ W.cell? ⟨w.heap.size + 1 + 1, 2, none⟩ = some (sv x.box) ∧ W.cell? ⟨w.heap.size + 1 + 1, 3, none⟩ = some (sv []) ∧ W.cell? ⟨w.heap.size + 1 + 1, 4, none⟩ = some (.bool false) ∧ W.cell? ⟨w.heap.size + 1 + 1, 5, none⟩ = some (.slice none 0 0) ∧ W.cell? ⟨w.heap.size + 1 + 1, 6, none⟩ = some (.int .i64 0) ∧ W.cell? ⟨w.heap.size + 1 + 1, 7, none⟩ = some (.int .i64 0) ∧ W.cell? ⟨w.heap.size + 1 + 1, 8, none⟩ = some (sv []) ∧ W.cell? ⟨w.heap.size + 1 + 1, 9, none⟩ = some (.bool false) ∧ W.cell? ⟨w.heap.size + 1 + 1, 10, none⟩ = some (.slice none 0 0)))
  have hs0 := HS.out X.drew _ K0.out.drew
  cases e0 : (nameB x.box) with
  | true =>
    rw [show nameB (ByteArray.mk x.box.toArray).data.toList = true from e0] at Cname2
    refine ord_start [(0, true), (1, true), (2, true), (3, false), (4, false), (5, true)] (fun W => W.cell? ⟨w.heap.size, 2, none⟩ = some (sv x.box) ∧ W.cell? ⟨w.heap.size + 1 + 1, 0, none⟩ = some (sv x.tag) ∧ W.cell? ⟨w.heap.size + 1 + 1, 1, none⟩ = some (.int .i64 x.kind) ∧ W.cell? ⟨w.heap.size + 1 + 1, 2, none⟩ = some (sv x.box) ∧ W.cell? ⟨w.heap.size + 1 + 1, 3, none⟩ = some (sv []) ∧ W.cell? ⟨w.heap.size + 1 + 1, 4, none⟩ = some (.bool false) ∧ W.cell? ⟨w.heap.size + 1 + 1, 5, none⟩ = some (.slice none 0 0) ∧ W.cell? ⟨w.heap.size + 1 + 1, 6, none⟩ = some (.int .i64 0) ∧ W.cell? ⟨w.heap.size + 1 + 1, 7, none⟩ = some (.int .i64 0) ∧ W.cell? ⟨w.heap.size + 1 + 1, 8, none⟩ = some (sv []) ∧ W.cell? ⟨w.heap.size + 1 + 1, 9, none⟩ = some (.bool false) ∧ W.cell? ⟨w.heap.size + 1 + 1, 10, none⟩ = some (.slice none 0 0)) (by kernel_rfl) (by kernel_rfl) rfl (by kernel_rfl) ?_
    intro ops' hops
    simp only [List.map_cons, List.map_nil, pickOp_zero, pickOp_succ]
    iterate 3 (refine ord_flo ?_ (fun _ _ _ h => h) rfl ?_ hs0 ?_; rotate_left; focus (intro W hS; obtain ⟨s0, s1, s2, s3, s4, s5, s6, s7, s8, s9, s10, s11⟩ := hS; go_simp; rfl))
    try go_frame
    refine ord_ev rfl ?_
    go_simp
    refine (Cname2.out _).mono ?_
    rintro e w1 ⟨rfl, b1⟩
    have K1 := Lib.hid ((K0.out.drew).call b1)
    clear b1
    have hs1 := HS.out _ _ K1.out
    refine ⟨hs1, ?_⟩
    try go_frame
    refine ord_ev rfl ?_
    refine wp_store_row2 _ _ _ rfl (w.heap.size + 1) #[sv x.tag, .int .i64 x.kind, sv x.box, sv [], .bool false, .slice none 0 0, .int .i64 0, .int .i64 0, sv [], .bool false, .slice none 0 0] (by rfl) (by rfl) _ _ (K1.out).r (by kernel_rfl) rfl (by simp [Value.oneCell', sv]) ?_
    intro Z hZ
    have KF := Lib.hid (show Own3 _ w Z _ _ _ from by rw [hZ]; exact (K1.out).setR #[sv x.tag, .int .i64 x.kind, sv x.box, sv [], .bool false, .slice none 0 0, .int .i64 0, .int .i64 0, sv [], .bool false, .slice none 0 0])
    clear hZ
    refine ⟨HS.out _ _ KF.out, ?_⟩
    have hsf := HS.out _ _ KF.out
    iterate 1 (refine ord_flo ?_ (fun _ _ _ h => h) rfl ?_ hsf ?_; rotate_left; focus (intro W hS; obtain ⟨s0, s1, s2, s3, s4, s5, s6, s7, s8, s9, s10, s11⟩ := hS; go_simp; rfl))
    refine ord_done ?_
    go_simp
    clear HS hsf hs0 hs1
    have g0 := (Lib.cell_of_heap KF.out.r 0).trans (show _ = some (sv x.tag) from rfl)
    have g1 := (Lib.cell_of_heap KF.out.r 1).trans (show _ = some (.int .i64 x.kind) from rfl)
    have g2 := (Lib.cell_of_heap KF.out.r 2).trans (show _ = some (sv x.box) from rfl)
    have g3 := (Lib.cell_of_heap KF.out.r 3).trans (show _ = some (sv []) from rfl)
    have g4 := (Lib.cell_of_heap KF.out.r 4).trans (show _ = some (.bool false) from rfl)
    have g5 := (Lib.cell_of_heap KF.out.r 5).trans (show _ = some (.slice none 0 0) from rfl)
    have g6 := (Lib.cell_of_heap KF.out.r 6).trans (show _ = some (.int .i64 0) from rfl)
    have g7 := (Lib.cell_of_heap KF.out.r 7).trans (show _ = some (.int .i64 0) from rfl)
    have g8 := (Lib.cell_of_heap KF.out.r 8).trans (show _ = some (sv []) from rfl)
    have g9 := (Lib.cell_of_heap KF.out.r 9).trans (show _ = some (.bool false) from rfl)
    have g10 := (Lib.cell_of_heap KF.out.r 10).trans (show _ = some (.slice none 0 0) from rfl)
    have HB := Lib.hid KF.out.b
    clear KF
    go_wp2
    exact bodyPost_ret (v := .tuple #[.agg #[sv x.tag, .int .i64 x.kind, sv x.box, sv [], .bool false, .slice none 0 0, .int .i64 0, .int .i64 0, sv [], .bool false, .slice none 0 0], .bool true]) (by simp [results, Tryz.results60, go_sem, g0, g1, g2, g3, g4, g5, g6, g7, g8, g9, g10]) rfl ⟨fin2 (by first | rfl | (rw [e0] <;> rfl)), HB.out⟩
  | false =>
    rw [show nameB (ByteArray.mk x.box.toArray).data.toList = false from e0] at Cname2
    refine ord_start [(0, true), (1, true), (2, true), (3, false), (4, false), (5, true)] (fun W => W.cell? ⟨w.heap.size, 2, none⟩ = some (sv x.box) ∧ W.cell? ⟨w.heap.size + 1 + 1, 0, none⟩ = some (sv x.tag) ∧ W.cell? ⟨w.heap.size + 1 + 1, 1, none⟩ = some (.int .i64 x.kind) ∧ W.cell? ⟨w.heap.size + 1 + 1, 2, none⟩ = some (sv x.box) ∧ W.cell? ⟨w.heap.size + 1 + 1, 3, none⟩ = some (sv []) ∧ W.cell? ⟨w.heap.size + 1 + 1, 4, none⟩ = some (.bool false) ∧ W.cell? ⟨w.heap.size + 1 + 1, 5, none⟩ = some (.slice none 0 0) ∧ W.cell? ⟨w.heap.size + 1 + 1, 6, none⟩ = some (.int .i64 0) ∧ W.cell? ⟨w.heap.size + 1 + 1, 7, none⟩ = some (.int .i64 0) ∧ W.cell? ⟨w.heap.size + 1 + 1, 8, none⟩ = some (sv []) ∧ W.cell? ⟨w.heap.size + 1 + 1, 9, none⟩ = some (.bool false) ∧ W.cell? ⟨w.heap.size + 1 + 1, 10, none⟩ = some (.slice none 0 0)) (by kernel_rfl) (by kernel_rfl) rfl (by kernel_rfl) ?_
    intro ops' hops
    simp only [List.map_cons, List.map_nil, pickOp_zero, pickOp_succ]
    iterate 3 (refine ord_flo ?_ (fun _ _ _ h => h) rfl ?_ hs0 ?_; rotate_left; focus (intro W hS; obtain ⟨s0, s1, s2, s3, s4, s5, s6, s7, s8, s9, s10, s11⟩ := hS; go_simp; rfl))
    try go_frame
    refine ord_ev rfl ?_
    go_simp
    refine (Cname2.out _).mono ?_
    rintro e w1 ⟨rfl, b1⟩
    have K1 := Lib.hid ((K0.out.drew).call b1)
    clear b1
    have hs1 := HS.out _ _ K1.out
    refine ⟨hs1, ?_⟩
    try go_frame
    refine ord_ev rfl ?_
    refine wp_store_row2 _ _ _ rfl (w.heap.size + 1) #[sv x.tag, .int .i64 x.kind, sv x.box, sv [], .bool false, .slice none 0 0, .int .i64 0, .int .i64 0, sv [], .bool false, .slice none 0 0] (by rfl) (by rfl) _ _ (K1.out).r (by kernel_rfl) rfl (by simp [Value.oneCell', sv]) ?_
    intro Z hZ
    have KF := Lib.hid (show Own3 _ w Z _ _ _ from by rw [hZ]; exact (K1.out).setR #[sv x.tag, .int .i64 x.kind, sv x.box, sv [], .bool false, .slice none 0 0, .int .i64 0, .int .i64 0, sv [], .bool false, .slice none 0 0])
    clear hZ
    refine ⟨HS.out _ _ KF.out, ?_⟩
    have hsf := HS.out _ _ KF.out
    iterate 1 (refine ord_flo ?_ (fun _ _ _ h => h) rfl ?_ hsf ?_; rotate_left; focus (intro W hS; obtain ⟨s0, s1, s2, s3, s4, s5, s6, s7, s8, s9, s10, s11⟩ := hS; go_simp; rfl))
    refine ord_done ?_
    go_simp
    clear HS hsf hs0 hs1
    have g0 := (Lib.cell_of_heap KF.out.r 0).trans (show _ = some (sv x.tag) from rfl)
    have g1 := (Lib.cell_of_heap KF.out.r 1).trans (show _ = some (.int .i64 x.kind) from rfl)
    have g2 := (Lib.cell_of_heap KF.out.r 2).trans (show _ = some (sv x.box) from rfl)
    have g3 := (Lib.cell_of_heap KF.out.r 3).trans (show _ = some (sv []) from rfl)
    have g4 := (Lib.cell_of_heap KF.out.r 4).trans (show _ = some (.bool false) from rfl)
    have g5 := (Lib.cell_of_heap KF.out.r 5).trans (show _ = some (.slice none 0 0) from rfl)
    have g6 := (Lib.cell_of_heap KF.out.r 6).trans (show _ = some (.int .i64 0) from rfl)
    have g7 := (Lib.cell_of_heap KF.out.r 7).trans (show _ = some (.int .i64 0) from rfl)
    have g8 := (Lib.cell_of_heap KF.out.r 8).trans (show _ = some (sv []) from rfl)
    have g9 := (Lib.cell_of_heap KF.out.r 9).trans (show _ = some (.bool false) from rfl)
    have g10 := (Lib.cell_of_heap KF.out.r 10).trans (show _ = some (.slice none 0 0) from rfl)
    have HB := Lib.hid KF.out.b
    clear KF
    go_wp2
    exact bodyPost_ret (v := .tuple #[.agg #[sv x.tag, .int .i64 x.kind, sv x.box, sv [], .bool false, .slice none 0 0, .int .i64 0, .int .i64 0, sv [], .bool false, .slice none 0 0], .bool false]) (by simp [results, Tryz.results60, go_sem, g0, g1, g2, g3, g4, g5, g6, g7, g8, g9, g10]) rfl ⟨fin2 (by first | rfl | (rw [e0] <;> rfl)), HB.out⟩

set_option maxRecDepth 20000 in
set_option maxHeartbeats 6400000 in
theorem own_13 (x : CmdD) (p q : Option Addr) (c d : Nat) (w : World) (hk : x.kind = 13) (_ha : LfRd w (spnsLf x.sset) (.slice p x.sset.length c)) (_ha2 : LfRd w (scpsLf x.filter.scopes) (.slice q x.filter.scopes.length d)) (hs : szLs x.lf ≤ 1048576) (hbd : LsBnd x.lf) :
    Calls Tryz.prog 60 #[cmdv x (.slice p x.sset.length c) (.slice q x.filter.scopes.length d)] w fun e w' => e = .returned (.tuple #[.agg #[sv x.tag, .int .i64 x.kind, sv x.box, sv [], .bool false, .slice none 0 0, .int .i64 0, .int .i64 0, sv [], .bool false, .slice none 0 0], .bool (nameB x.box)]) ∧ Below w.heap.size w w' := by
  obtain ⟨_, z2, z3, z5, z8, z9, z10⟩ := CmdD.small hs
  obtain ⟨_, i6, i7, i5, i10⟩ := CmdD.bndO hbd
  have cname2 := fun W => implNameOk_any ⟨x.box.toArray⟩ W (by unfold maxLen; show x.box.toArray.size ≤ _; simp; omega)
  clear _ha _ha2 z2 z3 z5 z8 z9 z10 i6 i7 i5 i10 hs hbd
  have t1 : (x.kind == 1) = false := by rw [beq_eq_false_iff_ne]; omega
  have t3 : (x.kind == 3) = false := by rw [beq_eq_false_iff_ne]; omega
  have t4 : (x.kind == 4) = false := by rw [beq_eq_false_iff_ne]; omega
  have t5 : (x.kind == 5) = false := by rw [beq_eq_false_iff_ne]; omega
  have t9 : (x.kind == 9) = false := by rw [beq_eq_false_iff_ne]; omega
  have t15 : (x.kind == 15) = false := by rw [beq_eq_false_iff_ne]; omega
  have t2 : (x.kind == 2) = false := by rw [beq_eq_false_iff_ne]; omega
  have t12 : (x.kind == 12) = false := by rw [beq_eq_false_iff_ne]; omega
  have t13 : (x.kind == 13) = true := by rw [beq_iff_eq]; omega
  clear hk
  have Cname2 := Lib.hid cname2
  clear cname2
  go_enter Tryz.func60, Tryz.ntmps60
  go_wp2
  refine wp_named ?_
  intro X hX
  have H0 := Lib.hid (Own3.of hX)
  clear hX
  have K0 := Lib.hid H0.out
  clear H0
  have HS := Lib.hid (fun (W : World) (R : Array Value) (H : Own3 36 w W #[sv x.tag, .int .i64 x.kind, sv x.box, sv x.dst, .bool x.uid, .slice p x.sset.length c, .int .i64 x.op, .int .i64 x.flags, sv x.text, .bool x.filter.on, .slice q x.filter.scopes.length d] R #[sv x.tag, .int .i64 x.kind, sv x.box, sv [], .bool false, .slice none 0 0, .int .i64 0, .int .i64 0, sv [], .bool false, .slice none 0 0]) => (⟨(Lib.cell_of_heap H.a 2).trans rfl, (Lib.cell_of_heap H.o 0).trans rfl, (Lib.cell_of_heap H.o 1).trans rfl, (Lib.cell_of_heap H.o 2).trans rfl, (Lib.cell_of_heap H.o 3).trans rfl, (Lib.cell_of_heap H.o 4).trans rfl, (Lib.cell_of_heap H.o 5).trans rfl, (Lib.cell_of_heap H.o 6).trans rfl, (Lib.cell_of_heap H.o 7).trans rfl, (Lib.cell_of_heap H.o 8).trans rfl, (Lib.cell_of_heap H.o 9).trans rfl, (Lib.cell_of_heap H.o 10).trans rfl⟩ : W.cell? ⟨w.heap.size, 2, none⟩ = some (sv x.box) ∧ W.cell? ⟨w.heap.size + 1 + 1, 0, none⟩ = some (sv x.tag) ∧ W.cell? ⟨w.heap.size + 1 + 1, 1, none⟩ = some (.int .i64 x.kind) ∧ W.cell? ⟨w.heap.size + 1 + 1, 2, none⟩ = some (sv x.box) ∧ W.cell? ⟨w.heap.size + 1 + 1, 3, none⟩ = some (sv []) ∧ W.cell? ⟨w.heap.size + 1 + 1, 4, none⟩ = some (.bool false) ∧ W.cell? ⟨w.heap.size + 1 + 1, 5, none⟩ = some (.slice none 0 0) ∧ W.cell? ⟨w.heap.size + 1 + 1, 6, none⟩ = some (.int .i64 0) ∧ W.cell? ⟨w.heap.size + 1 + 1, 7, none⟩ = some (.int .i64 0) ∧ W.cell? ⟨w.heap.size + 1 + 1, 8, none⟩ = some (sv []) ∧ W.cell? ⟨w.heap.size + 1 + 1, 9, none⟩ = some (.bool false) ∧ W.cell? ⟨w.heap.size + 1 + 1, 10, none⟩ = some (.slice none 0 0)))
  have hs0 := HS.out X.drew _ K0.out.drew
  cases e0 : (nameB x.box) with
  | true =>
    rw [show nameB (ByteArray.mk x.box.toArray).data.toList = true from e0] at Cname2
    refine ord_start [(0, true), (1, true), (2, true), (3, false), (4, false), (5, true)] (fun W => W.cell? ⟨w.heap.size, 2, none⟩ = some (sv x.box) ∧ W.cell? ⟨w.heap.size + 1 + 1, 0, none⟩ = some (sv x.tag) ∧ W.cell? ⟨w.heap.size + 1 + 1, 1, none⟩ = some (.int .i64 x.kind) ∧ W.cell? ⟨w.heap.size + 1 + 1, 2, none⟩ = some (sv x.box) ∧ W.cell? ⟨w.heap.size + 1 + 1, 3, none⟩ = some (sv []) ∧ W.cell? ⟨w.heap.size + 1 + 1, 4, none⟩ = some (.bool false) ∧ W.cell? ⟨w.heap.size + 1 + 1, 5, none⟩ = some (.slice none 0 0) ∧ W.cell? ⟨w.heap.size + 1 + 1, 6, none⟩ = some (.int .i64 0) ∧ W.cell? ⟨w.heap.size + 1 + 1, 7, none⟩ = some (.int .i64 0) ∧ W.cell? ⟨w.heap.size + 1 + 1, 8, none⟩ = some (sv []) ∧ W.cell? ⟨w.heap.size + 1 + 1, 9, none⟩ = some (.bool false) ∧ W.cell? ⟨w.heap.size + 1 + 1, 10, none⟩ = some (.slice none 0 0)) (by kernel_rfl) (by kernel_rfl) rfl (by kernel_rfl) ?_
    intro ops' hops
    simp only [List.map_cons, List.map_nil, pickOp_zero, pickOp_succ]
    iterate 3 (refine ord_flo ?_ (fun _ _ _ h => h) rfl ?_ hs0 ?_; rotate_left; focus (intro W hS; obtain ⟨s0, s1, s2, s3, s4, s5, s6, s7, s8, s9, s10, s11⟩ := hS; go_simp; rfl))
    try go_frame
    refine ord_ev rfl ?_
    go_simp
    refine (Cname2.out _).mono ?_
    rintro e w1 ⟨rfl, b1⟩
    have K1 := Lib.hid ((K0.out.drew).call b1)
    clear b1
    have hs1 := HS.out _ _ K1.out
    refine ⟨hs1, ?_⟩
    try go_frame
    refine ord_ev rfl ?_
    refine wp_store_row2 _ _ _ rfl (w.heap.size + 1) #[sv x.tag, .int .i64 x.kind, sv x.box, sv [], .bool false, .slice none 0 0, .int .i64 0, .int .i64 0, sv [], .bool false, .slice none 0 0] (by rfl) (by rfl) _ _ (K1.out).r (by kernel_rfl) rfl (by simp [Value.oneCell', sv]) ?_
    intro Z hZ
    have KF := Lib.hid (show Own3 _ w Z _ _ _ from by rw [hZ]; exact (K1.out).setR #[sv x.tag, .int .i64 x.kind, sv x.box, sv [], .bool false, .slice none 0 0, .int .i64 0, .int .i64 0, sv [], .bool false, .slice none 0 0])
    clear hZ
    refine ⟨HS.out _ _ KF.out, ?_⟩
    have hsf := HS.out _ _ KF.out
    iterate 1 (refine ord_flo ?_ (fun _ _ _ h => h) rfl ?_ hsf ?_; rotate_left; focus (intro W hS; obtain ⟨s0, s1, s2, s3, s4, s5, s6, s7, s8, s9, s10, s11⟩ := hS; go_simp; rfl))
    refine ord_done ?_
    go_simp
    clear HS hsf hs0 hs1
    have g0 := (Lib.cell_of_heap KF.out.r 0).trans (show _ = some (sv x.tag) from rfl)
    have g1 := (Lib.cell_of_heap KF.out.r 1).trans (show _ = some (.int .i64 x.kind) from rfl)
    have g2 := (Lib.cell_of_heap KF.out.r 2).trans (show _ = some (sv x.box) from rfl)
    have g3 := (Lib.cell_of_heap KF.out.r 3).trans (show _ = some (sv []) from rfl)
    have g4 := (Lib.cell_of_heap KF.out.r 4).trans (show _ = some (.bool false) from rfl)
    have g5 := (Lib.cell_of_heap KF.out.r 5).trans (show _ = some (.slice none 0 0) from rfl)
    have g6 := (Lib.cell_of_heap KF.out.r 6).trans (show _ = some (.int .i64 0) from rfl)
    have g7 := (Lib.cell_of_heap KF.out.r 7).trans (show _ = some (.int .i64 0) from rfl)
    have g8 := (Lib.cell_of_heap KF.out.r 8).trans (show _ = some (sv []) from rfl)
    have g9 := (Lib.cell_of_heap KF.out.r 9).trans (show _ = some (.bool false) from rfl)
    have g10 := (Lib.cell_of_heap KF.out.r 10).trans (show _ = some (.slice none 0 0) from rfl)
    have HB := Lib.hid KF.out.b
    clear KF
    go_wp2
    exact bodyPost_ret (v := .tuple #[.agg #[sv x.tag, .int .i64 x.kind, sv x.box, sv [], .bool false, .slice none 0 0, .int .i64 0, .int .i64 0, sv [], .bool false, .slice none 0 0], .bool true]) (by simp [results, Tryz.results60, go_sem, g0, g1, g2, g3, g4, g5, g6, g7, g8, g9, g10]) rfl ⟨fin2 (by first | rfl | (rw [e0] <;> rfl)), HB.out⟩
  | false =>
    rw [show nameB (ByteArray.mk x.box.toArray).data.toList = false from e0] at Cname2
    refine ord_start [(0, true), (1, true), (2, true), (3, false), (4, false), (5, true)] (fun W => W.cell? ⟨w.heap.size, 2, none⟩ = some (sv x.box) ∧ W.cell? ⟨w.heap.size + 1 + 1, 0, none⟩ = some (sv x.tag) ∧ W.cell? ⟨w.heap.size + 1 + 1, 1, none⟩ = some (.int .i64 x.kind) ∧ W.cell? ⟨w.heap.size + 1 + 1, 2, none⟩ = some (sv x.box) ∧ W.cell? ⟨w.heap.size + 1 + 1, 3, none⟩ = some (sv []) ∧ W.cell? ⟨w.heap.size + 1 + 1, 4, none⟩ = some (.bool false) ∧ W.cell? ⟨w.heap.size + 1 + 1, 5, none⟩ = some (.slice none 0 0) ∧ W.cell? ⟨w.heap.size + 1 + 1, 6, none⟩ = some (.int .i64 0) ∧ W.cell? ⟨w.heap.size + 1 + 1, 7, none⟩ = some (.int .i64 0) ∧ W.cell? ⟨w.heap.size + 1 + 1, 8, none⟩ = some (sv []) ∧ W.cell? ⟨w.heap.size + 1 + 1, 9, none⟩ = some (.bool false) ∧ W.cell? ⟨w.heap.size + 1 + 1, 10, none⟩ = some (.slice none 0 0)) (by kernel_rfl) (by kernel_rfl) rfl (by kernel_rfl) ?_
    intro ops' hops
    simp only [List.map_cons, List.map_nil, pickOp_zero, pickOp_succ]
    iterate 3 (refine ord_flo ?_ (fun _ _ _ h => h) rfl ?_ hs0 ?_; rotate_left; focus (intro W hS; obtain ⟨s0, s1, s2, s3, s4, s5, s6, s7, s8, s9, s10, s11⟩ := hS; go_simp; rfl))
    try go_frame
    refine ord_ev rfl ?_
    go_simp
    refine (Cname2.out _).mono ?_
    rintro e w1 ⟨rfl, b1⟩
    have K1 := Lib.hid ((K0.out.drew).call b1)
    clear b1
    have hs1 := HS.out _ _ K1.out
    refine ⟨hs1, ?_⟩
    try go_frame
    refine ord_ev rfl ?_
    refine wp_store_row2 _ _ _ rfl (w.heap.size + 1) #[sv x.tag, .int .i64 x.kind, sv x.box, sv [], .bool false, .slice none 0 0, .int .i64 0, .int .i64 0, sv [], .bool false, .slice none 0 0] (by rfl) (by rfl) _ _ (K1.out).r (by kernel_rfl) rfl (by simp [Value.oneCell', sv]) ?_
    intro Z hZ
    have KF := Lib.hid (show Own3 _ w Z _ _ _ from by rw [hZ]; exact (K1.out).setR #[sv x.tag, .int .i64 x.kind, sv x.box, sv [], .bool false, .slice none 0 0, .int .i64 0, .int .i64 0, sv [], .bool false, .slice none 0 0])
    clear hZ
    refine ⟨HS.out _ _ KF.out, ?_⟩
    have hsf := HS.out _ _ KF.out
    iterate 1 (refine ord_flo ?_ (fun _ _ _ h => h) rfl ?_ hsf ?_; rotate_left; focus (intro W hS; obtain ⟨s0, s1, s2, s3, s4, s5, s6, s7, s8, s9, s10, s11⟩ := hS; go_simp; rfl))
    refine ord_done ?_
    go_simp
    clear HS hsf hs0 hs1
    have g0 := (Lib.cell_of_heap KF.out.r 0).trans (show _ = some (sv x.tag) from rfl)
    have g1 := (Lib.cell_of_heap KF.out.r 1).trans (show _ = some (.int .i64 x.kind) from rfl)
    have g2 := (Lib.cell_of_heap KF.out.r 2).trans (show _ = some (sv x.box) from rfl)
    have g3 := (Lib.cell_of_heap KF.out.r 3).trans (show _ = some (sv []) from rfl)
    have g4 := (Lib.cell_of_heap KF.out.r 4).trans (show _ = some (.bool false) from rfl)
    have g5 := (Lib.cell_of_heap KF.out.r 5).trans (show _ = some (.slice none 0 0) from rfl)
    have g6 := (Lib.cell_of_heap KF.out.r 6).trans (show _ = some (.int .i64 0) from rfl)
    have g7 := (Lib.cell_of_heap KF.out.r 7).trans (show _ = some (.int .i64 0) from rfl)
    have g8 := (Lib.cell_of_heap KF.out.r 8).trans (show _ = some (sv []) from rfl)
    have g9 := (Lib.cell_of_heap KF.out.r 9).trans (show _ = some (.bool false) from rfl)
    have g10 := (Lib.cell_of_heap KF.out.r 10).trans (show _ = some (.slice none 0 0) from rfl)
    have HB := Lib.hid KF.out.b
    clear KF
    go_wp2
    exact bodyPost_ret (v := .tuple #[.agg #[sv x.tag, .int .i64 x.kind, sv x.box, sv [], .bool false, .slice none 0 0, .int .i64 0, .int .i64 0, sv [], .bool false, .slice none 0 0], .bool false]) (by simp [results, Tryz.results60, go_sem, g0, g1, g2, g3, g4, g5, g6, g7, g8, g9, g10]) rfl ⟨fin2 (by first | rfl | (rw [e0] <;> rfl)), HB.out⟩

end Go.Proofs.YtidjebepgpbcnaaGreatDoor
