/-
  Uo: CmdE (what the claim needs of them).
-/
import Derived.Handy
import Derived.Test.YtidjebepgpbcnaaGreatDoorRows
import Derived.WalkKit
import Derived.WalkSpells
import Derived.WalkLawsBesides
import Derived.Laws.IdiomStrings
import Derived.Lib.Hide
import Derived.Deep.AppendLies
import Derived.OrdersHeld
import Derived.Lib.ItoaNum
import Derived.Lib.ItoaMem
import Derived.Lib.AppendStr
import Derived.Lib.ItoaLen
import Derived.Lib.Strings
import Derived.Lib.Bytealg
import Derived.Lib.OthersKept
import Derived.Laws.RangeAny
import Derived.Laws.BitsAllLaws
import Derived.Laws.BitsLemmas
import Derived.IntWalk
import Derived.Lib.Join
import Derived.Deep.Strs
import Derived.Test.YtidjebepgpbcnaaGreatDoorProg
import Derived.Test.YtidjebepgpbcnaaGreatDoorUb
import Derived.Test.YtidjebepgpbcnaaGreatDoorUc
import Derived.Test.YtidjebepgpbcnaaGreatDoorUe
import Derived.Test.YtidjebepgpbcnaaGreatDoorUg

namespace Go.Proofs.YtidjebepgpbcnaaGreatDoor
open Go.RowKit

set_option maxRecDepth 20000 in
set_option maxHeartbeats 6400000 in
theorem l7Said_a (x : CmdD) (p q : Option Addr) (c d : Nat) (w : World) (hk : x.kind = 14) :
    Calls Tryz.prog 46 #[cmdv x (.slice p x.sset.length c) (.slice q x.filter.scopes.length d)] w fun e w' => e = .returned (.agg #[sv x.tag, .int .i64 x.kind, sv x.box, sv x.dst, .bool false, .slice none 0 0, .int .i64 0, .int .i64 0, sv [], .bool false, .slice none 0 0]) ∧ Below w.heap.size w w' := by
  have hbx : boxedB x.kind = true := by unfold boxedB; simp only [Bool.or_eq_true, beq_iff_eq]; omega
  have hst : setsB x.kind = false := by unfold setsB; simp only [Bool.or_eq_false_iff, beq_eq_false_iff_ne]; omega
  have t14 : (x.kind == 14) = true := by rw [beq_iff_eq]; omega
  have t8 : (x.kind == 8) = false := by rw [beq_eq_false_iff_ne]; omega
  have t11 : (x.kind == 11) = false := by rw [beq_eq_false_iff_ne]; omega
  have t6 : (x.kind == 6) = false := by rw [beq_eq_false_iff_ne]; omega
  have cb := fun W => l7Boxed_any x.kind W
  have cs := fun W => l7Sets_any x.kind W
  rw [hbx] at cb
  rw [hst] at cs
  have CB := Lib.hid cb
  have CS := Lib.hid cs
  clear cb cs hbx hst hk
  go_enter Tryz.func46, Tryz.ntmps46
  go_wp2_with fail
  refine (CB.out _).mono ?_
  rintro e w1 ⟨rfl, rfl⟩
  go_wp2_with fail
  refine (CS.out _).mono ?_
  rintro e w1 ⟨rfl, rfl⟩
  go_wp2
  go_returns
  exact ⟨rfl, (((Below.refl _ _).alloc (Nat.le_refl _) _).alloc (by simp) _).alloc (by simp; omega) _⟩

set_option maxRecDepth 20000 in
set_option maxHeartbeats 6400000 in
theorem l7Said_b (x : CmdD) (p q : Option Addr) (c d : Nat) (w : World) (hk : x.kind = 8) :
    Calls Tryz.prog 46 #[cmdv x (.slice p x.sset.length c) (.slice q x.filter.scopes.length d)] w fun e w' => e = .returned (.agg #[sv x.tag, .int .i64 x.kind, sv [], sv [], .bool x.uid, .slice p x.sset.length c, .int .i64 x.op, .int .i64 x.flags, sv [], .bool false, .slice none 0 0]) ∧ Below w.heap.size w w' := by
  have hbx : boxedB x.kind = false := by unfold boxedB; simp only [Bool.or_eq_false_iff, beq_eq_false_iff_ne]; omega
  have hst : setsB x.kind = true := by unfold setsB; simp only [Bool.or_eq_true, beq_iff_eq]; omega
  have t14 : (x.kind == 14) = false := by rw [beq_eq_false_iff_ne]; omega
  have t8 : (x.kind == 8) = true := by rw [beq_iff_eq]; omega
  have t11 : (x.kind == 11) = false := by rw [beq_eq_false_iff_ne]; omega
  have t6 : (x.kind == 6) = false := by rw [beq_eq_false_iff_ne]; omega
  have cb := fun W => l7Boxed_any x.kind W
  have cs := fun W => l7Sets_any x.kind W
  rw [hbx] at cb
  rw [hst] at cs
  have CB := Lib.hid cb
  have CS := Lib.hid cs
  clear cb cs hbx hst hk
  go_enter Tryz.func46, Tryz.ntmps46
  go_wp2_with fail
  refine (CB.out _).mono ?_
  rintro e w1 ⟨rfl, rfl⟩
  go_wp2_with fail
  refine (CS.out _).mono ?_
  rintro e w1 ⟨rfl, rfl⟩
  go_wp2
  go_returns
  exact ⟨rfl, (((Below.refl _ _).alloc (Nat.le_refl _) _).alloc (by simp) _).alloc (by simp; omega) _⟩

set_option maxRecDepth 20000 in
set_option maxHeartbeats 6400000 in
theorem l7Said_c (x : CmdD) (p q : Option Addr) (c d : Nat) (w : World) (hk : x.kind = 11) :
    Calls Tryz.prog 46 #[cmdv x (.slice p x.sset.length c) (.slice q x.filter.scopes.length d)] w fun e w' => e = .returned (.agg #[sv x.tag, .int .i64 x.kind, sv x.box, sv [], .bool false, .slice none 0 0, .int .i64 0, .int .i64 x.flags, sv x.text, .bool false, .slice none 0 0]) ∧ Below w.heap.size w w' := by
  have hbx : boxedB x.kind = true := by unfold boxedB; simp only [Bool.or_eq_true, beq_iff_eq]; omega
  have hst : setsB x.kind = false := by unfold setsB; simp only [Bool.or_eq_false_iff, beq_eq_false_iff_ne]; omega
  have t14 : (x.kind == 14) = false := by rw [beq_eq_false_iff_ne]; omega
  have t8 : (x.kind == 8) = false := by rw [beq_eq_false_iff_ne]; omega
  have t11 : (x.kind == 11) = true := by rw [beq_iff_eq]; omega
  have t6 : (x.kind == 6) = false := by rw [beq_eq_false_iff_ne]; omega
  have cb := fun W => l7Boxed_any x.kind W
  have cs := fun W => l7Sets_any x.kind W
  rw [hbx] at cb
  rw [hst] at cs
  have CB := Lib.hid cb
  have CS := Lib.hid cs
  clear cb cs hbx hst hk
  go_enter Tryz.func46, Tryz.ntmps46
  go_wp2_with fail
  refine (CB.out _).mono ?_
  rintro e w1 ⟨rfl, rfl⟩
  go_wp2_with fail
  refine (CS.out _).mono ?_
  rintro e w1 ⟨rfl, rfl⟩
  go_wp2
  go_returns
  exact ⟨rfl, (((Below.refl _ _).alloc (Nat.le_refl _) _).alloc (by simp) _).alloc (by simp; omega) _⟩

set_option maxRecDepth 20000 in
set_option maxHeartbeats 6400000 in
theorem l7Said_d (x : CmdD) (p q : Option Addr) (c d : Nat) (w : World) (hk : x.kind = 6) :
    Calls Tryz.prog 46 #[cmdv x (.slice p x.sset.length c) (.slice q x.filter.scopes.length d)] w fun e w' => e = .returned (.agg #[sv x.tag, .int .i64 x.kind, sv [], sv [], .bool false, .slice none 0 0, .int .i64 0, .int .i64 0, sv [], .bool x.filter.on, .slice q x.filter.scopes.length d]) ∧ Below w.heap.size w w' := by
  have hbx : boxedB x.kind = false := by unfold boxedB; simp only [Bool.or_eq_false_iff, beq_eq_false_iff_ne]; omega
  have hst : setsB x.kind = false := by unfold setsB; simp only [Bool.or_eq_false_iff, beq_eq_false_iff_ne]; omega
  have t14 : (x.kind == 14) = false := by rw [beq_eq_false_iff_ne]; omega
  have t8 : (x.kind == 8) = false := by rw [beq_eq_false_iff_ne]; omega
  have t11 : (x.kind == 11) = false := by rw [beq_eq_false_iff_ne]; omega
  have t6 : (x.kind == 6) = true := by rw [beq_iff_eq]; omega
  have cb := fun W => l7Boxed_any x.kind W
  have cs := fun W => l7Sets_any x.kind W
  rw [hbx] at cb
  rw [hst] at cs
  have CB := Lib.hid cb
  have CS := Lib.hid cs
  clear cb cs hbx hst hk
  go_enter Tryz.func46, Tryz.ntmps46
  go_wp2_with fail
  refine (CB.out _).mono ?_
  rintro e w1 ⟨rfl, rfl⟩
  go_wp2_with fail
  refine (CS.out _).mono ?_
  rintro e w1 ⟨rfl, rfl⟩
  go_wp2
  go_returns
  exact ⟨rfl, (((Below.refl _ _).alloc (Nat.le_refl _) _).alloc (by simp) _).alloc (by simp; omega) _⟩

set_option maxRecDepth 20000 in
set_option maxHeartbeats 6400000 in
theorem l7Said_e (x : CmdD) (p q : Option Addr) (c d : Nat) (w : World) (hk : x.kind = 10) :
    Calls Tryz.prog 46 #[cmdv x (.slice p x.sset.length c) (.slice q x.filter.scopes.length d)] w fun e w' => e = .returned (.agg #[sv x.tag, .int .i64 x.kind, sv x.box, sv [], .bool x.uid, .slice p x.sset.length c, .int .i64 0, .int .i64 0, sv [], .bool false, .slice none 0 0]) ∧ Below w.heap.size w w' := by
  have hbx : boxedB x.kind = true := by unfold boxedB; simp only [Bool.or_eq_true, beq_iff_eq]; omega
  have hst : setsB x.kind = true := by unfold setsB; simp only [Bool.or_eq_true, beq_iff_eq]; omega
  have t14 : (x.kind == 14) = false := by rw [beq_eq_false_iff_ne]; omega
  have t8 : (x.kind == 8) = false := by rw [beq_eq_false_iff_ne]; omega
  have t11 : (x.kind == 11) = false := by rw [beq_eq_false_iff_ne]; omega
  have t6 : (x.kind == 6) = false := by rw [beq_eq_false_iff_ne]; omega
  have cb := fun W => l7Boxed_any x.kind W
  have cs := fun W => l7Sets_any x.kind W
  rw [hbx] at cb
  rw [hst] at cs
  have CB := Lib.hid cb
  have CS := Lib.hid cs
  clear cb cs hbx hst hk
  go_enter Tryz.func46, Tryz.ntmps46
  go_wp2_with fail
  refine (CB.out _).mono ?_
  rintro e w1 ⟨rfl, rfl⟩
  go_wp2_with fail
  refine (CS.out _).mono ?_
  rintro e w1 ⟨rfl, rfl⟩
  go_wp2
  go_returns
  exact ⟨rfl, (((Below.refl _ _).alloc (Nat.le_refl _) _).alloc (by simp) _).alloc (by simp; omega) _⟩

set_option maxRecDepth 20000 in
set_option maxHeartbeats 6400000 in
theorem l7Said_f (x : CmdD) (p q : Option Addr) (c d : Nat) (w : World) (hk : x.kind = 7) :
    Calls Tryz.prog 46 #[cmdv x (.slice p x.sset.length c) (.slice q x.filter.scopes.length d)] w fun e w' => e = .returned (.agg #[sv x.tag, .int .i64 x.kind, sv [], sv [], .bool x.uid, .slice p x.sset.length c, .int .i64 0, .int .i64 0, sv [], .bool false, .slice none 0 0]) ∧ Below w.heap.size w w' := by
  have hbx : boxedB x.kind = false := by unfold boxedB; simp only [Bool.or_eq_false_iff, beq_eq_false_iff_ne]; omega
  have hst : setsB x.kind = true := by unfold setsB; simp only [Bool.or_eq_true, beq_iff_eq]; omega
  have t14 : (x.kind == 14) = false := by rw [beq_eq_false_iff_ne]; omega
  have t8 : (x.kind == 8) = false := by rw [beq_eq_false_iff_ne]; omega
  have t11 : (x.kind == 11) = false := by rw [beq_eq_false_iff_ne]; omega
  have t6 : (x.kind == 6) = false := by rw [beq_eq_false_iff_ne]; omega
  have cb := fun W => l7Boxed_any x.kind W
  have cs := fun W => l7Sets_any x.kind W
  rw [hbx] at cb
  rw [hst] at cs
  have CB := Lib.hid cb
  have CS := Lib.hid cs
  clear cb cs hbx hst hk
  go_enter Tryz.func46, Tryz.ntmps46
  go_wp2_with fail
  refine (CB.out _).mono ?_
  rintro e w1 ⟨rfl, rfl⟩
  go_wp2_with fail
  refine (CS.out _).mono ?_
  rintro e w1 ⟨rfl, rfl⟩
  go_wp2
  go_returns
  exact ⟨rfl, (((Below.refl _ _).alloc (Nat.le_refl _) _).alloc (by simp) _).alloc (by simp; omega) _⟩

set_option maxRecDepth 20000 in
set_option maxHeartbeats 6400000 in
theorem l7Said_g (x : CmdD) (p q : Option Addr) (c d : Nat) (w : World) (hk : x.kind = 2 ∨ x.kind = 12 ∨ x.kind = 13) :
    Calls Tryz.prog 46 #[cmdv x (.slice p x.sset.length c) (.slice q x.filter.scopes.length d)] w fun e w' => e = .returned (.agg #[sv x.tag, .int .i64 x.kind, sv x.box, sv [], .bool false, .slice none 0 0, .int .i64 0, .int .i64 0, sv [], .bool false, .slice none 0 0]) ∧ Below w.heap.size w w' := by
  have hbx : boxedB x.kind = true := by unfold boxedB; simp only [Bool.or_eq_true, beq_iff_eq]; omega
  have hst : setsB x.kind = false := by unfold setsB; simp only [Bool.or_eq_false_iff, beq_eq_false_iff_ne]; omega
  have t14 : (x.kind == 14) = false := by rw [beq_eq_false_iff_ne]; omega
  have t8 : (x.kind == 8) = false := by rw [beq_eq_false_iff_ne]; omega
  have t11 : (x.kind == 11) = false := by rw [beq_eq_false_iff_ne]; omega
  have t6 : (x.kind == 6) = false := by rw [beq_eq_false_iff_ne]; omega
  have cb := fun W => l7Boxed_any x.kind W
  have cs := fun W => l7Sets_any x.kind W
  rw [hbx] at cb
  rw [hst] at cs
  have CB := Lib.hid cb
  have CS := Lib.hid cs
  clear cb cs hbx hst hk
  go_enter Tryz.func46, Tryz.ntmps46
  go_wp2_with fail
  refine (CB.out _).mono ?_
  rintro e w1 ⟨rfl, rfl⟩
  go_wp2_with fail
  refine (CS.out _).mono ?_
  rintro e w1 ⟨rfl, rfl⟩
  go_wp2
  go_returns
  exact ⟨rfl, (((Below.refl _ _).alloc (Nat.le_refl _) _).alloc (by simp) _).alloc (by simp; omega) _⟩

set_option maxRecDepth 20000 in
set_option maxHeartbeats 6400000 in
theorem l7Said_h (x : CmdD) (p q : Option Addr) (c d : Nat) (w : World) (hk : ¬ (x.kind = 14 ∨ x.kind = 8 ∨ x.kind = 11 ∨ x.kind = 6 ∨ x.kind = 10 ∨ x.kind = 7 ∨ x.kind = 2 ∨ x.kind = 12 ∨ x.kind = 13)) :
    Calls Tryz.prog 46 #[cmdv x (.slice p x.sset.length c) (.slice q x.filter.scopes.length d)] w fun e w' => e = .returned (.agg #[sv x.tag, .int .i64 x.kind, sv [], sv [], .bool false, .slice none 0 0, .int .i64 0, .int .i64 0, sv [], .bool false, .slice none 0 0]) ∧ Below w.heap.size w w' := by
  have hbx : boxedB x.kind = false := by unfold boxedB; simp only [Bool.or_eq_false_iff, beq_eq_false_iff_ne]; omega
  have hst : setsB x.kind = false := by unfold setsB; simp only [Bool.or_eq_false_iff, beq_eq_false_iff_ne]; omega
  have t14 : (x.kind == 14) = false := by rw [beq_eq_false_iff_ne]; omega
  have t8 : (x.kind == 8) = false := by rw [beq_eq_false_iff_ne]; omega
  have t11 : (x.kind == 11) = false := by rw [beq_eq_false_iff_ne]; omega
  have t6 : (x.kind == 6) = false := by rw [beq_eq_false_iff_ne]; omega
  have cb := fun W => l7Boxed_any x.kind W
  have cs := fun W => l7Sets_any x.kind W
  rw [hbx] at cb
  rw [hst] at cs
  have CB := Lib.hid cb
  have CS := Lib.hid cs
  clear cb cs hbx hst hk
  go_enter Tryz.func46, Tryz.ntmps46
  go_wp2_with fail
  refine (CB.out _).mono ?_
  rintro e w1 ⟨rfl, rfl⟩
  go_wp2_with fail
  refine (CS.out _).mono ?_
  rintro e w1 ⟨rfl, rfl⟩
  go_wp2
  go_returns
  exact ⟨rfl, (((Below.refl _ _).alloc (Nat.le_refl _) _).alloc (by simp) _).alloc (by simp; omega) _⟩

theorem l7Said_any (x : CmdD) (p q : Option Addr) (c d : Nat) (w : World) :
    Calls Tryz.prog 46 #[cmdv x (.slice p x.sset.length c) (.slice q x.filter.scopes.length d)] w fun e w' => e = .returned (cmdv (saidC x) (said5 x (.slice p x.sset.length c)) (said10 x (.slice q x.filter.scopes.length d))) ∧ Below w.heap.size w w' := by
  by_cases ha : x.kind = 14
  · skip
    have e1 : boxedB x.kind = true := by unfold boxedB; simp only [Bool.or_eq_true, beq_iff_eq]; omega
    have e2 : setsB x.kind = false := by unfold setsB; simp only [Bool.or_eq_false_iff, beq_eq_false_iff_ne]; omega
    have p14 : (x.kind = 14) = True := eq_true (by omega)
    have p8 : (x.kind = 8) = False := eq_false (by omega)
    have p11 : (x.kind = 11) = False := eq_false (by omega)
    have p6 : (x.kind = 6) = False := eq_false (by omega)
    have ev : cmdv (saidC x) (said5 x (.slice p x.sset.length c)) (said10 x (.slice q x.filter.scopes.length d)) = .agg #[sv x.tag, .int .i64 x.kind, sv x.box, sv x.dst, .bool false, .slice none 0 0, .int .i64 0, .int .i64 0, sv [], .bool false, .slice none 0 0] := by
      simp only [cmdv, saidC, said5, said10, e1, e2, p14, p8, p11, p6, if_true, if_false, or_self, Bool.false_eq_true]
    rw [ev]
    exact l7Said_a x p q c d w ha
  by_cases hb : x.kind = 8
  · skip
    have e1 : boxedB x.kind = false := by unfold boxedB; simp only [Bool.or_eq_false_iff, beq_eq_false_iff_ne]; omega
    have e2 : setsB x.kind = true := by unfold setsB; simp only [Bool.or_eq_true, beq_iff_eq]; omega
    have p14 : (x.kind = 14) = False := eq_false (by omega)
    have p8 : (x.kind = 8) = True := eq_true (by omega)
    have p11 : (x.kind = 11) = False := eq_false (by omega)
    have p6 : (x.kind = 6) = False := eq_false (by omega)
    have ev : cmdv (saidC x) (said5 x (.slice p x.sset.length c)) (said10 x (.slice q x.filter.scopes.length d)) = .agg #[sv x.tag, .int .i64 x.kind, sv [], sv [], .bool x.uid, .slice p x.sset.length c, .int .i64 x.op, .int .i64 x.flags, sv [], .bool false, .slice none 0 0] := by
      simp only [cmdv, saidC, said5, said10, e1, e2, p14, p8, p11, p6, if_true, if_false, true_or, Bool.false_eq_true]
    rw [ev]
    exact l7Said_b x p q c d w hb
  by_cases hc : x.kind = 11
  · skip
    have e1 : boxedB x.kind = true := by unfold boxedB; simp only [Bool.or_eq_true, beq_iff_eq]; omega
    have e2 : setsB x.kind = false := by unfold setsB; simp only [Bool.or_eq_false_iff, beq_eq_false_iff_ne]; omega
    have p14 : (x.kind = 14) = False := eq_false (by omega)
    have p8 : (x.kind = 8) = False := eq_false (by omega)
    have p11 : (x.kind = 11) = True := eq_true (by omega)
    have p6 : (x.kind = 6) = False := eq_false (by omega)
    have ev : cmdv (saidC x) (said5 x (.slice p x.sset.length c)) (said10 x (.slice q x.filter.scopes.length d)) = .agg #[sv x.tag, .int .i64 x.kind, sv x.box, sv [], .bool false, .slice none 0 0, .int .i64 0, .int .i64 x.flags, sv x.text, .bool false, .slice none 0 0] := by
      simp only [cmdv, saidC, said5, said10, e1, e2, p14, p8, p11, p6, if_true, if_false, or_true, Bool.false_eq_true]
    rw [ev]
    exact l7Said_c x p q c d w hc
  by_cases hd : x.kind = 6
  · skip
    have e1 : boxedB x.kind = false := by unfold boxedB; simp only [Bool.or_eq_false_iff, beq_eq_false_iff_ne]; omega
    have e2 : setsB x.kind = false := by unfold setsB; simp only [Bool.or_eq_false_iff, beq_eq_false_iff_ne]; omega
    have p14 : (x.kind = 14) = False := eq_false (by omega)
    have p8 : (x.kind = 8) = False := eq_false (by omega)
    have p11 : (x.kind = 11) = False := eq_false (by omega)
    have p6 : (x.kind = 6) = True := eq_true (by omega)
    have ev : cmdv (saidC x) (said5 x (.slice p x.sset.length c)) (said10 x (.slice q x.filter.scopes.length d)) = .agg #[sv x.tag, .int .i64 x.kind, sv [], sv [], .bool false, .slice none 0 0, .int .i64 0, .int .i64 0, sv [], .bool x.filter.on, .slice q x.filter.scopes.length d] := by
      simp only [cmdv, saidC, said5, said10, e1, e2, p14, p8, p11, p6, if_true, if_false, or_self, Bool.false_eq_true]
    rw [ev]
    exact l7Said_d x p q c d w hd
  by_cases he : x.kind = 10
  · skip
    have e1 : boxedB x.kind = true := by unfold boxedB; simp only [Bool.or_eq_true, beq_iff_eq]; omega
    have e2 : setsB x.kind = true := by unfold setsB; simp only [Bool.or_eq_true, beq_iff_eq]; omega
    have p14 : (x.kind = 14) = False := eq_false (by omega)
    have p8 : (x.kind = 8) = False := eq_false (by omega)
    have p11 : (x.kind = 11) = False := eq_false (by omega)
    have p6 : (x.kind = 6) = False := eq_false (by omega)
    have ev : cmdv (saidC x) (said5 x (.slice p x.sset.length c)) (said10 x (.slice q x.filter.scopes.length d)) = .agg #[sv x.tag, .int .i64 x.kind, sv x.box, sv [], .bool x.uid, .slice p x.sset.length c, .int .i64 0, .int .i64 0, sv [], .bool false, .slice none 0 0] := by
      simp only [cmdv, saidC, said5, said10, e1, e2, p14, p8, p11, p6, if_true, if_false, or_self]
    rw [ev]
    exact l7Said_e x p q c d w he
  by_cases hf : x.kind = 7
  · skip
    have e1 : boxedB x.kind = false := by unfold boxedB; simp only [Bool.or_eq_false_iff, beq_eq_false_iff_ne]; omega
    have e2 : setsB x.kind = true := by unfold setsB; simp only [Bool.or_eq_true, beq_iff_eq]; omega
    have p14 : (x.kind = 14) = False := eq_false (by omega)
    have p8 : (x.kind = 8) = False := eq_false (by omega)
    have p11 : (x.kind = 11) = False := eq_false (by omega)
    have p6 : (x.kind = 6) = False := eq_false (by omega)
    have ev : cmdv (saidC x) (said5 x (.slice p x.sset.length c)) (said10 x (.slice q x.filter.scopes.length d)) = .agg #[sv x.tag, .int .i64 x.kind, sv [], sv [], .bool x.uid, .slice p x.sset.length c, .int .i64 0, .int .i64 0, sv [], .bool false, .slice none 0 0] := by
      simp only [cmdv, saidC, said5, said10, e1, e2, p14, p8, p11, p6, if_true, if_false, or_self, Bool.false_eq_true]
    rw [ev]
    exact l7Said_f x p q c d w hf
  by_cases hg : x.kind = 2 ∨ x.kind = 12 ∨ x.kind = 13
  · skip
    have e1 : boxedB x.kind = true := by unfold boxedB; simp only [Bool.or_eq_true, beq_iff_eq]; omega
    have e2 : setsB x.kind = false := by unfold setsB; simp only [Bool.or_eq_false_iff, beq_eq_false_iff_ne]; omega
    have p14 : (x.kind = 14) = False := eq_false (by omega)
    have p8 : (x.kind = 8) = False := eq_false (by omega)
    have p11 : (x.kind = 11) = False := eq_false (by omega)
    have p6 : (x.kind = 6) = False := eq_false (by omega)
    have ev : cmdv (saidC x) (said5 x (.slice p x.sset.length c)) (said10 x (.slice q x.filter.scopes.length d)) = .agg #[sv x.tag, .int .i64 x.kind, sv x.box, sv [], .bool false, .slice none 0 0, .int .i64 0, .int .i64 0, sv [], .bool false, .slice none 0 0] := by
      simp only [cmdv, saidC, said5, said10, e1, e2, p14, p8, p11, p6, if_true, if_false, or_self, Bool.false_eq_true]
    rw [ev]
    exact l7Said_g x p q c d w hg
  have hh : ¬ (x.kind = 14 ∨ x.kind = 8 ∨ x.kind = 11 ∨ x.kind = 6 ∨ x.kind = 10 ∨ x.kind = 7 ∨ x.kind = 2 ∨ x.kind = 12 ∨ x.kind = 13) := by omega
  have e1 : boxedB x.kind = false := by unfold boxedB; simp only [Bool.or_eq_false_iff, beq_eq_false_iff_ne]; omega
  have e2 : setsB x.kind = false := by unfold setsB; simp only [Bool.or_eq_false_iff, beq_eq_false_iff_ne]; omega
  have p14 : (x.kind = 14) = False := eq_false (by omega)
  have p8 : (x.kind = 8) = False := eq_false (by omega)
  have p11 : (x.kind = 11) = False := eq_false (by omega)
  have p6 : (x.kind = 6) = False := eq_false (by omega)
  have ev : cmdv (saidC x) (said5 x (.slice p x.sset.length c)) (said10 x (.slice q x.filter.scopes.length d)) = .agg #[sv x.tag, .int .i64 x.kind, sv [], sv [], .bool false, .slice none 0 0, .int .i64 0, .int .i64 0, sv [], .bool false, .slice none 0 0] := by
    simp only [cmdv, saidC, said5, said10, e1, e2, p14, p8, p11, p6, if_false, or_self, Bool.false_eq_true]
  rw [ev]
  exact l7Said_h x p q c d w hh

end Go.Proofs.YtidjebepgpbcnaaGreatDoor
