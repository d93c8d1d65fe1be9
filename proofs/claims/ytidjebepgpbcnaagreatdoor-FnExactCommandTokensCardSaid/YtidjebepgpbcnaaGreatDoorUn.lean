/-
  Un: CmdO (what the claim needs of them).
-/
import Derived.Handy
import Derived.Maps.RangeWalk
import Derived.Deep.LoopGhost
import Derived.Test.YtidjebepgpbcnaaGreatDoorRows
import Derived.WalkKit
import Derived.WalkSpells
import Derived.WalkLawsBesides
import Derived.Laws.IdiomStrings
import Derived.Lib.Hide
import Derived.Deep.AppendLies
import Derived.OrdersHeld
import Derived.Lib.ItoaNum
import Derived.Lib.ItoaMem
import Derived.Lib.AppendStr
import Derived.Lib.ItoaLen
import Derived.Lib.Strings
import Derived.Lib.Bytealg
import Derived.Lib.OthersKept
import Derived.Laws.RangeAny
import Derived.Laws.BitsAllLaws
import Derived.Laws.BitsLemmas
import Derived.IntWalk
import Derived.Lib.Join
import Derived.Deep.Strs
import Derived.Laws.CopyOwn
import Derived.Test.YtidjebepgpbcnaaGreatDoorProg
import Derived.Lib.LaidTab
import Derived.OpenShut
import Derived.WalkSmall
import Derived.ChangeKeysEq
import Derived.Test.YtidjebepgpbcnaaGreatDoorUb
import Derived.Test.YtidjebepgpbcnaaGreatDoorUc
import Derived.Test.YtidjebepgpbcnaaGreatDoorUd
import Derived.Test.YtidjebepgpbcnaaGreatDoorUe
import Derived.Test.YtidjebepgpbcnaaGreatDoorUj
import Derived.Test.YtidjebepgpbcnaaGreatDoorUk
import Derived.Test.YtidjebepgpbcnaaGreatDoorUl
import Derived.Test.YtidjebepgpbcnaaGreatDoorUm

namespace Go.Proofs.YtidjebepgpbcnaaGreatDoor
open Go.RowKit

theorem ownFields_yes (x : CmdD) (p q : Option Addr) (c d : Nat) (w : World) (hk : 1 ≤ x.kind ∧ x.kind ≤ 15) (ha : LfRd w (spnsLf x.sset) (.slice p x.sset.length c)) (ha2 : LfRd w (scpsLf x.filter.scopes) (.slice q x.filter.scopes.length d)) (hs : szLs x.lf ≤ 1048576) (hbd : LsBnd x.lf) :
    Calls Tryz.prog 60 #[cmdv x (.slice p x.sset.length c) (.slice q x.filter.scopes.length d)] w fun e w' => e = .returned (.tuple #[cmdv (saidC x) (said5 x (.slice p x.sset.length c)) (said10 x (.slice q x.filter.scopes.length d)), .bool (ownOk x)]) ∧ Below w.heap.size w w' := by
  by_cases h1 : x.kind = 1
  · clear hk
    have e1 : boxedB x.kind = false := by rw [h1]; rfl
    have e2 : setsB x.kind = false := by rw [h1]; rfl
    have p14 : (x.kind = 14) = False := eq_false (by omega)
    have p8 : (x.kind = 8) = False := eq_false (by omega)
    have p11 : (x.kind = 11) = False := eq_false (by omega)
    have p6 : (x.kind = 6) = False := eq_false (by omega)
    have p7 : (x.kind = 7) = False := eq_false (by omega)
    have p10 : (x.kind = 10) = False := eq_false (by omega)
    have ev : cmdv (saidC x) (said5 x (.slice p x.sset.length c)) (said10 x (.slice q x.filter.scopes.length d)) = .agg #[sv x.tag, .int .i64 x.kind, sv [], sv [], .bool false, .slice none 0 0, .int .i64 0, .int .i64 0, sv [], .bool false, .slice none 0 0] := by
      simp [cmdv, saidC, said5, said10, e1, e2, p14, p8, p11, p6]
    have eo : ownOk x = (true) := by
      simp [ownOk, p14, p11, p7, p10, p8, p6, e1]
    rw [ev, eo]
    exact own_1 x p q c d w h1 ha ha2 hs hbd
  by_cases h3 : x.kind = 3
  · clear hk
    have e1 : boxedB x.kind = false := by rw [h3]; rfl
    have e2 : setsB x.kind = false := by rw [h3]; rfl
    have p14 : (x.kind = 14) = False := eq_false (by omega)
    have p8 : (x.kind = 8) = False := eq_false (by omega)
    have p11 : (x.kind = 11) = False := eq_false (by omega)
    have p6 : (x.kind = 6) = False := eq_false (by omega)
    have p7 : (x.kind = 7) = False := eq_false (by omega)
    have p10 : (x.kind = 10) = False := eq_false (by omega)
    have ev : cmdv (saidC x) (said5 x (.slice p x.sset.length c)) (said10 x (.slice q x.filter.scopes.length d)) = .agg #[sv x.tag, .int .i64 x.kind, sv [], sv [], .bool false, .slice none 0 0, .int .i64 0, .int .i64 0, sv [], .bool false, .slice none 0 0] := by
      simp [cmdv, saidC, said5, said10, e1, e2, p14, p8, p11, p6]
    have eo : ownOk x = (true) := by
      simp [ownOk, p14, p11, p7, p10, p8, p6, e1]
    rw [ev, eo]
    exact own_3 x p q c d w h3 ha ha2 hs hbd
  by_cases h4 : x.kind = 4
  · clear hk
    have e1 : boxedB x.kind = false := by rw [h4]; rfl
    have e2 : setsB x.kind = false := by rw [h4]; rfl
    have p14 : (x.kind = 14) = False := eq_false (by omega)
    have p8 : (x.kind = 8) = False := eq_false (by omega)
    have p11 : (x.kind = 11) = False := eq_false (by omega)
    have p6 : (x.kind = 6) = False := eq_false (by omega)
    have p7 : (x.kind = 7) = False := eq_false (by omega)
    have p10 : (x.kind = 10) = False := eq_false (by omega)
    have ev : cmdv (saidC x) (said5 x (.slice p x.sset.length c)) (said10 x (.slice q x.filter.scopes.length d)) = .agg #[sv x.tag, .int .i64 x.kind, sv [], sv [], .bool false, .slice none 0 0, .int .i64 0, .int .i64 0, sv [], .bool false, .slice none 0 0] := by
      simp [cmdv, saidC, said5, said10, e1, e2, p14, p8, p11, p6]
    have eo : ownOk x = (true) := by
      simp [ownOk, p14, p11, p7, p10, p8, p6, e1]
    rw [ev, eo]
    exact own_4 x p q c d w h4 ha ha2 hs hbd
  by_cases h5 : x.kind = 5
  · clear hk
    have e1 : boxedB x.kind = false := by rw [h5]; rfl
    have e2 : setsB x.kind = false := by rw [h5]; rfl
    have p14 : (x.kind = 14) = False := eq_false (by omega)
    have p8 : (x.kind = 8) = False := eq_false (by omega)
    have p11 : (x.kind = 11) = False := eq_false (by omega)
    have p6 : (x.kind = 6) = False := eq_false (by omega)
    have p7 : (x.kind = 7) = False := eq_false (by omega)
    have p10 : (x.kind = 10) = False := eq_false (by omega)
    have ev : cmdv (saidC x) (said5 x (.slice p x.sset.length c)) (said10 x (.slice q x.filter.scopes.length d)) = .agg #[sv x.tag, .int .i64 x.kind, sv [], sv [], .bool false, .slice none 0 0, .int .i64 0, .int .i64 0, sv [], .bool false, .slice none 0 0] := by
      simp [cmdv, saidC, said5, said10, e1, e2, p14, p8, p11, p6]
    have eo : ownOk x = (true) := by
      simp [ownOk, p14, p11, p7, p10, p8, p6, e1]
    rw [ev, eo]
    exact own_5 x p q c d w h5 ha ha2 hs hbd
  by_cases h9 : x.kind = 9
  · clear hk
    have e1 : boxedB x.kind = false := by rw [h9]; rfl
    have e2 : setsB x.kind = false := by rw [h9]; rfl
    have p14 : (x.kind = 14) = False := eq_false (by omega)
    have p8 : (x.kind = 8) = False := eq_false (by omega)
    have p11 : (x.kind = 11) = False := eq_false (by omega)
    have p6 : (x.kind = 6) = False := eq_false (by omega)
    have p7 : (x.kind = 7) = False := eq_false (by omega)
    have p10 : (x.kind = 10) = False := eq_false (by omega)
    have ev : cmdv (saidC x) (said5 x (.slice p x.sset.length c)) (said10 x (.slice q x.filter.scopes.length d)) = .agg #[sv x.tag, .int .i64 x.kind, sv [], sv [], .bool false, .slice none 0 0, .int .i64 0, .int .i64 0, sv [], .bool false, .slice none 0 0] := by
      simp [cmdv, saidC, said5, said10, e1, e2, p14, p8, p11, p6]
    have eo : ownOk x = (true) := by
      simp [ownOk, p14, p11, p7, p10, p8, p6, e1]
    rw [ev, eo]
    exact own_9 x p q c d w h9 ha ha2 hs hbd
  by_cases h15 : x.kind = 15
  · clear hk
    have e1 : boxedB x.kind = false := by rw [h15]; rfl
    have e2 : setsB x.kind = false := by rw [h15]; rfl
    have p14 : (x.kind = 14) = False := eq_false (by omega)
    have p8 : (x.kind = 8) = False := eq_false (by omega)
    have p11 : (x.kind = 11) = False := eq_false (by omega)
    have p6 : (x.kind = 6) = False := eq_false (by omega)
    have p7 : (x.kind = 7) = False := eq_false (by omega)
    have p10 : (x.kind = 10) = False := eq_false (by omega)
    have ev : cmdv (saidC x) (said5 x (.slice p x.sset.length c)) (said10 x (.slice q x.filter.scopes.length d)) = .agg #[sv x.tag, .int .i64 x.kind, sv [], sv [], .bool false, .slice none 0 0, .int .i64 0, .int .i64 0, sv [], .bool false, .slice none 0 0] := by
      simp [cmdv, saidC, said5, said10, e1, e2, p14, p8, p11, p6]
    have eo : ownOk x = (true) := by
      simp [ownOk, p14, p11, p7, p10, p8, p6, e1]
    rw [ev, eo]
    exact own_15 x p q c d w h15 ha ha2 hs hbd
  by_cases h2 : x.kind = 2
  · clear hk
    have e1 : boxedB x.kind = true := by rw [h2]; rfl
    have e2 : setsB x.kind = false := by rw [h2]; rfl
    have p14 : (x.kind = 14) = False := eq_false (by omega)
    have p8 : (x.kind = 8) = False := eq_false (by omega)
    have p11 : (x.kind = 11) = False := eq_false (by omega)
    have p6 : (x.kind = 6) = False := eq_false (by omega)
    have p7 : (x.kind = 7) = False := eq_false (by omega)
    have p10 : (x.kind = 10) = False := eq_false (by omega)
    have ev : cmdv (saidC x) (said5 x (.slice p x.sset.length c)) (said10 x (.slice q x.filter.scopes.length d)) = .agg #[sv x.tag, .int .i64 x.kind, sv x.box, sv [], .bool false, .slice none 0 0, .int .i64 0, .int .i64 0, sv [], .bool false, .slice none 0 0] := by
      simp [cmdv, saidC, said5, said10, e1, e2, p14, p8, p11, p6]
    have eo : ownOk x = (nameB x.box) := by
      simp [ownOk, p14, p11, p7, p10, p8, p6, e1]
    rw [ev, eo]
    exact own_2 x p q c d w h2 ha ha2 hs hbd
  by_cases h12 : x.kind = 12
  · clear hk
    have e1 : boxedB x.kind = true := by rw [h12]; rfl
    have e2 : setsB x.kind = false := by rw [h12]; rfl
    have p14 : (x.kind = 14) = False := eq_false (by omega)
    have p8 : (x.kind = 8) = False := eq_false (by omega)
    have p11 : (x.kind = 11) = False := eq_false (by omega)
    have p6 : (x.kind = 6) = False := eq_false (by omega)
    have p7 : (x.kind = 7) = False := eq_false (by omega)
    have p10 : (x.kind = 10) = False := eq_false (by omega)
    have ev : cmdv (saidC x) (said5 x (.slice p x.sset.length c)) (said10 x (.slice q x.filter.scopes.length d)) = .agg #[sv x.tag, .int .i64 x.kind, sv x.box, sv [], .bool false, .slice none 0 0, .int .i64 0, .int .i64 0, sv [], .bool false, .slice none 0 0] := by
      simp [cmdv, saidC, said5, said10, e1, e2, p14, p8, p11, p6]
    have eo : ownOk x = (nameB x.box) := by
      simp [ownOk, p14, p11, p7, p10, p8, p6, e1]
    rw [ev, eo]
    exact own_12 x p q c d w h12 ha ha2 hs hbd
  by_cases h13 : x.kind = 13
  · clear hk
    have e1 : boxedB x.kind = true := by rw [h13]; rfl
    have e2 : setsB x.kind = false := by rw [h13]; rfl
    have p14 : (x.kind = 14) = False := eq_false (by omega)
    have p8 : (x.kind = 8) = False := eq_false (by omega)
    have p11 : (x.kind = 11) = False := eq_false (by omega)
    have p6 : (x.kind = 6) = False := eq_false (by omega)
    have p7 : (x.kind = 7) = False := eq_false (by omega)
    have p10 : (x.kind = 10) = False := eq_false (by omega)
    have ev : cmdv (saidC x) (said5 x (.slice p x.sset.length c)) (said10 x (.slice q x.filter.scopes.length d)) = .agg #[sv x.tag, .int .i64 x.kind, sv x.box, sv [], .bool false, .slice none 0 0, .int .i64 0, .int .i64 0, sv [], .bool false, .slice none 0 0] := by
      simp [cmdv, saidC, said5, said10, e1, e2, p14, p8, p11, p6]
    have eo : ownOk x = (nameB x.box) := by
      simp [ownOk, p14, p11, p7, p10, p8, p6, e1]
    rw [ev, eo]
    exact own_13 x p q c d w h13 ha ha2 hs hbd
  by_cases h14 : x.kind = 14
  · clear hk
    have e1 : boxedB x.kind = true := by rw [h14]; rfl
    have e2 : setsB x.kind = false := by rw [h14]; rfl
    have p14 : (x.kind = 14) = True := eq_true (by omega)
    have p8 : (x.kind = 8) = False := eq_false (by omega)
    have p11 : (x.kind = 11) = False := eq_false (by omega)
    have p6 : (x.kind = 6) = False := eq_false (by omega)
    have ev : cmdv (saidC x) (said5 x (.slice p x.sset.length c)) (said10 x (.slice q x.filter.scopes.length d)) = .agg #[sv x.tag, .int .i64 x.kind, sv x.box, sv x.dst, .bool false, .slice none 0 0, .int .i64 0, .int .i64 0, sv [], .bool false, .slice none 0 0] := by
      simp [cmdv, saidC, said5, said10, e1, e2, p14, p8, p11, p6]
    have eo : ownOk x = (nameB x.box && nameB x.dst) := by
      simp [ownOk, p14]
    rw [ev, eo]
    exact own_14 x p q c d w h14 ha ha2 hs hbd
  by_cases h11 : x.kind = 11
  · clear hk
    have e1 : boxedB x.kind = true := by rw [h11]; rfl
    have e2 : setsB x.kind = false := by rw [h11]; rfl
    have p14 : (x.kind = 14) = False := eq_false (by omega)
    have p8 : (x.kind = 8) = False := eq_false (by omega)
    have p11 : (x.kind = 11) = True := eq_true (by omega)
    have p6 : (x.kind = 6) = False := eq_false (by omega)
    have ev : cmdv (saidC x) (said5 x (.slice p x.sset.length c)) (said10 x (.slice q x.filter.scopes.length d)) = .agg #[sv x.tag, .int .i64 x.kind, sv x.box, sv [], .bool false, .slice none 0 0, .int .i64 0, .int .i64 x.flags, sv x.text, .bool false, .slice none 0 0] := by
      simp [cmdv, saidC, said5, said10, e1, e2, p14, p8, p11, p6]
    have eo : ownOk x = (nameB x.box && flB x.flags && decide ((x.text.length : Int) ≤ 40)) := by
      simp [ownOk, p14, p11]
    rw [ev, eo]
    exact own_11 x p q c d w h11 ha ha2 hs hbd
  by_cases h7 : x.kind = 7
  · clear hk
    have e1 : boxedB x.kind = false := by rw [h7]; rfl
    have e2 : setsB x.kind = true := by rw [h7]; rfl
    have p14 : (x.kind = 14) = False := eq_false (by omega)
    have p8 : (x.kind = 8) = False := eq_false (by omega)
    have p11 : (x.kind = 11) = False := eq_false (by omega)
    have p6 : (x.kind = 6) = False := eq_false (by omega)
    have p7 : (x.kind = 7) = True := eq_true (by omega)
    have ev : cmdv (saidC x) (said5 x (.slice p x.sset.length c)) (said10 x (.slice q x.filter.scopes.length d)) = .agg #[sv x.tag, .int .i64 x.kind, sv [], sv [], .bool x.uid, .slice p x.sset.length c, .int .i64 0, .int .i64 0, sv [], .bool false, .slice none 0 0] := by
      simp [cmdv, saidC, said5, said10, e1, e2, p14, p8, p11, p6]
    have eo : ownOk x = (setB x.sset) := by
      simp [ownOk, p14, p11, p7]
    rw [ev, eo]
    exact own_7 x p q c d w h7 ha ha2 hs hbd
  by_cases h10 : x.kind = 10
  · clear hk
    have e1 : boxedB x.kind = true := by rw [h10]; rfl
    have e2 : setsB x.kind = true := by rw [h10]; rfl
    have p14 : (x.kind = 14) = False := eq_false (by omega)
    have p8 : (x.kind = 8) = False := eq_false (by omega)
    have p11 : (x.kind = 11) = False := eq_false (by omega)
    have p6 : (x.kind = 6) = False := eq_false (by omega)
    have p7 : (x.kind = 7) = False := eq_false (by omega)
    have p10 : (x.kind = 10) = True := eq_true (by omega)
    have ev : cmdv (saidC x) (said5 x (.slice p x.sset.length c)) (said10 x (.slice q x.filter.scopes.length d)) = .agg #[sv x.tag, .int .i64 x.kind, sv x.box, sv [], .bool x.uid, .slice p x.sset.length c, .int .i64 0, .int .i64 0, sv [], .bool false, .slice none 0 0] := by
      simp [cmdv, saidC, said5, said10, e1, e2, p14, p8, p11, p6]
    have eo : ownOk x = (setB x.sset && nameB x.box) := by
      simp [ownOk, p14, p11, p7, p10]
    rw [ev, eo]
    exact own_10 x p q c d w h10 ha ha2 hs hbd
  by_cases h8 : x.kind = 8
  · clear hk
    have e1 : boxedB x.kind = false := by rw [h8]; rfl
    have e2 : setsB x.kind = true := by rw [h8]; rfl
    have p14 : (x.kind = 14) = False := eq_false (by omega)
    have p8 : (x.kind = 8) = True := eq_true (by omega)
    have p11 : (x.kind = 11) = False := eq_false (by omega)
    have p6 : (x.kind = 6) = False := eq_false (by omega)
    have p7 : (x.kind = 7) = False := eq_false (by omega)
    have p10 : (x.kind = 10) = False := eq_false (by omega)
    have ev : cmdv (saidC x) (said5 x (.slice p x.sset.length c)) (said10 x (.slice q x.filter.scopes.length d)) = .agg #[sv x.tag, .int .i64 x.kind, sv [], sv [], .bool x.uid, .slice p x.sset.length c, .int .i64 x.op, .int .i64 x.flags, sv [], .bool false, .slice none 0 0] := by
      simp [cmdv, saidC, said5, said10, e1, e2, p14, p8, p11, p6]
    have eo : ownOk x = (setB x.sset && opB x.op && flB x.flags) := by
      simp [ownOk, p14, p11, p7, p10, p8]
    rw [ev, eo]
    exact own_8 x p q c d w h8 ha ha2 hs hbd
  by_cases h6 : x.kind = 6
  · clear hk
    have e1 : boxedB x.kind = false := by rw [h6]; rfl
    have e2 : setsB x.kind = false := by rw [h6]; rfl
    have p14 : (x.kind = 14) = False := eq_false (by omega)
    have p8 : (x.kind = 8) = False := eq_false (by omega)
    have p11 : (x.kind = 11) = False := eq_false (by omega)
    have p6 : (x.kind = 6) = True := eq_true (by omega)
    have p7 : (x.kind = 7) = False := eq_false (by omega)
    have p10 : (x.kind = 10) = False := eq_false (by omega)
    have ev : cmdv (saidC x) (said5 x (.slice p x.sset.length c)) (said10 x (.slice q x.filter.scopes.length d)) = .agg #[sv x.tag, .int .i64 x.kind, sv [], sv [], .bool false, .slice none 0 0, .int .i64 0, .int .i64 0, sv [], .bool x.filter.on, .slice q x.filter.scopes.length d] := by
      simp [cmdv, saidC, said5, said10, e1, e2, p14, p8, p11, p6]
    have eo : ownOk x = (filterB x.filter) := by
      simp [ownOk, p14, p11, p7, p10, p8, p6]
    rw [ev, eo]
    exact own_6 x p q c d w h6 ha ha2 hs hbd
  exfalso
  omega

end Go.Proofs.YtidjebepgpbcnaaGreatDoor
