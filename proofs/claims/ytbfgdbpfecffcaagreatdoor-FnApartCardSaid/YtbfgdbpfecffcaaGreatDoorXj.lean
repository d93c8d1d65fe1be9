/-
  Xj: AppliA (what the claim needs of them).
-/
import Derived.Handy
import Derived.Maps.OwnIn
import Derived.Sort.KeysCollected
import Derived.RangeFuncNested
import Derived.RangeFuncLeaves
import Derived.RangeFuncWrites
import Derived.WalkKit
import Derived.OwnWalkIn
import Derived.TacticsInMore
import Derived.LoopNIn
import Derived.LoopIn
import Derived.Maps.OwnSet
import Derived.Maps.RangeWalk
import Derived.Sort.OwnSorted
import Derived.Sort.EveryDepth
import Derived.Deep.DeepCutAuto
import Derived.Lib.SliceRun
import Derived.Test.YtbfgdbpfecffcaaGreatDoorRows
import Derived.WalkSpells
import Derived.WalkLawsBesides
import Derived.Laws.IdiomStrings
import Derived.Lib.Hide
import Derived.Deep.AppendLies
import Derived.OrdersHeld
import Derived.Lib.ItoaNum
import Derived.Lib.ItoaMem
import Derived.Lib.AppendStr
import Derived.Lib.ItoaLen
import Derived.Lib.Strings
import Derived.Lib.Bytealg
import Derived.Lib.OthersKept
import Derived.Laws.RangeAny
import Derived.Laws.BitsAllLaws
import Derived.Laws.BitsLemmas
import Derived.IntWalk
import Derived.LaidEql
import Derived.Stop.Asserts
import Derived.RowKitTokens
import Derived.Lib.Join
import Derived.Deep.Strs
import Derived.Test.YtbfgdbpfecffcaaGreatDoorProg
import Derived.Laws.Tables
import Derived.Test.YtbfgdbpfecffcaaGreatDoorWb
import Derived.Test.YtbfgdbpfecffcaaGreatDoorWc
import Derived.Test.YtbfgdbpfecffcaaGreatDoorWd
import Derived.Test.YtbfgdbpfecffcaaGreatDoorWe
import Derived.Test.YtbfgdbpfecffcaaGreatDoorWf
import Derived.Test.YtbfgdbpfecffcaaGreatDoorWi
import Derived.Test.YtbfgdbpfecffcaaGreatDoorWm
import Derived.Test.YtbfgdbpfecffcaaGreatDoorWp
import Derived.Test.YtbfgdbpfecffcaaGreatDoorWr
import Derived.Test.YtbfgdbpfecffcaaGreatDoorWs
import Derived.Test.YtbfgdbpfecffcaaGreatDoorWu
import Derived.Test.YtbfgdbpfecffcaaGreatDoorWx
import Derived.Test.YtbfgdbpfecffcaaGreatDoorWy
import Derived.Test.YtbfgdbpfecffcaaGreatDoorWz
import Derived.Test.YtbfgdbpfecffcaaGreatDoorXa
import Derived.Test.YtbfgdbpfecffcaaGreatDoorXc
import Derived.Test.YtbfgdbpfecffcaaGreatDoorXd
import Derived.Test.YtbfgdbpfecffcaaGreatDoorXe
import Derived.Test.YtbfgdbpfecffcaaGreatDoorXf
import Derived.Test.YtbfgdbpfecffcaaGreatDoorXg

namespace Go.Proofs.YtbfgdbpfecffcaaGreatDoor
open Go.RowKit

theorem com_cells {W : World} {m : Nat} {x : ComD} (h : W.heap[m]? = some (.cells #[.int .i64 x.kind, .int .i64 x.validity, .int .i64 x.uid, .int .i64 x.flags, sv x.name, sv x.text] 26 (0, 0))) : W.cell? ⟨m, 0, none⟩ = some (.int .i64 x.kind) ∧ W.cell? ⟨m, 1, none⟩ = some (.int .i64 x.validity) ∧ W.cell? ⟨m, 2, none⟩ = some (.int .i64 x.uid) ∧ W.cell? ⟨m, 3, none⟩ = some (.int .i64 x.flags) ∧ W.cell? ⟨m, 4, none⟩ = some (sv x.name) ∧ W.cell? ⟨m, 5, none⟩ = some (sv x.text) :=
  ⟨(Lib.cell_of_heap h 0).trans rfl, (Lib.cell_of_heap h 1).trans rfl, (Lib.cell_of_heap h 2).trans rfl, (Lib.cell_of_heap h 3).trans rfl, (Lib.cell_of_heap h 4).trans rfl, (Lib.cell_of_heap h 5).trans rfl⟩
theorem applied_of_no {l : List BoxD} {x : ComD} (h : appB l x = false) : appliedL l x = l := applied_no h
theorem applied_of_yes {l : List BoxD} {x : ComD} (h : appB l x = true) : boxesB (appliedL l x) = true ∧ commitB x = true := by
  rw [applied_yes h]; exact ⟨done_right h, (app_parts h).2.1⟩

set_option maxRecDepth 20000 in
set_option maxHeartbeats 6400000 in
theorem FnApplied_any (v : Value) (code : List UInt8) (w : World) (hE : ErrG w) (hr : Rd1 bv w v code) :
    Calls Tryz.prog 3 #[v] w fun e w' => e = .returned (.bool true) ∧ Below w.heap.size w w' := by
  have HR := Lib.hid hr
  have HB := Lib.hid (big_any v code w hr)
  have HE := Lib.hid hE
  clear hr hE
  by_cases hbig : code.length ≤ 1048576
  case neg =>
    have hq : (1048576 : Int) < (code.length : Int) := by omega
    go_enter Tryz.func3, Tryz.ntmps3
    go_wp2_with fail
    refine (HB.out).mono ?_
    rintro e w' ⟨rfl, rfl⟩
    go_wp2
    go_ret
    exact ⟨rfl, Below.refl _ _⟩
  have hq : ¬ (1048576 : Int) < (code.length : Int) := by omega
  go_enter Tryz.func3, Tryz.ntmps3
  go_wp2_with fail
  refine (HB.out).mono ?_
  rintro e w' ⟨rfl, rfl⟩
  clear HB
  go_wp2_with fail
  refine (DrawApplied_any v code _ HR.out hbig).mono ?_
  rintro e w1 ⟨l, v1, fp, x, rfl, h5, hsm, hx, hin, _, b1⟩
  obtain ⟨p, c, rfl⟩ := LfIn.slice hin
  have HD := Lib.hid (And.intro h5 (And.intro hsm (And.intro hx (And.intro hin b1))))
  clear h5 hsm hx hin b1 HR
  go_upto_region 4 with fail
  refine wp_named9 ?_
  intro X hX
  have HX := Lib.hid (show X.heap[w1.heap.size]? = some (.cells #[.int .i64 x.kind, .int .i64 x.validity, .int .i64 x.uid, .int .i64 x.flags, sv x.name, sv x.text] 26 (0, 0)) ∧ LfIn X (boxsLf l) (.slice p l.length c) fp ∧ Below w.heap.size w X ∧ w1.heap.size < X.heap.size ∧ ErrG X by
    rw [hX]
    obtain ⟨_, _, _, hin, b1⟩ := HD.out
    have hb := (Below.refl w1.heap.size w1).alloc (Nat.le_refl _) (.cells #[.int .i64 x.kind, .int .i64 x.validity, .int .i64 x.uid, .int .i64 x.flags, sv x.name, sv x.text] 26)
    have hbw := b1.alloc b1.size (.cells #[.int .i64 x.kind, .int .i64 x.validity, .int .i64 x.uid, .int .i64 x.flags, sv x.name, sv x.text] 26)
    exact ⟨heap_alloc_new w1 _, hin.below hb, hbw, by simp, errG_keeps _ _ HE.out hbw⟩)
  clear hX
  generalize w1.heap.size = m at *
  have HF := Lib.hid (boxes_fine HD.out.1 HD.out.2.1)
  have HV := Lib.hid (fun W (g : Below X.heap.size X W) => (⟨com_cells ((g.block m HX.out.2.2.2.1).trans HX.out.1), LfIn.rd _ _ _ (HX.out.2.1.below g), errG_keeps _ _ HX.out.2.2.2.2 g⟩ : (W.cell? ⟨m, 0, none⟩ = some (.int .i64 x.kind) ∧ W.cell? ⟨m, 1, none⟩ = some (.int .i64 x.validity) ∧ W.cell? ⟨m, 2, none⟩ = some (.int .i64 x.uid) ∧ W.cell? ⟨m, 3, none⟩ = some (.int .i64 x.flags) ∧ W.cell? ⟨m, 4, none⟩ = some (sv x.name) ∧ W.cell? ⟨m, 5, none⟩ = some (sv x.text)) ∧ LfRd W (boxsLf l) (.slice p l.length c) ∧ ErrG W))
  have HC := Lib.hid (CapLe.of_in HX.out.2.1)
  have CI := Lib.hid (implApplied_c l (.slice p l.length c) x X HX.out.2.2.2.2 (LfIn.rd _ _ _ HX.out.2.1) HC.out HF.out.1 HF.out.2 HD.out.2.2.1.fine.1 HD.out.2.2.1.fine.2)
  have CS := Lib.hid (fun W (g : Below X.heap.size X W) => specApplied_c l (.slice p l.length c) x W trivial (HV.out W g).2.1 HC.out HF.out.1 HF.out.2 HD.out.2.2.1.fine.1 HD.out.2.2.1.fine.2)
  have CP := Lib.hid (fun W (g : Below X.heap.size X W) => implApplies_c l (.slice p l.length c) x W (HV.out W g).2.2 (HV.out W g).2.1 HC.out HF.out.1 HF.out.2 HD.out.2.2.1.fine.1 HD.out.2.2.1.fine.2)
  have CC := Lib.hid (fun W => implCommitOk_c (G := fun _ => True) x W trivial HD.out.2.2.1.fine.1 HD.out.2.2.1.fine.2)
  have CN := Lib.hid (fun (z : Value) W (g : Below X.heap.size X W) (hz : LfRd W (boxsLf l) z) => specSameBoxes_c l z l (.slice p l.length c) W trivial hz HF.out.1 HF.out.2 (HV.out W g).2.1 HF.out.1 HF.out.2)
  have HQ := Lib.hid (applied_q x HD.out.1 HD.out.2.1)
  have HT := Lib.hid (And.intro (applied_of_no (l := l) (x := x)) (applied_of_yes (l := l) (x := x)))
  generalize appliedL l x = A at *
  generalize appB l x = t at *
  have htt : (t != t) = false := by cases t <;> rfl
  have HFA := Lib.hid (boxes_fine HQ.out.1 HQ.out.2)
  have hbX := HX.out.2.2.1
  obtain ⟨⟨a0, a1, a2, a3, a4, a5⟩, -, -⟩ := HV.out X (Below.refl _ _)
  go_wp2_with fail
  refine CI.out.mono ?_
  rintro e w3 ⟨z0, f0, rfl, hz0, hn0, hl0, b3⟩
  obtain ⟨pz, cz, rfl⟩ := LfIn.slice hz0
  have HZ0 := Lib.hid hz0
  have HCZ := Lib.hid (CapLe.of_in hz0)
  clear CI hz0 hn0 hl0 a0 a1 a2 a3 a4 a5
  obtain ⟨⟨a0, a1, a2, a3, a4, a5⟩, -, -⟩ := HV.out w3 b3
  go_wp2_with fail
  refine (CS.out w3 b3).mono ?_
  rintro e w4 ⟨z1, f1, rfl, hz1, hn1, hl1, b4⟩
  have b4X := b3.trans (b4.mono b3.size)
  obtain ⟨py, cy, rfl⟩ := LfIn.slice hz1
  have HZ1 := Lib.hid (And.intro (LfIn.rd _ _ _ (HZ0.out.below b4)) (LfIn.rd _ _ _ hz1))
  have E := Lib.hid ((specSameBoxes_c A _ A _ w4 trivial HZ1.out.1 HFA.out.1 HFA.out.2 HZ1.out.2 HFA.out.1 HFA.out.2).mono (R' := fun e w' => e = .returned (.bool true) ∧ Below w4.heap.size w4 w') fun e w' h => by simpa using h)
  clear CS hz1 hn1 hl1 b3 b4 a0 a1 a2 a3 a4 a5 HZ0
  obtain ⟨⟨a0, a1, a2, a3, a4, a5⟩, -, -⟩ := HV.out w4 b4X
  go_wp2_with fail
  refine E.out.mono ?_
  rintro e w5 ⟨rfl, b5⟩
  have b5X := b4X.trans (b5.mono b4X.size)
  have HZ2 := Lib.hid (LfRd.below b5 _ _ HZ1.out.1)
  clear E b4X b5 HZ1 a0 a1 a2 a3 a4 a5
  obtain ⟨⟨a0, a1, a2, a3, a4, a5⟩, -, -⟩ := HV.out w5 b5X
  go_wp2_with fail
  refine (CP.out w5 b5X).mono ?_
  rintro e w6 ⟨rfl, b6⟩
  have b6X := b5X.trans (b6.mono b5X.size)
  have HZ3 := Lib.hid (LfRd.below b6 _ _ HZ2.out)
  clear CP b5X b6 HZ2 a0 a1 a2 a3 a4 a5
  cases t with
  | false =>
    have hA := HT.out.1 rfl
    have E := Lib.hid ((CN.out (.slice pz A.length cz) w6 b6X (hA ▸ HZ3.out)).mono (R' := fun e w' => e = .returned (.bool true) ∧ Below w6.heap.size w6 w') fun e w' h => by simpa using h)
    clear CN HZ3 HT hA
    go_wp2_with fail
    refine E.out.mono ?_
    rintro e w7 ⟨rfl, b7⟩
    have hfin := hbX.trans ((b6X.trans (b7.mono b6X.size)).mono hbX.size)
    clear E b6X b7 hbX
    go_wp2
    go_ret
    exact ⟨rfl, hfin⟩
  | true =>
    obtain ⟨hA, hxb⟩ := HT.out.2 rfl
    have CB := Lib.hid (implBoxesOk_c (G := fun _ => True) A (.slice pz A.length cz) w6 trivial HZ3.out HCZ.out HFA.out.1 HFA.out.2)
    have CM := Lib.hid (fun W (g : Below w6.heap.size w6 W) => specBoxesOk_c A (.slice pz A.length cz) W trivial (LfRd.below g _ _ HZ3.out) HCZ.out HFA.out.1 HFA.out.2)
    rw [hA] at CB CM
    rw [hxb] at CC
    clear hA hxb HT CN
    go_wp2_with fail
    refine CB.out.mono ?_
    rintro e w7 ⟨rfl, b7⟩
    go_wp2_with fail
    refine (CM.out w7 b7).mono ?_
    rintro e w8 ⟨rfl, b8⟩
    have b8X := b6X.trans ((b7.trans (b8.mono b7.size)).mono b6X.size)
    clear CB CM b7 b8 b6X
    obtain ⟨⟨a0, a1, a2, a3, a4, a5⟩, -, -⟩ := HV.out w8 b8X
    go_wp2_with fail
    refine (CC.out w8).mono ?_
    rintro e w9 ⟨rfl, b9⟩
    have hfin := hbX.trans ((b8X.trans (b9.mono b8X.size)).mono hbX.size)
    clear CC b9 b8X hbX a0 a1 a2 a3 a4 a5
    go_wp2
    go_ret
    exact ⟨rfl, hfin⟩

end Go.Proofs.YtbfgdbpfecffcaaGreatDoor
