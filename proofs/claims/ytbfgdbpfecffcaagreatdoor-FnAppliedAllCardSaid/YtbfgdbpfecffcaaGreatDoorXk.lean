/-
  Xk: AppliB (what the claim needs of them).
-/
import Derived.Handy
import Derived.Maps.OwnIn
import Derived.Sort.KeysCollected
import Derived.RangeFuncNested
import Derived.RangeFuncLeaves
import Derived.RangeFuncWrites
import Derived.WalkKit
import Derived.OwnWalkIn
import Derived.TacticsInMore
import Derived.LoopNIn
import Derived.LoopIn
import Derived.Maps.OwnSet
import Derived.Maps.RangeWalk
import Derived.Sort.OwnSorted
import Derived.Sort.EveryDepth
import Derived.Deep.DeepCutAuto
import Derived.Lib.SliceRun
import Derived.Test.YtbfgdbpfecffcaaGreatDoorRows
import Derived.WalkSpells
import Derived.WalkLawsBesides
import Derived.Laws.IdiomStrings
import Derived.Lib.Hide
import Derived.Deep.AppendLies
import Derived.OrdersHeld
import Derived.Lib.ItoaNum
import Derived.Lib.ItoaMem
import Derived.Lib.AppendStr
import Derived.Lib.ItoaLen
import Derived.Lib.Strings
import Derived.Lib.Bytealg
import Derived.Lib.OthersKept
import Derived.Laws.RangeAny
import Derived.Laws.BitsAllLaws
import Derived.Laws.BitsLemmas
import Derived.IntWalk
import Derived.LaidEql
import Derived.Stop.Asserts
import Derived.RowKitTokens
import Derived.Lib.Join
import Derived.Deep.Strs
import Derived.Test.YtbfgdbpfecffcaaGreatDoorProg
import Derived.Laws.Tables
import Derived.Test.YtbfgdbpfecffcaaGreatDoorWb
import Derived.Test.YtbfgdbpfecffcaaGreatDoorWc
import Derived.Test.YtbfgdbpfecffcaaGreatDoorWd
import Derived.Test.YtbfgdbpfecffcaaGreatDoorWe
import Derived.Test.YtbfgdbpfecffcaaGreatDoorWf
import Derived.Test.YtbfgdbpfecffcaaGreatDoorWi
import Derived.Test.YtbfgdbpfecffcaaGreatDoorWm
import Derived.Test.YtbfgdbpfecffcaaGreatDoorWo
import Derived.Test.YtbfgdbpfecffcaaGreatDoorWq
import Derived.Test.YtbfgdbpfecffcaaGreatDoorWr
import Derived.Test.YtbfgdbpfecffcaaGreatDoorWs
import Derived.Test.YtbfgdbpfecffcaaGreatDoorWy
import Derived.Test.YtbfgdbpfecffcaaGreatDoorWz
import Derived.Test.YtbfgdbpfecffcaaGreatDoorXa
import Derived.Test.YtbfgdbpfecffcaaGreatDoorXc
import Derived.Test.YtbfgdbpfecffcaaGreatDoorXd
import Derived.Test.YtbfgdbpfecffcaaGreatDoorXe
import Derived.Test.YtbfgdbpfecffcaaGreatDoorXg

namespace Go.Proofs.YtbfgdbpfecffcaaGreatDoor
open Go.RowKit

theorem all_cons (l : List BoxD) (x : ComD) (r : List ComD) : allL l (x :: r) = if appB l x then allL (doneL l x) r else (l, false) := rfl
theorem all_append : ∀ (a : List ComD) (l : List BoxD) (b : List ComD), allL l (a ++ b) = if (allL l a).2 then allL (allL l a).1 b else allL l a
  | [], l, b => by simp [allL]
  | x :: a, l, b => by
    rw [List.cons_append, all_cons, all_cons]
    split
    · exact all_append a _ b
    · simp
theorem all_q : ∀ (lg : List ComD) {l : List BoxD}, l.length ≤ 5 → (∀ x ∈ l, BoxQ 6 x) → (allL l lg).1.length ≤ 5 ∧ ∀ y ∈ (allL l lg).1, BoxQ 6 y
  | [], l, h5, hs => ⟨h5, hs⟩
  | x :: lg, l, h5, hs => by
    unfold allL
    cases ha : appB l x with
    | false => exact ⟨h5, hs⟩
    | true =>
      obtain ⟨h1, h2⟩ := right_q (done_right ha)
      exact all_q lg h1 h2
/-- A log's part behind k. -/
theorem log_drop {W : World} {lg : List ComD} {b off c k : Nat} (h : LfRd W (commitsLf lg) (.slice (some ⟨b, off, none⟩) lg.length c)) (hk : k ≤ lg.length) :
    LfRd W (commitsLf (lg.drop k)) (.slice (some ⟨b, off + k * 6, none⟩) (lg.length - k) (c - k)) := by
  obtain ⟨_, p', cap, hv, hd⟩ := h
  injection hv with hp _ hc'
  subst hp hc'
  refine ⟨flat_lenM ComD.len _, _, _, by rw [List.length_drop], ?_⟩
  by_cases h0 : (lg.drop k).length = 0
  · exact .inl h0
  · rw [List.length_drop] at h0
    obtain ⟨b', off', hp, hb, xs, hx, hl⟩ := hd.resolve_left (by omega)
    injection hp with hp
    injection hp with e1 e2
    subst e1 e2
    rw [← List.take_append_drop k lg, List.flatMap_append] at hl
    obtain ⟨u1, u2, rfl, h1, h2⟩ := LsRd.append.1 hl
    have hl1 : u1.length = k * 6 := by rw [LsRd.length h1, flat_lenM ComD.len, List.length_take, Nat.min_eq_left hk]
    exact .inr ⟨_, _, rfl, hb, u2, fun j u hj => by
      have := hx (k * 6 + j) u (by rw [List.getElem?_append_right (by omega), hl1, Nat.add_sub_cancel_left]; exact hj)
      rwa [← Nat.add_assoc] at this, h2⟩

set_option maxRecDepth 20000 in
set_option maxHeartbeats 6400000 in
theorem FnAppliedAll_any (v : Value) (code : List UInt8) (w : World) (hE : ErrG w) (hr : Rd1 bv w v code) :
    Calls Tryz.prog 5 #[v] w fun e w' => e = .returned (.bool true) ∧ Below w.heap.size w w' := by
  have HR := Lib.hid hr
  have HB := Lib.hid (big_any v code w hr)
  have HE := Lib.hid hE
  clear hr hE
  by_cases hbig : code.length ≤ 1048576
  case neg =>
    have hq : (1048576 : Int) < (code.length : Int) := by omega
    go_enter Tryz.func5, Tryz.ntmps5
    go_wp2_with fail
    refine (HB.out).mono ?_
    rintro e w' ⟨rfl, rfl⟩
    go_wp2
    go_ret
    exact ⟨rfl, Below.refl _ _⟩
  have hq : ¬ (1048576 : Int) < (code.length : Int) := by omega
  go_enter Tryz.func5, Tryz.ntmps5
  go_wp2_with fail
  refine (HB.out).mono ?_
  rintro e w' ⟨rfl, rfl⟩
  clear HB
  go_wp2_with fail
  refine (DrawAppliedAll_any v code _ HR.out hbig).mono ?_
  rintro e w1 ⟨l, v1, lg, vg, rfl, hq5, hrd, hql, hrg, b1⟩
  obtain ⟨p, c, rfl⟩ := LfRd.slice hrd.1
  obtain ⟨pg, cg, rfl⟩ := LfRd.slice hrg.1
  have HD := Lib.hid (And.intro hq5 (And.intro hrd (And.intro hql (And.intro hrg (And.intro b1 (errG_keeps _ _ HE.out b1))))))
  have HBIG := Lib.hid hbig
  clear hq5 hrd hql hrg b1 HE hbig hq
  have HF := Lib.hid (boxes_fine HD.out.1.1 HD.out.1.2)
  have HL := Lib.hid (coms_fine HD.out.2.2.1.1 HD.out.2.2.1.2)
  have HV := Lib.hid (fun W (g : Below w1.heap.size w1 W) => (⟨LfRd.below g _ _ HD.out.2.1.1, LfRd.below g _ _ HD.out.2.2.2.1.1, errG_keeps _ _ HD.out.2.2.2.2.2 g⟩ : LfRd W (boxsLf l) (.slice p l.length c) ∧ LfRd W (commitsLf lg) (.slice pg lg.length cg) ∧ ErrG W))
  have CI := Lib.hid (implAppliedAll_c l (.slice p l.length c) lg (.slice pg lg.length cg) w1 HD.out.2.2.2.2.2 HD.out.2.1.1 HD.out.2.1.2 HF.out.1 HF.out.2 HD.out.2.2.2.1.1 HD.out.2.2.2.1.2 HL.out.1 HL.out.2)
  have CS := Lib.hid (fun W (g : Below w1.heap.size w1 W) => specAppliedAll_c l (.slice p l.length c) lg (.slice pg lg.length cg) W trivial (HV.out W g).1 HD.out.2.1.2 HF.out.1 HF.out.2 (HV.out W g).2.1 HD.out.2.2.2.1.2 HL.out.1 HL.out.2)
  have HQ := Lib.hid (all_q lg HD.out.1.1 HD.out.1.2)
  obtain ⟨A, t, hA⟩ : ∃ A t, allL l lg = (A, t) := ⟨_, _, rfl⟩
  have HA := Lib.hid hA
  rw [hA] at CI CS HQ
  clear hA
  have htt : (t != t) = false := by cases t <;> rfl
  have HFA := Lib.hid (boxes_fine HQ.out.1 HQ.out.2)
  have hbX := HD.out.2.2.2.2.1
  go_wp2_with fail
  refine CI.out.mono ?_
  rintro e w3 ⟨z0, f0, rfl, hz0, _, _, b3⟩
  obtain ⟨pz, cz, rfl⟩ := LfIn.slice hz0
  have HZ0 := Lib.hid hz0
  clear CI hz0
  go_wp2_with fail
  refine (CS.out w3 b3).mono ?_
  rintro e w4 ⟨z1, f1, rfl, hz1, _, _, b4⟩
  have b4X := b3.trans (b4.mono b3.size)
  obtain ⟨py, cy, rfl⟩ := LfIn.slice hz1
  have HZ1 := Lib.hid (And.intro (LfIn.rd _ _ _ (HZ0.out.below b4)) (LfIn.rd _ _ _ hz1))
  have E := Lib.hid ((specSameBoxes_c A (.slice pz A.length cz) A (.slice py A.length cy) w4 trivial HZ1.out.1 HFA.out.1 HFA.out.2 HZ1.out.2 HFA.out.1 HFA.out.2).mono (R' := fun e w' => e = .returned (.bool true) ∧ Below w4.heap.size w4 w') fun e w' h => by simpa using h)
  clear CS hz1 b3 b4 HZ0
  go_wp2_with fail
  refine E.out.mono ?_
  rintro e w5 ⟨rfl, b5⟩
  have b5X := b4X.trans (b5.mono b4X.size)
  have HZ2 := Lib.hid (LfRd.below b5 _ _ HZ1.out.1)
  have CA0 := Lib.hid (at0_two v code w5 (HR.out.below (hbX.trans (b5X.mono hbX.size))) HBIG.out)
  clear E b4X b5 HZ1
  go_wp2_with fail
  refine CA0.out.mono ?_
  rintro e w6 ⟨⟨n, hn, rfl⟩, rfl⟩
  clear CA0
  obtain ⟨k, hk, hkl⟩ : ∃ k : Nat, Int.tmod (n : Int) ((lg.length : Int) + 1) = (k : Int) ∧ k ≤ lg.length := by
    refine ⟨n % (lg.length + 1), ?_, by have := Nat.mod_lt n (show 0 < lg.length + 1 by omega); omega⟩
    rw [show ((lg.length : Int) + 1) = ((lg.length + 1 : Nat) : Int) by omega]
    exact Int.ofNat_tmod n (lg.length + 1)
  have hlg6 := HD.out.2.2.1.1
  have hcg := HD.out.2.2.2.1.2 _ _ _ rfl
  have HK := Lib.hid hkl
  have CT1 := Lib.hid (by
    have hrk := rd_take (enc := ComD.lf) ComD.len (HV.out w5 b5X).2.1 hkl
    have hlk : (lg.take k).length = k := by rw [List.length_take, Nat.min_eq_left hkl]
    have hsk := coms_fine (l := lg.take k) (by omega) (fun x hx => HD.out.2.2.1.2 x (List.mem_of_mem_take hx))
    exact implAppliedAll_c l (.slice p l.length c) (lg.take k) (.slice pg k cg) w5 (HV.out w5 b5X).2.2 (HV.out w5 b5X).1 HD.out.2.1.2 HF.out.1 HF.out.2 hrk (fun p' n' c' e => by injection e with _ e2 e3; omega) hsk.1 hsk.2)
  have HQ1 := Lib.hid (all_q (lg.take k) HD.out.1.1 HD.out.1.2)
  have HAA := Lib.hid (show allL l lg = if (allL l (lg.take k)).2 then allL (allL l (lg.take k)).1 (lg.drop k) else allL l (lg.take k) by rw [← all_append, List.take_append_drop])
  obtain ⟨A1, t1, hA1⟩ : ∃ A1 t1, allL l (lg.take k) = (A1, t1) := ⟨_, _, rfl⟩
  rw [hA1] at CT1 HQ1
  rw [HA.out, hA1] at HAA
  clear hA1 HA
  have HF1 := Lib.hid (boxes_fine HQ1.out.1 HQ1.out.2)
  have hn1 : ¬ ((lg.length : Int) + 1 = 0) := by omega
  go_wp2_with fail
  refine CT1.out.mono ?_
  rintro e w7 ⟨z2, f2, rfl, hz2, _, _, b7⟩
  obtain ⟨px, cx, rfl⟩ := LfIn.slice hz2
  have b7X := b5X.trans (b7.mono b5X.size)
  have HZ3 := Lib.hid (And.intro (LfRd.below b7 _ _ HZ2.out) hz2)
  clear CT1 hz2 b7 b5X HZ2
  cases t1 with
  | false =>
    have hAA := HAA.out
    simp only [Bool.false_eq_true, if_false, Prod.mk.injEq] at hAA
    obtain ⟨hA1, ht1⟩ := hAA
    subst hA1 ht1
    have E := Lib.hid ((specSameBoxes_c A (.slice px A.length cx) A (.slice pz A.length cz) w7 trivial (LfIn.rd _ _ _ HZ3.out.2) HFA.out.1 HFA.out.2 HZ3.out.1 HFA.out.1 HFA.out.2).mono (R' := fun e w' => e = .returned (.bool true) ∧ Below w7.heap.size w7 w') fun e w' h => by simpa using h)
    clear HZ3
    go_wp2_with fail
    refine E.out.mono ?_
    rintro e w8 ⟨rfl, b8⟩
    have hfin := hbX.trans ((b7X.trans (b8.mono b7X.size)).mono hbX.size)
    clear E b7X b8 hbX
    go_wp2
    go_ret
    exact ⟨rfl, hfin⟩
  | true =>
    have hAA := HAA.out
    simp only [if_true] at hAA
    have htt2 : (t == t) = true := by cases t <;> rfl
    have hcz : (lg.drop k).length ≤ 6 := by rw [List.length_drop]; omega
    have hsz := coms_fine hcz (fun x hx => HD.out.2.2.1.2 x (List.mem_of_mem_drop hx))
    have HG := Lib.hid (fun (vd : Value) (hrd : LfRd w7 (commitsLf (lg.drop k)) vd) (hcd : CapLe vd) => hAA ▸ implAppliedAll_c A1 (.slice px A1.length cx) (lg.drop k) vd w7 (HV.out w7 b7X).2.2 (LfIn.rd _ _ _ HZ3.out.2) (CapLe.of_in HZ3.out.2) HF1.out.1 HF1.out.2 hrd hcd hsz.1 hsz.2)
    have HRG := Lib.hid (HV.out w7 b7X).2.1
    clear hcz hsz hAA HAA
    rcases (show lg = [] ∨ ∃ b off, pg = some ⟨b, off, none⟩ by
      obtain ⟨p', cap, he, hd⟩ := ComD.at HRG.out
      injection he with he
      subst he
      exact hd.imp id fun ⟨b, off, h, _⟩ => ⟨b, off, h⟩) with h0 | ⟨b, off, rfl⟩
    · subst h0
      simp only [List.length_nil] at *
      obtain rfl : k = 0 := by omega
      go_wp2_with fail
      have HC3 := Lib.hid (HG.out (.slice pg 0 cg) (HRG.out) (fun p2 n2 c2 e => by injection e with _ e2 e3; omega))
      clear HG
      refine HC3.out.mono ?_
      rintro e w8 ⟨z3, f3, rfl, hz3, _, _, b8⟩
      obtain ⟨pw, cw, rfl⟩ := LfIn.slice hz3
      have b8X := b7X.trans (b8.mono b7X.size)
      have E := Lib.hid ((specSameBoxes_c A (.slice pw A.length cw) A (.slice pz A.length cz) w8 trivial (LfIn.rd _ _ _ hz3) HFA.out.1 HFA.out.2 (LfRd.below b8 _ _ HZ3.out.1) HFA.out.1 HFA.out.2).mono (R' := fun e w' => e = .returned (.bool true) ∧ Below w8.heap.size w8 w') fun e w' h => by simpa using h)
      clear HC3 HZ3 hz3 b8 b7X
      go_wp2_with fail
      refine E.out.mono ?_
      rintro e w9 ⟨rfl, b9⟩
      have hfin := hbX.trans ((b8X.trans (b9.mono b8X.size)).mono hbX.size)
      clear E b8X b9 hbX
      go_wp2
      go_ret
      exact ⟨rfl, hfin⟩
    · go_wp2_with fail
      · rename_i hck
        have HC3 := Lib.hid (HG.out (.slice (some ⟨b, off, none⟩) (lg.length - k) 0) (⟨flat_lenM ComD.len _, _, _, by rw [List.length_drop], .inl (by rw [List.length_drop]; omega)⟩) (fun p2 n2 c2 e => by injection e with _ e2 e3; omega))
        clear HG
        refine HC3.out.mono ?_
        rintro e w8 ⟨z3, f3, rfl, hz3, _, _, b8⟩
        obtain ⟨pw, cw, rfl⟩ := LfIn.slice hz3
        have b8X := b7X.trans (b8.mono b7X.size)
        have E := Lib.hid ((specSameBoxes_c A (.slice pw A.length cw) A (.slice pz A.length cz) w8 trivial (LfIn.rd _ _ _ hz3) HFA.out.1 HFA.out.2 (LfRd.below b8 _ _ HZ3.out.1) HFA.out.1 HFA.out.2).mono (R' := fun e w' => e = .returned (.bool true) ∧ Below w8.heap.size w8 w') fun e w' h => by simpa using h)
        clear HC3 HZ3 hz3 b8 b7X
        go_wp2_with fail
        refine E.out.mono ?_
        rintro e w9 ⟨rfl, b9⟩
        have hfin := hbX.trans ((b8X.trans (b9.mono b8X.size)).mono hbX.size)
        clear E b8X b9 hbX
        go_wp2
        go_ret
        exact ⟨rfl, hfin⟩
      · rename_i hck
        have HC3 := Lib.hid (HG.out (.slice (some ⟨b, off + k * 6, none⟩) (lg.length - k) (cg - k)) (log_drop HRG.out hkl) (fun p2 n2 c2 e => by injection e with _ e2 e3; omega))
        clear HG
        refine HC3.out.mono ?_
        rintro e w8 ⟨z3, f3, rfl, hz3, _, _, b8⟩
        obtain ⟨pw, cw, rfl⟩ := LfIn.slice hz3
        have b8X := b7X.trans (b8.mono b7X.size)
        have E := Lib.hid ((specSameBoxes_c A (.slice pw A.length cw) A (.slice pz A.length cz) w8 trivial (LfIn.rd _ _ _ hz3) HFA.out.1 HFA.out.2 (LfRd.below b8 _ _ HZ3.out.1) HFA.out.1 HFA.out.2).mono (R' := fun e w' => e = .returned (.bool true) ∧ Below w8.heap.size w8 w') fun e w' h => by simpa using h)
        clear HC3 HZ3 hz3 b8 b7X
        go_wp2_with fail
        refine E.out.mono ?_
        rintro e w9 ⟨rfl, b9⟩
        have hfin := hbX.trans ((b8X.trans (b9.mono b8X.size)).mono hbX.size)
        clear E b8X b9 hbX
        go_wp2
        go_ret
        exact ⟨rfl, hfin⟩

end Go.Proofs.YtbfgdbpfecffcaaGreatDoor
