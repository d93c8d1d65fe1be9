/-
  Th: StoL (what the claim needs of them).
-/
import Derived.Maps.OwnIn
import Derived.Sort.KeysCollected
import Derived.RangeFuncNested
import Derived.RangeFuncLeaves
import Derived.RangeFuncWrites
import Derived.WalkKit
import Derived.OwnWalkIn
import Derived.TacticsInMore
import Derived.LoopNIn
import Derived.LoopIn
import Derived.Maps.OwnSet
import Derived.Maps.RangeWalk
import Derived.Sort.OwnSorted
import Derived.Sort.EveryDepth
import Derived.Deep.DeepCutAuto
import Derived.Handy
import Derived.Lib.SliceRun
import Derived.Test.YtbfgdbpfecffcaaGreatDoorRows
import Derived.WalkSpells
import Derived.WalkLawsBesides
import Derived.Laws.IdiomStrings
import Derived.Lib.Hide
import Derived.Deep.AppendLies
import Derived.OrdersHeld
import Derived.Lib.ItoaNum
import Derived.Lib.ItoaMem
import Derived.Lib.AppendStr
import Derived.Lib.ItoaLen
import Derived.Lib.Strings
import Derived.Lib.Bytealg
import Derived.Lib.OthersKept
import Derived.Laws.RangeAny
import Derived.Laws.BitsAllLaws
import Derived.Laws.BitsLemmas
import Derived.IntWalk
import Derived.LaidEql
import Derived.Stop.Asserts
import Derived.RowKitTokens
import Derived.Lib.Join
import Derived.Deep.Strs
import Derived.Test.YtbfgdbpfecffcaaGreatDoorProg
import Derived.Laws.Tables
import Derived.Deep.LoopGhost
import Derived.Test.YtbfgdbpfecffcaaGreatDoorSb
import Derived.Test.YtbfgdbpfecffcaaGreatDoorSc
import Derived.Test.YtbfgdbpfecffcaaGreatDoorSd
import Derived.Test.YtbfgdbpfecffcaaGreatDoorSe
import Derived.Test.YtbfgdbpfecffcaaGreatDoorSf
import Derived.Test.YtbfgdbpfecffcaaGreatDoorSk
import Derived.Test.YtbfgdbpfecffcaaGreatDoorSl
import Derived.Test.YtbfgdbpfecffcaaGreatDoorSm
import Derived.Test.YtbfgdbpfecffcaaGreatDoorSq
import Derived.Test.YtbfgdbpfecffcaaGreatDoorSr
import Derived.Test.YtbfgdbpfecffcaaGreatDoorSs
import Derived.Test.YtbfgdbpfecffcaaGreatDoorSu
import Derived.Test.YtbfgdbpfecffcaaGreatDoorSy
import Derived.Test.YtbfgdbpfecffcaaGreatDoorSz
import Derived.Test.YtbfgdbpfecffcaaGreatDoorTa
import Derived.Test.YtbfgdbpfecffcaaGreatDoorTb
import Derived.Test.YtbfgdbpfecffcaaGreatDoorTc
import Derived.Test.YtbfgdbpfecffcaaGreatDoorTd
import Derived.Test.YtbfgdbpfecffcaaGreatDoorTe
import Derived.Test.YtbfgdbpfecffcaaGreatDoorTg

namespace Go.Proofs.YtbfgdbpfecffcaaGreatDoor
open Go.RowKit

theorem lookup_bool {P : Program} {k t e : TypeId} {w : World} {b n : Nat} {D : DataW Unit} (h : w.ownsMap P k (plainElem P e) b n D) (K : Maps.Keyed P k) (ht : P.underlying t = some (.map k e)) (he : P.underlying e = some .bool) (hz : (zeroValue e).run P w = .ok (.bool false) w) {key : Value} {kl : Lit} (hkey : keyOf P k key = some kl) {c : Bool} (hc : D.atKey kl (.lit (.bool false)) = .lit (.bool c)) :
    (Instr.lookup t (.map (some b)) key false).run P w = .ok (.bool c) w := by
  obtain ⟨v, ps, hrun, hv⟩ := h.lookup K ht hz (plainElem_bool he false) hkey
  rw [hrun]
  rw [hc] at hv
  unfold plainElem at hv
  rw [he] at hv
  cases v <;> simp at hv
  rw [hv.1]

set_option maxRecDepth 20000 in
set_option maxHeartbeats 3200000 in
theorem assignedOnce_any (x : StoD) (r0 r1 : Value) (w : World) (hr0 : LfRd w (boxsLf x.boxes) r0) (hr1 : LfRd w (commitsLf x.log) r1) (hlg : x.log.length ≤ 1048576) (hv : ∀ m ∈ x.log, in64 m.validity) :
    Calls Tryz.prog 84 #[.agg #[r0, r1, .int .i64 x.given]] w fun e w' => e = .returned (.bool (madeB x.log && givenB x.given x.log)) ∧ Below w.heap.size w w' := by
  obtain ⟨p0, c0, rfl⟩ := LfRd.slice hr0
  obtain ⟨p1, c1, rfl, hp⟩ := ComD.at hr1
  have HP := Lib.hid hp
  have HV := Lib.hid hv
  have hmm := @run_makeMap Tryz.prog
  have hb1 : Below w.heap.size w (w.alloc (.cells #[.slice p0 x.boxes.length c0, .slice p1 x.log.length c1, .int .i64 x.given] 46)) := (Below.refl _ _).alloc (Nat.le_refl _) _
  have n1 := heap_alloc_new w (.cells #[.slice p0 x.boxes.length c0, .slice p1 x.log.length c1, .int .i64 x.given] 46)
  have hm0 := World.ownsMap_made (w.alloc (.cells #[.slice p0 x.boxes.length c0, .slice p1 x.log.length c1, .int .i64 x.given] 46)) Tryz.prog 3 (plainElem (H := Unit) Tryz.prog 4)
  have hb2 := hb1.alloc hb1.size (.map #[] 0)
  have n2 := (Below.heap_alloc (w.alloc (.cells #[.slice p0 x.boxes.length c0, .slice p1 x.log.length c1, .int .i64 x.given] 46)) (.map #[] 0) w.heap.size (by simp)).trans n1
  rw [World.size_alloc] at hm0
  have HST := Lib.hid (And.intro hm0 (And.intro hb2 n2))
  have a1 := (blk_3c n2).1.2.1
  clear hp hr0 hr1 hb1 n1 hm0 hb2 n2 hv
  go_enter Tryz.func84, Tryz.ntmps84
  go_wp2
  clear a1
  go_loopw [10] (fun i wr => ∃ (k : Nat) (D : DataW Unit), k ≤ x.log.length ∧ i = .int .i64 k ∧ wr.ownsMap Tryz.prog 3 (plainElem Tryz.prog 4) (w.heap.size + 1) k D ∧ AsgR x.log k D ∧ PreOk x.given x.log k ∧ Below w.heap.size w wr ∧ wr.heap[w.heap.size]? = some (.cells #[.slice p0 x.boxes.length c0, .slice p1 x.log.length c1, .int .i64 x.given] 46 (0, 0))) (fun i _ => x.log.length - (intOf i).toNat)
  case atStart => exact ⟨0, _, by omega, rfl, HST.out.1, AsgR.start _, PreOk.start _ _, HST.out.2.1, HST.out.2.2⟩
  case round =>
    obtain ⟨k, D, hk, rfl, hown, hR, hpre, hbr, hblk⟩ := hrel
    have HR := Lib.hid hR
    have HPRE := Lib.hid hpre
    clear HST hR hpre
    by_cases hlt : k < x.log.length
    case neg =>
      obtain rfl : k = x.log.length := by omega
      have HE := Lib.hid (asg_end HPRE.out)
      go_wp2
      go_ret
      exact ⟨by rw [HE.out]; rfl, hbr⟩
    obtain ⟨b, off, rfl, hb1, hc⟩ := HP.out.resolve_left (by intro h; rw [h] at hlt; simp at hlt)
    obtain ⟨m, hm⟩ : ∃ m, x.log[k]? = some m := ⟨_, List.getElem?_eq_getElem hlt⟩
    obtain ⟨x0, x1, x2, x3, x4, x5⟩ := hc k m hm
    have e0 : wr.cell? ⟨b, off + k * 6, none⟩ = some (.int .i64 m.kind) := (hbr.cell (p := ⟨b, off + k * 6, none⟩) hb1).trans x0
    have e1 : wr.cell? ⟨b, off + k * 6 + 1, none⟩ = some (.int .i64 m.validity) := (hbr.cell (p := ⟨b, off + k * 6 + 1, none⟩) hb1).trans x1
    have e2 : wr.cell? ⟨b, off + k * 6 + 2, none⟩ = some (.int .i64 m.uid) := (hbr.cell (p := ⟨b, off + k * 6 + 2, none⟩) hb1).trans x2
    have e3 : wr.cell? ⟨b, off + k * 6 + 3, none⟩ = some (.int .i64 m.flags) := (hbr.cell (p := ⟨b, off + k * 6 + 3, none⟩) hb1).trans x3
    have e4 : wr.cell? ⟨b, off + k * 6 + 4, none⟩ = some (sv m.name) := (hbr.cell (p := ⟨b, off + k * 6 + 4, none⟩) hb1).trans x4
    have e5 : wr.cell? ⟨b, off + k * 6 + 5, none⟩ = some (sv m.text) := (hbr.cell (p := ⟨b, off + k * 6 + 5, none⟩) hb1).trans x5
    have HM := Lib.hid hm
    have hzr := (Array.getElem?_eq_some_iff.1 hblk).1
    have hbX := hbr.alloc hbr.size (.cells #[.int .i64 m.kind, .int .i64 m.validity, .int .i64 m.uid, .int .i64 m.flags, sv m.name, sv m.text] 26)
    have hoX := hown.alloc (.cells #[.int .i64 m.kind, .int .i64 m.validity, .int .i64 m.uid, .int .i64 m.flags, sv m.name, sv m.text] 26)
    have hkX := (Below.heap_alloc wr (.cells #[.int .i64 m.kind, .int .i64 m.validity, .int .i64 m.uid, .int .i64 m.flags, sv m.name, sv m.text] 26) w.heap.size hzr).trans hblk
    have HB := Lib.hid (And.intro hbX hkX)
    have HO := Lib.hid hoX
    have hkey : keyOf Tryz.prog 3 (.int .i64 m.validity) = some (.int .i64 m.validity) := Maps.keyOf_int_mk Tryz.underlying3 (in64_wf (HV.out m (List.mem_of_getElem? hm)))
    have hrun := lookup_bool hoX (Maps.int_keyed Tryz.underlying3) Tryz.underlying142 Tryz.underlying4 (Tryz.zeroValue4 _) hkey (HR.out.2 m.validity)
    have g2 := (blk_3c hkX).1.2.2
    clear hc x0 x1 x2 x3 x4 x5 hm hzr hbX hkX hbr hown hblk
    by_cases hk1 : m.kind = 1
    case neg =>
      have hne : ((m.kind : Int) != 1) = true := by rw [bne_iff_ne]; exact hk1
      have HN := Lib.hid (And.intro (HR.out.skip HM.out hk1) (HPRE.out.step HM.out (fun h => absurd h hk1)))
      clear hk1 hrun g2 hkey hoX
      go_wp2
      go_roundw
      case rel => exact ⟨k + 1, D, by omega, by go_num, HO.out.mono (by omega), HN.out.1, HN.out.2, HB.out.1, HB.out.2⟩
      case measure => simp [intOf]; omega
    have hne : ((m.kind : Int) != 1) = false := by rw [hk1]; rfl
    cases hit : (x.log.take k).any (hitC m.validity) with
    | true =>
      have HF := Lib.hid (asg_hit (g := x.given) HM.out hk1 hit)
      rw [hit] at hrun
      clear hk1 g2 hkey hoX hit
      go_wp2
      go_ret
      exact ⟨by rw [HF.out]; rfl, HB.out.1⟩
    | false =>
      rw [hit] at hrun
      by_cases hgv : x.given < m.validity
      · have HF := Lib.hid (asg_big HM.out hk1 hgv)
        clear hk1 hkey hoX hit
        go_wp2
        go_ret
        exact ⟨by rw [HF.out]; rfl, HB.out.1⟩
      · have HN := Lib.hid (And.intro (HR.out.put HM.out hk1) (HPRE.out.step HM.out (fun _ => ⟨hit, by omega⟩)))
        clear hk1 hit
        go_wp2_with (at_mapUpdate; refine wpList_mapUpdate_own _ rfl _ _ _ 142 rfl 3 4 (Maps.int_keyed Tryz.underlying3) Tryz.underlying142 _ (w.heap.size + 1) k _ rfl hoX (by unfold maxLen; omega) _ _ _ rfl rfl hkey _ [] (plainElem_bool Tryz.underlying4 true) ?_; intro w3 hown3 hgrow3)
        have HF := Lib.hid (show Below w.heap.size w w3 ∧ w3.heap[w.heap.size]? = some (.cells #[.slice p0 x.boxes.length c0, .slice (some ⟨b, off, none⟩) x.log.length c1, .int .i64 x.given] 46 (0, 0)) from ⟨HB.out.1.grown hgrow3 HB.out.1.size (fun j e => by cases e; omega), (hgrow3.block _ (Array.getElem?_eq_some_iff.1 HB.out.2).1 (fun e => by injection e with e; omega)).trans HB.out.2⟩)
        clear hgrow3 hrun g2 hkey hoX
        go_wp2
        go_roundw
        case rel => exact ⟨k + 1, _, by omega, by go_num, hown3, HN.out.1, HN.out.2, HF.out.1, HF.out.2⟩
        case measure => simp [intOf]; omega

theorem store_n4 {x : StoD} (h : (madeB x.log && givenB x.given x.log) = false) : storeB x = false := by
  unfold storeB
  rcases Bool.and_eq_false_iff.1 h with h | h
  · rw [h]; simp
  · rw [h]; simp
theorem store_eq2 {x : StoD} (h1 : (x.log.length : Int) ≤ 300) (h2 : 0 ≤ x.given ∧ x.given ≤ 999999999) (h3 : (madeB x.log && givenB x.given x.log) = true) : storeB x = ((allL [] x.log).2 && decide ((allL [] x.log).1 = x.boxes)) := by
  rw [Bool.and_eq_true] at h3
  unfold storeB
  rw [decide_eq_true h1, decide_eq_true h2.1, decide_eq_true h2.2, h3.1, h3.2]
  simp

set_option maxRecDepth 20000 in
set_option maxHeartbeats 6400000 in
theorem implStoreOk_c : CtrStoreOk 32 ErrG := by
  intro x r0 r1 w hG hr0 hcap0 hr1 hcap hs hbd
  obtain ⟨⟨hs0, hbd0⟩, ⟨hs1, hbd1⟩, hgv⟩ := sto_small hs hbd
  obtain ⟨hlg, hcm⟩ := coms_small hs1 hbd1
  have CM := Lib.hid (fun W (g : Below w.heap.size w W) => assignedOnce_any x r0 r1 W (LfRd.below g _ _ hr0) (LfRd.below g _ _ hr1) hlg (fun m hm => (com_fit (hcm m hm).1 (hcm m hm).2).2.1))
  have CA := Lib.hid (fun W (g : Below w.heap.size w W) => implAppliedAll_c [] (.slice none 0 0) x.log r1 W (errG_keeps _ _ hG g) (boxs_nil W) cap_nil (by decide) ⟨by decide, trivial⟩ (LfRd.below g _ _ hr1) hcap hs1 hbd1)
  have CS := Lib.hid (fun (W : World) (z : Value) (g : Below w.heap.size w W) (h : LfRd W (boxsLf (allL [] x.log).1) z) => implSameBoxes_c (G := fun _ => True) (allL [] x.log).1 z x.boxes r0 W trivial h (right_small (all_right0 x.log)).1 (right_small (all_right0 x.log)).2 (LfRd.below g _ _ hr0) hs0 hbd0)
  obtain ⟨p0, c0, rfl⟩ := LfRd.slice hr0
  obtain ⟨p1, c1, rfl⟩ := LfRd.slice hr1
  have hb1 : Below w.heap.size w (w.alloc (.cells #[.slice p0 x.boxes.length c0, .slice p1 x.log.length c1, .int .i64 x.given] 46)) := (Below.refl _ _).alloc (Nat.le_refl _) _
  have n1 := heap_alloc_new w (.cells #[.slice p0 x.boxes.length c0, .slice p1 x.log.length c1, .int .i64 x.given] 46)
  obtain ⟨X, hX⟩ : ∃ X, w.alloc (.cells #[.slice p0 x.boxes.length c0, .slice p1 x.log.length c1, .int .i64 x.given] 46) = X := ⟨_, rfl⟩
  rw [hX] at hb1 n1
  have HB := Lib.hid (fun W (g : Below X.heap.size X W) => hb1.trans (g.mono hb1.size))
  have HN := Lib.hid (fun W (g : Below X.heap.size X W) => (blk_3c ((g.block w.heap.size (Array.getElem?_eq_some_iff.1 n1).1).trans n1)).1)
  obtain ⟨a0, a1, a2⟩ := HN.out X (Below.refl _ _)
  clear hr0 hcap0 hr1 hcap hs hbd hs0 hbd0 hs1 hbd1 hb1 n1 hG hcm
  by_cases hl3 : (x.log.length : Int) ≤ 300
  case neg =>
    have HV := Lib.hid (store_n1 hl3)
    have hgt : (300 : Int) < (x.log.length : Int) := by omega
    clear hl3
    go_enter Tryz.func32, Tryz.ntmps32
    go_wp2
    go_ret
    exact ⟨by rw [HV.out]; rfl, HB.out _ (Below.refl _ _)⟩
  have hgt : ¬ (300 : Int) < (x.log.length : Int) := by omega
  have HL3 := Lib.hid hl3
  clear hl3
  by_cases hg0 : x.given < 0
  case pos =>
    have HV := Lib.hid (store_n2 (x := x) (by rw [decide_eq_false (by omega)]; rfl))
    go_enter Tryz.func32, Tryz.ntmps32
    go_wp2
    go_ret
    exact ⟨by rw [HV.out]; rfl, HB.out _ (Below.refl _ _)⟩
  by_cases hg9 : 999999999 < x.given
  case pos =>
    have HV := Lib.hid (store_n2 (x := x) (by rw [decide_eq_false (show ¬ x.given ≤ 999999999 by omega), Bool.and_false]))
    go_enter Tryz.func32, Tryz.ntmps32
    go_wp2
    go_ret
    exact ⟨by rw [HV.out]; rfl, HB.out _ (Below.refl _ _)⟩
  have HG := Lib.hid (show 0 ≤ x.given ∧ x.given ≤ 999999999 by omega)
  go_enter Tryz.func32, Tryz.ntmps32
  go_wp2_with fail
  refine (CM.out _ (HB.out _ (Below.refl _ _))).mono ?_
  rintro e w3 ⟨rfl, b3⟩
  have HB3 := Lib.hid b3
  clear a0 a1 a2 b3
  obtain ⟨a0, a1, a2⟩ := HN.out w3 HB3.out
  cases hm : (madeB x.log && givenB x.given x.log) with
  | false =>
    have HV := Lib.hid (store_n4 hm)
    clear hm
    go_wp2
    go_ret
    exact ⟨by rw [HV.out]; rfl, HB.out _ HB3.out⟩
  | true =>
  have HE := Lib.hid (store_eq2 HL3.out HG.out hm)
  clear hm
  go_wp2_with fail
  refine (CA.out _ (HB.out _ HB3.out)).mono ?_
  rintro e w4 ⟨z, f, rfl, hi, -, -, hb4⟩
  obtain ⟨pz, cz, rfl⟩ := LfIn.slice hi
  have HB4 := Lib.hid (HB3.out.trans (hb4.mono HB3.out.size))
  have HZ := Lib.hid (LfIn.rd _ _ _ hi)
  clear a0 a1 a2 hi hb4
  obtain ⟨a0, a1, a2⟩ := HN.out w4 HB4.out
  cases hok : (allL [] x.log).2 with
  | false =>
    have HV := Lib.hid (show storeB x = false by rw [HE.out, hok]; rfl)
    clear hok
    go_wp2
    go_ret
    exact ⟨by rw [HV.out]; rfl, HB.out _ HB4.out⟩
  | true =>
    have HV := Lib.hid (show storeB x = decide ((allL [] x.log).1 = x.boxes) by rw [HE.out, hok]; rfl)
    clear hok
    go_wp2_with fail
    refine (CS.out _ _ (HB.out _ HB4.out) HZ.out).mono ?_
    rintro e w5 ⟨rfl, hb5⟩
    have HB5 := Lib.hid (HB4.out.trans (hb5.mono HB4.out.size))
    clear hb5
    go_wp2
    go_ret
    exact ⟨by rw [HV.out]; first | rfl | simp, HB.out _ HB5.out⟩

end Go.Proofs.YtbfgdbpfecffcaaGreatDoor
