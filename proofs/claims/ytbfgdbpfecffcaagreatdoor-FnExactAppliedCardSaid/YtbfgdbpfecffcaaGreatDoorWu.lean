/-
  Wu: BoxJ (what the claim needs of them).
-/
import Derived.Maps.OwnIn
import Derived.Sort.KeysCollected
import Derived.RangeFuncNested
import Derived.RangeFuncLeaves
import Derived.RangeFuncWrites
import Derived.WalkKit
import Derived.OwnWalkIn
import Derived.TacticsInMore
import Derived.LoopNIn
import Derived.LoopIn
import Derived.Maps.OwnSet
import Derived.Maps.RangeWalk
import Derived.Sort.OwnSorted
import Derived.Sort.EveryDepth
import Derived.Test.YtbfgdbpfecffcaaGreatDoorRows
import Derived.WalkSpells
import Derived.WalkLawsBesides
import Derived.Laws.IdiomStrings
import Derived.Lib.Hide
import Derived.Deep.AppendLies
import Derived.OrdersHeld
import Derived.Lib.ItoaNum
import Derived.Lib.ItoaMem
import Derived.Lib.AppendStr
import Derived.Lib.ItoaLen
import Derived.Lib.Strings
import Derived.Lib.Bytealg
import Derived.Lib.OthersKept
import Derived.Laws.RangeAny
import Derived.Laws.BitsAllLaws
import Derived.Laws.BitsLemmas
import Derived.IntWalk
import Derived.Handy
import Derived.Lib.Join
import Derived.Deep.Strs
import Derived.Test.YtbfgdbpfecffcaaGreatDoorProg
import Derived.Test.YtbfgdbpfecffcaaGreatDoorWa
import Derived.Test.YtbfgdbpfecffcaaGreatDoorWb
import Derived.Test.YtbfgdbpfecffcaaGreatDoorWc
import Derived.Test.YtbfgdbpfecffcaaGreatDoorWd
import Derived.Test.YtbfgdbpfecffcaaGreatDoorWe
import Derived.Test.YtbfgdbpfecffcaaGreatDoorWf
import Derived.Test.YtbfgdbpfecffcaaGreatDoorWh
import Derived.Test.YtbfgdbpfecffcaaGreatDoorWs
import Derived.Test.YtbfgdbpfecffcaaGreatDoorWt

namespace Go.Proofs.YtbfgdbpfecffcaaGreatDoor
open Go.RowKit Go.Sort

theorem ownsMap_below {P : Program} {k : TypeId} {R : Value → Option (DataW Unit × List MemPlace)} {w w' : World} {b n : Nat} {D : DataW Unit} (h : w.ownsMap P k R b n D) (hb : Below w.heap.size w w') : w'.ownsMap P k R b n D := by
  obtain ⟨es, ck, hh, F, hs, hD⟩ := h
  exact ⟨es, ck, (hb.block b (Array.getElem?_eq_some_iff.1 hh).1).trans hh, F, hs, hD⟩

def SortedPost (D : DataW Unit) (w : World) (e : Ending) (w' : World) : Prop := ∃ (v : Value) (ss : List (List UInt8)), e = .returned v ∧ ss.Nodup ∧ (∀ x, x ∈ ss ↔ Maps.has D (.string x) = true) ∧ ss.length ≤ Maps.size D ∧ w'.ownsRow w.heap.size 9 1 v ss.length ((ss.mergeSort leB).map encStr) ∧ Below w.heap.size w w'
set_option maxRecDepth 100000 in
set_option maxHeartbeats 1600000 in
theorem sortedNames_any (D : DataW Unit) (b n : Nat) (w : World) (hown : w.ownsMap Tryz.prog 9 (plainElem Tryz.prog 3) b n D) (hn : n ≤ 1048576) :
    Calls Tryz.prog 111 #[.map (some b)] w (SortedPost D w) := by
  have hbl := hown.lt
  have hmax : Maps.size D ≤ 1048576 := Nat.le_trans hown.size_le hn
  go_enter Tryz.func111, Tryz.ntmps111
  go_wp2_with (at_range; refine wpList_range_own _ rfl _ 124 rfl 9 3 (Maps.string_keyed Tryz.underlying9) Tryz.underlying124 _ b n _ rfl hown ?_; intro w0 hrg0 hg0 hs0)
  go_frame
  clear hs0
  go_loopw [3, 4] (fun v _ wr => ∃ (left : Lit → Bool) (cnt : Nat) (ss : List (List UInt8)), wr.ranges Tryz.prog 9 (plainElem Tryz.prog 3) b w.heap.size n D left cnt ∧ ss.length + cnt ≤ Maps.size D ∧
      wr.ownsRow w.heap.size 9 1 v ss.length (ss.map encStr) ∧ Go.Collected D left ss ∧ Below w.heap.size w wr)
    (fun _ _ wr => wr.rangeLeft b w.heap.size)
  case atStart =>
    exact ⟨_, _, [], hrg0, by simp, World.ownsRow_nil _ _ _ _, Collected.start D, (Below.refl _ _).grown hg0 (Nat.le_refl _) (fun j hj => by cases hj)⟩
  case round =>
    obtain ⟨left, cnt, ss, hrg, hcs, hrow, hC, hnx⟩ := hrel
    go_wp2_with (at_next; refine wpList_next_ranges _ rfl _ rfl 9 (Maps.string_keyed Tryz.underlying9) (plainElem Tryz.prog 3) encStr (Value.int .i64) (fun key kl hk => by obtain ⟨x, hx, _⟩ := Maps.keyOf_str Tryz.underlying9 hk; exact ⟨x, hx⟩) (fun v y hv => by obtain ⟨c, rfl, _⟩ := plainElem_int_inv Tryz.underlying3 hv; exact ⟨c, rfl⟩) b w.heap.size n _ _ _ rfl hrg ?_ ?_)
    · intro hc0 hl0
      have hmem : ∀ x, x ∈ ss ↔ Maps.has D (.string x) = true := fun x => by rw [hC.2 x, hl0]; simp
      have hnd := hC.1
      have hle : ss.length ≤ Maps.size D := by omega
      clear hC hl0 hcs
      rcases hrow.2 with ⟨rfl, h0⟩ | ⟨g, cap, cur, rfl, hbase, hb, h1, h2, h3, h4⟩
      · have hss : ss = [] := List.eq_nil_of_length_eq_zero (by simpa using h0)
        subst hss
        have hc := Tryz.slices_Sort_string_none none 0 wr
        go_wp2_with fail
        refine hc.mono ?_
        rintro e w' ⟨rfl, rfl⟩
        go_wp2
        go_ret
        exact ⟨_, [], rfl, hnd, hmem, hle, by simpa using hrow, hnx⟩
      · have hH : Holds encStr wr g 0 ss.toArray := holds_of_block hb (by simpa using h4)
        have hgl : g < wr.heap.size := (Array.getElem?_eq_some_iff.1 hb).1
        have hc := Tryz.slices_Sort_string g 0 cap ss wr hH hgl (by omega)
        have hbs : ∀ (nn : Nat) (os : Array Obj), Below w.heap.size w (grow (putRow encStr (Sort.ahead wr nn) g 0 (ss.mergeSort leB).toArray) os) := fun nn os => hnx.grown (grownBy_sorted _) hnx.size (fun j hj => by cases hj; exact hbase)
        have hos : ∀ (nn : Nat) (os : Array Obj), (grow (putRow encStr (Sort.ahead wr nn) g 0 (ss.mergeSort leB).toArray) os).ownsRow w.heap.size 9 1 (.slice (some ⟨g, 0, none⟩) ss.length cap) ss.length ((ss.mergeSort leB).map encStr) := fun nn os => ownsRow_sorted (by simp) hbase hb h1 h2 h3
        clear hH hgl hb h1 h2 h3 h4 hrow hrg
        go_wp2_with fail
        refine hc.mono ?_
        rintro e w' ⟨rfl, nn, os, rfl⟩
        go_wp2
        go_ret
        exact ⟨_, ss, rfl, hnd, hmem, hle, hos nn os, hbs nn os⟩
    · intro x c kl yd yp w2 cnt2 hkey hlk hv hat hrg2 hlt hg2 hs2 hen
      obtain ⟨x', ex, rfl, _⟩ := Maps.keyOf_str Tryz.underlying9 hkey
      obtain rfl : x = x' := encStr_inj ex
      have hrow2 := hrow.kept hg2 (Or.inr (row_ne_iter hrow hrg).symm)
      have hnx2 : Below w.heap.size w w2 := hnx.grown hg2 hnx.size (fun j hj => by cases hj; exact Nat.le_refl _)
      have hz2 := hnx2.size
      clear hs2
      go_wp2_with (at_builtin; refine wpList_app1 Tryz.el_string rfl (.tmp 11) (.tmp 13) rfl w w2 u3 ss.length _ rfl hrow2 hnx2 hz2 #[encStr x] (.inr rfl) 1 1 rfl rfl (by simp [Value.oneCell', encStr]) (by omega) (by omega) (by omega) ?_)
      intro g cap w3 hown' hb3 hg3 _ _
      have hrg3 := hrg2.kept hg3 (row_ne_low hrow2 hbl) (row_ne_iter hrow2 hrg2)
      have hm3 := hrg3.left_eq
      have hst := hC.step hlk hat
      go_wp2
      go_roundw
      case rel => exact ⟨_, cnt2, ss ++ [x], hrg3, by simp; omega, by simpa using hown', hst, hb3⟩
      case measure => rw [hrg3.left_eq, hrg.left_eq]; exact hlt

set_option maxRecDepth 20000 in
set_option maxHeartbeats 1600000 in
theorem namesAscend_any (l : List BoxD) (v : Value) (w : World) (hr : LfRd w (boxsLf l) v) (hs : szLf (boxsLf l) ≤ 1048576) (hbd : LfBnd (boxsLf l)) :
    Calls Tryz.prog 70 #[v] w fun e w' => e = .returned (.bool (ascB l)) ∧ Below w.heap.size w w' := by
  have hl : l.length ≤ 1048576 := (boxes_small hs hbd).1
  have HKN := Lib.hid (boxes_small hs hbd).2.1
  have C := Lib.hid (placesByName_any l v w hr hs hbd)
  obtain ⟨p, c, rfl⟩ := LfRd.slice hr
  have HM := Lib.hid (fun s => nMap_has l s)
  have HA := Lib.hid (fun (s : List UInt8) (z : DataW Unit) => nMap_at (l := l) (s := s) z)
  have HN := Lib.hid (fun ss h1 h2 => names_asc (l := l) (ss := ss) h1 h2)
  clear hr hs hbd
  generalize mapOf nKey l 0 = D at *
  go_enter Tryz.func70, Tryz.ntmps70
  go_wp2_with fail
  refine (C.out).mono ?_
  rintro e w1 ⟨rfl, hown, b1⟩
  have C2 := Lib.hid (sortedNames_any D w.heap.size l.length w1 hown hl)
  have HO := Lib.hid hown
  clear hown C
  go_wp2_with fail
  refine (C2.out).mono ?_
  rintro e w2 ⟨vs, ss, rfl, hnd, hmem, hle, hrow, b2⟩
  have hown2 := ownsMap_below HO.out b2
  have hmm : ∀ x, x ∈ ss ↔ l.any (fun b => b.name == x) = true := fun x => by rw [hmem x, HM.out x]
  have HV := Lib.hid (HN.out ss hnd hmm)
  have hin : ∀ x, x ∈ ss.mergeSort leB → l.any (fun b => b.name == x) = true := fun x hx => (hmm x).1 ((List.mergeSort_perm ss leB).mem_iff.1 hx)
  have hnl : (ss.mergeSort leB).length = ss.length := List.length_mergeSort ss
  have hsz : ss.length ≤ 1048576 := Nat.le_trans hle (Nat.le_trans HO.out.size_le hl)
  have hb2 := b1.trans (b2.mono b1.size)
  have hrd : Rd1 sv w2 vs (ss.mergeSort leB) := Rd1.of_own hrow
  clear hnd hmem hle hrow HN C2 HO HM b1 b2 hmm
  rw [← hnl] at hsz
  clear hnl
  generalize ss.mergeSort leB = ns at *
  have HI := Lib.hid hin
  obtain ⟨q, d, rfl, hq⟩ := hrd.ex
  have HQ := Lib.hid hq
  clear hin hq hrd
  go_wp2
  go_loopw [5, 6, 13] (fun _ _ i wr => ∃ k : Nat, k ≤ ns.length ∧ i = .int .i64 k ∧ (List.range k).all (fun i => bxNamed l ((ns[i]?).getD []) == (i : Int)) = true ∧ wr = w2) (fun _ _ i _ => ns.length - (intOf i).toNat)
  case atStart => exact ⟨0, by omega, rfl, rfl, rfl⟩
  case round =>
    obtain ⟨k, hk, rfl, hall, rfl⟩ := hrel
    have HALL := Lib.hid hall
    clear hall
    by_cases hlt : k < ns.length
    case neg =>
      obtain rfl : k = ns.length := by omega
      have HR := Lib.hid (show namesR l ns = decide (ns.length = l.length) by unfold namesR; rw [HALL.out, Bool.true_and])
      have HE := Lib.hid (show ((ns.length : Int) == (l.length : Int)) = decide (ns.length = l.length) by rw [Bool.eq_iff_iff]; simp; omega)
      go_wp2
      go_ret
      exact ⟨by rw [← HV.out, HR.out, ← HE.out]; rfl, hb2⟩
    obtain ⟨b, off, rfl, hb1, hc⟩ := HQ.out.resolve_left (by intro h; subst h; simp at hlt)
    obtain ⟨x, hx⟩ : ∃ x, ns[k]? = some x := ⟨_, List.getElem?_eq_getElem hlt⟩
    have e0 := hc k x hx
    have hxin := HI.out x (List.mem_of_getElem? hx)
    have hkey : keyOf Tryz.prog 9 (sv x) = some (.string x) := Go.WideMaps.keyOf_string_mk Tryz.underlying9 (s := ⟨x.toArray⟩) (by
      obtain ⟨bb, hbb, e⟩ := List.any_eq_true.1 hxin
      have h1 := HKN.out bb hbb
      rw [show bb.name = x from by simpa using e] at h1
      show x.toArray.size ≤ maxLen
      unfold maxLen
      simp
      omega)
    have HK := Lib.hid (fun z => HA.out x z hxin)
    have hstep : ∀ t, (bxNamed l x == (k : Int)) = t → (fun i : Nat => bxNamed l ((ns[i]?).getD []) == (i : Int)) k = t := fun t ht => by dsimp only; rw [hx]; exact ht
    have HST := Lib.hid hstep
    clear hstep hxin hc HQ hx HKN
    cases ht : (bxNamed l x == (k : Int)) with
    | false =>
      have HNE := Lib.hid (fun (c : Int) (h : c = bxNamed l x) => (by rw [h]; exact ne_yes ht : (c != (k : Int)) = true))
      have HF := Lib.hid (show namesR l ns = false by unfold namesR; rw [range_not hlt (HST.out _ ht)]; rfl)
      clear ht HST
      go_wp2_with (at_lookup; refine wpList_lookup_own_int _ rfl _ _ 124 rfl 9 3 .i64 (Maps.string_keyed Tryz.underlying9) Tryz.underlying124 Tryz.underlying3 (Tryz.zeroValue3 _) w.heap.size l.length D rfl hown2 _ _ rfl hkey ?_; intro c2 hat hwc; have hcn := HNE.out c2 (lit_int (hat.symm.trans (HK.out _))); clear hat hwc)
      go_ret
      exact ⟨by rw [← HV.out, HF.out]; rfl, hb2⟩
    | true =>
      have HNE := Lib.hid (fun (c : Int) (h : c = bxNamed l x) => (by rw [h]; exact ne_not ht : (c != (k : Int)) = false))
      have HN := Lib.hid (range_step HALL.out (HST.out _ ht))
      clear ht HST
      go_wp2_with (at_lookup; refine wpList_lookup_own_int _ rfl _ _ 124 rfl 9 3 .i64 (Maps.string_keyed Tryz.underlying9) Tryz.underlying124 Tryz.underlying3 (Tryz.zeroValue3 _) w.heap.size l.length D rfl hown2 _ _ rfl hkey ?_; intro c2 hat hwc; have hcn := HNE.out c2 (lit_int (hat.symm.trans (HK.out _))); clear hat hwc)
      go_roundw
      case rel => exact ⟨k + 1, by omega, by go_num, HN.out, trivial⟩
      case measure => simp [intOf]; omega

set_option maxRecDepth 20000 in
set_option maxHeartbeats 1600000 in
theorem validitiesDiffer_any (l : List BoxD) (v : Value) (w : World) (hr : LfRd w (boxsLf l) v) (hs : szLf (boxsLf l) ≤ 1048576) (hbd : LfBnd (boxsLf l)) :
    Calls Tryz.prog 71 #[v] w fun e w' => e = .returned (.bool (diffB l)) ∧ Below w.heap.size w w' := by
  obtain ⟨hl, _, hkv, _⟩ := boxes_small hs hbd
  have HKV := Lib.hid hkv
  have C := Lib.hid (placesByValidity_any l v w hr hs hbd)
  obtain ⟨p, c, rs, rfl, hcl⟩ := boxes_cells hr
  have HC := Lib.hid hcl
  have HV0 := Lib.hid (vLeft_start l)
  clear hr hs hbd hkv hcl
  generalize mapOf vKey l 0 = D0 at *
  go_enter Tryz.func71, Tryz.ntmps71
  go_wp2_with fail
  refine (C.out).mono ?_
  rintro e w1 ⟨rfl, hown, b1⟩
  clear C
  go_wp2
  go_loopw [5, 6, 7, 12] (fun _ _ _ i wr => ∃ (k : Nat) (D : DataW Unit), k ≤ l.length ∧ i = .int .i64 k ∧ wr.ownsMap Tryz.prog 3 (plainElem Tryz.prog 3) w.heap.size l.length D ∧ vLeft l k D ∧ (l.take k).Pairwise (fun x y => (x.validity == y.validity) = false) ∧ Below w.heap.size w wr) (fun _ _ _ i _ => l.length - (intOf i).toNat)
  case atStart => exact ⟨0, D0, by omega, rfl, hown, HV0.out, List.Pairwise.nil, b1⟩
  case round =>
    obtain ⟨k, D, hk, rfl, hown1, hvl, hpw, hbr⟩ := hrel
    have HVL := Lib.hid hvl
    have HPW := Lib.hid hpw
    clear hown b1 HV0 hvl hpw
    by_cases hlt : k < l.length
    case neg =>
      obtain rfl : k = l.length := by omega
      have HV := Lib.hid (diff_end HPW.out)
      go_wp2
      go_ret
      exact ⟨by rw [HV.out]; rfl, hbr⟩
    obtain ⟨b, off, rfl, hb1, hc⟩ := HC.out.resolve_left (by intro h; subst h; simp at hlt)
    obtain ⟨x, hx⟩ : ∃ x, l[k]? = some x := ⟨_, List.getElem?_eq_getElem hlt⟩
    obtain ⟨e0, e1, e2, e3⟩ := hc.below hb1 hbr k x hx
    have hkey : keyOf Tryz.prog 3 (.int .i64 x.validity) = some (.int .i64 x.validity) := Maps.keyOf_int_mk Tryz.underlying3 (in64_wf (HKV.out x (List.mem_of_getElem? hx)))
    have hat0 := vLeft_at hx HVL.out
    have hown2 := fun o : Obj => hown1.alloc o
    have hbo := fun o : Obj => (hbr.alloc hbr.size o : Below w.heap.size w (wr.alloc o))
    have HNX := Lib.hid (vLeft_step hx HVL.out)
    clear hc hbr hown1
    cases ht : (l.take k).any (fun b => b.validity == x.validity) with
    | true =>
      have hh : Maps.has D (.int .i64 x.validity) = false := by rw [hat0, ht]; rfl
      have HV := Lib.hid (diff_not hx ht)
      clear hat0 ht hx HNX
      go_wp2_with (at_lookup; refine wpList_lookup_own_ok_int _ rfl _ _ 128 rfl 3 3 .i64 (Maps.int_keyed Tryz.underlying3) Tryz.underlying128 Tryz.underlying3 (Tryz.zeroValue3 _) w.heap.size l.length D rfl (hown2 _) _ _ rfl hkey ?_; intro c2 hat hwc; clear hat hwc)
      go_ret
      exact ⟨by rw [HV.out]; rfl, hbo _⟩
    | false =>
      have hh : Maps.has D (.int .i64 x.validity) = true := by rw [hat0, ht]; rfl
      have HN := Lib.hid (diff_step hx HPW.out ht)
      clear hat0 ht hx
      go_wp2_with (first
        | (at_lookup; refine wpList_lookup_own_ok_int _ rfl _ _ 128 rfl 3 3 .i64 (Maps.int_keyed Tryz.underlying3) Tryz.underlying128 Tryz.underlying3 (Tryz.zeroValue3 _) w.heap.size l.length D rfl (hown2 _) _ _ rfl hkey ?_; intro c2 hat hwc; clear hat hwc)
        | (at_delete; refine wpList_delete_own _ rfl _ _ 128 3 rfl 3 (Maps.int_keyed Tryz.underlying3) Tryz.underlying128 _ w.heap.size l.length D rfl (hown2 _) _ _ rfl hkey ?_; intro w3 hown3 hturn3; have hb3 := (hbo _).grown hturn3.grown (hbo _).size (fun j e => by cases e; exact Nat.le_refl _)))
      go_roundw
      case rel => exact ⟨k + 1, _, by omega, by go_num, hown3, HNX.out, HN.out, hb3⟩
      case measure => simp [intOf]; omega

set_option maxRecDepth 20000 in
set_option maxHeartbeats 1600000 in
theorem implBoxesOk_c {G : World → Prop} : CtrBoxesOk 22 G := by
  intro l v w hG hr _ hs hbd
  obtain ⟨hl, _, _, hsl⟩ := boxes_small hs hbd
  have C1 := Lib.hid (fun W (g : Below w.heap.size w W) => namesAscend_any l v W (LfRd.below g _ _ hr) hs hbd)
  have C2 := Lib.hid (fun W (g : Below w.heap.size w W) => validitiesDiffer_any l v W (LfRd.below g _ _ hr) hs hbd)
  have HP := Lib.hid (boxesB_parts l)
  have HS := Lib.hid hsl
  obtain ⟨p, c, rfl, hq⟩ := BoxD.at hr
  have HQ := Lib.hid hq
  clear hr hs hbd hsl hq
  go_enter Tryz.func22, Tryz.ntmps22
  go_wp2
  go_loopw [4, 7] (fun _ i wr => ∃ k : Nat, k ≤ l.length ∧ i = .int .i64 k ∧ (l.take k).all boxB = true ∧ Below w.heap.size w wr) (fun _ i _ => l.length - (intOf i).toNat)
  case atStart => exact ⟨0, by omega, rfl, rfl, Below.refl _ _⟩
  case round =>
    obtain ⟨k, hk, rfl, hall, hbr⟩ := hrel
    have HALL := Lib.hid hall
    clear hall
    by_cases hlt : k < l.length
    case neg =>
      obtain rfl : k = l.length := by omega
      have HA := Lib.hid (show l.all boxB = true by have := HALL.out; rwa [List.take_length] at this)
      have D1 := Lib.hid (C1.out wr hbr)
      clear C1
      cases h4 : decide ((l.length : Int) ≤ 4) with
      | false =>
        have HV := Lib.hid (show boxesB l = false by rw [HP.out, HA.out, h4]; rfl)
        have g4 : ¬ (l.length : Int) ≤ 4 := of_decide_eq_false h4
        clear h4
        go_wp2
        go_ret
        exact ⟨by rw [HV.out]; rfl, hbr⟩
      | true =>
        have g4 : (l.length : Int) ≤ 4 := of_decide_eq_true h4
        cases h5 : ascB l with
        | false =>
          have HV := Lib.hid (show boxesB l = false by rw [HP.out, HA.out, h4, h5]; rfl)
          rw [h5] at D1
          clear h4 h5
          go_wp2_with fail
          refine (D1.out).mono ?_
          rintro e w1 ⟨rfl, b1⟩
          have hb2 := hbr.trans (b1.mono hbr.size)
          clear b1
          go_wp2
          go_ret
          exact ⟨by rw [HV.out]; rfl, hb2⟩
        | true =>
          have HV := Lib.hid (show boxesB l = diffB l by rw [HP.out, HA.out, h4, h5]; rfl)
          rw [h5] at D1
          clear h4 h5
          go_wp2_with fail
          refine (D1.out).mono ?_
          rintro e w1 ⟨rfl, b1⟩
          have hb2 := hbr.trans (b1.mono hbr.size)
          clear b1
          go_wp2_with fail
          refine (C2.out w1 hb2).mono ?_
          rintro e w2 ⟨rfl, b2⟩
          have hb3 := hb2.trans (b2.mono hb2.size)
          clear b2
          go_wp2
          go_ret
          exact ⟨by rw [HV.out]; rfl, hb3⟩
    obtain ⟨b, off, rfl, hb1, hc⟩ := HQ.out.resolve_left (by intro h; subst h; simp at hlt)
    obtain ⟨x, hx⟩ : ∃ x, l[k]? = some x := ⟨_, List.getElem?_eq_getElem hlt⟩
    obtain ⟨r3, hr3, x0, x1, x2, x3⟩ := hc k x hx
    obtain ⟨sx1, sx2⟩ := HS.out x (List.mem_of_getElem? hx)
    obtain ⟨q3, d3, rfl⟩ := LfRd.slice hr3
    have e0 : wr.cell? ⟨b, off + k * 4, none⟩ = some (sv x.name) := (hbr.cell (p := ⟨b, off + k * 4, none⟩) hb1).trans x0
    have e1 : wr.cell? ⟨b, off + k * 4 + 1, none⟩ = some (.int .i64 x.validity) := (hbr.cell (p := ⟨b, off + k * 4 + 1, none⟩) hb1).trans x1
    have e2 : wr.cell? ⟨b, off + k * 4 + 2, none⟩ = some (.int .i64 x.next) := (hbr.cell (p := ⟨b, off + k * 4 + 2, none⟩) hb1).trans x2
    have e3 : wr.cell? ⟨b, off + k * 4 + 3, none⟩ = some (.slice q3 x.msgs.length d3) := (hbr.cell (p := ⟨b, off + k * 4 + 3, none⟩) hb1).trans x3
    have hbo := Lib.hid (fun o : Obj => (hbr.alloc hbr.size o : Below w.heap.size w (wr.alloc o)))
    have CB := Lib.hid (fun W (g : Below w.heap.size w W) => implBoxOk_c (G := fun _ => True) x (.slice q3 x.msgs.length d3) W trivial (LfRd.below g _ _ hr3) sx1 sx2)
    clear hc x0 x1 x2 x3 hr3 sx1 sx2 hbr
    cases ht : boxB x with
    | false =>
      rw [ht] at CB
      have HV := Lib.hid (show boxesB l = false by
        rw [HP.out, List.all_eq_false.2 ⟨x, List.mem_of_getElem? hx, by rw [ht]; simp⟩]
        rfl)
      clear ht hx
      go_wp2_with fail
      refine (CB.out _ (hbo.out _)).mono ?_
      rintro e w1 ⟨rfl, b1⟩
      have hb2 := (hbo.out _).trans (b1.mono (hbo.out _).size)
      clear b1
      go_wp2
      go_ret
      exact ⟨by rw [HV.out]; rfl, hb2⟩
    | true =>
      rw [ht] at CB
      have HN := Lib.hid (show (l.take (k + 1)).all boxB = true by rw [List.take_add_one, hx, List.all_append, HALL.out]; simp [ht])
      clear ht hx
      go_wp2_with fail
      refine (CB.out _ (hbo.out _)).mono ?_
      rintro e w1 ⟨rfl, b1⟩
      have hb2 := (hbo.out _).trans (b1.mono (hbo.out _).size)
      clear b1 e0 e1 e2 e3 CB hbo
      go_wp2
      go_roundw
      case rel => exact ⟨k + 1, by omega, by go_num, HN.out, hb2⟩
      case measure => simp [intOf]; omega

end Go.Proofs.YtbfgdbpfecffcaaGreatDoor
