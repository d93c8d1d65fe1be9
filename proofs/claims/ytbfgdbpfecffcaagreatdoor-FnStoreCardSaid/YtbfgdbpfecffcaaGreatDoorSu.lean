/-
  Su: BoxJ BoxK (what the claim needs of them).
-/
import Derived.Maps.OwnIn
import Derived.Sort.KeysCollected
import Derived.RangeFuncNested
import Derived.RangeFuncLeaves
import Derived.RangeFuncWrites
import Derived.WalkKit
import Derived.OwnWalkIn
import Derived.TacticsInMore
import Derived.LoopNIn
import Derived.LoopIn
import Derived.Maps.OwnSet
import Derived.Maps.RangeWalk
import Derived.Sort.OwnSorted
import Derived.Sort.EveryDepth
import Derived.Test.YtbfgdbpfecffcaaGreatDoorRows
import Derived.WalkSpells
import Derived.WalkLawsBesides
import Derived.Laws.IdiomStrings
import Derived.Lib.Hide
import Derived.Deep.AppendLies
import Derived.OrdersHeld
import Derived.Lib.ItoaNum
import Derived.Lib.ItoaMem
import Derived.Lib.AppendStr
import Derived.Lib.ItoaLen
import Derived.Lib.Strings
import Derived.Lib.Bytealg
import Derived.Lib.OthersKept
import Derived.Laws.RangeAny
import Derived.Laws.BitsAllLaws
import Derived.Laws.BitsLemmas
import Derived.IntWalk
import Derived.Handy
import Derived.Lib.Join
import Derived.Deep.Strs
import Derived.Test.YtbfgdbpfecffcaaGreatDoorProg
import Derived.Test.YtbfgdbpfecffcaaGreatDoorSa
import Derived.Test.YtbfgdbpfecffcaaGreatDoorSb
import Derived.Test.YtbfgdbpfecffcaaGreatDoorSc
import Derived.Test.YtbfgdbpfecffcaaGreatDoorSd
import Derived.Test.YtbfgdbpfecffcaaGreatDoorSe
import Derived.Test.YtbfgdbpfecffcaaGreatDoorSf
import Derived.Test.YtbfgdbpfecffcaaGreatDoorSh
import Derived.Test.YtbfgdbpfecffcaaGreatDoorSs
import Derived.Test.YtbfgdbpfecffcaaGreatDoorSt

namespace Go.Proofs.YtbfgdbpfecffcaaGreatDoor
open Go.RowKit Go.Sort

theorem ownsMap_below {P : Program} {k : TypeId} {R : Value → Option (DataW Unit × List MemPlace)} {w w' : World} {b n : Nat} {D : DataW Unit} (h : w.ownsMap P k R b n D) (hb : Below w.heap.size w w') : w'.ownsMap P k R b n D := by
  obtain ⟨es, ck, hh, F, hs, hD⟩ := h
  exact ⟨es, ck, (hb.block b (Array.getElem?_eq_some_iff.1 hh).1).trans hh, F, hs, hD⟩

def SortedPost (D : DataW Unit) (w : World) (e : Ending) (w' : World) : Prop := ∃ (v : Value) (ss : List (List UInt8)), e = .returned v ∧ ss.Nodup ∧ (∀ x, x ∈ ss ↔ Maps.has D (.string x) = true) ∧ ss.length ≤ Maps.size D ∧ w'.ownsRow w.heap.size 9 1 v ss.length ((ss.mergeSort leB).map encStr) ∧ Below w.heap.size w w'
set_option maxRecDepth 100000 in
set_option maxHeartbeats 1600000 in
theorem sortedNames_any (D : DataW Unit) (b n : Nat) (w : World) (hown : w.ownsMap Tryz.prog 9 (plainElem Tryz.prog 3) b n D) (hn : n ≤ 1048576) :
    Calls Tryz.prog 111 #[.map (some b)] w (SortedPost D w) := by
  have hbl := hown.lt
  have hmax : Maps.size D ≤ 1048576 := Nat.le_trans hown.size_le hn
  go_enter Tryz.func111, Tryz.ntmps111
  go_wp2_with (at_range; refine wpList_range_own _ rfl _ 124 rfl 9 3 (Maps.string_keyed Tryz.underlying9) Tryz.underlying124 _ b n _ rfl hown ?_; intro w0 hrg0 hg0 hs0)
  go_frame
  clear hs0
  go_loopw [3, 4] (fun v _ wr => ∃ (left : Lit → Bool) (cnt : Nat) (ss : List (List UInt8)), wr.ranges Tryz.prog 9 (plainElem Tryz.prog 3) b w.heap.size n D left cnt ∧ ss.length + cnt ≤ Maps.size D ∧
      wr.ownsRow w.heap.size 9 1 v ss.length (ss.map encStr) ∧ Go.Collected D left ss ∧ Below w.heap.size w wr)
    (fun _ _ wr => wr.rangeLeft b w.heap.size)
  case atStart =>
    exact ⟨_, _, [], hrg0, by simp, World.ownsRow_nil _ _ _ _, Collected.start D, (Below.refl _ _).grown hg0 (Nat.le_refl _) (fun j hj => by cases hj)⟩
  case round =>
    obtain ⟨left, cnt, ss, hrg, hcs, hrow, hC, hnx⟩ := hrel
    go_wp2_with (at_next; refine wpList_next_ranges _ rfl _ rfl 9 (Maps.string_keyed Tryz.underlying9) (plainElem Tryz.prog 3) encStr (Value.int .i64) (fun key kl hk => by obtain ⟨x, hx, _⟩ := Maps.keyOf_str Tryz.underlying9 hk; exact ⟨x, hx⟩) (fun v y hv => by obtain ⟨c, rfl, _⟩ := plainElem_int_inv Tryz.underlying3 hv; exact ⟨c, rfl⟩) b w.heap.size n _ _ _ rfl hrg ?_ ?_)
    · intro hc0 hl0
      have hmem : ∀ x, x ∈ ss ↔ Maps.has D (.string x) = true := fun x => by rw [hC.2 x, hl0]; simp
      have hnd := hC.1
      have hle : ss.length ≤ Maps.size D := by omega
      clear hC hl0 hcs
      rcases hrow.2 with ⟨rfl, h0⟩ | ⟨g, cap, cur, rfl, hbase, hb, h1, h2, h3, h4⟩
      · have hss : ss = [] := List.eq_nil_of_length_eq_zero (by simpa using h0)
        subst hss
        have hc := Tryz.slices_Sort_string_none none 0 wr
        go_wp2_with fail
        refine hc.mono ?_
        rintro e w' ⟨rfl, rfl⟩
        go_wp2
        go_ret
        exact ⟨_, [], rfl, hnd, hmem, hle, by simpa using hrow, hnx⟩
      · have hH : Holds encStr wr g 0 ss.toArray := holds_of_block hb (by simpa using h4)
        have hgl : g < wr.heap.size := (Array.getElem?_eq_some_iff.1 hb).1
        have hc := Tryz.slices_Sort_string g 0 cap ss wr hH hgl (by omega)
        have hbs : ∀ (nn : Nat) (os : Array Obj), Below w.heap.size w (grow (putRow encStr (Sort.ahead wr nn) g 0 (ss.mergeSort leB).toArray) os) := fun nn os => hnx.grown (grownBy_sorted _) hnx.size (fun j hj => by cases hj; exact hbase)
        have hos : ∀ (nn : Nat) (os : Array Obj), (grow (putRow encStr (Sort.ahead wr nn) g 0 (ss.mergeSort leB).toArray) os).ownsRow w.heap.size 9 1 (.slice (some ⟨g, 0, none⟩) ss.length cap) ss.length ((ss.mergeSort leB).map encStr) := fun nn os => ownsRow_sorted (by simp) hbase hb h1 h2 h3
        clear hH hgl hb h1 h2 h3 h4 hrow hrg
        go_wp2_with fail
        refine hc.mono ?_
        rintro e w' ⟨rfl, nn, os, rfl⟩
        go_wp2
        go_ret
        exact ⟨_, ss, rfl, hnd, hmem, hle, hos nn os, hbs nn os⟩
    · intro x c kl yd yp w2 cnt2 hkey hlk hv hat hrg2 hlt hg2 hs2 hen
      obtain ⟨x', ex, rfl, _⟩ := Maps.keyOf_str Tryz.underlying9 hkey
      obtain rfl : x = x' := encStr_inj ex
      have hrow2 := hrow.kept hg2 (Or.inr (row_ne_iter hrow hrg).symm)
      have hnx2 : Below w.heap.size w w2 := hnx.grown hg2 hnx.size (fun j hj => by cases hj; exact Nat.le_refl _)
      have hz2 := hnx2.size
      clear hs2
      go_wp2_with (at_builtin; refine wpList_app1 Tryz.el_string rfl (.tmp 11) (.tmp 13) rfl w w2 u3 ss.length _ rfl hrow2 hnx2 hz2 #[encStr x] (.inr rfl) 1 1 rfl rfl (by simp [Value.oneCell', encStr]) (by omega) (by omega) (by omega) ?_)
      intro g cap w3 hown' hb3 hg3 _ _
      have hrg3 := hrg2.kept hg3 (row_ne_low hrow2 hbl) (row_ne_iter hrow2 hrg2)
      have hm3 := hrg3.left_eq
      have hst := hC.step hlk hat
      go_wp2
      go_roundw
      case rel => exact ⟨_, cnt2, ss ++ [x], hrg3, by simp; omega, by simpa using hown', hst, hb3⟩
      case measure => rw [hrg3.left_eq, hrg.left_eq]; exact hlt

set_option maxRecDepth 20000 in
set_option maxHeartbeats 1600000 in
theorem namesAscend_any (l : List BoxD) (v : Value) (w : World) (hr : LfRd w (boxsLf l) v) (hs : szLf (boxsLf l) ≤ 1048576) (hbd : LfBnd (boxsLf l)) :
    Calls Tryz.prog 70 #[v] w fun e w' => e = .returned (.bool (ascB l)) ∧ Below w.heap.size w w' := by
  have hl : l.length ≤ 1048576 := (boxes_small hs hbd).1
  have HKN := Lib.hid (boxes_small hs hbd).2.1
  have C := Lib.hid (placesByName_any l v w hr hs hbd)
  obtain ⟨p, c, rfl⟩ := LfRd.slice hr
  have HM := Lib.hid (fun s => nMap_has l s)
  have HA := Lib.hid (fun (s : List UInt8) (z : DataW Unit) => nMap_at (l := l) (s := s) z)
  have HN := Lib.hid (fun ss h1 h2 => names_asc (l := l) (ss := ss) h1 h2)
  clear hr hs hbd
  generalize mapOf nKey l 0 = D at *
  go_enter Tryz.func70, Tryz.ntmps70
  go_wp2_with fail
  refine (C.out).mono ?_
  rintro e w1 ⟨rfl, hown, b1⟩
  have C2 := Lib.hid (sortedNames_any D w.heap.size l.length w1 hown hl)
  have HO := Lib.hid hown
  clear hown C
  go_wp2_with fail
  refine (C2.out).mono ?_
  rintro e w2 ⟨vs, ss, rfl, hnd, hmem, hle, hrow, b2⟩
  have hown2 := ownsMap_below HO.out b2
  have hmm : ∀ x, x ∈ ss ↔ l.any (fun b => b.name == x) = true := fun x => by rw [hmem x, HM.out x]
  have HV := Lib.hid (HN.out ss hnd hmm)
  have hin : ∀ x, x ∈ ss.mergeSort leB → l.any (fun b => b.name == x) = true := fun x hx => (hmm x).1 ((List.mergeSort_perm ss leB).mem_iff.1 hx)
  have hnl : (ss.mergeSort leB).length = ss.length := List.length_mergeSort ss
  have hsz : ss.length ≤ 1048576 := Nat.le_trans hle (Nat.le_trans HO.out.size_le hl)
  have hb2 := b1.trans (b2.mono b1.size)
  have hrd : Rd1 sv w2 vs (ss.mergeSort leB) := Rd1.of_own hrow
  clear hnd hmem hle hrow HN C2 HO HM b1 b2 hmm
  rw [← hnl] at hsz
  clear hnl
  generalize ss.mergeSort leB = ns at *
  have HI := Lib.hid hin
  obtain ⟨q, d, rfl, hq⟩ := hrd.ex
  have HQ := Lib.hid hq
  clear hin hq hrd
  go_wp2
  go_loopw [5, 6, 13] (fun _ _ i wr => ∃ k : Nat, k ≤ ns.length ∧ i = .int .i64 k ∧ (List.range k).all (fun i => bxNamed l ((ns[i]?).getD []) == (i : Int)) = true ∧ wr = w2) (fun _ _ i _ => ns.length - (intOf i).toNat)
  case atStart => exact ⟨0, by omega, rfl, rfl, rfl⟩
  case round =>
    obtain ⟨k, hk, rfl, hall, rfl⟩ := hrel
    have HALL := Lib.hid hall
    clear hall
    by_cases hlt : k < ns.length
    case neg =>
      obtain rfl : k = ns.length := by omega
      have HR := Lib.hid (show namesR l ns = decide (ns.length = l.length) by unfold namesR; rw [HALL.out, Bool.true_and])
      have HE := Lib.hid (show ((ns.length : Int) == (l.length : Int)) = decide (ns.length = l.length) by rw [Bool.eq_iff_iff]; simp; omega)
      go_wp2
      go_ret
      exact ⟨by rw [← HV.out, HR.out, ← HE.out]; rfl, hb2⟩
    obtain ⟨b, off, rfl, hb1, hc⟩ := HQ.out.resolve_left (by intro h; subst h; simp at hlt)
    obtain ⟨x, hx⟩ : ∃ x, ns[k]? = some x := ⟨_, List.getElem?_eq_getElem hlt⟩
    have e0 := hc k x hx
    have hxin := HI.out x (List.mem_of_getElem? hx)
    have hkey : keyOf Tryz.prog 9 (sv x) = some (.string x) := Go.WideMaps.keyOf_string_mk Tryz.underlying9 (s := ⟨x.toArray⟩) (by
      obtain ⟨bb, hbb, e⟩ := List.any_eq_true.1 hxin
      have h1 := HKN.out bb hbb
      rw [show bb.name = x from by simpa using e] at h1
      show x.toArray.size ≤ maxLen
      unfold maxLen
      simp
      omega)
    have HK := Lib.hid (fun z => HA.out x z hxin)
    have hstep : ∀ t, (bxNamed l x == (k : Int)) = t → (fun i : Nat => bxNamed l ((ns[i]?).getD []) == (i : Int)) k = t := fun t ht => by dsimp only; rw [hx]; exact ht
    have HST := Lib.hid hstep
    clear hstep hxin hc HQ hx HKN
    cases ht : (bxNamed l x == (k : Int)) with
    | false =>
      have HNE := Lib.hid (fun (c : Int) (h : c = bxNamed l x) => (by rw [h]; exact ne_yes ht : (c != (k : Int)) = true))
      have HF := Lib.hid (show namesR l ns = false by unfold namesR; rw [range_not hlt (HST.out _ ht)]; rfl)
      clear ht HST
      go_wp2_with (at_lookup; refine wpList_lookup_own_int _ rfl _ _ 124 rfl 9 3 .i64 (Maps.string_keyed Tryz.underlying9) Tryz.underlying124 Tryz.underlying3 (Tryz.zeroValue3 _) w.heap.size l.length D rfl hown2 _ _ rfl hkey ?_; intro c2 hat hwc; have hcn := HNE.out c2 (lit_int (hat.symm.trans (HK.out _))); clear hat hwc)
      go_ret
      exact ⟨by rw [← HV.out, HF.out]; rfl, hb2⟩
    | true =>
      have HNE := Lib.hid (fun (c : Int) (h : c = bxNamed l x) => (by rw [h]; exact ne_not ht : (c != (k : Int)) = false))
      have HN := Lib.hid (range_step HALL.out (HST.out _ ht))
      clear ht HST
      go_wp2_with (at_lookup; refine wpList_lookup_own_int _ rfl _ _ 124 rfl 9 3 .i64 (Maps.string_keyed Tryz.underlying9) Tryz.underlying124 Tryz.underlying3 (Tryz.zeroValue3 _) w.heap.size l.length D rfl hown2 _ _ rfl hkey ?_; intro c2 hat hwc; have hcn := HNE.out c2 (lit_int (hat.symm.trans (HK.out _))); clear hat hwc)
      go_roundw
      case rel => exact ⟨k + 1, by omega, by go_num, HN.out, trivial⟩
      case measure => simp [intOf]; omega

set_option maxRecDepth 20000 in
set_option maxHeartbeats 1600000 in
theorem validitiesDiffer_any (l : List BoxD) (v : Value) (w : World) (hr : LfRd w (boxsLf l) v) (hs : szLf (boxsLf l) ≤ 1048576) (hbd : LfBnd (boxsLf l)) :
    Calls Tryz.prog 71 #[v] w fun e w' => e = .returned (.bool (diffB l)) ∧ Below w.heap.size w w' := by
  obtain ⟨hl, _, hkv, _⟩ := boxes_small hs hbd
  have HKV := Lib.hid hkv
  have C := Lib.hid (placesByValidity_any l v w hr hs hbd)
  obtain ⟨p, c, rs, rfl, hcl⟩ := boxes_cells hr
  have HC := Lib.hid hcl
  have HV0 := Lib.hid (vLeft_start l)
  clear hr hs hbd hkv hcl
  generalize mapOf vKey l 0 = D0 at *
  go_enter Tryz.func71, Tryz.ntmps71
  go_wp2_with fail
  refine (C.out).mono ?_
  rintro e w1 ⟨rfl, hown, b1⟩
  clear C
  go_wp2
  go_loopw [5, 6, 7, 12] (fun _ _ _ i wr => ∃ (k : Nat) (D : DataW Unit), k ≤ l.length ∧ i = .int .i64 k ∧ wr.ownsMap Tryz.prog 3 (plainElem Tryz.prog 3) w.heap.size l.length D ∧ vLeft l k D ∧ (l.take k).Pairwise (fun x y => (x.validity == y.validity) = false) ∧ Below w.heap.size w wr) (fun _ _ _ i _ => l.length - (intOf i).toNat)
  case atStart => exact ⟨0, D0, by omega, rfl, hown, HV0.out, List.Pairwise.nil, b1⟩
  case round =>
    obtain ⟨k, D, hk, rfl, hown1, hvl, hpw, hbr⟩ := hrel
    have HVL := Lib.hid hvl
    have HPW := Lib.hid hpw
    clear hown b1 HV0 hvl hpw
    by_cases hlt : k < l.length
    case neg =>
      obtain rfl : k = l.length := by omega
      have HV := Lib.hid (diff_end HPW.out)
      go_wp2
      go_ret
      exact ⟨by rw [HV.out]; rfl, hbr⟩
    obtain ⟨b, off, rfl, hb1, hc⟩ := HC.out.resolve_left (by intro h; subst h; simp at hlt)
    obtain ⟨x, hx⟩ : ∃ x, l[k]? = some x := ⟨_, List.getElem?_eq_getElem hlt⟩
    obtain ⟨e0, e1, e2, e3⟩ := hc.below hb1 hbr k x hx
    have hkey : keyOf Tryz.prog 3 (.int .i64 x.validity) = some (.int .i64 x.validity) := Maps.keyOf_int_mk Tryz.underlying3 (in64_wf (HKV.out x (List.mem_of_getElem? hx)))
    have hat0 := vLeft_at hx HVL.out
    have hown2 := fun o : Obj => hown1.alloc o
    have hbo := fun o : Obj => (hbr.alloc hbr.size o : Below w.heap.size w (wr.alloc o))
    have HNX := Lib.hid (vLeft_step hx HVL.out)
    clear hc hbr hown1
    cases ht : (l.take k).any (fun b => b.validity == x.validity) with
    | true =>
      have hh : Maps.has D (.int .i64 x.validity) = false := by rw [hat0, ht]; rfl
      have HV := Lib.hid (diff_not hx ht)
      clear hat0 ht hx HNX
      go_wp2_with (at_lookup; refine wpList_lookup_own_ok_int _ rfl _ _ 128 rfl 3 3 .i64 (Maps.int_keyed Tryz.underlying3) Tryz.underlying128 Tryz.underlying3 (Tryz.zeroValue3 _) w.heap.size l.length D rfl (hown2 _) _ _ rfl hkey ?_; intro c2 hat hwc; clear hat hwc)
      go_ret
      exact ⟨by rw [HV.out]; rfl, hbo _⟩
    | false =>
      have hh : Maps.has D (.int .i64 x.validity) = true := by rw [hat0, ht]; rfl
      have HN := Lib.hid (diff_step hx HPW.out ht)
      clear hat0 ht hx
      go_wp2_with (first
        | (at_lookup; refine wpList_lookup_own_ok_int _ rfl _ _ 128 rfl 3 3 .i64 (Maps.int_keyed Tryz.underlying3) Tryz.underlying128 Tryz.underlying3 (Tryz.zeroValue3 _) w.heap.size l.length D rfl (hown2 _) _ _ rfl hkey ?_; intro c2 hat hwc; clear hat hwc)
        | (at_delete; refine wpList_delete_own _ rfl _ _ 128 3 rfl 3 (Maps.int_keyed Tryz.underlying3) Tryz.underlying128 _ w.heap.size l.length D rfl (hown2 _) _ _ rfl hkey ?_; intro w3 hown3 hturn3; have hb3 := (hbo _).grown hturn3.grown (hbo _).size (fun j e => by cases e; exact Nat.le_refl _)))
      go_roundw
      case rel => exact ⟨k + 1, _, by omega, by go_num, hown3, HNX.out, HN.out, hb3⟩
      case measure => simp [intOf]; omega

set_option maxRecDepth 20000 in
set_option maxHeartbeats 1600000 in
theorem implBoxesOk_c {G : World → Prop} : CtrBoxesOk 22 G := by
  intro l v w hG hr _ hs hbd
  obtain ⟨hl, _, _, hsl⟩ := boxes_small hs hbd
  have C1 := Lib.hid (fun W (g : Below w.heap.size w W) => namesAscend_any l v W (LfRd.below g _ _ hr) hs hbd)
  have C2 := Lib.hid (fun W (g : Below w.heap.size w W) => validitiesDiffer_any l v W (LfRd.below g _ _ hr) hs hbd)
  have HP := Lib.hid (boxesB_parts l)
  have HS := Lib.hid hsl
  obtain ⟨p, c, rfl, hq⟩ := BoxD.at hr
  have HQ := Lib.hid hq
  clear hr hs hbd hsl hq
  go_enter Tryz.func22, Tryz.ntmps22
  go_wp2
  go_loopw [4, 7] (fun _ i wr => ∃ k : Nat, k ≤ l.length ∧ i = .int .i64 k ∧ (l.take k).all boxB = true ∧ Below w.heap.size w wr) (fun _ i _ => l.length - (intOf i).toNat)
  case atStart => exact ⟨0, by omega, rfl, rfl, Below.refl _ _⟩
  case round =>
    obtain ⟨k, hk, rfl, hall, hbr⟩ := hrel
    have HALL := Lib.hid hall
    clear hall
    by_cases hlt : k < l.length
    case neg =>
      obtain rfl : k = l.length := by omega
      have HA := Lib.hid (show l.all boxB = true by have := HALL.out; rwa [List.take_length] at this)
      have D1 := Lib.hid (C1.out wr hbr)
      clear C1
      cases h4 : decide ((l.length : Int) ≤ 4) with
      | false =>
        have HV := Lib.hid (show boxesB l = false by rw [HP.out, HA.out, h4]; rfl)
        have g4 : ¬ (l.length : Int) ≤ 4 := of_decide_eq_false h4
        clear h4
        go_wp2
        go_ret
        exact ⟨by rw [HV.out]; rfl, hbr⟩
      | true =>
        have g4 : (l.length : Int) ≤ 4 := of_decide_eq_true h4
        cases h5 : ascB l with
        | false =>
          have HV := Lib.hid (show boxesB l = false by rw [HP.out, HA.out, h4, h5]; rfl)
          rw [h5] at D1
          clear h4 h5
          go_wp2_with fail
          refine (D1.out).mono ?_
          rintro e w1 ⟨rfl, b1⟩
          have hb2 := hbr.trans (b1.mono hbr.size)
          clear b1
          go_wp2
          go_ret
          exact ⟨by rw [HV.out]; rfl, hb2⟩
        | true =>
          have HV := Lib.hid (show boxesB l = diffB l by rw [HP.out, HA.out, h4, h5]; rfl)
          rw [h5] at D1
          clear h4 h5
          go_wp2_with fail
          refine (D1.out).mono ?_
          rintro e w1 ⟨rfl, b1⟩
          have hb2 := hbr.trans (b1.mono hbr.size)
          clear b1
          go_wp2_with fail
          refine (C2.out w1 hb2).mono ?_
          rintro e w2 ⟨rfl, b2⟩
          have hb3 := hb2.trans (b2.mono hb2.size)
          clear b2
          go_wp2
          go_ret
          exact ⟨by rw [HV.out]; rfl, hb3⟩
    obtain ⟨b, off, rfl, hb1, hc⟩ := HQ.out.resolve_left (by intro h; subst h; simp at hlt)
    obtain ⟨x, hx⟩ : ∃ x, l[k]? = some x := ⟨_, List.getElem?_eq_getElem hlt⟩
    obtain ⟨r3, hr3, x0, x1, x2, x3⟩ := hc k x hx
    obtain ⟨sx1, sx2⟩ := HS.out x (List.mem_of_getElem? hx)
    obtain ⟨q3, d3, rfl⟩ := LfRd.slice hr3
    have e0 : wr.cell? ⟨b, off + k * 4, none⟩ = some (sv x.name) := (hbr.cell (p := ⟨b, off + k * 4, none⟩) hb1).trans x0
    have e1 : wr.cell? ⟨b, off + k * 4 + 1, none⟩ = some (.int .i64 x.validity) := (hbr.cell (p := ⟨b, off + k * 4 + 1, none⟩) hb1).trans x1
    have e2 : wr.cell? ⟨b, off + k * 4 + 2, none⟩ = some (.int .i64 x.next) := (hbr.cell (p := ⟨b, off + k * 4 + 2, none⟩) hb1).trans x2
    have e3 : wr.cell? ⟨b, off + k * 4 + 3, none⟩ = some (.slice q3 x.msgs.length d3) := (hbr.cell (p := ⟨b, off + k * 4 + 3, none⟩) hb1).trans x3
    have hbo := Lib.hid (fun o : Obj => (hbr.alloc hbr.size o : Below w.heap.size w (wr.alloc o)))
    have CB := Lib.hid (fun W (g : Below w.heap.size w W) => implBoxOk_c (G := fun _ => True) x (.slice q3 x.msgs.length d3) W trivial (LfRd.below g _ _ hr3) sx1 sx2)
    clear hc x0 x1 x2 x3 hr3 sx1 sx2 hbr
    cases ht : boxB x with
    | false =>
      rw [ht] at CB
      have HV := Lib.hid (show boxesB l = false by
        rw [HP.out, List.all_eq_false.2 ⟨x, List.mem_of_getElem? hx, by rw [ht]; simp⟩]
        rfl)
      clear ht hx
      go_wp2_with fail
      refine (CB.out _ (hbo.out _)).mono ?_
      rintro e w1 ⟨rfl, b1⟩
      have hb2 := (hbo.out _).trans (b1.mono (hbo.out _).size)
      clear b1
      go_wp2
      go_ret
      exact ⟨by rw [HV.out]; rfl, hb2⟩
    | true =>
      rw [ht] at CB
      have HN := Lib.hid (show (l.take (k + 1)).all boxB = true by rw [List.take_add_one, hx, List.all_append, HALL.out]; simp [ht])
      clear ht hx
      go_wp2_with fail
      refine (CB.out _ (hbo.out _)).mono ?_
      rintro e w1 ⟨rfl, b1⟩
      have hb2 := (hbo.out _).trans (b1.mono (hbo.out _).size)
      clear b1 e0 e1 e2 e3 CB hbo
      go_wp2
      go_roundw
      case rel => exact ⟨k + 1, by omega, by go_num, HN.out, hb2⟩
      case measure => simp [intOf]; omega

end Go.Proofs.YtbfgdbpfecffcaaGreatDoor

namespace Go.Proofs.YtbfgdbpfecffcaaGreatDoor
open Go.RowKit

set_option maxHeartbeats 3200000 in
theorem msgEqual_any (a b : Value) (l m : List MsgD) (w : World) (ha : LfRd w (msgsLf l) a) (hb : LfRd w (msgsLf m) b) (hl : l.length ≤ 1048576) :
    Calls Tryz.prog 147 #[a, b] w fun e w' => e = .returned (.bool (decide (l = m))) ∧ Below w.heap.size w w' := by
  obtain ⟨p, c1, rfl, hp⟩ := MsgD.at ha
  obtain ⟨q, c2, rfl, hq⟩ := MsgD.at hb
  clear ha hb
  have HP := Lib.hid hp
  have HQ := Lib.hid hq
  clear hp hq
  by_cases hlen : l.length = m.length
  · rw [← hlen]
    have HL := Lib.hid hlen
    clear hlen
    go_enter Tryz.func147, Tryz.ntmps147
    go_wp2
    go_loopw [5, 13] (fun u i wr => ∃ k : Nat, k ≤ l.length ∧ i = .int .i64 k ∧ l.take k = m.take k ∧ Below w.heap.size w wr) (fun u i _ => l.length - (intOf i).toNat)
    case atStart => exact ⟨0, by omega, rfl, rfl, Below.refl _ _⟩
    case round =>
      obtain ⟨k, hk, rfl, hall, hbr⟩ := hrel
      have Hall := Lib.hid hall
      clear hall
      by_cases hlt : k < l.length
      · obtain ⟨b1, o1, rfl, hb1, hc1⟩ := HP.out.resolve_left (by intro h; subst h; simp at hlt)
        obtain ⟨b2, o2, rfl, hb2, hc2⟩ := HQ.out.resolve_left (by intro h; have hlen := HL.out; rw [h] at hlen; simp at hlen; simp [hlen] at hlt)
        obtain ⟨x, hx⟩ : ∃ x, l[k]? = some x := ⟨_, List.getElem?_eq_getElem hlt⟩
        obtain ⟨y, hy⟩ : ∃ y, m[k]? = some y := ⟨_, List.getElem?_eq_getElem (by have := HL.out; omega)⟩
        obtain ⟨x0, x1, x2⟩ := hc1 k x hx
        obtain ⟨y0, y1, y2⟩ := hc2 k y hy
        have e0 : wr.drew.cell? ⟨b1, o1 + k * 3, none⟩ = some (.int .i64 x.uid) := (hbr.cell (p := ⟨b1, o1 + k * 3, none⟩) hb1).trans x0
        have e1 : wr.drew.cell? ⟨b1, o1 + k * 3 + 1, none⟩ = some (.int .i64 x.flags) := (hbr.cell (p := ⟨b1, o1 + k * 3 + 1, none⟩) hb1).trans x1
        have e2 : wr.drew.cell? ⟨b1, o1 + k * 3 + 2, none⟩ = some (sv x.text) := (hbr.cell (p := ⟨b1, o1 + k * 3 + 2, none⟩) hb1).trans x2
        have f0 : wr.drew.cell? ⟨b2, o2 + k * 3, none⟩ = some (.int .i64 y.uid) := (hbr.cell (p := ⟨b2, o2 + k * 3, none⟩) hb2).trans y0
        have f1 : wr.drew.cell? ⟨b2, o2 + k * 3 + 1, none⟩ = some (.int .i64 y.flags) := (hbr.cell (p := ⟨b2, o2 + k * 3 + 1, none⟩) hb2).trans y1
        have f2 : wr.drew.cell? ⟨b2, o2 + k * 3 + 2, none⟩ = some (sv y.text) := (hbr.cell (p := ⟨b2, o2 + k * 3 + 2, none⟩) hb2).trans y2
        have hno := Lib.hid (fun h : x ≠ y => (decide_eq_false (same_not hx hy h) : decide (l = m) = false))
        have hyes := Lib.hid (fun h : x = y => same_take hx (by rw [hy, h]) Hall.out)
        clear hc1 hc2 hx hy Hall x0 x1 x2 y0 y1 y2
        cases h0 : (x.uid == y.uid) with
        | false =>
          have HV := Lib.hid (hno.out (by intro e; rw [e] at h0; simp at h0))
          clear hno hyes HP HQ HL
          go_wp2
          refine ord_start [(0, true), (1, true), (2, true), (3, true), (4, true), (5, true), (6, true), (7, true), (8, true)] (fun W => W.cell? ⟨b1, o1 + k * 3, none⟩ = some (.int .i64 x.uid) ∧ W.cell? ⟨b1, o1 + k * 3 + 1, none⟩ = some (.int .i64 x.flags) ∧ W.cell? ⟨b1, o1 + k * 3 + 2, none⟩ = some (sv x.text) ∧ W.cell? ⟨b2, o2 + k * 3, none⟩ = some (.int .i64 y.uid) ∧ W.cell? ⟨b2, o2 + k * 3 + 1, none⟩ = some (.int .i64 y.flags) ∧ W.cell? ⟨b2, o2 + k * 3 + 2, none⟩ = some (sv y.text)) (by kernel_rfl) (by kernel_rfl) rfl (by kernel_rfl) ?_
          intro ops' hops
          clear hops
          simp only [List.map_cons, List.map_nil, pickOp_zero, pickOp_succ]
          iterate 9 (refine ord_flo ?_ (fun _ _ _ h => h) rfl ?_ ⟨e0, e1, e2, f0, f1, f2⟩ ?_; rotate_left; focus (intro W hS; obtain ⟨s1, s2, s3, s4, s5, s6⟩ := hS; go_simp; rfl))
          refine ord_done ?_
          go_simp
          go_wp2
          go_ret
          exact ⟨by rw [HV.out]; rfl, hbr.drew⟩
        | true =>
          cases h1 : (x.flags == y.flags) with
          | false =>
            have HV := Lib.hid (hno.out (by intro e; rw [e] at h1; simp at h1))
            clear hno hyes HP HQ HL
            go_wp2
            refine ord_start [(0, true), (1, true), (2, true), (3, true), (4, true), (5, true), (6, true), (7, true), (8, true)] (fun W => W.cell? ⟨b1, o1 + k * 3, none⟩ = some (.int .i64 x.uid) ∧ W.cell? ⟨b1, o1 + k * 3 + 1, none⟩ = some (.int .i64 x.flags) ∧ W.cell? ⟨b1, o1 + k * 3 + 2, none⟩ = some (sv x.text) ∧ W.cell? ⟨b2, o2 + k * 3, none⟩ = some (.int .i64 y.uid) ∧ W.cell? ⟨b2, o2 + k * 3 + 1, none⟩ = some (.int .i64 y.flags) ∧ W.cell? ⟨b2, o2 + k * 3 + 2, none⟩ = some (sv y.text)) (by kernel_rfl) (by kernel_rfl) rfl (by kernel_rfl) ?_
            intro ops' hops
            clear hops
            simp only [List.map_cons, List.map_nil, pickOp_zero, pickOp_succ]
            iterate 9 (refine ord_flo ?_ (fun _ _ _ h => h) rfl ?_ ⟨e0, e1, e2, f0, f1, f2⟩ ?_; rotate_left; focus (intro W hS; obtain ⟨s1, s2, s3, s4, s5, s6⟩ := hS; go_simp; rfl))
            refine ord_done ?_
            go_simp
            go_wp2
            go_ret
            exact ⟨by rw [HV.out]; rfl, hbr.drew⟩
          | true =>
            cases h2 : (x.text == y.text) with
            | false =>
              have HV := Lib.hid (hno.out (by intro e; rw [e] at h2; simp at h2))
              clear hno hyes HP HQ HL
              go_wp2
              refine ord_start [(0, true), (1, true), (2, true), (3, true), (4, true), (5, true), (6, true), (7, true), (8, true)] (fun W => W.cell? ⟨b1, o1 + k * 3, none⟩ = some (.int .i64 x.uid) ∧ W.cell? ⟨b1, o1 + k * 3 + 1, none⟩ = some (.int .i64 x.flags) ∧ W.cell? ⟨b1, o1 + k * 3 + 2, none⟩ = some (sv x.text) ∧ W.cell? ⟨b2, o2 + k * 3, none⟩ = some (.int .i64 y.uid) ∧ W.cell? ⟨b2, o2 + k * 3 + 1, none⟩ = some (.int .i64 y.flags) ∧ W.cell? ⟨b2, o2 + k * 3 + 2, none⟩ = some (sv y.text)) (by kernel_rfl) (by kernel_rfl) rfl (by kernel_rfl) ?_
              intro ops' hops
              clear hops
              simp only [List.map_cons, List.map_nil, pickOp_zero, pickOp_succ]
              iterate 9 (refine ord_flo ?_ (fun _ _ _ h => h) rfl ?_ ⟨e0, e1, e2, f0, f1, f2⟩ ?_; rotate_left; focus (intro W hS; obtain ⟨s1, s2, s3, s4, s5, s6⟩ := hS; go_simp; rfl))
              refine ord_done ?_
              go_simp
              go_wp2
              go_ret
              exact ⟨by rw [HV.out]; rfl, hbr.drew⟩
            | true =>
              have HN := Lib.hid (hyes.out (by cases x; cases y; simp only [beq_iff_eq] at h0 h1 h2; rw [h0, h1, h2]))
              clear hno hyes
              go_wp2
              refine ord_start [(0, true), (1, true), (2, true), (3, true), (4, true), (5, true), (6, true), (7, true), (8, true)] (fun W => W.cell? ⟨b1, o1 + k * 3, none⟩ = some (.int .i64 x.uid) ∧ W.cell? ⟨b1, o1 + k * 3 + 1, none⟩ = some (.int .i64 x.flags) ∧ W.cell? ⟨b1, o1 + k * 3 + 2, none⟩ = some (sv x.text) ∧ W.cell? ⟨b2, o2 + k * 3, none⟩ = some (.int .i64 y.uid) ∧ W.cell? ⟨b2, o2 + k * 3 + 1, none⟩ = some (.int .i64 y.flags) ∧ W.cell? ⟨b2, o2 + k * 3 + 2, none⟩ = some (sv y.text)) (by kernel_rfl) (by kernel_rfl) rfl (by kernel_rfl) ?_
              intro ops' hops
              clear hops
              simp only [List.map_cons, List.map_nil, pickOp_zero, pickOp_succ]
              iterate 9 (refine ord_flo ?_ (fun _ _ _ h => h) rfl ?_ ⟨e0, e1, e2, f0, f1, f2⟩ ?_; rotate_left; focus (intro W hS; obtain ⟨s1, s2, s3, s4, s5, s6⟩ := hS; go_simp; rfl))
              refine ord_done ?_
              go_simp
              go_wp2
              go_roundw
              case rel => exact ⟨k + 1, by omega, by go_num, HN.out, hbr.drew⟩
              case measure => simp [intOf]; omega
      · obtain rfl : k = l.length := by omega
        have HV := Lib.hid (show decide (l = m) = true from decide_eq_true (by have := Hall.out; rw [List.take_length, HL.out, List.take_length] at this; exact this))
        clear HL
        go_wp2
        go_ret
        exact ⟨by rw [HV.out]; rfl, hbr⟩
  · have HV := Lib.hid (show decide (l = m) = false from decide_eq_false (fun e => hlen (by rw [e])))
    have hne : ((l.length : Int) == (m.length : Int)) = false := by rw [beq_eq_false_iff_ne]; omega
    have hnn := ne_yes' hne
    clear hlen
    go_enter Tryz.func147, Tryz.ntmps147
    go_wp2
    go_ret
    exact ⟨by rw [HV.out]; rfl, Below.refl _ _⟩

set_option maxHeartbeats 3200000 in
theorem implSameBox_c {G : World → Prop} : CtrSameBox 127 G := by
  intro x r y s w _ ha hs _ hb _ _
  obtain ⟨_, hl, _⟩ := msgs_small hs
  have cs := fun W (h : Below w.heap.size w W) => msgEqual_any r s x.msgs y.msgs W (LfRd.below h _ _ ha) (LfRd.below h _ _ hb) hl
  obtain ⟨p, c, rfl⟩ := LfRd.slice ha
  obtain ⟨q, d, rfl⟩ := LfRd.slice hb
  have hb1 : Below w.heap.size w ((w.alloc (.cells #[sv x.name, .int .i64 x.validity, .int .i64 x.next, .slice p x.msgs.length c] 38)).alloc (.cells #[sv y.name, .int .i64 y.validity, .int .i64 y.next, .slice q y.msgs.length d] 38)) := ((Below.refl _ _).alloc (Nat.le_refl _) _).alloc (by simp) _
  have HNE := Lib.hid (fun h : x ≠ y => (decide_eq_false h : decide (x = y) = false))
  have CS := Lib.hid cs
  clear ha hb hs cs hl
  cases h_name : (x.name == y.name) with
  | false =>
    have HV := Lib.hid (HNE.out (by intro e; rw [e] at h_name; simp at h_name))
    go_enter Tryz.func127, Tryz.ntmps127
    go_wp2
    go_ret
    exact ⟨by rw [HV.out]; rfl, hb1⟩
  | true =>
    cases h_validity : (x.validity == y.validity) with
    | false =>
      have HV := Lib.hid (HNE.out (by intro e; rw [e] at h_validity; simp at h_validity))
      go_enter Tryz.func127, Tryz.ntmps127
      go_wp2
      go_ret
      exact ⟨by rw [HV.out]; rfl, hb1⟩
    | true =>
      cases h_next : (x.next == y.next) with
      | false =>
        have HV := Lib.hid (HNE.out (by intro e; rw [e] at h_next; simp at h_next))
        go_enter Tryz.func127, Tryz.ntmps127
        go_wp2
        go_ret
        exact ⟨by rw [HV.out]; rfl, hb1⟩
      | true =>
        have HV := Lib.hid (show decide (x = y) = decide (x.msgs = y.msgs) by
          rw [decide_eq_decide]
          constructor
          · intro e; rw [e]
          · intro e; cases x; cases y; simp only [beq_iff_eq] at h_name h_validity h_next e; rw [h_name, h_validity, h_next, e])
        go_enter Tryz.func127, Tryz.ntmps127
        go_wp2_with fail
        refine (CS.out _ hb1).mono ?_
        rintro e w1 ⟨rfl, b1⟩
        have hb2 := hb1.trans (b1.mono hb1.size)
        clear b1 hb1 CS
        go_wp2
        go_ret
        exact ⟨by rw [HV.out]; rfl, hb2⟩

set_option maxRecDepth 20000 in
set_option maxHeartbeats 3200000 in
theorem boxEqualFunc_any (a b : Value) (l m : List BoxD) (w : World) (ha : LfRd w (boxsLf l) a) (hs : szLf (boxsLf l) ≤ 1048576) (hbd : LfBnd (boxsLf l)) (hb : LfRd w (boxsLf m) b) (hs2 : szLf (boxsLf m) ≤ 1048576) (hbd2 : LfBnd (boxsLf m)) :
    Calls Tryz.prog 126 #[a, b, .func (.func 127) #[] #[]] w fun e w' => e = .returned (.bool (decide (l = m))) ∧ Below w.heap.size w w' := by
  have hl : l.length ≤ 1048576 := Nat.le_trans (Nat.le_add_right _ _) hs
  have hsl : ∀ x ∈ l, szLs x.lf ≤ 1048576 ∧ LsBnd x.lf := fun x hx => ⟨by have h1 := szLs_mem BoxD.lf hx; have h2 : szLf (boxsLf l) = l.length + szLs (l.flatMap BoxD.lf) := rfl; omega, LsBnd.flat hbd.2 x hx⟩
  have hsm : ∀ x ∈ m, szLs x.lf ≤ 1048576 ∧ LsBnd x.lf := fun x hx => ⟨by have h1 := szLs_mem BoxD.lf hx; have h2 : szLf (boxsLf m) = m.length + szLs (m.flatMap BoxD.lf) := rfl; omega, LsBnd.flat hbd2.2 x hx⟩
  obtain ⟨p, c1, rfl, hp⟩ := BoxD.at ha
  obtain ⟨q, c2, rfl, hq⟩ := BoxD.at hb
  have HP := Lib.hid hp
  have HQ := Lib.hid hq
  have HSL := Lib.hid hsl
  have HSM := Lib.hid hsm
  clear hp hq ha hb hs hs2 hbd hbd2 hsl hsm
  by_cases hlen : l.length = m.length
  · rw [← hlen]
    have HL := Lib.hid hlen
    clear hlen
    go_enter Tryz.func126, Tryz.ntmps126
    go_wp2
    go_loopw [7, 8, 9, 17] (fun u7 u8 u9 i wr => ∃ k : Nat, k ≤ l.length ∧ i = .int .i64 k ∧ l.take k = m.take k ∧ Below w.heap.size w wr) (fun u7 u8 u9 i _ => l.length - (intOf i).toNat)
    case atStart => exact ⟨0, by omega, rfl, rfl, Below.refl _ _⟩
    case round =>
      obtain ⟨k, hk, rfl, hall, hbr⟩ := hrel
      have Hall := Lib.hid hall
      clear hall
      by_cases hlt : k < l.length
      · obtain ⟨b1, o1, rfl, hb1, hc1⟩ := HP.out.resolve_left (by intro h; subst h; simp at hlt)
        obtain ⟨b2, o2, rfl, hb2, hc2⟩ := HQ.out.resolve_left (by intro h; have hlen := HL.out; rw [h] at hlen; simp at hlen; simp [hlen] at hlt)
        obtain ⟨x, hx⟩ : ∃ x, l[k]? = some x := ⟨_, List.getElem?_eq_getElem hlt⟩
        obtain ⟨y, hy⟩ : ∃ y, m[k]? = some y := ⟨_, List.getElem?_eq_getElem (by have := HL.out; omega)⟩
        obtain ⟨r3, n1, x0, x1, x2, x3⟩ := hc1 k x hx
        obtain ⟨s3, n2, y0, y1, y2, y3⟩ := hc2 k y hy
        obtain ⟨sx1, sx2⟩ := HSL.out x (List.mem_of_getElem? hx)
        obtain ⟨sy1, sy2⟩ := HSM.out y (List.mem_of_getElem? hy)
        obtain ⟨p1, d1, rfl⟩ := LfRd.slice n1
        obtain ⟨p2, d2, rfl⟩ := LfRd.slice n2
        have e0 : wr.cell? ⟨b1, o1 + k * 4, none⟩ = some (sv x.name) := (hbr.cell (p := ⟨b1, o1 + k * 4, none⟩) hb1).trans x0
        have e1 : wr.cell? ⟨b1, o1 + k * 4 + 1, none⟩ = some (.int .i64 x.validity) := (hbr.cell (p := ⟨b1, o1 + k * 4 + 1, none⟩) hb1).trans x1
        have e2 : wr.cell? ⟨b1, o1 + k * 4 + 2, none⟩ = some (.int .i64 x.next) := (hbr.cell (p := ⟨b1, o1 + k * 4 + 2, none⟩) hb1).trans x2
        have e3 : wr.cell? ⟨b1, o1 + k * 4 + 3, none⟩ = some (.slice p1 x.msgs.length d1) := (hbr.cell (p := ⟨b1, o1 + k * 4 + 3, none⟩) hb1).trans x3
        have f0 : ∀ o : Obj, (wr.alloc o).cell? ⟨b2, o2 + k * 4, none⟩ = some (sv y.name) := fun o => ((hbr.alloc hbr.size o).cell (p := ⟨b2, o2 + k * 4, none⟩) hb2).trans y0
        have f1 : ∀ o : Obj, (wr.alloc o).cell? ⟨b2, o2 + k * 4 + 1, none⟩ = some (.int .i64 y.validity) := fun o => ((hbr.alloc hbr.size o).cell (p := ⟨b2, o2 + k * 4 + 1, none⟩) hb2).trans y1
        have f2 : ∀ o : Obj, (wr.alloc o).cell? ⟨b2, o2 + k * 4 + 2, none⟩ = some (.int .i64 y.next) := fun o => ((hbr.alloc hbr.size o).cell (p := ⟨b2, o2 + k * 4 + 2, none⟩) hb2).trans y2
        have f3 : ∀ o : Obj, (wr.alloc o).cell? ⟨b2, o2 + k * 4 + 3, none⟩ = some (.slice p2 y.msgs.length d2) := fun o => ((hbr.alloc hbr.size o).cell (p := ⟨b2, o2 + k * 4 + 3, none⟩) hb2).trans y3
        have C := Lib.hid (fun W (h : Below w.heap.size w W) => implSameBox_c (G := fun _ => True) x (.slice p1 x.msgs.length d1) y (.slice p2 y.msgs.length d2) W trivial (LfRd.below h _ _ n1) sx1 sx2 (LfRd.below h _ _ n2) sy1 sy2)
        have HB3 := Lib.hid (fun o o' : Obj => ((hbr.alloc hbr.size o).alloc (by have := hbr.size; simp; omega) o' : Below w.heap.size w ((wr.alloc o).alloc o')))
        clear hc1 hc2 x0 x1 x2 x3 y0 y1 y2 y3 n1 n2 sx1 sx2 sy1 sy2
        cases h1 : decide (x = y) with
        | false =>
          rw [h1] at C
          have HV := Lib.hid (show decide (l = m) = false from decide_eq_false (same_not hx hy (of_decide_eq_false h1)))
          clear hx hy HP HQ HL Hall h1
          go_wp2_with fail
          refine (C.out _ (HB3.out _ _)).mono ?_
          rintro e w1 ⟨rfl, b1'⟩
          have hb4 := (HB3.out _ _).trans (b1'.mono (HB3.out _ _).size)
          clear b1' C HB3 e0 e1 e2 e3 f0 f1 f2 f3
          go_wp2
          go_ret
          exact ⟨by rw [HV.out]; rfl, hb4⟩
        | true =>
          rw [h1] at C
          have HN := Lib.hid (same_take hx (by rw [hy, of_decide_eq_true h1]) Hall.out)
          clear hx hy Hall h1
          go_wp2_with fail
          refine (C.out _ (HB3.out _ _)).mono ?_
          rintro e w1 ⟨rfl, b1'⟩
          have hb4 := (HB3.out _ _).trans (b1'.mono (HB3.out _ _).size)
          clear b1' C HB3 e0 e1 e2 e3 f0 f1 f2 f3 hbr
          go_wp2
          go_roundw
          case rel => exact ⟨k + 1, by omega, by go_num, HN.out, hb4⟩
          case measure => simp [intOf]; omega
      · obtain rfl : k = l.length := by omega
        have HV := Lib.hid (show decide (l = m) = true from decide_eq_true (by have := Hall.out; rw [List.take_length, HL.out, List.take_length] at this; exact this))
        clear HL
        go_wp2
        go_ret
        exact ⟨by rw [HV.out]; rfl, hbr⟩
  · have HV := Lib.hid (show decide (l = m) = false from decide_eq_false (fun e => hlen (by rw [e])))
    have hne : ((l.length : Int) == (m.length : Int)) = false := by rw [beq_eq_false_iff_ne]; omega
    have hnn := ne_yes' hne
    clear hlen
    go_enter Tryz.func126, Tryz.ntmps126
    go_wp2
    go_ret
    exact ⟨by rw [HV.out]; rfl, Below.refl _ _⟩

set_option maxHeartbeats 800000 in
theorem implSameBoxes_c {G : World → Prop} : CtrSameBoxes 85 G := by
  intro l va m vb w _ ha hs hbd hb hs2 hbd2
  have C := Lib.hid (boxEqualFunc_any va vb l m w ha hs hbd hb hs2 hbd2)
  obtain ⟨p, c, rfl⟩ := LfRd.slice ha
  obtain ⟨q, d, rfl⟩ := LfRd.slice hb
  clear ha hs hbd hb hs2 hbd2
  go_enter Tryz.func85, Tryz.ntmps85
  go_wp2_with fail
  refine (C.out).mono ?_
  rintro e w1 ⟨rfl, b1⟩
  go_wp2
  go_ret
  exact ⟨rfl, b1⟩

end Go.Proofs.YtbfgdbpfecffcaaGreatDoor
