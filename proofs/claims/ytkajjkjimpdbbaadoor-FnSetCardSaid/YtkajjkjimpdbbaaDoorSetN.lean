/-
  Chapter 4: the model's SetText and ReadSet.
-/
import Derived.Test.YtkajjkjimpdbbaaDoorSetM
import Derived.Test.YtkajjkjimpdbbaaDoorSetE
import Derived.Test.YtkajjkjimpdbbaaDoorSetD
import Derived.Test.YtkajjkjimpdbbaaDoorJoined
import Derived.Test.YtkajjkjimpdbbaaDoorOrd
import Derived.IntWalk
namespace Go.Proofs.YtkajjkjimpdbbaaDoor
open Go.RowKit
open Go.Lib (decDigits itoa)

theorem l4Text_any (n : Int) (w : World) (hn : in64 n) :
    Calls Tryd.prog 33 #[.int .i64 n] w fun e w' => e = .returned (sv (numT n)) ∧ Below w.heap.size w w' := by
  have C1 := Lib.hid (fun W => specDigits_any n W hn.1 hn.2)
  cases h : (n == 0) with
  | true =>
    have HV := Lib.hid (show numT n = [42] by unfold numT; rw [if_pos (beq_iff_eq.1 h)])
    go_enter Tryd.func33, Tryd.ntmps33
    go_wp2
    go_ret
    exact ⟨by rw [HV.out]; rfl, Below.refl _ _⟩
  | false =>
    have HV := Lib.hid (show numT n = itoa n by unfold numT; rw [if_neg (beq_eq_false_iff_ne.1 h)])
    go_enter Tryd.func33, Tryd.ntmps33
    go_wp2_with fail
    refine (C1.out _).mono ?_
    rintro e w1 ⟨rfl, b1⟩
    go_wp2
    go_ret
    exact ⟨by rw [HV.out]; rfl, b1⟩

theorem szl_le {m : Nat} : ∀ (l : List (List UInt8)), (∀ x ∈ l, x.length ≤ m) → szl l ≤ m * l.length
  | [], _ => by simp [szl]
  | a :: l, h => by
    have h1 := h a (by simp)
    have h2 := szl_le l (fun x hx => h x (by simp [hx]))
    have e : szl (a :: l) = a.length + szl l := by simp [szl]
    rw [e, List.length_cons, Nat.mul_succ]
    omega
theorem numB_in64 {n : Int} (h : numB n = true) : in64 n := by
  obtain ⟨k, rfl, hk⟩ := num_nat h
  exact ⟨by omega, by omega⟩

set_option maxHeartbeats 1600000 in
theorem specSetText_any (v : Value) (l : List Spn) (w : World) (hr : Rd 2 spnc w v l) (hl : l.length ≤ 140737488355328) :
    Calls Tryd.prog 20 #[v] w fun e w' => e = .returned (sv (setT l)) ∧ Below w.heap.size w w' := by
  have c1 := specSetOk_any v l w hr hl
  cases hb : setB l with
  | false =>
    rw [hb] at c1
    have C1 := Lib.hid c1
    have HV := Lib.hid (show setT l = [] by unfold setT; rw [if_neg (by rw [hb]; simp)])
    clear c1 hb
    go_enter Tryd.func20, Tryd.ntmps20
    go_wp2_with fail
    refine (C1.out).mono ?_
    rintro e w1 ⟨rfl, rfl⟩
    go_wp2
    go_ret
    exact ⟨by rw [HV.out]; rfl, Below.refl _ _⟩
  | true =>
    rw [hb] at c1
    have C1 := Lib.hid c1
    obtain ⟨hs1, hs2, hs3⟩ := setB_parts hb
    have HS := Lib.hid hs1
    have HV := Lib.hid (show setT l = Lib.join (l.map spnT) [44] by unfold setT; rw [if_pos hb])
    obtain ⟨p, c, rfl, hp⟩ := hr.ex
    have HP := Lib.hid hp
    have hoA : (w.alloc (.cells #[] 9)).ownsRow w.heap.size 9 1 (.slice (some ⟨w.heap.size, 0, none⟩) 0 0) 0 [] := World.ownsRow_made w #[] 0 (Nat.le_refl _) (by unfold maxLen; omega) (by simp)
    have HOA := Lib.hid hoA
    clear c1 hb hp hr hs1 hoA
    go_enter Tryd.func20, Tryd.ntmps20
    go_wp2_with fail
    refine (C1.out).mono ?_
    rintro e w1 ⟨rfl, rfl⟩
    clear C1
    go_wp2
    go_loopw [3, 4] (fun v i wr => ∃ k : Nat, k ≤ l.length ∧ i = .int .i64 k ∧ wr.ownsRow w.heap.size 9 1 v k (((l.take k).map spnT).map sv) ∧ Below w.heap.size w wr) (fun _ i _ => l.length - (intOf i).toNat)
    case atStart => exact ⟨0, by omega, rfl, HOA.out, (Below.refl _ _).alloc (Nat.le_refl _) _⟩
    case round =>
      obtain ⟨k, hk, rfl, hown, hbr⟩ := hrel
      have hbr0 := hbr.size
      clear HOA
      by_cases hlt : k < l.length
      · obtain ⟨b, off, rfl, hb1, hcell⟩ := HP.out.resolve_left (by intro h; subst h; simp at hlt)
        obtain ⟨t, ht⟩ : ∃ t, l[k]? = some t := ⟨_, List.getElem?_eq_getElem hlt⟩
        have htb := HS.out t (List.mem_of_getElem? ht)
        have hnb := htb
        unfold spnB at hnb
        simp only [Bool.and_eq_true] at hnb
        have e1 : wr.cell? ⟨b, off + k * 2, none⟩ = some (.int .i64 t.low) := (hbr.cell (p := ⟨b, off + k * 2, none⟩) hb1).trans (hcell k t ht 0 _ rfl)
        have e2 : wr.cell? ⟨b, off + k * 2 + 1, none⟩ = some (.int .i64 t.high) := (hbr.cell (p := ⟨b, off + k * 2 + 1, none⟩) hb1).trans (hcell k t ht 1 _ rfl)
        have hbw : b < wr.heap.size := Nat.lt_of_lt_of_le hb1 hbr0
        have D1 := Lib.hid (fun W => l4Text_any t.low W (numB_in64 hnb.1))
        have D2 := Lib.hid (fun W => l4Text_any t.high W (numB_in64 hnb.2))
        have hl1 := (numT_len hnb.1).2
        have hl2 := (numT_len hnb.2).2
        have hq1 : (ByteArray.mk (numT t.low).toArray).size = (numT t.low).length := by show (numT t.low).toArray.size = _; simp
        have hq2 : (ByteArray.mk (numT t.high).toArray).size = (numT t.high).length := by show (numT t.high).toArray.size = _; simp
        have HTK := Lib.hid (show ((l.take (k + 1)).map spnT).map sv = ((l.take k).map spnT).map sv ++ [sv (spnT t)] by rw [take_at ht]; simp)
        clear hcell HP ht hnb htb
        go_wp2_with fail
        refine (D1.out _).mono ?_
        rintro e w2 ⟨rfl, b2⟩
        have f1 := (b2.cell (p := ⟨b, off + k * 2, none⟩) hbw).trans e1
        have f2 := (b2.cell (p := ⟨b, off + k * 2 + 1, none⟩) hbw).trans e2
        have o2 := ownsRow_below hown b2
        have hb2 := hbr.trans (b2.mono hbr0)
        have hz2 := hb2.size
        have hbw2 : b < w2.heap.size := Nat.lt_of_lt_of_le hbw b2.size
        clear e1 e2 hown hbr b2 D1
        cases hne : (t.high == t.low) with
        | true =>
          have hne2 : (t.high != t.low) = false := by simp only [bne, hne]; rfl
          have HW := Lib.hid (show sv (spnT t) = sv (numT t.low) by unfold spnT; rw [if_pos (beq_iff_eq.1 hne)])
          go_wp2
          refine ord_start [(0, true), (1, true), (2, true), (3, true), (4, true), (5, true), (6, true), (7, true), (8, true), (9, true), (10, true)] (fun W => W.cell? ⟨b, off + k * 2, none⟩ = some (.int .i64 t.low) ∧ W.cell? ⟨b, off + k * 2 + 1, none⟩ = some (.int .i64 t.high)) (by kernel_rfl) (by kernel_rfl) rfl (by kernel_rfl) ?_
          intro ops' hops
          clear hops
          simp only [List.map_cons, List.map_nil, pickOp_zero, pickOp_succ]
          iterate 11 (refine ord_flo ?_ (fun _ _ _ h => h) rfl ?_ ⟨f1, f2⟩ ?_; rotate_left; focus (intro W hS; obtain ⟨s1, s2⟩ := hS; go_simp; rfl))
          refine ord_done ?_
          go_simp
          clear f1 f2
          go_wp2_with (at_builtin; refine wpList_app1 Tryd.el_string rfl (.tmp 42) (.tmp 44) rfl w w2.drew u3 k _ rfl o2.drew hb2.drew hz2 #[sv (numT t.low)] (.inr rfl) 1 1 rfl rfl (by simp [Value.oneCell']) (by omega) (by omega) (by omega) ?_)
          intro g cap w3 hown3 hb3 _ _ _
          clear o2 hb2
          go_wp2
          go_roundw
          case rel => exact ⟨k + 1, by omega, by go_num, by rw [HTK.out, HW.out]; simpa using hown3, hb3⟩
          case measure => simp [intOf]; omega
        | false =>
          have hne2 : (t.high != t.low) = true := by simp only [bne, hne]; rfl
          have HW := Lib.hid (show sv (spnT t) = .string (((⟨(numT t.low).toArray⟩ : ByteArray) ++ ⟨#[58]⟩) ++ ⟨(numT t.high).toArray⟩) by
            unfold spnT
            rw [if_neg (beq_eq_false_iff_ne.1 hne)]
            unfold sv
            congr 1
            apply ByteArray.ext
            apply Array.ext'
            simp)
          go_wp2
          refine ord_start [(0, true), (1, true), (2, true), (3, true), (4, true), (5, true), (6, true), (7, true), (8, true), (9, true), (10, true)] (fun W => W.cell? ⟨b, off + k * 2, none⟩ = some (.int .i64 t.low) ∧ W.cell? ⟨b, off + k * 2 + 1, none⟩ = some (.int .i64 t.high)) (by kernel_rfl) (by kernel_rfl) rfl (by kernel_rfl) ?_
          intro ops' hops
          clear hops
          simp only [List.map_cons, List.map_nil, pickOp_zero, pickOp_succ]
          iterate 11 (refine ord_flo ?_ (fun _ _ _ h => h) rfl ?_ ⟨f1, f2⟩ ?_; rotate_left; focus (intro W hS; obtain ⟨s1, s2⟩ := hS; go_simp; rfl))
          refine ord_done ?_
          go_simp
          have f3 : w2.drew.cell? ⟨b, off + k * 2 + 1, none⟩ = some (.int .i64 t.high) := f2
          have o3 := o2.drew
          have hb3 := hb2.drew
          clear f1 f2 o2 hb2
          go_wp2_with fail
          refine (D2.out _).mono ?_
          rintro e w3 ⟨rfl, b3⟩
          have o4 := ownsRow_below o3 b3
          have hb4 := hb3.trans (b3.mono hb3.size)
          have hz4 := hb4.size
          clear o3 hb3 b3 f3
          go_wp2_with (at_builtin; refine wpList_app1 Tryd.el_string rfl (.tmp 42) (.tmp 44) rfl w w3 u3 k _ rfl o4 hb4 hz4 #[.string (((⟨(numT t.low).toArray⟩ : ByteArray) ++ ⟨#[58]⟩) ++ ⟨(numT t.high).toArray⟩)] (.inr rfl) 1 1 rfl rfl (by simp [Value.oneCell']) (by omega) (by omega) (by omega) ?_)
          intro g cap w5 hown5 hb5 _ _ _
          clear o4 hb4
          go_wp2
          go_roundw
          case rel => exact ⟨k + 1, by omega, by go_num, by rw [HTK.out, HW.out]; simpa using hown5, hb5⟩
          case measure => simp [intOf]; omega
      · obtain rfl : k = l.length := by omega
        rw [List.take_length] at hown
        have hlen : (l.map spnT).length = l.length := by simp
        have hru : Rd1 sv wr u3 (l.map spnT) := Rd1.of_own (enc := sv) hown
        have hsz : szl (l.map spnT) ≤ 43 * (l.map spnT).length := szl_le _ (fun x hx => by
          obtain ⟨s, hs, rfl⟩ := List.mem_map.1 hx
          exact (spnT_len (HS.out s hs)).2)
        have CJ := Lib.hid (specJoined_any u3 (l.map spnT) [44] wr hru (by rw [hlen] at hsz ⊢; omega) (by simp))
        clear hown hru hsz
        go_wp2_with fail
        refine (CJ.out).mono ?_
        rintro e w2 ⟨rfl, b2⟩
        have hb2 := hbr.trans (b2.mono hbr0)
        go_wp2
        go_ret
        exact ⟨by rw [HV.out]; rfl, hb2⟩

end Go.Proofs.YtkajjkjimpdbbaaDoor
