/-
  Chapter 4's walks: the program's SetText.
-/
import Derived.Test.YtkajjkjimpdbbaaDoorSetQ
import Derived.Test.YtkajjkjimpdbbaaDoorSetP
import Derived.Test.YtkajjkjimpdbbaaDoorTab
namespace Go.Proofs.YtkajjkjimpdbbaaDoor
open Go.RowKit
open Go.Lib (decDigits itoa)

theorem endText_any (n : Int) (w : World) (hT : Tab w) (hn : in64 n) :
    Calls Tryd.prog 28 #[.int .i64 n] w fun e w' => e = .returned (sv (numT n)) ∧ Below w.heap.size w w' := by
  by_cases h : n = 0
  · have hg := Lib.hid (show numT n = [42] from if_pos h)
    subst h
    go_enter Tryd.func28, Tryd.ntmps28
    go_wp2
    go_ret
    exact ⟨by rw [hg.out]; rfl, Below.refl _ _⟩
  · have hg := Lib.hid (show numT n = itoa n from if_neg h)
    have h2 : (n == 0) = false := by simpa using h
    have C1 := Lib.hid (implDigits_any n w hT hn.1 hn.2)
    go_enter Tryd.func28, Tryd.ntmps28
    go_wp2_with fail
    refine (C1.out).mono ?_
    rintro e w1 ⟨rfl, b1⟩
    go_wp2
    go_ret
    exact ⟨by rw [hg.out]; rfl, b1⟩

set_option maxHeartbeats 800000 in
theorem spanText_any (s : Spn) (w : World) (hT : Tab w) (hn1 : numB s.low = true) (hn2 : numB s.high = true) :
    Calls Tryd.prog 15 #[spnv s] w fun e w' => e = .returned (sv (spnT s)) ∧ Below w.heap.size w w' := by
  have D1 := Lib.hid (fun W hT => endText_any s.low W hT (numB_in64 hn1))
  have D2 := Lib.hid (fun W hT => endText_any s.high W hT (numB_in64 hn2))
  have hl1 := (numT_len hn1).2
  have hl2 := (numT_len hn2).2
  have hq1 : (ByteArray.mk (numT s.low).toArray).size = (numT s.low).length := by show (numT s.low).toArray.size = _; simp
  have hq2 : (ByteArray.mk (numT s.high).toArray).size = (numT s.high).length := by show (numT s.high).toArray.size = _; simp
  clear hn1 hn2
  have hbA : Below w.heap.size w (w.alloc (.cells #[.int .i64 s.low, .int .i64 s.high] 37)) := (Below.refl _ _).alloc (Nat.le_refl _) _
  have TA := Lib.hid (hT.below hbA)
  have hblkA : (w.alloc (.cells #[.int .i64 s.low, .int .i64 s.high] 37)).heap[w.heap.size]? = some (.cells #[.int .i64 s.low, .int .i64 s.high] 37 (0, 0)) := heap_alloc_new w _
  have f1 : (w.alloc (.cells #[.int .i64 s.low, .int .i64 s.high] 37)).cell? ⟨w.heap.size, 0, none⟩ = some (.int .i64 s.low) := (Lib.cell_of_heap hblkA 0).trans rfl
  have f2 : (w.alloc (.cells #[.int .i64 s.low, .int .i64 s.high] 37)).cell? ⟨w.heap.size, 1, none⟩ = some (.int .i64 s.high) := (Lib.cell_of_heap hblkA 1).trans rfl
  have hlt : w.heap.size < (w.alloc (.cells #[.int .i64 s.low, .int .i64 s.high] 37)).heap.size := by simp
  clear hblkA
  cases he : (s.low == s.high) with
  | true =>
    have HW := Lib.hid (show sv (spnT s) = sv (numT s.low) by unfold spnT; rw [if_pos (beq_iff_eq.1 he).symm])
    clear f1 f2 hlt
    go_enter Tryd.func15, Tryd.ntmps15
    go_wp2_with fail
    refine (D1.out _ TA.out).mono ?_
    rintro e w1 ⟨rfl, b1⟩
    have hb := hbA.trans (b1.mono hbA.size)
    clear b1 hbA
    go_wp2
    go_ret
    exact ⟨by rw [HW.out]; rfl, hb⟩
  | false =>
    have HW := Lib.hid (show sv (spnT s) = .string (((⟨(numT s.low).toArray⟩ : ByteArray) ++ ⟨#[58]⟩) ++ ⟨(numT s.high).toArray⟩) by
      unfold spnT
      rw [if_neg (fun h => beq_eq_false_iff_ne.1 he h.symm)]
      unfold sv
      congr 1
      apply ByteArray.ext
      apply Array.ext'
      simp)
    go_enter Tryd.func15, Tryd.ntmps15
    have TD := Lib.hid (hT.below hbA.drew)
    go_wp2
    refine ord_start [(0, true), (1, true), (4, true), (5, true), (2, false), (3, true), (6, false), (7, true), (8, true)] (fun W => W.cell? ⟨w.heap.size, 0, none⟩ = some (.int .i64 s.low) ∧ W.cell? ⟨w.heap.size, 1, none⟩ = some (.int .i64 s.high)) (by kernel_rfl) (by kernel_rfl) rfl (by kernel_rfl) ?_
    intro ops' hops
    clear hops
    simp only [List.map_cons, List.map_nil, pickOp_zero, pickOp_succ]
    iterate 4 (refine ord_flo ?_ (fun _ _ _ h => h) rfl ?_ ⟨f1, f2⟩ ?_; rotate_left; focus (intro W hS; obtain ⟨s1, s2⟩ := hS; go_simp; rfl))
    refine ord_ev rfl ?_
    go_simp
    refine (D1.out _ TD.out).mono ?_
    rintro e w1 ⟨rfl, b1⟩
    have g1 := (b1.cell (p := ⟨w.heap.size, 0, none⟩) hlt).trans f1
    have g2 := (b1.cell (p := ⟨w.heap.size, 1, none⟩) hlt).trans f2
    have hb1 := hbA.drew.trans (b1.mono hbA.size)
    have T1 := Lib.hid (TD.out.below b1)
    have hlt1 := Nat.lt_of_lt_of_le hlt b1.size
    refine ⟨⟨g1, g2⟩, ?_⟩
    clear b1 f1 f2 hlt
    refine ord_flo (.string ((⟨(numT s.low).toArray⟩ : ByteArray) ++ ⟨#[58]⟩)) (fun _ _ _ h => h) rfl ?_ ⟨g1, g2⟩ ?_
    · intro W hS
      go_simp
      omega
    refine ord_ev rfl ?_
    go_simp
    refine (D2.out _ T1.out).mono ?_
    rintro e w2 ⟨rfl, b2⟩
    have k1 := (b2.cell (p := ⟨w.heap.size, 0, none⟩) hlt1).trans g1
    have k2 := (b2.cell (p := ⟨w.heap.size, 1, none⟩) hlt1).trans g2
    have hb2 := hb1.trans (b2.mono hb1.size)
    refine ⟨⟨k1, k2⟩, ?_⟩
    clear b2 g1 g2
    refine ord_flo (.string (((⟨(numT s.low).toArray⟩ : ByteArray) ++ ⟨#[58]⟩) ++ ⟨(numT s.high).toArray⟩)) (fun _ _ _ h => h) rfl ?_ ⟨k1, k2⟩ ?_
    · intro W hS
      go_simp
      omega
    iterate 1 (refine ord_flo ?_ (fun _ _ _ h => h) rfl ?_ ⟨k1, k2⟩ ?_; rotate_left; focus (intro W hS; obtain ⟨s1, s2⟩ := hS; go_simp; rfl))
    refine ord_done ?_
    go_simp
    clear k1 k2
    go_wp2
    go_ret
    exact ⟨by rw [HW.out]; rfl, hb2⟩

set_option maxHeartbeats 1600000 in
theorem implSetText_big (v : Value) (l : List Spn) (w : World) (hT : Tab w) (hr : Rd 2 spnc w v l) (hl : l.length ≤ 140737488355328) :
    Calls Tryd.prog 6 #[v] w fun e w' => e = .returned (sv (setT l)) ∧ Below w.heap.size w w' := by
  have c1 := fun W h => implSetOk_big v l W h hl
  have HR := Lib.hid hr
  have HT := Lib.hid hT
  obtain ⟨p, c, rfl, _⟩ := hr.ex
  clear hr hT
  cases hok : setB l with
  | false =>
    have HV := Lib.hid (show setT l = [] by unfold setT; rw [hok]; rfl)
    rw [hok] at c1
    have C1 := Lib.hid c1
    clear c1 hok
    go_enter Tryd.func6, Tryd.ntmps6
    go_wp2_with fail
    refine (C1.out _ HR.out).mono ?_
    rintro e w1 ⟨rfl, b1⟩
    go_wp2
    go_ret
    exact ⟨by rw [HV.out]; rfl, b1⟩
  | true =>
    have HV := Lib.hid (show setT l = Lib.join (l.map spnT) [44] by unfold setT; rw [hok]; rfl)
    obtain ⟨hs1, hs2, hs3⟩ := setB_parts hok
    have HS := Lib.hid hs1
    rw [hok] at c1
    have C1 := Lib.hid c1
    clear c1 hok hs1
    go_enter Tryd.func6, Tryd.ntmps6
    go_wp2_with fail
    refine (C1.out _ HR.out).mono ?_
    rintro e w1 ⟨rfl, b1⟩
    have hz1 := b1.size
    have HB1 := Lib.hid b1
    clear b1
    go_wp2
    go_loopw [3, 11] (fun u i wr => ∃ k : Nat, k ≤ l.length ∧ i = .int .i64 k ∧ wr.ownsRow w.heap.size 9 1 u k (((l.take k).map spnT).map sv) ∧ Below w.heap.size w wr) (fun _ i _ => l.length - (intOf i).toNat)
    case atStart => exact ⟨0, by omega, rfl, World.ownsRow_nil _ _ _ _, HB1.out⟩
    case round =>
      obtain ⟨k, hk, rfl, hown, hbr⟩ := hrel
      have hbr0 := hbr.size
      by_cases hlt : k < l.length
      · obtain ⟨p', c', hv, hp⟩ := HR.out.ex
        injection hv with e1 _ e2
        subst e1 e2
        obtain ⟨b, off, rfl, hb1, hcell⟩ := hp.resolve_left (by intro h; subst h; simp at hlt)
        obtain ⟨t, ht⟩ : ∃ t, l[k]? = some t := ⟨_, List.getElem?_eq_getElem hlt⟩
        obtain ⟨e1', e2'⟩ := Rd.pair hcell ht
        have e1 : wr.cell? ⟨b, off + k * 2, none⟩ = some (.int .i64 t.low) := (hbr.cell (p := ⟨b, off + k * 2, none⟩) hb1).trans e1'
        have e2 : wr.cell? ⟨b, off + k * 2 + 1, none⟩ = some (.int .i64 t.high) := (hbr.cell (p := ⟨b, off + k * 2 + 1, none⟩) hb1).trans e2'
        have hbA : Below w.heap.size w (wr.alloc (.cells #[.int .i64 t.low, .int .i64 t.high] 37)) := hbr.alloc hbr0 _
        have hoA := hown.alloc (.cells #[.int .i64 t.low, .int .i64 t.high] 37)
        have hsp := HS.out t (List.mem_of_getElem? ht)
        have hsp2 : numB t.low = true ∧ numB t.high = true := by unfold spnB at hsp; simpa using hsp
        have C2 := Lib.hid (spanText_any t _ (HT.out.below hbA) hsp2.1 hsp2.2)
        have HTK := Lib.hid (show ((l.take (k + 1)).map spnT).map sv = ((l.take k).map spnT).map sv ++ [sv (spnT t)] by rw [take_at ht]; simp)
        have HZ := Lib.hid (show (wr.alloc (.cells #[.int .i64 t.low, .int .i64 t.high] 37)).heap.size = wr.heap.size + 1 by simp)
        clear e1' e2' hcell ht hp hsp hsp2 hown
        go_wp2_with fail
        refine (C2.out).mono ?_
        rintro e w2 ⟨rfl, b2⟩
        have o2 := ownsRow_below hoA b2
        have hb2 := hbA.trans (b2.mono hbA.size)
        have hz2 := hb2.size
        clear hoA hbA b2 C2 e1 e2
        go_wp2_with (at_builtin; refine wpList_app1 Tryd.el_string rfl (.tmp 15) (.tmp 18) rfl w w2 u3 k _ rfl o2 hb2 hz2 #[sv (spnT t)] (.inr rfl) 1 1 rfl rfl (by simp [Value.oneCell']) (by omega) (by omega) (by omega) ?_)
        intro g cap w3 hown3 hb3 _ _ _
        clear o2 hb2
        go_wp2
        go_roundw
        case rel => exact ⟨k + 1, by omega, by go_num, by rw [HTK.out]; simpa using hown3, hb3⟩
        case measure => simp [intOf]; omega
      · obtain rfl : k = l.length := by omega
        rw [List.take_length] at hown
        have hlen : (l.map spnT).length = l.length := by simp
        have hsz : szl (l.map spnT) ≤ 43 * (l.map spnT).length := szl_le _ (fun x hx => by
          obtain ⟨s, hs, rfl⟩ := List.mem_map.1 hx
          exact (spnT_len (HS.out s hs)).2)
        rcases hown.2 with ⟨_, h0⟩ | ⟨g, cap, cur, rfl, hbg, hg, hnc, hrest⟩
        · omega
        · have CJ := Lib.hid (implJoined_any g cap (l.map spnT) [44] wr (own_cells hown) (Array.getElem?_eq_some_iff.1 hg).1 (by rw [hlen]; exact hnc) (by rw [hlen] at hsz ⊢; omega) (by simp))
          rw [hlen] at CJ
          clear hown hsz hg hrest
          go_wp2_with fail
          refine (CJ.out).mono ?_
          rintro e w2 ⟨rfl, b2⟩
          have hb2 := hbr.trans (b2.mono hbr0)
          go_wp2
          go_ret
          exact ⟨by rw [HV.out]; rfl, hb2⟩
theorem implSetText_any : ImplSetText Tab := fun v l w hG hr hl _ => implSetText_big v l w hG hr (by omega)

end Go.Proofs.YtkajjkjimpdbbaaDoor
