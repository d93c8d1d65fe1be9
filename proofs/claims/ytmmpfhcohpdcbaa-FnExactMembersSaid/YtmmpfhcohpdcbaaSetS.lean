/-
  Chapter 4's walks: the program's Members, MembersOf.
-/
import Derived.Test.YtmmpfhcohpdcbaaSetR
import Derived.Test.YtmmpfhcohpdcbaaSetH
namespace Go.Proofs.Ytmmpfhcohpdcbaa
open Go.RowKit

set_option maxRecDepth 20000 in
set_option maxHeartbeats 1600000 in
theorem implMembers_any : ImplMembers (fun _ => True) := by
  intro v l n w _ hr hl _ _
  obtain ⟨N, hN⟩ : ∃ N, minI n 999 = N := ⟨_, rfl⟩
  have hN9 : N ≤ 999 := by unfold minI at hN; split at hN <;> omega
  have HM := Lib.hid (show membersL l n = (upTo N.toNat).filter fun x => inB l x N by unfold membersL; rw [hN])
  have hmin : (n < 999 ∧ N = n) ∨ (n = 999 ∧ N = 999) ∨ (999 < n ∧ N = 999) := by unfold minI at hN; split at hN <;> omega
  have C0 := Lib.hid (settled_any v l N w hr hl)
  have HA := Lib.hid (fun x => inB_set l x N)
  have hll : (l.map (setS N)).length = l.length := by simp
  generalize l.map (setS N) = L at *
  have HLL := Lib.hid hll
  clear hN hr hll
  go_enter Try.func14, Try.ntmps14
  rcases hmin with ⟨hc, rfl⟩ | ⟨rfl, rfl⟩ | ⟨hc, rfl⟩
  · go_wp2_with fail
    refine (C0.out).mono ?_
    rintro e w1 ⟨p, c, hc1, rfl, hr1, hb1⟩
    have HR := Lib.hid hr1
    have hz1 := hb1.size
    clear hr1 C0
    go_wp2
    go_loopw [6, 7] (fun u i wr => ∃ (k m : Nat) (xs : List Int), i = .int .i64 ((k : Int) + 1) ∧ m = xs.length ∧ m ≤ k ∧ (k : Int) ≤ maxI N 0 ∧ xs = (upTo k).filter (fun x => inB l x N) ∧ wr.ownsRow w1.heap.size 3 1 u m (xs.map iv) ∧ Below w1.heap.size w1 wr) (fun _ i _ => (N + 1 - intOf i).toNat)
    case atStart => exact ⟨0, 0, [], rfl, rfl, by omega, by unfold maxI; split <;> omega, rfl, World.ownsRow_nil _ _ _ _, Below.refl _ _⟩
    case round =>
      obtain ⟨k, m, xs, rfl, hm, hmk, hk, hxs, hown, hbr⟩ := hrel
      have hk2 : (k : Int) ≤ N ∨ k = 0 := by unfold maxI at hk; split at hk <;> omega
      have hbr0 := hbr.size
      have HXS := Lib.hid hxs
      have HMM := Lib.hid hm
      have HRD := Lib.hid (HR.out.below hbr)
      clear hxs hm hk
      by_cases hlt : (k : Int) + 1 ≤ N
      · have c1 := inSpans_any L.length p c L ((k : Int) + 1) wr (Nat.le_refl _) (by rw [HLL.out]; exact hc1) (by rw [HLL.out]; exact hl) (by rw [HLL.out]; exact HRD.out)
        rw [HA.out, HLL.out] at c1
        cases hb : inB l ((k : Int) + 1) N with
        | true =>
          have HF := Lib.hid (filter_upTo_yes (p := fun x => inB l x N) (k := k) hb)
          rw [hb] at c1
          have C1 := Lib.hid c1
          clear c1 hb
          go_wp2_with fail
          refine (C1.out).mono ?_
          rintro e w' ⟨rfl, rfl⟩
          go_wp2_with (at_builtin; refine wpList_app1 Try.el_int rfl (.tmp 21) (.tmp 23) rfl w1 wr u6 m _ rfl hown hbr hbr0 #[.int .i64 ((k : Int) + 1)] (.inr rfl) 1 1 rfl rfl (by simp [Value.oneCell']) (by omega) (by omega) (by omega) ?_)
          intro g cap w3 hown3 hb3 _ _ _
          clear hown hbr hbr0 C1 HRD
          go_wp2
          go_roundw
          case rel => exact ⟨k + 1, m + 1, xs ++ [(k : Int) + 1], by go_num, by rw [HMM.out]; simp, by omega, by unfold maxI; split <;> omega, by rw [HF.out, HXS.out], by rw [List.map_append]; exact hown3, hb3⟩
          case measure => simp [intOf]; omega
        | false =>
          have HF := Lib.hid (filter_upTo_no (p := fun x => inB l x N) (k := k) hb)
          rw [hb] at c1
          have C1 := Lib.hid c1
          clear c1 hb
          go_wp2_with fail
          refine (C1.out).mono ?_
          rintro e w' ⟨rfl, rfl⟩
          go_wp2
          go_roundw
          case rel => exact ⟨k + 1, m, xs, by go_num, HMM.out, by omega, by unfold maxI; split <;> omega, by rw [HF.out, HXS.out], hown, hbr⟩
          case measure => simp [intOf]; omega
      · have hkN : k = Int.toNat N := by omega
        have HV := Lib.hid (show membersL l N = xs by rw [HM.out, HXS.out, hkN])
        clear hkN HRD
        go_wp2
        go_ret
        refine ⟨_, rfl, ?_, hb1.trans (hbr.mono hz1)⟩
        rw [HV.out, ← HMM.out]
        exact own_mono hown hz1
  · go_wp2_with fail
    refine (C0.out).mono ?_
    rintro e w1 ⟨p, c, hc1, rfl, hr1, hb1⟩
    have HR := Lib.hid hr1
    have hz1 := hb1.size
    clear hr1 C0
    go_wp2
    go_loopw [6, 7] (fun u i wr => ∃ (k m : Nat) (xs : List Int), i = .int .i64 ((k : Int) + 1) ∧ m = xs.length ∧ m ≤ k ∧ (k : Int) ≤ maxI 999 0 ∧ xs = (upTo k).filter (fun x => inB l x 999) ∧ wr.ownsRow w1.heap.size 3 1 u m (xs.map iv) ∧ Below w1.heap.size w1 wr) (fun _ i _ => (999 + 1 - intOf i).toNat)
    case atStart => exact ⟨0, 0, [], rfl, rfl, by omega, by unfold maxI; split <;> omega, rfl, World.ownsRow_nil _ _ _ _, Below.refl _ _⟩
    case round =>
      obtain ⟨k, m, xs, rfl, hm, hmk, hk, hxs, hown, hbr⟩ := hrel
      have hk2 : (k : Int) ≤ 999 ∨ k = 0 := by unfold maxI at hk; split at hk <;> omega
      have hbr0 := hbr.size
      have HXS := Lib.hid hxs
      have HMM := Lib.hid hm
      have HRD := Lib.hid (HR.out.below hbr)
      clear hxs hm hk
      by_cases hlt : (k : Int) + 1 ≤ 999
      · have c1 := inSpans_any L.length p c L ((k : Int) + 1) wr (Nat.le_refl _) (by rw [HLL.out]; exact hc1) (by rw [HLL.out]; exact hl) (by rw [HLL.out]; exact HRD.out)
        rw [HA.out, HLL.out] at c1
        cases hb : inB l ((k : Int) + 1) 999 with
        | true =>
          have HF := Lib.hid (filter_upTo_yes (p := fun x => inB l x 999) (k := k) hb)
          rw [hb] at c1
          have C1 := Lib.hid c1
          clear c1 hb
          go_wp2_with fail
          refine (C1.out).mono ?_
          rintro e w' ⟨rfl, rfl⟩
          go_wp2_with (at_builtin; refine wpList_app1 Try.el_int rfl (.tmp 21) (.tmp 23) rfl w1 wr u6 m _ rfl hown hbr hbr0 #[.int .i64 ((k : Int) + 1)] (.inr rfl) 1 1 rfl rfl (by simp [Value.oneCell']) (by omega) (by omega) (by omega) ?_)
          intro g cap w3 hown3 hb3 _ _ _
          clear hown hbr hbr0 C1 HRD
          go_wp2
          go_roundw
          case rel => exact ⟨k + 1, m + 1, xs ++ [(k : Int) + 1], by go_num, by rw [HMM.out]; simp, by omega, by unfold maxI; split <;> omega, by rw [HF.out, HXS.out], by rw [List.map_append]; exact hown3, hb3⟩
          case measure => simp [intOf]; omega
        | false =>
          have HF := Lib.hid (filter_upTo_no (p := fun x => inB l x 999) (k := k) hb)
          rw [hb] at c1
          have C1 := Lib.hid c1
          clear c1 hb
          go_wp2_with fail
          refine (C1.out).mono ?_
          rintro e w' ⟨rfl, rfl⟩
          go_wp2
          go_roundw
          case rel => exact ⟨k + 1, m, xs, by go_num, HMM.out, by omega, by unfold maxI; split <;> omega, by rw [HF.out, HXS.out], hown, hbr⟩
          case measure => simp [intOf]; omega
      · have hkN : k = Int.toNat 999 := by omega
        have HV := Lib.hid (show membersL l 999 = xs by rw [HM.out, HXS.out, hkN])
        clear hkN HRD
        go_wp2
        go_ret
        refine ⟨_, rfl, ?_, hb1.trans (hbr.mono hz1)⟩
        rw [HV.out, ← HMM.out]
        exact own_mono hown hz1
  · go_wp2_with fail
    refine (C0.out).mono ?_
    rintro e w1 ⟨p, c, hc1, rfl, hr1, hb1⟩
    have HR := Lib.hid hr1
    have hz1 := hb1.size
    clear hr1 C0
    go_wp2
    go_loopw [6, 7] (fun u i wr => ∃ (k m : Nat) (xs : List Int), i = .int .i64 ((k : Int) + 1) ∧ m = xs.length ∧ m ≤ k ∧ (k : Int) ≤ maxI 999 0 ∧ xs = (upTo k).filter (fun x => inB l x 999) ∧ wr.ownsRow w1.heap.size 3 1 u m (xs.map iv) ∧ Below w1.heap.size w1 wr) (fun _ i _ => (999 + 1 - intOf i).toNat)
    case atStart => exact ⟨0, 0, [], rfl, rfl, by omega, by unfold maxI; split <;> omega, rfl, World.ownsRow_nil _ _ _ _, Below.refl _ _⟩
    case round =>
      obtain ⟨k, m, xs, rfl, hm, hmk, hk, hxs, hown, hbr⟩ := hrel
      have hk2 : (k : Int) ≤ 999 ∨ k = 0 := by unfold maxI at hk; split at hk <;> omega
      have hbr0 := hbr.size
      have HXS := Lib.hid hxs
      have HMM := Lib.hid hm
      have HRD := Lib.hid (HR.out.below hbr)
      clear hxs hm hk
      by_cases hlt : (k : Int) + 1 ≤ 999
      · have c1 := inSpans_any L.length p c L ((k : Int) + 1) wr (Nat.le_refl _) (by rw [HLL.out]; exact hc1) (by rw [HLL.out]; exact hl) (by rw [HLL.out]; exact HRD.out)
        rw [HA.out, HLL.out] at c1
        cases hb : inB l ((k : Int) + 1) 999 with
        | true =>
          have HF := Lib.hid (filter_upTo_yes (p := fun x => inB l x 999) (k := k) hb)
          rw [hb] at c1
          have C1 := Lib.hid c1
          clear c1 hb
          go_wp2_with fail
          refine (C1.out).mono ?_
          rintro e w' ⟨rfl, rfl⟩
          go_wp2_with (at_builtin; refine wpList_app1 Try.el_int rfl (.tmp 21) (.tmp 23) rfl w1 wr u6 m _ rfl hown hbr hbr0 #[.int .i64 ((k : Int) + 1)] (.inr rfl) 1 1 rfl rfl (by simp [Value.oneCell']) (by omega) (by omega) (by omega) ?_)
          intro g cap w3 hown3 hb3 _ _ _
          clear hown hbr hbr0 C1 HRD
          go_wp2
          go_roundw
          case rel => exact ⟨k + 1, m + 1, xs ++ [(k : Int) + 1], by go_num, by rw [HMM.out]; simp, by omega, by unfold maxI; split <;> omega, by rw [HF.out, HXS.out], by rw [List.map_append]; exact hown3, hb3⟩
          case measure => simp [intOf]; omega
        | false =>
          have HF := Lib.hid (filter_upTo_no (p := fun x => inB l x 999) (k := k) hb)
          rw [hb] at c1
          have C1 := Lib.hid c1
          clear c1 hb
          go_wp2_with fail
          refine (C1.out).mono ?_
          rintro e w' ⟨rfl, rfl⟩
          go_wp2
          go_roundw
          case rel => exact ⟨k + 1, m, xs, by go_num, HMM.out, by omega, by unfold maxI; split <;> omega, by rw [HF.out, HXS.out], hown, hbr⟩
          case measure => simp [intOf]; omega
      · have hkN : k = Int.toNat 999 := by omega
        have HV := Lib.hid (show membersL l n = xs by rw [HM.out, HXS.out, hkN])
        clear hkN HRD
        go_wp2
        go_ret
        refine ⟨_, rfl, ?_, hb1.trans (hbr.mono hz1)⟩
        rw [HV.out, ← HMM.out]
        exact own_mono hown hz1

set_option maxHeartbeats 1600000 in
theorem implMembersOf_any : ImplMembersOf (fun _ => True) := by
  intro v u l ids w _ hr hu hl hi _ _
  obtain ⟨p, c, rfl, hp⟩ := hu.ex
  have HP := Lib.hid hp
  have HR := Lib.hid hr
  clear hp hr hu
  cases ids with
  | nil =>
    clear HP HR
    go_enter Try.func21, Try.ntmps21
    go_wp2
    go_ret
    exact ⟨_, rfl, World.ownsRow_nil _ _ _ _, Below.refl _ _⟩
  | cons a0 r =>
    obtain ⟨b, off, rfl, hb1, hcell⟩ := HP.out.resolve_left (by simp)
    have hpos : 0 < (a0 :: r).length := by simp
    have e0 : w.cell? ⟨b, off, none⟩ = some (.int .i64 a0) := by have := hcell 0 a0 rfl; simpa using this
    have HC := Lib.hid hcell
    have hne : (((a0 :: r).length : Int) == 0) = false := by simp; omega
    obtain ⟨ids, hids⟩ : ∃ ids, a0 :: r = ids := ⟨_, rfl⟩
    have HL := Lib.hid (show lastId ids = ids.foldl maxI a0 by rw [← hids]; rfl)
    rw [hids] at hpos hi HC hne ⊢
    clear hcell HP hids
    go_enter Try.func21, Try.ntmps21
    go_wp2
    go_loop [5, 20] (fun m i => ∃ k : Nat, k ≤ ids.length ∧ i = .int .i64 k ∧ m = .int .i64 ((ids.take k).foldl maxI a0)) (fun _ i => ids.length - (intOf i).toNat)
    case atStart => exact ⟨0, by omega, rfl, rfl⟩
    case round =>
      obtain ⟨k, hk, rfl, rfl⟩ := hrel
      by_cases hlt : k < ids.length
      · obtain ⟨x, hx⟩ : ∃ x, ids[k]? = some x := ⟨_, List.getElem?_eq_getElem hlt⟩
        have e1 : w.cell? ⟨b, off + k, none⟩ = some (.int .i64 x) := HC.out k x hx
        have HT := Lib.hid (show (ids.take (k + 1)).foldl maxI a0 = maxI ((ids.take k).foldl maxI a0) x by rw [take_at hx, foldl_snoc])
        generalize (ids.take k).foldl maxI a0 = q at *
        clear hx e0
        rcases Int.lt_trichotomy q x with hc | hc | hc
        · rw [show maxI q x = x from if_neg (by omega)] at HT
          go_wp2
          go_round
          case rel => exact ⟨k + 1, by omega, by go_num, by rw [HT.out]⟩
          case measure => simp [intOf]; omega
        · subst hc
          rw [show maxI q q = q from if_neg (by omega)] at HT
          go_wp2
          go_round
          case rel => exact ⟨k + 1, by omega, by go_num, by rw [HT.out]⟩
          case measure => simp [intOf]; omega
        · rw [show maxI q x = q from if_pos hc] at HT
          go_wp2
          go_round
          case rel => exact ⟨k + 1, by omega, by go_num, by rw [HT.out]⟩
          case measure => simp [intOf]; omega
      · obtain rfl : k = ids.length := by omega
        rw [List.take_length, ← HL.out]
        have C0 := Lib.hid (settled_any v l (lastId ids) w HR.out hl)
        have HA := Lib.hid (fun x => inB_set l x (lastId ids))
        have HLL := Lib.hid (show (l.map (setS (lastId ids))).length = l.length by simp)
        generalize l.map (setS (lastId ids)) = L at *
        clear hlt e0 hk HR
        go_wp2_with fail
        refine (C0.out).mono ?_
        rintro e w1 ⟨p, c, hc1, rfl, hr1, hb1'⟩
        have HR := Lib.hid hr1
        have hz1 := hb1'.size
        have HB1 := Lib.hid hb1'
        clear hr1 C0
        go_wp2
        go_loopw [9, 33] (fun u i wr => ∃ (k m : Nat) (xs : List Int), k ≤ ids.length ∧ i = .int .i64 k ∧ m = xs.length ∧ m ≤ k ∧ xs = (ids.take k).filter (fun x => inB l x (lastId ids)) ∧ wr.ownsRow w1.heap.size 3 1 u m (xs.map iv) ∧ Below w1.heap.size w1 wr) (fun _ i _ => ids.length - (intOf i).toNat)
        case atStart => exact ⟨0, 0, [], by omega, rfl, rfl, by omega, rfl, World.ownsRow_nil _ _ _ _, Below.refl _ _⟩
        case round =>
          obtain ⟨k, m, xs, hk, rfl, hm, hmk, hxs, hown, hbr⟩ := hrel
          have hbr0 := hbr.size
          have HXS := Lib.hid hxs
          have HMM := Lib.hid hm
          have HRD := Lib.hid (HR.out.below hbr)
          clear hxs hm hb1'
          by_cases hlt : k < ids.length
          · obtain ⟨x, hx⟩ : ∃ x, ids[k]? = some x := ⟨_, List.getElem?_eq_getElem hlt⟩
            have hb1b : b < w1.heap.size := by omega
            have e1 : wr.cell? ⟨b, off + k, none⟩ = some (.int .i64 x) := (hbr.cell (p := ⟨b, off + k, none⟩) hb1b).trans ((HB1.out.cell (p := ⟨b, off + k, none⟩) hb1).trans (HC.out k x hx))
            have HT := Lib.hid (take_at hx)
            have c1 := inSpans_any L.length p c L x wr (Nat.le_refl _) (by rw [HLL.out]; exact hc1) (by rw [HLL.out]; exact hl) (by rw [HLL.out]; exact HRD.out)
            rw [HA.out, HLL.out] at c1
            cases hb : inB l x (lastId ids) with
            | true =>
              rw [hb] at c1
              have C1 := Lib.hid c1
              have HF := Lib.hid (show (ids.take (k + 1)).filter (fun x => inB l x (lastId ids)) = xs ++ [x] by rw [HT.out, filter_snoc_yes (p := fun x => inB l x (lastId ids)) hb, HXS.out])
              clear c1 hb hx
              go_wp2_with fail
              refine (C1.out).mono ?_
              rintro e w' ⟨rfl, rfl⟩
              go_wp2_with (at_builtin; refine wpList_app1 Try.el_int rfl (.tmp 40) (.tmp 42) rfl w1 wr u9 m _ rfl hown hbr hbr0 #[.int .i64 x] (.inr rfl) 1 1 rfl rfl (by simp [Value.oneCell']) (by omega) (by omega) (by omega) ?_)
              intro g cap w3 hown3 hb3 _ _ _
              clear hown hbr hbr0 C1 HRD e1
              go_wp2
              go_roundw
              case rel => exact ⟨k + 1, m + 1, xs ++ [x], by omega, by go_num, by rw [HMM.out]; simp, by omega, by rw [HF.out], by rw [List.map_append]; exact hown3, hb3⟩
              case measure => simp [intOf]; omega
            | false =>
              rw [hb] at c1
              have C1 := Lib.hid c1
              have HF := Lib.hid (show (ids.take (k + 1)).filter (fun x => inB l x (lastId ids)) = xs by rw [HT.out, filter_snoc_no (p := fun x => inB l x (lastId ids)) hb, HXS.out])
              clear c1 hb hx
              go_wp2_with fail
              refine (C1.out).mono ?_
              rintro e w' ⟨rfl, rfl⟩
              go_wp2
              go_roundw
              case rel => exact ⟨k + 1, m, xs, by omega, by go_num, HMM.out, by omega, by rw [HF.out], hown, hbr⟩
              case measure => simp [intOf]; omega
          · obtain rfl : k = ids.length := by omega
            rw [List.take_length] at HXS
            have HV := Lib.hid (show membersOfL l ids = xs by rw [HXS.out]; rfl)
            clear HRD
            go_wp2
            go_ret
            refine ⟨_, rfl, ?_, HB1.out.trans (hbr.mono hz1)⟩
            rw [HV.out, ← HMM.out]
            exact own_mono hown hz1

end Go.Proofs.Ytmmpfhcohpdcbaa
