/-
  Chapter 4's walks: the model's Members and MembersOf.
-/
import Derived.Test.YtmmpfhcohpdcbaaSetA
namespace Go.Proofs.Ytmmpfhcohpdcbaa
open Go.RowKit

abbrev iv (n : Int) : Value := .int .i64 n
theorem Try.el_int : Elem Try.prog 29 3 1 8 := Elem.mk' (z := .int .i64 0) Try.underlying29 (by kernel_rfl) rfl (by omega)

/-- Numbers that the call made. -/
def IntsPost (ids : List Int) (w : World) (e : Ending) (w' : World) : Prop := ∃ v, e = .returned v ∧ w'.ownsRow w.heap.size 3 1 v ids.length (ids.map iv) ∧ Below w.heap.size w w'

theorem upTo_mem {k : Nat} {x : Int} (h : x ∈ upTo k) : 1 ≤ x ∧ x ≤ k := by
  simp only [upTo, List.mem_map, List.mem_range] at h
  obtain ⟨i, hi, rfl⟩ := h
  omega
theorem filter_upTo_yes {p : Int → Bool} {k : Nat} (h : p ((k : Int) + 1) = true) : (upTo (k + 1)).filter p = (upTo k).filter p ++ [(k : Int) + 1] := by rw [upTo_succ, List.filter_append]; simp [h]
theorem filter_upTo_no {p : Int → Bool} {k : Nat} (h : p ((k : Int) + 1) = false) : (upTo (k + 1)).filter p = (upTo k).filter p := by rw [upTo_succ, List.filter_append]; simp [h]
theorem filter_upTo_le (p : Int → Bool) (k : Nat) : ((upTo k).filter p).length ≤ k := by have := List.length_filter_le p (upTo k); simpa [upTo] using this

set_option maxHeartbeats 1600000 in
theorem specMembers_any (v : Value) (l : List Spn) (n : Int) (w : World) (hr : Rd 2 spnc w v l) (hl : l.length ≤ 140737488355328) :
    Calls Try.prog 13 #[v, .int .i64 n] w fun e w' => IntsPost (membersL l n) w e w' := by
  obtain ⟨N, hN⟩ : ∃ N, minI n 999 = N := ⟨_, rfl⟩
  have hN9 : N ≤ 999 := by unfold minI at hN; split at hN <;> omega
  have C0 := Lib.hid (show ∀ W, Calls Try.prog 31 #[.int .i64 n, .int .i64 999] W fun e w' => e = .returned (.int .i64 N) ∧ W = w' from fun W => by rw [← hN]; exact l1Min_any n 999 W)
  have HM := Lib.hid (show membersL l n = (upTo N.toNat).filter fun x => inB l x N by unfold membersL; rw [hN])
  have HR := Lib.hid hr
  clear hN hr
  go_enter Try.func13, Try.ntmps13
  go_wp2_with fail
  refine (C0.out _).mono ?_
  rintro e w' ⟨rfl, rfl⟩
  go_wp2
  go_loopw [5, 6] (fun u i wr => ∃ (k m : Nat) (xs : List Int), i = .int .i64 ((k : Int) + 1) ∧ m = xs.length ∧ m ≤ k ∧ k ≤ N.toNat ∧ xs = (upTo k).filter (fun x => inB l x N) ∧ wr.ownsRow w.heap.size 3 1 u m (xs.map iv) ∧ Below w.heap.size w wr) (fun _ i _ => (N + 1 - intOf i).toNat)
  case atStart => exact ⟨0, 0, [], rfl, rfl, by omega, by omega, rfl, World.ownsRow_made w #[] 0 (Nat.le_refl _) (by unfold maxLen; omega) rfl, (Below.refl _ _).alloc (Nat.le_refl _) _⟩
  case round =>
    obtain ⟨k, m, xs, rfl, hm, hmk, hk, hxs, hown, hbr⟩ := hrel
    have hbr0 := hbr.size
    have HXS := Lib.hid hxs
    have HMM := Lib.hid hm
    have HR1 := Lib.hid (HR.out.below hbr)
    clear hxs hm C0
    by_cases hlt : (k : Int) + 1 ≤ N
    · have c1 := l4In_any v l ((k : Int) + 1) N wr HR1.out hl
      cases hb : inB l ((k : Int) + 1) N with
      | true =>
        have HF := Lib.hid (filter_upTo_yes (p := fun x => inB l x N) (k := k) hb)
        rw [hb] at c1
        have C1 := Lib.hid c1
        clear c1 hb
        go_wp2_with fail
        refine (C1.out).mono ?_
        rintro e w' ⟨rfl, rfl⟩
        go_wp2_with (at_builtin; refine wpList_app1 Try.el_int rfl (.tmp 19) (.tmp 21) rfl w wr u5 m _ rfl hown hbr hbr0 #[.int .i64 ((k : Int) + 1)] (.inr rfl) 1 1 rfl rfl (by simp [Value.oneCell']) (by omega) (by omega) (by omega) ?_)
        intro g cap w1 hown1 hb1 _ _ _
        clear hown hbr hbr0 C1 HR1
        go_wp2
        go_roundw
        case rel => exact ⟨k + 1, m + 1, xs ++ [(k : Int) + 1], by go_num, by rw [HMM.out]; simp, by omega, by omega, by rw [HF.out, HXS.out], by rw [List.map_append]; exact hown1, hb1⟩
        case measure => simp [intOf]; omega
      | false =>
        have HF := Lib.hid (filter_upTo_no (p := fun x => inB l x N) (k := k) hb)
        rw [hb] at c1
        have C1 := Lib.hid c1
        clear c1 hb
        go_wp2_with fail
        refine (C1.out).mono ?_
        rintro e w' ⟨rfl, rfl⟩
        go_wp2
        go_roundw
        case rel => exact ⟨k + 1, m, xs, by go_num, HMM.out, by omega, by omega, by rw [HF.out, HXS.out], hown, hbr⟩
        case measure => simp [intOf]; omega
    · have hkN : k = N.toNat := by omega
      have HV := Lib.hid (show membersL l n = xs by rw [HM.out, HXS.out, hkN])
      clear hkN HR1
      go_wp2
      go_ret
      refine ⟨_, rfl, ?_, hbr⟩
      rw [HV.out, ← HMM.out]
      exact hown

theorem foldl_snoc (a : Int) (l : List Int) (x : Int) : (l ++ [x]).foldl maxI a = maxI (l.foldl maxI a) x := by simp
theorem filter_snoc_yes {p : Int → Bool} {l : List Int} {x : Int} (h : p x = true) : (l ++ [x]).filter p = l.filter p ++ [x] := by rw [List.filter_append]; simp [h]
theorem filter_snoc_no {p : Int → Bool} {l : List Int} {x : Int} (h : p x = false) : (l ++ [x]).filter p = l.filter p := by rw [List.filter_append]; simp [h]

set_option maxHeartbeats 1600000 in
theorem specMembersOf_any (v u : Value) (l : List Spn) (ids : List Int) (w : World) (hr : Rd 2 spnc w v l) (hu : Rd1 iv w u ids) (hl : l.length ≤ 140737488355328) (hi : ids.length ≤ 1000000000000) :
    Calls Try.prog 19 #[v, u] w fun e w' => IntsPost (membersOfL l ids) w e w' := by
  obtain ⟨p, c, rfl, hp⟩ := hu.ex
  have HP := Lib.hid hp
  have HR := Lib.hid hr
  clear hp hr hu
  cases ids with
  | nil =>
    clear HP HR
    go_enter Try.func19, Try.ntmps19
    go_wp2
    go_ret
    exact ⟨_, rfl, World.ownsRow_made w #[] 0 (Nat.le_refl _) (by unfold maxLen; omega) rfl, (Below.refl _ _).alloc (Nat.le_refl _) _⟩
  | cons a0 r =>
    obtain ⟨b, off, rfl, hb1, hcell⟩ := HP.out.resolve_left (by simp)
    have hpos : 0 < (a0 :: r).length := by simp
    have e0 : w.cell? ⟨b, off, none⟩ = some (.int .i64 a0) := by have := hcell 0 a0 rfl; simpa using this
    have e0' : (w.alloc (.cells #[] 3)).cell? ⟨b, off, none⟩ = some (.int .i64 a0) := (World.cell?_alloc_lt w _ _ (by exact hb1)).trans e0
    have HC := Lib.hid hcell
    have hne : (((a0 :: r).length : Int) == 0) = false := by simp; omega
    obtain ⟨ids, hids⟩ : ∃ ids, a0 :: r = ids := ⟨_, rfl⟩
    have HL := Lib.hid (show lastId ids = ids.foldl maxI a0 by rw [← hids]; rfl)
    rw [hids] at hpos hi HC hne ⊢
    clear hcell HP e0 hids
    have hb2 : b < (w.alloc (.cells #[] 3)).heap.size := by simp; omega
    have hown0 : (w.alloc (.cells #[] 3)).ownsRow w.heap.size 3 1 (.slice (some ⟨w.heap.size, 0, none⟩) 0 0) 0 [] := World.ownsRow_made w #[] 0 (Nat.le_refl _) (by unfold maxLen; omega) rfl
    have hbel0 : Below w.heap.size w (w.alloc (.cells #[] 3)) := (Below.refl _ _).alloc (Nat.le_refl _) _
    have HO0 := Lib.hid hown0
    clear hown0
    go_enter Try.func19, Try.ntmps19
    go_wp2
    go_loop [6, 7] (fun m i => ∃ k : Nat, k ≤ ids.length ∧ i = .int .i64 k ∧ m = .int .i64 ((ids.take k).foldl maxI a0)) (fun _ i => ids.length - (intOf i).toNat)
    case atStart => exact ⟨0, by omega, rfl, rfl⟩
    case round =>
      obtain ⟨k, hk, rfl, rfl⟩ := hrel
      by_cases hlt : k < ids.length
      · obtain ⟨x, hx⟩ : ∃ x, ids[k]? = some x := ⟨_, List.getElem?_eq_getElem hlt⟩
        have e1 : (w.alloc (.cells #[] 3)).cell? ⟨b, off + k, none⟩ = some (.int .i64 x) := (World.cell?_alloc_lt w _ _ (by exact hb1)).trans (HC.out k x hx)
        have HT := Lib.hid (show (ids.take (k + 1)).foldl maxI a0 = maxI ((ids.take k).foldl maxI a0) x by rw [take_at hx, foldl_snoc])
        generalize (ids.take k).foldl maxI a0 = q at *
        have C1 := Lib.hid (fun W => l1Max_any q x W)
        clear hx e0'
        go_wp2_with fail
        refine (C1.out _).mono ?_
        rintro e w' ⟨rfl, rfl⟩
        go_wp2
        go_round
        case rel => exact ⟨k + 1, by omega, by go_num, by rw [HT.out]⟩
        case measure => simp [intOf]; omega
      · obtain rfl : k = ids.length := by omega
        rw [List.take_length, ← HL.out]
        clear hlt e0' hk
        go_wp2
        go_loopw [5, 8] (fun u i wr => ∃ (k m : Nat) (xs : List Int), k ≤ ids.length ∧ i = .int .i64 k ∧ m = xs.length ∧ m ≤ k ∧ xs = (ids.take k).filter (fun x => inB l x (lastId ids)) ∧ wr.ownsRow w.heap.size 3 1 u m (xs.map iv) ∧ Below w.heap.size w wr) (fun _ i _ => ids.length - (intOf i).toNat)
        case atStart => exact ⟨0, 0, [], by omega, rfl, rfl, by omega, rfl, HO0.out, hbel0⟩
        case round =>
          obtain ⟨k, m, xs, hk, rfl, hm, hmk, hxs, hown, hbr⟩ := hrel
          have hbr0 := hbr.size
          have HXS := Lib.hid hxs
          have HMM := Lib.hid hm
          have HR1 := Lib.hid (HR.out.below hbr)
          clear hxs hm hbel0 hb2
          by_cases hlt : k < ids.length
          · obtain ⟨x, hx⟩ : ∃ x, ids[k]? = some x := ⟨_, List.getElem?_eq_getElem hlt⟩
            have e1 : wr.cell? ⟨b, off + k, none⟩ = some (.int .i64 x) := (hbr.cell (p := ⟨b, off + k, none⟩) hb1).trans (HC.out k x hx)
            have HT := Lib.hid (take_at hx)
            have c1 := l4In_any v l x (lastId ids) wr HR1.out hl
            cases hb : inB l x (lastId ids) with
            | true =>
              have HF := Lib.hid (filter_snoc_yes (p := fun x => inB l x (lastId ids)) (l := ids.take k) hb)
              rw [hb] at c1
              have C1 := Lib.hid c1
              clear c1 hb hx
              go_wp2_with fail
              refine (C1.out).mono ?_
              rintro e w' ⟨rfl, rfl⟩
              go_wp2_with (at_builtin; refine wpList_app1 Try.el_int rfl (.tmp 42) (.tmp 47) rfl w wr u5 m _ rfl hown hbr hbr0 #[.int .i64 x] (.inr rfl) 1 1 rfl rfl (by simp [Value.oneCell']) (by omega) (by omega) (by omega) ?_)
              intro g cap w1 hown1 hb1' _ _ _
              clear hown hbr hbr0 C1 HR1 e1
              go_wp2
              go_roundw
              case rel => exact ⟨k + 1, m + 1, xs ++ [x], by omega, by go_num, by rw [HMM.out]; simp, by omega, by rw [HT.out, HF.out, HXS.out], by rw [List.map_append]; exact hown1, hb1'⟩
              case measure => simp [intOf]; omega
            | false =>
              have HF := Lib.hid (filter_snoc_no (p := fun x => inB l x (lastId ids)) (l := ids.take k) hb)
              rw [hb] at c1
              have C1 := Lib.hid c1
              clear c1 hb hx
              go_wp2_with fail
              refine (C1.out).mono ?_
              rintro e w' ⟨rfl, rfl⟩
              go_wp2
              go_roundw
              case rel => exact ⟨k + 1, m, xs, by omega, by go_num, HMM.out, by omega, by rw [HT.out, HF.out, HXS.out], hown, hbr⟩
              case measure => simp [intOf]; omega
          · obtain rfl : k = ids.length := by omega
            have HV := Lib.hid (show membersOfL l ids = xs by rw [HXS.out, List.take_length]; rfl)
            clear HR1
            go_wp2
            go_ret
            refine ⟨_, rfl, ?_, hbr⟩
            rw [HV.out, ← HMM.out]
            exact hown

end Go.Proofs.Ytmmpfhcohpdcbaa
