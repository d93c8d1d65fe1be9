/-
  Chapter 4: the laws' helpers: sameInts, times, at0, heldSpanS.
-/
import Derived.Test.YtmmpfhcohpdcbaaSetC
import Derived.Test.YtmmpfhcohpdcbaaEnv
namespace Go.Proofs.Ytmmpfhcohpdcbaa
open Go.RowKit

set_option maxHeartbeats 400000 in
theorem sameInts_same (a b : Value) (l : List Int) (w : World) (ha : Rd1 iv w a l) (hb : Rd1 iv w b l) (hl : l.length ≤ 140737488355328) :
    Calls Try.prog 24 #[a, b] w fun e w' => e = .returned (.bool true) ∧ Below w.heap.size w w' := by
  obtain ⟨p, c1, rfl, hp⟩ := ha.ex
  obtain ⟨q, c2, rfl, hq⟩ := hb.ex
  clear ha hb
  have HP := Lib.hid hp
  have HQ := Lib.hid hq
  clear hp hq
  go_enter Try.func24, Try.ntmps24
  go_wp2
  go_loopw [5] (fun i wr => ∃ k : Nat, k ≤ l.length ∧ i = .int .i64 k ∧ Below w.heap.size w wr) (fun i _ => l.length - (intOf i).toNat)
  case atStart => exact ⟨0, by omega, rfl, Below.refl _ _⟩
  case round =>
    obtain ⟨k, hk, rfl, hbr⟩ := hrel
    by_cases hlt : k < l.length
    · obtain ⟨b1, o1, rfl, hb1, hc1⟩ := HP.out.resolve_left (by intro h; subst h; simp at hlt)
      obtain ⟨b2, o2, rfl, hb2, hc2⟩ := HQ.out.resolve_left (by intro h; subst h; simp at hlt)
      obtain ⟨x, hx⟩ : ∃ x, l[k]? = some x := ⟨_, List.getElem?_eq_getElem hlt⟩
      have e1 : wr.cell? ⟨b1, o1 + k, none⟩ = some (iv x) := (hbr.cell (p := ⟨b1, o1 + k, none⟩) hb1).trans (hc1 k x hx)
      have e2 : wr.cell? ⟨b2, o2 + k, none⟩ = some (iv x) := (hbr.cell (p := ⟨b2, o2 + k, none⟩) hb2).trans (hc2 k x hx)
      clear hc1 hc2 hx HP HQ
      go_wp2
      refine ord_start [(0, true), (1, true), (2, true), (3, true), (4, true), (5, true), (6, true), (7, true), (8, true)] (fun W => W.cell? ⟨b1, o1 + k, none⟩ = some (iv x) ∧ W.cell? ⟨b2, o2 + k, none⟩ = some (iv x)) (by kernel_rfl) (by kernel_rfl) rfl (by kernel_rfl) ?_
      intro ops' hops
      clear hops
      simp only [List.map_cons, List.map_nil, pickOp_zero, pickOp_succ]
      iterate 9 (refine ord_flo ?_ (fun _ _ _ h => h) rfl ?_ ⟨e1, e2⟩ ?_; rotate_left; focus (intro W hS; obtain ⟨s1, s2⟩ := hS; go_simp; rfl))
      refine ord_done ?_
      go_simp
      go_wp2
      go_roundw
      case rel => exact ⟨k + 1, by omega, by go_num, hbr.drew⟩
      case measure => simp [intOf]; omega
    · obtain rfl : k = l.length := by omega
      go_wp2
      go_ret
      exact ⟨rfl, hbr⟩

theorem count_take {l : List Int} {k : Nat} {y : Int} (h : l[k]? = some y) (x : Int) : (l.take (k + 1)).count x = (l.take k).count x + (if (y == x) = true then 1 else 0) := by
  rw [take_at h, List.count_append, List.count_singleton]

set_option maxHeartbeats 400000 in
theorem times_any (v : Value) (l : List Int) (x : Int) (w : World) (hr : Rd1 iv w v l) (hl : l.length ≤ 140737488355328) :
    Calls Try.prog 26 #[v, .int .i64 x] w fun e w' => e = .returned (.int .i64 (l.count x : Nat)) ∧ w = w' := by
  obtain ⟨p, c1, rfl, hp⟩ := hr.ex
  have HP := Lib.hid hp
  clear hr hp
  go_enter Try.func26, Try.ntmps26
  go_wp2
  go_loop [5, 6] (fun n i => ∃ (k m : Nat), k ≤ l.length ∧ i = .int .i64 k ∧ n = .int .i64 m ∧ m = (l.take k).count x ∧ m ≤ k) (fun _ i => l.length - (intOf i).toNat)
  case atStart => exact ⟨0, 0, by omega, rfl, rfl, rfl, by omega⟩
  case round =>
    obtain ⟨k, m, hk, rfl, rfl, hm, hmk⟩ := hrel
    have HM := Lib.hid hm
    clear hm
    by_cases hlt : k < l.length
    · obtain ⟨b1, o1, rfl, hb1, hc1⟩ := HP.out.resolve_left (by intro h; subst h; simp at hlt)
      obtain ⟨y, hy⟩ : ∃ y, l[k]? = some y := ⟨_, List.getElem?_eq_getElem hlt⟩
      have e1 : w.cell? ⟨b1, o1 + k, none⟩ = some (iv y) := hc1 k y hy
      have hs := count_take hy x
      clear hc1 hy HP
      cases hyx : (y == x) with
      | true =>
        rw [hyx, if_pos rfl] at hs
        have HS := Lib.hid hs
        clear hs
        go_wp2
        go_round
        case rel => exact ⟨k + 1, m + 1, by omega, by go_num, by go_num, by rw [HS.out, HM.out], by omega⟩
        case measure => simp [intOf]; omega
      | false =>
        rw [hyx, if_neg (by simp)] at hs
        have HS := Lib.hid hs
        clear hs
        go_wp2
        go_round
        case rel => exact ⟨k + 1, m, by omega, by go_num, rfl, by rw [HS.out, HM.out]; rfl, by omega⟩
        case measure => simp [intOf]; omega
    · obtain rfl : k = l.length := by omega
      have hfin := HM.out
      rw [List.take_length] at hfin
      have HF := Lib.hid hfin
      clear hfin HM
      go_wp2
      go_ret
      exact ⟨by rw [HF.out]; rfl, rfl⟩

theorem at0_two (v : Value) (l : List UInt8) (w : World) (hr : Rd1 bv w v l) (hl : l.length ≤ 1048576) :
    Calls Try.prog 25 #[v, .int .i64 2] w fun e w' => (∃ n : Nat, n ≤ 255 ∧ e = .returned (.int .i64 (n : Int))) ∧ w = w' := by
  obtain ⟨p, c1, rfl, hp⟩ := hr.ex
  have HP := Lib.hid hp
  clear hr hp
  by_cases hlt : 2 < l.length
  · have hlt2 : (2 : Int) < (l.length : Int) := by omega
    obtain ⟨b1, o1, rfl, hb1, hc1⟩ := HP.out.resolve_left (by intro h; subst h; simp at hlt)
    obtain ⟨y, hy⟩ : ∃ y, l[2]? = some y := ⟨_, List.getElem?_eq_getElem hlt⟩
    have e1 : w.cell? ⟨b1, o1 + 2, none⟩ = some (.int .u8 (y.toNat : Int)) := hc1 2 y hy
    have hy2 : y.toNat < 256 := y.toNat_lt
    clear hc1 hy HP
    go_enter Try.func25, Try.ntmps25
    go_wp2
    go_ret
    exact ⟨⟨y.toNat, by omega, rfl⟩, rfl⟩
  · have hlt2 : ¬ (2 : Int) < (l.length : Int) := by omega
    have hm : ((14 : Int) + (l.length : Int)).tmod 256 = 14 + (l.length : Int) := by rw [Int.tmod_eq_emod_of_nonneg (by omega)]; omega
    clear HP
    go_enter Try.func25, Try.ntmps25
    go_wp2
    go_ret
    exact ⟨⟨14 + l.length, by omega, by congr 2⟩, rfl⟩

end Go.Proofs.Ytmmpfhcohpdcbaa
