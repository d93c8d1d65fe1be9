/-
  Chapter 4: the laws' helpers: sameInts, times, at0, heldSpanS.
-/
import Derived.Test.YtmmpfhcohpdcbaaDoorSetC
import Derived.Test.YtmmpfhcohpdcbaaDoorEnv
namespace Go.Proofs.YtmmpfhcohpdcbaaDoor
open Go.RowKit

theorem count_take {l : List Int} {k : Nat} {y : Int} (h : l[k]? = some y) (x : Int) : (l.take (k + 1)).count x = (l.take k).count x + (if (y == x) = true then 1 else 0) := by
  rw [take_at h, List.count_append, List.count_singleton]

set_option maxHeartbeats 800000 in
theorem heldSpanS_any (v : Value) (kk : Int) (n k : Nat) (hkk : kk = (k : Int)) (w : World) (hr : Rd 2 spnc w v (smarks k n)) (hk : k ≤ 1000000000000) (hl : n ≤ 1000000000000) :
    Calls Tryd.prog 13 #[v, .int .i64 kk] w fun e w' => e = .returned (.int .i64 (k + 2 * n : Nat)) ∧ w = w' := by
  subst hkk
  obtain ⟨p, c, hv, hp⟩ := hr.ex
  rw [smarks_length] at hv
  subst hv
  have HP := Lib.hid hp
  clear hp hr
  go_enter Tryd.func13, Tryd.ntmps13
  go_wp2
  go_loop [1, 5] (fun kk i => ∃ j : Nat, j ≤ n ∧ i = .int .i64 j ∧ kk = .int .i64 (k + 2 * j : Nat)) (fun _ i => n - (intOf i).toNat)
  case atStart => exact ⟨0, by omega, rfl, rfl⟩
  case round =>
    obtain ⟨j, hj, rfl, rfl⟩ := hrel
    by_cases hlt : j < n
    · obtain ⟨b, o, rfl, hb1, hc1⟩ := HP.out.resolve_left (by intro h; have := congrArg List.length h; rw [smarks_length] at this; simp at this; omega)
      have hqb : k + 2 * j ≤ 3000000000000 := by omega
      have e1 : w.cell? ⟨b, o + j * 2, none⟩ = some (.int .i64 ((k + 2 * j : Nat) : Int)) := hc1 j _ (smarks_at k n j hlt) 0 _ rfl
      have e2 : w.cell? ⟨b, o + j * 2 + 1, none⟩ = some (.int .i64 ((k + 2 * j + 1 : Nat) : Int)) := hc1 j _ (smarks_at k n j hlt) 1 _ rfl
      generalize hq : k + 2 * j = q at *
      have HQ := Lib.hid hq
      have e2' : w.cell? ⟨b, o + j * 2 + 1, none⟩ = some (.int .i64 ((q : Int) + 1)) := by rw [e2]; rfl
      clear hc1 HP hq e2
      go_wp2
      go_round
      case rel =>
        refine ⟨j + 1, by omega, by go_num, ?_⟩
        have := HQ.out
        congr 1
        omega
      case measure => simp [intOf]; omega
    · obtain rfl : j = n := by omega
      go_wp2
      go_ret
      exact ⟨rfl, rfl⟩

end Go.Proofs.YtmmpfhcohpdcbaaDoor
