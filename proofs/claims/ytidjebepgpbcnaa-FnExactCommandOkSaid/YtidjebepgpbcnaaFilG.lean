/-
  Chapter 6: valid filters; what a scope covers, what a filter admits.
-/
import Derived.Test.YtidjebepgpbcnaaFilF
import Derived.Test.YtidjebepgpbcnaaGc
namespace Go.Proofs.Ytidjebepgpbcnaa
open Go.RowKit

theorem filterB_not {f : Flt} {k : Nat} {s : Scp} (h : f.scopes[k]? = some s) (hs : scopeB s = false) : filterB f = false := by unfold filterB; rw [all_not_at h hs]; rfl
theorem take_all_succ {α : Type} {p : α → Bool} {l : List α} {k : Nat} {x : α} (hx : l[k]? = some x) (h : (l.take k).all p = true) (hp : p x = true) : (l.take (k + 1)).all p = true := by
  obtain ⟨h1, h2⟩ := List.getElem?_eq_some_iff.1 hx
  rw [List.take_succ_eq_append_getElem h1, h2, List.all_append, h]
  simp [hp]

set_option maxHeartbeats 3200000 in
theorem specFilterOk_any (f : Flt) (vs : Value) (w : World) (hr : LfRd w (scpsLf f.scopes) vs) (hl : f.scopes.length ≤ 140737488355328) (hx : ∀ s ∈ f.scopes, s.names.length ≤ 140737488355328 ∧ ∀ x ∈ s.names, x.length ≤ 140737488355328) :
    Calls Try.prog 28 #[.agg #[.bool f.on, vs]] w fun e w' => e = .returned (.bool (filterB f)) ∧ Below w.heap.size w w' := by
  obtain ⟨on, l⟩ := f
  simp only at *
  obtain ⟨p, c, rfl, hp⟩ := scps_at hr
  have HX := Lib.hid hx
  have hb1 : Below w.heap.size w (w.alloc (.cells #[.bool on, .slice p l.length c] 34)) := (Below.refl _ _).alloc (Nat.le_refl _) _
  have hA : (w.alloc (.cells #[.bool on, .slice p l.length c] 34)).heap[w.heap.size]? = some (.cells #[.bool on, .slice p l.length c] 34 (0, 0)) := heap_alloc_new w _
  have HA := Lib.hid hA
  have hz1 : (w.alloc (.cells #[.bool on, .slice p l.length c] 34)).heap.size = w.heap.size + 1 := by simp
  have HZ := Lib.hid hz1
  have HP := Lib.hid hp
  have C3 := Lib.hid (fun W => l1In_any (l.length : Int) 1 3 W)
  clear hr hp hx hA hz1
  have hbb : Below (w.heap.size + 1) (w.alloc (.cells #[.bool on, .slice p l.length c] 34)) (w.alloc (.cells #[.bool on, .slice p l.length c] 34)) := Below.refl _ _
  go_enter Try.func28, Try.ntmps28
  go_wp2
  go_loopw [3] (fun i wr => ∃ k : Nat, k ≤ l.length ∧ i = .int .i64 k ∧ (l.take k).all scopeB = true ∧ Below (w.heap.size + 1) (w.alloc (.cells #[.bool on, .slice p l.length c] 34)) wr) (fun i _ => l.length - (intOf i).toNat)
  case atStart => exact ⟨0, by omega, rfl, rfl, hbb⟩
  case round =>
    obtain ⟨k, hk, rfl, hall, hbr⟩ := hrel
    have hbw := hb1.trans (hbr.mono (by omega))
    have hzr : w.heap.size + 1 ≤ wr.heap.size := by have := hbr.size; rw [HZ.out] at this; exact this
    have q0 : wr.cell? ⟨w.heap.size, 0, none⟩ = some (.bool on) := (Lib.cell_of_heap ((hbr.block w.heap.size (by omega)).trans HA.out) 0).trans rfl
    have q1 : wr.cell? ⟨w.heap.size, 1, none⟩ = some (.slice p l.length c) := (Lib.cell_of_heap ((hbr.block w.heap.size (by omega)).trans HA.out) 1).trans rfl
    have Hall := Lib.hid hall
    clear hall hbb hb1
    by_cases hlt : k < l.length
    · obtain ⟨b, off, rfl, hb, hcell⟩ := HP.out.resolve_left (by intro h; subst h; simp at hlt)
      obtain ⟨s, hs⟩ : ∃ s, l[k]? = some s := ⟨_, List.getElem?_eq_getElem hlt⟩
      have hsl := HX.out s (List.mem_of_getElem? hs)
      obtain ⟨v1, n1, x0, x1, x2⟩ := hcell k s hs
      have e0 : wr.cell? ⟨b, off + k * 3, none⟩ = some (.int .i64 s.kind) := (hbw.cell (p := ⟨b, off + k * 3, none⟩) hb).trans x0
      have e1 : wr.cell? ⟨b, off + k * 3 + 1, none⟩ = some v1 := (hbw.cell (p := ⟨b, off + k * 3 + 1, none⟩) hb).trans x1
      have e2 : wr.cell? ⟨b, off + k * 3 + 2, none⟩ = some (.int .i64 s.events) := (hbw.cell (p := ⟨b, off + k * 3 + 2, none⟩) hb).trans x2
      have c4 := specScopeOk_any s v1 wr (n1.below hbw) hsl.1 hsl.2
      cases h4 : scopeB s with
      | false =>
        have HV := Lib.hid (show filterB ⟨on, l⟩ = false from filterB_not (f := ⟨on, l⟩) hs h4)
        rw [h4] at c4
        have C4 := Lib.hid c4
        clear c4 hs HP hcell h4 x0 x1 x2 n1 HA HX Hall C3
        go_wp2_with fail
        refine (C4.out).mono ?_
        rintro e w1 ⟨rfl, b1⟩
        have hb2 := hbw.trans (b1.mono (by omega))
        clear b1
        go_wp2
        go_ret
        exact ⟨by rw [HV.out]; rfl, hb2⟩
      | true =>
        have HN := Lib.hid (take_all_succ hs Hall.out h4)
        rw [h4] at c4
        have C4 := Lib.hid c4
        clear c4 hs hcell h4 x0 x1 x2 n1 Hall hbw
        go_wp2_with fail
        refine (C4.out).mono ?_
        rintro e w1 ⟨rfl, b1⟩
        have hb2 := hbr.trans (b1.mono hzr)
        clear b1 hbr q0 q1 e0 e1 e2 C4
        go_wp2
        go_roundw
        case rel => exact ⟨k + 1, by omega, by go_num, HN.out, hb2⟩
        case measure => simp [intOf]; omega
    · obtain rfl : k = l.length := by omega
      rw [List.take_length] at Hall
      cases on with
      | false =>
        have HV := Lib.hid (show filterB ⟨false, l⟩ = decide (l.length = 0) by unfold filterB; rw [Hall.out]; rfl)
        by_cases h0 : l.length = 0
        · have hz : ((l.length : Int) == 0) = true := by simp [h0]
          have HV2 := Lib.hid (HV.out.trans (decide_eq_true h0))
          clear h0 HV
          go_wp2
          go_ret
          exact ⟨by rw [HV2.out]; rfl, hbw⟩
        · have hz : ((l.length : Int) == 0) = false := by rw [beq_eq_false_iff_ne]; omega
          have HV2 := Lib.hid (HV.out.trans (decide_eq_false h0))
          clear h0 HV
          go_wp2
          go_ret
          exact ⟨by rw [HV2.out]; rfl, hbw⟩
      | true =>
        have HV := Lib.hid (show filterB ⟨true, l⟩ = (decide ((1 : Int) ≤ (l.length : Int)) && decide ((l.length : Int) ≤ 3)) by unfold filterB; rw [Hall.out]; rfl)
        go_wp2_with fail
        refine (C3.out _).mono ?_
        rintro e w1 ⟨rfl, rfl⟩
        go_wp2
        go_ret
        exact ⟨by rw [HV.out]; rfl, hbw⟩

end Go.Proofs.Ytidjebepgpbcnaa
