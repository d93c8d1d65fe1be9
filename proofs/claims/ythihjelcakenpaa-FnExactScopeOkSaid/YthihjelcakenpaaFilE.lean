/-
  Chapter 6: the laws' helpers on filters.
-/
import Derived.Test.YthihjelcakenpaaFilD
namespace Go.Proofs.Ythihjelcakenpaa
open Go.RowKit

set_option maxHeartbeats 1600000 in
theorem toFilter_any (f : Flt) (vs : Value) (w : World) (hr : LfRd w (scpsLf f.scopes) vs) (hl : f.scopes.length ≤ 1048576) (hx : ∀ s ∈ f.scopes, s.names.length ≤ 1048576) :
    Calls Try.prog 21 #[.agg #[.bool f.on, vs]] w fun e w' => ∃ v' fp, e = .returned (.agg #[.bool f.on, v']) ∧ Tree w' w.heap.size (scpsLf f.scopes) v' fp ∧ Below w.heap.size w w' := by
  obtain ⟨on, l⟩ := f
  simp only at *
  obtain ⟨p, c, rfl, _⟩ := scps_at hr
  have HR := Lib.hid hr
  have CT := Lib.hid (fun W (h : LfRd W (scpsLf l) (.slice p l.length c)) => toScopeS_any (.slice p l.length c) l W h hl hx)
  clear hr
  go_enter Try.func21, Try.ntmps21
  have HA := Lib.hid (heap_alloc_new w (.cells #[.bool on, .slice p l.length c] 42))
  go_wp2_with fail
  have hb3 : Below w.heap.size w (((w.alloc (.cells #[.bool on, .slice p l.length c] 42)).alloc (.cells #[.bool false, .slice none 0 0] 26)).alloc (.cells #[.bool on, .slice none 0 0] 26)) := (((Below.refl _ _).alloc (Nat.le_refl _) _).alloc (by simp) _).alloc (by simp; omega) _
  have hA : (((w.alloc (.cells #[.bool on, .slice p l.length c] 42)).alloc (.cells #[.bool false, .slice none 0 0] 26)).alloc (.cells #[.bool on, .slice none 0 0] 26)).heap[w.heap.size]? = some (.cells #[.bool on, .slice p l.length c] 42 (0, 0)) := ((Below.heap_alloc _ _ _ (by simp; omega)).trans (Below.heap_alloc _ _ _ (by simp))).trans HA.out
  have hR : (((w.alloc (.cells #[.bool on, .slice p l.length c] 42)).alloc (.cells #[.bool false, .slice none 0 0] 26)).alloc (.cells #[.bool on, .slice none 0 0] 26)).heap[w.heap.size + 1]? = some (.cells #[.bool false, .slice none 0 0] 26 (0, 0)) := (Below.heap_alloc _ _ _ (by simp)).trans (by have := heap_alloc_new (w.alloc (.cells #[.bool on, .slice p l.length c] 42)) (.cells #[.bool false, .slice none 0 0] 26); rwa [World.size_alloc] at this)
  have hT : (((w.alloc (.cells #[.bool on, .slice p l.length c] 42)).alloc (.cells #[.bool false, .slice none 0 0] 26)).alloc (.cells #[.bool on, .slice none 0 0] 26)).heap[w.heap.size + 1 + 1]? = some (.cells #[.bool on, .slice none 0 0] 26 (0, 0)) := by
    have := heap_alloc_new ((w.alloc (.cells #[.bool on, .slice p l.length c] 42)).alloc (.cells #[.bool false, .slice none 0 0] 26)) (.cells #[.bool on, .slice none 0 0] 26)
    rwa [World.size_alloc, World.size_alloc] at this
  have hzW : (((w.alloc (.cells #[.bool on, .slice p l.length c] 42)).alloc (.cells #[.bool false, .slice none 0 0] 26)).alloc (.cells #[.bool on, .slice none 0 0] 26)).heap.size = w.heap.size + 3 := by simp
  generalize (((w.alloc (.cells #[.bool on, .slice p l.length c] 42)).alloc (.cells #[.bool false, .slice none 0 0] 26)).alloc (.cells #[.bool on, .slice none 0 0] 26)) = W3 at *
  refine (CT.out _ (LfRd.below hb3 _ _ HR.out)).mono ?_
  rintro e w1 ⟨V, fp, rfl, o1, b1⟩
  have hb1 := hb3.trans (b1.mono hb3.size)
  replace hA := (b1.block w.heap.size (by omega)).trans hA
  replace hR := (b1.block (w.heap.size + 1) (by omega)).trans hR
  replace hT := (b1.block (w.heap.size + 1 + 1) (by omega)).trans hT
  have hg : ∀ q ∈ fp, w.heap.size + 3 ≤ q := fun q hq => by have := o1.low q hq; omega
  have hnd := o1.nodup
  have hV2 : ∃ p n c, V = .slice p n c := by obtain ⟨p, c, h, _⟩ := o1.rd.2; exact ⟨p, _, c, h⟩
  obtain ⟨pv, nv, cv, rfl⟩ := hV2
  have o2 := Lib.hid o1.is
  clear b1 CT HA hb3 hzW o1
  -- what is set
  have c1 : w1.cell? ⟨w.heap.size + 1 + 1, 1, none⟩ = some (.slice none 0 0) := (Lib.cell_of_heap hT 1).trans rfl
  have f1 : w1.frozen? ⟨w.heap.size + 1 + 1, 1, none⟩ = false := Lib.frozen_of_heap hT 1
  have hT3 : (w1.setCell ⟨w.heap.size + 1 + 1, 1, none⟩ (.slice pv nv cv)).heap[w.heap.size + 1 + 1]? = some (.cells #[.bool on, .slice pv nv cv] 26 (0, 0)) := set_heap hT
  have hR3 : (w1.setCell ⟨w.heap.size + 1 + 1, 1, none⟩ (.slice pv nv cv)).heap[w.heap.size + 1]? = some (.cells #[.bool false, .slice none 0 0] 26 (0, 0)) := (set_other (by omega)).trans hR
  have g3 : GrownIn w1 (w1.setCell ⟨w.heap.size + 1 + 1, 1, none⟩ (.slice pv nv cv)) [w.heap.size + 1, w.heap.size + 1 + 1] := GrownIn.set (by simp)
  have hb5 := hb1.setCell (p := ⟨w.heap.size + 1 + 1, 1, none⟩) (by show w.heap.size ≤ w.heap.size + 1 + 1; omega) (.slice pv nv cv)
  generalize hW5 : w1.setCell ⟨w.heap.size + 1 + 1, 1, none⟩ (.slice pv nv cv) = W5 at *
  have d0 : W5.cell? ⟨w.heap.size + 1 + 1, 0, none⟩ = some (.bool on) := (Lib.cell_of_heap hT3 0).trans rfl
  have d1 : W5.cell? ⟨w.heap.size + 1 + 1, 1, none⟩ = some (.slice pv nv cv) := (Lib.cell_of_heap hT3 1).trans rfl
  have r0 : W5.cell? ⟨w.heap.size + 1, 0, none⟩ = some (.bool false) := (Lib.cell_of_heap hR3 0).trans rfl
  have q0 : W5.frozen? ⟨w.heap.size + 1, 0, none⟩ = false := Lib.frozen_of_heap hR3 0
  have q1 : W5.frozen? ⟨w.heap.size + 1, 1, none⟩ = false := Lib.frozen_of_heap hR3 1
  have hR4 := set_heap (j := 0) (u := .bool on) hR3
  have hR5 := set_heap (j := 1) (u := .slice pv nv cv) hR4
  have r1 := (Lib.cell_of_heap hR4 1).trans (show _ = some (Value.slice none 0 0) from rfl)
  have s0 := (Lib.cell_of_heap hR5 0).trans (show _ = some (Value.bool on) from rfl)
  have s1 := (Lib.cell_of_heap hR5 1).trans (show _ = some (Value.slice pv nv cv) from rfl)
  have g4 : GrownIn w1 ((W5.setCell ⟨w.heap.size + 1, 0, none⟩ (.bool on)).setCell ⟨w.heap.size + 1, 1, none⟩ (.slice pv nv cv)) [w.heap.size + 1, w.heap.size + 1 + 1] := (g3.trans (GrownIn.set (by simp))).trans (GrownIn.set (by simp))
  have o6 : LfIn ((W5.setCell ⟨w.heap.size + 1, 0, none⟩ (.bool on)).setCell ⟨w.heap.size + 1, 1, none⟩ (.slice pv nv cv)) (scpsLf l) (.slice pv nv cv) fp := o2.out.frame _ _ _ (fun k hk => g4.block k (LfIn.lt _ _ _ o2.out k hk) (fun hm => by have := hg k hk; simp at hm; omega))
  have hb6 := (hb5.setCell (p := ⟨w.heap.size + 1, 0, none⟩) (by show w.heap.size ≤ w.heap.size + 1; omega) (.bool on)).setCell (p := ⟨w.heap.size + 1, 1, none⟩) (by show w.heap.size ≤ w.heap.size + 1; omega) (.slice pv nv cv)
  have O6 := Lib.hid o6
  clear hA hR hT hT3 hR3 hR4 hR5 hb1 o6 o2 hb5 g3 g4
  go_wp2
  exact bodyPost_ret (v := .agg #[.bool on, .slice pv nv cv]) (by simp [results, Try.results21, go_sem, s0, s1]) rfl ⟨_, fp, rfl, ⟨O6.out, hnd, fun q hq => by have := hg q hq; omega⟩, hb6⟩

set_option maxHeartbeats 800000 in
theorem eqFilter_same (f : Flt) (va vb : Value) (w : World) (ha : LfRd w (scpsLf f.scopes) va) (hb : LfRd w (scpsLf f.scopes) vb) (hl : f.scopes.length ≤ 140737488355328) (hx : ∀ s ∈ f.scopes, s.names.length ≤ 140737488355328) :
    Calls Try.prog 23 #[.agg #[.bool f.on, va], .agg #[.bool f.on, vb]] w fun e w' => e = .returned (.bool true) ∧ Below w.heap.size w w' := by
  obtain ⟨on, l⟩ := f
  simp only at *
  obtain ⟨p, c, rfl, _⟩ := scps_at ha
  obtain ⟨q, d, rfl, _⟩ := scps_at hb
  have hb2 : Below w.heap.size w ((w.alloc (.cells #[.bool on, .slice p l.length c] 26)).alloc (.cells #[.bool on, .slice q l.length d] 26)) := ((Below.refl _ _).alloc (Nat.le_refl _) _).alloc (by simp) _
  have CE := Lib.hid (eqScopeS_same _ _ l _ (LfRd.below hb2 _ _ ha) (LfRd.below hb2 _ _ hb) hl hx)
  clear ha hb
  cases on with
  | _ =>
    go_enter Try.func23, Try.ntmps23
    go_wp2_with fail
    refine (CE.out).mono ?_
    rintro e w1 ⟨rfl, b1⟩
    have hb1 := hb2.trans (b1.mono (by simp; omega))
    clear b1 hb2
    go_wp2
    go_ret
    exact ⟨rfl, hb1⟩

set_option maxHeartbeats 800000 in
theorem szFilter_any (f : Flt) (vs : Value) (left : Nat) (w : World) (hr : LfRd w (scpsLf f.scopes) vs) (hl : f.scopes.length ≤ 9223372036854775807) (hx : ∀ s ∈ f.scopes, s.names.length ≤ 9223372036854775807 ∧ ∀ x ∈ s.names, x.length ≤ 9223372036854775807) (hL : left ≤ 1000000000000) :
    Calls Try.prog 19 #[.agg #[.bool f.on, vs], .int .i64 left] w fun e w' => e = .returned (.int .i64 (scR left f.scopes)) ∧ Below w.heap.size w w' := by
  obtain ⟨on, l⟩ := f
  simp only at *
  obtain ⟨p, c, rfl, _⟩ := scps_at hr
  have hb1 : Below w.heap.size w (w.alloc (.cells #[.bool on, .slice p l.length c] 42)) := (Below.refl _ _).alloc (Nat.le_refl _) _
  have c1 := szScopeS_any _ l left _ (LfRd.below hb1 _ _ hr) hl hx hL
  by_cases hok : l.length + scw l ≤ left
  · rw [scR_yes hok] at c1
    have C1 := Lib.hid c1
    have HV := Lib.hid (scR_yes hok)
    have hnn : ¬ ((left - (l.length + scw l) : Nat) : Int) < 0 := by omega
    clear c1
    go_enter Try.func19, Try.ntmps19
    go_wp2_with fail
    refine (C1.out).mono ?_
    rintro e w1 ⟨rfl, b1⟩
    have hb2 := hb1.trans (b1.mono (by simp))
    go_wp2
    go_ret
    exact ⟨by rw [HV.out]; rfl, hb2⟩
  · rw [scR_no hok] at c1
    have C1 := Lib.hid c1
    have HV := Lib.hid (scR_no hok)
    clear c1
    go_enter Try.func19, Try.ntmps19
    go_wp2_with fail
    refine (C1.out).mono ?_
    rintro e w1 ⟨rfl, b1⟩
    have hb2 := hb1.trans (b1.mono (by simp))
    go_wp2
    go_ret
    exact ⟨by rw [HV.out]; rfl, hb2⟩

end Go.Proofs.Ythihjelcakenpaa
