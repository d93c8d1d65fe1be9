/-
  Sj: ComD (what the claim needs of them).
-/
import Derived.Deep.DeepCutAuto
import Derived.Test.YtbfgdbpfecffcaaGreatDoorRows
import Derived.WalkKit
import Derived.WalkSpells
import Derived.WalkLawsBesides
import Derived.Laws.IdiomStrings
import Derived.Lib.Hide
import Derived.Deep.AppendLies
import Derived.OrdersHeld
import Derived.Lib.ItoaNum
import Derived.Lib.ItoaMem
import Derived.Lib.AppendStr
import Derived.Lib.ItoaLen
import Derived.Lib.Strings
import Derived.Lib.Bytealg
import Derived.Lib.OthersKept
import Derived.Laws.RangeAny
import Derived.Laws.BitsAllLaws
import Derived.Laws.BitsLemmas
import Derived.IntWalk
import Derived.Handy
import Derived.Lib.Join
import Derived.Deep.Strs
import Derived.Test.YtbfgdbpfecffcaaGreatDoorProg
import Derived.Laws.Tables
import Derived.Test.YtbfgdbpfecffcaaGreatDoorSb
import Derived.Test.YtbfgdbpfecffcaaGreatDoorSc
import Derived.Test.YtbfgdbpfecffcaaGreatDoorSd
import Derived.Test.YtbfgdbpfecffcaaGreatDoorSe
import Derived.Test.YtbfgdbpfecffcaaGreatDoorSf
import Derived.Test.YtbfgdbpfecffcaaGreatDoorSg
import Derived.Test.YtbfgdbpfecffcaaGreatDoorSi

namespace Go.Proofs.YtbfgdbpfecffcaaGreatDoor
open Go.RowKit

theorem com_in {m : ComD} (h : (decide (1 ≤ m.kind) && decide (m.kind ≤ 6)) = false) : commitB m = false := by unfold commitB; rw [h]; simp
theorem com_val {m : ComD} (h : num9 m.validity = false) : commitB m = false := by unfold commitB; rw [h]; simp
def uidB (m : ComD) : Bool := decide (1 ≤ m.uid) && decide (m.uid ≤ 999999998)
theorem com_13 {m : ComD} (hk : m.kind = 1 ∨ m.kind = 3) (hv : num9 m.validity = true) : commitB m = ((m.uid == 0) && (m.flags == 0) && (m.text == []) && nameB m.name) := by
  obtain ⟨k, v, u, f, n, t⟩ := m
  simp only at hk hv
  have h1 : (decide (1 ≤ k) && decide (k ≤ 6)) = true := by simp only [Bool.and_eq_true, decide_eq_true_eq]; omega
  have h2 : decide (wantC ⟨k, v, u, f, n, t⟩ = ⟨k, v, u, f, n, t⟩) = ((u == 0) && (f == 0) && (t == [])) := by
    unfold wantC
    simp only [if_pos hk, ComD.mk.injEq, true_and]
    rw [Bool.eq_iff_iff]
    simp only [Bool.and_eq_true, decide_eq_true_eq, beq_iff_eq]
    constructor
    · rintro ⟨a, b, c⟩; exact ⟨⟨a.symm, b.symm⟩, c.symm⟩
    · rintro ⟨⟨a, b⟩, c⟩; exact ⟨a.symm, b.symm, c.symm⟩
  unfold commitB
  simp only [h1, hv, h2, if_pos hk, Bool.true_and]
theorem com_2 {m : ComD} (hk : m.kind = 2) (hv : num9 m.validity = true) : commitB m = ((m.uid == 0) && (m.flags == 0) && (m.name == []) && (m.text == [])) := by
  obtain ⟨k, v, u, f, n, t⟩ := m
  simp only at hk hv
  subst hk
  have h2 : decide (wantC ⟨2, v, u, f, n, t⟩ = ⟨2, v, u, f, n, t⟩) = ((u == 0) && (f == 0) && (n == []) && (t == [])) := by
    unfold wantC
    rw [Bool.eq_iff_iff]
    simp only [Bool.and_eq_true, decide_eq_true_eq, beq_iff_eq]
    simp
    constructor
    · rintro ⟨a, b, c, d⟩; exact ⟨⟨⟨a.symm, b.symm⟩, c⟩, d⟩
    · rintro ⟨⟨⟨a, b⟩, c⟩, d⟩; exact ⟨a.symm, b.symm, c, d⟩
  unfold commitB
  simp only [hv, h2]
  simp
theorem com_4 {m : ComD} (hk : m.kind = 4) (hv : num9 m.validity = true) : commitB m = ((m.name == []) && (uidB m && flB m.flags && decide ((m.text.length : Int) ≤ 40))) := by
  obtain ⟨k, v, u, f, n, t⟩ := m
  simp only at hk hv
  subst hk
  have h2 : decide (wantC ⟨4, v, u, f, n, t⟩ = ⟨4, v, u, f, n, t⟩) = (n == []) := by
    unfold wantC
    rw [Bool.eq_iff_iff]
    simp
  unfold commitB uidB
  simp only [hv, h2]
  simp
theorem com_5 {m : ComD} (hk : m.kind = 5) (hv : num9 m.validity = true) : commitB m = ((m.name == []) && (m.text == []) && (uidB m && flB m.flags && decide ((m.text.length : Int) ≤ 40))) := by
  obtain ⟨k, v, u, f, n, t⟩ := m
  simp only at hk hv
  subst hk
  have h2 : decide (wantC ⟨5, v, u, f, n, t⟩ = ⟨5, v, u, f, n, t⟩) = ((n == []) && (t == [])) := by
    unfold wantC
    rw [Bool.eq_iff_iff]
    simp
  unfold commitB uidB
  simp only [hv, h2]
  simp
theorem com_6 {m : ComD} (hk : m.kind = 6) (hv : num9 m.validity = true) : commitB m = ((m.flags == 0) && (m.name == []) && (m.text == []) && (uidB m && flB m.flags && decide ((m.text.length : Int) ≤ 40))) := by
  obtain ⟨k, v, u, f, n, t⟩ := m
  simp only at hk hv
  subst hk
  have h2 : decide (wantC ⟨6, v, u, f, n, t⟩ = ⟨6, v, u, f, n, t⟩) = ((f == 0) && (n == []) && (t == [])) := by
    unfold wantC
    rw [Bool.eq_iff_iff]
    simp only [Bool.and_eq_true, decide_eq_true_eq, beq_iff_eq]
    simp
    constructor
    · rintro ⟨a, b, c⟩; exact ⟨⟨a.symm, b⟩, c⟩
    · rintro ⟨⟨a, b⟩, c⟩; exact ⟨a.symm, b, c⟩
  unfold commitB uidB
  simp only [hv, h2]
  simp

set_option maxRecDepth 20000 in
set_option maxHeartbeats 6400000 in
theorem specCommitOk_c : CtrCommitOk 96 (fun _ => True) := by
  intro x w _ hs hbd
  have hnl : x.name.length ≤ 1048576 := by rw [ComD.sz] at hs; omega
  have htl : x.text.length ≤ 1048576 := by rw [ComD.sz] at hs; omega
  have CN : ∀ W, Calls Tryz.prog 113 #[sv x.name] W fun e w' => e = .returned (.bool (nameB x.name)) ∧ W = w' := fun W => by
    have := specNameOk_any ⟨x.name.toArray⟩ W (by unfold maxLen; show x.name.toArray.size ≤ _; simp; omega)
    simpa using this
  have CI := fun W => l1In_any x.kind 1 6 W
  have CU := fun W => l1In_any x.uid 1 999999998 W
  have CV := fun W => l9Number_any x.validity W
  have CF := fun W => specFlagsOk_any x.flags W
  have hb1 : Below w.heap.size w (w.alloc (.cells #[.int .i64 x.kind, .int .i64 x.validity, .int .i64 x.uid, .int .i64 x.flags, sv x.name, sv x.text] 26)) := (Below.refl _ _).alloc (Nat.le_refl _) _
  have hA1 := heap_alloc_new w (.cells #[.int .i64 x.kind, .int .i64 x.validity, .int .i64 x.uid, .int .i64 x.flags, sv x.name, sv x.text] 26)
  clear hs hbd hnl
  cases hi : (decide (1 ≤ x.kind) && decide (x.kind ≤ 6)) with
  | false =>
    have HV := Lib.hid (com_in hi)
    simp only [hi] at CI
    have C := Lib.hid CI
    clear CI CU CV CF CN hi
    go_enter Tryz.func96, Tryz.ntmps96
    go_wp2_with fail
    refine (C.out _).mono ?_
    rintro e w1 ⟨rfl, rfl⟩
    go_wp2
    go_ret
    exact ⟨by rw [HV.out]; rfl, hb1⟩
  | true =>
  simp only [hi] at CI
  cases hv : num9 x.validity with
  | false =>
    have HV := Lib.hid (com_val hv)
    simp only [hv] at CV
    have C := Lib.hid CI
    have C2 := Lib.hid CV
    clear CI CU CV CF CN hi hv
    go_enter Tryz.func96, Tryz.ntmps96
    go_wp2_with fail
    refine (C.out _).mono ?_
    rintro e w1 ⟨rfl, rfl⟩
    go_wp2_with fail
    refine (C2.out _).mono ?_
    rintro e w1 ⟨rfl, rfl⟩
    go_wp2
    go_ret
    exact ⟨by rw [HV.out]; rfl, hb1⟩
  | true =>
  simp only [hv] at CV
  have D1 := Lib.hid CI
  have D2 := Lib.hid CV
  have HVV := Lib.hid hv
  clear CI CV hv
  have hk6 : x.kind = 1 ∨ x.kind = 2 ∨ x.kind = 3 ∨ x.kind = 4 ∨ x.kind = 5 ∨ x.kind = 6 := by simp only [Bool.and_eq_true, decide_eq_true_eq] at hi; omega
  clear hi
  rcases hk6 with hk | hk | hk | hk | hk | hk
  · have HV := Lib.hid (com_13 (.inl hk) HVV.out)
    have t1 : (x.kind == 1) = true := by rw [hk]; rfl
    clear hk HVV
    have hW : Below w.heap.size w ((w.alloc (.cells #[.int .i64 x.kind, .int .i64 x.validity, .int .i64 x.uid, .int .i64 x.flags, sv x.name, sv x.text] 26)).alloc (.cells #[.int .i64 x.kind, .int .i64 x.validity, .int .i64 0, .int .i64 0, sv x.name, .string ⟨#[]⟩] 26)) ∧ ((w.alloc (.cells #[.int .i64 x.kind, .int .i64 x.validity, .int .i64 x.uid, .int .i64 x.flags, sv x.name, sv x.text] 26)).alloc (.cells #[.int .i64 x.kind, .int .i64 x.validity, .int .i64 0, .int .i64 0, sv x.name, .string ⟨#[]⟩] 26)).heap[w.heap.size]? = some (.cells #[.int .i64 x.kind, .int .i64 x.validity, .int .i64 x.uid, .int .i64 x.flags, sv x.name, sv x.text] 26 (0, 0)) ∧ ((w.alloc (.cells #[.int .i64 x.kind, .int .i64 x.validity, .int .i64 x.uid, .int .i64 x.flags, sv x.name, sv x.text] 26)).alloc (.cells #[.int .i64 x.kind, .int .i64 x.validity, .int .i64 0, .int .i64 0, sv x.name, .string ⟨#[]⟩] 26)).heap[w.heap.size + 1]? = some (.cells #[.int .i64 x.kind, .int .i64 x.validity, .int .i64 0, .int .i64 0, sv x.name, .string ⟨#[]⟩] 26 (0, 0)) := by
      refine ⟨hb1.alloc (by simp) _, (Below.heap_alloc _ _ _ (by simp)).trans hA1, ?_⟩
      have := heap_alloc_new (w.alloc (.cells #[.int .i64 x.kind, .int .i64 x.validity, .int .i64 x.uid, .int .i64 x.flags, sv x.name, sv x.text] 26)) (.cells #[.int .i64 x.kind, .int .i64 x.validity, .int .i64 0, .int .i64 0, sv x.name, .string ⟨#[]⟩] 26)
      rwa [World.size_alloc] at this
    have HW := Lib.hid hW
    clear hW
    go_enter Tryz.func96, Tryz.ntmps96
    go_wp2_with fail
    refine (D1.out _).mono ?_
    rintro e w1 ⟨rfl, rfl⟩
    go_wp2_with fail
    refine (D2.out _).mono ?_
    rintro e w1 ⟨rfl, rfl⟩
    go_upto_region 17 with fail
    generalize ((w.alloc (.cells #[.int .i64 x.kind, .int .i64 x.validity, .int .i64 x.uid, .int .i64 x.flags, sv x.name, sv x.text] 26)).alloc (.cells #[.int .i64 x.kind, .int .i64 x.validity, .int .i64 0, .int .i64 0, sv x.name, .string ⟨#[]⟩] 26)) = X at *
    obtain ⟨hbX, hA, hC⟩ := HW.out
    have a0 := (Lib.cell_of_heap hA 0).trans (show _ = some (.int .i64 x.kind) from rfl)
    have a1 := (Lib.cell_of_heap hA 1).trans (show _ = some (.int .i64 x.validity) from rfl)
    have a2 := (Lib.cell_of_heap hA 2).trans (show _ = some (.int .i64 x.uid) from rfl)
    have a3 := (Lib.cell_of_heap hA 3).trans (show _ = some (.int .i64 x.flags) from rfl)
    have a4 := (Lib.cell_of_heap hA 4).trans (show _ = some (sv x.name) from rfl)
    have a5 := (Lib.cell_of_heap hA 5).trans (show _ = some (sv x.text) from rfl)
    have c0 := (Lib.cell_of_heap hC 0).trans (show _ = some (.int .i64 x.kind) from rfl)
    have c1 := (Lib.cell_of_heap hC 1).trans (show _ = some (.int .i64 x.validity) from rfl)
    have c2 := (Lib.cell_of_heap hC 2).trans (show _ = some (.int .i64 0) from rfl)
    have c3 := (Lib.cell_of_heap hC 3).trans (show _ = some (.int .i64 0) from rfl)
    have c4 := (Lib.cell_of_heap hC 4).trans (show _ = some (sv x.name) from rfl)
    have c5 := (Lib.cell_of_heap hC 5).trans (show _ = some (.string ⟨#[]⟩) from rfl)
    clear hA hC HW hb1 hA1 D1 D2
    cases q2 : (x.uid == 0) with
    | false =>
      have HF := Lib.hid (show commitB x = false by rw [HV.out, q2]; simp)
      clear HV CU CF CN
      go_wp2
      go_ret
      exact ⟨by rw [HF.out]; rfl, hbX⟩
    | true =>
    cases q3 : (x.flags == 0) with
    | false =>
      have HF := Lib.hid (show commitB x = false by rw [HV.out, q3]; simp)
      clear HV CU CF CN
      go_wp2
      go_ret
      exact ⟨by rw [HF.out]; rfl, hbX⟩
    | true =>
    cases q5 : (x.text == []) with
    | false =>
      have HF := Lib.hid (show commitB x = false by rw [HV.out, q5]; simp)
      clear HV CU CF CN
      go_wp2
      go_ret
      exact ⟨by rw [HF.out]; rfl, hbX⟩
    | true =>
    have C := Lib.hid CN
    clear CU CF CN
    go_wp2_with fail
    refine (C.out _).mono ?_
    rintro e w1 ⟨rfl, rfl⟩
    go_wp2
    go_ret
    exact ⟨by rw [HV.out, q2, q3, q5]; rfl, hbX⟩
  · have HV := Lib.hid (com_2 hk HVV.out)
    have t1 : (x.kind == 1) = false := by rw [hk]; rfl
    have t2 : (x.kind == 2) = true := by rw [hk]; rfl
    clear hk HVV
    have hW : Below w.heap.size w ((w.alloc (.cells #[.int .i64 x.kind, .int .i64 x.validity, .int .i64 x.uid, .int .i64 x.flags, sv x.name, sv x.text] 26)).alloc (.cells #[.int .i64 x.kind, .int .i64 x.validity, .int .i64 0, .int .i64 0, .string ⟨#[]⟩, .string ⟨#[]⟩] 26)) ∧ ((w.alloc (.cells #[.int .i64 x.kind, .int .i64 x.validity, .int .i64 x.uid, .int .i64 x.flags, sv x.name, sv x.text] 26)).alloc (.cells #[.int .i64 x.kind, .int .i64 x.validity, .int .i64 0, .int .i64 0, .string ⟨#[]⟩, .string ⟨#[]⟩] 26)).heap[w.heap.size]? = some (.cells #[.int .i64 x.kind, .int .i64 x.validity, .int .i64 x.uid, .int .i64 x.flags, sv x.name, sv x.text] 26 (0, 0)) ∧ ((w.alloc (.cells #[.int .i64 x.kind, .int .i64 x.validity, .int .i64 x.uid, .int .i64 x.flags, sv x.name, sv x.text] 26)).alloc (.cells #[.int .i64 x.kind, .int .i64 x.validity, .int .i64 0, .int .i64 0, .string ⟨#[]⟩, .string ⟨#[]⟩] 26)).heap[w.heap.size + 1]? = some (.cells #[.int .i64 x.kind, .int .i64 x.validity, .int .i64 0, .int .i64 0, .string ⟨#[]⟩, .string ⟨#[]⟩] 26 (0, 0)) := by
      refine ⟨hb1.alloc (by simp) _, (Below.heap_alloc _ _ _ (by simp)).trans hA1, ?_⟩
      have := heap_alloc_new (w.alloc (.cells #[.int .i64 x.kind, .int .i64 x.validity, .int .i64 x.uid, .int .i64 x.flags, sv x.name, sv x.text] 26)) (.cells #[.int .i64 x.kind, .int .i64 x.validity, .int .i64 0, .int .i64 0, .string ⟨#[]⟩, .string ⟨#[]⟩] 26)
      rwa [World.size_alloc] at this
    have HW := Lib.hid hW
    clear hW
    go_enter Tryz.func96, Tryz.ntmps96
    go_wp2_with fail
    refine (D1.out _).mono ?_
    rintro e w1 ⟨rfl, rfl⟩
    go_wp2_with fail
    refine (D2.out _).mono ?_
    rintro e w1 ⟨rfl, rfl⟩
    go_upto_region 17 with fail
    generalize ((w.alloc (.cells #[.int .i64 x.kind, .int .i64 x.validity, .int .i64 x.uid, .int .i64 x.flags, sv x.name, sv x.text] 26)).alloc (.cells #[.int .i64 x.kind, .int .i64 x.validity, .int .i64 0, .int .i64 0, .string ⟨#[]⟩, .string ⟨#[]⟩] 26)) = X at *
    obtain ⟨hbX, hA, hC⟩ := HW.out
    have a0 := (Lib.cell_of_heap hA 0).trans (show _ = some (.int .i64 x.kind) from rfl)
    have a1 := (Lib.cell_of_heap hA 1).trans (show _ = some (.int .i64 x.validity) from rfl)
    have a2 := (Lib.cell_of_heap hA 2).trans (show _ = some (.int .i64 x.uid) from rfl)
    have a3 := (Lib.cell_of_heap hA 3).trans (show _ = some (.int .i64 x.flags) from rfl)
    have a4 := (Lib.cell_of_heap hA 4).trans (show _ = some (sv x.name) from rfl)
    have a5 := (Lib.cell_of_heap hA 5).trans (show _ = some (sv x.text) from rfl)
    have c0 := (Lib.cell_of_heap hC 0).trans (show _ = some (.int .i64 x.kind) from rfl)
    have c1 := (Lib.cell_of_heap hC 1).trans (show _ = some (.int .i64 x.validity) from rfl)
    have c2 := (Lib.cell_of_heap hC 2).trans (show _ = some (.int .i64 0) from rfl)
    have c3 := (Lib.cell_of_heap hC 3).trans (show _ = some (.int .i64 0) from rfl)
    have c4 := (Lib.cell_of_heap hC 4).trans (show _ = some (.string ⟨#[]⟩) from rfl)
    have c5 := (Lib.cell_of_heap hC 5).trans (show _ = some (.string ⟨#[]⟩) from rfl)
    clear hA hC HW hb1 hA1 D1 D2
    cases q2 : (x.uid == 0) with
    | false =>
      have HF := Lib.hid (show commitB x = false by rw [HV.out, q2]; simp)
      clear HV CU CF CN
      go_wp2
      go_ret
      exact ⟨by rw [HF.out]; rfl, hbX⟩
    | true =>
    cases q3 : (x.flags == 0) with
    | false =>
      have HF := Lib.hid (show commitB x = false by rw [HV.out, q3]; simp)
      clear HV CU CF CN
      go_wp2
      go_ret
      exact ⟨by rw [HF.out]; rfl, hbX⟩
    | true =>
    cases q4 : (x.name == []) with
    | false =>
      have HF := Lib.hid (show commitB x = false by rw [HV.out, q4]; simp)
      clear HV CU CF CN
      go_wp2
      go_ret
      exact ⟨by rw [HF.out]; rfl, hbX⟩
    | true =>
    cases q5 : (x.text == []) with
    | false =>
      have HF := Lib.hid (show commitB x = false by rw [HV.out, q5]; simp)
      clear HV CU CF CN
      go_wp2
      go_ret
      exact ⟨by rw [HF.out]; rfl, hbX⟩
    | true =>
    clear CU CF CN
    go_wp2
    go_ret
    exact ⟨by rw [HV.out, q2, q3, q4, q5]; rfl, hbX⟩
  · have HV := Lib.hid (com_13 (.inr hk) HVV.out)
    have t1 : (x.kind == 1) = false := by rw [hk]; rfl
    have t2 : (x.kind == 2) = false := by rw [hk]; rfl
    have t3 : (x.kind == 3) = true := by rw [hk]; rfl
    clear hk HVV
    have hW : Below w.heap.size w ((w.alloc (.cells #[.int .i64 x.kind, .int .i64 x.validity, .int .i64 x.uid, .int .i64 x.flags, sv x.name, sv x.text] 26)).alloc (.cells #[.int .i64 x.kind, .int .i64 x.validity, .int .i64 0, .int .i64 0, sv x.name, .string ⟨#[]⟩] 26)) ∧ ((w.alloc (.cells #[.int .i64 x.kind, .int .i64 x.validity, .int .i64 x.uid, .int .i64 x.flags, sv x.name, sv x.text] 26)).alloc (.cells #[.int .i64 x.kind, .int .i64 x.validity, .int .i64 0, .int .i64 0, sv x.name, .string ⟨#[]⟩] 26)).heap[w.heap.size]? = some (.cells #[.int .i64 x.kind, .int .i64 x.validity, .int .i64 x.uid, .int .i64 x.flags, sv x.name, sv x.text] 26 (0, 0)) ∧ ((w.alloc (.cells #[.int .i64 x.kind, .int .i64 x.validity, .int .i64 x.uid, .int .i64 x.flags, sv x.name, sv x.text] 26)).alloc (.cells #[.int .i64 x.kind, .int .i64 x.validity, .int .i64 0, .int .i64 0, sv x.name, .string ⟨#[]⟩] 26)).heap[w.heap.size + 1]? = some (.cells #[.int .i64 x.kind, .int .i64 x.validity, .int .i64 0, .int .i64 0, sv x.name, .string ⟨#[]⟩] 26 (0, 0)) := by
      refine ⟨hb1.alloc (by simp) _, (Below.heap_alloc _ _ _ (by simp)).trans hA1, ?_⟩
      have := heap_alloc_new (w.alloc (.cells #[.int .i64 x.kind, .int .i64 x.validity, .int .i64 x.uid, .int .i64 x.flags, sv x.name, sv x.text] 26)) (.cells #[.int .i64 x.kind, .int .i64 x.validity, .int .i64 0, .int .i64 0, sv x.name, .string ⟨#[]⟩] 26)
      rwa [World.size_alloc] at this
    have HW := Lib.hid hW
    clear hW
    go_enter Tryz.func96, Tryz.ntmps96
    go_wp2_with fail
    refine (D1.out _).mono ?_
    rintro e w1 ⟨rfl, rfl⟩
    go_wp2_with fail
    refine (D2.out _).mono ?_
    rintro e w1 ⟨rfl, rfl⟩
    go_upto_region 17 with fail
    generalize ((w.alloc (.cells #[.int .i64 x.kind, .int .i64 x.validity, .int .i64 x.uid, .int .i64 x.flags, sv x.name, sv x.text] 26)).alloc (.cells #[.int .i64 x.kind, .int .i64 x.validity, .int .i64 0, .int .i64 0, sv x.name, .string ⟨#[]⟩] 26)) = X at *
    obtain ⟨hbX, hA, hC⟩ := HW.out
    have a0 := (Lib.cell_of_heap hA 0).trans (show _ = some (.int .i64 x.kind) from rfl)
    have a1 := (Lib.cell_of_heap hA 1).trans (show _ = some (.int .i64 x.validity) from rfl)
    have a2 := (Lib.cell_of_heap hA 2).trans (show _ = some (.int .i64 x.uid) from rfl)
    have a3 := (Lib.cell_of_heap hA 3).trans (show _ = some (.int .i64 x.flags) from rfl)
    have a4 := (Lib.cell_of_heap hA 4).trans (show _ = some (sv x.name) from rfl)
    have a5 := (Lib.cell_of_heap hA 5).trans (show _ = some (sv x.text) from rfl)
    have c0 := (Lib.cell_of_heap hC 0).trans (show _ = some (.int .i64 x.kind) from rfl)
    have c1 := (Lib.cell_of_heap hC 1).trans (show _ = some (.int .i64 x.validity) from rfl)
    have c2 := (Lib.cell_of_heap hC 2).trans (show _ = some (.int .i64 0) from rfl)
    have c3 := (Lib.cell_of_heap hC 3).trans (show _ = some (.int .i64 0) from rfl)
    have c4 := (Lib.cell_of_heap hC 4).trans (show _ = some (sv x.name) from rfl)
    have c5 := (Lib.cell_of_heap hC 5).trans (show _ = some (.string ⟨#[]⟩) from rfl)
    clear hA hC HW hb1 hA1 D1 D2
    cases q2 : (x.uid == 0) with
    | false =>
      have HF := Lib.hid (show commitB x = false by rw [HV.out, q2]; simp)
      clear HV CU CF CN
      go_wp2
      go_ret
      exact ⟨by rw [HF.out]; rfl, hbX⟩
    | true =>
    cases q3 : (x.flags == 0) with
    | false =>
      have HF := Lib.hid (show commitB x = false by rw [HV.out, q3]; simp)
      clear HV CU CF CN
      go_wp2
      go_ret
      exact ⟨by rw [HF.out]; rfl, hbX⟩
    | true =>
    cases q5 : (x.text == []) with
    | false =>
      have HF := Lib.hid (show commitB x = false by rw [HV.out, q5]; simp)
      clear HV CU CF CN
      go_wp2
      go_ret
      exact ⟨by rw [HF.out]; rfl, hbX⟩
    | true =>
    have C := Lib.hid CN
    clear CU CF CN
    go_wp2_with fail
    refine (C.out _).mono ?_
    rintro e w1 ⟨rfl, rfl⟩
    go_wp2
    go_ret
    exact ⟨by rw [HV.out, q2, q3, q5]; rfl, hbX⟩
  · have HV := Lib.hid (com_4 hk HVV.out)
    have t1 : (x.kind == 1) = false := by rw [hk]; rfl
    have t2 : (x.kind == 2) = false := by rw [hk]; rfl
    have t3 : (x.kind == 3) = false := by rw [hk]; rfl
    have t4 : (x.kind == 4) = true := by rw [hk]; rfl
    clear hk HVV
    have hW : Below w.heap.size w ((w.alloc (.cells #[.int .i64 x.kind, .int .i64 x.validity, .int .i64 x.uid, .int .i64 x.flags, sv x.name, sv x.text] 26)).alloc (.cells #[.int .i64 x.kind, .int .i64 x.validity, .int .i64 x.uid, .int .i64 x.flags, .string ⟨#[]⟩, sv x.text] 26)) ∧ ((w.alloc (.cells #[.int .i64 x.kind, .int .i64 x.validity, .int .i64 x.uid, .int .i64 x.flags, sv x.name, sv x.text] 26)).alloc (.cells #[.int .i64 x.kind, .int .i64 x.validity, .int .i64 x.uid, .int .i64 x.flags, .string ⟨#[]⟩, sv x.text] 26)).heap[w.heap.size]? = some (.cells #[.int .i64 x.kind, .int .i64 x.validity, .int .i64 x.uid, .int .i64 x.flags, sv x.name, sv x.text] 26 (0, 0)) ∧ ((w.alloc (.cells #[.int .i64 x.kind, .int .i64 x.validity, .int .i64 x.uid, .int .i64 x.flags, sv x.name, sv x.text] 26)).alloc (.cells #[.int .i64 x.kind, .int .i64 x.validity, .int .i64 x.uid, .int .i64 x.flags, .string ⟨#[]⟩, sv x.text] 26)).heap[w.heap.size + 1]? = some (.cells #[.int .i64 x.kind, .int .i64 x.validity, .int .i64 x.uid, .int .i64 x.flags, .string ⟨#[]⟩, sv x.text] 26 (0, 0)) := by
      refine ⟨hb1.alloc (by simp) _, (Below.heap_alloc _ _ _ (by simp)).trans hA1, ?_⟩
      have := heap_alloc_new (w.alloc (.cells #[.int .i64 x.kind, .int .i64 x.validity, .int .i64 x.uid, .int .i64 x.flags, sv x.name, sv x.text] 26)) (.cells #[.int .i64 x.kind, .int .i64 x.validity, .int .i64 x.uid, .int .i64 x.flags, .string ⟨#[]⟩, sv x.text] 26)
      rwa [World.size_alloc] at this
    have HW := Lib.hid hW
    clear hW
    go_enter Tryz.func96, Tryz.ntmps96
    go_wp2_with fail
    refine (D1.out _).mono ?_
    rintro e w1 ⟨rfl, rfl⟩
    go_wp2_with fail
    refine (D2.out _).mono ?_
    rintro e w1 ⟨rfl, rfl⟩
    go_upto_region 17 with fail
    generalize ((w.alloc (.cells #[.int .i64 x.kind, .int .i64 x.validity, .int .i64 x.uid, .int .i64 x.flags, sv x.name, sv x.text] 26)).alloc (.cells #[.int .i64 x.kind, .int .i64 x.validity, .int .i64 x.uid, .int .i64 x.flags, .string ⟨#[]⟩, sv x.text] 26)) = X at *
    obtain ⟨hbX, hA, hC⟩ := HW.out
    have a0 := (Lib.cell_of_heap hA 0).trans (show _ = some (.int .i64 x.kind) from rfl)
    have a1 := (Lib.cell_of_heap hA 1).trans (show _ = some (.int .i64 x.validity) from rfl)
    have a2 := (Lib.cell_of_heap hA 2).trans (show _ = some (.int .i64 x.uid) from rfl)
    have a3 := (Lib.cell_of_heap hA 3).trans (show _ = some (.int .i64 x.flags) from rfl)
    have a4 := (Lib.cell_of_heap hA 4).trans (show _ = some (sv x.name) from rfl)
    have a5 := (Lib.cell_of_heap hA 5).trans (show _ = some (sv x.text) from rfl)
    have c0 := (Lib.cell_of_heap hC 0).trans (show _ = some (.int .i64 x.kind) from rfl)
    have c1 := (Lib.cell_of_heap hC 1).trans (show _ = some (.int .i64 x.validity) from rfl)
    have c2 := (Lib.cell_of_heap hC 2).trans (show _ = some (.int .i64 x.uid) from rfl)
    have c3 := (Lib.cell_of_heap hC 3).trans (show _ = some (.int .i64 x.flags) from rfl)
    have c4 := (Lib.cell_of_heap hC 4).trans (show _ = some (.string ⟨#[]⟩) from rfl)
    have c5 := (Lib.cell_of_heap hC 5).trans (show _ = some (sv x.text) from rfl)
    clear hA hC HW hb1 hA1 D1 D2
    cases q4 : (x.name == []) with
    | false =>
      have HF := Lib.hid (show commitB x = false by rw [HV.out, q4]; simp)
      clear HV CU CF CN
      go_wp2
      go_ret
      exact ⟨by rw [HF.out]; rfl, hbX⟩
    | true =>
    cases r1 : (decide (1 ≤ x.uid) && decide (x.uid ≤ 999999998)) with
    | false =>
      have HF := Lib.hid (show commitB x = false by rw [HV.out]; unfold uidB; rw [r1]; simp)
      simp only [r1] at CU
      have C := Lib.hid CU
      clear HV CU CF CN r1
      go_wp2_with fail
      refine (C.out _).mono ?_
      rintro e w1 ⟨rfl, rfl⟩
      go_wp2
      go_ret
      exact ⟨by rw [HF.out]; rfl, hbX⟩
    | true =>
    simp only [r1] at CU
    cases r2 : flB x.flags with
    | false =>
      have HF := Lib.hid (show commitB x = false by rw [HV.out, r2]; simp)
      simp only [r2] at CF
      have C := Lib.hid CU
      have C2 := Lib.hid CF
      clear HV CU CF CN r1 r2
      go_wp2_with fail
      refine (C.out _).mono ?_
      rintro e w1 ⟨rfl, rfl⟩
      go_wp2_with fail
      refine (C2.out _).mono ?_
      rintro e w1 ⟨rfl, rfl⟩
      go_wp2
      go_ret
      exact ⟨by rw [HF.out]; rfl, hbX⟩
    | true =>
    simp only [r2] at CF
    have HF := Lib.hid (show commitB x = decide ((x.text.length : Int) ≤ 40) by rw [HV.out]; unfold uidB; rw [r1, r2, q4]; rfl)
    have C := Lib.hid CU
    have C2 := Lib.hid CF
    clear HV CU CF CN r1 r2
    go_wp2_with fail
    refine (C.out _).mono ?_
    rintro e w1 ⟨rfl, rfl⟩
    go_wp2_with fail
    refine (C2.out _).mono ?_
    rintro e w1 ⟨rfl, rfl⟩
    go_wp2
    go_ret
    exact ⟨by rw [HF.out]; rfl, hbX⟩
  · have HV := Lib.hid (com_5 hk HVV.out)
    have t1 : (x.kind == 1) = false := by rw [hk]; rfl
    have t2 : (x.kind == 2) = false := by rw [hk]; rfl
    have t3 : (x.kind == 3) = false := by rw [hk]; rfl
    have t4 : (x.kind == 4) = false := by rw [hk]; rfl
    have t5 : (x.kind == 5) = true := by rw [hk]; rfl
    clear hk HVV
    have hW : Below w.heap.size w ((w.alloc (.cells #[.int .i64 x.kind, .int .i64 x.validity, .int .i64 x.uid, .int .i64 x.flags, sv x.name, sv x.text] 26)).alloc (.cells #[.int .i64 x.kind, .int .i64 x.validity, .int .i64 x.uid, .int .i64 x.flags, .string ⟨#[]⟩, .string ⟨#[]⟩] 26)) ∧ ((w.alloc (.cells #[.int .i64 x.kind, .int .i64 x.validity, .int .i64 x.uid, .int .i64 x.flags, sv x.name, sv x.text] 26)).alloc (.cells #[.int .i64 x.kind, .int .i64 x.validity, .int .i64 x.uid, .int .i64 x.flags, .string ⟨#[]⟩, .string ⟨#[]⟩] 26)).heap[w.heap.size]? = some (.cells #[.int .i64 x.kind, .int .i64 x.validity, .int .i64 x.uid, .int .i64 x.flags, sv x.name, sv x.text] 26 (0, 0)) ∧ ((w.alloc (.cells #[.int .i64 x.kind, .int .i64 x.validity, .int .i64 x.uid, .int .i64 x.flags, sv x.name, sv x.text] 26)).alloc (.cells #[.int .i64 x.kind, .int .i64 x.validity, .int .i64 x.uid, .int .i64 x.flags, .string ⟨#[]⟩, .string ⟨#[]⟩] 26)).heap[w.heap.size + 1]? = some (.cells #[.int .i64 x.kind, .int .i64 x.validity, .int .i64 x.uid, .int .i64 x.flags, .string ⟨#[]⟩, .string ⟨#[]⟩] 26 (0, 0)) := by
      refine ⟨hb1.alloc (by simp) _, (Below.heap_alloc _ _ _ (by simp)).trans hA1, ?_⟩
      have := heap_alloc_new (w.alloc (.cells #[.int .i64 x.kind, .int .i64 x.validity, .int .i64 x.uid, .int .i64 x.flags, sv x.name, sv x.text] 26)) (.cells #[.int .i64 x.kind, .int .i64 x.validity, .int .i64 x.uid, .int .i64 x.flags, .string ⟨#[]⟩, .string ⟨#[]⟩] 26)
      rwa [World.size_alloc] at this
    have HW := Lib.hid hW
    clear hW
    go_enter Tryz.func96, Tryz.ntmps96
    go_wp2_with fail
    refine (D1.out _).mono ?_
    rintro e w1 ⟨rfl, rfl⟩
    go_wp2_with fail
    refine (D2.out _).mono ?_
    rintro e w1 ⟨rfl, rfl⟩
    go_upto_region 17 with fail
    generalize ((w.alloc (.cells #[.int .i64 x.kind, .int .i64 x.validity, .int .i64 x.uid, .int .i64 x.flags, sv x.name, sv x.text] 26)).alloc (.cells #[.int .i64 x.kind, .int .i64 x.validity, .int .i64 x.uid, .int .i64 x.flags, .string ⟨#[]⟩, .string ⟨#[]⟩] 26)) = X at *
    obtain ⟨hbX, hA, hC⟩ := HW.out
    have a0 := (Lib.cell_of_heap hA 0).trans (show _ = some (.int .i64 x.kind) from rfl)
    have a1 := (Lib.cell_of_heap hA 1).trans (show _ = some (.int .i64 x.validity) from rfl)
    have a2 := (Lib.cell_of_heap hA 2).trans (show _ = some (.int .i64 x.uid) from rfl)
    have a3 := (Lib.cell_of_heap hA 3).trans (show _ = some (.int .i64 x.flags) from rfl)
    have a4 := (Lib.cell_of_heap hA 4).trans (show _ = some (sv x.name) from rfl)
    have a5 := (Lib.cell_of_heap hA 5).trans (show _ = some (sv x.text) from rfl)
    have c0 := (Lib.cell_of_heap hC 0).trans (show _ = some (.int .i64 x.kind) from rfl)
    have c1 := (Lib.cell_of_heap hC 1).trans (show _ = some (.int .i64 x.validity) from rfl)
    have c2 := (Lib.cell_of_heap hC 2).trans (show _ = some (.int .i64 x.uid) from rfl)
    have c3 := (Lib.cell_of_heap hC 3).trans (show _ = some (.int .i64 x.flags) from rfl)
    have c4 := (Lib.cell_of_heap hC 4).trans (show _ = some (.string ⟨#[]⟩) from rfl)
    have c5 := (Lib.cell_of_heap hC 5).trans (show _ = some (.string ⟨#[]⟩) from rfl)
    clear hA hC HW hb1 hA1 D1 D2
    cases q4 : (x.name == []) with
    | false =>
      have HF := Lib.hid (show commitB x = false by rw [HV.out, q4]; simp)
      clear HV CU CF CN
      go_wp2
      go_ret
      exact ⟨by rw [HF.out]; rfl, hbX⟩
    | true =>
    cases q5 : (x.text == []) with
    | false =>
      have HF := Lib.hid (show commitB x = false by rw [HV.out, q5]; simp)
      clear HV CU CF CN
      go_wp2
      go_ret
      exact ⟨by rw [HF.out]; rfl, hbX⟩
    | true =>
    cases r1 : (decide (1 ≤ x.uid) && decide (x.uid ≤ 999999998)) with
    | false =>
      have HF := Lib.hid (show commitB x = false by rw [HV.out]; unfold uidB; rw [r1]; simp)
      simp only [r1] at CU
      have C := Lib.hid CU
      clear HV CU CF CN r1
      go_wp2_with fail
      refine (C.out _).mono ?_
      rintro e w1 ⟨rfl, rfl⟩
      go_wp2
      go_ret
      exact ⟨by rw [HF.out]; rfl, hbX⟩
    | true =>
    simp only [r1] at CU
    cases r2 : flB x.flags with
    | false =>
      have HF := Lib.hid (show commitB x = false by rw [HV.out, r2]; simp)
      simp only [r2] at CF
      have C := Lib.hid CU
      have C2 := Lib.hid CF
      clear HV CU CF CN r1 r2
      go_wp2_with fail
      refine (C.out _).mono ?_
      rintro e w1 ⟨rfl, rfl⟩
      go_wp2_with fail
      refine (C2.out _).mono ?_
      rintro e w1 ⟨rfl, rfl⟩
      go_wp2
      go_ret
      exact ⟨by rw [HF.out]; rfl, hbX⟩
    | true =>
    simp only [r2] at CF
    have HF := Lib.hid (show commitB x = decide ((x.text.length : Int) ≤ 40) by rw [HV.out]; unfold uidB; rw [r1, r2, q4, q5]; rfl)
    have C := Lib.hid CU
    have C2 := Lib.hid CF
    clear HV CU CF CN r1 r2
    go_wp2_with fail
    refine (C.out _).mono ?_
    rintro e w1 ⟨rfl, rfl⟩
    go_wp2_with fail
    refine (C2.out _).mono ?_
    rintro e w1 ⟨rfl, rfl⟩
    go_wp2
    go_ret
    exact ⟨by rw [HF.out]; rfl, hbX⟩
  · have HV := Lib.hid (com_6 hk HVV.out)
    have t1 : (x.kind == 1) = false := by rw [hk]; rfl
    have t2 : (x.kind == 2) = false := by rw [hk]; rfl
    have t3 : (x.kind == 3) = false := by rw [hk]; rfl
    have t4 : (x.kind == 4) = false := by rw [hk]; rfl
    have t5 : (x.kind == 5) = false := by rw [hk]; rfl
    have t6 : (x.kind == 6) = true := by rw [hk]; rfl
    clear hk HVV
    have hW : Below w.heap.size w ((w.alloc (.cells #[.int .i64 x.kind, .int .i64 x.validity, .int .i64 x.uid, .int .i64 x.flags, sv x.name, sv x.text] 26)).alloc (.cells #[.int .i64 x.kind, .int .i64 x.validity, .int .i64 x.uid, .int .i64 0, .string ⟨#[]⟩, .string ⟨#[]⟩] 26)) ∧ ((w.alloc (.cells #[.int .i64 x.kind, .int .i64 x.validity, .int .i64 x.uid, .int .i64 x.flags, sv x.name, sv x.text] 26)).alloc (.cells #[.int .i64 x.kind, .int .i64 x.validity, .int .i64 x.uid, .int .i64 0, .string ⟨#[]⟩, .string ⟨#[]⟩] 26)).heap[w.heap.size]? = some (.cells #[.int .i64 x.kind, .int .i64 x.validity, .int .i64 x.uid, .int .i64 x.flags, sv x.name, sv x.text] 26 (0, 0)) ∧ ((w.alloc (.cells #[.int .i64 x.kind, .int .i64 x.validity, .int .i64 x.uid, .int .i64 x.flags, sv x.name, sv x.text] 26)).alloc (.cells #[.int .i64 x.kind, .int .i64 x.validity, .int .i64 x.uid, .int .i64 0, .string ⟨#[]⟩, .string ⟨#[]⟩] 26)).heap[w.heap.size + 1]? = some (.cells #[.int .i64 x.kind, .int .i64 x.validity, .int .i64 x.uid, .int .i64 0, .string ⟨#[]⟩, .string ⟨#[]⟩] 26 (0, 0)) := by
      refine ⟨hb1.alloc (by simp) _, (Below.heap_alloc _ _ _ (by simp)).trans hA1, ?_⟩
      have := heap_alloc_new (w.alloc (.cells #[.int .i64 x.kind, .int .i64 x.validity, .int .i64 x.uid, .int .i64 x.flags, sv x.name, sv x.text] 26)) (.cells #[.int .i64 x.kind, .int .i64 x.validity, .int .i64 x.uid, .int .i64 0, .string ⟨#[]⟩, .string ⟨#[]⟩] 26)
      rwa [World.size_alloc] at this
    have HW := Lib.hid hW
    clear hW
    go_enter Tryz.func96, Tryz.ntmps96
    go_wp2_with fail
    refine (D1.out _).mono ?_
    rintro e w1 ⟨rfl, rfl⟩
    go_wp2_with fail
    refine (D2.out _).mono ?_
    rintro e w1 ⟨rfl, rfl⟩
    go_upto_region 17 with fail
    generalize ((w.alloc (.cells #[.int .i64 x.kind, .int .i64 x.validity, .int .i64 x.uid, .int .i64 x.flags, sv x.name, sv x.text] 26)).alloc (.cells #[.int .i64 x.kind, .int .i64 x.validity, .int .i64 x.uid, .int .i64 0, .string ⟨#[]⟩, .string ⟨#[]⟩] 26)) = X at *
    obtain ⟨hbX, hA, hC⟩ := HW.out
    have a0 := (Lib.cell_of_heap hA 0).trans (show _ = some (.int .i64 x.kind) from rfl)
    have a1 := (Lib.cell_of_heap hA 1).trans (show _ = some (.int .i64 x.validity) from rfl)
    have a2 := (Lib.cell_of_heap hA 2).trans (show _ = some (.int .i64 x.uid) from rfl)
    have a3 := (Lib.cell_of_heap hA 3).trans (show _ = some (.int .i64 x.flags) from rfl)
    have a4 := (Lib.cell_of_heap hA 4).trans (show _ = some (sv x.name) from rfl)
    have a5 := (Lib.cell_of_heap hA 5).trans (show _ = some (sv x.text) from rfl)
    have c0 := (Lib.cell_of_heap hC 0).trans (show _ = some (.int .i64 x.kind) from rfl)
    have c1 := (Lib.cell_of_heap hC 1).trans (show _ = some (.int .i64 x.validity) from rfl)
    have c2 := (Lib.cell_of_heap hC 2).trans (show _ = some (.int .i64 x.uid) from rfl)
    have c3 := (Lib.cell_of_heap hC 3).trans (show _ = some (.int .i64 0) from rfl)
    have c4 := (Lib.cell_of_heap hC 4).trans (show _ = some (.string ⟨#[]⟩) from rfl)
    have c5 := (Lib.cell_of_heap hC 5).trans (show _ = some (.string ⟨#[]⟩) from rfl)
    clear hA hC HW hb1 hA1 D1 D2
    cases q3 : (x.flags == 0) with
    | false =>
      have HF := Lib.hid (show commitB x = false by rw [HV.out, q3]; simp)
      clear HV CU CF CN
      go_wp2
      go_ret
      exact ⟨by rw [HF.out]; rfl, hbX⟩
    | true =>
    cases q4 : (x.name == []) with
    | false =>
      have HF := Lib.hid (show commitB x = false by rw [HV.out, q4]; simp)
      clear HV CU CF CN
      go_wp2
      go_ret
      exact ⟨by rw [HF.out]; rfl, hbX⟩
    | true =>
    cases q5 : (x.text == []) with
    | false =>
      have HF := Lib.hid (show commitB x = false by rw [HV.out, q5]; simp)
      clear HV CU CF CN
      go_wp2
      go_ret
      exact ⟨by rw [HF.out]; rfl, hbX⟩
    | true =>
    cases r1 : (decide (1 ≤ x.uid) && decide (x.uid ≤ 999999998)) with
    | false =>
      have HF := Lib.hid (show commitB x = false by rw [HV.out]; unfold uidB; rw [r1]; simp)
      simp only [r1] at CU
      have C := Lib.hid CU
      clear HV CU CF CN r1
      go_wp2_with fail
      refine (C.out _).mono ?_
      rintro e w1 ⟨rfl, rfl⟩
      go_wp2
      go_ret
      exact ⟨by rw [HF.out]; rfl, hbX⟩
    | true =>
    simp only [r1] at CU
    cases r2 : flB x.flags with
    | false =>
      have HF := Lib.hid (show commitB x = false by rw [HV.out, r2]; simp)
      simp only [r2] at CF
      have C := Lib.hid CU
      have C2 := Lib.hid CF
      clear HV CU CF CN r1 r2
      go_wp2_with fail
      refine (C.out _).mono ?_
      rintro e w1 ⟨rfl, rfl⟩
      go_wp2_with fail
      refine (C2.out _).mono ?_
      rintro e w1 ⟨rfl, rfl⟩
      go_wp2
      go_ret
      exact ⟨by rw [HF.out]; rfl, hbX⟩
    | true =>
    simp only [r2] at CF
    have HF := Lib.hid (show commitB x = decide ((x.text.length : Int) ≤ 40) by rw [HV.out]; unfold uidB; rw [r1, r2, q3, q4, q5]; rfl)
    have C := Lib.hid CU
    have C2 := Lib.hid CF
    clear HV CU CF CN r1 r2
    go_wp2_with fail
    refine (C.out _).mono ?_
    rintro e w1 ⟨rfl, rfl⟩
    go_wp2_with fail
    refine (C2.out _).mono ?_
    rintro e w1 ⟨rfl, rfl⟩
    go_wp2
    go_ret
    exact ⟨by rw [HF.out]; rfl, hbX⟩

end Go.Proofs.YtbfgdbpfecffcaaGreatDoor
