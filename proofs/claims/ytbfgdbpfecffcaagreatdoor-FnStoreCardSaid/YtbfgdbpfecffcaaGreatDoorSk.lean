/-
  Sk: ComE (what the claim needs of them).
-/
import Derived.Deep.DeepCutAuto
import Derived.Test.YtbfgdbpfecffcaaGreatDoorRows
import Derived.WalkKit
import Derived.WalkSpells
import Derived.WalkLawsBesides
import Derived.Laws.IdiomStrings
import Derived.Lib.Hide
import Derived.Deep.AppendLies
import Derived.OrdersHeld
import Derived.Lib.ItoaNum
import Derived.Lib.ItoaMem
import Derived.Lib.AppendStr
import Derived.Lib.ItoaLen
import Derived.Lib.Strings
import Derived.Lib.Bytealg
import Derived.Lib.OthersKept
import Derived.Laws.RangeAny
import Derived.Laws.BitsAllLaws
import Derived.Laws.BitsLemmas
import Derived.IntWalk
import Derived.Handy
import Derived.Lib.Join
import Derived.Deep.Strs
import Derived.Test.YtbfgdbpfecffcaaGreatDoorProg
import Derived.Laws.Tables
import Derived.Test.YtbfgdbpfecffcaaGreatDoorSb
import Derived.Test.YtbfgdbpfecffcaaGreatDoorSc
import Derived.Test.YtbfgdbpfecffcaaGreatDoorSd
import Derived.Test.YtbfgdbpfecffcaaGreatDoorSe
import Derived.Test.YtbfgdbpfecffcaaGreatDoorSf
import Derived.Test.YtbfgdbpfecffcaaGreatDoorSg
import Derived.Test.YtbfgdbpfecffcaaGreatDoorSh
import Derived.Test.YtbfgdbpfecffcaaGreatDoorSi
import Derived.Test.YtbfgdbpfecffcaaGreatDoorSj

namespace Go.Proofs.YtbfgdbpfecffcaaGreatDoor
open Go.RowKit

theorem app_no1 {l : List BoxD} {m : ComD} (h : boxesB l = false) : appB l m = false := by unfold appB; rw [h]; rfl
theorem app_no2 {l : List BoxD} {m : ComD} (h : commitB m = false) : appB l m = false := by unfold appB; rw [h]; simp
theorem app_1 {l : List BoxD} {m : ComD} (h1 : boxesB l = true) (h2 : commitB m = true) (hk : m.kind = 1) : appB l m = (decide ((l.length : Int) < 4) && decide (bxWith l m.validity < 0) && decide (bxNamed l m.name < 0)) := by unfold appB; rw [h1, h2, if_pos hk]; rfl
theorem app_neg {l : List BoxD} {m : ComD} (hk : ¬ m.kind = 1) (h : bxWith l m.validity < 0) : appB l m = false := by unfold appB; rw [if_neg hk, decide_eq_true h]; simp
theorem app_3 {l : List BoxD} {m : ComD} (h1 : boxesB l = true) (h2 : commitB m = true) (hk : m.kind = 3) (h : ¬ bxWith l m.validity < 0) : appB l m = decide (bxNamed l m.name < 0) := by unfold appB; rw [h1, h2, if_neg (by omega), decide_eq_false h, if_pos hk]; rfl
theorem app_4 {l : List BoxD} {m : ComD} {b : BoxD} (h1 : boxesB l = true) (h2 : commitB m = true) (hk : m.kind = 4) (h : ¬ bxWith l m.validity < 0) (hb : l[whereB l m.validity]? = some b) : appB l m = ((b.next == m.uid) && decide ((b.msgs.length : Int) < 6)) := by unfold appB; rw [h1, h2, if_neg (by omega), decide_eq_false h, if_neg (by omega), hb]; simp only [if_pos hk]; rfl
theorem app_56 {l : List BoxD} {m : ComD} {b : BoxD} (h1 : boxesB l = true) (h2 : commitB m = true) (hk : m.kind = 5 ∨ m.kind = 6) (h : ¬ bxWith l m.validity < 0) (hb : l[whereB l m.validity]? = some b) : appB l m = decide (0 ≤ bxPlace b m.uid) := by unfold appB; rw [h1, h2, if_neg (by omega), decide_eq_false h, if_neg (by omega), hb]; simp only [if_neg (show ¬ m.kind = 4 by omega), if_pos hk]; rfl
theorem app_2 {l : List BoxD} {m : ComD} {b : BoxD} (h1 : boxesB l = true) (h2 : commitB m = true) (hk : m.kind = 2) (h : ¬ bxWith l m.validity < 0) (hb : l[whereB l m.validity]? = some b) : appB l m = true := by unfold appB; rw [h1, h2, if_neg (by omega), decide_eq_false h, if_neg (by omega), hb]; simp only [if_neg (show ¬ m.kind = 4 by omega), if_neg (show ¬ (m.kind = 5 ∨ m.kind = 6) by omega)]; rfl
theorem whereB_eq {l : List BoxD} {v : Int} (h : ¬ bxWith l v < 0) : bxWith l v = ((whereB l v : Nat) : Int) := by unfold whereB; omega
theorem com_fit {x : ComD} (hs : szLs x.lf ≤ 1048576) (hbd : LsBnd x.lf) : x.name.length ≤ 1048576 ∧ in64 x.validity ∧ in64 x.uid := by
  rw [ComD.sz] at hs
  exact ⟨by omega, hbd.2.1, hbd.2.2.1⟩

set_option maxRecDepth 20000 in
set_option maxHeartbeats 6400000 in
theorem specApplies_c : CtrApplies 42 (fun _ => True) := by
  intro l v x w _ hr hcap hs hbd hs2 hbd2
  obtain ⟨hl, _, _, hsl⟩ := boxes_small hs hbd
  obtain ⟨hnl, hvl, hul⟩ := com_fit hs2 hbd2
  have C1 := Lib.hid (fun W (g : Below w.heap.size w W) => specBoxesOk_c l v W trivial (LfRd.below g _ _ hr) hcap hs hbd)
  have C2 := Lib.hid (fun W => specCommitOk_c x W trivial hs2 hbd2)
  have C3 := Lib.hid (fun W (g : Below w.heap.size w W) => specBoxWith_c l v x.validity W trivial (LfRd.below g _ _ hr) hs hbd hvl)
  have C4 := Lib.hid (fun W (g : Below w.heap.size w W) => specBoxNamed_c l v x.name W trivial (LfRd.below g _ _ hr) hs hbd hnl)
  have HSL := Lib.hid hsl
  have HUL := Lib.hid hul
  obtain ⟨p, c, rfl, hp⟩ := BoxD.at hr
  have HP := Lib.hid hp
  have hbA : Below w.heap.size w (w.alloc (.cells #[.int .i64 x.kind, .int .i64 x.validity, .int .i64 x.uid, .int .i64 x.flags, sv x.name, sv x.text] 26)) := (Below.refl _ _).alloc (Nat.le_refl _) _
  have hA := heap_alloc_new w (.cells #[.int .i64 x.kind, .int .i64 x.validity, .int .i64 x.uid, .int .i64 x.flags, sv x.name, sv x.text] 26)
  have hz0 : (w.alloc (.cells #[.int .i64 x.kind, .int .i64 x.validity, .int .i64 x.uid, .int .i64 x.flags, sv x.name, sv x.text] 26)).heap.size = w.heap.size + 1 := by simp
  clear hr hcap hs hbd hs2 hbd2 hnl hvl hul hsl hp
  obtain ⟨W0, hW0⟩ : ∃ W0, w.alloc (.cells #[.int .i64 x.kind, .int .i64 x.validity, .int .i64 x.uid, .int .i64 x.flags, sv x.name, sv x.text] 26) = W0 := ⟨_, rfl⟩
  rw [hW0] at hbA hA hz0
  have HZ := Lib.hid hz0
  have HB := Lib.hid (fun W (g : Below W0.heap.size W0 W) => hbA.trans (g.mono hbA.size))
  have HA := Lib.hid (fun W (g : Below W0.heap.size W0 W) => (g.block w.heap.size (by omega)).trans hA)
  clear hbA hA hz0
  cases q1 : boxesB l with
  | false =>
    have HV := Lib.hid (app_no1 (m := x) q1)
    have D1 := Lib.hid (C1.out W0 (HB.out _ (Below.refl _ _)))
    rw [q1] at D1
    clear C1 C2 C3 C4 q1
    go_enter Tryz.func42, Tryz.ntmps42
    go_wp2_with fail
    refine (D1.out).mono ?_
    rintro e w1 ⟨rfl, k_w1⟩
    have g_w1 := k_w1
    clear k_w1
    go_wp2
    go_ret
    exact ⟨by rw [HV.out]; rfl, HB.out _ g_w1⟩
  | true =>
  have D1 := Lib.hid (C1.out W0 (HB.out _ (Below.refl _ _)))
  rw [q1] at D1
  cases q2 : commitB x with
  | false =>
    have HV := Lib.hid (app_no2 (l := l) q2)
    have D2 := C2
    rw [q2] at D2
    clear C1 C2 C3 C4 q1 q2
    go_enter Tryz.func42, Tryz.ntmps42
    go_wp2_with fail
    refine (D1.out).mono ?_
    rintro e w1 ⟨rfl, k_w1⟩
    have g_w1 := k_w1
    clear k_w1
    have hA_w1 := HA.out w1 g_w1
    have a0 := (Lib.cell_of_heap hA_w1 0).trans (show _ = some (.int .i64 x.kind) from rfl)
    have a1 := (Lib.cell_of_heap hA_w1 1).trans (show _ = some (.int .i64 x.validity) from rfl)
    have a2 := (Lib.cell_of_heap hA_w1 2).trans (show _ = some (.int .i64 x.uid) from rfl)
    have a3 := (Lib.cell_of_heap hA_w1 3).trans (show _ = some (.int .i64 x.flags) from rfl)
    have a4 := (Lib.cell_of_heap hA_w1 4).trans (show _ = some (sv x.name) from rfl)
    have a5 := (Lib.cell_of_heap hA_w1 5).trans (show _ = some (sv x.text) from rfl)
    clear hA_w1
    go_wp2_with fail
    refine (D2.out _).mono ?_
    rintro e w2 ⟨rfl, k_w2⟩
    have g_w2 := g_w1.trans (k_w2.mono g_w1.size)
    clear k_w2 g_w1
    go_wp2
    go_ret
    exact ⟨by rw [HV.out]; rfl, HB.out _ g_w2⟩
  | true =>
  have D2 := C2
  rw [q2] at D2
  clear C1 C2
  obtain ⟨vv, hvv⟩ : ∃ vv, bxWith l x.validity = vv := ⟨_, rfl⟩
  obtain ⟨nn, hnn⟩ : ∃ nn, bxNamed l x.name = nn := ⟨_, rfl⟩
  have D3 := C3
  have D4 := C4
  rw [hvv] at D3
  rw [hnn] at D4
  clear C3 C4
  by_cases k1 : x.kind = 1
  case pos =>
    have HV := Lib.hid (app_1 q1 q2 k1)
    rw [hvv, hnn] at HV
    have t1 : (x.kind == 1) = true := by rw [k1]; rfl
    clear hvv hnn q1 q2 k1
    by_cases n4 : (l.length : Int) < 4
    case neg =>
      have HF := Lib.hid (show appB l x = false by rw [HV.out, decide_eq_false n4]; rfl)
      clear HV
      go_enter Tryz.func42, Tryz.ntmps42
      go_wp2_with fail
      refine (D1.out).mono ?_
      rintro e w1 ⟨rfl, k_w1⟩
      have g_w1 := k_w1
      clear k_w1
      have hA_w1 := HA.out w1 g_w1
      have a0 := (Lib.cell_of_heap hA_w1 0).trans (show _ = some (.int .i64 x.kind) from rfl)
      have a1 := (Lib.cell_of_heap hA_w1 1).trans (show _ = some (.int .i64 x.validity) from rfl)
      have a2 := (Lib.cell_of_heap hA_w1 2).trans (show _ = some (.int .i64 x.uid) from rfl)
      have a3 := (Lib.cell_of_heap hA_w1 3).trans (show _ = some (.int .i64 x.flags) from rfl)
      have a4 := (Lib.cell_of_heap hA_w1 4).trans (show _ = some (sv x.name) from rfl)
      have a5 := (Lib.cell_of_heap hA_w1 5).trans (show _ = some (sv x.text) from rfl)
      clear hA_w1
      go_wp2_with fail
      refine (D2.out _).mono ?_
      rintro e w2 ⟨rfl, k_w2⟩
      have g_w2 := g_w1.trans (k_w2.mono g_w1.size)
      clear k_w2 g_w1
      clear a0 a1 a2 a3 a4 a5
      have hA_w2 := HA.out w2 g_w2
      have a1 := (Lib.cell_of_heap hA_w2 1).trans (show _ = some (.int .i64 x.validity) from rfl)
      clear hA_w2
      go_wp2_with fail
      refine (D3.out _ (HB.out _ g_w2)).mono ?_
      rintro e w3 ⟨rfl, k_w3⟩
      have g_w3 := g_w2.trans (k_w3.mono g_w2.size)
      clear k_w3 g_w2
      clear a1
      have hA_w3 := HA.out w3 g_w3
      have a4 := (Lib.cell_of_heap hA_w3 4).trans (show _ = some (sv x.name) from rfl)
      clear hA_w3
      go_wp2_with fail
      refine (D4.out _ (HB.out _ g_w3)).mono ?_
      rintro e w4 ⟨rfl, k_w4⟩
      have g_w4 := g_w3.trans (k_w4.mono g_w3.size)
      clear k_w4 g_w3
      clear a4
      have hA_w4 := HA.out w4 g_w4
      have a0 := (Lib.cell_of_heap hA_w4 0).trans (show _ = some (.int .i64 x.kind) from rfl)
      clear hA_w4
      by_cases n0 : (0 : Int) ≤ nn
      · go_wp2
        go_ret
        exact ⟨by rw [HF.out]; rfl, HB.out _ g_w4⟩
      · go_wp2
        go_ret
        exact ⟨by rw [HF.out]; rfl, HB.out _ g_w4⟩
    by_cases n5 : vv < 0
    case neg =>
      have HF := Lib.hid (show appB l x = false by rw [HV.out, decide_eq_false n5]; simp)
      clear HV
      go_enter Tryz.func42, Tryz.ntmps42
      go_wp2_with fail
      refine (D1.out).mono ?_
      rintro e w1 ⟨rfl, k_w1⟩
      have g_w1 := k_w1
      clear k_w1
      have hA_w1 := HA.out w1 g_w1
      have a0 := (Lib.cell_of_heap hA_w1 0).trans (show _ = some (.int .i64 x.kind) from rfl)
      have a1 := (Lib.cell_of_heap hA_w1 1).trans (show _ = some (.int .i64 x.validity) from rfl)
      have a2 := (Lib.cell_of_heap hA_w1 2).trans (show _ = some (.int .i64 x.uid) from rfl)
      have a3 := (Lib.cell_of_heap hA_w1 3).trans (show _ = some (.int .i64 x.flags) from rfl)
      have a4 := (Lib.cell_of_heap hA_w1 4).trans (show _ = some (sv x.name) from rfl)
      have a5 := (Lib.cell_of_heap hA_w1 5).trans (show _ = some (sv x.text) from rfl)
      clear hA_w1
      go_wp2_with fail
      refine (D2.out _).mono ?_
      rintro e w2 ⟨rfl, k_w2⟩
      have g_w2 := g_w1.trans (k_w2.mono g_w1.size)
      clear k_w2 g_w1
      clear a0 a1 a2 a3 a4 a5
      have hA_w2 := HA.out w2 g_w2
      have a1 := (Lib.cell_of_heap hA_w2 1).trans (show _ = some (.int .i64 x.validity) from rfl)
      clear hA_w2
      go_wp2_with fail
      refine (D3.out _ (HB.out _ g_w2)).mono ?_
      rintro e w3 ⟨rfl, k_w3⟩
      have g_w3 := g_w2.trans (k_w3.mono g_w2.size)
      clear k_w3 g_w2
      clear a1
      have hA_w3 := HA.out w3 g_w3
      have a4 := (Lib.cell_of_heap hA_w3 4).trans (show _ = some (sv x.name) from rfl)
      clear hA_w3
      go_wp2_with fail
      refine (D4.out _ (HB.out _ g_w3)).mono ?_
      rintro e w4 ⟨rfl, k_w4⟩
      have g_w4 := g_w3.trans (k_w4.mono g_w3.size)
      clear k_w4 g_w3
      clear a4
      have hA_w4 := HA.out w4 g_w4
      have a0 := (Lib.cell_of_heap hA_w4 0).trans (show _ = some (.int .i64 x.kind) from rfl)
      clear hA_w4
      by_cases n0 : (0 : Int) ≤ nn
      · go_wp2
        go_ret
        exact ⟨by rw [HF.out]; rfl, HB.out _ g_w4⟩
      · go_wp2
        go_ret
        exact ⟨by rw [HF.out]; rfl, HB.out _ g_w4⟩
    have HF := Lib.hid (show appB l x = decide (nn < 0) by rw [HV.out, decide_eq_true n4, decide_eq_true n5]; rfl)
    clear HV
    go_enter Tryz.func42, Tryz.ntmps42
    go_wp2_with fail
    refine (D1.out).mono ?_
    rintro e w1 ⟨rfl, k_w1⟩
    have g_w1 := k_w1
    clear k_w1
    have hA_w1 := HA.out w1 g_w1
    have a0 := (Lib.cell_of_heap hA_w1 0).trans (show _ = some (.int .i64 x.kind) from rfl)
    have a1 := (Lib.cell_of_heap hA_w1 1).trans (show _ = some (.int .i64 x.validity) from rfl)
    have a2 := (Lib.cell_of_heap hA_w1 2).trans (show _ = some (.int .i64 x.uid) from rfl)
    have a3 := (Lib.cell_of_heap hA_w1 3).trans (show _ = some (.int .i64 x.flags) from rfl)
    have a4 := (Lib.cell_of_heap hA_w1 4).trans (show _ = some (sv x.name) from rfl)
    have a5 := (Lib.cell_of_heap hA_w1 5).trans (show _ = some (sv x.text) from rfl)
    clear hA_w1
    go_wp2_with fail
    refine (D2.out _).mono ?_
    rintro e w2 ⟨rfl, k_w2⟩
    have g_w2 := g_w1.trans (k_w2.mono g_w1.size)
    clear k_w2 g_w1
    clear a0 a1 a2 a3 a4 a5
    have hA_w2 := HA.out w2 g_w2
    have a1 := (Lib.cell_of_heap hA_w2 1).trans (show _ = some (.int .i64 x.validity) from rfl)
    clear hA_w2
    go_wp2_with fail
    refine (D3.out _ (HB.out _ g_w2)).mono ?_
    rintro e w3 ⟨rfl, k_w3⟩
    have g_w3 := g_w2.trans (k_w3.mono g_w2.size)
    clear k_w3 g_w2
    clear a1
    have hA_w3 := HA.out w3 g_w3
    have a4 := (Lib.cell_of_heap hA_w3 4).trans (show _ = some (sv x.name) from rfl)
    clear hA_w3
    go_wp2_with fail
    refine (D4.out _ (HB.out _ g_w3)).mono ?_
    rintro e w4 ⟨rfl, k_w4⟩
    have g_w4 := g_w3.trans (k_w4.mono g_w3.size)
    clear k_w4 g_w3
    clear a4
    have hA_w4 := HA.out w4 g_w4
    have a0 := (Lib.cell_of_heap hA_w4 0).trans (show _ = some (.int .i64 x.kind) from rfl)
    clear hA_w4
    by_cases n0 : (0 : Int) ≤ nn
    · have HF2 := Lib.hid (show appB l x = false by rw [HF.out]; exact decide_eq_false (by omega))
      have e0 : decide ((0 : Int) ≤ nn) = true := decide_eq_true n0
      go_wp2
      go_ret
      exact ⟨by rw [HF2.out]; rfl, HB.out _ g_w4⟩
    · have HF2 := Lib.hid (show appB l x = true by rw [HF.out]; exact decide_eq_true (by omega))
      have e0 : decide ((0 : Int) ≤ nn) = false := decide_eq_false n0
      go_wp2
      go_ret
      exact ⟨by rw [HF2.out]; rfl, HB.out _ g_w4⟩
  have t1 : (x.kind == 1) = false := by rw [beq_eq_false_iff_ne]; exact k1
  by_cases n5 : vv < 0
  case pos =>
    have HF := Lib.hid (app_neg (l := l) k1 (by rw [hvv]; exact n5))
    clear hvv hnn q1 q2 k1
    go_enter Tryz.func42, Tryz.ntmps42
    go_wp2_with fail
    refine (D1.out).mono ?_
    rintro e w1 ⟨rfl, k_w1⟩
    have g_w1 := k_w1
    clear k_w1
    have hA_w1 := HA.out w1 g_w1
    have a0 := (Lib.cell_of_heap hA_w1 0).trans (show _ = some (.int .i64 x.kind) from rfl)
    have a1 := (Lib.cell_of_heap hA_w1 1).trans (show _ = some (.int .i64 x.validity) from rfl)
    have a2 := (Lib.cell_of_heap hA_w1 2).trans (show _ = some (.int .i64 x.uid) from rfl)
    have a3 := (Lib.cell_of_heap hA_w1 3).trans (show _ = some (.int .i64 x.flags) from rfl)
    have a4 := (Lib.cell_of_heap hA_w1 4).trans (show _ = some (sv x.name) from rfl)
    have a5 := (Lib.cell_of_heap hA_w1 5).trans (show _ = some (sv x.text) from rfl)
    clear hA_w1
    go_wp2_with fail
    refine (D2.out _).mono ?_
    rintro e w2 ⟨rfl, k_w2⟩
    have g_w2 := g_w1.trans (k_w2.mono g_w1.size)
    clear k_w2 g_w1
    clear a0 a1 a2 a3 a4 a5
    have hA_w2 := HA.out w2 g_w2
    have a1 := (Lib.cell_of_heap hA_w2 1).trans (show _ = some (.int .i64 x.validity) from rfl)
    clear hA_w2
    go_wp2_with fail
    refine (D3.out _ (HB.out _ g_w2)).mono ?_
    rintro e w3 ⟨rfl, k_w3⟩
    have g_w3 := g_w2.trans (k_w3.mono g_w2.size)
    clear k_w3 g_w2
    clear a1
    have hA_w3 := HA.out w3 g_w3
    have a4 := (Lib.cell_of_heap hA_w3 4).trans (show _ = some (sv x.name) from rfl)
    clear hA_w3
    go_wp2_with fail
    refine (D4.out _ (HB.out _ g_w3)).mono ?_
    rintro e w4 ⟨rfl, k_w4⟩
    have g_w4 := g_w3.trans (k_w4.mono g_w3.size)
    clear k_w4 g_w3
    clear a4
    have hA_w4 := HA.out w4 g_w4
    have a0 := (Lib.cell_of_heap hA_w4 0).trans (show _ = some (.int .i64 x.kind) from rfl)
    clear hA_w4
    by_cases n0 : (0 : Int) ≤ nn
    · go_wp2
      go_ret
      exact ⟨by rw [HF.out]; rfl, HB.out _ g_w4⟩
    · go_wp2
      go_ret
      exact ⟨by rw [HF.out]; rfl, HB.out _ g_w4⟩
  have n5v : ¬ bxWith l x.validity < 0 := by rw [hvv]; exact n5
  obtain ⟨y, hy, hyv⟩ := with_at n5v
  have hwk := whereB_eq n5v
  rw [hvv] at hwk
  obtain ⟨k, hk⟩ : ∃ k, whereB l x.validity = k := ⟨_, rfl⟩
  have HY := Lib.hid hy
  rw [hk] at hy hwk
  have hkl : k < l.length := (List.getElem?_eq_some_iff.1 hy).1
  by_cases k3 : x.kind = 3
  case pos =>
    have HF := Lib.hid (app_3 q1 q2 k3 n5v)
    rw [hnn] at HF
    have t3 : (x.kind == 3) = true := by rw [beq_iff_eq]; exact k3
    clear hvv hnn q1 q2 k1 k3 n5v hy hwk hk HY hyv
    go_enter Tryz.func42, Tryz.ntmps42
    go_wp2_with fail
    refine (D1.out).mono ?_
    rintro e w1 ⟨rfl, k_w1⟩
    have g_w1 := k_w1
    clear k_w1
    have hA_w1 := HA.out w1 g_w1
    have a0 := (Lib.cell_of_heap hA_w1 0).trans (show _ = some (.int .i64 x.kind) from rfl)
    have a1 := (Lib.cell_of_heap hA_w1 1).trans (show _ = some (.int .i64 x.validity) from rfl)
    have a2 := (Lib.cell_of_heap hA_w1 2).trans (show _ = some (.int .i64 x.uid) from rfl)
    have a3 := (Lib.cell_of_heap hA_w1 3).trans (show _ = some (.int .i64 x.flags) from rfl)
    have a4 := (Lib.cell_of_heap hA_w1 4).trans (show _ = some (sv x.name) from rfl)
    have a5 := (Lib.cell_of_heap hA_w1 5).trans (show _ = some (sv x.text) from rfl)
    clear hA_w1
    go_wp2_with fail
    refine (D2.out _).mono ?_
    rintro e w2 ⟨rfl, k_w2⟩
    have g_w2 := g_w1.trans (k_w2.mono g_w1.size)
    clear k_w2 g_w1
    clear a0 a1 a2 a3 a4 a5
    have hA_w2 := HA.out w2 g_w2
    have a1 := (Lib.cell_of_heap hA_w2 1).trans (show _ = some (.int .i64 x.validity) from rfl)
    clear hA_w2
    go_wp2_with fail
    refine (D3.out _ (HB.out _ g_w2)).mono ?_
    rintro e w3 ⟨rfl, k_w3⟩
    have g_w3 := g_w2.trans (k_w3.mono g_w2.size)
    clear k_w3 g_w2
    clear a1
    have hA_w3 := HA.out w3 g_w3
    have a4 := (Lib.cell_of_heap hA_w3 4).trans (show _ = some (sv x.name) from rfl)
    clear hA_w3
    go_wp2_with fail
    refine (D4.out _ (HB.out _ g_w3)).mono ?_
    rintro e w4 ⟨rfl, k_w4⟩
    have g_w4 := g_w3.trans (k_w4.mono g_w3.size)
    clear k_w4 g_w3
    clear a4
    have hA_w4 := HA.out w4 g_w4
    have a0 := (Lib.cell_of_heap hA_w4 0).trans (show _ = some (.int .i64 x.kind) from rfl)
    clear hA_w4
    by_cases n0 : (0 : Int) ≤ nn
    · have HF2 := Lib.hid (show appB l x = false by rw [HF.out]; exact decide_eq_false (by omega))
      have e0 : decide ((0 : Int) ≤ nn) = true := decide_eq_true n0
      go_wp2
      go_ret
      exact ⟨by rw [HF2.out]; rfl, HB.out _ g_w4⟩
    · have HF2 := Lib.hid (show appB l x = true by rw [HF.out]; exact decide_eq_true (by omega))
      have e0 : decide ((0 : Int) ≤ nn) = false := decide_eq_false n0
      go_wp2
      go_ret
      exact ⟨by rw [HF2.out]; rfl, HB.out _ g_w4⟩
  obtain ⟨b, off, rfl, hb1, hc⟩ := HP.out.resolve_left (by intro h; subst h; simp at hkl)
  obtain ⟨r3, hr3, x0, x1, x2, x3⟩ := hc k y hy
  obtain ⟨p3, d3, rfl⟩ := LfRd.slice hr3
  obtain ⟨sx1, sx2⟩ := HSL.out y (List.mem_of_getElem? hy)
  have HE := Lib.hid (fun W (g : Below W0.heap.size W0 W) => (⟨((HB.out W g).cell (p := ⟨b, off + k * 4, none⟩) hb1).trans x0, ((HB.out W g).cell (p := ⟨b, off + k * 4 + 1, none⟩) hb1).trans x1, ((HB.out W g).cell (p := ⟨b, off + k * 4 + 2, none⟩) hb1).trans x2, ((HB.out W g).cell (p := ⟨b, off + k * 4 + 3, none⟩) hb1).trans x3⟩ : W.cell? ⟨b, off + k * 4, none⟩ = some (sv y.name) ∧ W.cell? ⟨b, off + k * 4 + 1, none⟩ = some (.int .i64 y.validity) ∧ W.cell? ⟨b, off + k * 4 + 2, none⟩ = some (.int .i64 y.next) ∧ W.cell? ⟨b, off + k * 4 + 3, none⟩ = some (.slice p3 y.msgs.length d3)))
  have CP := Lib.hid (fun W (g : Below w.heap.size w W) => specPlaceOf_c y (.slice p3 y.msgs.length d3) x.uid W trivial (LfRd.below g _ _ hr3) sx1 sx2 HUL.out)
  clear hc hr3 x0 x1 x2 x3 sx1 sx2
  have hvk : vv = (k : Int) := hwk
  subst hvk
  by_cases k4 : x.kind = 4
  case pos =>
    have HF := Lib.hid (app_4 q1 q2 k4 n5v HY.out)
    have t3 : (x.kind == 3) = false := by rw [beq_eq_false_iff_ne]; omega
    have t4 : (x.kind == 4) = true := by rw [beq_iff_eq]; exact k4
    clear hvv hnn q1 q2 k1 k3 k4 n5v hy hk HY hyv hwk CP
    cases q5 : (y.next == x.uid) with
    | false =>
      have HF2 := Lib.hid (show appB l x = false by rw [HF.out, q5]; rfl)
      clear HF
      go_enter Tryz.func42, Tryz.ntmps42
      go_wp2_with fail
      refine (D1.out).mono ?_
      rintro e w1 ⟨rfl, k_w1⟩
      have g_w1 := k_w1
      clear k_w1
      have hA_w1 := HA.out w1 g_w1
      have a0 := (Lib.cell_of_heap hA_w1 0).trans (show _ = some (.int .i64 x.kind) from rfl)
      have a1 := (Lib.cell_of_heap hA_w1 1).trans (show _ = some (.int .i64 x.validity) from rfl)
      have a2 := (Lib.cell_of_heap hA_w1 2).trans (show _ = some (.int .i64 x.uid) from rfl)
      have a3 := (Lib.cell_of_heap hA_w1 3).trans (show _ = some (.int .i64 x.flags) from rfl)
      have a4 := (Lib.cell_of_heap hA_w1 4).trans (show _ = some (sv x.name) from rfl)
      have a5 := (Lib.cell_of_heap hA_w1 5).trans (show _ = some (sv x.text) from rfl)
      clear hA_w1
      go_wp2_with fail
      refine (D2.out _).mono ?_
      rintro e w2 ⟨rfl, k_w2⟩
      have g_w2 := g_w1.trans (k_w2.mono g_w1.size)
      clear k_w2 g_w1
      clear a0 a1 a2 a3 a4 a5
      have hA_w2 := HA.out w2 g_w2
      have a1 := (Lib.cell_of_heap hA_w2 1).trans (show _ = some (.int .i64 x.validity) from rfl)
      clear hA_w2
      go_wp2_with fail
      refine (D3.out _ (HB.out _ g_w2)).mono ?_
      rintro e w3 ⟨rfl, k_w3⟩
      have g_w3 := g_w2.trans (k_w3.mono g_w2.size)
      clear k_w3 g_w2
      clear a1
      have hA_w3 := HA.out w3 g_w3
      have a4 := (Lib.cell_of_heap hA_w3 4).trans (show _ = some (sv x.name) from rfl)
      clear hA_w3
      go_wp2_with fail
      refine (D4.out _ (HB.out _ g_w3)).mono ?_
      rintro e w4 ⟨rfl, k_w4⟩
      have g_w4 := g_w3.trans (k_w4.mono g_w3.size)
      clear k_w4 g_w3
      clear a4
      have hA_w4 := HA.out w4 g_w4
      have a0 := (Lib.cell_of_heap hA_w4 0).trans (show _ = some (.int .i64 x.kind) from rfl)
      clear hA_w4
      by_cases n0 : (0 : Int) ≤ nn
      case pos =>
        have gd := g_w4.drew
        obtain ⟨_, _, e2, e3⟩ := HE.out _ gd
        have hAd := HA.out w4.drew gd
        have u2 := (Lib.cell_of_heap hAd 2).trans (show _ = some (.int .i64 x.uid) from rfl)
        clear hAd
        go_wp2
        refine ord_start [(0, true), (1, true), (2, true), (3, true), (4, true), (5, true), (6, true), (7, true), (8, true), (9, true), (10, true), (11, true), (12, true), (13, true), (14, true), (15, true), (16, true), (17, true)] (fun W => W.cell? ⟨b, off + k * 4 + 2, none⟩ = some (.int .i64 y.next) ∧ W.cell? ⟨b, off + k * 4 + 3, none⟩ = some (.slice p3 y.msgs.length d3) ∧ W.cell? ⟨w.heap.size, 2, none⟩ = some (.int .i64 x.uid)) (by kernel_rfl) (by kernel_rfl) rfl (by kernel_rfl) ?_
        intro ops' hops
        simp only [List.map_cons, List.map_nil, pickOp_zero, pickOp_succ]
        iterate 2 (refine ord_flo ?_ (fun _ _ _ h => h) rfl ?_ ⟨e2, e3, u2⟩ ?_; rotate_left; focus (intro W hS; obtain ⟨s1, s2, s3⟩ := hS; go_simp; rfl))
        refine ord_flo (.pointer (some ⟨b, off + k * 4, none⟩)) (fun _ _ _ h => h) (by rw [hops.out]; kernel_rfl) ?_ ⟨e2, e3, u2⟩ ?_
        · intro W hS
          obtain ⟨s1, s2, s3⟩ := hS
          go_simp <;> omega
        iterate 6 (refine ord_flo ?_ (fun _ _ _ h => h) rfl ?_ ⟨e2, e3, u2⟩ ?_; rotate_left; focus (intro W hS; obtain ⟨s1, s2, s3⟩ := hS; go_simp; rfl))
        iterate 7 (refine ord_not (fun _ _ _ h => h) (by rw [hops.out]; kernel_rfl) ⟨e2, e3, u2⟩ ?_)
        iterate 2 (refine ord_flo ?_ (fun _ _ _ h => h) rfl ?_ ⟨e2, e3, u2⟩ ?_; rotate_left; focus (intro W hS; obtain ⟨s1, s2, s3⟩ := hS; go_simp; rfl))
        refine ord_done ?_
        go_simp
        go_wp2
        go_ret
        exact ⟨by rw [HF2.out]; rfl, HB.out _ gd⟩
      case neg =>
        have gd := g_w4.drew
        obtain ⟨_, _, e2, e3⟩ := HE.out _ gd
        have hAd := HA.out w4.drew gd
        have u2 := (Lib.cell_of_heap hAd 2).trans (show _ = some (.int .i64 x.uid) from rfl)
        clear hAd
        go_wp2
        refine ord_start [(0, true), (1, true), (2, true), (3, true), (4, true), (5, true), (6, true), (7, true), (8, true), (9, true), (10, true), (11, true), (12, true), (13, true), (14, true), (15, true), (16, true), (17, true)] (fun W => W.cell? ⟨b, off + k * 4 + 2, none⟩ = some (.int .i64 y.next) ∧ W.cell? ⟨b, off + k * 4 + 3, none⟩ = some (.slice p3 y.msgs.length d3) ∧ W.cell? ⟨w.heap.size, 2, none⟩ = some (.int .i64 x.uid)) (by kernel_rfl) (by kernel_rfl) rfl (by kernel_rfl) ?_
        intro ops' hops
        simp only [List.map_cons, List.map_nil, pickOp_zero, pickOp_succ]
        iterate 2 (refine ord_flo ?_ (fun _ _ _ h => h) rfl ?_ ⟨e2, e3, u2⟩ ?_; rotate_left; focus (intro W hS; obtain ⟨s1, s2, s3⟩ := hS; go_simp; rfl))
        refine ord_flo (.pointer (some ⟨b, off + k * 4, none⟩)) (fun _ _ _ h => h) (by rw [hops.out]; kernel_rfl) ?_ ⟨e2, e3, u2⟩ ?_
        · intro W hS
          obtain ⟨s1, s2, s3⟩ := hS
          go_simp <;> omega
        iterate 6 (refine ord_flo ?_ (fun _ _ _ h => h) rfl ?_ ⟨e2, e3, u2⟩ ?_; rotate_left; focus (intro W hS; obtain ⟨s1, s2, s3⟩ := hS; go_simp; rfl))
        iterate 7 (refine ord_not (fun _ _ _ h => h) (by rw [hops.out]; kernel_rfl) ⟨e2, e3, u2⟩ ?_)
        iterate 2 (refine ord_flo ?_ (fun _ _ _ h => h) rfl ?_ ⟨e2, e3, u2⟩ ?_; rotate_left; focus (intro W hS; obtain ⟨s1, s2, s3⟩ := hS; go_simp; rfl))
        refine ord_done ?_
        go_simp
        go_wp2
        go_ret
        exact ⟨by rw [HF2.out]; rfl, HB.out _ gd⟩
    | true =>
      by_cases q6 : (y.msgs.length : Int) < 6
      case pos =>
        have HF2 := Lib.hid (show appB l x = true by rw [HF.out, q5, decide_eq_true q6]; rfl)
        have e6 : decide ((y.msgs.length : Int) < 6) = true := decide_eq_true q6
        clear HF
        go_enter Tryz.func42, Tryz.ntmps42
        go_wp2_with fail
        refine (D1.out).mono ?_
        rintro e w1 ⟨rfl, k_w1⟩
        have g_w1 := k_w1
        clear k_w1
        have hA_w1 := HA.out w1 g_w1
        have a0 := (Lib.cell_of_heap hA_w1 0).trans (show _ = some (.int .i64 x.kind) from rfl)
        have a1 := (Lib.cell_of_heap hA_w1 1).trans (show _ = some (.int .i64 x.validity) from rfl)
        have a2 := (Lib.cell_of_heap hA_w1 2).trans (show _ = some (.int .i64 x.uid) from rfl)
        have a3 := (Lib.cell_of_heap hA_w1 3).trans (show _ = some (.int .i64 x.flags) from rfl)
        have a4 := (Lib.cell_of_heap hA_w1 4).trans (show _ = some (sv x.name) from rfl)
        have a5 := (Lib.cell_of_heap hA_w1 5).trans (show _ = some (sv x.text) from rfl)
        clear hA_w1
        go_wp2_with fail
        refine (D2.out _).mono ?_
        rintro e w2 ⟨rfl, k_w2⟩
        have g_w2 := g_w1.trans (k_w2.mono g_w1.size)
        clear k_w2 g_w1
        clear a0 a1 a2 a3 a4 a5
        have hA_w2 := HA.out w2 g_w2
        have a1 := (Lib.cell_of_heap hA_w2 1).trans (show _ = some (.int .i64 x.validity) from rfl)
        clear hA_w2
        go_wp2_with fail
        refine (D3.out _ (HB.out _ g_w2)).mono ?_
        rintro e w3 ⟨rfl, k_w3⟩
        have g_w3 := g_w2.trans (k_w3.mono g_w2.size)
        clear k_w3 g_w2
        clear a1
        have hA_w3 := HA.out w3 g_w3
        have a4 := (Lib.cell_of_heap hA_w3 4).trans (show _ = some (sv x.name) from rfl)
        clear hA_w3
        go_wp2_with fail
        refine (D4.out _ (HB.out _ g_w3)).mono ?_
        rintro e w4 ⟨rfl, k_w4⟩
        have g_w4 := g_w3.trans (k_w4.mono g_w3.size)
        clear k_w4 g_w3
        clear a4
        have hA_w4 := HA.out w4 g_w4
        have a0 := (Lib.cell_of_heap hA_w4 0).trans (show _ = some (.int .i64 x.kind) from rfl)
        clear hA_w4
        by_cases n0 : (0 : Int) ≤ nn
        case pos =>
          have gd := g_w4.drew
          obtain ⟨_, _, e2, e3⟩ := HE.out _ gd
          have hAd := HA.out w4.drew gd
          have u2 := (Lib.cell_of_heap hAd 2).trans (show _ = some (.int .i64 x.uid) from rfl)
          clear hAd
          go_wp2
          refine ord_start [(0, true), (1, true), (2, true), (3, true), (4, true), (5, true), (6, true), (7, true), (8, true), (9, true), (10, true), (11, true), (12, true), (13, true), (14, true), (15, true), (16, true), (17, true)] (fun W => W.cell? ⟨b, off + k * 4 + 2, none⟩ = some (.int .i64 y.next) ∧ W.cell? ⟨b, off + k * 4 + 3, none⟩ = some (.slice p3 y.msgs.length d3) ∧ W.cell? ⟨w.heap.size, 2, none⟩ = some (.int .i64 x.uid)) (by kernel_rfl) (by kernel_rfl) rfl (by kernel_rfl) ?_
          intro ops' hops
          simp only [List.map_cons, List.map_nil, pickOp_zero, pickOp_succ]
          iterate 2 (refine ord_flo ?_ (fun _ _ _ h => h) rfl ?_ ⟨e2, e3, u2⟩ ?_; rotate_left; focus (intro W hS; obtain ⟨s1, s2, s3⟩ := hS; go_simp; rfl))
          refine ord_flo (.pointer (some ⟨b, off + k * 4, none⟩)) (fun _ _ _ h => h) (by rw [hops.out]; kernel_rfl) ?_ ⟨e2, e3, u2⟩ ?_
          · intro W hS
            obtain ⟨s1, s2, s3⟩ := hS
            go_simp <;> omega
          iterate 6 (refine ord_flo ?_ (fun _ _ _ h => h) rfl ?_ ⟨e2, e3, u2⟩ ?_; rotate_left; focus (intro W hS; obtain ⟨s1, s2, s3⟩ := hS; go_simp; rfl))
          iterate 2 (refine ord_flo ?_ (fun _ _ _ h => h) (by rw [hops.out]; kernel_rfl) ?_ ⟨e2, e3, u2⟩ ?_; rotate_left; focus (intro W hS; obtain ⟨s1, s2, s3⟩ := hS; go_simp; rfl))
          refine ord_flo (.pointer (some ⟨b, off + k * 4, none⟩)) (fun _ _ _ h => h) (by rw [hops.out]; kernel_rfl) ?_ ⟨e2, e3, u2⟩ ?_
          · intro W hS
            obtain ⟨s1, s2, s3⟩ := hS
            go_simp <;> omega
          iterate 4 (refine ord_flo ?_ (fun _ _ _ h => h) (by rw [hops.out]; kernel_rfl) ?_ ⟨e2, e3, u2⟩ ?_; rotate_left; focus (intro W hS; obtain ⟨s1, s2, s3⟩ := hS; go_simp; rfl))
          iterate 2 (refine ord_flo ?_ (fun _ _ _ h => h) rfl ?_ ⟨e2, e3, u2⟩ ?_; rotate_left; focus (intro W hS; obtain ⟨s1, s2, s3⟩ := hS; go_simp; rfl))
          refine ord_done ?_
          go_simp
          go_wp2
          go_ret
          exact ⟨by rw [HF2.out]; rfl, HB.out _ gd⟩
        case neg =>
          have gd := g_w4.drew
          obtain ⟨_, _, e2, e3⟩ := HE.out _ gd
          have hAd := HA.out w4.drew gd
          have u2 := (Lib.cell_of_heap hAd 2).trans (show _ = some (.int .i64 x.uid) from rfl)
          clear hAd
          go_wp2
          refine ord_start [(0, true), (1, true), (2, true), (3, true), (4, true), (5, true), (6, true), (7, true), (8, true), (9, true), (10, true), (11, true), (12, true), (13, true), (14, true), (15, true), (16, true), (17, true)] (fun W => W.cell? ⟨b, off + k * 4 + 2, none⟩ = some (.int .i64 y.next) ∧ W.cell? ⟨b, off + k * 4 + 3, none⟩ = some (.slice p3 y.msgs.length d3) ∧ W.cell? ⟨w.heap.size, 2, none⟩ = some (.int .i64 x.uid)) (by kernel_rfl) (by kernel_rfl) rfl (by kernel_rfl) ?_
          intro ops' hops
          simp only [List.map_cons, List.map_nil, pickOp_zero, pickOp_succ]
          iterate 2 (refine ord_flo ?_ (fun _ _ _ h => h) rfl ?_ ⟨e2, e3, u2⟩ ?_; rotate_left; focus (intro W hS; obtain ⟨s1, s2, s3⟩ := hS; go_simp; rfl))
          refine ord_flo (.pointer (some ⟨b, off + k * 4, none⟩)) (fun _ _ _ h => h) (by rw [hops.out]; kernel_rfl) ?_ ⟨e2, e3, u2⟩ ?_
          · intro W hS
            obtain ⟨s1, s2, s3⟩ := hS
            go_simp <;> omega
          iterate 6 (refine ord_flo ?_ (fun _ _ _ h => h) rfl ?_ ⟨e2, e3, u2⟩ ?_; rotate_left; focus (intro W hS; obtain ⟨s1, s2, s3⟩ := hS; go_simp; rfl))
          iterate 2 (refine ord_flo ?_ (fun _ _ _ h => h) (by rw [hops.out]; kernel_rfl) ?_ ⟨e2, e3, u2⟩ ?_; rotate_left; focus (intro W hS; obtain ⟨s1, s2, s3⟩ := hS; go_simp; rfl))
          refine ord_flo (.pointer (some ⟨b, off + k * 4, none⟩)) (fun _ _ _ h => h) (by rw [hops.out]; kernel_rfl) ?_ ⟨e2, e3, u2⟩ ?_
          · intro W hS
            obtain ⟨s1, s2, s3⟩ := hS
            go_simp <;> omega
          iterate 4 (refine ord_flo ?_ (fun _ _ _ h => h) (by rw [hops.out]; kernel_rfl) ?_ ⟨e2, e3, u2⟩ ?_; rotate_left; focus (intro W hS; obtain ⟨s1, s2, s3⟩ := hS; go_simp; rfl))
          iterate 2 (refine ord_flo ?_ (fun _ _ _ h => h) rfl ?_ ⟨e2, e3, u2⟩ ?_; rotate_left; focus (intro W hS; obtain ⟨s1, s2, s3⟩ := hS; go_simp; rfl))
          refine ord_done ?_
          go_simp
          go_wp2
          go_ret
          exact ⟨by rw [HF2.out]; rfl, HB.out _ gd⟩
      case neg =>
        have HF2 := Lib.hid (show appB l x = false by rw [HF.out, q5, decide_eq_false q6]; rfl)
        have e6 : decide ((y.msgs.length : Int) < 6) = false := decide_eq_false q6
        clear HF
        go_enter Tryz.func42, Tryz.ntmps42
        go_wp2_with fail
        refine (D1.out).mono ?_
        rintro e w1 ⟨rfl, k_w1⟩
        have g_w1 := k_w1
        clear k_w1
        have hA_w1 := HA.out w1 g_w1
        have a0 := (Lib.cell_of_heap hA_w1 0).trans (show _ = some (.int .i64 x.kind) from rfl)
        have a1 := (Lib.cell_of_heap hA_w1 1).trans (show _ = some (.int .i64 x.validity) from rfl)
        have a2 := (Lib.cell_of_heap hA_w1 2).trans (show _ = some (.int .i64 x.uid) from rfl)
        have a3 := (Lib.cell_of_heap hA_w1 3).trans (show _ = some (.int .i64 x.flags) from rfl)
        have a4 := (Lib.cell_of_heap hA_w1 4).trans (show _ = some (sv x.name) from rfl)
        have a5 := (Lib.cell_of_heap hA_w1 5).trans (show _ = some (sv x.text) from rfl)
        clear hA_w1
        go_wp2_with fail
        refine (D2.out _).mono ?_
        rintro e w2 ⟨rfl, k_w2⟩
        have g_w2 := g_w1.trans (k_w2.mono g_w1.size)
        clear k_w2 g_w1
        clear a0 a1 a2 a3 a4 a5
        have hA_w2 := HA.out w2 g_w2
        have a1 := (Lib.cell_of_heap hA_w2 1).trans (show _ = some (.int .i64 x.validity) from rfl)
        clear hA_w2
        go_wp2_with fail
        refine (D3.out _ (HB.out _ g_w2)).mono ?_
        rintro e w3 ⟨rfl, k_w3⟩
        have g_w3 := g_w2.trans (k_w3.mono g_w2.size)
        clear k_w3 g_w2
        clear a1
        have hA_w3 := HA.out w3 g_w3
        have a4 := (Lib.cell_of_heap hA_w3 4).trans (show _ = some (sv x.name) from rfl)
        clear hA_w3
        go_wp2_with fail
        refine (D4.out _ (HB.out _ g_w3)).mono ?_
        rintro e w4 ⟨rfl, k_w4⟩
        have g_w4 := g_w3.trans (k_w4.mono g_w3.size)
        clear k_w4 g_w3
        clear a4
        have hA_w4 := HA.out w4 g_w4
        have a0 := (Lib.cell_of_heap hA_w4 0).trans (show _ = some (.int .i64 x.kind) from rfl)
        clear hA_w4
        by_cases n0 : (0 : Int) ≤ nn
        case pos =>
          have gd := g_w4.drew
          obtain ⟨_, _, e2, e3⟩ := HE.out _ gd
          have hAd := HA.out w4.drew gd
          have u2 := (Lib.cell_of_heap hAd 2).trans (show _ = some (.int .i64 x.uid) from rfl)
          clear hAd
          go_wp2
          refine ord_start [(0, true), (1, true), (2, true), (3, true), (4, true), (5, true), (6, true), (7, true), (8, true), (9, true), (10, true), (11, true), (12, true), (13, true), (14, true), (15, true), (16, true), (17, true)] (fun W => W.cell? ⟨b, off + k * 4 + 2, none⟩ = some (.int .i64 y.next) ∧ W.cell? ⟨b, off + k * 4 + 3, none⟩ = some (.slice p3 y.msgs.length d3) ∧ W.cell? ⟨w.heap.size, 2, none⟩ = some (.int .i64 x.uid)) (by kernel_rfl) (by kernel_rfl) rfl (by kernel_rfl) ?_
          intro ops' hops
          simp only [List.map_cons, List.map_nil, pickOp_zero, pickOp_succ]
          iterate 2 (refine ord_flo ?_ (fun _ _ _ h => h) rfl ?_ ⟨e2, e3, u2⟩ ?_; rotate_left; focus (intro W hS; obtain ⟨s1, s2, s3⟩ := hS; go_simp; rfl))
          refine ord_flo (.pointer (some ⟨b, off + k * 4, none⟩)) (fun _ _ _ h => h) (by rw [hops.out]; kernel_rfl) ?_ ⟨e2, e3, u2⟩ ?_
          · intro W hS
            obtain ⟨s1, s2, s3⟩ := hS
            go_simp <;> omega
          iterate 6 (refine ord_flo ?_ (fun _ _ _ h => h) rfl ?_ ⟨e2, e3, u2⟩ ?_; rotate_left; focus (intro W hS; obtain ⟨s1, s2, s3⟩ := hS; go_simp; rfl))
          iterate 2 (refine ord_flo ?_ (fun _ _ _ h => h) (by rw [hops.out]; kernel_rfl) ?_ ⟨e2, e3, u2⟩ ?_; rotate_left; focus (intro W hS; obtain ⟨s1, s2, s3⟩ := hS; go_simp; rfl))
          refine ord_flo (.pointer (some ⟨b, off + k * 4, none⟩)) (fun _ _ _ h => h) (by rw [hops.out]; kernel_rfl) ?_ ⟨e2, e3, u2⟩ ?_
          · intro W hS
            obtain ⟨s1, s2, s3⟩ := hS
            go_simp <;> omega
          iterate 4 (refine ord_flo ?_ (fun _ _ _ h => h) (by rw [hops.out]; kernel_rfl) ?_ ⟨e2, e3, u2⟩ ?_; rotate_left; focus (intro W hS; obtain ⟨s1, s2, s3⟩ := hS; go_simp; rfl))
          iterate 2 (refine ord_flo ?_ (fun _ _ _ h => h) rfl ?_ ⟨e2, e3, u2⟩ ?_; rotate_left; focus (intro W hS; obtain ⟨s1, s2, s3⟩ := hS; go_simp; rfl))
          refine ord_done ?_
          go_simp
          go_wp2
          go_ret
          exact ⟨by rw [HF2.out]; rfl, HB.out _ gd⟩
        case neg =>
          have gd := g_w4.drew
          obtain ⟨_, _, e2, e3⟩ := HE.out _ gd
          have hAd := HA.out w4.drew gd
          have u2 := (Lib.cell_of_heap hAd 2).trans (show _ = some (.int .i64 x.uid) from rfl)
          clear hAd
          go_wp2
          refine ord_start [(0, true), (1, true), (2, true), (3, true), (4, true), (5, true), (6, true), (7, true), (8, true), (9, true), (10, true), (11, true), (12, true), (13, true), (14, true), (15, true), (16, true), (17, true)] (fun W => W.cell? ⟨b, off + k * 4 + 2, none⟩ = some (.int .i64 y.next) ∧ W.cell? ⟨b, off + k * 4 + 3, none⟩ = some (.slice p3 y.msgs.length d3) ∧ W.cell? ⟨w.heap.size, 2, none⟩ = some (.int .i64 x.uid)) (by kernel_rfl) (by kernel_rfl) rfl (by kernel_rfl) ?_
          intro ops' hops
          simp only [List.map_cons, List.map_nil, pickOp_zero, pickOp_succ]
          iterate 2 (refine ord_flo ?_ (fun _ _ _ h => h) rfl ?_ ⟨e2, e3, u2⟩ ?_; rotate_left; focus (intro W hS; obtain ⟨s1, s2, s3⟩ := hS; go_simp; rfl))
          refine ord_flo (.pointer (some ⟨b, off + k * 4, none⟩)) (fun _ _ _ h => h) (by rw [hops.out]; kernel_rfl) ?_ ⟨e2, e3, u2⟩ ?_
          · intro W hS
            obtain ⟨s1, s2, s3⟩ := hS
            go_simp <;> omega
          iterate 6 (refine ord_flo ?_ (fun _ _ _ h => h) rfl ?_ ⟨e2, e3, u2⟩ ?_; rotate_left; focus (intro W hS; obtain ⟨s1, s2, s3⟩ := hS; go_simp; rfl))
          iterate 2 (refine ord_flo ?_ (fun _ _ _ h => h) (by rw [hops.out]; kernel_rfl) ?_ ⟨e2, e3, u2⟩ ?_; rotate_left; focus (intro W hS; obtain ⟨s1, s2, s3⟩ := hS; go_simp; rfl))
          refine ord_flo (.pointer (some ⟨b, off + k * 4, none⟩)) (fun _ _ _ h => h) (by rw [hops.out]; kernel_rfl) ?_ ⟨e2, e3, u2⟩ ?_
          · intro W hS
            obtain ⟨s1, s2, s3⟩ := hS
            go_simp <;> omega
          iterate 4 (refine ord_flo ?_ (fun _ _ _ h => h) (by rw [hops.out]; kernel_rfl) ?_ ⟨e2, e3, u2⟩ ?_; rotate_left; focus (intro W hS; obtain ⟨s1, s2, s3⟩ := hS; go_simp; rfl))
          iterate 2 (refine ord_flo ?_ (fun _ _ _ h => h) rfl ?_ ⟨e2, e3, u2⟩ ?_; rotate_left; focus (intro W hS; obtain ⟨s1, s2, s3⟩ := hS; go_simp; rfl))
          refine ord_done ?_
          go_simp
          go_wp2
          go_ret
          exact ⟨by rw [HF2.out]; rfl, HB.out _ gd⟩
  by_cases k5 : x.kind = 5
  case pos =>
    have HF := Lib.hid (app_56 q1 q2 (.inl k5) n5v HY.out)
    have t3 : (x.kind == 3) = false := by rw [beq_eq_false_iff_ne]; omega
    have t4 : (x.kind == 4) = false := by rw [beq_eq_false_iff_ne]; omega
    have t5 : (x.kind == 5) = true := by rw [beq_iff_eq]; exact k5
    clear hvv hnn q1 q2 k1 k3 k4 k5 n5v hy hk HY hyv hwk
    obtain ⟨pl, hpl⟩ : ∃ pl, bxPlace y x.uid = pl := ⟨_, rfl⟩
    have DP := CP
    rw [hpl] at DP HF
    clear hpl CP
    by_cases n9 : (0 : Int) ≤ pl
    case pos =>
      have HF2 := Lib.hid (show appB l x = true by rw [HF.out]; exact decide_eq_true n9)
      have e9 : decide ((0 : Int) ≤ pl) = true := decide_eq_true n9
      clear HF
      go_enter Tryz.func42, Tryz.ntmps42
      go_wp2_with fail
      refine (D1.out).mono ?_
      rintro e w1 ⟨rfl, k_w1⟩
      have g_w1 := k_w1
      clear k_w1
      have hA_w1 := HA.out w1 g_w1
      have a0 := (Lib.cell_of_heap hA_w1 0).trans (show _ = some (.int .i64 x.kind) from rfl)
      have a1 := (Lib.cell_of_heap hA_w1 1).trans (show _ = some (.int .i64 x.validity) from rfl)
      have a2 := (Lib.cell_of_heap hA_w1 2).trans (show _ = some (.int .i64 x.uid) from rfl)
      have a3 := (Lib.cell_of_heap hA_w1 3).trans (show _ = some (.int .i64 x.flags) from rfl)
      have a4 := (Lib.cell_of_heap hA_w1 4).trans (show _ = some (sv x.name) from rfl)
      have a5 := (Lib.cell_of_heap hA_w1 5).trans (show _ = some (sv x.text) from rfl)
      clear hA_w1
      go_wp2_with fail
      refine (D2.out _).mono ?_
      rintro e w2 ⟨rfl, k_w2⟩
      have g_w2 := g_w1.trans (k_w2.mono g_w1.size)
      clear k_w2 g_w1
      clear a0 a1 a2 a3 a4 a5
      have hA_w2 := HA.out w2 g_w2
      have a1 := (Lib.cell_of_heap hA_w2 1).trans (show _ = some (.int .i64 x.validity) from rfl)
      clear hA_w2
      go_wp2_with fail
      refine (D3.out _ (HB.out _ g_w2)).mono ?_
      rintro e w3 ⟨rfl, k_w3⟩
      have g_w3 := g_w2.trans (k_w3.mono g_w2.size)
      clear k_w3 g_w2
      clear a1
      have hA_w3 := HA.out w3 g_w3
      have a4 := (Lib.cell_of_heap hA_w3 4).trans (show _ = some (sv x.name) from rfl)
      clear hA_w3
      go_wp2_with fail
      refine (D4.out _ (HB.out _ g_w3)).mono ?_
      rintro e w4 ⟨rfl, k_w4⟩
      have g_w4 := g_w3.trans (k_w4.mono g_w3.size)
      clear k_w4 g_w3
      clear a4
      have hA_w4 := HA.out w4 g_w4
      have a0 := (Lib.cell_of_heap hA_w4 0).trans (show _ = some (.int .i64 x.kind) from rfl)
      clear hA_w4
      by_cases n0 : (0 : Int) ≤ nn
      case pos =>
        have gd := g_w4.drew
        obtain ⟨e0, e1, e2, e3⟩ := HE.out _ gd
        have hAd := HA.out w4.drew gd
        have u2 := (Lib.cell_of_heap hAd 2).trans (show _ = some (.int .i64 x.uid) from rfl)
        clear hAd
        go_wp2
        refine ord_start [(0, true), (1, true), (2, true), (3, true), (4, true), (5, true), (6, false), (7, true), (8, true)] (fun W => W.cell? ⟨b, off + k * 4, none⟩ = some (sv y.name) ∧ W.cell? ⟨b, off + k * 4 + 1, none⟩ = some (.int .i64 y.validity) ∧ W.cell? ⟨b, off + k * 4 + 2, none⟩ = some (.int .i64 y.next) ∧ W.cell? ⟨b, off + k * 4 + 3, none⟩ = some (.slice p3 y.msgs.length d3) ∧ W.cell? ⟨w.heap.size, 2, none⟩ = some (.int .i64 x.uid)) (by kernel_rfl) (by kernel_rfl) rfl (by kernel_rfl) ?_
        intro ops' hops
        clear hops
        simp only [List.map_cons, List.map_nil, pickOp_zero, pickOp_succ]
        iterate 2 (refine ord_flo ?_ (fun _ _ _ h => h) rfl ?_ ⟨e0, e1, e2, e3, u2⟩ ?_; rotate_left; focus (intro W hS; obtain ⟨s1, s2, s3, s4, s5⟩ := hS; go_simp; rfl))
        refine ord_flo (.pointer (some ⟨b, off + k * 4, none⟩)) (fun _ _ _ h => h) rfl ?_ ⟨e0, e1, e2, e3, u2⟩ ?_
        · intro W hS
          obtain ⟨s1, s2, s3, s4, s5⟩ := hS
          go_simp <;> omega
        iterate 3 (refine ord_flo ?_ (fun _ _ _ h => h) rfl ?_ ⟨e0, e1, e2, e3, u2⟩ ?_; rotate_left; focus (intro W hS; obtain ⟨s1, s2, s3, s4, s5⟩ := hS; go_simp; rfl))
        refine ord_ev rfl ?_
        go_simp
        refine (DP.out _ (HB.out _ gd)).mono ?_
        rintro e w5 ⟨rfl, k5⟩
        have g5 := gd.trans (k5.mono gd.size)
        obtain ⟨e0, e1, e2, e3⟩ := HE.out _ g5
        have hA_w5 := HA.out w5 g5
        have u2 := (Lib.cell_of_heap hA_w5 2).trans (show _ = some (.int .i64 x.uid) from rfl)
        clear hA_w5
        refine ⟨⟨e0, e1, e2, e3, u2⟩, ?_⟩
        iterate 2 (refine ord_flo ?_ (fun _ _ _ h => h) rfl ?_ ⟨e0, e1, e2, e3, u2⟩ ?_; rotate_left; focus (intro W hS; obtain ⟨s1, s2, s3, s4, s5⟩ := hS; go_simp; rfl))
        refine ord_done ?_
        go_simp
        go_wp2
        go_ret
        exact ⟨by rw [HF2.out]; rfl, HB.out _ g5⟩
      case neg =>
        have gd := g_w4.drew
        obtain ⟨e0, e1, e2, e3⟩ := HE.out _ gd
        have hAd := HA.out w4.drew gd
        have u2 := (Lib.cell_of_heap hAd 2).trans (show _ = some (.int .i64 x.uid) from rfl)
        clear hAd
        go_wp2
        refine ord_start [(0, true), (1, true), (2, true), (3, true), (4, true), (5, true), (6, false), (7, true), (8, true)] (fun W => W.cell? ⟨b, off + k * 4, none⟩ = some (sv y.name) ∧ W.cell? ⟨b, off + k * 4 + 1, none⟩ = some (.int .i64 y.validity) ∧ W.cell? ⟨b, off + k * 4 + 2, none⟩ = some (.int .i64 y.next) ∧ W.cell? ⟨b, off + k * 4 + 3, none⟩ = some (.slice p3 y.msgs.length d3) ∧ W.cell? ⟨w.heap.size, 2, none⟩ = some (.int .i64 x.uid)) (by kernel_rfl) (by kernel_rfl) rfl (by kernel_rfl) ?_
        intro ops' hops
        clear hops
        simp only [List.map_cons, List.map_nil, pickOp_zero, pickOp_succ]
        iterate 2 (refine ord_flo ?_ (fun _ _ _ h => h) rfl ?_ ⟨e0, e1, e2, e3, u2⟩ ?_; rotate_left; focus (intro W hS; obtain ⟨s1, s2, s3, s4, s5⟩ := hS; go_simp; rfl))
        refine ord_flo (.pointer (some ⟨b, off + k * 4, none⟩)) (fun _ _ _ h => h) rfl ?_ ⟨e0, e1, e2, e3, u2⟩ ?_
        · intro W hS
          obtain ⟨s1, s2, s3, s4, s5⟩ := hS
          go_simp <;> omega
        iterate 3 (refine ord_flo ?_ (fun _ _ _ h => h) rfl ?_ ⟨e0, e1, e2, e3, u2⟩ ?_; rotate_left; focus (intro W hS; obtain ⟨s1, s2, s3, s4, s5⟩ := hS; go_simp; rfl))
        refine ord_ev rfl ?_
        go_simp
        refine (DP.out _ (HB.out _ gd)).mono ?_
        rintro e w5 ⟨rfl, k5⟩
        have g5 := gd.trans (k5.mono gd.size)
        obtain ⟨e0, e1, e2, e3⟩ := HE.out _ g5
        have hA_w5 := HA.out w5 g5
        have u2 := (Lib.cell_of_heap hA_w5 2).trans (show _ = some (.int .i64 x.uid) from rfl)
        clear hA_w5
        refine ⟨⟨e0, e1, e2, e3, u2⟩, ?_⟩
        iterate 2 (refine ord_flo ?_ (fun _ _ _ h => h) rfl ?_ ⟨e0, e1, e2, e3, u2⟩ ?_; rotate_left; focus (intro W hS; obtain ⟨s1, s2, s3, s4, s5⟩ := hS; go_simp; rfl))
        refine ord_done ?_
        go_simp
        go_wp2
        go_ret
        exact ⟨by rw [HF2.out]; rfl, HB.out _ g5⟩
    case neg =>
      have HF2 := Lib.hid (show appB l x = false by rw [HF.out]; exact decide_eq_false n9)
      have e9 : decide ((0 : Int) ≤ pl) = false := decide_eq_false n9
      clear HF
      go_enter Tryz.func42, Tryz.ntmps42
      go_wp2_with fail
      refine (D1.out).mono ?_
      rintro e w1 ⟨rfl, k_w1⟩
      have g_w1 := k_w1
      clear k_w1
      have hA_w1 := HA.out w1 g_w1
      have a0 := (Lib.cell_of_heap hA_w1 0).trans (show _ = some (.int .i64 x.kind) from rfl)
      have a1 := (Lib.cell_of_heap hA_w1 1).trans (show _ = some (.int .i64 x.validity) from rfl)
      have a2 := (Lib.cell_of_heap hA_w1 2).trans (show _ = some (.int .i64 x.uid) from rfl)
      have a3 := (Lib.cell_of_heap hA_w1 3).trans (show _ = some (.int .i64 x.flags) from rfl)
      have a4 := (Lib.cell_of_heap hA_w1 4).trans (show _ = some (sv x.name) from rfl)
      have a5 := (Lib.cell_of_heap hA_w1 5).trans (show _ = some (sv x.text) from rfl)
      clear hA_w1
      go_wp2_with fail
      refine (D2.out _).mono ?_
      rintro e w2 ⟨rfl, k_w2⟩
      have g_w2 := g_w1.trans (k_w2.mono g_w1.size)
      clear k_w2 g_w1
      clear a0 a1 a2 a3 a4 a5
      have hA_w2 := HA.out w2 g_w2
      have a1 := (Lib.cell_of_heap hA_w2 1).trans (show _ = some (.int .i64 x.validity) from rfl)
      clear hA_w2
      go_wp2_with fail
      refine (D3.out _ (HB.out _ g_w2)).mono ?_
      rintro e w3 ⟨rfl, k_w3⟩
      have g_w3 := g_w2.trans (k_w3.mono g_w2.size)
      clear k_w3 g_w2
      clear a1
      have hA_w3 := HA.out w3 g_w3
      have a4 := (Lib.cell_of_heap hA_w3 4).trans (show _ = some (sv x.name) from rfl)
      clear hA_w3
      go_wp2_with fail
      refine (D4.out _ (HB.out _ g_w3)).mono ?_
      rintro e w4 ⟨rfl, k_w4⟩
      have g_w4 := g_w3.trans (k_w4.mono g_w3.size)
      clear k_w4 g_w3
      clear a4
      have hA_w4 := HA.out w4 g_w4
      have a0 := (Lib.cell_of_heap hA_w4 0).trans (show _ = some (.int .i64 x.kind) from rfl)
      clear hA_w4
      by_cases n0 : (0 : Int) ≤ nn
      case pos =>
        have gd := g_w4.drew
        obtain ⟨e0, e1, e2, e3⟩ := HE.out _ gd
        have hAd := HA.out w4.drew gd
        have u2 := (Lib.cell_of_heap hAd 2).trans (show _ = some (.int .i64 x.uid) from rfl)
        clear hAd
        go_wp2
        refine ord_start [(0, true), (1, true), (2, true), (3, true), (4, true), (5, true), (6, false), (7, true), (8, true)] (fun W => W.cell? ⟨b, off + k * 4, none⟩ = some (sv y.name) ∧ W.cell? ⟨b, off + k * 4 + 1, none⟩ = some (.int .i64 y.validity) ∧ W.cell? ⟨b, off + k * 4 + 2, none⟩ = some (.int .i64 y.next) ∧ W.cell? ⟨b, off + k * 4 + 3, none⟩ = some (.slice p3 y.msgs.length d3) ∧ W.cell? ⟨w.heap.size, 2, none⟩ = some (.int .i64 x.uid)) (by kernel_rfl) (by kernel_rfl) rfl (by kernel_rfl) ?_
        intro ops' hops
        clear hops
        simp only [List.map_cons, List.map_nil, pickOp_zero, pickOp_succ]
        iterate 2 (refine ord_flo ?_ (fun _ _ _ h => h) rfl ?_ ⟨e0, e1, e2, e3, u2⟩ ?_; rotate_left; focus (intro W hS; obtain ⟨s1, s2, s3, s4, s5⟩ := hS; go_simp; rfl))
        refine ord_flo (.pointer (some ⟨b, off + k * 4, none⟩)) (fun _ _ _ h => h) rfl ?_ ⟨e0, e1, e2, e3, u2⟩ ?_
        · intro W hS
          obtain ⟨s1, s2, s3, s4, s5⟩ := hS
          go_simp <;> omega
        iterate 3 (refine ord_flo ?_ (fun _ _ _ h => h) rfl ?_ ⟨e0, e1, e2, e3, u2⟩ ?_; rotate_left; focus (intro W hS; obtain ⟨s1, s2, s3, s4, s5⟩ := hS; go_simp; rfl))
        refine ord_ev rfl ?_
        go_simp
        refine (DP.out _ (HB.out _ gd)).mono ?_
        rintro e w5 ⟨rfl, k5⟩
        have g5 := gd.trans (k5.mono gd.size)
        obtain ⟨e0, e1, e2, e3⟩ := HE.out _ g5
        have hA_w5 := HA.out w5 g5
        have u2 := (Lib.cell_of_heap hA_w5 2).trans (show _ = some (.int .i64 x.uid) from rfl)
        clear hA_w5
        refine ⟨⟨e0, e1, e2, e3, u2⟩, ?_⟩
        iterate 2 (refine ord_flo ?_ (fun _ _ _ h => h) rfl ?_ ⟨e0, e1, e2, e3, u2⟩ ?_; rotate_left; focus (intro W hS; obtain ⟨s1, s2, s3, s4, s5⟩ := hS; go_simp; rfl))
        refine ord_done ?_
        go_simp
        go_wp2
        go_ret
        exact ⟨by rw [HF2.out]; rfl, HB.out _ g5⟩
      case neg =>
        have gd := g_w4.drew
        obtain ⟨e0, e1, e2, e3⟩ := HE.out _ gd
        have hAd := HA.out w4.drew gd
        have u2 := (Lib.cell_of_heap hAd 2).trans (show _ = some (.int .i64 x.uid) from rfl)
        clear hAd
        go_wp2
        refine ord_start [(0, true), (1, true), (2, true), (3, true), (4, true), (5, true), (6, false), (7, true), (8, true)] (fun W => W.cell? ⟨b, off + k * 4, none⟩ = some (sv y.name) ∧ W.cell? ⟨b, off + k * 4 + 1, none⟩ = some (.int .i64 y.validity) ∧ W.cell? ⟨b, off + k * 4 + 2, none⟩ = some (.int .i64 y.next) ∧ W.cell? ⟨b, off + k * 4 + 3, none⟩ = some (.slice p3 y.msgs.length d3) ∧ W.cell? ⟨w.heap.size, 2, none⟩ = some (.int .i64 x.uid)) (by kernel_rfl) (by kernel_rfl) rfl (by kernel_rfl) ?_
        intro ops' hops
        clear hops
        simp only [List.map_cons, List.map_nil, pickOp_zero, pickOp_succ]
        iterate 2 (refine ord_flo ?_ (fun _ _ _ h => h) rfl ?_ ⟨e0, e1, e2, e3, u2⟩ ?_; rotate_left; focus (intro W hS; obtain ⟨s1, s2, s3, s4, s5⟩ := hS; go_simp; rfl))
        refine ord_flo (.pointer (some ⟨b, off + k * 4, none⟩)) (fun _ _ _ h => h) rfl ?_ ⟨e0, e1, e2, e3, u2⟩ ?_
        · intro W hS
          obtain ⟨s1, s2, s3, s4, s5⟩ := hS
          go_simp <;> omega
        iterate 3 (refine ord_flo ?_ (fun _ _ _ h => h) rfl ?_ ⟨e0, e1, e2, e3, u2⟩ ?_; rotate_left; focus (intro W hS; obtain ⟨s1, s2, s3, s4, s5⟩ := hS; go_simp; rfl))
        refine ord_ev rfl ?_
        go_simp
        refine (DP.out _ (HB.out _ gd)).mono ?_
        rintro e w5 ⟨rfl, k5⟩
        have g5 := gd.trans (k5.mono gd.size)
        obtain ⟨e0, e1, e2, e3⟩ := HE.out _ g5
        have hA_w5 := HA.out w5 g5
        have u2 := (Lib.cell_of_heap hA_w5 2).trans (show _ = some (.int .i64 x.uid) from rfl)
        clear hA_w5
        refine ⟨⟨e0, e1, e2, e3, u2⟩, ?_⟩
        iterate 2 (refine ord_flo ?_ (fun _ _ _ h => h) rfl ?_ ⟨e0, e1, e2, e3, u2⟩ ?_; rotate_left; focus (intro W hS; obtain ⟨s1, s2, s3, s4, s5⟩ := hS; go_simp; rfl))
        refine ord_done ?_
        go_simp
        go_wp2
        go_ret
        exact ⟨by rw [HF2.out]; rfl, HB.out _ g5⟩
  by_cases k6 : x.kind = 6
  case pos =>
    have HF := Lib.hid (app_56 q1 q2 (.inr k6) n5v HY.out)
    have t3 : (x.kind == 3) = false := by rw [beq_eq_false_iff_ne]; omega
    have t4 : (x.kind == 4) = false := by rw [beq_eq_false_iff_ne]; omega
    have t5 : (x.kind == 5) = false := by rw [beq_eq_false_iff_ne]; omega
    have t6 : (x.kind == 6) = true := by rw [beq_iff_eq]; exact k6
    clear hvv hnn q1 q2 k1 k3 k4 k5 k6 n5v hy hk HY hyv hwk
    obtain ⟨pl, hpl⟩ : ∃ pl, bxPlace y x.uid = pl := ⟨_, rfl⟩
    have DP := CP
    rw [hpl] at DP HF
    clear hpl CP
    by_cases n9 : (0 : Int) ≤ pl
    case pos =>
      have HF2 := Lib.hid (show appB l x = true by rw [HF.out]; exact decide_eq_true n9)
      have e9 : decide ((0 : Int) ≤ pl) = true := decide_eq_true n9
      clear HF
      go_enter Tryz.func42, Tryz.ntmps42
      go_wp2_with fail
      refine (D1.out).mono ?_
      rintro e w1 ⟨rfl, k_w1⟩
      have g_w1 := k_w1
      clear k_w1
      have hA_w1 := HA.out w1 g_w1
      have a0 := (Lib.cell_of_heap hA_w1 0).trans (show _ = some (.int .i64 x.kind) from rfl)
      have a1 := (Lib.cell_of_heap hA_w1 1).trans (show _ = some (.int .i64 x.validity) from rfl)
      have a2 := (Lib.cell_of_heap hA_w1 2).trans (show _ = some (.int .i64 x.uid) from rfl)
      have a3 := (Lib.cell_of_heap hA_w1 3).trans (show _ = some (.int .i64 x.flags) from rfl)
      have a4 := (Lib.cell_of_heap hA_w1 4).trans (show _ = some (sv x.name) from rfl)
      have a5 := (Lib.cell_of_heap hA_w1 5).trans (show _ = some (sv x.text) from rfl)
      clear hA_w1
      go_wp2_with fail
      refine (D2.out _).mono ?_
      rintro e w2 ⟨rfl, k_w2⟩
      have g_w2 := g_w1.trans (k_w2.mono g_w1.size)
      clear k_w2 g_w1
      clear a0 a1 a2 a3 a4 a5
      have hA_w2 := HA.out w2 g_w2
      have a1 := (Lib.cell_of_heap hA_w2 1).trans (show _ = some (.int .i64 x.validity) from rfl)
      clear hA_w2
      go_wp2_with fail
      refine (D3.out _ (HB.out _ g_w2)).mono ?_
      rintro e w3 ⟨rfl, k_w3⟩
      have g_w3 := g_w2.trans (k_w3.mono g_w2.size)
      clear k_w3 g_w2
      clear a1
      have hA_w3 := HA.out w3 g_w3
      have a4 := (Lib.cell_of_heap hA_w3 4).trans (show _ = some (sv x.name) from rfl)
      clear hA_w3
      go_wp2_with fail
      refine (D4.out _ (HB.out _ g_w3)).mono ?_
      rintro e w4 ⟨rfl, k_w4⟩
      have g_w4 := g_w3.trans (k_w4.mono g_w3.size)
      clear k_w4 g_w3
      clear a4
      have hA_w4 := HA.out w4 g_w4
      have a0 := (Lib.cell_of_heap hA_w4 0).trans (show _ = some (.int .i64 x.kind) from rfl)
      clear hA_w4
      by_cases n0 : (0 : Int) ≤ nn
      case pos =>
        have gd := g_w4.drew
        obtain ⟨e0, e1, e2, e3⟩ := HE.out _ gd
        have hAd := HA.out w4.drew gd
        have u2 := (Lib.cell_of_heap hAd 2).trans (show _ = some (.int .i64 x.uid) from rfl)
        clear hAd
        go_wp2
        refine ord_start [(0, true), (1, true), (2, true), (3, true), (4, true), (5, true), (6, false), (7, true), (8, true)] (fun W => W.cell? ⟨b, off + k * 4, none⟩ = some (sv y.name) ∧ W.cell? ⟨b, off + k * 4 + 1, none⟩ = some (.int .i64 y.validity) ∧ W.cell? ⟨b, off + k * 4 + 2, none⟩ = some (.int .i64 y.next) ∧ W.cell? ⟨b, off + k * 4 + 3, none⟩ = some (.slice p3 y.msgs.length d3) ∧ W.cell? ⟨w.heap.size, 2, none⟩ = some (.int .i64 x.uid)) (by kernel_rfl) (by kernel_rfl) rfl (by kernel_rfl) ?_
        intro ops' hops
        clear hops
        simp only [List.map_cons, List.map_nil, pickOp_zero, pickOp_succ]
        iterate 2 (refine ord_flo ?_ (fun _ _ _ h => h) rfl ?_ ⟨e0, e1, e2, e3, u2⟩ ?_; rotate_left; focus (intro W hS; obtain ⟨s1, s2, s3, s4, s5⟩ := hS; go_simp; rfl))
        refine ord_flo (.pointer (some ⟨b, off + k * 4, none⟩)) (fun _ _ _ h => h) rfl ?_ ⟨e0, e1, e2, e3, u2⟩ ?_
        · intro W hS
          obtain ⟨s1, s2, s3, s4, s5⟩ := hS
          go_simp <;> omega
        iterate 3 (refine ord_flo ?_ (fun _ _ _ h => h) rfl ?_ ⟨e0, e1, e2, e3, u2⟩ ?_; rotate_left; focus (intro W hS; obtain ⟨s1, s2, s3, s4, s5⟩ := hS; go_simp; rfl))
        refine ord_ev rfl ?_
        go_simp
        refine (DP.out _ (HB.out _ gd)).mono ?_
        rintro e w5 ⟨rfl, k5⟩
        have g5 := gd.trans (k5.mono gd.size)
        obtain ⟨e0, e1, e2, e3⟩ := HE.out _ g5
        have hA_w5 := HA.out w5 g5
        have u2 := (Lib.cell_of_heap hA_w5 2).trans (show _ = some (.int .i64 x.uid) from rfl)
        clear hA_w5
        refine ⟨⟨e0, e1, e2, e3, u2⟩, ?_⟩
        iterate 2 (refine ord_flo ?_ (fun _ _ _ h => h) rfl ?_ ⟨e0, e1, e2, e3, u2⟩ ?_; rotate_left; focus (intro W hS; obtain ⟨s1, s2, s3, s4, s5⟩ := hS; go_simp; rfl))
        refine ord_done ?_
        go_simp
        go_wp2
        go_ret
        exact ⟨by rw [HF2.out]; rfl, HB.out _ g5⟩
      case neg =>
        have gd := g_w4.drew
        obtain ⟨e0, e1, e2, e3⟩ := HE.out _ gd
        have hAd := HA.out w4.drew gd
        have u2 := (Lib.cell_of_heap hAd 2).trans (show _ = some (.int .i64 x.uid) from rfl)
        clear hAd
        go_wp2
        refine ord_start [(0, true), (1, true), (2, true), (3, true), (4, true), (5, true), (6, false), (7, true), (8, true)] (fun W => W.cell? ⟨b, off + k * 4, none⟩ = some (sv y.name) ∧ W.cell? ⟨b, off + k * 4 + 1, none⟩ = some (.int .i64 y.validity) ∧ W.cell? ⟨b, off + k * 4 + 2, none⟩ = some (.int .i64 y.next) ∧ W.cell? ⟨b, off + k * 4 + 3, none⟩ = some (.slice p3 y.msgs.length d3) ∧ W.cell? ⟨w.heap.size, 2, none⟩ = some (.int .i64 x.uid)) (by kernel_rfl) (by kernel_rfl) rfl (by kernel_rfl) ?_
        intro ops' hops
        clear hops
        simp only [List.map_cons, List.map_nil, pickOp_zero, pickOp_succ]
        iterate 2 (refine ord_flo ?_ (fun _ _ _ h => h) rfl ?_ ⟨e0, e1, e2, e3, u2⟩ ?_; rotate_left; focus (intro W hS; obtain ⟨s1, s2, s3, s4, s5⟩ := hS; go_simp; rfl))
        refine ord_flo (.pointer (some ⟨b, off + k * 4, none⟩)) (fun _ _ _ h => h) rfl ?_ ⟨e0, e1, e2, e3, u2⟩ ?_
        · intro W hS
          obtain ⟨s1, s2, s3, s4, s5⟩ := hS
          go_simp <;> omega
        iterate 3 (refine ord_flo ?_ (fun _ _ _ h => h) rfl ?_ ⟨e0, e1, e2, e3, u2⟩ ?_; rotate_left; focus (intro W hS; obtain ⟨s1, s2, s3, s4, s5⟩ := hS; go_simp; rfl))
        refine ord_ev rfl ?_
        go_simp
        refine (DP.out _ (HB.out _ gd)).mono ?_
        rintro e w5 ⟨rfl, k5⟩
        have g5 := gd.trans (k5.mono gd.size)
        obtain ⟨e0, e1, e2, e3⟩ := HE.out _ g5
        have hA_w5 := HA.out w5 g5
        have u2 := (Lib.cell_of_heap hA_w5 2).trans (show _ = some (.int .i64 x.uid) from rfl)
        clear hA_w5
        refine ⟨⟨e0, e1, e2, e3, u2⟩, ?_⟩
        iterate 2 (refine ord_flo ?_ (fun _ _ _ h => h) rfl ?_ ⟨e0, e1, e2, e3, u2⟩ ?_; rotate_left; focus (intro W hS; obtain ⟨s1, s2, s3, s4, s5⟩ := hS; go_simp; rfl))
        refine ord_done ?_
        go_simp
        go_wp2
        go_ret
        exact ⟨by rw [HF2.out]; rfl, HB.out _ g5⟩
    case neg =>
      have HF2 := Lib.hid (show appB l x = false by rw [HF.out]; exact decide_eq_false n9)
      have e9 : decide ((0 : Int) ≤ pl) = false := decide_eq_false n9
      clear HF
      go_enter Tryz.func42, Tryz.ntmps42
      go_wp2_with fail
      refine (D1.out).mono ?_
      rintro e w1 ⟨rfl, k_w1⟩
      have g_w1 := k_w1
      clear k_w1
      have hA_w1 := HA.out w1 g_w1
      have a0 := (Lib.cell_of_heap hA_w1 0).trans (show _ = some (.int .i64 x.kind) from rfl)
      have a1 := (Lib.cell_of_heap hA_w1 1).trans (show _ = some (.int .i64 x.validity) from rfl)
      have a2 := (Lib.cell_of_heap hA_w1 2).trans (show _ = some (.int .i64 x.uid) from rfl)
      have a3 := (Lib.cell_of_heap hA_w1 3).trans (show _ = some (.int .i64 x.flags) from rfl)
      have a4 := (Lib.cell_of_heap hA_w1 4).trans (show _ = some (sv x.name) from rfl)
      have a5 := (Lib.cell_of_heap hA_w1 5).trans (show _ = some (sv x.text) from rfl)
      clear hA_w1
      go_wp2_with fail
      refine (D2.out _).mono ?_
      rintro e w2 ⟨rfl, k_w2⟩
      have g_w2 := g_w1.trans (k_w2.mono g_w1.size)
      clear k_w2 g_w1
      clear a0 a1 a2 a3 a4 a5
      have hA_w2 := HA.out w2 g_w2
      have a1 := (Lib.cell_of_heap hA_w2 1).trans (show _ = some (.int .i64 x.validity) from rfl)
      clear hA_w2
      go_wp2_with fail
      refine (D3.out _ (HB.out _ g_w2)).mono ?_
      rintro e w3 ⟨rfl, k_w3⟩
      have g_w3 := g_w2.trans (k_w3.mono g_w2.size)
      clear k_w3 g_w2
      clear a1
      have hA_w3 := HA.out w3 g_w3
      have a4 := (Lib.cell_of_heap hA_w3 4).trans (show _ = some (sv x.name) from rfl)
      clear hA_w3
      go_wp2_with fail
      refine (D4.out _ (HB.out _ g_w3)).mono ?_
      rintro e w4 ⟨rfl, k_w4⟩
      have g_w4 := g_w3.trans (k_w4.mono g_w3.size)
      clear k_w4 g_w3
      clear a4
      have hA_w4 := HA.out w4 g_w4
      have a0 := (Lib.cell_of_heap hA_w4 0).trans (show _ = some (.int .i64 x.kind) from rfl)
      clear hA_w4
      by_cases n0 : (0 : Int) ≤ nn
      case pos =>
        have gd := g_w4.drew
        obtain ⟨e0, e1, e2, e3⟩ := HE.out _ gd
        have hAd := HA.out w4.drew gd
        have u2 := (Lib.cell_of_heap hAd 2).trans (show _ = some (.int .i64 x.uid) from rfl)
        clear hAd
        go_wp2
        refine ord_start [(0, true), (1, true), (2, true), (3, true), (4, true), (5, true), (6, false), (7, true), (8, true)] (fun W => W.cell? ⟨b, off + k * 4, none⟩ = some (sv y.name) ∧ W.cell? ⟨b, off + k * 4 + 1, none⟩ = some (.int .i64 y.validity) ∧ W.cell? ⟨b, off + k * 4 + 2, none⟩ = some (.int .i64 y.next) ∧ W.cell? ⟨b, off + k * 4 + 3, none⟩ = some (.slice p3 y.msgs.length d3) ∧ W.cell? ⟨w.heap.size, 2, none⟩ = some (.int .i64 x.uid)) (by kernel_rfl) (by kernel_rfl) rfl (by kernel_rfl) ?_
        intro ops' hops
        clear hops
        simp only [List.map_cons, List.map_nil, pickOp_zero, pickOp_succ]
        iterate 2 (refine ord_flo ?_ (fun _ _ _ h => h) rfl ?_ ⟨e0, e1, e2, e3, u2⟩ ?_; rotate_left; focus (intro W hS; obtain ⟨s1, s2, s3, s4, s5⟩ := hS; go_simp; rfl))
        refine ord_flo (.pointer (some ⟨b, off + k * 4, none⟩)) (fun _ _ _ h => h) rfl ?_ ⟨e0, e1, e2, e3, u2⟩ ?_
        · intro W hS
          obtain ⟨s1, s2, s3, s4, s5⟩ := hS
          go_simp <;> omega
        iterate 3 (refine ord_flo ?_ (fun _ _ _ h => h) rfl ?_ ⟨e0, e1, e2, e3, u2⟩ ?_; rotate_left; focus (intro W hS; obtain ⟨s1, s2, s3, s4, s5⟩ := hS; go_simp; rfl))
        refine ord_ev rfl ?_
        go_simp
        refine (DP.out _ (HB.out _ gd)).mono ?_
        rintro e w5 ⟨rfl, k5⟩
        have g5 := gd.trans (k5.mono gd.size)
        obtain ⟨e0, e1, e2, e3⟩ := HE.out _ g5
        have hA_w5 := HA.out w5 g5
        have u2 := (Lib.cell_of_heap hA_w5 2).trans (show _ = some (.int .i64 x.uid) from rfl)
        clear hA_w5
        refine ⟨⟨e0, e1, e2, e3, u2⟩, ?_⟩
        iterate 2 (refine ord_flo ?_ (fun _ _ _ h => h) rfl ?_ ⟨e0, e1, e2, e3, u2⟩ ?_; rotate_left; focus (intro W hS; obtain ⟨s1, s2, s3, s4, s5⟩ := hS; go_simp; rfl))
        refine ord_done ?_
        go_simp
        go_wp2
        go_ret
        exact ⟨by rw [HF2.out]; rfl, HB.out _ g5⟩
      case neg =>
        have gd := g_w4.drew
        obtain ⟨e0, e1, e2, e3⟩ := HE.out _ gd
        have hAd := HA.out w4.drew gd
        have u2 := (Lib.cell_of_heap hAd 2).trans (show _ = some (.int .i64 x.uid) from rfl)
        clear hAd
        go_wp2
        refine ord_start [(0, true), (1, true), (2, true), (3, true), (4, true), (5, true), (6, false), (7, true), (8, true)] (fun W => W.cell? ⟨b, off + k * 4, none⟩ = some (sv y.name) ∧ W.cell? ⟨b, off + k * 4 + 1, none⟩ = some (.int .i64 y.validity) ∧ W.cell? ⟨b, off + k * 4 + 2, none⟩ = some (.int .i64 y.next) ∧ W.cell? ⟨b, off + k * 4 + 3, none⟩ = some (.slice p3 y.msgs.length d3) ∧ W.cell? ⟨w.heap.size, 2, none⟩ = some (.int .i64 x.uid)) (by kernel_rfl) (by kernel_rfl) rfl (by kernel_rfl) ?_
        intro ops' hops
        clear hops
        simp only [List.map_cons, List.map_nil, pickOp_zero, pickOp_succ]
        iterate 2 (refine ord_flo ?_ (fun _ _ _ h => h) rfl ?_ ⟨e0, e1, e2, e3, u2⟩ ?_; rotate_left; focus (intro W hS; obtain ⟨s1, s2, s3, s4, s5⟩ := hS; go_simp; rfl))
        refine ord_flo (.pointer (some ⟨b, off + k * 4, none⟩)) (fun _ _ _ h => h) rfl ?_ ⟨e0, e1, e2, e3, u2⟩ ?_
        · intro W hS
          obtain ⟨s1, s2, s3, s4, s5⟩ := hS
          go_simp <;> omega
        iterate 3 (refine ord_flo ?_ (fun _ _ _ h => h) rfl ?_ ⟨e0, e1, e2, e3, u2⟩ ?_; rotate_left; focus (intro W hS; obtain ⟨s1, s2, s3, s4, s5⟩ := hS; go_simp; rfl))
        refine ord_ev rfl ?_
        go_simp
        refine (DP.out _ (HB.out _ gd)).mono ?_
        rintro e w5 ⟨rfl, k5⟩
        have g5 := gd.trans (k5.mono gd.size)
        obtain ⟨e0, e1, e2, e3⟩ := HE.out _ g5
        have hA_w5 := HA.out w5 g5
        have u2 := (Lib.cell_of_heap hA_w5 2).trans (show _ = some (.int .i64 x.uid) from rfl)
        clear hA_w5
        refine ⟨⟨e0, e1, e2, e3, u2⟩, ?_⟩
        iterate 2 (refine ord_flo ?_ (fun _ _ _ h => h) rfl ?_ ⟨e0, e1, e2, e3, u2⟩ ?_; rotate_left; focus (intro W hS; obtain ⟨s1, s2, s3, s4, s5⟩ := hS; go_simp; rfl))
        refine ord_done ?_
        go_simp
        go_wp2
        go_ret
        exact ⟨by rw [HF2.out]; rfl, HB.out _ g5⟩
  have k2 : x.kind = 2 := by have := (commit_parts q2).1; omega
  have HF := Lib.hid (app_2 q1 q2 k2 n5v HY.out)
  have t3 : (x.kind == 3) = false := by rw [beq_eq_false_iff_ne]; omega
  have t4 : (x.kind == 4) = false := by rw [beq_eq_false_iff_ne]; omega
  have t5 : (x.kind == 5) = false := by rw [beq_eq_false_iff_ne]; omega
  have t6 : (x.kind == 6) = false := by rw [beq_eq_false_iff_ne]; omega
  clear hvv hnn q1 q2 k1 k2 k3 k4 k5 k6 n5v hy hk HY hyv hwk CP
  go_enter Tryz.func42, Tryz.ntmps42
  go_wp2_with fail
  refine (D1.out).mono ?_
  rintro e w1 ⟨rfl, k_w1⟩
  have g_w1 := k_w1
  clear k_w1
  have hA_w1 := HA.out w1 g_w1
  have a0 := (Lib.cell_of_heap hA_w1 0).trans (show _ = some (.int .i64 x.kind) from rfl)
  have a1 := (Lib.cell_of_heap hA_w1 1).trans (show _ = some (.int .i64 x.validity) from rfl)
  have a2 := (Lib.cell_of_heap hA_w1 2).trans (show _ = some (.int .i64 x.uid) from rfl)
  have a3 := (Lib.cell_of_heap hA_w1 3).trans (show _ = some (.int .i64 x.flags) from rfl)
  have a4 := (Lib.cell_of_heap hA_w1 4).trans (show _ = some (sv x.name) from rfl)
  have a5 := (Lib.cell_of_heap hA_w1 5).trans (show _ = some (sv x.text) from rfl)
  clear hA_w1
  go_wp2_with fail
  refine (D2.out _).mono ?_
  rintro e w2 ⟨rfl, k_w2⟩
  have g_w2 := g_w1.trans (k_w2.mono g_w1.size)
  clear k_w2 g_w1
  clear a0 a1 a2 a3 a4 a5
  have hA_w2 := HA.out w2 g_w2
  have a1 := (Lib.cell_of_heap hA_w2 1).trans (show _ = some (.int .i64 x.validity) from rfl)
  clear hA_w2
  go_wp2_with fail
  refine (D3.out _ (HB.out _ g_w2)).mono ?_
  rintro e w3 ⟨rfl, k_w3⟩
  have g_w3 := g_w2.trans (k_w3.mono g_w2.size)
  clear k_w3 g_w2
  clear a1
  have hA_w3 := HA.out w3 g_w3
  have a4 := (Lib.cell_of_heap hA_w3 4).trans (show _ = some (sv x.name) from rfl)
  clear hA_w3
  go_wp2_with fail
  refine (D4.out _ (HB.out _ g_w3)).mono ?_
  rintro e w4 ⟨rfl, k_w4⟩
  have g_w4 := g_w3.trans (k_w4.mono g_w3.size)
  clear k_w4 g_w3
  clear a4
  have hA_w4 := HA.out w4 g_w4
  have a0 := (Lib.cell_of_heap hA_w4 0).trans (show _ = some (.int .i64 x.kind) from rfl)
  clear hA_w4
  by_cases n0 : (0 : Int) ≤ nn
  · go_wp2
    go_ret
    exact ⟨by rw [HF.out]; rfl, HB.out _ g_w4⟩
  · go_wp2
    go_ret
    exact ⟨by rw [HF.out]; rfl, HB.out _ g_w4⟩

end Go.Proofs.YtbfgdbpfecffcaaGreatDoor
