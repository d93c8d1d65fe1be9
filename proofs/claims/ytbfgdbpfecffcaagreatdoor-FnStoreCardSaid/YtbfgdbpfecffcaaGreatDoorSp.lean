/-
  Sp: ComJ ComK (what the claim needs of them).
-/
import Derived.Deep.DeepCutAuto
import Derived.Handy
import Derived.Test.YtbfgdbpfecffcaaGreatDoorRows
import Derived.WalkKit
import Derived.WalkSpells
import Derived.WalkLawsBesides
import Derived.Laws.IdiomStrings
import Derived.Lib.Hide
import Derived.Deep.AppendLies
import Derived.OrdersHeld
import Derived.Lib.ItoaNum
import Derived.Lib.ItoaMem
import Derived.Lib.AppendStr
import Derived.Lib.ItoaLen
import Derived.Lib.Strings
import Derived.Lib.Bytealg
import Derived.Lib.OthersKept
import Derived.Laws.RangeAny
import Derived.Laws.BitsAllLaws
import Derived.Laws.BitsLemmas
import Derived.IntWalk
import Derived.Lib.Join
import Derived.Deep.Strs
import Derived.Test.YtbfgdbpfecffcaaGreatDoorProg
import Derived.Laws.Tables
import Derived.Test.YtbfgdbpfecffcaaGreatDoorSb
import Derived.Test.YtbfgdbpfecffcaaGreatDoorSc
import Derived.Test.YtbfgdbpfecffcaaGreatDoorSd
import Derived.Test.YtbfgdbpfecffcaaGreatDoorSe
import Derived.Test.YtbfgdbpfecffcaaGreatDoorSf
import Derived.Test.YtbfgdbpfecffcaaGreatDoorSh
import Derived.Test.YtbfgdbpfecffcaaGreatDoorSk
import Derived.Test.YtbfgdbpfecffcaaGreatDoorSm
import Derived.Test.YtbfgdbpfecffcaaGreatDoorSn
import Derived.Test.YtbfgdbpfecffcaaGreatDoorSo

namespace Go.Proofs.YtbfgdbpfecffcaaGreatDoor
open Go.RowKit

def ApplPost (l : List BoxD) (x : ComD) (w : World) (e : Ending) (w' : World) : Prop :=
  ∃ z0 f0, e = .returned (.tuple #[z0, .bool (appB l x)]) ∧ Tree w' w.heap.size (boxsLf (appliedL l x)) z0 f0 ∧ Below w.heap.size w w'
theorem appl_post {l L : List BoxD} {x : ComD} {w w' : World} {z : Value} {f : List Nat} (hb : appB l x = true) (hd : appliedL l x = L) (ht : Tree w' w.heap.size (boxsLf L) z f) (hB : Below w.heap.size w w') : ApplPost l x w (.returned (.tuple #[z, .bool true])) w' :=
  ⟨z, f, by rw [hb], hd ▸ ht, hB⟩
theorem tree_lower {W : World} {lo lo' : Nat} {t : Lf} {v : Value} {fp : List Nat} (h : Tree W lo t v fp) (hl : lo' ≤ lo) : Tree W lo' t v fp := ⟨h.is, h.nodup, fun q hq => Nat.le_trans hl (h.low q hq)⟩
theorem box_msgs {l : List BoxD} (hsl : ∀ x ∈ l, szLs x.lf ≤ 1048576 ∧ LsBnd x.lf) : ∀ x ∈ l, x.msgs.length ≤ 1048576 := fun x hx => by
  have h0 := (hsl x hx).1
  have h1 := BoxD.sz x
  have h2 : szLf (msgsLf x.msgs) = x.msgs.length + szLs (x.msgs.flatMap MsgD.lf) := rfl
  omega
theorem applied_no {l : List BoxD} {m : ComD} (h : appB l m = false) : appliedL l m = l := by unfold appliedL; rw [h]; rfl
theorem applied_yes {l : List BoxD} {m : ComD} (h : appB l m = true) : appliedL l m = doneL l m := by unfold appliedL; rw [if_pos h]
theorem done_1 {l : List BoxD} {m : ComD} (h : m.kind = 1) : doneL l m = layL l ⟨m.name, m.validity, 1, []⟩ := by unfold doneL; rw [if_pos h]
theorem done_2 {l : List BoxD} {m : ComD} {b : BoxD} (h : m.kind = 2) (hb : l[whereB l m.validity]? = some b) : doneL l m = l.eraseIdx (whereB l m.validity) := by unfold doneL; rw [if_neg (by omega), hb]; simp only [if_pos h]
theorem app_kinds {l : List BoxD} {m : ComD} (h : appB l m = true) (hk : m.kind ≠ 1) : ∃ b, l[whereB l m.validity]? = some b ∧ bxWith l m.validity = ((whereB l m.validity : Nat) : Int) := by
  have hn : ¬ bxWith l m.validity < 0 := fun hn => by rw [app_neg hk hn] at h; cases h
  obtain ⟨b, hb, _⟩ := with_at hn
  exact ⟨b, hb, whereB_eq hn⟩

set_option maxRecDepth 20000 in
set_option maxHeartbeats 6400000 in
theorem specApplied_no (l : List BoxD) (v : Value) (x : ComD) (w : World) (hr : LfRd w (boxsLf l) v) (hcap : CapLe v) (hs : szLf (boxsLf l) ≤ 1048576) (hbd : LfBnd (boxsLf l)) (hs2 : szLs x.lf ≤ 1048576) (hbd2 : LsBnd x.lf) (ha : appB l x = false) :
    Calls Tryz.prog 19 #[v, .agg #[.int .i64 x.kind, .int .i64 x.validity, .int .i64 x.uid, .int .i64 x.flags, sv x.name, sv x.text]] w fun e w' => ApplPost l x w e w' := by
  obtain ⟨hl, _, _, hsl⟩ := boxes_small hs hbd
  obtain ⟨hnl, hvl, hul⟩ := com_fit hs2 hbd2
  have CC := Lib.hid (fun W (g : Below w.heap.size w W) => l9Copies_any l v W (LfRd.below g _ _ hr) hl (box_msgs hsl))
  have CA0 := fun W (g : Below w.heap.size w W) => specApplies_c l v x W trivial (LfRd.below g _ _ hr) hcap hs hbd hs2 hbd2
  rw [ha] at CA0
  have CA := Lib.hid CA0
  have CW := Lib.hid (fun W (g : Below w.heap.size w W) => specBoxWith_c l v x.validity W trivial (LfRd.below g _ _ hr) hs hbd hvl)
  have HL := Lib.hid hl
  have HML := Lib.hid (box_msgs hsl)
  have HSL := Lib.hid hsl
  have HUI := Lib.hid hul
  obtain ⟨p, c, rfl⟩ := LfRd.slice hr
  have hbA : Below w.heap.size w (w.alloc (.cells #[.int .i64 x.kind, .int .i64 x.validity, .int .i64 x.uid, .int .i64 x.flags, sv x.name, sv x.text] 26)) := (Below.refl _ _).alloc (Nat.le_refl _) _
  have hA := heap_alloc_new w (.cells #[.int .i64 x.kind, .int .i64 x.validity, .int .i64 x.uid, .int .i64 x.flags, sv x.name, sv x.text] 26)
  have hz0 : (w.alloc (.cells #[.int .i64 x.kind, .int .i64 x.validity, .int .i64 x.uid, .int .i64 x.flags, sv x.name, sv x.text] 26)).heap.size = w.heap.size + 1 := by simp
  clear hr hcap hs hbd hs2 hbd2 hnl hul hsl CA0
  obtain ⟨W0, hW0⟩ : ∃ W0, w.alloc (.cells #[.int .i64 x.kind, .int .i64 x.validity, .int .i64 x.uid, .int .i64 x.flags, sv x.name, sv x.text] 26) = W0 := ⟨_, rfl⟩
  rw [hW0] at hbA hA hz0
  have HZ := Lib.hid hz0
  have HB := Lib.hid (fun W (g : Below W0.heap.size W0 W) => hbA.trans (g.mono hbA.size))
  have HA := Lib.hid (fun W (g : Below W0.heap.size W0 W) => (g.block w.heap.size (by omega)).trans hA)
  clear hbA hA hz0
  go_enter Tryz.func19, Tryz.ntmps19
  go_wp2_with fail
  refine (CC.out W0 (HB.out _ (Below.refl _ _))).mono ?_
  rintro e w1 ⟨v1, fp, rfl, ht1, g_w1⟩
  obtain ⟨p1, c1, rfl⟩ := LfIn.slice ht1.is
  have HT := Lib.hid ht1
  clear ht1
  have hA_w1 := HA.out w1 g_w1
  have a0 := (Lib.cell_of_heap hA_w1 0).trans (show _ = some (.int .i64 x.kind) from rfl)
  have a1 := (Lib.cell_of_heap hA_w1 1).trans (show _ = some (.int .i64 x.validity) from rfl)
  have a2 := (Lib.cell_of_heap hA_w1 2).trans (show _ = some (.int .i64 x.uid) from rfl)
  have a3 := (Lib.cell_of_heap hA_w1 3).trans (show _ = some (.int .i64 x.flags) from rfl)
  have a4 := (Lib.cell_of_heap hA_w1 4).trans (show _ = some (sv x.name) from rfl)
  have a5 := (Lib.cell_of_heap hA_w1 5).trans (show _ = some (sv x.text) from rfl)
  clear hA_w1
  go_wp2_with fail
  refine (CA.out w1 (HB.out _ g_w1)).mono ?_
  rintro e w2 ⟨rfl, k_w2⟩
  have HT2 := Lib.hid (HT.out.below k_w2)
  have g_w2 := g_w1.trans (k_w2.mono g_w1.size)
  clear k_w2 g_w1 HT a0 a1 a2 a3 a4 a5 CC CA
  go_wp2
  go_ret2
  exact ⟨_, fp, by rw [ha]; rfl, by rw [applied_no ha]; exact ⟨HT2.out.is, HT2.out.nodup, fun q hq => Nat.le_trans (by rw [HZ.out]; omega) (HT2.out.low q hq)⟩, HB.out _ g_w2⟩

set_option maxRecDepth 20000 in
set_option maxHeartbeats 6400000 in
theorem specApplied_1 (l : List BoxD) (v : Value) (x : ComD) (w : World) (hr : LfRd w (boxsLf l) v) (hcap : CapLe v) (hs : szLf (boxsLf l) ≤ 1048576) (hbd : LfBnd (boxsLf l)) (hs2 : szLs x.lf ≤ 1048576) (hbd2 : LsBnd x.lf) (ha : appB l x = true) (hk : x.kind = 1) :
    Calls Tryz.prog 19 #[v, .agg #[.int .i64 x.kind, .int .i64 x.validity, .int .i64 x.uid, .int .i64 x.flags, sv x.name, sv x.text]] w fun e w' => ApplPost l x w e w' := by
  obtain ⟨hl, _, _, hsl⟩ := boxes_small hs hbd
  obtain ⟨hnl, hvl, hul⟩ := com_fit hs2 hbd2
  have CC := Lib.hid (fun W (g : Below w.heap.size w W) => l9Copies_any l v W (LfRd.below g _ _ hr) hl (box_msgs hsl))
  have CA0 := fun W (g : Below w.heap.size w W) => specApplies_c l v x W trivial (LfRd.below g _ _ hr) hcap hs hbd hs2 hbd2
  rw [ha] at CA0
  have CA := Lib.hid CA0
  have CW := Lib.hid (fun W (g : Below w.heap.size w W) => specBoxWith_c l v x.validity W trivial (LfRd.below g _ _ hr) hs hbd hvl)
  have HL := Lib.hid hl
  have HML := Lib.hid (box_msgs hsl)
  have HSL := Lib.hid hsl
  have HUI := Lib.hid hul
  obtain ⟨p, c, rfl⟩ := LfRd.slice hr
  have hbA : Below w.heap.size w (w.alloc (.cells #[.int .i64 x.kind, .int .i64 x.validity, .int .i64 x.uid, .int .i64 x.flags, sv x.name, sv x.text] 26)) := (Below.refl _ _).alloc (Nat.le_refl _) _
  have hA := heap_alloc_new w (.cells #[.int .i64 x.kind, .int .i64 x.validity, .int .i64 x.uid, .int .i64 x.flags, sv x.name, sv x.text] 26)
  have hz0 : (w.alloc (.cells #[.int .i64 x.kind, .int .i64 x.validity, .int .i64 x.uid, .int .i64 x.flags, sv x.name, sv x.text] 26)).heap.size = w.heap.size + 1 := by simp
  clear hr hcap hs hbd hs2 hbd2 hnl hul hsl CA0
  obtain ⟨W0, hW0⟩ : ∃ W0, w.alloc (.cells #[.int .i64 x.kind, .int .i64 x.validity, .int .i64 x.uid, .int .i64 x.flags, sv x.name, sv x.text] 26) = W0 := ⟨_, rfl⟩
  rw [hW0] at hbA hA hz0
  have HZ := Lib.hid hz0
  have HB := Lib.hid (fun W (g : Below W0.heap.size W0 W) => hbA.trans (g.mono hbA.size))
  have HA := Lib.hid (fun W (g : Below W0.heap.size W0 W) => (g.block w.heap.size (by omega)).trans hA)
  clear hbA hA hz0
  have t1 : (x.kind == 1) = true := by rw [hk]; rfl
  have HD := Lib.hid (show appliedL l x = layL l ⟨x.name, x.validity, 1, []⟩ by rw [applied_yes ha, done_1 hk])
  have HAP := Lib.hid ha
  clear ha hk
  go_enter Tryz.func19, Tryz.ntmps19
  go_wp2_with fail
  refine (CC.out W0 (HB.out _ (Below.refl _ _))).mono ?_
  rintro e w1 ⟨v1, fp, rfl, ht1, g_w1⟩
  obtain ⟨p1, c1, rfl⟩ := LfIn.slice ht1.is
  have HT := Lib.hid ht1
  clear ht1
  have hA_w1 := HA.out w1 g_w1
  have a0 := (Lib.cell_of_heap hA_w1 0).trans (show _ = some (.int .i64 x.kind) from rfl)
  have a1 := (Lib.cell_of_heap hA_w1 1).trans (show _ = some (.int .i64 x.validity) from rfl)
  have a2 := (Lib.cell_of_heap hA_w1 2).trans (show _ = some (.int .i64 x.uid) from rfl)
  have a3 := (Lib.cell_of_heap hA_w1 3).trans (show _ = some (.int .i64 x.flags) from rfl)
  have a4 := (Lib.cell_of_heap hA_w1 4).trans (show _ = some (sv x.name) from rfl)
  have a5 := (Lib.cell_of_heap hA_w1 5).trans (show _ = some (sv x.text) from rfl)
  clear hA_w1
  go_wp2_with fail
  refine (CA.out w1 (HB.out _ g_w1)).mono ?_
  rintro e w2 ⟨rfl, k_w2⟩
  have HT2 := Lib.hid (HT.out.below k_w2)
  have g_w2 := g_w1.trans (k_w2.mono g_w1.size)
  clear k_w2 g_w1 HT a0 a1 a2 a3 a4 a5 CC CA
  have hA_w2 := HA.out w2 g_w2
  have a1 := (Lib.cell_of_heap hA_w2 1).trans (show _ = some (.int .i64 x.validity) from rfl)
  clear hA_w2
  go_wp2_with fail
  refine (CW.out w2 (HB.out _ g_w2)).mono ?_
  rintro e w3 ⟨rfl, k_w3⟩
  have ht3 := HT2.out.below k_w3
  have g_w3 := g_w2.trans (k_w3.mono g_w2.size)
  clear k_w3 g_w2 HT2 a1 CW
  have hA_w3 := HA.out w3 g_w3
  have a0 := (Lib.cell_of_heap hA_w3 0).trans (show _ = some (.int .i64 x.kind) from rfl)
  have a1 := (Lib.cell_of_heap hA_w3 1).trans (show _ = some (.int .i64 x.validity) from rfl)
  have a2 := (Lib.cell_of_heap hA_w3 2).trans (show _ = some (.int .i64 x.uid) from rfl)
  have a3 := (Lib.cell_of_heap hA_w3 3).trans (show _ = some (.int .i64 x.flags) from rfl)
  have a4 := (Lib.cell_of_heap hA_w3 4).trans (show _ = some (sv x.name) from rfl)
  have a5 := (Lib.cell_of_heap hA_w3 5).trans (show _ = some (sv x.text) from rfl)
  clear hA_w3
  obtain ⟨ps, hps, own⟩ := tree_own9 ht3
  have HPS := Lib.hid (show ps.length = l.length by rw [← hps, List.length_map])
  have hzz := HB.out _ g_w3
  have hw0 : w.heap.size ≤ W0.heap.size := by rw [HZ.out]; omega
  have hw3 := g_w3.size
  have HOW := Lib.hid own
  have HBX := Lib.hid hps
  have HG := Lib.hid hzz
  clear own ht3 hps hzz HZ
  go_wp2_with fail
  refine (l10Lay_any _ ps ⟨⟨x.name, x.validity, 1, []⟩, none, 0, []⟩ w3 HOW.out.rd HOW.out.cap (by have := HPS.out; have := HL.out; omega)).mono ?_
  rintro e w4 ⟨v4, rfl, ho4, g4⟩
  have HF := Lib.hid (Own9.lay HOW.out hw3 (q := ⟨⟨x.name, x.validity, 1, []⟩, none, 0, []⟩) (msgs_in.2 ⟨World.ownsRow_nil _ _ _ _, rfl⟩) (by simp) (by simp) (by simp) ho4 g4)
  have HG4 := Lib.hid (HG.out.trans (g4.mono (Nat.le_trans hw0 hw3)))
  clear ho4 g4
  go_wp2
  go_ret2
  have ht := HF.out.tree
  rw [layP_box, HBX.out] at ht
  exact appl_post HAP.out HD.out (tree_lower ht hw0) HG4.out

set_option maxRecDepth 20000 in
set_option maxHeartbeats 6400000 in
theorem specApplied_2 (l : List BoxD) (v : Value) (x : ComD) (w : World) (hr : LfRd w (boxsLf l) v) (hcap : CapLe v) (hs : szLf (boxsLf l) ≤ 1048576) (hbd : LfBnd (boxsLf l)) (hs2 : szLs x.lf ≤ 1048576) (hbd2 : LsBnd x.lf) (ha : appB l x = true) (hk : x.kind = 2) :
    Calls Tryz.prog 19 #[v, .agg #[.int .i64 x.kind, .int .i64 x.validity, .int .i64 x.uid, .int .i64 x.flags, sv x.name, sv x.text]] w fun e w' => ApplPost l x w e w' := by
  obtain ⟨hl, _, _, hsl⟩ := boxes_small hs hbd
  obtain ⟨hnl, hvl, hul⟩ := com_fit hs2 hbd2
  have CC := Lib.hid (fun W (g : Below w.heap.size w W) => l9Copies_any l v W (LfRd.below g _ _ hr) hl (box_msgs hsl))
  have CA0 := fun W (g : Below w.heap.size w W) => specApplies_c l v x W trivial (LfRd.below g _ _ hr) hcap hs hbd hs2 hbd2
  rw [ha] at CA0
  have CA := Lib.hid CA0
  have CW := Lib.hid (fun W (g : Below w.heap.size w W) => specBoxWith_c l v x.validity W trivial (LfRd.below g _ _ hr) hs hbd hvl)
  have HL := Lib.hid hl
  have HML := Lib.hid (box_msgs hsl)
  have HSL := Lib.hid hsl
  have HUI := Lib.hid hul
  obtain ⟨p, c, rfl⟩ := LfRd.slice hr
  have hbA : Below w.heap.size w (w.alloc (.cells #[.int .i64 x.kind, .int .i64 x.validity, .int .i64 x.uid, .int .i64 x.flags, sv x.name, sv x.text] 26)) := (Below.refl _ _).alloc (Nat.le_refl _) _
  have hA := heap_alloc_new w (.cells #[.int .i64 x.kind, .int .i64 x.validity, .int .i64 x.uid, .int .i64 x.flags, sv x.name, sv x.text] 26)
  have hz0 : (w.alloc (.cells #[.int .i64 x.kind, .int .i64 x.validity, .int .i64 x.uid, .int .i64 x.flags, sv x.name, sv x.text] 26)).heap.size = w.heap.size + 1 := by simp
  clear hr hcap hs hbd hs2 hbd2 hnl hul hsl CA0
  obtain ⟨W0, hW0⟩ : ∃ W0, w.alloc (.cells #[.int .i64 x.kind, .int .i64 x.validity, .int .i64 x.uid, .int .i64 x.flags, sv x.name, sv x.text] 26) = W0 := ⟨_, rfl⟩
  rw [hW0] at hbA hA hz0
  have HZ := Lib.hid hz0
  have HB := Lib.hid (fun W (g : Below W0.heap.size W0 W) => hbA.trans (g.mono hbA.size))
  have HA := Lib.hid (fun W (g : Below W0.heap.size W0 W) => (g.block w.heap.size (by omega)).trans hA)
  clear hbA hA hz0
  have t1 : (x.kind == 1) = false := by rw [hk]; rfl
  have t2 : (x.kind == 2) = true := by rw [hk]; rfl
  obtain ⟨y, hy, hwk⟩ := app_kinds ha (by omega)
  have HD := Lib.hid (show appliedL l x = l.eraseIdx (whereB l x.validity) by rw [applied_yes ha, done_2 hk hy])
  have HAP := Lib.hid ha
  rw [hwk] at CW
  obtain ⟨k, hkk⟩ : ∃ k, whereB l x.validity = k := ⟨_, rfl⟩
  rw [hkk] at CW HD hy
  have HY := Lib.hid hy
  clear ha hk hwk hkk hy
  go_enter Tryz.func19, Tryz.ntmps19
  go_wp2_with fail
  refine (CC.out W0 (HB.out _ (Below.refl _ _))).mono ?_
  rintro e w1 ⟨v1, fp, rfl, ht1, g_w1⟩
  obtain ⟨p1, c1, rfl⟩ := LfIn.slice ht1.is
  have HT := Lib.hid ht1
  clear ht1
  have hA_w1 := HA.out w1 g_w1
  have a0 := (Lib.cell_of_heap hA_w1 0).trans (show _ = some (.int .i64 x.kind) from rfl)
  have a1 := (Lib.cell_of_heap hA_w1 1).trans (show _ = some (.int .i64 x.validity) from rfl)
  have a2 := (Lib.cell_of_heap hA_w1 2).trans (show _ = some (.int .i64 x.uid) from rfl)
  have a3 := (Lib.cell_of_heap hA_w1 3).trans (show _ = some (.int .i64 x.flags) from rfl)
  have a4 := (Lib.cell_of_heap hA_w1 4).trans (show _ = some (sv x.name) from rfl)
  have a5 := (Lib.cell_of_heap hA_w1 5).trans (show _ = some (sv x.text) from rfl)
  clear hA_w1
  go_wp2_with fail
  refine (CA.out w1 (HB.out _ g_w1)).mono ?_
  rintro e w2 ⟨rfl, k_w2⟩
  have HT2 := Lib.hid (HT.out.below k_w2)
  have g_w2 := g_w1.trans (k_w2.mono g_w1.size)
  clear k_w2 g_w1 HT a0 a1 a2 a3 a4 a5 CC CA
  have hA_w2 := HA.out w2 g_w2
  have a1 := (Lib.cell_of_heap hA_w2 1).trans (show _ = some (.int .i64 x.validity) from rfl)
  clear hA_w2
  go_wp2_with fail
  refine (CW.out w2 (HB.out _ g_w2)).mono ?_
  rintro e w3 ⟨rfl, k_w3⟩
  have ht3 := HT2.out.below k_w3
  have g_w3 := g_w2.trans (k_w3.mono g_w2.size)
  clear k_w3 g_w2 HT2 a1 CW
  have hA_w3 := HA.out w3 g_w3
  have a0 := (Lib.cell_of_heap hA_w3 0).trans (show _ = some (.int .i64 x.kind) from rfl)
  have a1 := (Lib.cell_of_heap hA_w3 1).trans (show _ = some (.int .i64 x.validity) from rfl)
  have a2 := (Lib.cell_of_heap hA_w3 2).trans (show _ = some (.int .i64 x.uid) from rfl)
  have a3 := (Lib.cell_of_heap hA_w3 3).trans (show _ = some (.int .i64 x.flags) from rfl)
  have a4 := (Lib.cell_of_heap hA_w3 4).trans (show _ = some (sv x.name) from rfl)
  have a5 := (Lib.cell_of_heap hA_w3 5).trans (show _ = some (sv x.text) from rfl)
  clear hA_w3
  obtain ⟨ps, hps, own⟩ := tree_own9 ht3
  have HPS := Lib.hid (show ps.length = l.length by rw [← hps, List.length_map])
  have hzz := HB.out _ g_w3
  have hw0 : w.heap.size ≤ W0.heap.size := by rw [HZ.out]; omega
  have hw3 := g_w3.size
  have HOW := Lib.hid own
  have HBX := Lib.hid hps
  have HG := Lib.hid hzz
  clear own ht3 hps hzz HZ
  obtain ⟨z, hz⟩ : ∃ z, ps[k]? = some z := ⟨_, List.getElem?_eq_getElem (by rw [HPS.out]; exact (List.getElem?_eq_some_iff.1 HY.out).1)⟩
  have HZ2 := Lib.hid hz
  clear hz
  go_wp2_with fail
  refine (l10Without_any _ ps k w3 HOW.out.rd HOW.out.cap (List.getElem?_eq_some_iff.1 HZ2.out).1 (by have := HPS.out; have := HL.out; omega)).mono ?_
  rintro e w4 ⟨v4, rfl, ho4, g4⟩
  have HF := Lib.hid (Own9.without HOW.out HZ2.out hw3 ho4 g4)
  have HG4 := Lib.hid (HG.out.trans (g4.mono (Nat.le_trans hw0 hw3)))
  clear ho4 g4
  go_wp2
  go_ret2
  have ht := HF.out.tree
  rw [erase_box, HBX.out] at ht
  exact appl_post HAP.out HD.out (tree_lower ht hw0) HG4.out

end Go.Proofs.YtbfgdbpfecffcaaGreatDoor

namespace Go.Proofs.YtbfgdbpfecffcaaGreatDoor
open Go.RowKit

def BP.named (z : BP) (nm : List UInt8) : BP := { z with box := { z.box with name := nm } }
/-- One box left out, and laid in again under another name. -/
theorem Own9.rename {B : Nat} {W W4 W5 : World} {v v4 v5 : Value} {ps : List BP} {k : Nat} {z : BP} {nm : List UInt8} (h : Own9 B W v ps) (hz : ps[k]? = some z) (hB : B ≤ W.heap.size) (ho4 : W4.ownsRow W.heap.size 38 4 v4 (ps.eraseIdx k).length ((ps.eraseIdx k).flatMap encP)) (g4 : Below W.heap.size W W4)
    (ho5 : W5.ownsRow W4.heap.size 38 4 v5 (layP (ps.eraseIdx k) (z.named nm)).length ((layP (ps.eraseIdx k) (z.named nm)).flatMap encP)) (g5 : Below W4.heap.size W4 W5) : Own9 B W5 v5 (layP (ps.eraseIdx k) (z.named nm)) := by
  have h4 := h.without hz hB ho4 g4
  obtain ⟨h1, h2⟩ := h.fps
  have hp := erase_fps hz
  have hn := List.nodup_append.1 (hp.nodup_iff.1 h1)
  have hB4 := g4.size
  exact h4.lay (Nat.le_trans hB hB4) (q := z.named nm) ((h.ok z (List.mem_of_getElem? hz)).below g4) hn.1 (fun b hb => by have := h2 b (hp.mem_iff.2 (List.mem_append_left _ hb)); exact ⟨this.1, Nat.lt_of_lt_of_le this.2 hB4⟩) (fun b hb hm => hn.2.2 b hb b hm rfl) ho5 g5
theorem named_box (ps : List BP) (k : Nat) (z : BP) (nm : List UInt8) : (layP (ps.eraseIdx k) (z.named nm)).map BP.box = layL ((ps.map BP.box).eraseIdx k) { z.box with name := nm } := by rw [layP_box, erase_box]; rfl
theorem done_3 {l : List BoxD} {m : ComD} {b : BoxD} (h : m.kind = 3) (hb : l[whereB l m.validity]? = some b) : doneL l m = layL (l.eraseIdx (whereB l m.validity)) { b with name := m.name } := by unfold doneL; rw [if_neg (by omega), hb]; simp only [if_neg (show ¬ m.kind = 2 by omega), if_pos h]

set_option maxRecDepth 20000 in
set_option maxHeartbeats 6400000 in
theorem specApplied_3 (l : List BoxD) (v : Value) (x : ComD) (w : World) (hr : LfRd w (boxsLf l) v) (hcap : CapLe v) (hs : szLf (boxsLf l) ≤ 1048576) (hbd : LfBnd (boxsLf l)) (hs2 : szLs x.lf ≤ 1048576) (hbd2 : LsBnd x.lf) (ha : appB l x = true) (hk : x.kind = 3) :
    Calls Tryz.prog 19 #[v, .agg #[.int .i64 x.kind, .int .i64 x.validity, .int .i64 x.uid, .int .i64 x.flags, sv x.name, sv x.text]] w fun e w' => ApplPost l x w e w' := by
  obtain ⟨hl, _, _, hsl⟩ := boxes_small hs hbd
  obtain ⟨hnl, hvl, hul⟩ := com_fit hs2 hbd2
  have CC := Lib.hid (fun W (g : Below w.heap.size w W) => l9Copies_any l v W (LfRd.below g _ _ hr) hl (box_msgs hsl))
  have CA0 := fun W (g : Below w.heap.size w W) => specApplies_c l v x W trivial (LfRd.below g _ _ hr) hcap hs hbd hs2 hbd2
  rw [ha] at CA0
  have CA := Lib.hid CA0
  have CW := Lib.hid (fun W (g : Below w.heap.size w W) => specBoxWith_c l v x.validity W trivial (LfRd.below g _ _ hr) hs hbd hvl)
  have HL := Lib.hid hl
  have HML := Lib.hid (box_msgs hsl)
  have HSL := Lib.hid hsl
  have HUI := Lib.hid hul
  obtain ⟨p, c, rfl⟩ := LfRd.slice hr
  have hbA : Below w.heap.size w (w.alloc (.cells #[.int .i64 x.kind, .int .i64 x.validity, .int .i64 x.uid, .int .i64 x.flags, sv x.name, sv x.text] 26)) := (Below.refl _ _).alloc (Nat.le_refl _) _
  have hA := heap_alloc_new w (.cells #[.int .i64 x.kind, .int .i64 x.validity, .int .i64 x.uid, .int .i64 x.flags, sv x.name, sv x.text] 26)
  have hz0 : (w.alloc (.cells #[.int .i64 x.kind, .int .i64 x.validity, .int .i64 x.uid, .int .i64 x.flags, sv x.name, sv x.text] 26)).heap.size = w.heap.size + 1 := by simp
  clear hr hcap hs hbd hs2 hbd2 hnl hul hsl CA0
  obtain ⟨W0, hW0⟩ : ∃ W0, w.alloc (.cells #[.int .i64 x.kind, .int .i64 x.validity, .int .i64 x.uid, .int .i64 x.flags, sv x.name, sv x.text] 26) = W0 := ⟨_, rfl⟩
  rw [hW0] at hbA hA hz0
  have HZ := Lib.hid hz0
  have HB := Lib.hid (fun W (g : Below W0.heap.size W0 W) => hbA.trans (g.mono hbA.size))
  have HA := Lib.hid (fun W (g : Below W0.heap.size W0 W) => (g.block w.heap.size (by omega)).trans hA)
  clear hbA hA hz0
  have t1 : (x.kind == 1) = false := by rw [hk]; rfl
  have t2 : (x.kind == 2) = false := by rw [hk]; rfl
  have t3 : (x.kind == 3) = true := by rw [hk]; rfl
  obtain ⟨y, hy, hwk⟩ := app_kinds ha (by omega)
  have HD := Lib.hid (show appliedL l x = layL (l.eraseIdx (whereB l x.validity)) { y with name := x.name } by rw [applied_yes ha, done_3 hk hy])
  have HAP := Lib.hid ha
  rw [hwk] at CW
  obtain ⟨k, hkk⟩ : ∃ k, whereB l x.validity = k := ⟨_, rfl⟩
  rw [hkk] at CW HD hy
  have HY := Lib.hid hy
  clear ha hk hwk hkk hy
  go_enter Tryz.func19, Tryz.ntmps19
  go_wp2_with fail
  refine (CC.out W0 (HB.out _ (Below.refl _ _))).mono ?_
  rintro e w1 ⟨v1, fp, rfl, ht1, g_w1⟩
  obtain ⟨p1, c1, rfl⟩ := LfIn.slice ht1.is
  have HT := Lib.hid ht1
  clear ht1
  have hA_w1 := HA.out w1 g_w1
  have a0 := (Lib.cell_of_heap hA_w1 0).trans (show _ = some (.int .i64 x.kind) from rfl)
  have a1 := (Lib.cell_of_heap hA_w1 1).trans (show _ = some (.int .i64 x.validity) from rfl)
  have a2 := (Lib.cell_of_heap hA_w1 2).trans (show _ = some (.int .i64 x.uid) from rfl)
  have a3 := (Lib.cell_of_heap hA_w1 3).trans (show _ = some (.int .i64 x.flags) from rfl)
  have a4 := (Lib.cell_of_heap hA_w1 4).trans (show _ = some (sv x.name) from rfl)
  have a5 := (Lib.cell_of_heap hA_w1 5).trans (show _ = some (sv x.text) from rfl)
  clear hA_w1
  go_wp2_with fail
  refine (CA.out w1 (HB.out _ g_w1)).mono ?_
  rintro e w2 ⟨rfl, k_w2⟩
  have HT2 := Lib.hid (HT.out.below k_w2)
  have g_w2 := g_w1.trans (k_w2.mono g_w1.size)
  clear k_w2 g_w1 HT a0 a1 a2 a3 a4 a5 CC CA
  have hA_w2 := HA.out w2 g_w2
  have a1 := (Lib.cell_of_heap hA_w2 1).trans (show _ = some (.int .i64 x.validity) from rfl)
  clear hA_w2
  go_wp2_with fail
  refine (CW.out w2 (HB.out _ g_w2)).mono ?_
  rintro e w3 ⟨rfl, k_w3⟩
  have ht3 := HT2.out.below k_w3
  have g_w3 := g_w2.trans (k_w3.mono g_w2.size)
  clear k_w3 g_w2 HT2 a1 CW
  have hA_w3 := HA.out w3 g_w3
  have a0 := (Lib.cell_of_heap hA_w3 0).trans (show _ = some (.int .i64 x.kind) from rfl)
  have a1 := (Lib.cell_of_heap hA_w3 1).trans (show _ = some (.int .i64 x.validity) from rfl)
  have a2 := (Lib.cell_of_heap hA_w3 2).trans (show _ = some (.int .i64 x.uid) from rfl)
  have a3 := (Lib.cell_of_heap hA_w3 3).trans (show _ = some (.int .i64 x.flags) from rfl)
  have a4 := (Lib.cell_of_heap hA_w3 4).trans (show _ = some (sv x.name) from rfl)
  have a5 := (Lib.cell_of_heap hA_w3 5).trans (show _ = some (sv x.text) from rfl)
  clear hA_w3
  obtain ⟨ps, hps, own⟩ := tree_own9 ht3
  have HPS := Lib.hid (show ps.length = l.length by rw [← hps, List.length_map])
  have hzz := HB.out _ g_w3
  have hw0 : w.heap.size ≤ W0.heap.size := by rw [HZ.out]; omega
  have hw3 := g_w3.size
  have HOW := Lib.hid own
  have HBX := Lib.hid hps
  have HG := Lib.hid hzz
  clear own ht3 hps hzz HZ
  obtain ⟨z, hz⟩ : ∃ z, ps[k]? = some z := ⟨_, List.getElem?_eq_getElem (by rw [HPS.out]; exact (List.getElem?_eq_some_iff.1 HY.out).1)⟩
  have hzy : z.box = y := by
    have h1 : (ps.map BP.box)[k]? = some z.box := by rw [List.getElem?_map, hz]; rfl
    rw [HBX.out, HY.out] at h1
    injection h1 with h1
    exact h1.symm
  have HZ2 := Lib.hid hz
  have HZY := Lib.hid hzy
  have hkl : k < l.length := (List.getElem?_eq_some_iff.1 HY.out).1
  obtain ⟨p2, c2, hv2, hc2⟩ := HOW.out.rd.ex
  injection hv2 with hp2 hn2 hm2
  subst hp2
  clear hn2 hm2
  obtain ⟨b, off, rfl, hb3, hcc⟩ := hc2.resolve_left (by intro h; subst h; simp at hz)
  have d0 : w3.cell? ⟨b, off + k * 4, none⟩ = some (sv z.box.name) := hcc k z hz 0 _ rfl
  have d1 : w3.cell? ⟨b, off + k * 4 + 1, none⟩ = some (.int .i64 z.box.validity) := hcc k z hz 1 _ rfl
  have d2 : w3.cell? ⟨b, off + k * 4 + 2, none⟩ = some (.int .i64 z.box.next) := hcc k z hz 2 _ rfl
  have d3 : w3.cell? ⟨b, off + k * 4 + 3, none⟩ = some (.slice z.pt z.box.msgs.length z.cp) := hcc k z hz 3 _ rfl
  clear hcc hz hzy
  have gX := g_w3.alloc g_w3.size (.cells #[sv z.box.name, .int .i64 z.box.validity, .int .i64 z.box.next, .slice z.pt z.box.msgs.length z.cp] 38)
  have a4X := (Lib.cell_of_heap (HA.out _ gX) 4).trans (show _ = some (sv x.name) from rfl)
  have hX := heap_alloc_new w3 (.cells #[sv z.box.name, .int .i64 z.box.validity, .int .i64 z.box.next, .slice z.pt z.box.msgs.length z.cp] 38)
  have k3 := ((Below.refl w3.heap.size w3).alloc (Nat.le_refl _) (.cells #[sv z.box.name, .int .i64 z.box.validity, .int .i64 z.box.next, .slice z.pt z.box.msgs.length z.cp] 38)).setCell (p := ⟨w3.heap.size, 0, none⟩) (Nat.le_refl _) (sv x.name)
  obtain ⟨X, hXX⟩ : ∃ X, w3.alloc (.cells #[sv z.box.name, .int .i64 z.box.validity, .int .i64 z.box.next, .slice z.pt z.box.msgs.length z.cp] 38) = X := ⟨_, rfl⟩
  rw [hXX] at gX a4X hX k3
  obtain ⟨⟨cz, -⟩, ⟨fz, -⟩, -⟩ := blk_4c hX
  have hY := set_heap (j := 0) (u := sv x.name) hX
  have gY := gX.setCell (p := ⟨w3.heap.size, 0, none⟩) hw3 (sv x.name)
  obtain ⟨Y, hYY⟩ : ∃ Y, X.setCell ⟨w3.heap.size, 0, none⟩ (sv x.name) = Y := ⟨_, rfl⟩
  rw [hYY] at gY hY k3
  have HK3 := Lib.hid k3
  have HGY := Lib.hid gY
  have HY2 := Lib.hid hY
  clear gX hX gY hY k3
  go_wp2_with fail
  have hOY := HOW.out.below (HK3.out.drew)
  have OWY := Lib.hid hOY
  have hBY : W0.heap.size ≤ Y.drew.heap.size := HGY.out.drew.size
  have hlt3 : w3.heap.size < Y.drew.heap.size := (Array.getElem?_eq_some_iff.1 HY2.out).1
  obtain ⟨⟨e0, e1, e2, e3⟩, -⟩ := blk_4c (w := Y.drew) (show Y.drew.heap[w3.heap.size]? = some (.cells #[sv x.name, .int .i64 z.box.validity, .int .i64 z.box.next, .slice z.pt z.box.msgs.length z.cp] 38 (0, 0)) from HY2.out)
  have HPL := Lib.hid (show ps.length ≤ 1048576 by rw [HPS.out]; exact HL.out)
  have HBY := Lib.hid (HG.out.trans (HK3.out.mono (Nat.le_trans hw0 hw3)))
  clear hOY d0 d1 d2 d3 a0 a1 a2 a3 a4 a5 a4X cz fz hXX hYY
  refine ord_start [(0, true), (1, true), (3, true), (2, false), (4, false), (5, true), (6, true)] (fun W => W.cell? ⟨w3.heap.size, 0, none⟩ = some (sv x.name) ∧ W.cell? ⟨w3.heap.size, 1, none⟩ = some (.int .i64 z.box.validity) ∧ W.cell? ⟨w3.heap.size, 2, none⟩ = some (.int .i64 z.box.next) ∧ W.cell? ⟨w3.heap.size, 3, none⟩ = some (.slice z.pt z.box.msgs.length z.cp)) (by kernel_rfl) (by kernel_rfl) rfl (by kernel_rfl) ?_
  intro ops' hops
  clear hops
  simp only [List.map_cons, List.map_nil, pickOp_zero, pickOp_succ]
  iterate 3 (refine ord_flo ?_ (fun _ _ _ h => h) rfl ?_ ⟨e0, e1, e2, e3⟩ ?_; rotate_left; focus (intro W hS; obtain ⟨s1, s2, s3, s4⟩ := hS; go_simp; rfl))
  refine ord_ev rfl ?_
  go_simp
  refine (l10Without_any _ ps k _ OWY.out.rd OWY.out.cap (List.getElem?_eq_some_iff.1 HZ2.out).1 HPL.out).mono ?_
  rintro e w4 ⟨v4, rfl, ho4, g4⟩
  replace e0 := (g4.cell (p := ⟨w3.heap.size, 0, none⟩) hlt3).trans e0
  replace e1 := (g4.cell (p := ⟨w3.heap.size, 1, none⟩) hlt3).trans e1
  replace e2 := (g4.cell (p := ⟨w3.heap.size, 2, none⟩) hlt3).trans e2
  replace e3 := (g4.cell (p := ⟨w3.heap.size, 3, none⟩) hlt3).trans e3
  replace hlt3 := Nat.lt_of_lt_of_le hlt3 g4.size
  have H4 := Lib.hid (OWY.out.without HZ2.out hBY ho4 g4)
  have HO4 := Lib.hid ho4
  have HG4 := Lib.hid g4
  clear ho4 g4
  refine ⟨⟨e0, e1, e2, e3⟩, ?_⟩
  refine ord_ev rfl ?_
  go_simp
  refine (l10Lay_any v4 (ps.eraseIdx k) (z.named x.name) w4 H4.out.rd H4.out.cap (Nat.le_trans (List.length_eraseIdx_le ..) HPL.out)).mono ?_
  rintro e w5 ⟨v5, rfl, ho5, g5⟩
  replace e0 := (g5.cell (p := ⟨w3.heap.size, 0, none⟩) hlt3).trans e0
  replace e1 := (g5.cell (p := ⟨w3.heap.size, 1, none⟩) hlt3).trans e1
  replace e2 := (g5.cell (p := ⟨w3.heap.size, 2, none⟩) hlt3).trans e2
  replace e3 := (g5.cell (p := ⟨w3.heap.size, 3, none⟩) hlt3).trans e3
  have HF := Lib.hid (Own9.rename OWY.out HZ2.out hBY HO4.out HG4.out ho5 g5)
  have HG5 := Lib.hid ((HBY.out.drew.trans (HG4.out.mono (Nat.le_trans hw0 hBY))).trans (g5.mono (Nat.le_trans (Nat.le_trans hw0 hBY) HG4.out.size)))
  clear ho5 g5
  refine ⟨⟨e0, e1, e2, e3⟩, ?_⟩
  iterate 2 (refine ord_flo ?_ (fun _ _ _ h => h) rfl ?_ ⟨e0, e1, e2, e3⟩ ?_; rotate_left; focus (intro W hS; obtain ⟨s1, s2, s3, s4⟩ := hS; go_simp; rfl))
  refine ord_done ?_
  go_simp
  go_wp2
  go_ret2
  have ht := HF.out.tree
  rw [named_box, HBX.out, HZY.out] at ht
  exact appl_post HAP.out HD.out (tree_lower ht hw0) HG5.out

end Go.Proofs.YtbfgdbpfecffcaaGreatDoor
