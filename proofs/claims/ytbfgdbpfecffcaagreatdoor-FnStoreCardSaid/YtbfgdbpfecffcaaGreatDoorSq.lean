/-
  Sq: ComM ComN (what the claim needs of them).
-/
import Derived.Deep.DeepCutAuto
import Derived.Handy
import Derived.Test.YtbfgdbpfecffcaaGreatDoorRows
import Derived.WalkKit
import Derived.WalkSpells
import Derived.WalkLawsBesides
import Derived.Laws.IdiomStrings
import Derived.Lib.Hide
import Derived.Deep.AppendLies
import Derived.OrdersHeld
import Derived.Lib.ItoaNum
import Derived.Lib.ItoaMem
import Derived.Lib.AppendStr
import Derived.Lib.ItoaLen
import Derived.Lib.Strings
import Derived.Lib.Bytealg
import Derived.Lib.OthersKept
import Derived.Laws.RangeAny
import Derived.Laws.BitsAllLaws
import Derived.Laws.BitsLemmas
import Derived.IntWalk
import Derived.Lib.Join
import Derived.Deep.Strs
import Derived.Test.YtbfgdbpfecffcaaGreatDoorProg
import Derived.Laws.Tables
import Derived.Test.YtbfgdbpfecffcaaGreatDoorSb
import Derived.Test.YtbfgdbpfecffcaaGreatDoorSc
import Derived.Test.YtbfgdbpfecffcaaGreatDoorSd
import Derived.Test.YtbfgdbpfecffcaaGreatDoorSe
import Derived.Test.YtbfgdbpfecffcaaGreatDoorSf
import Derived.Test.YtbfgdbpfecffcaaGreatDoorSh
import Derived.Test.YtbfgdbpfecffcaaGreatDoorSk
import Derived.Test.YtbfgdbpfecffcaaGreatDoorSl
import Derived.Test.YtbfgdbpfecffcaaGreatDoorSm
import Derived.Test.YtbfgdbpfecffcaaGreatDoorSo
import Derived.Test.YtbfgdbpfecffcaaGreatDoorSp

namespace Go.Proofs.YtbfgdbpfecffcaaGreatDoor
open Go.RowKit

theorem done_4 {l : List BoxD} {m : ComD} {b : BoxD} (h : 4 ≤ m.kind) (hb : l[whereB l m.validity]? = some b) : doneL l m = l.set (whereB l m.validity) (boxAfter b m) := by unfold doneL; rw [if_neg (by omega), hb]; simp only [if_neg (show ¬ m.kind = 2 by omega), if_neg (show ¬ m.kind = 3 by omega)]
def BP.more (z : BP) (m : MsgD) (g c : Nat) : BP := ⟨{ z.box with msgs := z.box.msgs ++ [m] }, some ⟨g, 0, none⟩, c, [g]⟩
def BP.nextd (z : BP) (n : Int) : BP := { z with box := { z.box with next := n } }
theorem Own9.off {B : Nat} {W : World} {b off n c : Nat} {ps : List BP} (h : Own9 B W (.slice (some ⟨b, off, none⟩) n c) ps) : off = 0 := by
  rcases h.row.2 with ⟨h0, h1⟩ | ⟨g, cap, cur, h0, _⟩
  · injection h0 with h0; cases h0
  · injection h0 with h0
    injection h0 with h0
    injection h0
theorem Own9.cell {B : Nat} {W : World} {b n c k j : Nat} {ps : List BP} {z : BP} (h : Own9 B W (.slice (some ⟨b, 0, none⟩) n c) ps) (hz : ps[k]? = some z) (hj : j < 4) : W.cell? ⟨b, k * 4 + j, none⟩ = (encP z)[j]? ∧ W.frozen? ⟨b, k * 4 + j, none⟩ = false := by
  have hlt := (List.getElem?_eq_some_iff.1 hz).1
  obtain rfl := h.num
  refine ⟨?_, h.row.frozenAt _⟩
  rw [h.row.cellAt (k * 4 + j) (by omega)]
  conv => lhs; rw [take_drop_at hz]
  have hA : ((ps.take k).flatMap encP).length = k * 4 := by rw [encs_len, List.length_take, Nat.min_eq_left (by omega)]
  rw [List.flatMap_append, List.getElem?_append_right (by omega), hA, Nat.add_sub_cancel_left, List.flatMap_cons, List.getElem?_append_left (by rw [encP_len]; exact hj)]
/-- A message more at one box. -/
theorem Own9.more {B : Nat} {W W' : World} {b n c k g cap : Nat} {ps : List BP} {z : BP} {m : MsgD} (h : Own9 B W (.slice (some ⟨b, 0, none⟩) n c) ps) (hz : ps[k]? = some z) (hg : W.grownBy W' z.val.ownBlock)
    (ho : W'.ownsRow B 87 3 (.slice (some ⟨g, 0, none⟩) (z.box.msgs.length + 1) cap) (z.box.msgs.length + 1) (z.box.msgs.flatMap msgc ++ msgc m)) (hor : z.val.ownBlock = some g ∨ W.heap.size ≤ g) :
    Own9 B (W'.setCell ⟨b, k * 4 + 3, none⟩ (.slice (some ⟨g, 0, none⟩) (z.box.msgs.length + 1) cap)) (.slice (some ⟨b, 0, none⟩) n c) (ps.set k (z.more m g cap)) ∧ W'.cell? ⟨b, k * 4 + 3, none⟩ = some z.val ∧ W'.frozen? ⟨b, k * 4 + 3, none⟩ = false := by
  have hi := h.ok z (List.mem_of_getElem? hz)
  obtain ⟨_, hf⟩ := msgs_in.1 hi
  have hv : (z.more m g cap).val = .slice (some ⟨g, 0, none⟩) (z.box.msgs.length + 1) cap := by unfold BP.more BP.val; simp
  have := h.msgs (z' := z.more m g cap) hz (by rw [hf]; exact GrownIn.of_row hg) rfl (by
    rw [hv]
    refine msgs_in.2 ⟨?_, rfl⟩
    show W'.ownsRow 0 _ 3 _ (z.box.msgs ++ [m]).length ((z.box.msgs ++ [m]).flatMap msgc)
    rw [List.length_append, List.length_singleton, List.flatMap_append, List.flatMap_cons, List.flatMap_nil, List.append_nil]
    exact own_base ho) (by simp [BP.more]) (fun q hq => by
    have hq2 : q = g := by simpa [BP.more] using hq
    subst hq2
    rw [hf]
    exact hor.imp (fun h0 => by rw [h0]; simp) id)
  rwa [hv] at this

set_option maxRecDepth 20000 in
set_option maxHeartbeats 6400000 in
theorem specApplied_4 (l : List BoxD) (v : Value) (x : ComD) (w : World) (hr : LfRd w (boxsLf l) v) (hcap : CapLe v) (hs : szLf (boxsLf l) ≤ 1048576) (hbd : LfBnd (boxsLf l)) (hs2 : szLs x.lf ≤ 1048576) (hbd2 : LsBnd x.lf) (ha : appB l x = true) (hk : x.kind = 4) :
    Calls Tryz.prog 19 #[v, .agg #[.int .i64 x.kind, .int .i64 x.validity, .int .i64 x.uid, .int .i64 x.flags, sv x.name, sv x.text]] w fun e w' => ApplPost l x w e w' := by
  obtain ⟨hl, _, _, hsl⟩ := boxes_small hs hbd
  obtain ⟨hnl, hvl, hul⟩ := com_fit hs2 hbd2
  have CC := Lib.hid (fun W (g : Below w.heap.size w W) => l9Copies_any l v W (LfRd.below g _ _ hr) hl (box_msgs hsl))
  have CA0 := fun W (g : Below w.heap.size w W) => specApplies_c l v x W trivial (LfRd.below g _ _ hr) hcap hs hbd hs2 hbd2
  rw [ha] at CA0
  have CA := Lib.hid CA0
  have CW := Lib.hid (fun W (g : Below w.heap.size w W) => specBoxWith_c l v x.validity W trivial (LfRd.below g _ _ hr) hs hbd hvl)
  have HL := Lib.hid hl
  have HML := Lib.hid (box_msgs hsl)
  have HSL := Lib.hid hsl
  have HUI := Lib.hid hul
  obtain ⟨p, c, rfl⟩ := LfRd.slice hr
  have hbA : Below w.heap.size w (w.alloc (.cells #[.int .i64 x.kind, .int .i64 x.validity, .int .i64 x.uid, .int .i64 x.flags, sv x.name, sv x.text] 26)) := (Below.refl _ _).alloc (Nat.le_refl _) _
  have hA := heap_alloc_new w (.cells #[.int .i64 x.kind, .int .i64 x.validity, .int .i64 x.uid, .int .i64 x.flags, sv x.name, sv x.text] 26)
  have hz0 : (w.alloc (.cells #[.int .i64 x.kind, .int .i64 x.validity, .int .i64 x.uid, .int .i64 x.flags, sv x.name, sv x.text] 26)).heap.size = w.heap.size + 1 := by simp
  clear hr hcap hs hbd hs2 hbd2 hnl hul hsl CA0
  obtain ⟨W0, hW0⟩ : ∃ W0, w.alloc (.cells #[.int .i64 x.kind, .int .i64 x.validity, .int .i64 x.uid, .int .i64 x.flags, sv x.name, sv x.text] 26) = W0 := ⟨_, rfl⟩
  rw [hW0] at hbA hA hz0
  have HZ := Lib.hid hz0
  have HB := Lib.hid (fun W (g : Below W0.heap.size W0 W) => hbA.trans (g.mono hbA.size))
  have HA := Lib.hid (fun W (g : Below W0.heap.size W0 W) => (g.block w.heap.size (by omega)).trans hA)
  clear hbA hA hz0
  have t1 : (x.kind == 1) = false := by rw [hk]; rfl
  have t2 : (x.kind == 2) = false := by rw [hk]; rfl
  have t3 : (x.kind == 3) = false := by rw [hk]; rfl
  have t4 : (x.kind == 4) = true := by rw [hk]; rfl
  obtain ⟨y, hy, hwk⟩ := app_kinds ha (by omega)
  have HD := Lib.hid (show appliedL l x = l.set (whereB l x.validity) (boxAfter y x) by rw [applied_yes ha, done_4 (by omega) hy])
  have HAP := Lib.hid ha
  have HAF := Lib.hid (show boxAfter y x = { y with msgs := y.msgs ++ [⟨x.uid, x.flags, x.text⟩], next := x.uid + 1 } by unfold boxAfter; rw [if_pos hk])
  obtain ⟨_, hcm, _, _⟩ := app_parts ha
  have huu := ((commit_parts hcm).2.2.2.2 (by omega)).1
  have hwu : IntKind.i64.wrap (x.uid + 1) = x.uid + 1 := IntWalk.i64_in _ (by omega)
  rw [hwk] at CW
  obtain ⟨k, hkk⟩ : ∃ k, whereB l x.validity = k := ⟨_, rfl⟩
  rw [hkk] at CW HD hy
  have HY := Lib.hid hy
  clear ha hk hwk hkk hy hcm huu
  go_enter Tryz.func19, Tryz.ntmps19
  go_wp2_with fail
  refine (CC.out W0 (HB.out _ (Below.refl _ _))).mono ?_
  rintro e w1 ⟨v1, fp, rfl, ht1, g_w1⟩
  obtain ⟨p1, c1, rfl⟩ := LfIn.slice ht1.is
  have HT := Lib.hid ht1
  clear ht1
  have hA_w1 := HA.out w1 g_w1
  have a0 := (Lib.cell_of_heap hA_w1 0).trans (show _ = some (.int .i64 x.kind) from rfl)
  have a1 := (Lib.cell_of_heap hA_w1 1).trans (show _ = some (.int .i64 x.validity) from rfl)
  have a2 := (Lib.cell_of_heap hA_w1 2).trans (show _ = some (.int .i64 x.uid) from rfl)
  have a3 := (Lib.cell_of_heap hA_w1 3).trans (show _ = some (.int .i64 x.flags) from rfl)
  have a4 := (Lib.cell_of_heap hA_w1 4).trans (show _ = some (sv x.name) from rfl)
  have a5 := (Lib.cell_of_heap hA_w1 5).trans (show _ = some (sv x.text) from rfl)
  clear hA_w1
  go_wp2_with fail
  refine (CA.out w1 (HB.out _ g_w1)).mono ?_
  rintro e w2 ⟨rfl, k_w2⟩
  have HT2 := Lib.hid (HT.out.below k_w2)
  have g_w2 := g_w1.trans (k_w2.mono g_w1.size)
  clear k_w2 g_w1 HT a0 a1 a2 a3 a4 a5 CC CA
  have hA_w2 := HA.out w2 g_w2
  have a1 := (Lib.cell_of_heap hA_w2 1).trans (show _ = some (.int .i64 x.validity) from rfl)
  clear hA_w2
  go_wp2_with fail
  refine (CW.out w2 (HB.out _ g_w2)).mono ?_
  rintro e w3 ⟨rfl, k_w3⟩
  have ht3 := HT2.out.below k_w3
  have g_w3 := g_w2.trans (k_w3.mono g_w2.size)
  clear k_w3 g_w2 HT2 a1 CW
  have hA_w3 := HA.out w3 g_w3
  have a0 := (Lib.cell_of_heap hA_w3 0).trans (show _ = some (.int .i64 x.kind) from rfl)
  have a1 := (Lib.cell_of_heap hA_w3 1).trans (show _ = some (.int .i64 x.validity) from rfl)
  have a2 := (Lib.cell_of_heap hA_w3 2).trans (show _ = some (.int .i64 x.uid) from rfl)
  have a3 := (Lib.cell_of_heap hA_w3 3).trans (show _ = some (.int .i64 x.flags) from rfl)
  have a4 := (Lib.cell_of_heap hA_w3 4).trans (show _ = some (sv x.name) from rfl)
  have a5 := (Lib.cell_of_heap hA_w3 5).trans (show _ = some (sv x.text) from rfl)
  clear hA_w3
  obtain ⟨ps, hps, own⟩ := tree_own9 ht3
  have HPS := Lib.hid (show ps.length = l.length by rw [← hps, List.length_map])
  have hzz := HB.out _ g_w3
  have hw0 : w.heap.size ≤ W0.heap.size := by rw [HZ.out]; omega
  have hw3 := g_w3.size
  have HOW := Lib.hid own
  have HBX := Lib.hid hps
  have HG := Lib.hid hzz
  clear own ht3 hps hzz HZ
  obtain ⟨z, hz⟩ : ∃ z, ps[k]? = some z := ⟨_, List.getElem?_eq_getElem (by rw [HPS.out]; exact (List.getElem?_eq_some_iff.1 HY.out).1)⟩
  have hzy : z.box = y := by
    have h1 : (ps.map BP.box)[k]? = some z.box := by rw [List.getElem?_map, hz]; rfl
    rw [HBX.out, HY.out] at h1
    injection h1 with h1
    exact h1.symm
  have HZ2 := Lib.hid hz
  have HZY := Lib.hid hzy
  have hkl : k < l.length := (List.getElem?_eq_some_iff.1 HY.out).1
  obtain ⟨p2, c2, hv2, hc2⟩ := HOW.out.rd.ex
  injection hv2 with hp2 hn2 hm2
  subst hp2
  clear hn2 hm2
  obtain ⟨b, off, rfl, hb3, hcc⟩ := hc2.resolve_left (by intro h; subst h; simp at hz)
  have d0 : w3.cell? ⟨b, off + k * 4, none⟩ = some (sv z.box.name) := hcc k z hz 0 _ rfl
  have d1 : w3.cell? ⟨b, off + k * 4 + 1, none⟩ = some (.int .i64 z.box.validity) := hcc k z hz 1 _ rfl
  have d2 : w3.cell? ⟨b, off + k * 4 + 2, none⟩ = some (.int .i64 z.box.next) := hcc k z hz 2 _ rfl
  have d3 : w3.cell? ⟨b, off + k * 4 + 3, none⟩ = some (.slice z.pt z.box.msgs.length z.cp) := hcc k z hz 3 _ rfl
  clear hcc hz hzy
  obtain rfl := HOW.out.off
  have HYL := Lib.hid (show z.box.msgs.length ≤ 1048576 from HZY.out ▸ HML.out y (List.mem_of_getElem? HY.out))
  have gd := g_w3.drew
  have OD := Lib.hid (HOW.out.below (Below.refl w3.heap.size w3).drew)
  have HGD := Lib.hid HG.out.drew
  have hAD := HA.out _ gd
  have c3 : w3.drew.cell? ⟨b, k * 4 + 3, none⟩ = some (.slice z.pt z.box.msgs.length z.cp) := (OD.out.cell HZ2.out (show 3 < 4 by omega)).1
  have m2 := (Lib.cell_of_heap hAD 2).trans (show _ = some (.int .i64 x.uid) from rfl)
  have m3 := (Lib.cell_of_heap hAD 3).trans (show _ = some (.int .i64 x.flags) from rfl)
  have m5 := (Lib.cell_of_heap hAD 5).trans (show _ = some (sv x.text) from rfl)
  have hwD : w.heap.size < w3.drew.heap.size := (Array.getElem?_eq_some_iff.1 hAD).1
  have hbD : W0.heap.size ≤ b ∧ b < w3.drew.heap.size := OD.out.row.lt b rfl
  have hWD : W0.heap.size ≤ w3.drew.heap.size := gd.size
  have hwW : w.heap.size < W0.heap.size := by have := (HA.out W0 (Below.refl _ _)); exact (Array.getElem?_eq_some_iff.1 this).1
  have HAD := Lib.hid hAD
  have hi := msgs_in.1 (OD.out.ok z (List.mem_of_getElem? HZ2.out))
  have hro := own_rebase (B := W0.heap.size) hi.1 (fun q hq => OD.out.low q (List.mem_flatMap.2 ⟨z, List.mem_of_getElem? HZ2.out, by rw [hi.2, hq]; simp⟩))
  have HRO := Lib.hid hro
  have HYL2 := Lib.hid HYL
  go_wp2_with fail
  clear d0 d1 d2 d3 a0 a1 a2 a3 a4 a5 gd hAD hi hro
  refine ordz_start [(0, true), (1, true), (2, true), (3, true), (4, true), (5, true), (6, true), (7, true), (8, true), (9, true), (10, true), (11, true), (12, true), (13, true), (14, false), (15, false), (16, true), (17, true), (18, false)] 18 (fun W => W.cell? ⟨b, k * 4 + 3, none⟩ = some (.slice z.pt z.box.msgs.length z.cp) ∧ W.cell? ⟨w.heap.size, 2, none⟩ = some (.int .i64 x.uid) ∧ W.cell? ⟨w.heap.size, 3, none⟩ = some (.int .i64 x.flags) ∧ W.cell? ⟨w.heap.size, 5, none⟩ = some (sv x.text)) (by kernel_rfl) (by kernel_rfl) rfl (by kernel_rfl) ?_
  intro ops' hops
  clear hops
  simp only [List.map_cons, List.map_nil, pickOp_zero, pickOp_succ]
  generalize w3.drew = D at *
  iterate 4 (refine ordz_flo ?_ (fun _ _ _ h => h) rfl ?_ ⟨c3, m2, m3, m5⟩ ?_; rotate_left; focus (intro W hS; obtain ⟨s1, s2, s3, s4⟩ := hS; go_simp; rfl))
  refine ordz_flo (.pointer (some ⟨b, k * 4, none⟩)) (fun _ _ _ h => h) rfl ?_ ⟨c3, m2, m3, m5⟩ ?_
  · intro W hS
    go_simp
    try (intro h; omega)
  iterate 9 (refine ordz_flo ?_ (fun _ _ _ h => h) rfl ?_ ⟨c3, m2, m3, m5⟩ ?_; rotate_left; focus (intro W hS; obtain ⟨s1, s2, s3, s4⟩ := hS; go_simp; rfl))
  have hb1 := (Below.refl D.heap.size D).alloc (Nat.le_refl _) (.cells #[.int .i64 x.uid, .int .i64 x.flags, sv x.text] 87)
  have c3a := (hb1.cell (p := ⟨b, k * 4 + 3, none⟩) hbD.2).trans c3
  have m2a := (hb1.cell (p := ⟨w.heap.size, 2, none⟩) hwD).trans m2
  have m3a := (hb1.cell (p := ⟨w.heap.size, 3, none⟩) hwD).trans m3
  have m5a := (hb1.cell (p := ⟨w.heap.size, 5, none⟩) hwD).trans m5
  refine ordz_ev rfl ?_
  go_simp
  clear c3a m2a m3a m5a hb1
  refine ordz_ev rfl ?_
  refine wp_app1 Tryz.el_msg (.tmp 59) (.tmp 67) rfl D D (.slice z.pt z.box.msgs.length z.cp) z.box.msgs.length (z.box.msgs.flatMap msgc) rfl HRO.out (Below.refl _ _) hWD #[.int .i64 x.uid, .int .i64 x.flags, sv x.text] (.inr rfl) 1 1 rfl rfl (by simp [Value.oneCell']) (by omega) (by have := HYL2.out.out; omega) (by have := HYL2.out.out; omega) ?_
  intro gn cap w6 ho6 hb6 hg6 hor6 hlt6
  obtain ⟨hO6, c3n, f3⟩ := OD.out.more (m := ⟨x.uid, x.flags, x.text⟩) HZ2.out hg6 ho6 hor6
  have hA6 := (hg6.block w.heap.size hwD (by intro e; have := (HRO.out.lt w.heap.size e.symm).1; omega)).trans HAD.out
  have m2n := (Lib.cell_of_heap hA6 2).trans (show _ = some (.int .i64 x.uid) from rfl)
  have m3n := (Lib.cell_of_heap hA6 3).trans (show _ = some (.int .i64 x.flags) from rfl)
  have m5n := (Lib.cell_of_heap hA6 5).trans (show _ = some (sv x.text) from rfl)
  have HO6 := Lib.hid hO6
  have HG6 := Lib.hid (HGD.out.trans (hb6.mono hw0))
  have HA6 := Lib.hid hA6
  clear hO6 hb6 hg6 hor6 hlt6 ho6 hA6 c3 m2 m3 m5
  refine ⟨fun _ => ⟨c3n, m2n, m3n, m5n⟩, ?_⟩
  refine ordz_flo (.pointer (some ⟨b, k * 4, none⟩)) (fun _ _ _ h => h) rfl ?_ ⟨c3n, m2n, m3n, m5n⟩ ?_
  · intro W hS
    go_simp
    try (intro h; omega)
  iterate 1 (refine ordz_flo ?_ (fun _ _ _ h => h) rfl ?_ ⟨c3n, m2n, m3n, m5n⟩ ?_; rotate_left; focus (intro W hS; obtain ⟨s1, s2, s3, s4⟩ := hS; go_simp; rfl))
  refine ordz_ev rfl ?_
  go_simp
  refine ordz_done ?_
  go_simp
  obtain ⟨Z, hZZ⟩ : ∃ Z, w6.setCell ⟨b, k * 4 + 3, none⟩ (.slice (some ⟨gn, 0, none⟩) (z.box.msgs.length + 1) cap) = Z := ⟨_, rfl⟩
  have hO7 := HO6.out
  rw [hZZ] at hO7
  have hwb : w.heap.size ≤ b := by omega
  have gZ := HG6.out.setCell (p := ⟨b, k * 4 + 3, none⟩) hwb (.slice (some ⟨gn, 0, none⟩) (z.box.msgs.length + 1) cap)
  rw [hZZ] at gZ
  have m2Z : Z.cell? ⟨w.heap.size, 2, none⟩ = some (.int .i64 x.uid) := by
    rw [← hZZ]
    exact (Lib.cell_of_heap ((set_other (show w.heap.size ≠ b by omega)).trans HA6.out) 2).trans rfl
  have hz6 : (ps.set k (z.more ⟨x.uid, x.flags, x.text⟩ gn cap))[k]? = some (z.more ⟨x.uid, x.flags, x.text⟩ gn cap) := List.getElem?_set_self (List.getElem?_eq_some_iff.1 HZ2.out).1
  have q2 : Z.cell? ⟨b, k * 4 + 2, none⟩ = some (.int .i64 z.box.next) := (hO7.cell hz6 (show 2 < 4 by omega)).1
  have f2 := (hO7.cell hz6 (show 2 < 4 by omega)).2
  have HF := Lib.hid (Own9.plain hO7 hz6 (j := 2) (u := .int .i64 (x.uid + 1)) (z' := (z.more ⟨x.uid, x.flags, x.text⟩ gn cap).nextd (x.uid + 1)) (by omega) rfl rfl rfl rfl)
  have HGF := Lib.hid (gZ.setCell (p := ⟨b, k * 4 + 2, none⟩) hwb (.int .i64 (x.uid + 1)))
  have HM := Lib.hid (show ((ps.set k (z.more ⟨x.uid, x.flags, x.text⟩ gn cap)).set k ((z.more ⟨x.uid, x.flags, x.text⟩ gn cap).nextd (x.uid + 1))).map BP.box = l.set k (boxAfter y x) by rw [List.set_set, List.map_set, HBX.out, HAF.out, ← HZY.out]; rfl)
  clear hO7 gZ hz6 c3n m2n m3n m5n f3 hbD hwD hWD
  go_wp2
  go_ret2
  have ht := HF.out.tree
  rw [HM.out] at ht
  exact appl_post HAP.out HD.out (tree_lower ht hw0) HGF.out

end Go.Proofs.YtbfgdbpfecffcaaGreatDoor

namespace Go.Proofs.YtbfgdbpfecffcaaGreatDoor
open Go.RowKit

theorem msgcs_len : ∀ l : List MsgD, (l.flatMap msgc).length = l.length * 3
  | [] => rfl
  | m :: l => by rw [List.flatMap_cons, List.length_append, msgcs_len l, List.length_cons]; show 3 + _ = _; omega
theorem msgs_cell {B : Nat} {W : World} {g c a j : Nat} {l : List MsgD} {q : MsgD} (h : W.ownsRow B 87 3 (.slice (some ⟨g, 0, none⟩) l.length c) l.length (l.flatMap msgc)) (hq : l[a]? = some q) (hj : j < 3) : W.cell? ⟨g, a * 3 + j, none⟩ = (msgc q)[j]? ∧ W.frozen? ⟨g, a * 3 + j, none⟩ = false := by
  have hlt := (List.getElem?_eq_some_iff.1 hq).1
  refine ⟨?_, h.frozenAt _⟩
  rw [h.cellAt (a * 3 + j) (by omega)]
  conv => lhs; rw [take_drop_at hq]
  have hA : ((l.take a).flatMap msgc).length = a * 3 := by rw [msgcs_len, List.length_take, Nat.min_eq_left (by omega)]
  rw [List.flatMap_append, List.getElem?_append_right (by omega), hA, Nat.add_sub_cancel_left, List.flatMap_cons, List.getElem?_append_left (by show j < 3; exact hj)]
theorem msgs_set {l : List MsgD} {a j : Nat} {q q' : MsgD} {u : Value} (hq : l[a]? = some q) (hj : j < 3) (he : msgc q' = (msgc q).set j u) : (l.set a q').flatMap msgc = (l.flatMap msgc).set (a * 3 + j) u := by
  have hlt := (List.getElem?_eq_some_iff.1 hq).1
  have hA : ((l.take a).flatMap msgc).length = a * 3 := by rw [msgcs_len, List.length_take, Nat.min_eq_left (by omega)]
  rw [set_at hlt]
  conv => rhs; rw [take_drop_at hq]
  rw [List.flatMap_append, List.flatMap_append, List.flatMap_cons, List.flatMap_cons, he, ← List.append_assoc, ← List.append_assoc, set_mid9 hA (by show j < 3; exact hj)]
def BP.flagd (z : BP) (a : Nat) (q : MsgD) : BP := { z with box := { z.box with msgs := z.box.msgs.set a q } }
/-- One message of one box has other flags. -/
theorem Own9.flag {B : Nat} {W : World} {v : Value} {k a g : Nat} {ps : List BP} {z : BP} {q : MsgD} {f : Int} (h : Own9 B W v ps) (hz : ps[k]? = some z) (hq : z.box.msgs[a]? = some q) (hpt : z.pt = some ⟨g, 0, none⟩) :
    Own9 B (W.setCell ⟨g, a * 3 + 1, none⟩ (.int .i64 f)) v (ps.set k (z.flagd a { q with flags := f })) := by
  obtain ⟨h1, h2⟩ := h.fps
  have hp := erase_fps hz
  obtain ⟨d1, d2, d3⟩ := nd_parts (hp.nodup_iff.1 h1)
  have hsp := set_fps (z' := z.flagd a { q with flags := f }) hz
  have hi := h.ok z (List.mem_of_getElem? hz)
  obtain ⟨hro, hf⟩ := msgs_in.1 hi
  have hv : z.val = .slice (some ⟨g, 0, none⟩) z.box.msgs.length z.cp := by unfold BP.val; rw [hpt]
  rw [hv] at hro hf
  have hgz : z.fp = [g] := hf
  have hpp : ((ps.set k (z.flagd a { q with flags := f })).flatMap BP.fp).Perm (ps.flatMap BP.fp) := hsp.trans hp.symm
  have hnd := h.nd
  have hvg : ∀ b, v.ownBlock = some b → b ≠ g := fun b hb e => by
    have := (nd_parts hnd).1 b (by rw [hb]; simp)
    exact this (hp.mem_iff.2 (by rw [hgz, e]; simp))
  have he : (ps.set k (z.flagd a { q with flags := f })).flatMap encP = ps.flatMap encP := by
    have hlt := (List.getElem?_eq_some_iff.1 hz).1
    rw [set_at hlt]
    conv => rhs; rw [take_drop_at hz]
    rw [List.flatMap_append, List.flatMap_append, List.flatMap_cons, List.flatMap_cons]
    have : encP (z.flagd a { q with flags := f }) = encP z := by unfold encP BP.val BP.flagd; simp
    rw [this]
  refine ⟨by rw [List.length_set, he]; exact own_put2 h.row hvg, fun p hpm => ?_, ?_, fun b hb => (h2 b (hpp.mem_iff.1 hb)).1⟩
  · rcases set_mem hpm with rfl | hpm
    · have hst := (hro.stored (a * 3 + 1) (.int .i64 f)).1
      rw [← msgs_set hq (by omega) (show msgc { q with flags := f } = (msgc q).set 1 (.int .i64 f) from rfl)] at hst
      refine msgs_in.2 ⟨?_, ?_⟩
      · show (W.setCell _ _).ownsRow 0 _ 3 (.slice z.pt (z.box.msgs.set a { q with flags := f }).length z.cp) (z.box.msgs.set a { q with flags := f }).length _
        rw [List.length_set, hpt]
        exact hst
      · show z.fp = _
        rw [hgz]
        show _ = (Value.slice z.pt _ z.cp).ownBlock.toList
        rw [hpt]
        rfl
    · exact LfIn.set (h.ok p (erase_mem hpm)) (fun hm => d1 g (by rw [hgz]; simp) (List.mem_flatMap.2 ⟨p, hpm, hm⟩))
  · refine List.nodup_append.2 ⟨(nd_parts hnd).2.1, hpp.nodup_iff.2 h1, fun b hb c hc e => ?_⟩
    subst e
    exact (nd_parts hnd).1 b hb (hpp.mem_iff.1 hc)

set_option maxRecDepth 20000 in
set_option maxHeartbeats 6400000 in
theorem specApplied_5 (l : List BoxD) (v : Value) (x : ComD) (w : World) (hr : LfRd w (boxsLf l) v) (hcap : CapLe v) (hs : szLf (boxsLf l) ≤ 1048576) (hbd : LfBnd (boxsLf l)) (hs2 : szLs x.lf ≤ 1048576) (hbd2 : LsBnd x.lf) (ha : appB l x = true) (hk : x.kind = 5) :
    Calls Tryz.prog 19 #[v, .agg #[.int .i64 x.kind, .int .i64 x.validity, .int .i64 x.uid, .int .i64 x.flags, sv x.name, sv x.text]] w fun e w' => ApplPost l x w e w' := by
  obtain ⟨hl, _, _, hsl⟩ := boxes_small hs hbd
  obtain ⟨hnl, hvl, hul⟩ := com_fit hs2 hbd2
  have CC := Lib.hid (fun W (g : Below w.heap.size w W) => l9Copies_any l v W (LfRd.below g _ _ hr) hl (box_msgs hsl))
  have CA0 := fun W (g : Below w.heap.size w W) => specApplies_c l v x W trivial (LfRd.below g _ _ hr) hcap hs hbd hs2 hbd2
  rw [ha] at CA0
  have CA := Lib.hid CA0
  have CW := Lib.hid (fun W (g : Below w.heap.size w W) => specBoxWith_c l v x.validity W trivial (LfRd.below g _ _ hr) hs hbd hvl)
  have HL := Lib.hid hl
  have HML := Lib.hid (box_msgs hsl)
  have HSL := Lib.hid hsl
  have HUI := Lib.hid hul
  obtain ⟨p, c, rfl⟩ := LfRd.slice hr
  have hbA : Below w.heap.size w (w.alloc (.cells #[.int .i64 x.kind, .int .i64 x.validity, .int .i64 x.uid, .int .i64 x.flags, sv x.name, sv x.text] 26)) := (Below.refl _ _).alloc (Nat.le_refl _) _
  have hA := heap_alloc_new w (.cells #[.int .i64 x.kind, .int .i64 x.validity, .int .i64 x.uid, .int .i64 x.flags, sv x.name, sv x.text] 26)
  have hz0 : (w.alloc (.cells #[.int .i64 x.kind, .int .i64 x.validity, .int .i64 x.uid, .int .i64 x.flags, sv x.name, sv x.text] 26)).heap.size = w.heap.size + 1 := by simp
  clear hr hcap hs hbd hs2 hbd2 hnl hul hsl CA0
  obtain ⟨W0, hW0⟩ : ∃ W0, w.alloc (.cells #[.int .i64 x.kind, .int .i64 x.validity, .int .i64 x.uid, .int .i64 x.flags, sv x.name, sv x.text] 26) = W0 := ⟨_, rfl⟩
  rw [hW0] at hbA hA hz0
  have HZ := Lib.hid hz0
  have HB := Lib.hid (fun W (g : Below W0.heap.size W0 W) => hbA.trans (g.mono hbA.size))
  have HA := Lib.hid (fun W (g : Below W0.heap.size W0 W) => (g.block w.heap.size (by omega)).trans hA)
  clear hbA hA hz0
  have t1 : (x.kind == 1) = false := by rw [hk]; rfl
  have t2 : (x.kind == 2) = false := by rw [hk]; rfl
  have t3 : (x.kind == 3) = false := by rw [hk]; rfl
  have t4 : (x.kind == 4) = false := by rw [hk]; rfl
  have t5 : (x.kind == 5) = true := by rw [hk]; rfl
  obtain ⟨y, hy, hwk⟩ := app_kinds ha (by omega)
  have HD := Lib.hid (show appliedL l x = l.set (whereB l x.validity) (boxAfter y x) by rw [applied_yes ha, done_4 (by omega) hy])
  have HAP := Lib.hid ha
  obtain ⟨_, hcm, _, hap⟩ := app_parts ha
  obtain ⟨q, hq, _⟩ := place_at (show 0 ≤ bxPlace y x.uid by
    obtain ⟨y2, hy2, _, _, _, h0⟩ := hap (by omega)
    rw [hy] at hy2
    injection hy2 with hy2
    rw [hy2]
    exact h0 (by omega))
  have hap0 : 0 ≤ bxPlace y x.uid := by
    obtain ⟨y2, hy2, _, _, _, h0⟩ := hap (by omega)
    rw [hy] at hy2
    injection hy2 with hy2
    rw [hy2]
    exact h0 (by omega)
  obtain ⟨a, hpa⟩ : ∃ a, (bxPlace y x.uid).toNat = a := ⟨_, rfl⟩
  have HPE := Lib.hid (show bxPlace y x.uid = (a : Int) by omega)
  rw [hpa] at hq
  have HQ := Lib.hid hq
  have HAF := Lib.hid (show boxAfter y x = { y with msgs := y.msgs.set a { q with flags := x.flags } } by unfold boxAfter; rw [if_neg (by omega), hpa, hq]; simp only [if_pos hk])
  rw [hwk] at CW
  obtain ⟨k, hkk⟩ : ∃ k, whereB l x.validity = k := ⟨_, rfl⟩
  rw [hkk] at CW HD hy
  have HY := Lib.hid hy
  clear ha hk hwk hkk hy hcm hap hq hpa hap0
  go_enter Tryz.func19, Tryz.ntmps19
  go_wp2_with fail
  refine (CC.out W0 (HB.out _ (Below.refl _ _))).mono ?_
  rintro e w1 ⟨v1, fp, rfl, ht1, g_w1⟩
  obtain ⟨p1, c1, rfl⟩ := LfIn.slice ht1.is
  have HT := Lib.hid ht1
  clear ht1
  have hA_w1 := HA.out w1 g_w1
  have a0 := (Lib.cell_of_heap hA_w1 0).trans (show _ = some (.int .i64 x.kind) from rfl)
  have a1 := (Lib.cell_of_heap hA_w1 1).trans (show _ = some (.int .i64 x.validity) from rfl)
  have a2 := (Lib.cell_of_heap hA_w1 2).trans (show _ = some (.int .i64 x.uid) from rfl)
  have a3 := (Lib.cell_of_heap hA_w1 3).trans (show _ = some (.int .i64 x.flags) from rfl)
  have a4 := (Lib.cell_of_heap hA_w1 4).trans (show _ = some (sv x.name) from rfl)
  have a5 := (Lib.cell_of_heap hA_w1 5).trans (show _ = some (sv x.text) from rfl)
  clear hA_w1
  go_wp2_with fail
  refine (CA.out w1 (HB.out _ g_w1)).mono ?_
  rintro e w2 ⟨rfl, k_w2⟩
  have HT2 := Lib.hid (HT.out.below k_w2)
  have g_w2 := g_w1.trans (k_w2.mono g_w1.size)
  clear k_w2 g_w1 HT a0 a1 a2 a3 a4 a5 CC CA
  have hA_w2 := HA.out w2 g_w2
  have a1 := (Lib.cell_of_heap hA_w2 1).trans (show _ = some (.int .i64 x.validity) from rfl)
  clear hA_w2
  go_wp2_with fail
  refine (CW.out w2 (HB.out _ g_w2)).mono ?_
  rintro e w3 ⟨rfl, k_w3⟩
  have ht3 := HT2.out.below k_w3
  have g_w3 := g_w2.trans (k_w3.mono g_w2.size)
  clear k_w3 g_w2 HT2 a1 CW
  have hA_w3 := HA.out w3 g_w3
  have a0 := (Lib.cell_of_heap hA_w3 0).trans (show _ = some (.int .i64 x.kind) from rfl)
  have a1 := (Lib.cell_of_heap hA_w3 1).trans (show _ = some (.int .i64 x.validity) from rfl)
  have a2 := (Lib.cell_of_heap hA_w3 2).trans (show _ = some (.int .i64 x.uid) from rfl)
  have a3 := (Lib.cell_of_heap hA_w3 3).trans (show _ = some (.int .i64 x.flags) from rfl)
  have a4 := (Lib.cell_of_heap hA_w3 4).trans (show _ = some (sv x.name) from rfl)
  have a5 := (Lib.cell_of_heap hA_w3 5).trans (show _ = some (sv x.text) from rfl)
  clear hA_w3
  obtain ⟨ps, hps, own⟩ := tree_own9 ht3
  have HPS := Lib.hid (show ps.length = l.length by rw [← hps, List.length_map])
  have hzz := HB.out _ g_w3
  have hw0 : w.heap.size ≤ W0.heap.size := by rw [HZ.out]; omega
  have hw3 := g_w3.size
  have HOW := Lib.hid own
  have HBX := Lib.hid hps
  have HG := Lib.hid hzz
  clear own ht3 hps hzz HZ
  obtain ⟨z, hz⟩ : ∃ z, ps[k]? = some z := ⟨_, List.getElem?_eq_getElem (by rw [HPS.out]; exact (List.getElem?_eq_some_iff.1 HY.out).1)⟩
  have hzy : z.box = y := by
    have h1 : (ps.map BP.box)[k]? = some z.box := by rw [List.getElem?_map, hz]; rfl
    rw [HBX.out, HY.out] at h1
    injection h1 with h1
    exact h1.symm
  have HZ2 := Lib.hid hz
  have HZY := Lib.hid hzy
  have hkl : k < l.length := (List.getElem?_eq_some_iff.1 HY.out).1
  obtain ⟨p2, c2, hv2, hc2⟩ := HOW.out.rd.ex
  injection hv2 with hp2 hn2 hm2
  subst hp2
  clear hn2 hm2
  obtain ⟨b, off, rfl, hb3, hcc⟩ := hc2.resolve_left (by intro h; subst h; simp at hz)
  have d0 : w3.cell? ⟨b, off + k * 4, none⟩ = some (sv z.box.name) := hcc k z hz 0 _ rfl
  have d1 : w3.cell? ⟨b, off + k * 4 + 1, none⟩ = some (.int .i64 z.box.validity) := hcc k z hz 1 _ rfl
  have d2 : w3.cell? ⟨b, off + k * 4 + 2, none⟩ = some (.int .i64 z.box.next) := hcc k z hz 2 _ rfl
  have d3 : w3.cell? ⟨b, off + k * 4 + 3, none⟩ = some (.slice z.pt z.box.msgs.length z.cp) := hcc k z hz 3 _ rfl
  clear hcc hz hzy
  obtain rfl := HOW.out.off
  have hzl := List.mem_of_getElem? HY.out
  rw [← HZY.out] at hzl
  have hsz := HSL.out _ hzl
  have HYL := Lib.hid (HML.out _ hzl)
  have HQZ := Lib.hid (show z.box.msgs[a]? = some q by rw [HZY.out]; exact HQ.out)
  have gd := g_w3.drew
  have OD := Lib.hid (HOW.out.below (Below.refl w3.heap.size w3).drew)
  have HGD := Lib.hid HG.out.drew
  have hOk := LfIn.rd _ _ _ (OD.out.ok z (List.mem_of_getElem? HZ2.out))
  have cp0 := fun W (g : Below w3.drew.heap.size w3.drew W) => specPlaceOf_c z.box (.slice z.pt z.box.msgs.length z.cp) x.uid W trivial (LfRd.below g _ _ hOk) hsz.1 hsz.2 HUI.out
  rw [show bxPlace z.box x.uid = (a : Int) by rw [HZY.out]; exact HPE.out] at cp0
  have CP := Lib.hid cp0
  have HADr := Lib.hid (HA.out _ gd)
  have e0 : w3.drew.cell? ⟨b, k * 4, none⟩ = some (sv z.box.name) := (OD.out.cell HZ2.out (show 0 < 4 by omega)).1
  have e1 : w3.drew.cell? ⟨b, k * 4 + 1, none⟩ = some (.int .i64 z.box.validity) := (OD.out.cell HZ2.out (show 1 < 4 by omega)).1
  have e2 : w3.drew.cell? ⟨b, k * 4 + 2, none⟩ = some (.int .i64 z.box.next) := (OD.out.cell HZ2.out (show 2 < 4 by omega)).1
  have e3 : w3.drew.cell? ⟨b, k * 4 + 3, none⟩ = some (.slice z.pt z.box.msgs.length z.cp) := (OD.out.cell HZ2.out (show 3 < 4 by omega)).1
  have m2 := (Lib.cell_of_heap HADr.out 2).trans (show _ = some (.int .i64 x.uid) from rfl)
  have hwD : w.heap.size < w3.drew.heap.size := (Array.getElem?_eq_some_iff.1 HADr.out).1
  have hbD : W0.heap.size ≤ b ∧ b < w3.drew.heap.size := OD.out.row.lt b rfl
  have hwW : w.heap.size < W0.heap.size := by have := (HA.out W0 (Below.refl _ _)); exact (Array.getElem?_eq_some_iff.1 this).1
  have HGW := Lib.hid gd
  clear hsz hzl hOk cp0 gd d0 d1 d2 d3
  go_wp2_with fail
  clear a0 a1 a2 a3 a4 a5
  refine ord_start [(0, true), (1, true), (2, true), (3, true), (4, true), (5, true), (6, false), (7, true)] (fun W => W.cell? ⟨b, k * 4, none⟩ = some (sv z.box.name) ∧ W.cell? ⟨b, k * 4 + 1, none⟩ = some (.int .i64 z.box.validity) ∧ W.cell? ⟨b, k * 4 + 2, none⟩ = some (.int .i64 z.box.next) ∧ W.cell? ⟨b, k * 4 + 3, none⟩ = some (.slice z.pt z.box.msgs.length z.cp) ∧ W.cell? ⟨w.heap.size, 2, none⟩ = some (.int .i64 x.uid)) (by kernel_rfl) (by kernel_rfl) rfl (by kernel_rfl) ?_
  intro ops' hops
  clear hops
  simp only [List.map_cons, List.map_nil, pickOp_zero, pickOp_succ]
  iterate 2 (refine ord_flo ?_ (fun _ _ _ h => h) rfl ?_ ⟨e0, e1, e2, e3, m2⟩ ?_; rotate_left; focus (intro W hS; obtain ⟨s1, s2, s3, s4, s5⟩ := hS; go_simp; rfl))
  refine ord_flo (.pointer (some ⟨b, k * 4, none⟩)) (fun _ _ _ h => h) rfl ?_ ⟨e0, e1, e2, e3, m2⟩ ?_
  · intro W hS
    obtain ⟨s1, s2, s3, s4, s5⟩ := hS
    go_simp; try (intro h; omega)
  iterate 3 (refine ord_flo ?_ (fun _ _ _ h => h) rfl ?_ ⟨e0, e1, e2, e3, m2⟩ ?_; rotate_left; focus (intro W hS; obtain ⟨s1, s2, s3, s4, s5⟩ := hS; go_simp; rfl))
  refine ord_ev rfl ?_
  go_simp
  refine (CP.out _ (Below.refl _ _)).mono ?_
  rintro e w4 ⟨rfl, k4⟩
  replace e0 := (k4.cell (p := ⟨b, k * 4, none⟩) hbD.2).trans e0
  replace e1 := (k4.cell (p := ⟨b, k * 4 + 1, none⟩) hbD.2).trans e1
  replace e2 := (k4.cell (p := ⟨b, k * 4 + 2, none⟩) hbD.2).trans e2
  replace e3 := (k4.cell (p := ⟨b, k * 4 + 3, none⟩) hbD.2).trans e3
  replace m2 := (k4.cell (p := ⟨w.heap.size, 2, none⟩) hwD).trans m2
  refine ⟨⟨e0, e1, e2, e3, m2⟩, ?_⟩
  iterate 1 (refine ord_flo ?_ (fun _ _ _ h => h) rfl ?_ ⟨e0, e1, e2, e3, m2⟩ ?_; rotate_left; focus (intro W hS; obtain ⟨s1, s2, s3, s4, s5⟩ := hS; go_simp; rfl))
  refine ord_done ?_
  go_simp
  have g4 := HGW.out.trans (k4.mono HGW.out.size)
  have O4 := Lib.hid (OD.out.below k4)
  have HG4 := Lib.hid (HGD.out.trans (k4.mono (Nat.le_trans hw0 HGW.out.size)))
  have a0 := (Lib.cell_of_heap (HA.out _ g4) 0).trans (show _ = some (.int .i64 x.kind) from rfl)
  have HG4w := Lib.hid g4
  clear e0 e1 e2 e3 m2 k4 g4 hwD hbD OD CP HGD HADr HGW
  go_wp2_with fail
  clear a0
  have hAd := HA.out _ HG4w.out.drew
  have OD5 := Lib.hid (O4.out.below (Below.refl w4.heap.size w4).drew)
  have HGZ := Lib.hid HG4.out.drew
  have hi := msgs_in.1 (OD5.out.ok z (List.mem_of_getElem? HZ2.out))
  have hal := (List.getElem?_eq_some_iff.1 HQZ.out).1
  obtain ⟨g, hpt⟩ : ∃ g, z.pt = some ⟨g, 0, none⟩ := by
    rcases hi.1.2 with ⟨_, h0⟩ | ⟨g, _, _, h0, _⟩
    · omega
    · injection h0 with h0
      exact ⟨g, h0⟩
  have hro : w4.drew.ownsRow 0 87 3 (.slice (some ⟨g, 0, none⟩) z.box.msgs.length z.cp) z.box.msgs.length (z.box.msgs.flatMap msgc) := by
    have := hi.1
    unfold BP.val at this
    rwa [hpt] at this
  have c3 : w4.drew.cell? ⟨b, k * 4 + 3, none⟩ = some (.slice (some ⟨g, 0, none⟩) z.box.msgs.length z.cp) := (OD5.out.cell HZ2.out (show 3 < 4 by omega)).1.trans (by show some (Value.slice z.pt _ _) = _; rw [hpt])
  have f3 : w4.drew.frozen? ⟨b, k * 4 + 3, none⟩ = false := (OD5.out.cell HZ2.out (show 3 < 4 by omega)).2
  have hgl : W0.heap.size ≤ g := OD5.out.low g (List.mem_flatMap.2 ⟨z, List.mem_of_getElem? HZ2.out, by rw [hi.2]; show g ∈ (Value.slice z.pt _ _).ownBlock.toList; rw [hpt]; simp [Value.ownBlock]⟩)
  have cq : w4.drew.cell? ⟨g, a * 3 + 1, none⟩ = some (.int .i64 q.flags) := (msgs_cell hro HQZ.out (show 1 < 3 by omega)).1
  have fq := (msgs_cell hro HQZ.out (show 1 < 3 by omega)).2
  have m3 := (Lib.cell_of_heap hAd 3).trans (show _ = some (.int .i64 x.flags) from rfl)
  have HF := Lib.hid (OD5.out.flag HZ2.out HQZ.out hpt (f := x.flags))
  have HGF := Lib.hid (HGZ.out.setCell (p := ⟨g, a * 3 + 1, none⟩) (Nat.le_trans hw0 hgl) (.int .i64 x.flags))
  have HM := Lib.hid (show (ps.set k (z.flagd a { q with flags := x.flags })).map BP.box = l.set k (boxAfter y x) by rw [List.map_set, HBX.out, HAF.out, ← HZY.out]; rfl)
  clear hi hro hpt hAd f3
  refine ordz_start [(0, true), (1, true), (2, true), (3, true), (4, true), (5, true), (6, true), (7, true), (8, true), (9, true), (10, false)] 10 (fun W => W.cell? ⟨b, k * 4 + 3, none⟩ = some (.slice (some ⟨g, 0, none⟩) z.box.msgs.length z.cp) ∧ W.cell? ⟨w.heap.size, 3, none⟩ = some (.int .i64 x.flags)) (by kernel_rfl) (by kernel_rfl) rfl (by kernel_rfl) ?_
  intro ops' hops
  clear hops
  simp only [List.map_cons, List.map_nil, pickOp_zero, pickOp_succ]
  generalize w4.drew = D at *
  iterate 2 (refine ordz_flo ?_ (fun _ _ _ h => h) rfl ?_ ⟨c3, m3⟩ ?_; rotate_left; focus (intro W hS; obtain ⟨s1, s2⟩ := hS; go_simp; rfl))
  refine ordz_flo (.pointer (some ⟨b, k * 4, none⟩)) (fun _ _ _ h => h) rfl ?_ ⟨c3, m3⟩ ?_
  · intro W hS
    go_simp
    try (intro h; omega)
  iterate 5 (refine ordz_flo ?_ (fun _ _ _ h => h) rfl ?_ ⟨c3, m3⟩ ?_; rotate_left; focus (intro W hS; obtain ⟨s1, s2⟩ := hS; go_simp; rfl))
  refine ordz_flo (.pointer (some ⟨g, a * 3, none⟩)) (fun _ _ _ h => h) rfl ?_ ⟨c3, m3⟩ ?_
  · intro W hS
    go_simp
    try (intro h; omega)
  iterate 1 (refine ordz_flo ?_ (fun _ _ _ h => h) rfl ?_ ⟨c3, m3⟩ ?_; rotate_left; focus (intro W hS; obtain ⟨s1, s2⟩ := hS; go_simp; rfl))
  refine ordz_ev rfl ?_
  go_simp
  refine ordz_done ?_
  go_simp
  clear c3 m3 cq fq
  go_wp2
  go_ret2
  have ht := HF.out.tree
  rw [HM.out] at ht
  exact appl_post HAP.out HD.out (tree_lower ht hw0) HGF.out

end Go.Proofs.YtbfgdbpfecffcaaGreatDoor
