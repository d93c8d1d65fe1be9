/-
  Sr: ComO ComP ComQ (what the claim needs of them).
-/
import Derived.Deep.DeepCutAuto
import Derived.Handy
import Derived.Test.YtbfgdbpfecffcaaGreatDoorRows
import Derived.WalkKit
import Derived.WalkSpells
import Derived.WalkLawsBesides
import Derived.Laws.IdiomStrings
import Derived.Lib.Hide
import Derived.Deep.AppendLies
import Derived.OrdersHeld
import Derived.Lib.ItoaNum
import Derived.Lib.ItoaMem
import Derived.Lib.AppendStr
import Derived.Lib.ItoaLen
import Derived.Lib.Strings
import Derived.Lib.Bytealg
import Derived.Lib.OthersKept
import Derived.Laws.RangeAny
import Derived.Laws.BitsAllLaws
import Derived.Laws.BitsLemmas
import Derived.IntWalk
import Derived.Lib.Join
import Derived.Deep.Strs
import Derived.Test.YtbfgdbpfecffcaaGreatDoorProg
import Derived.Laws.Tables
import Derived.Test.YtbfgdbpfecffcaaGreatDoorSb
import Derived.Test.YtbfgdbpfecffcaaGreatDoorSc
import Derived.Test.YtbfgdbpfecffcaaGreatDoorSd
import Derived.Test.YtbfgdbpfecffcaaGreatDoorSe
import Derived.Test.YtbfgdbpfecffcaaGreatDoorSf
import Derived.Test.YtbfgdbpfecffcaaGreatDoorSg
import Derived.Test.YtbfgdbpfecffcaaGreatDoorSh
import Derived.Test.YtbfgdbpfecffcaaGreatDoorSk
import Derived.Test.YtbfgdbpfecffcaaGreatDoorSl
import Derived.Test.YtbfgdbpfecffcaaGreatDoorSm
import Derived.Test.YtbfgdbpfecffcaaGreatDoorSo
import Derived.Test.YtbfgdbpfecffcaaGreatDoorSp
import Derived.Test.YtbfgdbpfecffcaaGreatDoorSq

namespace Go.Proofs.YtbfgdbpfecffcaaGreatDoor
open Go.RowKit

def BP.less (z : BP) (a : Nat) (p : Option Addr) (c : Nat) : BP := ⟨{ z.box with msgs := z.box.msgs.eraseIdx a }, p, c, (BP.val ⟨{ z.box with msgs := z.box.msgs.eraseIdx a }, p, c, []⟩).ownBlock.toList⟩
/-- One message of one box left out. -/
theorem Own9.less {B : Nat} {W W' : World} {b n c k a n2 c2 : Nat} {p2 : Option Addr} {ps : List BP} {z : BP} (h : Own9 B W (.slice (some ⟨b, 0, none⟩) n c) ps) (hz : ps[k]? = some z) (hb : Below W.heap.size W W') (hn2 : (z.box.msgs.eraseIdx a).length = n2)
    (ho : W'.ownsRow W.heap.size 87 3 (.slice p2 n2 c2) n2 ((z.box.msgs.eraseIdx a).flatMap msgc)) :
    Own9 B (W'.setCell ⟨b, k * 4 + 3, none⟩ (.slice p2 n2 c2)) (.slice (some ⟨b, 0, none⟩) n c) (ps.set k (z.less a p2 c2)) ∧ W'.frozen? ⟨b, k * 4 + 3, none⟩ = false := by
  obtain ⟨_, hf⟩ := msgs_in.1 (h.ok z (List.mem_of_getElem? hz))
  subst hn2
  have := h.msgs (z' := z.less a p2 c2) hz (by rw [hf]; exact GrownIn.of_row (grown_of_below hb)) rfl (msgs_in.2 ⟨own_base ho, rfl⟩) (by
    show (Value.ownBlock _).toList.Nodup
    cases Value.ownBlock _ <;> simp) (fun q hq => .inr (ho.lt q (by simpa [BP.less] using hq)).1)
  exact ⟨this.1, this.2.2⟩

set_option maxRecDepth 20000 in
set_option maxHeartbeats 6400000 in
theorem specApplied_6 (l : List BoxD) (v : Value) (x : ComD) (w : World) (hr : LfRd w (boxsLf l) v) (hcap : CapLe v) (hs : szLf (boxsLf l) ≤ 1048576) (hbd : LfBnd (boxsLf l)) (hs2 : szLs x.lf ≤ 1048576) (hbd2 : LsBnd x.lf) (ha : appB l x = true) (hk : x.kind = 6) :
    Calls Tryz.prog 19 #[v, .agg #[.int .i64 x.kind, .int .i64 x.validity, .int .i64 x.uid, .int .i64 x.flags, sv x.name, sv x.text]] w fun e w' => ApplPost l x w e w' := by
  obtain ⟨hl, _, _, hsl⟩ := boxes_small hs hbd
  obtain ⟨hnl, hvl, hul⟩ := com_fit hs2 hbd2
  have CC := Lib.hid (fun W (g : Below w.heap.size w W) => l9Copies_any l v W (LfRd.below g _ _ hr) hl (box_msgs hsl))
  have CA0 := fun W (g : Below w.heap.size w W) => specApplies_c l v x W trivial (LfRd.below g _ _ hr) hcap hs hbd hs2 hbd2
  rw [ha] at CA0
  have CA := Lib.hid CA0
  have CW := Lib.hid (fun W (g : Below w.heap.size w W) => specBoxWith_c l v x.validity W trivial (LfRd.below g _ _ hr) hs hbd hvl)
  have HL := Lib.hid hl
  have HML := Lib.hid (box_msgs hsl)
  have HSL := Lib.hid hsl
  have HUI := Lib.hid hul
  obtain ⟨p, c, rfl⟩ := LfRd.slice hr
  have hbA : Below w.heap.size w (w.alloc (.cells #[.int .i64 x.kind, .int .i64 x.validity, .int .i64 x.uid, .int .i64 x.flags, sv x.name, sv x.text] 26)) := (Below.refl _ _).alloc (Nat.le_refl _) _
  have hA := heap_alloc_new w (.cells #[.int .i64 x.kind, .int .i64 x.validity, .int .i64 x.uid, .int .i64 x.flags, sv x.name, sv x.text] 26)
  have hz0 : (w.alloc (.cells #[.int .i64 x.kind, .int .i64 x.validity, .int .i64 x.uid, .int .i64 x.flags, sv x.name, sv x.text] 26)).heap.size = w.heap.size + 1 := by simp
  clear hr hcap hs hbd hs2 hbd2 hnl hul hsl CA0
  obtain ⟨W0, hW0⟩ : ∃ W0, w.alloc (.cells #[.int .i64 x.kind, .int .i64 x.validity, .int .i64 x.uid, .int .i64 x.flags, sv x.name, sv x.text] 26) = W0 := ⟨_, rfl⟩
  rw [hW0] at hbA hA hz0
  have HZ := Lib.hid hz0
  have HB := Lib.hid (fun W (g : Below W0.heap.size W0 W) => hbA.trans (g.mono hbA.size))
  have HA := Lib.hid (fun W (g : Below W0.heap.size W0 W) => (g.block w.heap.size (by omega)).trans hA)
  clear hbA hA hz0
  have t1 : (x.kind == 1) = false := by rw [hk]; rfl
  have t2 : (x.kind == 2) = false := by rw [hk]; rfl
  have t3 : (x.kind == 3) = false := by rw [hk]; rfl
  have t4 : (x.kind == 4) = false := by rw [hk]; rfl
  have t5 : (x.kind == 5) = false := by rw [hk]; rfl
  have t6 : (x.kind == 6) = true := by rw [hk]; rfl
  obtain ⟨y, hy, hwk⟩ := app_kinds ha (by omega)
  have HD := Lib.hid (show appliedL l x = l.set (whereB l x.validity) (boxAfter y x) by rw [applied_yes ha, done_4 (by omega) hy])
  have HAP := Lib.hid ha
  obtain ⟨_, hcm, _, hap⟩ := app_parts ha
  obtain ⟨q, hq, _⟩ := place_at (show 0 ≤ bxPlace y x.uid by
    obtain ⟨y2, hy2, _, _, _, h0⟩ := hap (by omega)
    rw [hy] at hy2
    injection hy2 with hy2
    rw [hy2]
    exact h0 (by omega))
  have hap0 : 0 ≤ bxPlace y x.uid := by
    obtain ⟨y2, hy2, _, _, _, h0⟩ := hap (by omega)
    rw [hy] at hy2
    injection hy2 with hy2
    rw [hy2]
    exact h0 (by omega)
  obtain ⟨a, hpa⟩ : ∃ a, (bxPlace y x.uid).toNat = a := ⟨_, rfl⟩
  have HPE := Lib.hid (show bxPlace y x.uid = (a : Int) by omega)
  rw [hpa] at hq
  have HQ := Lib.hid hq
  have HAF := Lib.hid (show boxAfter y x = { y with msgs := y.msgs.eraseIdx a } by unfold boxAfter; rw [if_neg (by omega), hpa, hq]; simp only [if_neg (show ¬ x.kind = 5 by omega)])
  rw [hwk] at CW
  obtain ⟨k, hkk⟩ : ∃ k, whereB l x.validity = k := ⟨_, rfl⟩
  rw [hkk] at CW HD hy
  have HY := Lib.hid hy
  clear ha hk hwk hkk hy hcm hap hq hpa hap0
  go_enter Tryz.func19, Tryz.ntmps19
  go_wp2_with fail
  refine (CC.out W0 (HB.out _ (Below.refl _ _))).mono ?_
  rintro e w1 ⟨v1, fp, rfl, ht1, g_w1⟩
  obtain ⟨p1, c1, rfl⟩ := LfIn.slice ht1.is
  have HT := Lib.hid ht1
  clear ht1
  have hA_w1 := HA.out w1 g_w1
  have a0 := (Lib.cell_of_heap hA_w1 0).trans (show _ = some (.int .i64 x.kind) from rfl)
  have a1 := (Lib.cell_of_heap hA_w1 1).trans (show _ = some (.int .i64 x.validity) from rfl)
  have a2 := (Lib.cell_of_heap hA_w1 2).trans (show _ = some (.int .i64 x.uid) from rfl)
  have a3 := (Lib.cell_of_heap hA_w1 3).trans (show _ = some (.int .i64 x.flags) from rfl)
  have a4 := (Lib.cell_of_heap hA_w1 4).trans (show _ = some (sv x.name) from rfl)
  have a5 := (Lib.cell_of_heap hA_w1 5).trans (show _ = some (sv x.text) from rfl)
  clear hA_w1
  go_wp2_with fail
  refine (CA.out w1 (HB.out _ g_w1)).mono ?_
  rintro e w2 ⟨rfl, k_w2⟩
  have HT2 := Lib.hid (HT.out.below k_w2)
  have g_w2 := g_w1.trans (k_w2.mono g_w1.size)
  clear k_w2 g_w1 HT a0 a1 a2 a3 a4 a5 CC CA
  have hA_w2 := HA.out w2 g_w2
  have a1 := (Lib.cell_of_heap hA_w2 1).trans (show _ = some (.int .i64 x.validity) from rfl)
  clear hA_w2
  go_wp2_with fail
  refine (CW.out w2 (HB.out _ g_w2)).mono ?_
  rintro e w3 ⟨rfl, k_w3⟩
  have ht3 := HT2.out.below k_w3
  have g_w3 := g_w2.trans (k_w3.mono g_w2.size)
  clear k_w3 g_w2 HT2 a1 CW
  have hA_w3 := HA.out w3 g_w3
  have a0 := (Lib.cell_of_heap hA_w3 0).trans (show _ = some (.int .i64 x.kind) from rfl)
  have a1 := (Lib.cell_of_heap hA_w3 1).trans (show _ = some (.int .i64 x.validity) from rfl)
  have a2 := (Lib.cell_of_heap hA_w3 2).trans (show _ = some (.int .i64 x.uid) from rfl)
  have a3 := (Lib.cell_of_heap hA_w3 3).trans (show _ = some (.int .i64 x.flags) from rfl)
  have a4 := (Lib.cell_of_heap hA_w3 4).trans (show _ = some (sv x.name) from rfl)
  have a5 := (Lib.cell_of_heap hA_w3 5).trans (show _ = some (sv x.text) from rfl)
  clear hA_w3
  obtain ⟨ps, hps, own⟩ := tree_own9 ht3
  have HPS := Lib.hid (show ps.length = l.length by rw [← hps, List.length_map])
  have hzz := HB.out _ g_w3
  have hw0 : w.heap.size ≤ W0.heap.size := by rw [HZ.out]; omega
  have hw3 := g_w3.size
  have HOW := Lib.hid own
  have HBX := Lib.hid hps
  have HG := Lib.hid hzz
  clear own ht3 hps hzz HZ
  obtain ⟨z, hz⟩ : ∃ z, ps[k]? = some z := ⟨_, List.getElem?_eq_getElem (by rw [HPS.out]; exact (List.getElem?_eq_some_iff.1 HY.out).1)⟩
  have hzy : z.box = y := by
    have h1 : (ps.map BP.box)[k]? = some z.box := by rw [List.getElem?_map, hz]; rfl
    rw [HBX.out, HY.out] at h1
    injection h1 with h1
    exact h1.symm
  have HZ2 := Lib.hid hz
  have HZY := Lib.hid hzy
  have hkl : k < l.length := (List.getElem?_eq_some_iff.1 HY.out).1
  obtain ⟨p2, c2, hv2, hc2⟩ := HOW.out.rd.ex
  injection hv2 with hp2 hn2 hm2
  subst hp2
  clear hn2 hm2
  obtain ⟨b, off, rfl, hb3, hcc⟩ := hc2.resolve_left (by intro h; subst h; simp at hz)
  have d0 : w3.cell? ⟨b, off + k * 4, none⟩ = some (sv z.box.name) := hcc k z hz 0 _ rfl
  have d1 : w3.cell? ⟨b, off + k * 4 + 1, none⟩ = some (.int .i64 z.box.validity) := hcc k z hz 1 _ rfl
  have d2 : w3.cell? ⟨b, off + k * 4 + 2, none⟩ = some (.int .i64 z.box.next) := hcc k z hz 2 _ rfl
  have d3 : w3.cell? ⟨b, off + k * 4 + 3, none⟩ = some (.slice z.pt z.box.msgs.length z.cp) := hcc k z hz 3 _ rfl
  clear hcc hz hzy
  obtain rfl := HOW.out.off
  have hzl := List.mem_of_getElem? HY.out
  rw [← HZY.out] at hzl
  have hsz := HSL.out _ hzl
  have HYL := Lib.hid (HML.out _ hzl)
  have HQZ := Lib.hid (show z.box.msgs[a]? = some q by rw [HZY.out]; exact HQ.out)
  have gd := g_w3.drew
  have OD := Lib.hid (HOW.out.below (Below.refl w3.heap.size w3).drew)
  have HGD := Lib.hid HG.out.drew
  have hOk := LfIn.rd _ _ _ (OD.out.ok z (List.mem_of_getElem? HZ2.out))
  have cp0 := fun W (g : Below w3.drew.heap.size w3.drew W) => specPlaceOf_c z.box (.slice z.pt z.box.msgs.length z.cp) x.uid W trivial (LfRd.below g _ _ hOk) hsz.1 hsz.2 HUI.out
  rw [show bxPlace z.box x.uid = (a : Int) by rw [HZY.out]; exact HPE.out] at cp0
  have CP := Lib.hid cp0
  have HADr := Lib.hid (HA.out _ gd)
  have e0 : w3.drew.cell? ⟨b, k * 4, none⟩ = some (sv z.box.name) := (OD.out.cell HZ2.out (show 0 < 4 by omega)).1
  have e1 : w3.drew.cell? ⟨b, k * 4 + 1, none⟩ = some (.int .i64 z.box.validity) := (OD.out.cell HZ2.out (show 1 < 4 by omega)).1
  have e2 : w3.drew.cell? ⟨b, k * 4 + 2, none⟩ = some (.int .i64 z.box.next) := (OD.out.cell HZ2.out (show 2 < 4 by omega)).1
  have e3 : w3.drew.cell? ⟨b, k * 4 + 3, none⟩ = some (.slice z.pt z.box.msgs.length z.cp) := (OD.out.cell HZ2.out (show 3 < 4 by omega)).1
  have m2 := (Lib.cell_of_heap HADr.out 2).trans (show _ = some (.int .i64 x.uid) from rfl)
  have hwD : w.heap.size < w3.drew.heap.size := (Array.getElem?_eq_some_iff.1 HADr.out).1
  have hbD : W0.heap.size ≤ b ∧ b < w3.drew.heap.size := OD.out.row.lt b rfl
  have hwW : w.heap.size < W0.heap.size := by have := (HA.out W0 (Below.refl _ _)); exact (Array.getElem?_eq_some_iff.1 this).1
  have HGW := Lib.hid gd
  clear hsz hzl hOk cp0 gd d0 d1 d2 d3
  go_wp2_with fail
  clear a0 a1 a2 a3 a4 a5
  refine ord_start [(0, true), (1, true), (2, true), (3, true), (4, true), (5, true), (6, false), (7, true)] (fun W => W.cell? ⟨b, k * 4, none⟩ = some (sv z.box.name) ∧ W.cell? ⟨b, k * 4 + 1, none⟩ = some (.int .i64 z.box.validity) ∧ W.cell? ⟨b, k * 4 + 2, none⟩ = some (.int .i64 z.box.next) ∧ W.cell? ⟨b, k * 4 + 3, none⟩ = some (.slice z.pt z.box.msgs.length z.cp) ∧ W.cell? ⟨w.heap.size, 2, none⟩ = some (.int .i64 x.uid)) (by kernel_rfl) (by kernel_rfl) rfl (by kernel_rfl) ?_
  intro ops' hops
  clear hops
  simp only [List.map_cons, List.map_nil, pickOp_zero, pickOp_succ]
  iterate 2 (refine ord_flo ?_ (fun _ _ _ h => h) rfl ?_ ⟨e0, e1, e2, e3, m2⟩ ?_; rotate_left; focus (intro W hS; obtain ⟨s1, s2, s3, s4, s5⟩ := hS; go_simp; rfl))
  refine ord_flo (.pointer (some ⟨b, k * 4, none⟩)) (fun _ _ _ h => h) rfl ?_ ⟨e0, e1, e2, e3, m2⟩ ?_
  · intro W hS
    obtain ⟨s1, s2, s3, s4, s5⟩ := hS
    go_simp; try (intro h; omega)
  iterate 3 (refine ord_flo ?_ (fun _ _ _ h => h) rfl ?_ ⟨e0, e1, e2, e3, m2⟩ ?_; rotate_left; focus (intro W hS; obtain ⟨s1, s2, s3, s4, s5⟩ := hS; go_simp; rfl))
  refine ord_ev rfl ?_
  go_simp
  refine (CP.out _ (Below.refl _ _)).mono ?_
  rintro e w4 ⟨rfl, k4⟩
  replace e0 := (k4.cell (p := ⟨b, k * 4, none⟩) hbD.2).trans e0
  replace e1 := (k4.cell (p := ⟨b, k * 4 + 1, none⟩) hbD.2).trans e1
  replace e2 := (k4.cell (p := ⟨b, k * 4 + 2, none⟩) hbD.2).trans e2
  replace e3 := (k4.cell (p := ⟨b, k * 4 + 3, none⟩) hbD.2).trans e3
  replace m2 := (k4.cell (p := ⟨w.heap.size, 2, none⟩) hwD).trans m2
  refine ⟨⟨e0, e1, e2, e3, m2⟩, ?_⟩
  iterate 1 (refine ord_flo ?_ (fun _ _ _ h => h) rfl ?_ ⟨e0, e1, e2, e3, m2⟩ ?_; rotate_left; focus (intro W hS; obtain ⟨s1, s2, s3, s4, s5⟩ := hS; go_simp; rfl))
  refine ord_done ?_
  go_simp
  have g4 := HGW.out.trans (k4.mono HGW.out.size)
  have O4 := Lib.hid (OD.out.below k4)
  have HG4 := Lib.hid (HGD.out.trans (k4.mono (Nat.le_trans hw0 HGW.out.size)))
  have a0 := (Lib.cell_of_heap (HA.out _ g4) 0).trans (show _ = some (.int .i64 x.kind) from rfl)
  have HG4w := Lib.hid g4
  clear e0 e1 e2 e3 m2 k4 g4 hwD hbD OD CP HGD HADr HGW
  go_wp2_with fail
  clear a0
  have hAd := HA.out _ HG4w.out.drew
  have OD5 := Lib.hid (O4.out.below (Below.refl w4.heap.size w4).drew)
  have HGZ := Lib.hid HG4.out.drew
  have hi := msgs_in.1 (OD5.out.ok z (List.mem_of_getElem? HZ2.out))
  have hal := (List.getElem?_eq_some_iff.1 HQZ.out).1
  obtain ⟨g, hpt⟩ : ∃ g, z.pt = some ⟨g, 0, none⟩ := by
    rcases hi.1.2 with ⟨_, h0⟩ | ⟨g, _, _, h0, _⟩
    · omega
    · injection h0 with h0
      exact ⟨g, h0⟩
  have hro : w4.drew.ownsRow 0 87 3 (.slice (some ⟨g, 0, none⟩) z.box.msgs.length z.cp) z.box.msgs.length (z.box.msgs.flatMap msgc) := by
    have := hi.1
    unfold BP.val at this
    rwa [hpt] at this
  have c3 : w4.drew.cell? ⟨b, k * 4 + 3, none⟩ = some (.slice (some ⟨g, 0, none⟩) z.box.msgs.length z.cp) := (OD5.out.cell HZ2.out (show 3 < 4 by omega)).1.trans (by show some (Value.slice z.pt _ _) = _; rw [hpt])
  have f3 : w4.drew.frozen? ⟨b, k * 4 + 3, none⟩ = false := (OD5.out.cell HZ2.out (show 3 < 4 by omega)).2
  have hgl : W0.heap.size ≤ g := OD5.out.low g (List.mem_flatMap.2 ⟨z, List.mem_of_getElem? HZ2.out, by rw [hi.2]; show g ∈ (Value.slice z.pt _ _).ownBlock.toList; rw [hpt]; simp [Value.ownBlock]⟩)
  have hcz : z.box.msgs.length ≤ z.cp := CapLe.of_in (OD5.out.ok z (List.mem_of_getElem? HZ2.out)) _ _ _ rfl
  have hrd : Rd 3 msgc w4.drew (.slice (some ⟨g, 0, none⟩) z.box.msgs.length z.cp) z.box.msgs := by
    have := msgc9_rd (LfIn.rd _ _ _ (OD5.out.ok z (List.mem_of_getElem? HZ2.out)))
    unfold BP.val at this
    rw [hpt] at this
    exact this
  have H1 := Lib.hid (Rd.takeS (k := a) hrd (by omega) z.cp)
  have H2 := Lib.hid (show Rd 3 msgc w4.drew (.slice (if z.cp = a + 1 then (some ⟨g, 0, none⟩ : Option Addr) else some ⟨g, (a + 1) * 3, none⟩) (z.box.msgs.length - (a + 1)) (z.cp - (a + 1))) (z.box.msgs.drop (a + 1)) by
    by_cases hck : z.cp = a + 1
    · rw [if_pos hck]
      have hn : z.box.msgs.drop (a + 1) = [] := List.drop_eq_nil_of_le (by omega)
      rw [hn]
      exact ⟨_, _, by rw [show z.box.msgs.length - (a + 1) = 0 by omega]; rfl, .inl rfl⟩
    · rw [if_neg hck]
      have := Rd.dropS (k := a + 1) hrd (z.cp - (a + 1))
      rwa [Nat.zero_add] at this)
  have hwa : IntKind.i64.wrap ((a : Int) + 1) = (a : Int) + 1 := by
    have := HYL.out
    exact IntWalk.i64_in _ (by omega)
  have hbD := (OD5.out.row.lt b rfl).2
  have HE := Lib.hid (show z.box.msgs.eraseIdx a = z.box.msgs.take a ++ z.box.msgs.drop (a + 1) from List.eraseIdx_eq_take_drop_succ ..)
  have hYL := HYL.out
  have hW0D : W0.heap.size ≤ w4.drew.heap.size := HG4w.out.drew.size
  clear hi hro hpt hAd f3 hrd
  refine ordz_start [(0, true), (1, true), (3, true), (4, true), (5, true), (6, true), (7, true), (8, true), (9, true), (11, true), (12, true), (13, true), (14, true), (15, true), (16, true), (17, true), (18, true), (2, false), (10, false), (19, false), (20, true), (21, true), (22, false)] 22 (fun W => W.cell? ⟨b, k * 4 + 3, none⟩ = some (.slice (some ⟨g, 0, none⟩) z.box.msgs.length z.cp)) (by kernel_rfl) (by kernel_rfl) rfl (by kernel_rfl) ?_
  intro ops' hops
  clear hops
  simp only [List.map_cons, List.map_nil, pickOp_zero, pickOp_succ]
  generalize w4.drew = D at *
  iterate 4 (refine ordz_flo ?_ (fun _ _ _ h => h) rfl ?_ c3 ?_; rotate_left; focus (intro W hS; obtain s1 := hS; go_simp; rfl))
  refine ordz_flo (.pointer (some ⟨b, k * 4, none⟩)) (fun _ _ _ h => h) rfl ?_ c3 ?_
  · intro W hS
    go_simp
    try (intro h; omega)
  iterate 3 (refine ordz_flo ?_ (fun _ _ _ h => h) rfl ?_ c3 ?_; rotate_left; focus (intro W hS; obtain s1 := hS; go_simp; rfl))
  refine ordz_flo (.slice (some ⟨g, 0, none⟩) a z.cp) (fun _ _ _ h => h) rfl ?_ c3 ?_
  · intro W hS
    go_simp <;> omega
  iterate 2 (refine ordz_flo ?_ (fun _ _ _ h => h) rfl ?_ c3 ?_; rotate_left; focus (intro W hS; obtain s1 := hS; go_simp; rfl))
  refine ordz_flo (.pointer (some ⟨b, k * 4, none⟩)) (fun _ _ _ h => h) rfl ?_ c3 ?_
  · intro W hS
    go_simp
    try (intro h; omega)
  iterate 4 (refine ordz_flo ?_ (fun _ _ _ h => h) rfl ?_ c3 ?_; rotate_left; focus (intro W hS; obtain s1 := hS; go_simp; rfl))
  refine ordz_flo (.slice (if z.cp = a + 1 then (some ⟨g, 0, none⟩ : Option Addr) else some ⟨g, (a + 1) * 3, none⟩) (z.box.msgs.length - (a + 1)) (z.cp - (a + 1))) (fun _ _ _ h => h) rfl ?_ c3 ?_
  · intro W hS
    go_simp
    try (intro h; omega)
  have hb0 : Below D.heap.size D (D.alloc (.cells #[] 87)) := (Below.refl _ _).alloc (Nat.le_refl _) _
  have ho0 : (D.alloc (.cells #[] 87)).ownsRow D.heap.size 87 3 (.slice (some ⟨D.heap.size, 0, none⟩) 0 0) 0 [] := World.ownsRow_made D #[] 0 (Nat.le_refl _) (by unfold maxLen; omega) (by simp)
  have c3a := (hb0.cell (p := ⟨b, k * 4 + 3, none⟩) hbD).trans c3
  refine ordz_ev rfl ?_
  go_simp
  clear c3a
  refine ordz_ev rfl ?_
  refine wp_appR Tryz.el_msg (enc := msgc) (fun _ => rfl) (fun m u hu => by simp [msgc] at hu; rcases hu with rfl | rfl | rfl <;> rfl) (.tmp 102) (.tmp 109) rfl D (.slice (some ⟨D.heap.size, 0, none⟩) 0 0) 0 [] rfl ho0 hb0 hb0.size _ (z.box.msgs.take a) rfl (H1.out.below hb0) (by simp; omega) (by simp; omega) ?_
  intro v1 w5 ho1 hb1 _
  refine ⟨fun _ => (hb1.cell (p := ⟨b, k * 4 + 3, none⟩) hbD).trans c3, ?_⟩
  refine ordz_ev rfl ?_
  refine wp_appR Tryz.el_msg (enc := msgc) (fun _ => rfl) (fun m u hu => by simp [msgc] at hu; rcases hu with rfl | rfl | rfl <;> rfl) (.tmp 110) (.tmp 118) rfl D v1 _ _ rfl ho1 hb1 hb1.size _ (z.box.msgs.drop (a + 1)) rfl (H2.out.below hb1) (by simp; omega) (by simp; omega) ?_
  intro v2 w6 ho2 hb2 _
  replace c3 := (hb2.cell (p := ⟨b, k * 4 + 3, none⟩) hbD).trans c3
  refine ⟨fun _ => c3, ?_⟩
  have ho3 : w6.ownsRow D.heap.size 87 3 v2 (z.box.msgs.eraseIdx a).length ((z.box.msgs.eraseIdx a).flatMap msgc) := by
    rw [HE.out, List.flatMap_append, List.length_append]
    simpa using ho2
  obtain ⟨n2, hn2⟩ : ∃ n2, (z.box.msgs.eraseIdx a).length = n2 := ⟨_, rfl⟩
  rw [hn2] at ho3
  obtain ⟨p2, c2, rfl, _⟩ := own9_form ho3
  obtain ⟨hO6, f3⟩ := OD5.out.less HZ2.out hb2 hn2 ho3
  have HF := Lib.hid hO6
  have HGF := Lib.hid (((HGZ.out.trans (hb2.mono (Nat.le_trans hw0 hW0D))).setCell (p := ⟨b, k * 4 + 3, none⟩) (Nat.le_trans hw0 (OD5.out.row.lt b rfl).1) (.slice p2 n2 c2)))
  have HM := Lib.hid (show (ps.set k (z.less a p2 c2)).map BP.box = l.set k (boxAfter y x) by rw [List.map_set, HBX.out, HAF.out, ← HZY.out]; rfl)
  clear hO6 hn2 ho3 ho2 hb2 ho1 hb1 ho0 hb0
  refine ordz_flo (.pointer (some ⟨b, k * 4, none⟩)) (fun _ _ _ h => h) rfl ?_ c3 ?_
  · intro W hS
    go_simp
    try (intro h; omega)
  iterate 1 (refine ordz_flo ?_ (fun _ _ _ h => h) rfl ?_ c3 ?_; rotate_left; focus (intro W hS; obtain s1 := hS; go_simp; rfl))
  refine ordz_ev rfl ?_
  go_simp
  refine ordz_done ?_
  go_simp
  clear c3 f3
  go_wp2
  all_goals (go_ret2; exact appl_post HAP.out HD.out (tree_lower (HM.out ▸ HF.out.tree) hw0) HGF.out)

end Go.Proofs.YtbfgdbpfecffcaaGreatDoor

namespace Go.Proofs.YtbfgdbpfecffcaaGreatDoor
open Go.RowKit

/-- Right boxes are small. -/
theorem right_small {l : List BoxD} (h : boxesB l = true) : szLf (boxsLf l) ≤ 1048576 ∧ LfBnd (boxsLf l) := by
  obtain ⟨h1, h2, _, _⟩ := (boxes_iff l).1 h
  refine boxes_fine (by omega) (fun b hb => ?_)
  obtain ⟨n1, v1, x1, m1, _, m2⟩ := (box_iff b).1 (h2 b hb)
  refine ⟨?_, ⟨by omega, by omega⟩, ⟨by omega, by omega⟩, m1, fun m hm => ?_⟩
  · unfold nameB at n1
    simp only [Bool.and_eq_true, decide_eq_true_eq] at n1
    omega
  · obtain ⟨u1, f1, t1⟩ := m2 m hm
    unfold flB at f1
    simp only [Bool.and_eq_true, decide_eq_true_eq] at f1
    exact ⟨⟨by omega, by omega⟩, ⟨by omega, by omega⟩, t1⟩
theorem applied_small {l : List BoxD} {x : ComD} (hs : szLf (boxsLf l) ≤ 1048576) (hb : LfBnd (boxsLf l)) : szLf (boxsLf (appliedL l x)) ≤ 1048576 ∧ LfBnd (boxsLf (appliedL l x)) := by
  cases ha : appB l x with
  | false => rw [applied_no ha]; exact ⟨hs, hb⟩
  | true => rw [applied_yes ha]; exact right_small (done_right ha)

theorem specApplied_c : CtrApplied 19 (fun _ => True) := by
  intro l v x w _ hr hcap hs hbd hs2 hbd2
  have hP : Calls Tryz.prog 19 #[v, .agg #[.int .i64 x.kind, .int .i64 x.validity, .int .i64 x.uid, .int .i64 x.flags, sv x.name, sv x.text]] w fun e w' => ApplPost l x w e w' := by
    cases ha : appB l x with
    | false => exact specApplied_no l v x w hr hcap hs hbd hs2 hbd2 ha
    | true =>
      have hk := (commit_parts (app_parts ha).2.1).1
      rcases (show x.kind = 1 ∨ x.kind = 2 ∨ x.kind = 3 ∨ x.kind = 4 ∨ x.kind = 5 ∨ x.kind = 6 by omega) with h | h | h | h | h | h
      · exact specApplied_1 l v x w hr hcap hs hbd hs2 hbd2 ha h
      · exact specApplied_2 l v x w hr hcap hs hbd hs2 hbd2 ha h
      · exact specApplied_3 l v x w hr hcap hs hbd hs2 hbd2 ha h
      · exact specApplied_4 l v x w hr hcap hs hbd hs2 hbd2 ha h
      · exact specApplied_5 l v x w hr hcap hs hbd hs2 hbd2 ha h
      · exact specApplied_6 l v x w hr hcap hs hbd hs2 hbd2 ha h
  refine hP.mono ?_
  rintro e w1 ⟨z0, f0, rfl, ht, hb⟩
  exact ⟨z0, f0, rfl, ht.is, ht.nodup, ht.low, hb⟩

end Go.Proofs.YtbfgdbpfecffcaaGreatDoor

namespace Go.Proofs.YtbfgdbpfecffcaaGreatDoor
open Go.RowKit

theorem all_end (m : List BoxD) (lg : List ComD) : allL m (lg.drop lg.length) = (m, true) := by rw [List.drop_length]; rfl
theorem drop_at {lg : List ComD} {k : Nat} {x : ComD} (h : lg[k]? = some x) : lg.drop k = x :: lg.drop (k + 1) := by
  obtain ⟨hk, rfl⟩ := List.getElem?_eq_some_iff.1 h
  exact List.drop_eq_getElem_cons hk
theorem all_no {m : List BoxD} {lg : List ComD} {k : Nat} {x : ComD} (h : lg[k]? = some x) (ha : appB m x = false) : allL m (lg.drop k) = (m, false) := by
  rw [drop_at h]; unfold allL; rw [ha]; rfl
theorem all_yes {m : List BoxD} {lg : List ComD} {k : Nat} {x : ComD} (h : lg[k]? = some x) (ha : appB m x = true) : allL m (lg.drop k) = allL (appliedL m x) (lg.drop (k + 1)) := by
  rw [drop_at h, applied_yes ha]; conv => lhs; unfold allL
  rw [ha]; rfl
theorem coms_small {lg : List ComD} (hs : szLf (commitsLf lg) ≤ 1048576) (hbd : LfBnd (commitsLf lg)) : lg.length ≤ 1048576 ∧ ∀ x ∈ lg, szLs x.lf ≤ 1048576 ∧ LsBnd x.lf :=
  ⟨Nat.le_trans (Nat.le_add_right _ _) hs, fun x hx => ⟨by have h1 := szLs_mem ComD.lf hx; have h2 : szLf (commitsLf lg) = lg.length + szLs (lg.flatMap ComD.lf) := rfl; omega, LsBnd.flat hbd.2 x hx⟩⟩
theorem all_small : ∀ (lg : List ComD) {l : List BoxD}, szLf (boxsLf l) ≤ 1048576 → LfBnd (boxsLf l) → szLf (boxsLf (allL l lg).1) ≤ 1048576
  | [], _, hs, _ => hs
  | x :: lg, l, hs, hb => by
    unfold allL
    cases ha : appB l x with
    | false => exact hs
    | true =>
      obtain ⟨h1, h2⟩ := right_small (done_right ha)
      exact all_small lg h1 h2

set_option maxHeartbeats 3200000 in
theorem specAppliedAll_c : CtrAppliedAll 29 (fun _ => True) := by
  intro l v lg vg w _ hr hcap hs hbd hr2 hcap2 hs2 hbd2
  obtain ⟨hl, _, _, hsl⟩ := boxes_small hs hbd
  obtain ⟨hlg, hcm⟩ := coms_small hs2 hbd2
  have CC := Lib.hid (fun W (g : Below w.heap.size w W) => l9Copies_any l v W (LfRd.below g _ _ hr) hl (box_msgs hsl))
  obtain ⟨pg, cg, rfl, hg⟩ := ComD.at hr2
  have HG := Lib.hid hg
  have HCM := Lib.hid hcm
  have HSM := Lib.hid (And.intro hs hbd)
  obtain ⟨p, c, rfl⟩ := LfRd.slice hr
  clear hr hcap hs hbd hr2 hcap2 hs2 hbd2 hl hsl hcm hg
  go_enter Tryz.func29, Tryz.ntmps29
  go_wp2_with fail
  refine (CC.out w (Below.refl _ _)).mono ?_
  rintro e w1 ⟨v1, fp, rfl, ht, hb⟩
  have HST := Lib.hid (And.intro ht hb)
  clear ht hb CC
  go_wp2_with fail
  go_loopw [6, 7] (fun v i wr => ∃ (k : Nat) (m : List BoxD) (fp : List Nat), k ≤ lg.length ∧ i = .int .i64 k ∧ allL m (lg.drop k) = allL l lg ∧ (szLf (boxsLf m) ≤ 1048576 ∧ LfBnd (boxsLf m)) ∧ Tree wr w.heap.size (boxsLf m) v fp ∧ Below w.heap.size w wr) (fun _ i _ => lg.length - (intOf i).toNat)
  case atStart => exact ⟨0, l, _, by omega, rfl, by rw [List.drop_zero], HSM.out, HST.out.1, HST.out.2⟩
  case round =>
    obtain ⟨k, m, fp, hk, rfl, hall, hsm, hs, hbr⟩ := hrel
    obtain ⟨pv, cv, rfl⟩ := LfIn.slice hs.is
    have HALL := Lib.hid hall
    have HS := Lib.hid hs
    clear HST HSM hall
    by_cases hlt : k < lg.length
    case neg =>
      obtain rfl : k = lg.length := by omega
      have HV := Lib.hid (show allL l lg = (m, true) by rw [← HALL.out, all_end])
      clear hs hsm
      go_wp2
      go_ret2
      rw [HV.out]
      exact ⟨_, fp, rfl, HS.out.is, HS.out.nodup, HS.out.low, hbr⟩
    obtain ⟨b, off, rfl, hb1, hc⟩ := HG.out.resolve_left (by intro h; subst h; simp at hlt)
    obtain ⟨x, hx⟩ : ∃ x, lg[k]? = some x := ⟨_, List.getElem?_eq_getElem hlt⟩
    obtain ⟨x0, x1, x2, x3, x4, x5⟩ := hc k x hx
    have e0 : wr.cell? ⟨b, off + k * 6, none⟩ = some (.int .i64 x.kind) := (hbr.cell (p := ⟨b, off + k * 6, none⟩) hb1).trans x0
    have e1 : wr.cell? ⟨b, off + k * 6 + 1, none⟩ = some (.int .i64 x.validity) := (hbr.cell (p := ⟨b, off + k * 6 + 1, none⟩) hb1).trans x1
    have e2 : wr.cell? ⟨b, off + k * 6 + 2, none⟩ = some (.int .i64 x.uid) := (hbr.cell (p := ⟨b, off + k * 6 + 2, none⟩) hb1).trans x2
    have e3 : wr.cell? ⟨b, off + k * 6 + 3, none⟩ = some (.int .i64 x.flags) := (hbr.cell (p := ⟨b, off + k * 6 + 3, none⟩) hb1).trans x3
    have e4 : wr.cell? ⟨b, off + k * 6 + 4, none⟩ = some (sv x.name) := (hbr.cell (p := ⟨b, off + k * 6 + 4, none⟩) hb1).trans x4
    have e5 : wr.cell? ⟨b, off + k * 6 + 5, none⟩ = some (sv x.text) := (hbr.cell (p := ⟨b, off + k * 6 + 5, none⟩) hb1).trans x5
    obtain ⟨hx1, hx2⟩ := HCM.out x (List.mem_of_getElem? hx)
    have CA := Lib.hid (specApplied_c m _ x wr trivial (LfIn.rd _ _ _ hs.is) (CapLe.of_in hs.is) hsm.1 hsm.2 hx1 hx2)
    have HX := Lib.hid hx
    have HSM := Lib.hid hsm
    have hzw := hbr.size
    clear hc x0 x1 x2 x3 x4 x5 hx hs hsm hx1 hx2
    cases ha : appB m x with
    | false =>
      have HV := Lib.hid (show allL l lg = (m, false) by rw [← HALL.out, all_no HX.out ha])
      rw [ha] at CA
      go_wp2_with fail
      refine CA.out.mono ?_
      rintro e w2 ⟨z0, f0, rfl, _, _, _, hb2⟩
      have HS2 := Lib.hid (And.intro (HS.out.below hb2) (hbr.trans (hb2.mono hzw)))
      clear hb2
      go_wp2
      go_ret2
      rw [HV.out]
      exact ⟨_, fp, rfl, HS2.out.1.is, HS2.out.1.nodup, HS2.out.1.low, HS2.out.2⟩
    | true =>
      have HV := Lib.hid (show allL (appliedL m x) (lg.drop (k + 1)) = allL l lg by rw [← HALL.out, all_yes HX.out ha])
      rw [ha] at CA
      go_wp2_with fail
      refine CA.out.mono ?_
      rintro e w2 ⟨z0, f0, rfl, h1, h2, h3, hb2⟩
      have HS2 := Lib.hid (show Tree w2 w.heap.size (boxsLf (appliedL m x)) z0 f0 ∧ Below w.heap.size w w2 from ⟨⟨h1, h2, fun q hq => Nat.le_trans hzw (h3 q hq)⟩, hbr.trans (hb2.mono hzw)⟩)
      clear hb2 h1 h2 h3
      go_wp2
      go_roundw
      case rel => exact ⟨k + 1, _, f0, by omega, by go_num, HV.out, applied_small HSM.out.1 HSM.out.2, HS2.out.1, HS2.out.2⟩
      case measure => simp [intOf]; omega

end Go.Proofs.YtbfgdbpfecffcaaGreatDoor
