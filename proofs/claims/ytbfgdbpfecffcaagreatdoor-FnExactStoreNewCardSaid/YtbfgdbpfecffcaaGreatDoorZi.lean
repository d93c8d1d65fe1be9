/-
  Zi: StoN (what the claim needs of them).
-/
import Derived.Maps.OwnIn
import Derived.Sort.KeysCollected
import Derived.RangeFuncNested
import Derived.RangeFuncLeaves
import Derived.RangeFuncWrites
import Derived.WalkKit
import Derived.OwnWalkIn
import Derived.TacticsInMore
import Derived.LoopNIn
import Derived.LoopIn
import Derived.Maps.OwnSet
import Derived.Maps.RangeWalk
import Derived.Sort.OwnSorted
import Derived.Sort.EveryDepth
import Derived.Deep.DeepCutAuto
import Derived.Handy
import Derived.Lib.SliceRun
import Derived.Test.YtbfgdbpfecffcaaGreatDoorRows
import Derived.WalkSpells
import Derived.WalkLawsBesides
import Derived.Laws.IdiomStrings
import Derived.Lib.Hide
import Derived.Deep.AppendLies
import Derived.OrdersHeld
import Derived.Lib.ItoaNum
import Derived.Lib.ItoaMem
import Derived.Lib.AppendStr
import Derived.Lib.ItoaLen
import Derived.Lib.Strings
import Derived.Lib.Bytealg
import Derived.Lib.OthersKept
import Derived.Laws.RangeAny
import Derived.Laws.BitsAllLaws
import Derived.Laws.BitsLemmas
import Derived.IntWalk
import Derived.LaidEql
import Derived.Stop.Asserts
import Derived.RowKitTokens
import Derived.Lib.Join
import Derived.Deep.Strs
import Derived.Test.YtbfgdbpfecffcaaGreatDoorProg
import Derived.Laws.Tables
import Derived.Test.YtbfgdbpfecffcaaGreatDoorYb
import Derived.Test.YtbfgdbpfecffcaaGreatDoorYc
import Derived.Test.YtbfgdbpfecffcaaGreatDoorYd
import Derived.Test.YtbfgdbpfecffcaaGreatDoorYe
import Derived.Test.YtbfgdbpfecffcaaGreatDoorYf
import Derived.Test.YtbfgdbpfecffcaaGreatDoorYl
import Derived.Test.YtbfgdbpfecffcaaGreatDoorYm
import Derived.Test.YtbfgdbpfecffcaaGreatDoorYo
import Derived.Test.YtbfgdbpfecffcaaGreatDoorYp
import Derived.Test.YtbfgdbpfecffcaaGreatDoorYq
import Derived.Test.YtbfgdbpfecffcaaGreatDoorYs
import Derived.Test.YtbfgdbpfecffcaaGreatDoorYx
import Derived.Test.YtbfgdbpfecffcaaGreatDoorYy
import Derived.Test.YtbfgdbpfecffcaaGreatDoorYz
import Derived.Test.YtbfgdbpfecffcaaGreatDoorZa
import Derived.Test.YtbfgdbpfecffcaaGreatDoorZb
import Derived.Test.YtbfgdbpfecffcaaGreatDoorZc
import Derived.Test.YtbfgdbpfecffcaaGreatDoorZd

namespace Go.Proofs.YtbfgdbpfecffcaaGreatDoor
open Go.RowKit

theorem maxI_max (a b : Int) : maxI a b = max a b := by unfold maxI; split <;> omega

set_option maxRecDepth 20000 in
set_option maxHeartbeats 1600000 in
theorem cloneCom_any (v : Value) (l : List ComD) (w : World) (hr : Rd 6 comc w v l) (hl : l.length ≤ 1048576) :
    Calls Tryz.prog 131 #[v] w fun e w' => ∃ p c, e = .returned (.slice p l.length c) ∧ w'.ownsRow w.heap.size 26 6 (.slice p l.length c) l.length (l.flatMap comc) ∧ Below w.heap.size w w' := by
  obtain ⟨p, c, rfl, hc⟩ := hr.ex
  have HR := Lib.hid hr
  cases p with
  | none =>
    have hn : l = [] := hc.resolve_right (by rintro ⟨_, _, h, _⟩; cases h)
    subst hn
    have q := fun W : World => Lib.run_eql_slice_nil (P := Tryz.prog) W 40 26 none 0 c 0 0 Tryz.underlying40
    clear hr hc HR
    go_enter Tryz.func131, Tryz.ntmps131
    go_wp2
    go_ret
    exact ⟨none, 0, rfl, World.ownsRow_nil _ _ _ _, Below.refl _ _⟩
  | some a =>
    have hb0 : Below w.heap.size w (w.alloc (.cells #[] 26)) := (Below.refl _ _).alloc (Nat.le_refl _) _
    have HB := Lib.hid hb0
    have q := fun W : World => Lib.run_eql_slice_nil (P := Tryz.prog) W 40 26 (some a) l.length c 0 0 Tryz.underlying40
    clear hr hc hb0
    go_enter Tryz.func131, Tryz.ntmps131
    go_wp2_with (at_builtin; refine wpList_app9 rfl Tryz.el_commit comc_len comc_one (.tmp 5) (.tmp 6) rfl w (.slice (some ⟨w.heap.size, 0, none⟩) 0 0) 0 [] rfl (World.ownsRow_made w #[] 0 (Nat.le_refl _) (Nat.zero_le _) (by simp)) HB.out HB.out.size _ l rfl (HR.out.below HB.out) (by omega) (by omega) ?_)
    intro v1 w1 ho1 hb1 _
    obtain ⟨p1, c1, rfl, _⟩ := own9_form ho1
    have HO := Lib.hid ho1
    have HB1 := Lib.hid hb1
    clear ho1 hb1 HR HB
    go_wp2
    go_ret
    exact ⟨p1, c1, by simp, by simpa using HO.out, HB1.out⟩

set_option maxRecDepth 20000 in
set_option maxHeartbeats 3200000 in
theorem draftOf_any (x : StoD) (r0 r1 : Value) (w : World) (hr0 : LfRd w (boxsLf x.boxes) r0) (hr1 : LfRd w (commitsLf x.log) r1) (hl : x.boxes.length ≤ 1048576) (hm : ∀ b ∈ x.boxes, b.msgs.length ≤ 1048576) (hg : x.log.length ≤ 1048576) :
    Calls Tryz.prog 91 #[.agg #[r0, r1, .int .i64 x.given]] w fun e w' => ∃ v' ps lgv, e = .returned (.agg #[v', lgv, .int .i64 x.given]) ∧ ps.map BP.box = x.boxes ∧ Own9 w.heap.size w' v' ps ∧ w'.ownsRow w.heap.size 26 6 lgv x.log.length (x.log.flatMap comc) ∧ Below w.heap.size w w' := by
  obtain ⟨p0, c0, rfl⟩ := LfRd.slice hr0
  obtain ⟨p1, c1, rfl⟩ := LfRd.slice hr1
  have b1 : Below w.heap.size w (w.alloc (.cells #[.slice p0 x.boxes.length c0, .slice p1 x.log.length c1, .int .i64 x.given] 46)) := (Below.refl _ _).alloc (Nat.le_refl _) _
  have b2 : Below w.heap.size w ((w.alloc (.cells #[.slice p0 x.boxes.length c0, .slice p1 x.log.length c1, .int .i64 x.given] 46)).alloc (.cells #[.slice none 0 0, .slice none 0 0, .int .i64 0] 108)) := b1.alloc b1.size _
  have n1 := (Below.heap_alloc (w.alloc (.cells #[.slice p0 x.boxes.length c0, .slice p1 x.log.length c1, .int .i64 x.given] 46)) (.cells #[.slice none 0 0, .slice none 0 0, .int .i64 0] 108) w.heap.size (by simp)).trans (heap_alloc_new w (.cells #[.slice p0 x.boxes.length c0, .slice p1 x.log.length c1, .int .i64 x.given] 46))
  have n2 := heap_alloc_new (w.alloc (.cells #[.slice p0 x.boxes.length c0, .slice p1 x.log.length c1, .int .i64 x.given] 46)) (.cells #[.slice none 0 0, .slice none 0 0, .int .i64 0] 108)
  rw [World.size_alloc] at n2
  have hz2 : ((w.alloc (.cells #[.slice p0 x.boxes.length c0, .slice p1 x.log.length c1, .int .i64 x.given] 46)).alloc (.cells #[.slice none 0 0, .slice none 0 0, .int .i64 0] 108)).heap.size = w.heap.size + 2 := by simp
  go_enter Tryz.func91, Tryz.ntmps91
  go_wp2
  refine wp_named1 ?_
  intro X hX
  rw [← hX] at b2 n1 n2 hz2
  have b2 : Below w.heap.size w X.drew := b2.trans ((Below.refl X.heap.size X).drew.mono b2.size)
  have n1 : X.drew.heap[w.heap.size]? = _ := n1
  have n2 : X.drew.heap[w.heap.size + 1]? = _ := n2
  have hz2 : X.drew.heap.size = w.heap.size + 2 := hz2
  have CB := Lib.hid (fun W (g : Below X.drew.heap.size X.drew W) => ownMailboxes_any x.boxes (.slice p0 x.boxes.length c0) W (LfRd.below (b2.trans (g.mono b2.size)) _ _ hr0) hl hm)
  have CC := Lib.hid (fun W (g : Below X.drew.heap.size X.drew W) => cloneCom_any (.slice p1 x.log.length c1) x.log W (comc_rd (LfRd.below (b2.trans (g.mono b2.size)) _ _ hr1)) hg)
  obtain ⟨⟨a0, a1, a2⟩, -⟩ := blk_3c n1
  have HN := Lib.hid (And.intro b2 (And.intro n1 (And.intro n2 hz2)))
  clear hX b1 b2 n1 n2 hz2 hr0 hr1 hl hm hg
  refine ord_start [(0, true), (1, true), (3, true), (4, true), (6, true), (7, true), (2, false), (5, false), (8, true), (9, false)] (fun W => W.cell? ⟨w.heap.size, 0, none⟩ = some (.slice p0 x.boxes.length c0) ∧ W.cell? ⟨w.heap.size, 1, none⟩ = some (.slice p1 x.log.length c1) ∧ W.cell? ⟨w.heap.size, 2, none⟩ = some (.int .i64 x.given)) (by kernel_rfl) (by kernel_rfl) rfl (by kernel_rfl) ?_
  intro ops' hops
  clear hops
  simp only [List.map_cons, List.map_nil, pickOp_zero, pickOp_succ]
  iterate 6 (refine ord_flo ?_ (fun _ _ _ h => h) rfl ?_ ⟨a0, a1, a2⟩ ?_; rotate_left; focus (intro W hS; obtain ⟨s0, s1, s2⟩ := hS; go_simp; rfl))
  refine ord_ev rfl ?_
  go_simp
  refine (CB.out _ (Below.refl _ _)).mono ?_
  rintro e w1 ⟨v1, ps, rfl, hps, hO, hb1⟩
  obtain ⟨pv, cv, hvv⟩ := LfIn.slice hO.tree.is
  rw [List.length_map] at hvv
  subst hvv
  clear a0 a1 a2
  obtain ⟨⟨a0, a1, a2⟩, -⟩ := blk_3c ((hb1.block w.heap.size (by have := HN.out.2.2.2; omega)).trans HN.out.2.1)
  have HO1 := Lib.hid (And.intro hps (And.intro hO hb1))
  clear hps hO hb1
  refine ⟨⟨a0, a1, a2⟩, ?_⟩
  refine ord_ev rfl ?_
  go_simp
  refine (CC.out _ HO1.out.2.2).mono ?_
  rintro e w2 ⟨p2, c2, rfl, ho2, hb2⟩
  have hbb := HO1.out.2.2.trans (hb2.mono HO1.out.2.2.size)
  clear a0 a1 a2
  obtain ⟨⟨a0, a1, a2⟩, -⟩ := blk_3c ((hbb.block w.heap.size (by have := HN.out.2.2.2; omega)).trans HN.out.2.1)
  obtain ⟨⟨q0, q1, q2⟩, ⟨y0, y1, y2⟩, t0, t1, t2⟩ := blk_3c ((hbb.block (w.heap.size + 1) (by have := HN.out.2.2.2; omega)).trans HN.out.2.2.1)
  have hxz := HN.out.2.2.2
  have HF := Lib.hid (show ∀ a b c : Value, Own9 w.heap.size (((w2.setCell ⟨w.heap.size + 1, 0, none⟩ a).setCell ⟨w.heap.size + 1, 1, none⟩ b).setCell ⟨w.heap.size + 1, 2, none⟩ c) (.slice pv ps.length cv) ps ∧ (((w2.setCell ⟨w.heap.size + 1, 0, none⟩ a).setCell ⟨w.heap.size + 1, 1, none⟩ b).setCell ⟨w.heap.size + 1, 2, none⟩ c).ownsRow w.heap.size 26 6 (.slice p2 x.log.length c2) x.log.length (x.log.flatMap comc) ∧ Below w.heap.size w (((w2.setCell ⟨w.heap.size + 1, 0, none⟩ a).setCell ⟨w.heap.size + 1, 1, none⟩ b).setCell ⟨w.heap.size + 1, 2, none⟩ c) from fun a b c => by
    have hO2 := HO1.out.2.1.below hb2
    have hnn : w.heap.size + 1 ∉ fpsOf (.slice pv ps.length cv) ps := fun hmm => by have := hO2.tree.low _ hmm; omega
    have hz1 := HO1.out.2.2.size
    refine ⟨((((hO2.apart hnn).apart hnn).apart hnn).lower (by omega)), own9_lower (own_frame (own_frame (own_frame ho2 (fun k hk => set_other (by have := (ho2.lt k hk).1; omega))) (fun k hk => set_other (by have := (ho2.lt k hk).1; omega))) (fun k hk => set_other (by have := (ho2.lt k hk).1; omega))) (by omega), (((HN.out.1.trans (hbb.mono HN.out.1.size)).setCell (by simp) _).setCell (by simp) _).setCell (by simp) _⟩)
  clear ho2 hb2 hbb hxz
  refine ⟨⟨a0, a1, a2⟩, ?_⟩
  iterate 1 (refine ord_flo ?_ (fun _ _ _ h => h) rfl ?_ ⟨a0, a1, a2⟩ ?_; rotate_left; focus (intro W hS; obtain ⟨s0, s1, s2⟩ := hS; go_simp; rfl))
  refine ord_ev rfl ?_
  go_simp
  refine ord_done ?_
  go_simp
  go_wp2_with fail
  exact bodyPost_ret (v := .agg #[.slice pv ps.length cv, .slice p2 x.log.length c2, .int .i64 x.given]) (by simp [results, Tryz.results91, go_sem, t0, t1, t2]) rfl ⟨_, ps, _, rfl, HO1.out.1, (HF.out _ _ _).1, (HF.out _ _ _).2.1, (HF.out _ _ _).2.2⟩

/-- A store that is changed in place, in a block of its own. -/
structure DraftS (B b : Nat) (er : Addr) (W : World) (x : StoD) (v lgv : Value) (ps : List BP) : Prop where
  held : HeldM B b #[v, lgv, .int .i64 x.given] 108 er W v ps
  box : ps.map BP.box = x.boxes
  log : W.ownsRow B 26 6 lgv x.log.length (x.log.flatMap comc)
section
variable {B b : Nat} {er : Addr} {W W' : World} {x : StoD} {v lgv : Value} {ps : List BP}
theorem DraftS.dunder (h : DraftS B b er W x v lgv ps) (hb : Below W.heap.size W W') : DraftS B b er W' x v lgv ps := ⟨h.held.under hb, h.box, ownsRow_below h.log hb⟩
/-- The log's block is no other. -/
theorem DraftS.dlg (h : DraftS B b er W x v lgv ps) {k : Nat} (hk : lgv.ownBlock = some k) : k ≠ b ∧ k ∉ fpsOf v ps ∧ B ≤ k := by
  refine ⟨fun e => ?_, fun hm => sto_apart h.held.own.tree.is h.log k hm hk, (h.log.lt k hk).1⟩
  obtain ⟨cur, hc⟩ := own_type h.log (show k ∈ lgv.ownBlock.toList by rw [hk]; simp)
  rw [e, h.held.blk] at hc
  injection hc with hc
  injection hc with _ hc _
  exact absurd hc (by decide)
theorem DraftS.dcells (h : DraftS B b er W x v lgv ps) : (W.cell? ⟨b, 0, none⟩ = some v ∧ W.cell? ⟨b, 1, none⟩ = some lgv ∧ W.cell? ⟨b, 2, none⟩ = some (.int .i64 x.given)) ∧ (W.frozen? ⟨b, 0, none⟩ = false ∧ W.frozen? ⟨b, 1, none⟩ = false ∧ W.frozen? ⟨b, 2, none⟩ = false) := ⟨(blk_3c h.held.blk).1, (blk_3c h.held.blk).2.1⟩
/-- Behind the commit on the boxes. -/
theorem DraftS.dnext (h : DraftS B b er W x v lgv ps) {v' : Value} {rs : List BP} {l' : List BoxD} (hb : rs.map BP.box = l') (hH : HeldM B b (#[v, lgv, .int .i64 x.given].setIfInBounds 0 v') 108 er W' v' rs) (hg : GrownIn W W' (b :: fpsOf v ps)) : DraftS B b er W' ⟨l', x.log, x.given⟩ v' lgv rs :=
  ⟨hH, hb, own_frame h.log (fun k hk => by
    obtain ⟨h1, h2, _⟩ := h.dlg hk
    exact hg.block k (h.log.lt k hk).2 (fun hm => by rcases List.mem_cons.1 hm with hm | hm
                                                     · exact h1 hm
                                                     · exact h2 hm))⟩
/-- One commit more in the log, which the block then holds. -/
theorem DraftS.dmore (h : DraftS B b er W x v lgv ps) {m : ComD} {gn cap : Nat} (hg : W.grownBy W' lgv.ownBlock) (ho : W'.ownsRow B 26 6 (.slice (some ⟨gn, 0, none⟩) (x.log.length + 1) cap) (x.log.length + 1) (x.log.flatMap comc ++ comc m)) : DraftS B b er (W'.setCell ⟨b, 1, none⟩ (.slice (some ⟨gn, 0, none⟩) (x.log.length + 1) cap)) ⟨x.boxes, x.log ++ [m], x.given⟩ v (.slice (some ⟨gn, 0, none⟩) (x.log.length + 1) cap) ps := by
  have hkb : W'.heap[b]? = some (.cells #[v, lgv, .int .i64 x.given] 108 (0, 0)) := (hg.block b h.held.lt (fun e => (h.dlg e.symm).1 rfl)).trans h.held.blk
  have hO : Own9 B W' v ps := by
    refine ⟨own_frame h.held.own.row (fun k hk => hg.block k (h.held.own.row.lt k hk).2 (fun e => (h.dlg e.symm).2.1 (List.mem_append_left _ (by rw [hk]; simp)))), fun p hp => LfIn.away (h.held.own.ok p hp) (GrownIn.of_row hg) (fun k hk hm => (h.dlg (by simpa using hm)).2.1 (List.mem_append_right _ (List.mem_flatMap.2 ⟨p, hp, hk⟩))), h.held.own.nd, h.held.own.low⟩
  have hnb : b ∉ fpsOf v ps := own9_not hO hkb h.held.t1 h.held.t2
  have hgn : gn ≠ b := fun e => by
    obtain ⟨cur, hc⟩ := own_type ho (show gn ∈ (Value.slice (some ⟨gn, 0, none⟩) (x.log.length + 1) cap).ownBlock.toList by simp [Value.ownBlock])
    rw [e, hkb] at hc
    injection hc with hc
    injection hc with _ hc _
    exact absurd hc (by decide)
  have hglb : 0 < W.heap.size := World.block_lt_of_cell? _ _ h.held.er
  have her : ErrAt W' er := (World.cell?_of_block (hg.block 0 hglb (fun e => by have h1 := (h.dlg e.symm).2.2; have h2 := h.held.hg; omega))).trans h.held.er
  have hgb : 0 ≠ b := by have h1 := h.held.hg; have h2 := h.held.hB; omega
  refine ⟨⟨hO.apart hnb, set_heap hkb, rfl, h.held.t1, h.held.t2, (World.cell?_of_block (set_other hgb)).trans her, h.held.hB, h.held.hg⟩, h.box, ?_⟩
  refine own_frame ?_ (fun k hk => set_other (by have : gn = k := (by simpa [Value.ownBlock] using hk); omega))
  show W'.ownsRow B _ 6 _ (x.log ++ [m]).length ((x.log ++ [m]).flatMap comc)
  rw [List.length_append, List.flatMap_append]
  simpa using ho
theorem DraftS.dgive (h : DraftS B b er W x v lgv ps) (g : Int) : DraftS B b er (W.setCell ⟨b, 2, none⟩ (.int .i64 g)) ⟨x.boxes, x.log, g⟩ v lgv ps :=
  have hgb : 0 ≠ b := by have h1 := h.held.hg; have h2 := h.held.hB; omega
  ⟨⟨h.held.own.apart h.held.not, set_heap h.held.blk, rfl, h.held.t1, h.held.t2, (World.cell?_of_block (set_other hgb)).trans h.held.er, h.held.hB, h.held.hg⟩, h.box, own_frame h.log (fun k hk => set_other (by have := (h.dlg hk).1; omega))⟩
end
def DraftP (B b : Nat) (er : Addr) (x : StoD) (m : ComD) (w : World) (e : Ending) (w' : World) : Prop := ∃ v' lgv' ps', e = .returned (.bool (storB x m)) ∧ DraftS B b er w' (storD x m) v' lgv' ps' ∧ Below B w w'

set_option maxRecDepth 20000 in
set_option maxHeartbeats 6400000 in
theorem commit_any (B b : Nat) (er : Addr) (x : StoD) (v lgv : Value) (ps : List BP) (m : ComD) (w : World) (h : DraftS B b er w x v lgv ps) (hr : boxesB x.boxes = true) (hlg : x.log.length ≤ 1048576) (hs2 : szLs m.lf ≤ 1048576) (hbd2 : LsBnd m.lf) :
    Calls Tryz.prog 92 #[.pointer (some ⟨b, 0, none⟩), .agg #[.int .i64 m.kind, .int .i64 m.validity, .int .i64 m.uid, .int .i64 m.flags, sv m.name, sv m.text]] w fun e w' => DraftP B b er x m w e w' := by
  obtain ⟨pl, cl, rfl, -⟩ := own9_form h.log
  have hb1 : Below w.heap.size w (w.alloc (.cells #[.int .i64 m.kind, .int .i64 m.validity, .int .i64 m.uid, .int .i64 m.flags, sv m.name, sv m.text] 26)) := (Below.refl _ _).alloc (Nat.le_refl _) _
  have n1 := heap_alloc_new w (.cells #[.int .i64 m.kind, .int .i64 m.validity, .int .i64 m.uid, .int .i64 m.flags, sv m.name, sv m.text] 26)
  obtain ⟨X, hX⟩ : ∃ X, w.alloc (.cells #[.int .i64 m.kind, .int .i64 m.validity, .int .i64 m.uid, .int .i64 m.flags, sv m.name, sv m.text] 26) = X := ⟨_, rfl⟩
  rw [hX] at hb1 n1
  have hbd : Below w.heap.size w X.drew := hb1.trans ((Below.refl X.heap.size X).drew.mono hb1.size)
  have n1 : X.drew.heap[w.heap.size]? = _ := n1
  have HD := Lib.hid (h.dunder hbd)
  have HBX := Lib.hid (hbd.mono h.held.size)
  have HM := Lib.hid n1
  have HW := Lib.hid h
  have HR := Lib.hid hr
  have CA := Lib.hid (apply_any B b _ _ er ps v m X.drew HD.out.held (by rw [h.box]; exact hr) hs2 hbd2)
  obtain ⟨⟨-, d1, d2⟩, -⟩ := HD.out.dcells
  obtain ⟨⟨m0, m1, m2, m3, m4, m5⟩, -⟩ := com6 n1
  have HLG := Lib.hid hlg
  clear h hr hs2 hbd2 hb1 n1 hbd
  go_enter Tryz.func92, Tryz.ntmps92
  go_wp2
  clear hX
  by_cases hl3 : (x.log.length : Int) < 300
  case neg =>
    have hge : (x.log.length : Int) ≥ 300 := by omega
    have HS := Lib.hid (stor_2 (m := m) hl3)
    clear hl3
    refine ord_start [(0, true), (1, true), (2, true), (3, true), (4, true), (5, true), (6, true), (7, true), (8, true), (9, true), (10, true), (11, true), (12, true), (13, true), (14, true), (15, true), (16, true), (17, true), (18, true), (19, true), (20, true), (21, true), (22, true), (23, true), (24, true), (25, false), (26, true), (27, true)] (fun W => W.cell? ⟨b, 1, none⟩ = some (.slice pl x.log.length cl) ∧ W.cell? ⟨b, 2, none⟩ = some (.int .i64 x.given) ∧ W.cell? ⟨w.heap.size, 0, none⟩ = some (.int .i64 m.kind) ∧ W.cell? ⟨w.heap.size, 1, none⟩ = some (.int .i64 m.validity) ∧ W.cell? ⟨w.heap.size, 2, none⟩ = some (.int .i64 m.uid) ∧ W.cell? ⟨w.heap.size, 3, none⟩ = some (.int .i64 m.flags) ∧ W.cell? ⟨w.heap.size, 4, none⟩ = some (sv m.name) ∧ W.cell? ⟨w.heap.size, 5, none⟩ = some (sv m.text)) (by kernel_rfl) (by kernel_rfl) rfl (by kernel_rfl) ?_
    intro ops' hops
    simp only [List.map_cons, List.map_nil, pickOp_zero, pickOp_succ]
    iterate 7 (refine ord_flo ?_ (fun _ _ _ h => h) rfl ?_ ⟨d1, d2, m0, m1, m2, m3, m4, m5⟩ ?_; rotate_left; focus (intro W hS; obtain ⟨s1, s2, r0, r1, r2, r3, r4, r5⟩ := hS; go_simp; rfl))
    iterate 12 (refine ord_not (fun _ _ _ h => h) (by rw [hops.out]; kernel_rfl) ⟨d1, d2, m0, m1, m2, m3, m4, m5⟩ ?_)
    iterate 2 (refine ord_flo ?_ (fun _ _ _ h => h) rfl ?_ ⟨d1, d2, m0, m1, m2, m3, m4, m5⟩ ?_; rotate_left; focus (intro W hS; obtain ⟨s1, s2, r0, r1, r2, r3, r4, r5⟩ := hS; go_simp; rfl))
    iterate 4 (refine ord_not (fun _ _ _ h => h) (by rw [hops.out]; kernel_rfl) ⟨d1, d2, m0, m1, m2, m3, m4, m5⟩ ?_)
    refine ord_evnot ⟨d1, d2, m0, m1, m2, m3, m4, m5⟩ (by rw [hops.out]; kernel_rfl) ?_
    iterate 1 (refine ord_not (fun _ _ _ h => h) (by rw [hops.out]; kernel_rfl) ⟨d1, d2, m0, m1, m2, m3, m4, m5⟩ ?_)
    iterate 1 (refine ord_flo ?_ (fun _ _ _ h => h) rfl ?_ ⟨d1, d2, m0, m1, m2, m3, m4, m5⟩ ?_; rotate_left; focus (intro W hS; obtain ⟨s1, s2, r0, r1, r2, r3, r4, r5⟩ := hS; go_simp; rfl))
    refine ord_done ?_
    go_simp
    clear d1 d2 m0 m1 m2 m3 m4 m5
    go_wp2
    go_ret
    exact ⟨v, _, ps, by rw [HS.out] <;> rfl, by rw [stor_x HS.out]; exact HD.out, HBX.out⟩
  have hge : ¬ (x.log.length : Int) ≥ 300 := by omega
  have HL3 := Lib.hid hl3
  clear hl3
  by_cases hk : m.kind = 1
  · have t1k : (m.kind == 1) = true := by rw [hk]; rfl
    by_cases hvv : m.validity ≤ x.given
    · have HS := Lib.hid (stor_3 hk hvv)
      clear hk
      refine ord_start [(0, true), (1, true), (2, true), (3, true), (4, true), (5, true), (6, true), (7, true), (8, true), (9, true), (10, true), (11, true), (12, true), (13, true), (14, true), (15, true), (16, true), (17, true), (18, true), (19, true), (20, true), (21, true), (22, true), (23, true), (24, true), (25, false), (26, true), (27, true)] (fun W => W.cell? ⟨b, 1, none⟩ = some (.slice pl x.log.length cl) ∧ W.cell? ⟨b, 2, none⟩ = some (.int .i64 x.given) ∧ W.cell? ⟨w.heap.size, 0, none⟩ = some (.int .i64 m.kind) ∧ W.cell? ⟨w.heap.size, 1, none⟩ = some (.int .i64 m.validity) ∧ W.cell? ⟨w.heap.size, 2, none⟩ = some (.int .i64 m.uid) ∧ W.cell? ⟨w.heap.size, 3, none⟩ = some (.int .i64 m.flags) ∧ W.cell? ⟨w.heap.size, 4, none⟩ = some (sv m.name) ∧ W.cell? ⟨w.heap.size, 5, none⟩ = some (sv m.text)) (by kernel_rfl) (by kernel_rfl) rfl (by kernel_rfl) ?_
      intro ops' hops
      simp only [List.map_cons, List.map_nil, pickOp_zero, pickOp_succ]
      iterate 7 (refine ord_flo ?_ (fun _ _ _ h => h) rfl ?_ ⟨d1, d2, m0, m1, m2, m3, m4, m5⟩ ?_; rotate_left; focus (intro W hS; obtain ⟨s1, s2, r0, r1, r2, r3, r4, r5⟩ := hS; go_simp; rfl))
      iterate 12 (refine ord_flo ?_ (fun _ _ _ h => h) (by rw [hops.out]; kernel_rfl) ?_ ⟨d1, d2, m0, m1, m2, m3, m4, m5⟩ ?_; rotate_left; focus (intro W hS; obtain ⟨s1, s2, r0, r1, r2, r3, r4, r5⟩ := hS; go_simp; rfl))
      iterate 2 (refine ord_flo ?_ (fun _ _ _ h => h) rfl ?_ ⟨d1, d2, m0, m1, m2, m3, m4, m5⟩ ?_; rotate_left; focus (intro W hS; obtain ⟨s1, s2, r0, r1, r2, r3, r4, r5⟩ := hS; go_simp; rfl))
      iterate 4 (refine ord_not (fun _ _ _ h => h) (by rw [hops.out]; kernel_rfl) ⟨d1, d2, m0, m1, m2, m3, m4, m5⟩ ?_)
      refine ord_evnot ⟨d1, d2, m0, m1, m2, m3, m4, m5⟩ (by rw [hops.out]; kernel_rfl) ?_
      iterate 1 (refine ord_not (fun _ _ _ h => h) (by rw [hops.out]; kernel_rfl) ⟨d1, d2, m0, m1, m2, m3, m4, m5⟩ ?_)
      iterate 1 (refine ord_flo ?_ (fun _ _ _ h => h) rfl ?_ ⟨d1, d2, m0, m1, m2, m3, m4, m5⟩ ?_; rotate_left; focus (intro W hS; obtain ⟨s1, s2, r0, r1, r2, r3, r4, r5⟩ := hS; go_simp; rfl))
      refine ord_done ?_
      go_simp
      clear d1 d2 m0 m1 m2 m3 m4 m5
      go_wp2
      go_ret
      exact ⟨v, _, ps, by rw [HS.out] <;> rfl, by rw [stor_x HS.out]; exact HD.out, HBX.out⟩
    · have HNV := Lib.hid hvv
      clear hk
      refine ord_start [(0, true), (1, true), (2, true), (3, true), (4, true), (5, true), (6, true), (7, true), (8, true), (9, true), (10, true), (11, true), (12, true), (13, true), (14, true), (15, true), (16, true), (17, true), (18, true), (19, true), (20, true), (21, true), (22, true), (23, true), (24, true), (25, false), (26, true), (27, true)] (fun W => W.cell? ⟨b, 1, none⟩ = some (.slice pl x.log.length cl) ∧ W.cell? ⟨b, 2, none⟩ = some (.int .i64 x.given) ∧ W.cell? ⟨w.heap.size, 0, none⟩ = some (.int .i64 m.kind) ∧ W.cell? ⟨w.heap.size, 1, none⟩ = some (.int .i64 m.validity) ∧ W.cell? ⟨w.heap.size, 2, none⟩ = some (.int .i64 m.uid) ∧ W.cell? ⟨w.heap.size, 3, none⟩ = some (.int .i64 m.flags) ∧ W.cell? ⟨w.heap.size, 4, none⟩ = some (sv m.name) ∧ W.cell? ⟨w.heap.size, 5, none⟩ = some (sv m.text)) (by kernel_rfl) (by kernel_rfl) rfl (by kernel_rfl) ?_
      intro ops' hops
      simp only [List.map_cons, List.map_nil, pickOp_zero, pickOp_succ]
      iterate 7 (refine ord_flo ?_ (fun _ _ _ h => h) rfl ?_ ⟨d1, d2, m0, m1, m2, m3, m4, m5⟩ ?_; rotate_left; focus (intro W hS; obtain ⟨s1, s2, r0, r1, r2, r3, r4, r5⟩ := hS; go_simp; rfl))
      iterate 12 (refine ord_flo ?_ (fun _ _ _ h => h) (by rw [hops.out]; kernel_rfl) ?_ ⟨d1, d2, m0, m1, m2, m3, m4, m5⟩ ?_; rotate_left; focus (intro W hS; obtain ⟨s1, s2, r0, r1, r2, r3, r4, r5⟩ := hS; go_simp; rfl))
      iterate 2 (refine ord_flo ?_ (fun _ _ _ h => h) rfl ?_ ⟨d1, d2, m0, m1, m2, m3, m4, m5⟩ ?_; rotate_left; focus (intro W hS; obtain ⟨s1, s2, r0, r1, r2, r3, r4, r5⟩ := hS; go_simp; rfl))
      iterate 4 (refine ord_flo ?_ (fun _ _ _ h => h) (by rw [hops.out]; kernel_rfl) ?_ ⟨d1, d2, m0, m1, m2, m3, m4, m5⟩ ?_; rotate_left; focus (intro W hS; obtain ⟨s1, s2, r0, r1, r2, r3, r4, r5⟩ := hS; go_simp; rfl))
      refine ord_ev (by rw [hops.out]; kernel_rfl) ?_
      go_simp
      refine CA.out.mono ?_
      rintro e w3 ⟨v', rs, rfl, hrs, hH, hb3, hg3⟩
      rw [HW.out.box] at hrs
      rw [HW.out.box]
      have hD3 := HD.out.dnext hrs hH hg3
      have HD3 := Lib.hid hD3
      have HB3 := Lib.hid (HBX.out.trans hb3)
      have hM3 : w3.heap[w.heap.size]? = some (.cells #[.int .i64 m.kind, .int .i64 m.validity, .int .i64 m.uid, .int .i64 m.flags, sv m.name, sv m.text] 26 (0, 0)) := (hg3.block w.heap.size (Array.getElem?_eq_some_iff.1 HM.out).1 (fun hm => by
        have hlt := HW.out.held.lt
        rcases List.mem_cons.1 hm with hm | hm
        · omega
        · have := LfIn.lt _ _ _ HW.out.held.own.tree.is _ hm
          omega)).trans HM.out
      have HM3 := Lib.hid hM3
      clear d1 d2 m0 m1 m2 m3 m4 m5 hrs hH hb3 hg3 CA
      obtain ⟨⟨-, d1, d2⟩, -⟩ := hD3.dcells
      obtain ⟨⟨m0, m1, m2, m3, m4, m5⟩, -⟩ := com6 hM3
      clear hD3 hM3
      refine ⟨⟨d1, d2, m0, m1, m2, m3, m4, m5⟩, ?_⟩
      iterate 1 (refine ord_flo ?_ (fun _ _ _ h => h) (by rw [hops.out]; kernel_rfl) ?_ ⟨d1, d2, m0, m1, m2, m3, m4, m5⟩ ?_; rotate_left; focus (intro W hS; obtain ⟨s1, s2, r0, r1, r2, r3, r4, r5⟩ := hS; go_simp; rfl))
      iterate 1 (refine ord_flo ?_ (fun _ _ _ h => h) rfl ?_ ⟨d1, d2, m0, m1, m2, m3, m4, m5⟩ ?_; rotate_left; focus (intro W hS; obtain ⟨s1, s2, r0, r1, r2, r3, r4, r5⟩ := hS; go_simp; rfl))
      refine ord_done ?_
      go_simp
      clear d1 d2 m0 m1 m2 m3 m4 m5
      cases ha : appB x.boxes m with
      | false =>
        have HS := Lib.hid (stor_1 ha)
        have HF := Lib.hid (show DraftS B b er w3 x v' (.slice pl x.log.length cl) rs by have h0 := HD3.out; rw [applied_no ha] at h0; exact h0)
        clear ha
        go_wp2
        go_ret
        exact ⟨v', _, rs, by rw [HS.out] <;> rfl, by rw [stor_x HS.out]; exact HF.out, HB3.out⟩
      | true =>
        have HS := Lib.hid (stor_4 ha HL3.out (fun h => HNV.out h.2))
        have HF := Lib.hid (show DraftS B b er w3 ⟨doneL x.boxes m, x.log, x.given⟩ v' (.slice pl x.log.length cl) rs by have h0 := HD3.out; rw [applied_yes ha] at h0; exact h0)
        clear ha
        go_wp2
        refine ordz_start [(0, true), (1, true), (2, true), (3, true), (4, true), (5, true), (6, false), (7, false), (8, true), (9, true), (10, false)] 10 (fun W => W.cell? ⟨b, 1, none⟩ = some (.slice pl x.log.length cl) ∧ W.cell? ⟨w.heap.size, 0, none⟩ = some (.int .i64 m.kind) ∧ W.cell? ⟨w.heap.size, 1, none⟩ = some (.int .i64 m.validity) ∧ W.cell? ⟨w.heap.size, 2, none⟩ = some (.int .i64 m.uid) ∧ W.cell? ⟨w.heap.size, 3, none⟩ = some (.int .i64 m.flags) ∧ W.cell? ⟨w.heap.size, 4, none⟩ = some (sv m.name) ∧ W.cell? ⟨w.heap.size, 5, none⟩ = some (sv m.text)) (by kernel_rfl) (by kernel_rfl) rfl (by kernel_rfl) ?_
        intro ops' hops
        clear hops
        simp only [List.map_cons, List.map_nil, pickOp_zero, pickOp_succ]
        have HFd := Lib.hid (HF.out.dunder (Below.refl _ _).drew)
        have hMd : w3.drew.heap[w.heap.size]? = some (.cells #[.int .i64 m.kind, .int .i64 m.validity, .int .i64 m.uid, .int .i64 m.flags, sv m.name, sv m.text] 26 (0, 0)) := HM3.out
        have hBd := HB3.out.drew
        have HBd := Lib.hid hBd
        have HMd := Lib.hid hMd
        generalize w3.drew = D at *
        obtain ⟨⟨-, d1, -⟩, -⟩ := HFd.out.dcells
        obtain ⟨⟨m0, m1, m2, m3, m4, m5⟩, -⟩ := com6 hMd
        have hsz := HFd.out.held.size
        have hbD := HFd.out.held.lt
        have hwD := (Array.getElem?_eq_some_iff.1 hMd).1
        clear hMd hBd
        iterate 6 (refine ordz_flo ?_ (fun _ _ _ h => h) rfl ?_ ⟨d1, m0, m1, m2, m3, m4, m5⟩ ?_; rotate_left; focus (intro W hS; obtain ⟨s1, r0, r1, r2, r3, r4, r5⟩ := hS; go_simp; rfl))
        have hb1 := (Below.refl D.heap.size D).alloc (Nat.le_refl _) (.cells #[.int .i64 m.kind, .int .i64 m.validity, .int .i64 m.uid, .int .i64 m.flags, sv m.name, sv m.text] 26)
        have d1a := (hb1.cell (p := ⟨b, 1, none⟩) hbD).trans d1
        have n0a := (hb1.cell (p := ⟨w.heap.size, 0, none⟩) hwD).trans m0
        have n1a := (hb1.cell (p := ⟨w.heap.size, 1, none⟩) hwD).trans m1
        have n2a := (hb1.cell (p := ⟨w.heap.size, 2, none⟩) hwD).trans m2
        have n3a := (hb1.cell (p := ⟨w.heap.size, 3, none⟩) hwD).trans m3
        have n4a := (hb1.cell (p := ⟨w.heap.size, 4, none⟩) hwD).trans m4
        have n5a := (hb1.cell (p := ⟨w.heap.size, 5, none⟩) hwD).trans m5
        refine ordz_ev rfl ?_
        go_simp
        clear d1a n0a n1a n2a n3a n4a n5a hb1
        refine ordz_ev rfl ?_
        refine wp_app1 Tryz.el_commit (.tmp 37) (.tmp 39) rfl D D (.slice pl x.log.length cl) x.log.length (x.log.flatMap comc) rfl HFd.out.log (Below.refl _ _) hsz #[.int .i64 m.kind, .int .i64 m.validity, .int .i64 m.uid, .int .i64 m.flags, sv m.name, sv m.text] (.inr rfl) 1 1 rfl rfl (by simp [Value.oneCell']) (by omega) (by have := HLG.out; omega) (by have := HLG.out; omega) ?_
        intro gn cap w6 ho6 hb6 hg6 hor6 hlt6
        have hMore := HFd.out.dmore (m := m) hg6 ho6
        have hlb : (Value.slice pl x.log.length cl).ownBlock ≠ some w.heap.size := fun e => by
          obtain ⟨cur, hc⟩ := own_type HW.out.log (show w.heap.size ∈ (Value.slice pl x.log.length cl).ownBlock.toList by rw [e]; simp)
          have := (Array.getElem?_eq_some_iff.1 hc).1
          omega
        have hM6 : w6.heap[w.heap.size]? = some (.cells #[.int .i64 m.kind, .int .i64 m.validity, .int .i64 m.uid, .int .i64 m.flags, sv m.name, sv m.text] 26 (0, 0)) := (hg6.block w.heap.size hwD (fun e => hlb e.symm)).trans HMd.out
        have hk6 : w6.heap[b]? = some (.cells #[v', .slice pl x.log.length cl, .int .i64 x.given] 108 (0, 0)) := (hg6.block b hbD (fun e => (HFd.out.dlg e.symm).1 rfl)).trans HFd.out.held.blk
        have HMO := Lib.hid hMore
        have HB6 := Lib.hid (HBd.out.trans hb6)
        have HM6 := Lib.hid hM6
        have hbw : b ≠ w.heap.size := by have := HW.out.held.lt; omega
        obtain ⟨⟨-, d1n, -⟩, ⟨-, f1n, -⟩, -⟩ := blk_3c hk6
        obtain ⟨⟨k0, k1, k2, k3, k4, k5⟩, -⟩ := com6 hM6
        clear hMore ho6 hb6 hg6 hor6 hlt6 hM6 hk6 hlb d1 m0 m1 m2 m3 m4 m5
        refine ⟨fun _ => ⟨d1n, k0, k1, k2, k3, k4, k5⟩, ?_⟩
        iterate 2 (refine ordz_flo ?_ (fun _ _ _ h => h) rfl ?_ ⟨d1n, k0, k1, k2, k3, k4, k5⟩ ?_; rotate_left; focus (intro W hS; obtain ⟨s1, r0, r1, r2, r3, r4, r5⟩ := hS; go_simp; rfl))
        refine ordz_ev rfl ?_
        go_simp
        refine ordz_done ?_
        go_simp
        clear d1n f1n k0 k1 k2 k3 k4 k5
        go_wp2
        refine wp_named1 ?_
        intro Y hY
        have hMO := HMO.out
        rw [← hY] at hMO
        have hMY : Y.heap[w.heap.size]? = some (.cells #[.int .i64 m.kind, .int .i64 m.validity, .int .i64 m.uid, .int .i64 m.flags, sv m.name, sv m.text] 26 (0, 0)) := by rw [hY]; exact (set_other (by omega)).trans HM6.out
        have hBY : Below B w Y := by rw [hY]; exact HB6.out.setCell HW.out.held.hB _
        clear hY HMO HB6 HM6
        refine ordz_start [(0, true), (1, true), (2, true), (3, true), (4, true), (5, true), (6, true), (7, false), (8, true), (9, true), (10, false)] 10 (fun W => W.cell? ⟨b, 2, none⟩ = some (.int .i64 x.given) ∧ W.cell? ⟨w.heap.size, 1, none⟩ = some (.int .i64 m.validity)) (by kernel_rfl) (by kernel_rfl) rfl (by kernel_rfl) ?_
        intro ops' hops
        clear hops
        simp only [List.map_cons, List.map_nil, pickOp_zero, pickOp_succ]
        have HMO := Lib.hid (hMO.dunder (Below.refl _ _).drew)
        have HBY := Lib.hid hBY.drew
        have hMY : Y.drew.heap[w.heap.size]? = _ := hMY
        generalize Y.drew = E at *
        obtain ⟨⟨-, -, d2⟩, ⟨-, -, f2⟩⟩ := HMO.out.dcells
        obtain ⟨⟨-, m1, -⟩, -⟩ := com6 hMY
        clear hMY hMO hBY
        iterate 7 (refine ordz_flo ?_ (fun _ _ _ h => h) rfl ?_ ⟨d2, m1⟩ ?_; rotate_left; focus (intro W hS; obtain ⟨s1, s2⟩ := hS; go_simp; rfl))
        refine ordz_ev rfl ?_
        go_simp
        iterate 2 (refine ordz_flo ?_ (fun _ _ _ h => h) rfl ?_ ⟨d2, m1⟩ ?_; rotate_left; focus (intro W hS; obtain ⟨s1, s2⟩ := hS; go_simp; rfl))
        refine ordz_ev rfl ?_
        go_simp
        refine ordz_done ?_
        go_simp
        have HGV := Lib.hid (HMO.out.dgive (max x.given m.validity))
        have HBF := Lib.hid (HBY.out.setCell (p := ⟨b, 2, none⟩) HW.out.held.hB (.int .i64 (max x.given m.validity)))
        clear d2 f2 m1
        go_wp2
        go_ret
        exact ⟨v', _, rs, by rw [HS.out] <;> rfl, by rw [stor_y HS.out, maxI_max]; exact HGV.out, HBF.out⟩
  · have t1k : (m.kind == 1) = false := by rw [beq_eq_false_iff_ne]; exact hk
    have HK := Lib.hid hk
    clear hk
    refine ord_start [(0, true), (1, true), (2, true), (3, true), (4, true), (5, true), (6, true), (7, true), (8, true), (9, true), (10, true), (11, true), (12, true), (13, true), (14, true), (15, true), (16, true), (17, true), (18, true), (19, true), (20, true), (21, true), (22, true), (23, true), (24, true), (25, false), (26, true), (27, true)] (fun W => W.cell? ⟨b, 1, none⟩ = some (.slice pl x.log.length cl) ∧ W.cell? ⟨b, 2, none⟩ = some (.int .i64 x.given) ∧ W.cell? ⟨w.heap.size, 0, none⟩ = some (.int .i64 m.kind) ∧ W.cell? ⟨w.heap.size, 1, none⟩ = some (.int .i64 m.validity) ∧ W.cell? ⟨w.heap.size, 2, none⟩ = some (.int .i64 m.uid) ∧ W.cell? ⟨w.heap.size, 3, none⟩ = some (.int .i64 m.flags) ∧ W.cell? ⟨w.heap.size, 4, none⟩ = some (sv m.name) ∧ W.cell? ⟨w.heap.size, 5, none⟩ = some (sv m.text)) (by kernel_rfl) (by kernel_rfl) rfl (by kernel_rfl) ?_
    intro ops' hops
    simp only [List.map_cons, List.map_nil, pickOp_zero, pickOp_succ]
    iterate 7 (refine ord_flo ?_ (fun _ _ _ h => h) rfl ?_ ⟨d1, d2, m0, m1, m2, m3, m4, m5⟩ ?_; rotate_left; focus (intro W hS; obtain ⟨s1, s2, r0, r1, r2, r3, r4, r5⟩ := hS; go_simp; rfl))
    iterate 4 (refine ord_flo ?_ (fun _ _ _ h => h) (by rw [hops.out]; kernel_rfl) ?_ ⟨d1, d2, m0, m1, m2, m3, m4, m5⟩ ?_; rotate_left; focus (intro W hS; obtain ⟨s1, s2, r0, r1, r2, r3, r4, r5⟩ := hS; go_simp; rfl))
    iterate 7 (refine ord_not (fun _ _ _ h => h) (by rw [hops.out]; kernel_rfl) ⟨d1, d2, m0, m1, m2, m3, m4, m5⟩ ?_)
    iterate 1 (refine ord_flo ?_ (fun _ _ _ h => h) (by rw [hops.out]; kernel_rfl) ?_ ⟨d1, d2, m0, m1, m2, m3, m4, m5⟩ ?_; rotate_left; focus (intro W hS; obtain ⟨s1, s2, r0, r1, r2, r3, r4, r5⟩ := hS; go_simp; rfl))
    iterate 2 (refine ord_flo ?_ (fun _ _ _ h => h) rfl ?_ ⟨d1, d2, m0, m1, m2, m3, m4, m5⟩ ?_; rotate_left; focus (intro W hS; obtain ⟨s1, s2, r0, r1, r2, r3, r4, r5⟩ := hS; go_simp; rfl))
    iterate 4 (refine ord_flo ?_ (fun _ _ _ h => h) (by rw [hops.out]; kernel_rfl) ?_ ⟨d1, d2, m0, m1, m2, m3, m4, m5⟩ ?_; rotate_left; focus (intro W hS; obtain ⟨s1, s2, r0, r1, r2, r3, r4, r5⟩ := hS; go_simp; rfl))
    refine ord_ev (by rw [hops.out]; kernel_rfl) ?_
    go_simp
    refine CA.out.mono ?_
    rintro e w3 ⟨v', rs, rfl, hrs, hH, hb3, hg3⟩
    rw [HW.out.box] at hrs
    rw [HW.out.box]
    have hD3 := HD.out.dnext hrs hH hg3
    have HD3 := Lib.hid hD3
    have HB3 := Lib.hid (HBX.out.trans hb3)
    have hM3 : w3.heap[w.heap.size]? = some (.cells #[.int .i64 m.kind, .int .i64 m.validity, .int .i64 m.uid, .int .i64 m.flags, sv m.name, sv m.text] 26 (0, 0)) := (hg3.block w.heap.size (Array.getElem?_eq_some_iff.1 HM.out).1 (fun hm => by
      have hlt := HW.out.held.lt
      rcases List.mem_cons.1 hm with hm | hm
      · omega
      · have := LfIn.lt _ _ _ HW.out.held.own.tree.is _ hm
        omega)).trans HM.out
    have HM3 := Lib.hid hM3
    clear d1 d2 m0 m1 m2 m3 m4 m5 hrs hH hb3 hg3 CA
    obtain ⟨⟨-, d1, d2⟩, -⟩ := hD3.dcells
    obtain ⟨⟨m0, m1, m2, m3, m4, m5⟩, -⟩ := com6 hM3
    clear hD3 hM3
    refine ⟨⟨d1, d2, m0, m1, m2, m3, m4, m5⟩, ?_⟩
    iterate 1 (refine ord_flo ?_ (fun _ _ _ h => h) (by rw [hops.out]; kernel_rfl) ?_ ⟨d1, d2, m0, m1, m2, m3, m4, m5⟩ ?_; rotate_left; focus (intro W hS; obtain ⟨s1, s2, r0, r1, r2, r3, r4, r5⟩ := hS; go_simp; rfl))
    iterate 1 (refine ord_flo ?_ (fun _ _ _ h => h) rfl ?_ ⟨d1, d2, m0, m1, m2, m3, m4, m5⟩ ?_; rotate_left; focus (intro W hS; obtain ⟨s1, s2, r0, r1, r2, r3, r4, r5⟩ := hS; go_simp; rfl))
    refine ord_done ?_
    go_simp
    clear d1 d2 m0 m1 m2 m3 m4 m5
    cases ha : appB x.boxes m with
    | false =>
      have HS := Lib.hid (stor_1 ha)
      have HF := Lib.hid (show DraftS B b er w3 x v' (.slice pl x.log.length cl) rs by have h0 := HD3.out; rw [applied_no ha] at h0; exact h0)
      clear ha
      go_wp2
      go_ret
      exact ⟨v', _, rs, by rw [HS.out] <;> rfl, by rw [stor_x HS.out]; exact HF.out, HB3.out⟩
    | true =>
      have HS := Lib.hid (stor_4 ha HL3.out (fun h => HK.out h.1))
      have HF := Lib.hid (show DraftS B b er w3 ⟨doneL x.boxes m, x.log, x.given⟩ v' (.slice pl x.log.length cl) rs by have h0 := HD3.out; rw [applied_yes ha] at h0; exact h0)
      clear ha
      go_wp2
      refine ordz_start [(0, true), (1, true), (2, true), (3, true), (4, true), (5, true), (6, false), (7, false), (8, true), (9, true), (10, false)] 10 (fun W => W.cell? ⟨b, 1, none⟩ = some (.slice pl x.log.length cl) ∧ W.cell? ⟨w.heap.size, 0, none⟩ = some (.int .i64 m.kind) ∧ W.cell? ⟨w.heap.size, 1, none⟩ = some (.int .i64 m.validity) ∧ W.cell? ⟨w.heap.size, 2, none⟩ = some (.int .i64 m.uid) ∧ W.cell? ⟨w.heap.size, 3, none⟩ = some (.int .i64 m.flags) ∧ W.cell? ⟨w.heap.size, 4, none⟩ = some (sv m.name) ∧ W.cell? ⟨w.heap.size, 5, none⟩ = some (sv m.text)) (by kernel_rfl) (by kernel_rfl) rfl (by kernel_rfl) ?_
      intro ops' hops
      clear hops
      simp only [List.map_cons, List.map_nil, pickOp_zero, pickOp_succ]
      have HFd := Lib.hid (HF.out.dunder (Below.refl _ _).drew)
      have hMd : w3.drew.heap[w.heap.size]? = some (.cells #[.int .i64 m.kind, .int .i64 m.validity, .int .i64 m.uid, .int .i64 m.flags, sv m.name, sv m.text] 26 (0, 0)) := HM3.out
      have hBd := HB3.out.drew
      have HBd := Lib.hid hBd
      have HMd := Lib.hid hMd
      generalize w3.drew = D at *
      obtain ⟨⟨-, d1, -⟩, -⟩ := HFd.out.dcells
      obtain ⟨⟨m0, m1, m2, m3, m4, m5⟩, -⟩ := com6 hMd
      have hsz := HFd.out.held.size
      have hbD := HFd.out.held.lt
      have hwD := (Array.getElem?_eq_some_iff.1 hMd).1
      clear hMd hBd
      iterate 6 (refine ordz_flo ?_ (fun _ _ _ h => h) rfl ?_ ⟨d1, m0, m1, m2, m3, m4, m5⟩ ?_; rotate_left; focus (intro W hS; obtain ⟨s1, r0, r1, r2, r3, r4, r5⟩ := hS; go_simp; rfl))
      have hb1 := (Below.refl D.heap.size D).alloc (Nat.le_refl _) (.cells #[.int .i64 m.kind, .int .i64 m.validity, .int .i64 m.uid, .int .i64 m.flags, sv m.name, sv m.text] 26)
      have d1a := (hb1.cell (p := ⟨b, 1, none⟩) hbD).trans d1
      have n0a := (hb1.cell (p := ⟨w.heap.size, 0, none⟩) hwD).trans m0
      have n1a := (hb1.cell (p := ⟨w.heap.size, 1, none⟩) hwD).trans m1
      have n2a := (hb1.cell (p := ⟨w.heap.size, 2, none⟩) hwD).trans m2
      have n3a := (hb1.cell (p := ⟨w.heap.size, 3, none⟩) hwD).trans m3
      have n4a := (hb1.cell (p := ⟨w.heap.size, 4, none⟩) hwD).trans m4
      have n5a := (hb1.cell (p := ⟨w.heap.size, 5, none⟩) hwD).trans m5
      refine ordz_ev rfl ?_
      go_simp
      clear d1a n0a n1a n2a n3a n4a n5a hb1
      refine ordz_ev rfl ?_
      refine wp_app1 Tryz.el_commit (.tmp 37) (.tmp 39) rfl D D (.slice pl x.log.length cl) x.log.length (x.log.flatMap comc) rfl HFd.out.log (Below.refl _ _) hsz #[.int .i64 m.kind, .int .i64 m.validity, .int .i64 m.uid, .int .i64 m.flags, sv m.name, sv m.text] (.inr rfl) 1 1 rfl rfl (by simp [Value.oneCell']) (by omega) (by have := HLG.out; omega) (by have := HLG.out; omega) ?_
      intro gn cap w6 ho6 hb6 hg6 hor6 hlt6
      have hMore := HFd.out.dmore (m := m) hg6 ho6
      have hlb : (Value.slice pl x.log.length cl).ownBlock ≠ some w.heap.size := fun e => by
        obtain ⟨cur, hc⟩ := own_type HW.out.log (show w.heap.size ∈ (Value.slice pl x.log.length cl).ownBlock.toList by rw [e]; simp)
        have := (Array.getElem?_eq_some_iff.1 hc).1
        omega
      have hM6 : w6.heap[w.heap.size]? = some (.cells #[.int .i64 m.kind, .int .i64 m.validity, .int .i64 m.uid, .int .i64 m.flags, sv m.name, sv m.text] 26 (0, 0)) := (hg6.block w.heap.size hwD (fun e => hlb e.symm)).trans HMd.out
      have hk6 : w6.heap[b]? = some (.cells #[v', .slice pl x.log.length cl, .int .i64 x.given] 108 (0, 0)) := (hg6.block b hbD (fun e => (HFd.out.dlg e.symm).1 rfl)).trans HFd.out.held.blk
      have HMO := Lib.hid hMore
      have HB6 := Lib.hid (HBd.out.trans hb6)
      have HM6 := Lib.hid hM6
      have hbw : b ≠ w.heap.size := by have := HW.out.held.lt; omega
      obtain ⟨⟨-, d1n, -⟩, ⟨-, f1n, -⟩, -⟩ := blk_3c hk6
      obtain ⟨⟨k0, k1, k2, k3, k4, k5⟩, -⟩ := com6 hM6
      clear hMore ho6 hb6 hg6 hor6 hlt6 hM6 hk6 hlb d1 m0 m1 m2 m3 m4 m5
      refine ⟨fun _ => ⟨d1n, k0, k1, k2, k3, k4, k5⟩, ?_⟩
      iterate 2 (refine ordz_flo ?_ (fun _ _ _ h => h) rfl ?_ ⟨d1n, k0, k1, k2, k3, k4, k5⟩ ?_; rotate_left; focus (intro W hS; obtain ⟨s1, r0, r1, r2, r3, r4, r5⟩ := hS; go_simp; rfl))
      refine ordz_ev rfl ?_
      go_simp
      refine ordz_done ?_
      go_simp
      clear d1n f1n k0 k1 k2 k3 k4 k5
      go_wp2
      refine wp_named1 ?_
      intro Y hY
      have hMO := HMO.out
      rw [← hY] at hMO
      have hMY : Y.heap[w.heap.size]? = some (.cells #[.int .i64 m.kind, .int .i64 m.validity, .int .i64 m.uid, .int .i64 m.flags, sv m.name, sv m.text] 26 (0, 0)) := by rw [hY]; exact (set_other (by omega)).trans HM6.out
      have hBY : Below B w Y := by rw [hY]; exact HB6.out.setCell HW.out.held.hB _
      clear hY HMO HB6 HM6
      refine ordz_start [(0, true), (1, true), (2, true), (3, true), (4, true), (5, true), (6, true), (7, false), (8, true), (9, true), (10, false)] 10 (fun W => W.cell? ⟨b, 2, none⟩ = some (.int .i64 x.given) ∧ W.cell? ⟨w.heap.size, 1, none⟩ = some (.int .i64 m.validity)) (by kernel_rfl) (by kernel_rfl) rfl (by kernel_rfl) ?_
      intro ops' hops
      clear hops
      simp only [List.map_cons, List.map_nil, pickOp_zero, pickOp_succ]
      have HMO := Lib.hid (hMO.dunder (Below.refl _ _).drew)
      have HBY := Lib.hid hBY.drew
      have hMY : Y.drew.heap[w.heap.size]? = _ := hMY
      generalize Y.drew = E at *
      obtain ⟨⟨-, -, d2⟩, ⟨-, -, f2⟩⟩ := HMO.out.dcells
      obtain ⟨⟨-, m1, -⟩, -⟩ := com6 hMY
      clear hMY hMO hBY
      iterate 7 (refine ordz_flo ?_ (fun _ _ _ h => h) rfl ?_ ⟨d2, m1⟩ ?_; rotate_left; focus (intro W hS; obtain ⟨s1, s2⟩ := hS; go_simp; rfl))
      refine ordz_ev rfl ?_
      go_simp
      iterate 2 (refine ordz_flo ?_ (fun _ _ _ h => h) rfl ?_ ⟨d2, m1⟩ ?_; rotate_left; focus (intro W hS; obtain ⟨s1, s2⟩ := hS; go_simp; rfl))
      refine ordz_ev rfl ?_
      go_simp
      refine ordz_done ?_
      go_simp
      have HGV := Lib.hid (HMO.out.dgive (max x.given m.validity))
      have HBF := Lib.hid (HBY.out.setCell (p := ⟨b, 2, none⟩) HW.out.held.hB (.int .i64 (max x.given m.validity)))
      clear d2 f2 m1
      go_wp2
      go_ret
      exact ⟨v', _, rs, by rw [HS.out] <;> rfl, by rw [stor_y HS.out, maxI_max]; exact HGV.out, HBF.out⟩

set_option maxRecDepth 20000 in
set_option maxHeartbeats 3200000 in
theorem storeOf_any (B b : Nat) (er : Addr) (x : StoD) (v lgv : Value) (ps : List BP) (w : World) (h : DraftS B b er w x v lgv ps) :
    Calls Tryz.prog 93 #[.pointer (some ⟨b, 0, none⟩)] w fun e w' => e = .returned (.agg #[v, lgv, .int .i64 x.given]) ∧ Below w.heap.size w w' := by
  obtain ⟨pl, cl, rfl, -⟩ := own9_form h.log
  obtain ⟨pv, cv, hvv⟩ := LfIn.slice h.held.own.tree.is
  rw [List.length_map] at hvv
  subst hvv
  have hb1 : Below w.heap.size w (w.alloc (.cells #[.slice none 0 0, .slice none 0 0, .int .i64 0] 46)) := (Below.refl _ _).alloc (Nat.le_refl _) _
  have n1 := heap_alloc_new w (.cells #[.slice none 0 0, .slice none 0 0, .int .i64 0] 46)
  obtain ⟨X, hX⟩ : ∃ X, w.alloc (.cells #[.slice none 0 0, .slice none 0 0, .int .i64 0] 46) = X := ⟨_, rfl⟩
  rw [hX] at hb1 n1
  have hbd : Below w.heap.size w X.drew := hb1.trans ((Below.refl X.heap.size X).drew.mono hb1.size)
  have n1 : X.drew.heap[w.heap.size]? = _ := n1
  obtain ⟨⟨d0, d1, d2⟩, -⟩ := (h.dunder hbd).dcells
  obtain ⟨⟨q0, q1, q2⟩, ⟨y0, y1, y2⟩, t0, t1, t2⟩ := blk_3c n1
  have hbw : b ≠ w.heap.size := by have := h.held.lt; omega
  have HF := Lib.hid (show ∀ a b c : Value, Below w.heap.size w (((X.drew.setCell ⟨w.heap.size, 0, none⟩ a).setCell ⟨w.heap.size, 1, none⟩ b).setCell ⟨w.heap.size, 2, none⟩ c) from fun a b c => ((hbd.setCell (Nat.le_refl _) _).setCell (Nat.le_refl _) _).setCell (Nat.le_refl _) _)
  clear h hb1 n1 hbd
  go_enter Tryz.func93, Tryz.ntmps93
  go_wp2
  clear hX
  refine ord_start [(0, true), (1, true), (2, true), (3, true), (4, true), (5, true), (6, true), (7, true), (8, true), (9, true), (10, true), (11, true), (12, true), (13, true), (14, false)] (fun W => W.cell? ⟨b, 0, none⟩ = some (.slice pv ps.length cv) ∧ W.cell? ⟨b, 1, none⟩ = some (.slice pl x.log.length cl) ∧ W.cell? ⟨b, 2, none⟩ = some (.int .i64 x.given)) (by kernel_rfl) (by kernel_rfl) rfl (by kernel_rfl) ?_
  intro ops' hops
  clear hops
  simp only [List.map_cons, List.map_nil, pickOp_zero, pickOp_succ]
  generalize X.drew = D at *
  iterate 14 (refine ord_flo ?_ (fun _ _ _ h => h) rfl ?_ ⟨d0, d1, d2⟩ ?_; rotate_left; focus (intro W hS; obtain ⟨s0, s1, s2⟩ := hS; go_simp; rfl))
  refine ord_ev rfl ?_
  go_simp
  refine ord_done ?_
  go_simp
  go_wp2_with fail
  exact bodyPost_ret (v := .agg #[.slice pv ps.length cv, .slice pl x.log.length cl, .int .i64 x.given]) (by simp [results, Tryz.results93, go_sem, t0, t1, t2]) rfl ⟨rfl, HF.out _ _ _⟩

end Go.Proofs.YtbfgdbpfecffcaaGreatDoor
