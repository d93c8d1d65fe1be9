/-
  So: ComI ComL (what the claim needs of them).
-/
import Derived.Handy
import Derived.Test.YtbfgdbpfecffcaaGreatDoorRows
import Derived.WalkKit
import Derived.WalkSpells
import Derived.WalkLawsBesides
import Derived.Laws.IdiomStrings
import Derived.Lib.Hide
import Derived.Deep.AppendLies
import Derived.OrdersHeld
import Derived.Lib.ItoaNum
import Derived.Lib.ItoaMem
import Derived.Lib.AppendStr
import Derived.Lib.ItoaLen
import Derived.Lib.Strings
import Derived.Lib.Bytealg
import Derived.Lib.OthersKept
import Derived.Laws.RangeAny
import Derived.Laws.BitsAllLaws
import Derived.Laws.BitsLemmas
import Derived.IntWalk
import Derived.Lib.Join
import Derived.Deep.Strs
import Derived.Test.YtbfgdbpfecffcaaGreatDoorProg
import Derived.Test.YtbfgdbpfecffcaaGreatDoorSb
import Derived.Test.YtbfgdbpfecffcaaGreatDoorSc
import Derived.Test.YtbfgdbpfecffcaaGreatDoorSd
import Derived.Test.YtbfgdbpfecffcaaGreatDoorSe
import Derived.Test.YtbfgdbpfecffcaaGreatDoorSf
import Derived.Test.YtbfgdbpfecffcaaGreatDoorSm
import Derived.Test.YtbfgdbpfecffcaaGreatDoorSn

namespace Go.Proofs.YtbfgdbpfecffcaaGreatDoor
open Go.RowKit

theorem own9_new {B B' : Nat} {W : World} {v : Value} {ps : List BP} (ho : W.ownsRow B' 38 4 v ps.length (ps.flatMap encP)) (hB : B ≤ B') (hk : BpOk W ps) (hn : (ps.flatMap BP.fp).Nodup) (hlo : ∀ q ∈ ps.flatMap BP.fp, B ≤ q ∧ q < B') : Own9 B W v ps :=
  ⟨own9_lower ho hB, hk, List.nodup_append.2 ⟨by cases v.ownBlock <;> simp, hn, fun a ha b hb e => by have h1 := (ho.lt a (by simpa using ha)).1; have h2 := (hlo b hb).2; omega⟩, fun q hq => (hlo q hq).1⟩
theorem Own9.fps {B : Nat} {W : World} {v : Value} {ps : List BP} (h : Own9 B W v ps) : (ps.flatMap BP.fp).Nodup ∧ ∀ q ∈ ps.flatMap BP.fp, B ≤ q ∧ q < W.heap.size :=
  ⟨(List.nodup_append.1 h.nd).2.1, fun q hq => ⟨h.low q hq, LsIn.lt _ _ _ (bps_in h.ok) q hq⟩⟩
theorem Own9.cap {B : Nat} {W : World} {v : Value} {ps : List BP} (h : Own9 B W v ps) : CapLe v := CapLe.of_in h.tree.is
theorem lay_fps (ps : List BP) (q : BP) : ((layP ps q).flatMap BP.fp).Perm (q.fp ++ ps.flatMap BP.fp) := by
  have h : (layP ps q).Perm (q :: ps) := by
    unfold layP
    refine List.perm_middle.trans ?_
    rw [List.take_append_drop]
  have := h.flatMap_right BP.fp
  rwa [List.flatMap_cons] at this
theorem erase_fps {ps : List BP} {k : Nat} {x : BP} (h : ps[k]? = some x) : (ps.flatMap BP.fp).Perm (x.fp ++ (ps.eraseIdx k).flatMap BP.fp) := by
  have h1 : ps.Perm (x :: ps.eraseIdx k) := by
    rw [List.eraseIdx_eq_take_drop_succ]
    have h2 := List.perm_middle (a := x) (l₁ := ps.take k) (l₂ := ps.drop (k + 1))
    rwa [← take_drop_at h] at h2
  have := h1.flatMap_right BP.fp
  rwa [List.flatMap_cons] at this
theorem erase_mem {ps : List BP} {k : Nat} {p : BP} (h : p ∈ ps.eraseIdx k) : p ∈ ps := List.mem_of_mem_eraseIdx h
theorem erase_box (ps : List BP) (k : Nat) : (ps.eraseIdx k).map BP.box = (ps.map BP.box).eraseIdx k := by
  rw [List.eraseIdx_eq_take_drop_succ, List.eraseIdx_eq_take_drop_succ, List.map_append, List.map_take, List.map_drop]
theorem layP_mem {ps : List BP} {q p : BP} (h : p ∈ layP ps q) : p = q ∨ p ∈ ps := by
  unfold layP at h
  rcases List.mem_append.1 h with h | h
  · exact .inr (List.mem_of_mem_take h)
  · rcases List.mem_cons.1 h with h | h
    · exact .inl h
    · exact .inr (List.mem_of_mem_drop h)
/-- One box left out. -/
theorem Own9.without {B : Nat} {W W' : World} {v v' : Value} {ps : List BP} {k : Nat} {x : BP} (h : Own9 B W v ps) (hx : ps[k]? = some x) (hB : B ≤ W.heap.size) (ho : W'.ownsRow W.heap.size 38 4 v' (ps.eraseIdx k).length ((ps.eraseIdx k).flatMap encP)) (hb : Below W.heap.size W W') : Own9 B W' v' (ps.eraseIdx k) := by
  obtain ⟨h1, h2⟩ := h.fps
  have hp := erase_fps hx
  have hn := List.nodup_append.1 (hp.nodup_iff.1 h1)
  exact own9_new ho hB (fun p hp => (h.ok.below hb) p (erase_mem hp)) hn.2.1 (fun q hq => h2 q (hp.mem_iff.2 (List.mem_append_right _ hq)))
/-- One box laid in. -/
theorem Own9.lay {B : Nat} {W W' : World} {v v' : Value} {ps : List BP} {q : BP} (h : Own9 B W v ps) (hB : B ≤ W.heap.size) (hq : LfIn W (msgsLf q.box.msgs) q.val q.fp) (hn : q.fp.Nodup) (hl : ∀ b ∈ q.fp, B ≤ b ∧ b < W.heap.size) (hd : ∀ b ∈ q.fp, b ∉ ps.flatMap BP.fp) (ho : W'.ownsRow W.heap.size 38 4 v' (layP ps q).length ((layP ps q).flatMap encP)) (hb : Below W.heap.size W W') : Own9 B W' v' (layP ps q) := by
  obtain ⟨h1, h2⟩ := h.fps
  have hp := lay_fps ps q
  refine own9_new ho hB (fun p hp => ?_) (hp.nodup_iff.2 (List.nodup_append.2 ⟨hn, h1, fun a ha b hb e => hd a ha (e ▸ hb)⟩)) (fun b hb => ?_)
  · rcases layP_mem hp with rfl | hp
    · exact hq.below hb
    · exact (h.ok.below hb) p hp
  · rcases List.mem_append.1 (hp.mem_iff.1 hb) with hb | hb
    · exact hl b hb
    · exact h2 b hb

end Go.Proofs.YtbfgdbpfecffcaaGreatDoor

namespace Go.Proofs.YtbfgdbpfecffcaaGreatDoor
open Go.RowKit

theorem set_mid9 {α : Type} {A us R : List α} {k j : Nat} (hA : A.length = k) (hj : j < us.length) (u : α) : (A ++ us ++ R).set (k + j) u = A ++ us.set j u ++ R := by
  rw [List.append_assoc, List.set_append_right _ _ (by omega), hA, Nat.add_sub_cancel_left, List.set_append_left _ _ hj, ← List.append_assoc]
theorem encs_len : ∀ ps : List BP, (ps.flatMap encP).length = ps.length * 4
  | [] => rfl
  | p :: ps => by rw [List.flatMap_cons, List.length_append, encs_len ps, List.length_cons, encP_len]; omega
theorem encs_set {ps : List BP} {k j : Nat} {z z' : BP} {u : Value} (hz : ps[k]? = some z) (hj : j < 4) (he : encP z' = (encP z).set j u) : (ps.set k z').flatMap encP = (ps.flatMap encP).set (k * 4 + j) u := by
  have hlt := (List.getElem?_eq_some_iff.1 hz).1
  have hA : ((ps.take k).flatMap encP).length = k * 4 := by rw [encs_len, List.length_take, Nat.min_eq_left (by omega)]
  rw [set_at hlt]
  conv => rhs; rw [take_drop_at hz]
  rw [List.flatMap_append, List.flatMap_append, List.flatMap_cons, List.flatMap_cons, he, ← List.append_assoc, ← List.append_assoc, set_mid9 hA hj]
theorem set_fps {ps : List BP} {k : Nat} {z z' : BP} (hz : ps[k]? = some z) : ((ps.set k z').flatMap BP.fp).Perm (z'.fp ++ (ps.eraseIdx k).flatMap BP.fp) := by
  have hlt := (List.getElem?_eq_some_iff.1 hz).1
  have h1 : (ps.set k z')[k]? = some z' := by rw [List.getElem?_set_self hlt]
  have := erase_fps h1
  rwa [List.eraseIdx_set_eq] at this
theorem set_mem {ps : List BP} {k : Nat} {z' p : BP} (h : p ∈ ps.set k z') : p = z' ∨ p ∈ ps.eraseIdx k := by
  obtain ⟨i, hi⟩ := List.mem_iff_getElem?.1 h
  by_cases hik : i = k
  · subst hik
    obtain ⟨h1, _⟩ := List.getElem?_eq_some_iff.1 hi
    rw [List.getElem?_set_self (by simpa using h1)] at hi
    injection hi with hi
    exact .inl hi.symm
  · rw [List.getElem?_set_ne (fun e => hik e.symm)] at hi
    exact .inr (List.mem_eraseIdx_iff_getElem?.2 ⟨i, hik, hi⟩)
theorem Own9.num {B : Nat} {W : World} {p : Option Addr} {n c : Nat} {ps : List BP} (h : Own9 B W (.slice p n c) ps) : n = ps.length := by
  rcases h.row.2 with ⟨h0, h1⟩ | ⟨g, cap, cur, h0, _⟩
  · injection h0 with _ h2 _
    omega
  · injection h0
/-- The messages of one box are others: their row was changed in its own blocks or lies in new ones. -/
theorem Own9.msgs {B : Nat} {W W' : World} {b n c k : Nat} {ps : List BP} {z z' : BP} (h : Own9 B W (.slice (some ⟨b, 0, none⟩) n c) ps) (hz : ps[k]? = some z) (hg : GrownIn W W' z.fp)
    (he : encP z' = (encP z).set 3 z'.val) (hi : LfIn W' (msgsLf z'.box.msgs) z'.val z'.fp) (hn : z'.fp.Nodup) (hf : ∀ q ∈ z'.fp, q ∈ z.fp ∨ W.heap.size ≤ q) :
    Own9 B (W'.setCell ⟨b, k * 4 + 3, none⟩ z'.val) (.slice (some ⟨b, 0, none⟩) n c) (ps.set k z') ∧ W'.cell? ⟨b, k * 4 + 3, none⟩ = some z.val ∧ W'.frozen? ⟨b, k * 4 + 3, none⟩ = false := by
  have hlt := (List.getElem?_eq_some_iff.1 hz).1
  obtain rfl := h.num
  obtain ⟨h1, h2⟩ := h.fps
  have hp := erase_fps hz
  obtain ⟨d1, d2, d3⟩ := nd_parts (hp.nodup_iff.1 h1)
  have hob : (Value.slice (some ⟨b, 0, none⟩) ps.length c).ownBlock = some b := rfl
  have hnd := h.nd
  rw [hob] at hnd
  simp only [Option.toList_some, List.singleton_append, List.nodup_cons] at hnd
  have hbz : b ∉ z.fp := fun hm => hnd.1 (hp.mem_iff.2 (List.mem_append_left _ hm))
  have hbe : b ∉ (ps.eraseIdx k).flatMap BP.fp := fun hm => hnd.1 (hp.mem_iff.2 (List.mem_append_right _ hm))
  have hbW := h.row.lt b rfl
  have hbz' : b ∉ z'.fp := fun hm => (hf b hm).elim hbz (fun h0 => by omega)
  have hrow : W'.ownsRow B 38 4 (.slice (some ⟨b, 0, none⟩) ps.length c) ps.length (ps.flatMap encP) := own_apart h.row hg (fun q hq => by rw [hob] at hq; injection hq with hq; rw [← hq]; exact hbz)
  have hcell : W'.cell? ⟨b, k * 4 + 3, none⟩ = some z.val := by
    rw [hrow.cellAt (k * 4 + 3) (by omega)]
    conv => lhs; rw [take_drop_at hz]
    have hA : ((ps.take k).flatMap encP).length = k * 4 := by rw [encs_len, List.length_take, Nat.min_eq_left (by omega)]
    rw [List.flatMap_append, List.getElem?_append_right (by omega), hA, Nat.add_sub_cancel_left]
    rfl
  have hst := (hrow.stored (k * 4 + 3) z'.val).1
  rw [← encs_set hz (by omega) he] at hst
  have hsp := set_fps (z' := z') hz
  have hzl : ∀ q ∈ z'.fp, B ≤ q := fun q hq => (hf q hq).elim (fun h0 => (h2 q (hp.mem_iff.2 (List.mem_append_left _ h0))).1) (fun h0 => by omega)
  have hdz : ∀ q ∈ z'.fp, q ∉ (ps.eraseIdx k).flatMap BP.fp := fun q hq hm => (hf q hq).elim (fun h0 => d1 q h0 hm) (fun h0 => by have := (h2 q (hp.mem_iff.2 (List.mem_append_right _ hm))).2; omega)
  refine ⟨⟨by rw [List.length_set]; exact hst, fun p hpm => ?_, ?_, fun q hq => ?_⟩, hcell, hrow.frozenAt _⟩
  · rcases set_mem hpm with rfl | hpm
    · exact hi.set hbz'
    · have hpf : ∀ q ∈ p.fp, q ∈ (ps.eraseIdx k).flatMap BP.fp := fun q hq => List.mem_flatMap.2 ⟨p, hpm, hq⟩
      exact LfIn.set (LfIn.away (h.ok p (erase_mem hpm)) hg (fun q hq hm => d1 q hm (hpf q hq))) (fun hm => hbe (hpf b hm))
  · rw [hob]
    simp only [Option.toList_some, List.singleton_append, List.nodup_cons]
    refine ⟨fun hm => ?_, hsp.nodup_iff.2 (List.nodup_append.2 ⟨hn, d3, fun a ha c hc e => hdz a ha (e ▸ hc)⟩)⟩
    rcases List.mem_append.1 (hsp.mem_iff.1 hm) with hm | hm
    · exact hbz' hm
    · exact hbe hm
  · rcases List.mem_append.1 (hsp.mem_iff.1 hq) with hq | hq
    · exact hzl q hq
    · exact (h2 q (hp.mem_iff.2 (List.mem_append_right _ hq))).1
/-- A plain cell of one box is another. -/
theorem Own9.plain {B : Nat} {W : World} {b n c k j : Nat} {ps : List BP} {z z' : BP} {u : Value} (h : Own9 B W (.slice (some ⟨b, 0, none⟩) n c) ps) (hz : ps[k]? = some z) (hj : j < 4) (he : encP z' = (encP z).set j u) (hv : z'.val = z.val) (hm : z'.box.msgs = z.box.msgs) (hf : z'.fp = z.fp) :
    Own9 B (W.setCell ⟨b, k * 4 + j, none⟩ u) (.slice (some ⟨b, 0, none⟩) n c) (ps.set k z') := by
  obtain rfl := h.num
  obtain ⟨h1, h2⟩ := h.fps
  have hp := erase_fps hz
  have hsp := set_fps (z' := z') hz
  rw [hf] at hsp
  have hob : (Value.slice (some ⟨b, 0, none⟩) ps.length c).ownBlock = some b := rfl
  have hnd := h.nd
  rw [hob] at hnd
  simp only [Option.toList_some, List.singleton_append, List.nodup_cons] at hnd
  have hpp := hsp.trans hp.symm
  have hst := (h.row.stored (k * 4 + j) u).1
  rw [← encs_set hz hj he] at hst
  refine ⟨by rw [List.length_set]; exact hst, fun p hpm => ?_, ?_, fun q hq => (h2 q (hpp.mem_iff.1 hq)).1⟩
  · rcases set_mem hpm with rfl | hpm
    · have := h.ok z (List.mem_of_getElem? hz)
      rw [hm, hv, hf]
      exact LfIn.set this (fun hm => hnd.1 (hp.mem_iff.2 (List.mem_append_left _ hm)))
    · exact LfIn.set (h.ok p (erase_mem hpm)) (fun hm => hnd.1 (List.mem_flatMap.2 ⟨p, erase_mem hpm, hm⟩))
  · rw [hob]
    simp only [Option.toList_some, List.singleton_append, List.nodup_cons]
    exact ⟨fun hm => hnd.1 (hpp.mem_iff.1 hm), hpp.nodup_iff.2 h1⟩

end Go.Proofs.YtbfgdbpfecffcaaGreatDoor
