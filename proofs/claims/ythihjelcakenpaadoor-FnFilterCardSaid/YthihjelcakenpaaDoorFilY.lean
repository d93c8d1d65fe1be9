/-
  Chapter 6's draws: what a filter that is being drawn has in memory.
-/
import Derived.Test.YthihjelcakenpaaDoorFilX
import Derived.Test.YthihjelcakenpaaDoorGk
namespace Go.Proofs.YthihjelcakenpaaDoor
open Go.RowKit

/-- A drawn scope's size. -/
def ScB (q : Nat) (s : Scp) : Prop := s.names.length ≤ q ∧ (∀ x ∈ s.names, x.length ≤ 41) ∧ in64 s.kind ∧ in64 s.events
/-- A filter was drawn: its scopes are the call's own. -/
def FltDrawn (m q : Nat) (g : Nat) (code : List UInt8) (w : World) (e : Ending) (w' : World) : Prop :=
  ∃ (f : Flt) (vs : Value) (fp : List Nat), e = .returned (.agg #[.bool f.on, vs]) ∧ f.scopes.length ≤ m ∧ (∀ s ∈ f.scopes, ScB q s) ∧ Tree w' w.heap.size (scpsLf f.scopes) vs fp ∧ Cur w' g code ∧ w.grownBy w' (some g)

/-- A filter that is being drawn: its variable in block cf, the result's place at w.heap.size, its scopes above. -/
structure DfS (w : World) (g : Nat) (code : List UInt8) (cf : Nat) (on : Bool) (vsc : Value) (scs : List Scp) (fp : List Nat) (W : World) : Prop where
  cur : Cur W g code
  blkf : W.heap[cf]? = some (.cells #[.bool on, vsc] 26 (0, 0))
  blkr : W.heap[w.heap.size]? = some (.cells #[.bool false, .slice none 0 0] 26 (0, 0))
  tree : Tree W (w.heap.size + 1) (scpsLf scs) vsc fp
  grown : w.grownBy W (some g)
  og : g < w.heap.size
  oc : w.heap.size < cf
  ocf : cf ∉ fp
section
variable {w W W' : World} {g cf : Nat} {code : List UInt8} {on : Bool} {vsc : Value} {scs : List Scp} {fp : List Nat}
theorem DfS.clt (h : DfS w g code cf on vsc scs fp W) : cf < W.heap.size := (Array.getElem?_eq_some_iff.1 h.blkf).1
theorem DfS.lows (h : DfS w g code cf on vsc scs fp W) : ∀ k ∈ fp, w.heap.size + 1 ≤ k := h.tree.low
theorem DfS.draw (h : DfS w g code cf on vsc scs fp W) (hg : W.grownBy W' (some g)) (hc : Cur W' g code) : DfS w g code cf on vsc scs fp W' where
  cur := hc
  blkf := (hg.block cf h.clt (by intro e; injection e with e; have := h.og; have := h.oc; omega)).trans h.blkf
  blkr := (hg.block w.heap.size (by have := h.clt; have := h.oc; omega) (by intro e; injection e with e; have := h.og; omega)).trans h.blkr
  tree := h.tree.apart (fq := [g]) (by have := GrownIn.of_row hg; simpa using this) (fun k hk hm => by have h1 := h.lows k hk; have h2 := h.og; have h3 : k = g := (by simpa using hm); omega)
  grown := grown_trans h.grown hg
  og := h.og
  oc := h.oc
  ocf := h.ocf
theorem DfS.below (h : DfS w g code cf on vsc scs fp W) (hb : Below W.heap.size W W') : DfS w g code cf on vsc scs fp W' :=
  h.draw (grown_of_below hb) (h.cur.below hb)
theorem DfS.drew (h : DfS w g code cf on vsc scs fp W) : DfS w g code cf on vsc scs fp W.drew := h.below (Below.refl _ _).drew
theorem DfS.alloc (h : DfS w g code cf on vsc scs fp W) (o : Obj) : DfS w g code cf on vsc scs fp (W.alloc o) := h.below ((Below.refl _ _).alloc (Nat.le_refl _) _)
theorem DfS.cells (h : DfS w g code cf on vsc scs fp W) : W.cell? ⟨cf, 0, none⟩ = some (.bool on) ∧ W.cell? ⟨cf, 1, none⟩ = some vsc ∧ W.frozen? ⟨cf, 0, none⟩ = false ∧ W.frozen? ⟨cf, 1, none⟩ = false :=
  ⟨(Lib.cell_of_heap h.blkf 0).trans rfl, (Lib.cell_of_heap h.blkf 1).trans rfl, Lib.frozen_of_heap h.blkf 0, Lib.frozen_of_heap h.blkf 1⟩
theorem DfS.row (h : DfS w g code cf on vsc scs fp W) : ∃ xs fq, W.ownsRow (w.heap.size + 1) 55 3 vsc scs.length xs ∧ LsIn W (scs.flatMap Scp.lf) xs fq ∧ fp = vsc.ownBlock.toList ++ fq := by
  obtain ⟨_, xs, fq, ho, hx, hf⟩ := h.tree.is
  exact ⟨xs, fq, own_rebase ho (fun k hk => h.tree.low k (by rw [hf, hk]; simp)), hx, hf⟩
theorem DfS.setOn (h : DfS w g code cf on vsc scs fp W) (b : Bool) : DfS w g code cf b vsc scs fp (W.setCell ⟨cf, 0, none⟩ (.bool b)) where
  cur := h.cur.put (by have := h.og; have := h.oc; omega) 0 _
  blkf := by rw [set_heap h.blkf]; rfl
  blkr := (set_other (by have := h.oc; omega)).trans h.blkr
  tree := h.tree.apart (fq := [cf]) (GrownIn.set (by simp)) (fun k hk hm => by have h3 : k = cf := (by simpa using hm); subst h3; exact h.ocf hk)
  grown := grown_put h.grown (by have := h.oc; omega) 0 _
  og := h.og
  oc := h.oc
  ocf := h.ocf
/-- A scope is added, its names in a row of its own. -/
theorem DfS.add {W1 : World} (h : DfS w g code cf on vsc scs fp W1) {xs : List Value} {fq : List Nat} (hx : LsIn W1 (scs.flatMap Scp.lf) xs fq) (hf : fp = vsc.ownBlock.toList ++ fq) {B : Nat} {kd ev : Int} {vn : Value} {nm : List (List UInt8)}
    (hn : W1.ownsRow B 9 1 vn nm.length (nm.map sv)) (hB : ∀ k ∈ fp, k < B) (hBc : cf < B) {gn capn : Nat}
    (ho : W'.ownsRow (w.heap.size + 1) 55 3 (.slice (some ⟨gn, 0, none⟩) (scs.length + 1) capn) (scs.length + 1) (xs ++ [.int .i64 kd, vn, .int .i64 ev])) (hg : W1.grownBy W' vsc.ownBlock) (hor : vsc.ownBlock = some gn ∨ W1.heap.size ≤ gn) :
    ∃ fp', DfS w g code cf on (.slice (some ⟨gn, 0, none⟩) (scs.length + 1) capn) (scs ++ [⟨kd, nm, ev⟩]) fp' (W'.setCell ⟨cf, 1, none⟩ (.slice (some ⟨gn, 0, none⟩) (scs.length + 1) capn)) ∧ W'.heap[cf]? = some (.cells #[.bool on, vsc] 26 (0, 0)) := by
  have hgi : GrownIn W1 W' vsc.ownBlock.toList := GrownIn.of_row hg
  have og := h.og
  have oc := h.oc
  have hclt := h.clt
  have hvl : ∀ k ∈ vsc.ownBlock.toList, w.heap.size + 1 ≤ k := fun k hk => h.lows k (by rw [hf]; exact List.mem_append_left _ hk)
  have hfql : ∀ k ∈ fq, w.heap.size + 1 ≤ k ∧ k < W1.heap.size := fun k hk => ⟨h.lows k (by rw [hf]; exact List.mem_append_right _ hk), LsIn.lt _ _ _ hx k hk⟩
  have hnd := h.tree.nodup
  rw [hf] at hnd
  have hfqv : ∀ k ∈ fq, k ∉ vsc.ownBlock.toList := fun k hk hm => (List.nodup_append.1 hnd).2.2 k hm k hk rfl
  have hcfv : cf ∉ vsc.ownBlock.toList := fun hm => h.ocf (by rw [hf]; exact List.mem_append_left _ hm)
  have hcfq : cf ∉ fq := fun hm => h.ocf (by rw [hf]; exact List.mem_append_right _ hm)
  have hblkf : W'.heap[cf]? = some (.cells #[.bool on, vsc] 26 (0, 0)) := (hgi.block cf hclt hcfv).trans h.blkf
  have hvB : ∀ k ∈ vsc.ownBlock.toList, k < B := fun k hk => hB k (by rw [hf]; exact List.mem_append_left _ hk)
  have hnam : W'.ownsRow 0 9 1 vn nm.length (nm.map sv) := own_apart (own_base hn) hgi (fun k hk hm => by
    have h1 := (hn.lt k hk).1
    have h2 := hvB k hm
    omega)
  have hgn : w.heap.size + 1 ≤ gn := (ho.lt gn rfl).1
  have hgncf : gn ≠ cf := by
    rcases hor with e | e
    · intro e2; exact hcfv (by rw [e, e2]; simp)
    · omega
  have hgnfq : gn ∉ fq := fun hm => by
    rcases hor with e | e
    · exact hfqv gn hm (by rw [e]; simp)
    · have := (hfql gn hm).2; omega
  have hvn : ∀ k, vn.ownBlock = some k → k ≠ gn ∧ k ∉ fq ∧ w.heap.size + 1 ≤ k ∧ k ≠ cf := fun k hk => by
    have h1 := hn.lt k hk
    refine ⟨fun e => ?_, fun hm => ?_, by omega, by omega⟩
    · subst e
      rcases hor with e | e
      · have := hvB k (by rw [e]; simp); omega
      · omega
    · have := hB k (by rw [hf]; exact List.mem_append_right _ hm); omega
  have hls : LsIn W' ((scs ++ [(⟨kd, nm, ev⟩ : Scp)]).flatMap Scp.lf) (xs ++ [.int .i64 kd, vn, .int .i64 ev]) (fq ++ vn.ownBlock.toList) := by
    rw [List.flatMap_append]
    refine LsIn.append.2 ⟨xs, _, fq, vn.ownBlock.toList, rfl, LsIn.apart hx hgi hfqv, ?_, rfl⟩
    simpa using scp_mk (s := ⟨kd, nm, ev⟩) hnam rfl
  have hmem : ∀ k ∈ gn :: (fq ++ vn.ownBlock.toList), w.heap.size + 1 ≤ k ∧ k ≠ cf := by
    intro k hk
    rcases List.mem_cons.1 hk with rfl | hk
    · exact ⟨hgn, hgncf⟩
    · rcases List.mem_append.1 hk with hk | hk
      · exact ⟨(hfql k hk).1, fun e => hcfq (e ▸ hk)⟩
      · exact ⟨(hvn k (by simpa using hk)).2.2.1, (hvn k (by simpa using hk)).2.2.2⟩
  have hlo : ∀ k, vsc.ownBlock = some k → w.heap.size + 1 ≤ k := fun k hk => hvl k (by rw [hk]; simp)
  refine ⟨gn :: (fq ++ vn.ownBlock.toList), ⟨?_, ?_, ?_, ⟨?_, ?_, fun k hk => (hmem k hk).1⟩, ?_, og, oc, fun hm => (hmem cf hm).2 rfl⟩, hblkf⟩
  · exact (h.cur.grown hg (fun k hk => by have := hlo k hk; omega)).put (by omega) 1 _
  · rw [set_heap hblkf]; rfl
  · exact (set_other (by omega)).trans ((hgi.block w.heap.size (by omega) (fun hm => by have := hvl _ hm; omega)).trans h.blkr)
  · refine LfIn.frame (W := W') _ _ _ (fun k hk => set_other (hmem k hk).2) ?_
    refine ⟨flat_lenM scp_len _, _, fq ++ vn.ownBlock.toList, ?_, hls, rfl⟩
    rw [List.length_append]
    exact own_base ho
  · rw [List.nodup_cons]
    refine ⟨fun hm => ?_, ?_⟩
    · rcases List.mem_append.1 hm with hm | hm
      · exact hgnfq hm
      · exact (hvn gn (by simpa using hm)).1 rfl
    · rw [List.nodup_append]
      refine ⟨(List.nodup_append.1 hnd).2.1, by cases vn.ownBlock <;> simp, fun a ha b hb e => ?_⟩
      subst e
      exact (hvn a (by simpa using hb)).2.1 ha
  · exact grown_put (grown_young h.grown hg (fun k hk => by have := hlo k hk; omega)) (by omega) 1 _

/-- The first scope's cells. -/
theorem DfS.first {s : Scp} {r : List Scp} (h : DfS w g code cf on vsc (s :: r) fp W) : ∃ b c vn us fr, vsc = .slice (some ⟨b, 0, none⟩) (r.length + 1) c ∧ W.ownsRow (w.heap.size + 1) 55 3 vsc (r.length + 1) ([.int .i64 s.kind, vn, .int .i64 s.events] ++ us) ∧
    W.ownsRow 0 9 1 vn s.names.length (s.names.map sv) ∧ LsIn W (r.flatMap Scp.lf) us fr ∧ fp = b :: (vn.ownBlock.toList ++ fr) := by
  obtain ⟨xs, fq, ho, hx, hf⟩ := h.row
  rw [List.flatMap_cons] at hx
  obtain ⟨u1, us, f1, fr, rfl, h1, h2, rfl⟩ := LsIn.append.1 hx
  obtain ⟨vn, rfl, hn, rfl⟩ := scp_of h1
  rcases ho.2 with ⟨hv, h0⟩ | ⟨b, cap, cur, hv, _⟩
  · simp at h0
  · exact ⟨b, cap, vn, us, fr, hv, ho, hn, h2, by rw [hf, hv]; rfl⟩
/-- The first scope's number is set: its kind (j = 0) or its events (j = 2). -/
theorem DfS.set0 {s s' : Scp} {r : List Scp} {b c : Nat} {vn : Value} {us : List Value} {fr : List Nat} (h : DfS w g code cf on (.slice (some ⟨b, 0, none⟩) (r.length + 1) c) (s :: r) fp W)
    (ho : W.ownsRow (w.heap.size + 1) 55 3 (.slice (some ⟨b, 0, none⟩) (r.length + 1) c) (r.length + 1) ([.int .i64 s.kind, vn, .int .i64 s.events] ++ us)) (_hn : W.ownsRow 0 9 1 vn s.names.length (s.names.map sv))
    (hr : LsIn W (r.flatMap Scp.lf) us fr) (hf : fp = b :: (vn.ownBlock.toList ++ fr)) (j : Nat) (u : Value) {vn' : Value} {W0 : World} (hW : GrownIn W W0 vn.ownBlock.toList) (hn' : W0.ownsRow 0 9 1 vn' s'.names.length (s'.names.map sv)) (hvn : vn'.ownBlock = vn.ownBlock ∨ ∀ k, vn'.ownBlock = some k → W.heap.size ≤ k)
    (hu : ((#[.int .i64 s.kind, vn, .int .i64 s.events] : Array Value).setIfInBounds j u).toList = [.int .i64 s'.kind, vn', .int .i64 s'.events]) (hj : j < 3) (hc : Cur W0 g code) (hgr : w.grownBy W0 (some g)) :
    ∃ fp', DfS w g code cf on (.slice (some ⟨b, 0, none⟩) (r.length + 1) c) (s' :: r) fp' (W0.setCell ⟨b, j, none⟩ u) ∧ (∀ i, W0.frozen? ⟨b, i, none⟩ = false) ∧ (∃ x, W0.cell? ⟨b, j, none⟩ = some x) := by
  have og := h.og
  have oc := h.oc
  have hclt := h.clt
  have hlow := h.lows
  have hnd := h.tree.nodup
  have hcf := h.ocf
  rw [hf] at hlow hnd hcf
  obtain ⟨hb1, hnd2⟩ := List.nodup_cons.1 hnd
  obtain ⟨_, hfrn, hdis⟩ := List.nodup_append.1 hnd2
  have hbn : b ∉ vn.ownBlock.toList := fun hm => hb1 (List.mem_append_left _ hm)
  have hbr : b ∉ fr := fun hm => hb1 (List.mem_append_right _ hm)
  have hblt := (ho.lt b rfl).2
  have ho0 := own_apart ho hW (fun k hk hm => by injection hk with hk; subst hk; exact hbn hm)
  have hr0 : LsIn W0 (r.flatMap Scp.lf) us fr := LsIn.apart hr hW (fun k hk hm => hdis k hm k hk rfl)
  have hvl : ∀ k, vn'.ownBlock = some k → k ≠ b ∧ k ∉ fr ∧ w.heap.size + 1 ≤ k ∧ k ≠ cf := by
    intro k hk
    rcases hvn with e | e
    · rw [e] at hk
      have hm : k ∈ vn.ownBlock.toList := by rw [hk]; simp
      exact ⟨fun e2 => hbn (e2 ▸ hm), fun h2 => hdis k hm k h2 rfl, hlow k (List.mem_cons_of_mem _ (List.mem_append_left _ hm)), fun e2 => hcf (List.mem_cons_of_mem _ (List.mem_append_left _ (e2 ▸ hm)))⟩
    · have hk' := e k hk
      exact ⟨by omega, fun h2 => by have := LsIn.lt _ _ _ hr k h2; omega, by omega, by omega⟩
  have hcb : cf ≠ b := fun e => hcf (by rw [e]; exact List.mem_cons_self ..)
  have hcfr : cf ∉ fr := fun hm => hcf (List.mem_cons_of_mem _ (List.mem_append_right _ hm))
  have hset := ho0.stored j u
  have hset1 : (W0.setCell ⟨b, j, none⟩ u).ownsRow (w.heap.size + 1) 55 3 (.slice (some ⟨b, 0, none⟩) (r.length + 1) c) (r.length + 1) ([.int .i64 s'.kind, vn', .int .i64 s'.events] ++ us) := by
    have h1 := hset.1
    rw [List.set_append_left _ _ (by simpa using hj)] at h1
    rw [Array.toList_setIfInBounds] at hu
    rw [hu] at h1
    exact h1
  have hmem : ∀ k ∈ b :: (vn'.ownBlock.toList ++ fr), w.heap.size + 1 ≤ k ∧ k ≠ cf := by
    intro k hk
    rcases List.mem_cons.1 hk with rfl | hk
    · exact ⟨(ho.lt k rfl).1, fun e => hcb e.symm⟩
    · rcases List.mem_append.1 hk with hk | hk
      · exact ⟨(hvl k (by simpa using hk)).2.2.1, (hvl k (by simpa using hk)).2.2.2⟩
      · exact ⟨hlow k (List.mem_cons_of_mem _ (List.mem_append_right _ hk)), fun e => hcfr (e ▸ hk)⟩
  have hcell : W0.cell? ⟨b, j, none⟩ = ([.int .i64 s.kind, vn, .int .i64 s.events] ++ us)[j]? := ho0.cellAt j (by omega)
  refine ⟨b :: (vn'.ownBlock.toList ++ fr), ⟨?_, ?_, ?_, ⟨?_, ?_, fun k hk => (hmem k hk).1⟩, ?_, og, oc, fun hm => (hmem cf hm).2 rfl⟩, fun i => ho0.frozenAt i, ?_⟩
  · exact hc.put (by have := (ho.lt b rfl).1; omega) j _
  · refine (set_other hcb).trans ((hW.block cf hclt (fun hm => hcf (List.mem_cons_of_mem _ (List.mem_append_left _ hm)))).trans h.blkf)
  · refine (set_other (by have := (ho.lt b rfl).1; omega)).trans ((hW.block w.heap.size (by omega) (fun hm => by have := hlow _ (List.mem_cons_of_mem _ (List.mem_append_left _ hm)); omega)).trans h.blkr)
  · refine ⟨flat_lenM scp_len _, _, vn'.ownBlock.toList ++ fr, own_base hset1, ?_, rfl⟩
    rw [List.flatMap_cons]
    refine LsIn.append.2 ⟨_, us, vn'.ownBlock.toList, fr, rfl, scp_mk (own_put2 hn' (fun k hk => (hvl k hk).1)) rfl, LsIn.set hr0 hbr, rfl⟩
  · rw [List.nodup_cons]
    refine ⟨fun hm => ?_, ?_⟩
    · rcases List.mem_append.1 hm with hm | hm
      · exact (hvl b (by simpa using hm)).1 rfl
      · exact hbr hm
    · rw [List.nodup_append]
      refine ⟨by cases vn'.ownBlock <;> simp, hfrn, fun a ha b hb e => ?_⟩
      subst e
      exact (hvl a (by simpa using ha)).2.1 hb
  · exact grown_put hgr (by have := (ho.lt b rfl).1; omega) j _
  · rw [hcell]
    have : j < ([.int .i64 s.kind, vn, .int .i64 s.events] ++ us).length := by simp; omega
    exact ⟨_, List.getElem?_eq_getElem this⟩
/-- It is handed back. -/
theorem DfS.done {m q : Nat} (h : DfS w g code cf on vsc scs fp W) (hl : scs.length ≤ m) (hb : ∀ s ∈ scs, ScB q s) (a b : Value) :
    FltDrawn m q g code w (.returned (.agg #[.bool on, vsc])) ((W.setCell ⟨w.heap.size, 0, none⟩ a).setCell ⟨w.heap.size, 1, none⟩ b) := by
  have hne : ∀ k ∈ fp, k ≠ w.heap.size := fun k hk => by have := h.lows k hk; omega
  refine ⟨⟨on, scs⟩, vsc, fp, rfl, hl, hb, ⟨?_, h.tree.nodup, fun k hk => by have := h.lows k hk; omega⟩, (h.cur.put h.og 0 a).put h.og 1 b, grown_put (grown_put h.grown (Nat.le_refl _) 0 a) (Nat.le_refl _) 1 b⟩
  exact LfIn.frame _ _ _ (fun k hk => (set_other (hne k hk)).trans (set_other (hne k hk))) h.tree.is
end
theorem ScB.mono {q q' : Nat} {s : Scp} (h : ScB q s) (hq : q ≤ q') : ScB q' s := ⟨Nat.le_trans h.1 hq, h.2⟩
theorem ScB.of_post {s : Scp} (hk : 1 ≤ s.kind ∧ s.kind ≤ 4) (he : 1 ≤ s.events ∧ s.events ≤ 15) (hl : s.names.length ≤ 2) (hx : ∀ x ∈ s.names, x.length ≤ 41) : ScB 2 s :=
  ⟨by omega, hx, ⟨by omega, by omega⟩, ⟨by omega, by omega⟩⟩

end Go.Proofs.YthihjelcakenpaaDoor
