/-
  Chapter 6, the program: ReadFilter.
-/
import Derived.Test.YthihjelcakenpaaDoorFipI
import Derived.Test.YthihjelcakenpaaDoorFilV
namespace Go.Proofs.YthihjelcakenpaaDoor
open Go.RowKit

/-- The filter that is being read, in its own cell, and the result's. -/
structure RfM (w : World) (cf lo : Nat) (vsc : Value) (scs : List Scp) (fp : List Nat) (W : World) : Prop where
  blkf : W.heap[cf]? = some (.cells #[.bool true, vsc] 26 (0, 0))
  blkr : W.heap[w.heap.size]? = some (.cells #[.bool false, .slice none 0 0] 26 (0, 0))
  tree : Tree W lo (scpsLf scs) vsc fp
  below : Below w.heap.size w W
  o1 : w.heap.size < cf
  o3 : cf < lo
  o4 : lo ≤ W.heap.size
section
variable {w W W' : World} {cf lo : Nat} {vsc vn : Value} {scs : List Scp} {fp : List Nat} {kd ev : Int} {nm : List (List UInt8)}
theorem RfM.call (h : RfM w cf lo vsc scs fp W) (hb : Below W.heap.size W W') : RfM w cf lo vsc scs fp W' where
  blkf := (hb.block cf (by have := h.o3; have := h.o4; omega)).trans h.blkf
  blkr := (hb.block w.heap.size (by have := h.o1; have := h.o3; have := h.o4; omega)).trans h.blkr
  tree := h.tree.apart (GrownIn.of_below hb : GrownIn W W' []) (fun k _ hm => by cases hm)
  below := h.below.trans (hb.mono h.below.size)
  o1 := h.o1
  o3 := h.o3
  o4 := Nat.le_trans h.o4 hb.size
theorem RfM.row (h : RfM w cf lo vsc scs fp W) : ∃ xs fq, W.ownsRow lo 55 3 vsc scs.length xs ∧ LsIn W (scs.flatMap Scp.lf) xs fq ∧ fp = vsc.ownBlock.toList ++ fq := by
  obtain ⟨_, xs, fq, ho, hx, hf⟩ := h.tree.is
  exact ⟨xs, fq, own_rebase ho (fun k hk => h.tree.low k (by rw [hf, hk]; simp)), hx, hf⟩
theorem RfM.app (h : RfM w cf lo vsc scs fp W) (hnm : W.ownsRow 0 9 1 vn nm.length (nm.map sv)) (hv : ∀ k, vn.ownBlock = some k → lo ≤ k ∧ k ∉ fp) {xs : List Value} {fq : List Nat} (hx : LsIn W (scs.flatMap Scp.lf) xs fq) (hf : fp = vsc.ownBlock.toList ++ fq) {gn capn : Nat}
    (ho : W'.ownsRow lo 55 3 (.slice (some ⟨gn, 0, none⟩) (scs.length + 1) capn) (scs.length + 1) (xs ++ [.int .i64 kd, vn, .int .i64 ev])) (hg : W.grownBy W' vsc.ownBlock) (hor : vsc.ownBlock = some gn ∨ W.heap.size ≤ gn) :
    ∃ fp', RfM w cf lo (.slice (some ⟨gn, 0, none⟩) (scs.length + 1) capn) (scs ++ [⟨kd, nm, ev⟩]) fp' (W'.setCell ⟨cf, 1, none⟩ (.slice (some ⟨gn, 0, none⟩) (scs.length + 1) capn)) ∧ W'.heap[cf]? = some (.cells #[.bool true, vsc] 26 (0, 0)) := by
  have hgi : GrownIn W W' vsc.ownBlock.toList := GrownIn.of_row hg
  have hvl : ∀ k ∈ vsc.ownBlock.toList, lo ≤ k := fun k hk => h.tree.low k (by rw [hf]; exact List.mem_append_left _ hk)
  have hfql : ∀ k ∈ fq, lo ≤ k ∧ k < W.heap.size := fun k hk => ⟨h.tree.low k (by rw [hf]; exact List.mem_append_right _ hk), LsIn.lt _ _ _ hx k hk⟩
  have hnd := h.tree.nodup
  rw [hf] at hnd
  have hfqv : ∀ k ∈ fq, k ∉ vsc.ownBlock.toList := fun k hk hm => (List.nodup_append.1 hnd).2.2 k hm k hk rfl
  have o1 := h.o1
  have o3 := h.o3
  have o4 := h.o4
  have hcfl : cf ∉ vsc.ownBlock.toList := fun hm => by have := hvl _ hm; omega
  have hblkf : W'.heap[cf]? = some (.cells #[.bool true, vsc] 26 (0, 0)) := (hgi.block cf (by omega) hcfl).trans h.blkf
  have hnam : W'.ownsRow 0 9 1 vn nm.length (nm.map sv) := own_apart hnm hgi (fun k hk hm => by
    have := (hv k hk).2
    rw [hf] at this
    exact this (List.mem_append_left _ hm))
  have hgn : lo ≤ gn := (ho.lt gn rfl).1
  have hgnfq : gn ∉ fq := fun hm => by
    rcases hor with e | e
    · exact hfqv gn hm (by rw [e]; simp)
    · have := (hfql gn hm).2; omega
  have hgnv : ∀ k, vn.ownBlock = some k → k ≠ gn ∧ k ∉ fq ∧ lo ≤ k := fun k hk => by
    obtain ⟨c1, c2⟩ := hv k hk
    rw [hf] at c2
    refine ⟨fun e => ?_, fun hm => c2 (List.mem_append_right _ hm), c1⟩
    subst e
    rcases hor with e | e
    · exact c2 (List.mem_append_left _ (by rw [e]; simp))
    · have := (hnm.lt k hk).2; omega
  have hls : LsIn W' ((scs ++ [(⟨kd, nm, ev⟩ : Scp)]).flatMap Scp.lf) (xs ++ [.int .i64 kd, vn, .int .i64 ev]) (fq ++ vn.ownBlock.toList) := by
    rw [List.flatMap_append]
    refine LsIn.append.2 ⟨xs, _, fq, vn.ownBlock.toList, rfl, LsIn.apart hx hgi hfqv, ?_, rfl⟩
    simpa using scp_mk (s := ⟨kd, nm, ev⟩) hnam rfl
  refine ⟨gn :: (fq ++ vn.ownBlock.toList), ⟨?_, ?_, ⟨?_, ?_, ?_⟩, ?_, o1, o3, ?_⟩, hblkf⟩
  · rw [set_heap hblkf]; rfl
  · exact (set_other (by omega)).trans ((hgi.block w.heap.size (by omega) (fun hm => by have := hvl _ hm; omega)).trans h.blkr)
  · have hsc : ∀ k ∈ gn :: (fq ++ vn.ownBlock.toList), k ≠ cf := by
      intro k hk
      have : lo ≤ k := by
        rcases List.mem_cons.1 hk with rfl | hk
        · exact hgn
        · rcases List.mem_append.1 hk with hk | hk
          · exact (hfql k hk).1
          · exact (hgnv k (by simpa using hk)).2.2
      omega
    refine LfIn.frame (W := W') _ _ _ (fun k hk => set_other (hsc k hk)) ?_
    refine ⟨flat_lenM scp_len _, _, fq ++ vn.ownBlock.toList, ?_, hls, rfl⟩
    rw [List.length_append]
    exact own_base ho
  · rw [List.nodup_cons]
    refine ⟨fun hm => ?_, ?_⟩
    · rcases List.mem_append.1 hm with hm | hm
      · exact hgnfq hm
      · exact (hgnv gn (by simpa using hm)).1 rfl
    · rw [List.nodup_append]
      refine ⟨(List.nodup_append.1 hnd).2.1, by cases vn.ownBlock <;> simp, fun a ha b hb e => ?_⟩
      subst e
      exact (hgnv a (by simpa using hb)).2.1 ha
  · intro k hk
    rcases List.mem_cons.1 hk with rfl | hk
    · exact hgn
    · rcases List.mem_append.1 hk with hk | hk
      · exact (hfql k hk).1
      · exact (hgnv k (by simpa using hk)).2.2
  · exact (GrownIn.below h.below hgi h.below.size (fun k hk => by have := hvl k hk; omega)).setCell (p := ⟨cf, 1, none⟩) (by show w.heap.size ≤ cf; omega) _
  · have := hg.size
    simp
    omega
end

def ScG (s : Scp) : Prop := s.names.length ≤ 1048576 ∧ (∀ x ∈ s.names, x.length ≤ 1048576) ∧ 0 ≤ s.kind ∧ s.kind ≤ 4 ∧ 0 ≤ s.events ∧ s.events ≤ 15
theorem upper_none : upper [110, 111, 110, 101] = noneW := by decide
theorem upper_set : upper [115, 101, 116] = setW := by decide

theorem flt_none {w w' : World} {e : Ending} {U : Option Flt} (hU : U = none) (he : e = .returned (.tuple #[.agg #[.bool false, .slice none 0 0], .bool false])) (hb : Below w.heap.size w w') : FltPost U w e w' := by
  subst hU
  exact ⟨.slice none 0 0, [], he, tree_nil _ _, hb⟩

/-- How far the list of scopes is read. -/
def FarI (r : List Tok) (scs : List Scp) (r' : List Tok) : Prop := r'.length + scs.length ≤ r.length ∧ (∀ t ∈ r', t ∈ r) ∧ scopesI (r.length + 2) r = (scopesI (r.length + 2 - scs.length) r').map (scs ++ ·)
theorem FarI.start (r : List Tok) : FarI r [] r := ⟨by simp, fun _ h => h, by simp⟩
theorem FarI.step {r r' r'' : List Tok} {scs : List Scp} {s : Scp} (h : FarI r scs r') (hs : scopeI r' = some (s, r'')) : FarI r (scs ++ [s]) r'' := by
  obtain ⟨h1, h2, h3⟩ := h
  have hlt := scopeI_lt hs
  have hin := (scopeI_in hs).2.2.1
  have hne : ¬ r' = [] := by rintro rfl; simp at hlt
  refine ⟨by simp; omega, fun t ht => h2 t (hin t ht), ?_⟩
  rw [h3, show r.length + 2 - scs.length = (r.length + 2 - (scs ++ [s]).length) + 1 by simp; omega]
  simp only [scopesI, if_neg hne, hs, Option.bind_some, Option.map_map]
  congr 1
  funext y
  simp
theorem FarI.bad {r r' : List Tok} {scs : List Scp} (h : FarI r scs r') (hne : ¬ r' = []) (hs : scopeI r' = none) : scopesI (r.length + 2) r = none := by
  obtain ⟨h1, h2, h3⟩ := h
  rw [h3, show r.length + 2 - scs.length = (r.length + 1 - scs.length) + 1 by omega]
  simp only [scopesI, if_neg hne, hs, Option.bind_none, Option.map_none]
theorem FarI.done {r : List Tok} {scs : List Scp} (h : FarI r scs []) : scopesI (r.length + 2) r = some scs := by
  obtain ⟨h1, h2, h3⟩ := h
  rw [h3, show r.length + 2 - scs.length = (r.length + 1 - scs.length) + 1 by simp at h1; omega]
  simp [scopesI]

end Go.Proofs.YthihjelcakenpaaDoor
