/-
  Rows of records in memory of one's own: one record looked at, changed, one more. No program is read here.
-/
import Derived.Test.YthjeeggejkpjgaaGb
import Derived.Test.YthjeeggejkpjgaaLgB
namespace Go.Proofs.Ythjeeggejkpjgaa
open Go.RowKit

theorem take_drop_at {α : Type} {l : List α} {k : Nat} {x : α} (h : l[k]? = some x) : l = l.take k ++ x :: l.drop (k + 1) := by
  obtain ⟨h1, h2⟩ := List.getElem?_eq_some_iff.1 h
  rw [← h2, List.getElem_cons_drop, List.take_append_drop]
theorem set_at {α : Type} {l : List α} {k : Nat} {x : α} (h : k < l.length) : l.set k x = l.take k ++ x :: l.drop (k + 1) := by
  rw [List.set_eq_take_append_cons_drop, if_pos h]
theorem same_take {α : Type} {l m : List α} {k : Nat} {x : α} (hx : l[k]? = some x) (hy : m[k]? = some x) (h : l.take k = m.take k) : l.take (k + 1) = m.take (k + 1) := by
  obtain ⟨h1, h2⟩ := List.getElem?_eq_some_iff.1 hx
  obtain ⟨h3, h4⟩ := List.getElem?_eq_some_iff.1 hy
  rw [List.take_succ_eq_append_getElem h1, List.take_succ_eq_append_getElem h3, h, h2, h4]
theorem same_not {α : Type} {l m : List α} {k : Nat} {x y : α} (hx : l[k]? = some x) (hy : m[k]? = some y) (h : x ≠ y) : l ≠ m := by
  intro e
  rw [e, hy] at hx
  injection hx with hx
  exact h hx.symm
theorem ne_strY {a b : List UInt8} (h : (a == b) = false) : (a != b) = true := by simp only [bne, h]; rfl
theorem ne_strN {a b : List UInt8} (h : (a == b) = true) : (a != b) = false := by simp only [bne, h]; rfl
/-- A row of records, at one of them. -/
theorem rows_split {W : World} {α : Type} {enc : α → List Lf} {m : Nat} (hm : ∀ x, (enc x).length = m) {l : List α} {xs : List Value} {fq : List Nat} (h : LsIn W (l.flatMap enc) xs fq) {k : Nat} {x : α} (hk : l[k]? = some x) :
    ∃ A us R fA fx fR, xs = A ++ us ++ R ∧ A.length = k * m ∧ us.length = m ∧ LsIn W ((l.take k).flatMap enc) A fA ∧ LsIn W (enc x) us fx ∧ LsIn W ((l.drop (k + 1)).flatMap enc) R fR ∧ fq = fA ++ fx ++ fR := by
  have hlt := (List.getElem?_eq_some_iff.1 hk).1
  rw [take_drop_at hk, List.flatMap_append, List.flatMap_cons] at h
  obtain ⟨A, r, fA, fr, rfl, hA, hr, rfl⟩ := LsIn.append.1 h
  obtain ⟨us, R, fx, fR, rfl, hu, hR, rfl⟩ := LsIn.append.1 hr
  refine ⟨A, us, R, fA, fx, fR, by rw [List.append_assoc], ?_, ?_, hA, hu, hR, by rw [List.append_assoc]⟩
  · rw [LsIn.length hA, flat_lenM hm, List.length_take, Nat.min_eq_left (by omega)]
  · rw [LsIn.length hu, hm]
theorem rows_join {W : World} {α : Type} {enc : α → List Lf} {l : List α} {k : Nat} {x : α} (hk : k < l.length) {A us R : List Value} {fA fx fR : List Nat}
    (hA : LsIn W ((l.take k).flatMap enc) A fA) (hu : LsIn W (enc x) us fx) (hR : LsIn W ((l.drop (k + 1)).flatMap enc) R fR) : LsIn W ((l.set k x).flatMap enc) (A ++ us ++ R) (fA ++ fx ++ fR) := by
  rw [set_at hk, List.flatMap_append, List.flatMap_cons, List.append_assoc, List.append_assoc]
  exact LsIn.append.2 ⟨A, us ++ R, fA, fx ++ fR, rfl, hA, LsIn.append.2 ⟨us, R, fx, fR, rfl, hu, hR, rfl⟩, rfl⟩
/-- A slice's length is not above its capacity (asked where it is cut). -/
def CapLe (v : Value) : Prop := ∀ p n c, v = .slice p n c → n ≤ c
theorem CapLe.of_in {W : World} {e : TypeId} {m n : Nat} {flat : List Lf} {v : Value} {fp : List Nat} (h : LfIn W (.rows e m n flat) v fp) : CapLe v := by
  obtain ⟨_, xs, fq, ho, _⟩ := h
  intro p k c hv
  rcases ho.2 with ⟨h1, h0⟩ | ⟨b, cap, cur, h1, _, _, hcap, _⟩
  · rw [h1] at hv; injection hv with _ h2 h3; omega
  · rw [h1] at hv; injection hv with _ h2 h3; omega
/-- The first k records of a row that is read. -/
theorem rd_take {W : World} {α : Type} {enc : α → List Lf} {m : Nat} (hm : ∀ x, (enc x).length = m) {e : TypeId} {l : List α} {p : Option Addr} {c : Nat} (h : LfRd W (.rows e m l.length (l.flatMap enc)) (.slice p l.length c)) {k : Nat} (hk : k ≤ l.length) :
    LfRd W (.rows e m (l.take k).length ((l.take k).flatMap enc)) (.slice p k c) := by
  obtain ⟨_, p', cap, hv, hd⟩ := h
  injection hv with hp _ hc
  subst hp hc
  refine ⟨flat_lenM hm _, p, c, by rw [List.length_take, Nat.min_eq_left hk], ?_⟩
  by_cases h0 : l.length = 0
  · exact .inl (by rw [List.length_take]; omega)
  · obtain ⟨b, off, hp, hb, xs, hx, hl⟩ := hd.resolve_left h0
    rw [← List.take_append_drop k l, List.flatMap_append] at hl
    obtain ⟨u1, u2, rfl, h1, _⟩ := LsRd.append.1 hl
    exact .inr ⟨b, off, hp, hb, u1, fun j u hj => hx j u (by rw [List.getElem?_append_left (List.getElem?_eq_some_iff.1 hj).1]; exact hj), h1⟩
theorem tree_row {W : World} {lo m n cap : Nat} {e : TypeId} {flat : List Lf} {p : Option Addr} {fp : List Nat} (h : Tree W lo (.rows e m n flat) (.slice p n cap) fp) (hn : 0 < n) : ∃ g, p = some ⟨g, 0, none⟩ := by
  obtain ⟨_, xs, fq, ho, _⟩ := h.is
  rcases ho.2 with ⟨_, h0⟩ | ⟨g, _, _, hv, _⟩
  · omega
  · injection hv with hp
    exact ⟨g, hp⟩
/-- What a row of one's own says at one record: where its cells lie, and what they hold. -/
theorem tree_at {W : World} {lo m cap : Nat} {α : Type} {enc : α → List Lf} (hm : ∀ x, (enc x).length = m) {e : TypeId} {l : List α} {g : Nat} {fp : List Nat} (h : Tree W lo (.rows e m l.length (l.flatMap enc)) (.slice (some ⟨g, 0, none⟩) l.length cap) fp) {k : Nat} {x : α} (hk : l[k]? = some x) :
    ∃ us fx, LsIn W (enc x) us fx ∧ (∀ q ∈ fx, q ∈ fp ∧ q ≠ g) ∧ us.length = m ∧ (∀ (j : Nat) u, us[j]? = some u → W.cell? ⟨g, k * m + j, none⟩ = some u) ∧ (∀ j, W.frozen? ⟨g, j, none⟩ = false) ∧ g ∈ fp := by
  obtain ⟨_, xs, fq, ho, hx, hf⟩ := h.is
  obtain ⟨A, us, R, fA, fx, fR, rfl, hA, hul, _, hu, _, rfl⟩ := rows_split hm hx hk
  have hnd := h.nodup
  rw [hf] at hnd
  have hg : (Value.slice (some ⟨g, 0, none⟩) l.length cap).ownBlock = some g := rfl
  rw [hg] at hnd hf
  refine ⟨us, fx, hu, fun q hq => ⟨by rw [hf]; simp [hq], ?_⟩, hul, fun j u hj => ?_, fun j => ho.frozenAt j, by rw [hf]; simp⟩
  · rintro rfl
    simp only [Option.toList_some, List.singleton_append, List.nodup_cons] at hnd
    exact hnd.1 (by simp [hq])
  · have hjl := (List.getElem?_eq_some_iff.1 hj).1
    have hxl : (A ++ us ++ R).length = l.length * m := ho.1
    rw [ho.cellAt (k * m + j) (by rw [← hxl]; simp; omega), List.append_assoc, List.getElem?_append_right (by omega), hA, Nat.add_sub_cancel_left, List.getElem?_append_left hjl]
    exact hj
/-- A plain cell of one record is written. -/
theorem tree_put {W : World} {lo m cap : Nat} {α : Type} {enc : α → List Lf} (hm : ∀ x, (enc x).length = m) {e : TypeId} {l : List α} {g : Nat} {fp : List Nat} (h : Tree W lo (.rows e m l.length (l.flatMap enc)) (.slice (some ⟨g, 0, none⟩) l.length cap) fp) {k c : Nat} {x x' : α} (hk : l[k]? = some x) (_hc : c < m) (u : Value)
    (hx : ∀ W us fx, LsIn W (enc x) us fx → LsIn W (enc x') (us.set c u) fx) :
    Tree (W.setCell ⟨g, k * m + c, none⟩ u) lo (.rows e m (l.set k x').length ((l.set k x').flatMap enc)) (.slice (some ⟨g, 0, none⟩) (l.set k x').length cap) fp := by
  have hlt := (List.getElem?_eq_some_iff.1 hk).1
  obtain ⟨hl, xs, fq, ho, hxx, hf⟩ := h.is
  obtain ⟨A, us, R, fA, fx, fR, rfl, hA, hul, hA2, hu, hR2, rfl⟩ := rows_split hm hxx hk
  have hnd := h.nodup
  have hgf : ∀ q ∈ fA ++ fx ++ fR, g ≠ q := fun q hq e => by
    rw [hf, show (Value.slice (some ⟨g, 0, none⟩) l.length cap).ownBlock = some g from rfl] at hnd
    simp only [Option.toList_some, List.singleton_append, List.nodup_cons] at hnd
    exact hnd.1 (by rw [e]; exact hq)
  have ho' := (ho.stored (k * m + c) u).1
  rw [List.append_assoc, List.set_append_right _ _ (by omega), hA, Nat.add_sub_cancel_left, List.set_append_left _ _ (by omega)] at ho'
  have hA3 := LsIn.set (i := k * m + c) (u := u) hA2 (g := g) (fun hq => hgf g (by simp [hq]) rfl)
  have hu3 := LsIn.set (i := k * m + c) (u := u) hu (g := g) (fun hq => hgf g (by simp [hq]) rfl)
  have hR3 := LsIn.set (i := k * m + c) (u := u) hR2 (g := g) (fun hq => hgf g (by simp [hq]) rfl)
  refine ⟨?_, h.nodup, h.low⟩
  rw [List.length_set]
  exact ⟨by rw [flat_lenM hm, List.length_set], A ++ us.set c u ++ R, fA ++ fx ++ fR, by rw [List.append_assoc]; exact ho', rows_join hlt hA3 (hx _ _ _ hu3) hR3, hf⟩
/-- One more record behind a row: what an append made. -/
theorem tree_snoc {W W' : World} {lo m : Nat} {α : Type} {enc : α → List Lf} (hm : ∀ x, (enc x).length = m) {e : TypeId} {l : List α} {v v' : Value} {fp fq fx : List Nat} {x : α} {us xs' : List Value} (hnd : fp.Nodup) (hlow : ∀ q ∈ fp, lo ≤ q) (hx1 : LsIn W (l.flatMap enc) xs' fq) (hf : fp = v.ownBlock.toList ++ fq)
    (hu : LsIn W (enc x) us fx) (hd : ∀ q ∈ fx, q ∉ fp) (hfx : fx.Nodup) (hlo : ∀ q ∈ fx, lo ≤ q) {g cap : Nat} (hv : v' = .slice (some ⟨g, 0, none⟩) (l.length + 1) cap)
    (ho : W'.ownsRow lo e m v' (l.length + 1) (xs' ++ us)) (hg : GrownIn W W' v.ownBlock.toList) (hor : v.ownBlock = some g ∨ W.heap.size ≤ g) :
    ∃ fq', Tree W' lo (.rows e m (l ++ [x]).length ((l ++ [x]).flatMap enc)) v' fq' ∧ ∀ q ∈ fq', q ∈ fp ∨ q ∈ fx ∨ q = g := by
  rw [hf] at hnd
  obtain ⟨hvq, _, hqn⟩ := nd_parts hnd
  have hfqw : ∀ q ∈ fq, q < W.heap.size := LsIn.lt _ _ _ hx1
  have hfxw : ∀ q ∈ fx, q < W.heap.size := LsIn.lt _ _ _ hu
  have hx2 : LsIn W' (l.flatMap enc) xs' fq := hx1.frame _ _ _ (fun k hk => hg.block k (hfqw k hk) (fun hm => hvq k hm hk))
  have hu2 : LsIn W' (enc x) us fx := hu.frame _ _ _ (fun k hk => hg.block k (hfxw k hk) (fun hm => hd k hk (by rw [hf]; exact List.mem_append_left _ hm)))
  have hgq : g ∉ fq ∧ g ∉ fx := by
    rcases hor with hor | hor
    · have hgm : g ∈ v.ownBlock.toList := by rw [hor]; simp
      exact ⟨fun hq => hvq g hgm hq, fun hq => hd g hq (by rw [hf]; exact List.mem_append_left _ hgm)⟩
    · exact ⟨fun hq => by have := hfqw g hq; omega, fun hq => by have := hfxw g hq; omega⟩
  have hv' : v'.ownBlock = some g := by rw [hv]; rfl
  refine ⟨g :: (fq ++ fx), ⟨⟨?_, xs' ++ us, fq ++ fx, ?_, ?_, by rw [hv']; rfl⟩, ?_, ?_⟩, ?_⟩
  · rw [flat_lenM hm]
  · rw [List.length_append, List.length_singleton]
    exact own_base ho
  · rw [List.flatMap_append, List.flatMap_cons, List.flatMap_nil, List.append_nil]
    exact LsIn.append.2 ⟨xs', us, fq, fx, rfl, hx2, hu2, rfl⟩
  · rw [List.nodup_cons]
    refine ⟨by simp [hgq.1, hgq.2], List.nodup_append.2 ⟨hqn, hfx, fun a ha b hb e => hd b hb (by rw [hf, ← e]; exact List.mem_append_right _ ha)⟩⟩
  · intro q hq
    rcases List.mem_cons.1 hq with rfl | hq
    · exact (ho.lt q hv').1
    · rcases List.mem_append.1 hq with hq | hq
      · exact hlow q (by rw [hf]; exact List.mem_append_right _ hq)
      · exact hlo q hq
  · intro q hq
    rcases List.mem_cons.1 hq with rfl | hq
    · exact .inr (.inr rfl)
    · rcases List.mem_append.1 hq with hq | hq
      · exact .inl (by rw [hf]; exact List.mem_append_right _ hq)
      · exact .inr (.inl hq)

end Go.Proofs.Ythjeeggejkpjgaa
