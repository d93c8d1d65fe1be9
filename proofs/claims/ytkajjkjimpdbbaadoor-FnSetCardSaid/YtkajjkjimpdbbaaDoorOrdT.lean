/-
  A region that draws its order, walked along a tree of orders: as Ord, and where just two operations may come up next, both ways. No program is read here.
-/
import Derived.Test.YtkajjkjimpdbbaaDoorOrd
namespace Go.Proofs.YtkajjkjimpdbbaaDoor
open Go.RowKit

theorem get_of {ops' ops : Array Oper} (h : Hid (ops' = ops)) (i : Nat) : ops'[i]? = ops[i]? := by rw [h.out]

inductive OTree where
  | nil : OTree
  | flo : Nat → OTree → OTree
  | ev : Nat → OTree → OTree
  | fork : Nat → OTree → Nat → OTree → OTree
def OTree.len : OTree → Nat
  | .nil => 0
  | .flo _ r => r.len + 1
  | .ev _ r => r.len + 1
  | .fork _ r _ _ => r.len + 1
def ordT (ops : Array Oper) : OTree → Array Bool → Bool
  | .nil, listed => (Region.ready .any ops listed).isEmpty
  | .flo i r, listed => Region.free .any ops listed i && (Region.ready .any ops listed).contains i && ordT ops r (listed.setIfInBounds i true)
  | .ev i r, listed => Region.ready .any ops listed == [i] && ordT ops r (listed.setIfInBounds i true)
  | .fork i r j q, listed => Region.ready .any ops listed == [i, j] && r.len == q.len && ordT ops r (listed.setIfInBounds i true) && ordT ops q (listed.setIfInBounds j true)

def OrdT (P : Program) (ops : Array Oper) (Q : Exit → Act → World → Prop) (S : World → Prop) (t : OTree) (a : Act) (w : World) : Prop :=
  Region.noSelect ops = true → ∀ listed, ordT ops t listed = true → wpAnyH P .any ops Q S t.len listed a w

section
variable {P : Program} {ops : Array Oper} {Q : Exit → Act → World → Prop} {S : World → Prop} {a : Act} {w : World} {i j : Nat} {r q : OTree}

theorem ordT_start {id : Nat} (t : OTree) (S : World → Prop) (hm : P.follows .mixedOrders = true) (hs : Region.noSelect ops = true) (hl : t.len = ops.size)
    (hB : ordT ops t (Array.replicate ops.size false) = true)
    (h : ∀ ops', Hid (ops' = ops) → OrdT P ops' Q S t a w.drew) : (Code.region id ops true).wp P Q a w :=
  wp_region_held hm (by have := h ops rfl hs _ hB; rw [hl] at this; exact this)

theorem ordT_flo (o : Oper) (hi : ops[i]? = some o) (v : Value) (hQ : ∀ c a w, Q (.panic c) (a.put o.dst v) w → Q (.panic c) a w) (hw : Region.wanted o (yielded ops a.tmps) = true)
    (hy : ∀ w, S w → (execOp a.eval o).run P w = .ok (.value v) w) (hS : S w) (h : OrdT P ops Q S r (a.put o.dst v) w) : OrdT P ops Q S (.flo i r) a w := by
  intro hs listed hB
  simp only [ordT, Bool.and_eq_true] at hB
  obtain ⟨⟨h2, h3⟩, h4⟩ := hB
  exact wpAnyH_take hi hs h2 h3 hQ (.inl ⟨hw, hy⟩) hS (h hs _ h4)

theorem ordT_ev (o : Oper) (hi : ops[i]? = some o) (hw : Region.wanted o (yielded ops a.tmps) = true) (h : o.wp P a w (fun a' w' => S w' ∧ OrdT P ops Q S r a' w') Q) : OrdT P ops Q S (.ev i r) a w := by
  intro hs listed hB
  simp only [ordT, Bool.and_eq_true, beq_iff_eq] at hB
  obtain ⟨h2, h4⟩ := hB
  refine wpAnyH_all h2 (by simp) (fun k hk => ?_)
  simp only [List.mem_singleton] at hk
  subst hk
  unfold wpOp
  simp only [hi, hw, if_true]
  exact .inl (Oper.wp_mono (fun a' w' hh => ⟨hh.1, hh.2 hs _ h4⟩) h)

theorem ordT_fork (o o2 : Oper) (hi : ops[i]? = some o) (hj : ops[j]? = some o2) (hw : Region.wanted o (yielded ops a.tmps) = true) (hw2 : Region.wanted o2 (yielded ops a.tmps) = true)
    (h : o.wp P a w (fun a' w' => S w' ∧ OrdT P ops Q S r a' w') Q) (h2 : o2.wp P a w (fun a' w' => S w' ∧ OrdT P ops Q S q a' w') Q) : OrdT P ops Q S (.fork i r j q) a w := by
  intro hs listed hB
  simp only [ordT, Bool.and_eq_true, beq_iff_eq] at hB
  obtain ⟨⟨⟨h3, h6⟩, h4⟩, h5⟩ := hB
  refine wpAnyH_all h3 (by simp) (fun k hk => ?_)
  simp only [List.mem_cons, List.not_mem_nil, or_false] at hk
  rcases hk with rfl | rfl
  · unfold wpOp
    simp only [hi, hw, if_true]
    exact .inl (Oper.wp_mono (fun a' w' hh => ⟨hh.1, hh.2 hs _ h4⟩) h)
  · unfold wpOp
    simp only [hj, hw2, if_true]
    refine .inl (Oper.wp_mono (fun a' w' hh => ⟨hh.1, ?_⟩) h2)
    have := hh.2 hs _ h5
    rwa [← h6] at this

theorem ordT_done (h : Q .normal a w) : OrdT P ops Q S .nil a w := by
  intro _ listed hB
  simp only [ordT, List.isEmpty_iff] at hB
  exact wpAnyH_done hB h _

end
end Go.Proofs.YtkajjkjimpdbbaaDoor
