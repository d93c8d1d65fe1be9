/-
  A region that draws its order, walked in ONE order: operations whose answer is the same in every world that meets S are taken as soon as they may come up; every other one must be the only one that may come up. No program is read here.
-/
import Derived.Test.YthihjelcakenpaaApp
import Derived.OrdersHeld
namespace Go.Proofs.Ythihjelcakenpaa
open Go.RowKit

def pickOp : List Oper → Nat → Oper
  | [], _ => { dst := none, op := .move (.tmp 0), type := 0, pos := "", after := #[], guard := none }
  | o :: _, 0 => o
  | _ :: l, n + 1 => pickOp l n
theorem pickOp_zero (o : Oper) (l : List Oper) : pickOp (o :: l) 0 = o := rfl
theorem pickOp_succ (o : Oper) (l : List Oper) (n : Nat) : pickOp (o :: l) (n + 1) = pickOp l n := rfl
theorem pickOp_get : ∀ (l : List Oper) (n : Nat), n < l.length → l[n]? = some (pickOp l n)
  | o :: l, 0, _ => rfl
  | o :: l, n + 1, h => by simpa [pickOp] using pickOp_get l n (by simpa using h)

/-- The order's check: a floating operation is free and may come up; any other one is the only one that may come up; at the end none is left. -/
def ordB (ops : Array Oper) : List (Nat × Bool) → Array Bool → Bool
  | [], listed => (Region.ready .any ops listed).isEmpty
  | (i, true) :: r, listed => decide (i < ops.size) && Region.free .any ops listed i && (Region.ready .any ops listed).contains i && ordB ops r (listed.setIfInBounds i true)
  | (i, false) :: r, listed => decide (i < ops.size) && Region.ready .any ops listed == [i] && ordB ops r (listed.setIfInBounds i true)

def OrdH (P : Program) (ops : Array Oper) (Q : Exit → Act → World → Prop) (S : World → Prop) (idx : List (Nat × Bool)) (os : List Oper) (a : Act) (w : World) : Prop :=
  Region.noSelect ops = true → idx.map (fun x => pickOp ops.toList x.1) = os → ∀ listed, ordB ops idx listed = true → wpAnyH P .any ops Q S idx.length listed a w

section
variable {P : Program} {ops : Array Oper} {Q : Exit → Act → World → Prop} {S : World → Prop} {a : Act} {w : World} {i : Nat} {r : List (Nat × Bool)} {o : Oper} {os : List Oper}

theorem ord_start {id : Nat} (idx : List (Nat × Bool)) (S : World → Prop) (hm : P.follows .mixedOrders = true) (hs : Region.noSelect ops = true) (hl : idx.length = ops.size)
    (hB : ordB ops idx (Array.replicate ops.size false) = true)
    (h : ∀ ops', Hid (ops' = ops) → OrdH P ops' Q S idx (idx.map fun x => pickOp ops.toList x.1) a w.drew) : (Code.region id ops true).wp P Q a w :=
  wp_region_held hm (by have := h ops rfl hs rfl _ hB; rw [hl] at this; exact this)

theorem get_op (hi : i < ops.size) (ho : pickOp ops.toList i = o) : ops[i]? = some o := by
  have := pickOp_get ops.toList i (by simpa using hi)
  rw [ho] at this
  simpa using this

/-- A floating operation. -/
theorem ord_flo (v : Value) (hQ : ∀ c a w, Q (.panic c) (a.put o.dst v) w → Q (.panic c) a w) (hw : Region.wanted o (yielded ops a.tmps) = true)
    (hy : ∀ w, S w → (execOp a.eval o).run P w = .ok (.value v) w) (hS : S w)
    (h : OrdH P ops Q S r os (a.put o.dst v) w) : OrdH P ops Q S ((i, true) :: r) (o :: os) a w := by
  intro hs ho listed hB
  simp only [List.map_cons, List.cons.injEq] at ho
  simp only [ordB, Bool.and_eq_true, decide_eq_true_eq] at hB
  obtain ⟨⟨⟨h1, h2⟩, h3⟩, h4⟩ := hB
  exact wpAnyH_take (get_op h1 ho.1) hs h2 h3 hQ (.inl ⟨hw, hy⟩) hS (h hs ho.2 _ h4)

/-- An operation whose guard says no. -/
theorem ord_not (hQ : ∀ c a w, Q (.panic c) (a.put o.dst undef) w → Q (.panic c) a w) (hw : Region.wanted o (yielded ops a.tmps) = false) (hS : S w)
    (h : OrdH P ops Q S r os (a.put o.dst undef) w) : OrdH P ops Q S ((i, true) :: r) (o :: os) a w := by
  intro hs ho listed hB
  simp only [List.map_cons, List.cons.injEq] at ho
  simp only [ordB, Bool.and_eq_true, decide_eq_true_eq] at hB
  obtain ⟨⟨⟨h1, h2⟩, h3⟩, h4⟩ := hB
  exact wpAnyH_take (get_op h1 ho.1) hs h2 h3 hQ (.inr ⟨hw, rfl⟩) hS (h hs ho.2 _ h4)

/-- Any other operation. -/
theorem ord_ev (hw : Region.wanted o (yielded ops a.tmps) = true) (h : o.wp P a w (fun a' w' => S w' ∧ OrdH P ops Q S r os a' w') Q) : OrdH P ops Q S ((i, false) :: r) (o :: os) a w := by
  intro hs ho listed hB
  simp only [List.map_cons, List.cons.injEq] at ho
  simp only [ordB, Bool.and_eq_true, decide_eq_true_eq, beq_iff_eq] at hB
  obtain ⟨⟨h1, h2⟩, h4⟩ := hB
  refine wpAnyH_all h2 (by simp) (fun j hj => ?_)
  simp only [List.mem_singleton] at hj
  subst hj
  unfold wpOp
  simp only [get_op h1 ho.1, hw, if_true]
  exact .inl (Oper.wp_mono (fun a' w' hh => ⟨hh.1, hh.2 hs ho.2 _ h4⟩) h)

theorem ord_evnot (hS : S w) (hw : Region.wanted o (yielded ops a.tmps) = false) (h : OrdH P ops Q S r os (a.put o.dst undef) w) : OrdH P ops Q S ((i, false) :: r) (o :: os) a w := by
  intro hs ho listed hB
  simp only [List.map_cons, List.cons.injEq] at ho
  simp only [ordB, Bool.and_eq_true, decide_eq_true_eq, beq_iff_eq] at hB
  obtain ⟨⟨h1, h2⟩, h4⟩ := hB
  refine wpAnyH_all h2 (by simp) (fun j hj => ?_)
  simp only [List.mem_singleton] at hj
  subst hj
  unfold wpOp
  simp only [get_op h1 ho.1, hw, Bool.false_eq_true, if_false]
  exact ⟨hS, h hs ho.2 _ h4⟩

theorem ord_done (h : Q .normal a w) : OrdH P ops Q S [] [] a w := by
  intro _ _ listed hB
  simp only [ordB, List.isEmpty_iff] at hB
  exact wpAnyH_done hB h _

end
end Go.Proofs.Ythihjelcakenpaa
