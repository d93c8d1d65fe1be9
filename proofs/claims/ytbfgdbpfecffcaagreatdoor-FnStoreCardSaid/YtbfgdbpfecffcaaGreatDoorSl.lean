/-
  Sl: OrdZ SetE SetF (what the claim needs of them).
-/
import Derived.Test.YtbfgdbpfecffcaaGreatDoorRows
import Derived.WalkKit
import Derived.WalkSpells
import Derived.WalkLawsBesides
import Derived.Laws.IdiomStrings
import Derived.Lib.Hide
import Derived.Deep.AppendLies
import Derived.OrdersHeld
import Derived.Lib.ItoaNum
import Derived.Lib.ItoaMem
import Derived.Lib.AppendStr
import Derived.Lib.ItoaLen
import Derived.Lib.Strings
import Derived.Lib.Bytealg
import Derived.Lib.OthersKept
import Derived.Laws.RangeAny
import Derived.Laws.BitsAllLaws
import Derived.Laws.BitsLemmas
import Derived.IntWalk
import Derived.Handy
import Derived.Test.YtbfgdbpfecffcaaGreatDoorProg
import Derived.Test.YtbfgdbpfecffcaaGreatDoorSb
import Derived.Test.YtbfgdbpfecffcaaGreatDoorSc

namespace Go.Proofs.YtbfgdbpfecffcaaGreatDoor
open Go.RowKit

/-- z waits for i. -/
def WaitsFor (ops : Array Oper) : Nat → Nat → Nat → Bool
  | 0, _, _ => false
  | n + 1, z, i => match ops[z]? with
    | none => false
    | some o => o.after.any fun e => Region.binds .any e && (e.on == i || WaitsFor ops n e.on i)
/-- What has come up came behind all that it waits for. -/
def ClosedUp (ops : Array Oper) (listed : Array Bool) : Prop := ∀ j o, ops[j]? = some o → listed.getD j false = true → ∀ e ∈ o.after, Region.binds .any e = true → listed.getD e.on false = true
theorem closed_start (ops : Array Oper) (n : Nat) : ClosedUp ops (Array.replicate n false) := fun j o _ h => by
  rw [Array.getD_eq_getD_getElem?, Array.getElem?_replicate] at h
  split at h <;> simp at h
theorem getD_set_same {listed : Array Bool} {i j : Nat} (h : (listed.setIfInBounds i true).getD j false = true) : j = i ∨ listed.getD j false = true := by
  by_cases e : i = j
  · exact .inl e.symm
  · rw [getD_set_ne false e] at h
    exact .inr h
theorem ClosedUp.step {ops : Array Oper} {listed : Array Bool} {i : Nat} (h : ClosedUp ops listed) (hi : i ∈ Region.ready .any ops listed) : ClosedUp ops (listed.setIfInBounds i true) := fun j o ho hj e he hb => by
  rcases getD_set_same hj with rfl | hj
  · obtain ⟨_, o', ho', hall⟩ := mem_ready.1 hi
    rw [ho] at ho'
    cases ho'
    exact getD_set_true (hall e he hb)
  · exact getD_set_true (h j o ho hj e he hb)
theorem waits_listed {ops : Array Oper} {listed : Array Bool} (h : ClosedUp ops listed) : ∀ (n z i : Nat), WaitsFor ops n z i = true → (∀ o, ops[z]? = some o → ∀ e ∈ o.after, Region.binds .any e = true → listed.getD e.on false = true) → listed.getD i false = true
  | 0, _, _, hw, _ => by simp [WaitsFor] at hw
  | n + 1, z, i, hw, hz => by
    unfold WaitsFor at hw
    cases ho : ops[z]? with
    | none => rw [ho] at hw; simp at hw
    | some o =>
      rw [ho] at hw
      obtain ⟨e, he, h1⟩ := Array.any_eq_true'.1 hw
      rw [Bool.and_eq_true, Bool.or_eq_true] at h1
      obtain ⟨hb, h2⟩ := h1
      have hl := hz o ho e he hb
      rcases h2 with h2 | h2
      · rw [beq_iff_eq] at h2
        rw [← h2]
        exact hl
      · exact waits_listed h n e.on i h2 (fun o' ho' e' he' hb' => h e.on o' ho' hl e' he' hb')

section
variable {P : Program} {ops : Array Oper} {Q : Exit → Act → World → Prop} {S : World → Prop} {z : Nat}

/-- Whatever order is picked from here on; S holds behind every operation that is carried out, but for z. -/
def wpAnyZ (P : Program) (ops : Array Oper) (Q : Exit → Act → World → Prop) (S : World → Prop) (z : Nat) : Nat → Array Bool → Act → World → Prop
  | 0, listed, a, w => Region.ready .any ops listed = [] ∧ Q .normal a w
  | fuel + 1, listed, a, w =>
    (Region.ready .any ops listed = [] → Q .normal a w) ∧
    ∀ i ∈ Region.ready .any ops listed, wpOp P ops Q i (fun a' w' => (i ≠ z → S w') ∧ wpAnyZ P ops Q S z fuel (listed.setIfInBounds i true) a' w') a w
theorem wpAny_of_Z : ∀ (fuel : Nat) (listed : Array Bool) (a : Act) (w : World), wpAnyZ P ops Q S z fuel listed a w → wpAny P .any ops Q fuel listed a w
  | 0, _, _, _, h => h
  | fuel + 1, _, _, _, h => ⟨h.1, fun i hi => wpOp_mono (fun a' w' h' => wpAny_of_Z fuel _ a' w' h'.2) (h.2 i hi)⟩
theorem not_listed {listed : Array Bool} {i : Nat} (h : i ∈ Region.ready .any ops listed) : ¬ listed.getD i false = true := fun h1 => by
  have h0 := (mem_ready.1 h).1
  rcases Nat.lt_or_ge i listed.size with h' | h'
  · simp [h'] at h0 h1; rw [h0] at h1; cases h1
  · simp [Array.getElem?_eq_none h'] at h1
theorem wpAnyZ_first {i : Nat} {oi : Oper} {v : Value} {n : Nat} (hi : ops[i]? = some oi) (hsel : ∀ (j : Nat) (o : Oper) cs b, ops[j]? = some o → o.op ≠ .select cs b)
    (hQ : ∀ c a w, Q (.panic c) (a.put oi.dst v) w → Q (.panic c) a w) (hzw : WaitsFor ops n z i = true) :
    ∀ (fuel : Nat) (listed : Array Bool) (a : Act) (w : World), ClosedUp ops listed →
      (∀ j oj, ops[j]? = some oj → j ≠ i → listed.getD j true = false → (∀ e ∈ oj.after, Region.binds .any e = true → e.on ≠ i) → oi.apart ops oj = true) →
      i ∈ Region.ready .any ops listed → YieldsIf P ops S oi v a → S w →
      wpAnyZ P ops Q S z fuel (listed.setIfInBounds i true) (a.put oi.dst v) w → wpAnyZ P ops Q S z (fuel + 1) listed a w := by
  intro fuel
  induction fuel with
  | zero =>
    intro listed a w _ _ hr hy hS H
    refine ⟨fun h => (by rw [h] at hr; cases hr), fun j hj => ?_⟩
    by_cases hji : j = i
    · subst hji; exact hy.wpOp hi hS ⟨fun _ => hS, H⟩
    · have := ready_mono hj hji
      rw [H.1] at this
      cases this
  | succ fuel ih =>
    intro listed a w hcl hfree hr hy hS H
    refine ⟨fun h => (by rw [h] at hr; cases hr), fun j hj => ?_⟩
    by_cases hji : j = i
    · subst hji; exact hy.wpOp hi hS ⟨fun _ => hS, H⟩
    · have h1 := H.2 j (ready_mono hj hji)
      obtain ⟨hjun, oj, hoj, hall⟩ := mem_ready.1 hj
      have hjz : j ≠ z := fun e => by
        subst e
        exact not_listed hr (waits_listed hcl n j i hzw (fun o ho e he hb => by rw [hoj] at ho; cases ho; exact hall e he hb))
      have hnot : ∀ e ∈ oj.after, Region.binds .any e = true → e.on ≠ i := fun e he hb heq => not_listed hr (heq ▸ hall e he hb)
      have h2 := wpOp_putIf hoj (hfree j oj hoj hji hjun hnot) (fun cs b => hsel i oi cs b hi) (fun cs b => hsel j oj cs b hoj) hQ hy h1
      have hfree' : ∀ k ok, ops[k]? = some ok → k ≠ i → (listed.setIfInBounds j true).getD k true = false →
          (∀ e ∈ ok.after, Region.binds .any e = true → e.on ≠ i) → oi.apart ops ok = true := fun k ok hk hki hun hno => by
        refine hfree k ok hk hki ?_ hno
        by_cases hjk : j = k
        · subst hjk; exact hjun
        · rw [getD_set_ne true hjk] at hun; exact hun
      refine wpOp_mono (fun a' w' h3 => ⟨fun _ => h3.2.1 hjz, ih (listed.setIfInBounds j true) a' w' (hcl.step hj) hfree' (ready_mono hr (Ne.symm hji)) h3.1 (h3.2.1 hjz) ?_⟩) h2
      rw [Array.setIfInBounds_comm _ _ hji]
      exact h3.2.2

/-- The order's check. -/
def ordZB (ops : Array Oper) (z : Nat) : List (Nat × Bool) → Array Bool → Bool
  | [], listed => (Region.ready .any ops listed).isEmpty
  | (i, true) :: r, listed => decide (i < ops.size) && WaitsFor ops ops.size z i && Region.free .any ops listed i && (Region.ready .any ops listed).contains i && ordZB ops z r (listed.setIfInBounds i true)
  | (i, false) :: r, listed => decide (i < ops.size) && Region.ready .any ops listed == [i] && ordZB ops z r (listed.setIfInBounds i true)
def OrdZ (P : Program) (ops : Array Oper) (Q : Exit → Act → World → Prop) (S : World → Prop) (z : Nat) (idx : List (Nat × Bool)) (os : List Oper) (a : Act) (w : World) : Prop :=
  Region.noSelect ops = true → idx.map (fun x => pickOp ops.toList x.1) = os → ∀ listed, ordZB ops z idx listed = true → ClosedUp ops listed → wpAnyZ P ops Q S z idx.length listed a w

variable {a : Act} {w : World} {i : Nat} {r : List (Nat × Bool)} {o : Oper} {os : List Oper}
theorem ordz_start {id : Nat} (idx : List (Nat × Bool)) (z : Nat) (S : World → Prop) (hm : P.follows .mixedOrders = true) (hs : Region.noSelect ops = true) (hl : idx.length = ops.size)
    (hB : ordZB ops z idx (Array.replicate ops.size false) = true)
    (h : ∀ ops', Hid (ops' = ops) → OrdZ P ops' Q S z idx (idx.map fun x => pickOp ops.toList x.1) a w.drew) : (Code.region id ops true).wp P Q a w :=
  wp_region_any hm (wpAny_of_Z (S := S) (z := z) _ _ _ _ (by have := h ops rfl hs rfl _ hB (closed_start ops _); rw [hl] at this; exact this))
theorem ordz_flo (v : Value) (hQ : ∀ c a w, Q (.panic c) (a.put o.dst v) w → Q (.panic c) a w) (hw : Region.wanted o (yielded ops a.tmps) = true)
    (hy : ∀ w, S w → (execOp a.eval o).run P w = .ok (.value v) w) (hS : S w)
    (h : OrdZ P ops Q S z r os (a.put o.dst v) w) : OrdZ P ops Q S z ((i, true) :: r) (o :: os) a w := by
  intro hs ho listed hB hcl
  simp only [List.map_cons, List.cons.injEq] at ho
  simp only [ordZB, Bool.and_eq_true, decide_eq_true_eq] at hB
  obtain ⟨⟨⟨⟨h1, h0⟩, h2⟩, h3⟩, h4⟩ := hB
  have hr : i ∈ Region.ready .any ops listed := by simpa using h3
  exact wpAnyZ_first (get_op h1 ho.1) (Region.noSelect_spec hs) hQ h0 _ listed a w hcl (Region.free_spec (get_op h1 ho.1) h2) hr (.inl ⟨hw, hy⟩) hS (h hs ho.2 _ h4 (hcl.step hr))
theorem ordz_ev (hw : Region.wanted o (yielded ops a.tmps) = true) (h : o.wp P a w (fun a' w' => (i ≠ z → S w') ∧ OrdZ P ops Q S z r os a' w') Q) : OrdZ P ops Q S z ((i, false) :: r) (o :: os) a w := by
  intro hs ho listed hB hcl
  simp only [List.map_cons, List.cons.injEq] at ho
  simp only [ordZB, Bool.and_eq_true, decide_eq_true_eq, beq_iff_eq] at hB
  obtain ⟨⟨h1, h2⟩, h4⟩ := hB
  refine ⟨fun h0 => absurd (h2 ▸ h0) (by simp), fun j hj => ?_⟩
  rw [h2, List.mem_singleton] at hj
  subst hj
  have hr : j ∈ Region.ready .any ops listed := by rw [h2]; simp
  unfold wpOp
  simp only [get_op h1 ho.1, hw, if_true]
  exact .inl (Oper.wp_mono (fun a' w' hh => ⟨hh.1, hh.2 hs ho.2 _ h4 (hcl.step hr)⟩) h)
theorem ordz_done (h : Q .normal a w) : OrdZ P ops Q S z [] [] a w := by
  intro _ _ listed hB _
  simp only [ordZB, List.isEmpty_iff] at hB
  exact ⟨hB, h⟩
end

end Go.Proofs.YtbfgdbpfecffcaaGreatDoor

namespace Go.Proofs.YtbfgdbpfecffcaaGreatDoor
open Go.RowKit

theorem grown_put {w w1 : World} {row : Option Nat} {b : Nat} (h : w.grownBy w1 row) (hb : w.heap.size ≤ b) (j : Nat) (v : Value) : w.grownBy (w1.setCell ⟨b, j, none⟩ v) row :=
  grown_young h (⟨rfl, rfl, rfl, by simp, fun k _ hne => Below.heap_setCell w1 _ v k (by intro e; subst e; exact hne rfl)⟩ : w1.grownBy (w1.setCell ⟨b, j, none⟩ v) (some b)) (fun k hk => by injection hk with hk; omega)
theorem Cur.put {w : World} {g b : Nat} {code : List UInt8} (h : Cur w g code) (hb : g < b) (j : Nat) (v : Value) : Cur (w.setCell ⟨b, j, none⟩ v) g code :=
  h.grown (⟨rfl, rfl, rfl, by simp, fun k _ hne => Below.heap_setCell w _ v k (by intro e; subst e; exact hne rfl)⟩ : w.grownBy (w.setCell ⟨b, j, none⟩ v) (some b)) (fun k hk => by injection hk with hk; omega)
/-- A row above the cursor stands behind a draw. -/
theorem own_draw {w w1 : World} {B g n s : Nat} {e : TypeId} {v : Value} {xs : List Value} (h : w.ownsRow B e s v n xs) (hB : g < B) (hg : w.grownBy w1 (some g)) : w1.ownsRow B e s v n xs :=
  h.kept hg (by
    by_cases hv1 : v.ownBlock = none
    · exact .inl hv1
    · right
      intro e
      have := (h.lt g e).1
      omega)
theorem own_put {w : World} {B n s b j : Nat} {e : TypeId} {v x : Value} {xs : List Value} (h : w.ownsRow B e s v n xs) (hb : ∀ k, v.ownBlock = some k → k < b) : (w.setCell ⟨b, j, none⟩ x).ownsRow B e s v n xs :=
  h.kept (⟨rfl, rfl, rfl, by simp, fun k _ hne => Below.heap_setCell w _ x k (by intro e; subst e; exact hne rfl)⟩ : w.grownBy (w.setCell ⟨b, j, none⟩ x) (some b)) (by
    by_cases hv1 : v.ownBlock = none
    · exact .inl hv1
    · right
      intro e
      have := hb b e
      omega)

end Go.Proofs.YtbfgdbpfecffcaaGreatDoor

namespace Go.Proofs.YtbfgdbpfecffcaaGreatDoor
open Go.RowKit

theorem Rd.takeS {α : Type} {m : Nat} {enc : α → List Value} {w : World} {b off n c k : Nat} {l : List α} (h : Rd m enc w (.slice (some ⟨b, off, none⟩) n c) l) (hk : k ≤ l.length) (c' : Nat) : Rd m enc w (.slice (some ⟨b, off, none⟩) k c') (l.take k) := by
  obtain ⟨p, cap, hv, hc⟩ := h.ex
  injection hv with hp _ _
  subst hp
  refine ⟨_, c', by rw [List.length_take, Nat.min_eq_left hk], ?_⟩
  rcases hc with rfl | ⟨b1, o1, he, hlt, hc⟩
  · exact .inl (by simp)
  · injection he with he
    injection he with e1 e2
    subst e1
    subst e2
    refine .inr ⟨_, _, rfl, hlt, fun i x hx j u hu => hc i x ?_ j u hu⟩
    rw [List.getElem?_take] at hx
    split at hx
    · exact hx
    · cases hx
theorem Rd.dropS {α : Type} {m : Nat} {enc : α → List Value} {w : World} {b off n c k : Nat} {l : List α} (h : Rd m enc w (.slice (some ⟨b, off, none⟩) n c) l) (c' : Nat) : Rd m enc w (.slice (some ⟨b, off + k * m, none⟩) (l.length - k) c') (l.drop k) := by
  obtain ⟨p, cap, hv, hc⟩ := h.ex
  injection hv with hp _ _
  subst hp
  refine ⟨_, c', by rw [List.length_drop], ?_⟩
  rcases hc with rfl | ⟨b1, o1, he, hlt, hc⟩
  · exact .inl (by simp)
  · injection he with he
    injection he with e1 e2
    subst e1
    subst e2
    refine .inr ⟨_, _, rfl, hlt, fun i x hx j u hu => ?_⟩
    rw [List.getElem?_drop] at hx
    have := hc (k + i) x hx j u hu
    rw [show off + k * m + i * m + j = off + (k + i) * m + j by rw [Nat.add_mul]; omega]
    exact this

end Go.Proofs.YtbfgdbpfecffcaaGreatDoor
