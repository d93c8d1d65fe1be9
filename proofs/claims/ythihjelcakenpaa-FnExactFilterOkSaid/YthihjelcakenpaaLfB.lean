/-
  Rows of records, read element by element; a row's cells set in place. No program is read here.
-/
import Derived.Test.YthihjelcakenpaaLf
namespace Go.Proofs.Ythihjelcakenpaa
open Go.RowKit

theorem rows_cells {W : World} {α : Type} {enc : α → List Lf} {m : Nat} (hm : ∀ x, (enc x).length = m) : ∀ (l : List α) (xs : List Value), LsRd W (l.flatMap enc) xs → ∀ i x, l[i]? = some x → ∃ us, LsRd W (enc x) us ∧ ∀ j u, us[j]? = some u → xs[i * m + j]? = some u
  | [], _, _, i, x, h => by simp at h
  | a :: l, xs, h, i, x, hx => by
    rw [List.flatMap_cons] at h
    obtain ⟨u1, u2, rfl, h1, h2⟩ := LsRd.append.1 h
    have hl := LsRd.length h1
    rw [hm] at hl
    cases i with
    | zero =>
      simp only [List.getElem?_cons_zero, Option.some.injEq] at hx
      subst hx
      refine ⟨u1, h1, fun j u hu => ?_⟩
      rw [Nat.zero_mul, Nat.zero_add, List.getElem?_append_left (List.getElem?_eq_some_iff.1 hu).1]
      exact hu
    | succ i =>
      simp only [List.getElem?_cons_succ] at hx
      obtain ⟨us, h3, h4⟩ := rows_cells hm l u2 h2 i x hx
      refine ⟨us, h3, fun j u hu => ?_⟩
      have := h4 j u hu
      rw [List.getElem?_append_right (by rw [hl, Nat.succ_mul]; omega), show (i + 1) * m + j - u1.length = i * m + j by rw [hl, Nat.succ_mul]; omega]
      exact this

/-- A slice of records, read. -/
theorem rows_at {W : World} {α : Type} {enc : α → List Lf} {e : TypeId} {m : Nat} (hm : ∀ x, (enc x).length = m) {l : List α} {v : Value} (h : LfRd W (.rows e m l.length (l.flatMap enc)) v) :
    ∃ p cap, v = .slice p l.length cap ∧ (l = [] ∨ ∃ b off, p = some ⟨b, off, none⟩ ∧ b < W.heap.size ∧ ∀ i x, l[i]? = some x → ∃ us, LsRd W (enc x) us ∧ ∀ j u, us[j]? = some u → W.cell? ⟨b, off + i * m + j, none⟩ = some u) := by
  obtain ⟨_, p, cap, hv, h⟩ := h
  refine ⟨p, cap, hv, ?_⟩
  rcases h with h0 | ⟨b, off, hp, hlt, xs, hc, hx⟩
  · exact .inl (List.eq_nil_of_length_eq_zero h0)
  · refine .inr ⟨b, off, hp, hlt, fun i x hi => ?_⟩
    obtain ⟨us, h1, h2⟩ := rows_cells hm l xs hx i x hi
    exact ⟨us, h1, fun j u hu => by have := hc _ u (h2 j u hu); rwa [← Nat.add_assoc] at this⟩
theorem flat_lenM {α : Type} {enc : α → List Lf} {m : Nat} (hm : ∀ x, (enc x).length = m) : ∀ (l : List α), (l.flatMap enc).length = l.length * m
  | [] => by simp
  | a :: l => by rw [List.flatMap_cons, List.length_append, flat_lenM hm l, hm a, List.length_cons, Nat.succ_mul]; omega

/-- A cell of an owned row is set. -/
theorem own_set {W : World} {B g n c i m : Nat} {e : TypeId} {A R : List Value} {x : Value} (h : W.ownsRow B e m (.slice (some ⟨g, 0, none⟩) n c) n (A ++ x :: R)) (hi : A.length = i) (u : Value) :
    (W.setCell ⟨g, i, none⟩ u).ownsRow B e m (.slice (some ⟨g, 0, none⟩) n c) n (A ++ u :: R) ∧ W.cell? ⟨g, i, none⟩ = some x ∧ (∀ j, W.frozen? ⟨g, j, none⟩ = false) := by
  have h1 := (h.stored i u).1
  have hl : (A ++ x :: R).length = n * m := h.1
  rw [List.set_append_right _ _ (by omega), hi, Nat.sub_self, List.set_cons_zero] at h1
  refine ⟨h1, ?_, fun j => h.frozenAt j⟩
  rw [h.cellAt i (by rw [← hl]; simp; omega), List.getElem?_append_right (by omega), hi, Nat.sub_self]
  rfl
/-- The rest of a row has room for one element more. -/
theorem rest_split {A R : List Value} {n k m : Nat} (h : (A ++ R).length = n * m) (hA : A.length = k * m) (hk : k < n) : ∃ R1 R2, R = R1 ++ R2 ∧ R1.length = m := by
  have h1 : k * m + m ≤ n * m := by
    have := Nat.mul_le_mul_right m (show k + 1 ≤ n by omega)
    rw [Nat.succ_mul] at this
    exact this
  rw [List.length_append, hA] at h
  exact ⟨R.take m, R.drop m, (List.take_append_drop m R).symm, by rw [List.length_take]; omega⟩
theorem GrownIn.set {W : World} {g i : Nat} {u : Value} {fp : List Nat} (hg : g ∈ fp) : GrownIn W (W.setCell ⟨g, i, none⟩ u) fp :=
  ⟨rfl, rfl, rfl, by simp, fun k _ hn => Below.heap_setCell W _ u k (by intro e; exact hn (by rw [show k = g from e]; exact hg))⟩
theorem LsIn.set {W : World} {xs : List Lf} {vs : List Value} {fp : List Nat} {g i : Nat} {u : Value} (h : LsIn W xs vs fp) (hg : g ∉ fp) : LsIn (W.setCell ⟨g, i, none⟩ u) xs vs fp :=
  h.frame xs vs fp (fun k hk => Below.heap_setCell W _ u k (by intro e; exact hg (by rw [← show k = g from e]; exact hk)))

/-- make([]T, n), whatever the type. -/
theorem wpList_mkn {P : Program} {w : World} {ops : Array Oper} {rest : List Oper} {o : Oper} {a : Act} {Q : Exit → Act → World → Prop} {t e : TypeId} {size bytes : Nat} (E : Elem P t e size bytes)
    (hgd : o.guard = none) (l c : Operand) (ho : o.op = Op.makeSlice t l c) (B : Nat) (W : World) (hb : Below B W w) (hB : B ≤ w.heap.size) (kl kc : IntKind) (n : Nat) (hl : a.eval l = .int kl (n : Int)) (hc : a.eval c = .int kc (n : Int)) (b2 : bytes * n ≤ 281474976710656) (b3 : n ≤ 281474976710656)
    (h : ∀ w' xs, w'.ownsRow B e size (.slice (some ⟨w.heap.size, 0, none⟩) n n) n xs → Below B W w' → w.heap.size < w'.heap.size → wpList P ops Q rest (a.put o.dst (.slice (some ⟨w.heap.size, 0, none⟩) n n)) w') : wpList P ops Q (o :: rest) a w := by
  obtain ⟨ht, ⟨i, z, hi, hz, h2, h3, h4⟩, hp⟩ := E
  refine wpList_make_full w hgd l c t ho B e i z size ht hi hz h2 kl kc (n : Int) (n : Int) n hl hc rfl rfl (by rw [h3]; exact b2) (by unfold maxLen; omega) hB ?_
  intro w' k1 k2
  exact h w' _ k1 (hb.grown k2 hB (fun k hk => by cases hk)) ((k1.lt w.heap.size rfl).2)

end Go.Proofs.Ythihjelcakenpaa
