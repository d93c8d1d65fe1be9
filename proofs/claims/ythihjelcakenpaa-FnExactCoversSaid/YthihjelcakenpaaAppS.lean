/-
  append(b, s...) of a string onto bytes of the call's own; slices of elements of several cells, read. No program is read here but its table of types.
-/
import Derived.Test.YthihjelcakenpaaSlc
import Derived.Lib.AppendStr
namespace Go.Proofs.Ythihjelcakenpaa
open Go.RowKit

theorem strCells_bv (s : List UInt8) : Lib.strCells ⟨s.toArray⟩ = s.map bv := by simp [Lib.strCells]

theorem wpList_appS {w : World} {ops : Array Oper} {rest : List Oper} {o : Oper} {a : Act} {B : Nat} {Q : Exit → Act → World → Prop} (hgd : o.guard = none) (sl x : Operand)
    (ho : o.op = .call { callee := .builtin .append, args := #[sl, x], argTypes := #[22, 9] })
    (W : World) (v : Value) (n : Nat) (l : List UInt8) (hs : a.eval sl = v) (hown : w.ownsRow B 5 1 v n (l.map bv)) (hb : Below B W w) (hB : B ≤ w.heap.size)
    (s : List UInt8) (hx : a.eval x = sv s) (hbytes : n + s.length ≤ 140737488355328)
    (h : ∀ v' w', w'.ownsRow B 5 1 v' (n + s.length) ((l ++ s).map bv) → Below B W w' → w.grownBy w' v.ownBlock → wpList Try.prog ops Q rest (a.put o.dst v') w') : wpList Try.prog ops Q (o :: rest) a w := by
  obtain ⟨i, hi, hz, h2, h3⟩ := info_parts (show (Try.prog.info? 5).map (fun i => (i.zero, i.size, i.bytes)) = some (some (.int .u8 0), 1, 1) from by kernel_rfl)
  have hsz : (ByteArray.mk s.toArray).size = s.length := by show s.toArray.size = _; simp
  refine Lib.wpList_append_own_string w hgd sl x _ _ ho B 5 i Try.underlying22 Try.underlying9 hi hz h2 h3 v n (l.map bv) hs hown ⟨s.toArray⟩ hx (by unfold maxLen; omega) (by omega) hB ?_
  intro v' w' k1 k2 _
  rw [hsz, strCells_bv, ← List.map_append] at k1
  exact h v' w' k1 (hb.grown k2 hB (fun k hk => (hown.lt k hk).1)) k2

/-- The slice value v reads in w as the list l, m cells an element. -/
structure Rd {α : Type} (m : Nat) (enc : α → List Value) (w : World) (v : Value) (l : List α) : Prop where
  ex : ∃ p cap, v = .slice p l.length cap ∧ (l = [] ∨ ∃ b off, p = some ⟨b, off, none⟩ ∧ b < w.heap.size ∧ ∀ i x, l[i]? = some x → ∀ j u, (enc x)[j]? = some u → w.cell? ⟨b, off + i * m + j, none⟩ = some u)

theorem Rd.below {α : Type} {m : Nat} {enc : α → List Value} {w w' : World} {v : Value} {l : List α} (h : Rd m enc w v l) (hb : Below w.heap.size w w') : Rd m enc w' v l := by
  obtain ⟨p, cap, hv, h | ⟨b, off, hp, hlt, hc⟩⟩ := h.ex
  · exact ⟨p, cap, hv, .inl h⟩
  · exact ⟨p, cap, hv, .inr ⟨b, off, hp, Nat.lt_of_lt_of_le hlt hb.size, fun i x hx j u hu => (hb.cell (p := ⟨b, off + i * m + j, none⟩) hlt).trans (hc i x hx j u hu)⟩⟩

theorem Rd.nil {α : Type} {m : Nat} {enc : α → List Value} {w : World} : Rd m enc w (.slice none 0 0) ([] : List α) := ⟨none, 0, rfl, .inl rfl⟩

theorem flat_at {α : Type} {m : Nat} (enc : α → List Value) : ∀ (l : List α), (∀ x, (enc x).length = m) → ∀ (i : Nat) (x : α), l[i]? = some x → ∀ (j : Nat) (u : Value), (enc x)[j]? = some u → (l.flatMap enc)[i * m + j]? = some u
  | [], _, i, x, h, _, _, _ => by simp at h
  | y :: l, hm, 0, x, h, j, u, hj => by
    simp only [List.getElem?_cons_zero, Option.some.injEq] at h
    subst h
    rw [List.flatMap_cons, Nat.zero_mul, Nat.zero_add, List.getElem?_append_left (List.getElem?_eq_some_iff.1 hj).1]
    exact hj
  | y :: l, hm, i + 1, x, h, j, u, hj => by
    simp only [List.getElem?_cons_succ] at h
    have h2 : (i + 1) * m + j = (enc y).length + (i * m + j) := by rw [hm y, Nat.succ_mul]; omega
    rw [List.flatMap_cons, h2, List.getElem?_append_right (by omega), Nat.add_sub_cancel_left]
    exact flat_at enc l hm i x h j u hj

/-- What the call owns reads as the list. -/
theorem Rd.of_own {α : Type} {m : Nat} {enc : α → List Value} {w : World} {B n : Nat} {e : TypeId} {v : Value} {l : List α} (hm : ∀ x, (enc x).length = m) (hn : l.length = n) (h : w.ownsRow B e m v n (l.flatMap enc)) : Rd m enc w v l := by
  rcases h.2 with ⟨hv, h0⟩ | ⟨g, cap, cur, hv, h1, h2, h3⟩
  · subst h0
    obtain rfl := List.eq_nil_of_length_eq_zero hn
    exact ⟨none, 0, by rw [hv]; rfl, .inl rfl⟩
  · subst hn
    subst hv
    refine ⟨_, cap, rfl, .inr ⟨g, 0, rfl, (Array.getElem?_eq_some_iff.1 h2).1, fun i x hx j u hu => ?_⟩⟩
    have hlen : j < m := by rw [← hm x]; exact (List.getElem?_eq_some_iff.1 hu).1
    have hi : i < l.length := (List.getElem?_eq_some_iff.1 hx).1
    have hlt : i * m + j < l.length * m := by
      have h4 := Nat.mul_le_mul_right m (show i + 1 ≤ l.length by omega)
      rw [Nat.succ_mul] at h4
      omega
    rw [Nat.zero_add, h.cellAt (i * m + j) hlt]
    exact flat_at enc l hm i x hx j u hu

theorem flat_len2 {α : Type} {enc : α → List Value} (hm : ∀ x, (enc x).length = 2) : ∀ (l : List α), (l.flatMap enc).length = l.length * 2
  | [] => rfl
  | a :: l => by rw [List.flatMap_cons, List.length_append, flat_len2 hm l, hm a, List.length_cons]; omega

/-- Two cells of an owned row are set, the ones ahead of them are done. -/
theorem own_two {w : World} {B g n c j : Nat} {e : TypeId} {A rest : List Value} (h : w.ownsRow B e 2 (.slice (some ⟨g, 0, none⟩) n c) n (A ++ rest)) (hA : A.length = j * 2) (hj : j < n) (x y : Value) :
    ∃ rest', ((w.setCell ⟨g, j * 2, none⟩ x).setCell ⟨g, j * 2 + 1, none⟩ y).ownsRow B e 2 (.slice (some ⟨g, 0, none⟩) n c) n ((A ++ [x, y]) ++ rest') := by
  have hl : (A ++ rest).length = n * 2 := h.1
  rw [List.length_append, hA] at hl
  obtain ⟨r0, r1, r, hr⟩ : ∃ r0 r1 r, rest = r0 :: r1 :: r := by
    match rest, hl with
    | [], hl => simp at hl; omega
    | [_], hl => simp at hl; omega
    | r0 :: r1 :: r, _ => exact ⟨r0, r1, r, rfl⟩
  subst hr
  have h1 := (h.stored (j * 2) x).1
  have h2 := (h1.stored (j * 2 + 1) y).1
  have e1 : (A ++ r0 :: r1 :: r).set (j * 2) x = A ++ x :: r1 :: r := by rw [List.set_append_right _ _ (by omega), hA, Nat.sub_self]; rfl
  have e2 : (A ++ x :: r1 :: r).set (j * 2 + 1) y = (A ++ [x, y]) ++ r := by rw [List.set_append_right _ _ (by omega), hA, show j * 2 + 1 - j * 2 = 1 by omega]; simp
  rw [e1, e2] at h2
  exact ⟨r, h2⟩
/-- The two cells of element j. -/
theorem own_cells2 {w : World} {B g n c j : Nat} {e : TypeId} {xs : List Value} (h : w.ownsRow B e 2 (.slice (some ⟨g, 0, none⟩) n c) n xs) (hj : j < n) :
    (∃ u, w.cell? ⟨g, j * 2, none⟩ = some u) ∧ (∃ u, w.cell? ⟨g, j * 2 + 1, none⟩ = some u) ∧ w.frozen? ⟨g, j * 2, none⟩ = false ∧ w.frozen? ⟨g, j * 2 + 1, none⟩ = false := by
  have hl : xs.length = n * 2 := h.1
  refine ⟨⟨xs[j * 2]'(by omega), ?_⟩, ⟨xs[j * 2 + 1]'(by omega), ?_⟩, h.frozenAt _, h.frozenAt _⟩
  · rw [h.cellAt (j * 2) (by omega)]; exact List.getElem?_eq_getElem _
  · rw [h.cellAt (j * 2 + 1) (by omega)]; exact List.getElem?_eq_getElem _

end Go.Proofs.Ythihjelcakenpaa
