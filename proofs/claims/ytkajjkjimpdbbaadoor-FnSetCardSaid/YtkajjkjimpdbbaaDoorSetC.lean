/-
  Chapter 4: the laws' own helpers on spans and numbers: copy, equality, marks.
-/
import Derived.Test.YtkajjkjimpdbbaaDoorSetB
import Derived.Handy
import Derived.IntWalk
namespace Go.Proofs.YtkajjkjimpdbbaaDoor
open Go.RowKit

/-- make([]Token, n). -/
theorem wpList_spans {w : World} {ops : Array Oper} {rest : List Oper} {o : Oper} {a : Act} {Q : Exit → Act → World → Prop}
    (hgd : o.guard = none) (l c : Operand) (ho : o.op = Op.makeSlice 24 l c) (B : Nat) (W : World) (hb : Below B W w) (hB : B ≤ w.heap.size) (kl kc : IntKind) (n : Nat) (hl : a.eval l = .int kl (n : Int)) (hc : a.eval c = .int kc (n : Int)) (b2 : 16 * n ≤ 281474976710656)
    (h : ∀ w' xs, w'.ownsRow B 37 2 (.slice (some ⟨w.heap.size, 0, none⟩) n n) n xs → Below B W w' → w.heap.size < w'.heap.size → wpList Tryd.prog ops Q rest (a.put o.dst (.slice (some ⟨w.heap.size, 0, none⟩) n n)) w') : wpList Tryd.prog ops Q (o :: rest) a w := by
  obtain ⟨i, h1, h2, h3, h4⟩ := info_parts (show (Tryd.prog.info? 37).map (fun i => (i.zero, i.size, i.bytes)) = some (some (.agg #[.int .i64 0, .int .i64 0]), 2, 16) from by kernel_rfl)
  refine wpList_make_full w hgd l c _ ho B 37 i _ 2 Tryd.underlying24 h1 h2 h3 kl kc (n : Int) (n : Int) n hl hc rfl rfl (by rw [h4]; exact b2) (by unfold maxLen; omega) hB ?_
  intro w' k1 k2
  exact h w' _ k1 (hb.grown k2 hB (fun k hk => by cases hk)) ((k1.lt w.heap.size rfl).2)

/-- The numbers k, k + 1 .., as many as n. -/
def imarks (k n : Nat) : List Int := (List.range n).map fun (i : Nat) => ((k + i : Nat) : Int)
theorem imarks_length (k n : Nat) : (imarks k n).length = n := by simp [imarks]
theorem imarks_succ (k n : Nat) : imarks k (n + 1) = imarks k n ++ [((k + n : Nat) : Int)] := by simp [imarks, List.range_succ]
theorem imarks_at (k n i : Nat) (h : i < n) : (imarks k n)[i]? = some ((k + i : Nat) : Int) := by simp [imarks, h]
/-- One cell of an owned row is set, those ahead of it are done. -/
theorem own_one {w : World} {B g n c j : Nat} {e : TypeId} {A rest : List Value} (h : w.ownsRow B e 1 (.slice (some ⟨g, 0, none⟩) n c) n (A ++ rest)) (hA : A.length = j) (hj : j < n) (x : Value) :
    (∃ rest', (w.setCell ⟨g, j, none⟩ x).ownsRow B e 1 (.slice (some ⟨g, 0, none⟩) n c) n ((A ++ [x]) ++ rest')) ∧ (∃ u, w.cell? ⟨g, j, none⟩ = some u) ∧ w.frozen? ⟨g, j, none⟩ = false := by
  have hl : (A ++ rest).length = n := by have := h.1; simpa using this
  have hl0 := hl
  rw [List.length_append, hA] at hl
  refine ⟨?_, ⟨(A ++ rest)[j]'(by omega), by rw [h.cellAt j (by omega)]; exact List.getElem?_eq_getElem _⟩, h.frozenAt _⟩
  cases rest with
  | nil => simp at hl; omega
  | cons r0 r =>
    have h1 := (h.stored j x).1
    rw [List.set_append_right _ _ (by omega), hA, Nat.sub_self, List.set_cons_zero] at h1
    exact ⟨r, by simpa using h1⟩

/-- make([]int, n). -/
theorem wpList_ints {w : World} {ops : Array Oper} {rest : List Oper} {o : Oper} {a : Act} {Q : Exit → Act → World → Prop}
    (hgd : o.guard = none) (l c : Operand) (ho : o.op = Op.makeSlice 58 l c) (B : Nat) (W : World) (hb : Below B W w) (hB : B ≤ w.heap.size) (kl kc : IntKind) (n : Nat) (hl : a.eval l = .int kl (n : Int)) (hc : a.eval c = .int kc (n : Int)) (b2 : 8 * n ≤ 281474976710656)
    (h : ∀ w' xs, w'.ownsRow B 3 1 (.slice (some ⟨w.heap.size, 0, none⟩) n n) n xs → Below B W w' → w.heap.size < w'.heap.size → wpList Tryd.prog ops Q rest (a.put o.dst (.slice (some ⟨w.heap.size, 0, none⟩) n n)) w') : wpList Tryd.prog ops Q (o :: rest) a w := by
  obtain ⟨i, h1, h2, h3, h4⟩ := info_parts (show (Tryd.prog.info? 3).map (fun i => (i.zero, i.size, i.bytes)) = some (some (.int .i64 0), 1, 8) from by kernel_rfl)
  refine wpList_make_full w hgd l c _ ho B 3 i _ 1 Tryd.underlying58 h1 h2 h3 kl kc (n : Int) (n : Int) n hl hc rfl rfl (by rw [h4]; exact b2) (by unfold maxLen; omega) hB ?_
  intro w' k1 k2
  exact h w' _ k1 (hb.grown k2 hB (fun k hk => by cases hk)) ((k1.lt w.heap.size rfl).2)

/-- The marks that the law lays into n spans from number k on. -/
def smarks (k n : Nat) : List Spn := (List.range n).map fun (i : Nat) => ⟨((k + 2 * i : Nat) : Int), ((k + 2 * i + 1 : Nat) : Int)⟩
theorem smarks_length (k n : Nat) : (smarks k n).length = n := by simp [smarks]
theorem smarks_succ (k n : Nat) : smarks k (n + 1) = smarks k n ++ [⟨((k + 2 * n : Nat) : Int), ((k + 2 * n + 1 : Nat) : Int)⟩] := by simp [smarks, List.range_succ]
theorem smarks_at (k n i : Nat) (h : i < n) : (smarks k n)[i]? = some ⟨((k + 2 * i : Nat) : Int), ((k + 2 * i + 1 : Nat) : Int)⟩ := by simp [smarks, h]

end Go.Proofs.YtkajjkjimpdbbaaDoor
