/-
  Chapter 1's walks: Joined, and the law's helpers that measure and copy a slice of strings.
-/
import Derived.Test.YthjeeggejkpjgaaGb
import Derived.Test.YthjeeggejkpjgaaShelf
import Derived.Lib.AppendStr
import Derived.Lib.Join
import Derived.Deep.Strs
namespace Go.Proofs.Ythjeeggejkpjgaa
open Go.RowKit

/-- make([]T, n). -/
theorem wpList_full {P : Program} {w : World} {ops : Array Oper} {rest : List Oper} {o : Oper} {a : Act} {t e : TypeId} {bytes : Nat} {Q : Exit → Act → World → Prop} (ht : P.underlying t = some (.slice e)) (z : Value) (hi : (P.info? e).map (fun i => (i.zero, i.size, i.bytes)) = some (some z, 1, bytes)) (hz : z.cells = #[z])
    (hgd : o.guard = none) (l c : Operand) (ho : o.op = Op.makeSlice t l c) (B : Nat) (W : World) (hb : Below B W w) (hB : B ≤ w.heap.size) (kl kc : IntKind) (n : Nat) (hl : a.eval l = .int kl (n : Int)) (hc : a.eval c = .int kc (n : Int)) (b2 : bytes * n ≤ 281474976710656) (b3 : n ≤ 281474976710656)
    (h : ∀ w', w'.ownsRow B e 1 (.slice (some ⟨w.heap.size, 0, none⟩) n n) n (List.replicate n z) → Below B W w' → w.grownBy w' none → w.heap.size < w'.heap.size → wpList P ops Q rest (a.put o.dst (.slice (some ⟨w.heap.size, 0, none⟩) n n)) w') : wpList P ops Q (o :: rest) a w := by
  obtain ⟨i, h1, h2, h3, h4⟩ := info_parts hi
  refine wpList_make_full w hgd l c t ho B e i z 1 ht h1 h2 h3 kl kc (n : Int) (n : Int) n hl hc rfl rfl (by rw [h4]; exact b2) (by unfold maxLen; omega) hB ?_
  intro w' k1 k2
  rw [hz, Nat.mul_one, toList_madeCells_one] at k1
  exact h w' k1 (hb.grown k2 hB (fun k hk => by cases hk)) k2 ((k1.lt w.heap.size rfl).2)

theorem strCells_sv (l : List UInt8) : Lib.strCells ⟨l.toArray⟩ = l.map bv := by simp [Lib.strCells]

/-- append(b, s...): the bytes of a string behind a slice of bytes. -/
theorem wpList_apps {P : Program} {w : World} {ops : Array Oper} {rest : List Oper} {o : Oper} {a : Act} {t u e : TypeId} {Q : Exit → Act → World → Prop} (E : Elem P t e 1 1) (hu : P.underlying u = some .string) (hz0 : (P.info? e).bind (·.zero) = some (.int .u8 0)) (hgd : o.guard = none) (sl x : Operand)
    (ho : o.op = .call { callee := .builtin .append, args := #[sl, x], argTypes := #[t, u] }) (B : Nat) (W : World) (hb : Below B W w) (hB : B ≤ w.heap.size)
    (v : Value) (n : Nat) (xs : List Value) (hs : a.eval sl = v) (hown : w.ownsRow B e 1 v n xs) (s : List UInt8) (hx : a.eval x = sv s) (hbytes : n + s.length ≤ 140737488355328)
    (h : ∀ v' w', w'.ownsRow B e 1 v' (n + s.length) (xs ++ s.map bv) → Below B W w' → w.grownBy w' v.ownBlock → wpList P ops Q rest (a.put o.dst v') w') : wpList P ops Q (o :: rest) a w := by
  obtain ⟨ht, ⟨i, z, hi, hz, h2, h3, h4⟩, hp⟩ := E
  rw [hi] at hz0
  have hsz : (ByteArray.mk s.toArray).size = s.length := by show s.toArray.size = _; simp
  refine Lib.wpList_append_own_string w hgd sl x t u ho B e i ht hu hi hz0 h2 h3 v n xs hs hown ⟨s.toArray⟩ hx (by unfold maxLen; omega) (by omega) hB ?_
  intro v' w' k1 k2 _
  rw [strCells_sv, hsz] at k1
  exact h v' w' k1 (hb.grown k2 hB (fun k hk => (hown.lt k hk).1)) k2

/-- How much a list of strings weighs: one a string, and its bytes. -/
def szl (l : List (List UInt8)) : Nat := (l.map fun x => x.length).foldr (· + ·) 0
theorem szl_snoc (l : List (List UInt8)) (x : List UInt8) : szl (l ++ [x]) = szl l + x.length := by
  induction l with
  | nil => simp [szl]
  | cons a l ih => simp only [szl, List.cons_append, List.map_cons, List.foldr_cons] at ih ⊢; omega
theorem szl_take (l : List (List UInt8)) (k : Nat) : szl (l.take k) ≤ szl l := by
  induction l generalizing k with
  | nil => simp
  | cons a l ih =>
    cases k with
    | zero => simp [szl]
    | succ k => have := ih k; simp only [szl, List.take_succ_cons, List.map_cons, List.foldr_cons] at this ⊢; omega

def szR (left : Nat) (l : List (List UInt8)) : Int := if l.length + szl l ≤ left then ((left - (l.length + szl l) : Nat) : Int) else -1
theorem szR_yes {left : Nat} {l : List (List UInt8)} (h : l.length + szl l ≤ left) : szR left l = ((left - (l.length + szl l) : Nat) : Int) := if_pos h
theorem szR_no {left : Nat} {l : List (List UInt8)} (h : ¬ l.length + szl l ≤ left) : szR left l = -1 := if_neg h


/-- The first j elements are l's, the rest as many empty strings. -/
def half (l : List (List UInt8)) (j : Nat) : List (List UInt8) := l.take j ++ List.replicate (l.length - j) []
theorem half_zero (l : List (List UInt8)) : half l 0 = List.replicate l.length [] := by simp [half]
theorem half_all (l : List (List UInt8)) : half l l.length = l := by simp [half]
theorem half_length (l : List (List UInt8)) (j : Nat) (h : j ≤ l.length) : (half l j).length = l.length := by simp [half]; omega
theorem half_set (l : List (List UInt8)) (j : Nat) (x : List UInt8) (hx : l[j]? = some x) : (half l j).set j x = half l (j + 1) := by
  obtain ⟨h1, h2⟩ := List.getElem?_eq_some_iff.1 hx
  unfold half
  have hl : (l.take j).length = j := by simp; omega
  rw [List.set_append_right _ _ (by omega), hl, Nat.sub_self, List.take_succ_eq_append_getElem h1, h2, List.append_assoc]
  congr 1
  rw [show l.length - j = (l.length - (j + 1)) + 1 from by omega, List.replicate_succ]
  rfl

theorem join_snoc (l : List (List UInt8)) (x sep : List UInt8) : Lib.join (l ++ [x]) sep = if l = [] then x else Lib.join l sep ++ sep ++ x := by
  cases l with
  | nil => simp [Lib.join_one]
  | cons a r =>
    rw [if_neg (by simp), List.cons_append, Lib.join_cons, Lib.join_cons]
    simp [Lib.joinTail]
theorem join_length (sep : List UInt8) (l : List (List UInt8)) : (Lib.join l sep).length ≤ szl l + l.length * sep.length := by
  induction l using rev_ind with
  | nil => simp [Lib.join_nil]
  | snoc l x ih =>
    rw [join_snoc, szl_snoc, List.length_append, Nat.add_mul]
    split
    · simp; omega
    · simp only [List.length_append, List.length_singleton, Nat.one_mul]; omega

theorem own_cells {w : World} {B n g c : Nat} {e : TypeId} {l : List (List UInt8)} (h : w.ownsRow B e 1 (.slice (some ⟨g, 0, none⟩) n c) n (l.map sv)) (i : Nat) (x : List UInt8) (hx : l[i]? = some x) : w.cell? ⟨g, 0 + i, none⟩ = some (sv x) := by
  have hi : i < l.length := (List.getElem?_eq_some_iff.1 hx).1
  have hn : l.length = n := by have := h.1; simpa using this
  rw [Nat.zero_add, h.cellAt i (by omega), List.getElem?_map, hx]
  rfl

end Go.Proofs.Ythjeeggejkpjgaa
