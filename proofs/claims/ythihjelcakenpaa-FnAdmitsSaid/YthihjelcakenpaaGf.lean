/-
  Gf: LexE, LexF, LexH.
-/
import Derived.Test.YthihjelcakenpaaGe
import Derived.Test.YthihjelcakenpaaGa
import Derived.Test.YthihjelcakenpaaGd
import Derived.Test.YthihjelcakenpaaGb

/-
  Chapter 3's draws.
-/
namespace Go.Proofs.Ythihjelcakenpaa
open Go.RowKit

/-- A token was drawn. -/
def TokPost (g : Nat) (code : List UInt8) (w : World) (e : Ending) (w' : World) : Prop := ∃ t : Tok, e = .returned (tokv t) ∧ t.text.length ≤ 50 ∧ Cur w' g code ∧ w.grownBy w' (some g)

theorem grown_set1 (w : World) (b j : Nat) (v : Value) : w.grownBy (w.setCell ⟨b, j, none⟩ v) (some b) :=
  ⟨rfl, rfl, rfl, by simp, fun k _ hne => Below.heap_setCell w _ v k (by intro e; subst e; exact hne rfl)⟩
/-- A cell of a younger block is set: the old memory stands as it stood. -/
theorem grown_set {w w1 : World} {row : Option Nat} {b : Nat} (h : w.grownBy w1 row) (hb : w.heap.size ≤ b) (j : Nat) (v : Value) : w.grownBy (w1.setCell ⟨b, j, none⟩ v) row :=
  grown_young h (grown_set1 w1 b j v) (fun k hk => by injection hk with hk; omega)
theorem Cur.set {w : World} {g b : Nat} {code : List UInt8} (h : Cur w g code) (hb : g < b) (j : Nat) (v : Value) : Cur (w.setCell ⟨b, j, none⟩ v) g code :=
  h.grown (grown_set1 w b j v) (fun k hk => by injection hk with hk; omega)
/-- Behind a draw the cells of a block that is not the cursor's stand. -/
theorem cells_grown {w w1 : World} {g b : Nat} (hg : w.grownBy w1 (some g)) (hb : b < w.heap.size) (hne : b ≠ g) : (∀ j, w1.cell? ⟨b, j, none⟩ = w.cell? ⟨b, j, none⟩) ∧ (∀ j, w1.frozen? ⟨b, j, none⟩ = w.frozen? ⟨b, j, none⟩) :=
  ⟨fun _ => World.cell?_of_block (hg.block b hb (by intro e; injection e with e; exact hne e)), fun _ => World.frozen?_of_block (hg.block b hb (by intro e; injection e with e; exact hne e))⟩

/-- The token's variable lies in block B, the result's place in block R. -/
structure BT (w : World) (B R : Nat) (k : Int) (tx : List UInt8) : Prop where
  p0 : w.cell? ⟨B, 0, none⟩ = some (.int .i64 k)
  p1 : w.cell? ⟨B, 1, none⟩ = some (sv tx)
  q0 : w.frozen? ⟨B, 0, none⟩ = false
  q1 : w.frozen? ⟨B, 1, none⟩ = false
  r0 : w.cell? ⟨R, 0, none⟩ = some (.int .i64 0)
  r1 : w.cell? ⟨R, 1, none⟩ = some (.string ⟨#[]⟩)
  s0 : w.frozen? ⟨R, 0, none⟩ = false
  s1 : w.frozen? ⟨R, 1, none⟩ = false
theorem BT.grown {w w1 : World} {B R g : Nat} {k : Int} {tx : List UInt8} (h : BT w B R k tx) (hg : w.grownBy w1 (some g)) (hB : ¬ B = g) (hR : ¬ R = g) : BT w1 B R k tx := by
  obtain ⟨c1, f1⟩ := cells_grown hg (World.block_lt_of_cell? _ _ h.p0) hB
  obtain ⟨c2, f2⟩ := cells_grown hg (World.block_lt_of_cell? _ _ h.r0) hR
  exact ⟨(c1 0).trans h.p0, (c1 1).trans h.p1, (f1 0).trans h.q0, (f1 1).trans h.q1, (c2 0).trans h.r0, (c2 1).trans h.r1, (f2 0).trans h.s0, (f2 1).trans h.s1⟩
theorem BT.below {w w1 : World} {B R : Nat} {k : Int} {tx : List UInt8} (h : BT w B R k tx) (hb : Below w.heap.size w w1) : BT w1 B R k tx := by
  have hB := World.block_lt_of_cell? _ _ h.p0
  have hR := World.block_lt_of_cell? _ _ h.r0
  exact ⟨(hb.cell (p := ⟨B, 0, none⟩) hB).trans h.p0, (hb.cell (p := ⟨B, 1, none⟩) hB).trans h.p1, (hb.frozen (p := ⟨B, 0, none⟩) hB).trans h.q0, (hb.frozen (p := ⟨B, 1, none⟩) hB).trans h.q1,
    (hb.cell (p := ⟨R, 0, none⟩) hR).trans h.r0, (hb.cell (p := ⟨R, 1, none⟩) hR).trans h.r1, (hb.frozen (p := ⟨R, 0, none⟩) hR).trans h.s0, (hb.frozen (p := ⟨R, 1, none⟩) hR).trans h.s1⟩
theorem BT.sets {w : World} {B R : Nat} {k : Int} {tx : List UInt8} (h : BT w B R k tx) (hne : ¬ R = B) :
    (∀ v, (w.setCell ⟨B, 0, none⟩ v).cell? ⟨B, 0, none⟩ = some v) ∧ (∀ v, (w.setCell ⟨B, 1, none⟩ v).cell? ⟨B, 1, none⟩ = some v) ∧
    (∀ v, (w.setCell ⟨R, 0, none⟩ v).cell? ⟨R, 0, none⟩ = some v) ∧ (∀ v v', ((w.setCell ⟨R, 0, none⟩ v).setCell ⟨R, 1, none⟩ v').cell? ⟨R, 1, none⟩ = some v') ∧
    (∀ u j v, ((w.setCell ⟨B, j, none⟩ u).setCell ⟨R, 0, none⟩ v).cell? ⟨R, 0, none⟩ = some v) ∧ (∀ u j v v', (((w.setCell ⟨B, j, none⟩ u).setCell ⟨R, 0, none⟩ v).setCell ⟨R, 1, none⟩ v').cell? ⟨R, 1, none⟩ = some v') := by
  have hr : ∀ u j i, (w.setCell ⟨B, j, none⟩ u).cell? ⟨R, i, none⟩ = w.cell? ⟨R, i, none⟩ := fun u j i => World.cell?_setCell_other w _ _ _ (by intro e; injection e with e _; exact hne e.symm)
  refine ⟨fun v => World.cell?_setCell_same w _ _ h.p0, fun v => World.cell?_setCell_same w _ _ h.p1, (two_set h.r0 h.r1).1, (two_set h.r0 h.r1).2, fun u j => (two_set ((hr u j 0).trans h.r0) ((hr u j 1).trans h.r1)).1, fun u j => (two_set ((hr u j 0).trans h.r0) ((hr u j 1).trans h.r1)).2⟩

end Go.Proofs.Ythihjelcakenpaa

/-
  Chapter 3's draws of lines, and sameTokens.
-/
namespace Go.Proofs.Ythihjelcakenpaa
open Go.RowKit

theorem line_le (l : List Tok) (n : Nat) (h : l.length ≤ n) : (lineL l).length ≤ 101 * n := by
  have key : ∀ (l : List Tok) (p : Option Tok), (lineFrom p l).length ≤ 101 * l.length := by
    intro l
    induction l with
    | nil => intro p; simp [lineFrom]
    | cons t r ih =>
      intro p
      have h1 := sepL_le p t
      have h2 := tokText_le t
      have h3 := ih (some t)
      simp only [lineFrom, List.length_append, List.length_cons]
      omega
  unfold lineL
  split
  · have := key l none; omega
  · simp

end Go.Proofs.Ythihjelcakenpaa

/-
  The laws' own helpers on tokens: size, copy, equality, marks.
-/
namespace Go.Proofs.Ythihjelcakenpaa
open Go.RowKit

/-- How much a list of tokens weighs: one a token, and its bytes. -/
def tkw (l : List Tok) : Nat := (l.map fun t => t.text.length).foldr (· + ·) 0
theorem tkw_snoc (l : List Tok) (x : Tok) : tkw (l ++ [x]) = tkw l + x.text.length := by
  induction l with
  | nil => simp [tkw]
  | cons a l ih => simp only [tkw, List.cons_append, List.map_cons, List.foldr_cons] at ih ⊢; omega
theorem tkw_take (l : List Tok) (k : Nat) : tkw (l.take k) ≤ tkw l := by
  induction l generalizing k with
  | nil => simp
  | cons a l ih =>
    cases k with
    | zero => simp [tkw]
    | succ k => have := ih k; simp only [tkw, List.take_succ_cons, List.map_cons, List.foldr_cons] at this ⊢; omega
theorem tkw_mem (l : List Tok) (t : Tok) (h : t ∈ l) : t.text.length ≤ tkw l := by
  induction l with
  | nil => cases h
  | cons a l ih =>
    simp only [tkw, List.map_cons, List.foldr_cons] at ih ⊢
    rcases List.mem_cons.1 h with rfl | h
    · omega
    · have := ih h; omega
def tkR (left : Nat) (n : Nat) : Int := if n ≤ left then ((left - n : Nat) : Int) else -1
theorem tkR_yes {left n : Nat} (h : n ≤ left) : tkR left n = ((left - n : Nat) : Int) := if_pos h
theorem tkR_no {left n : Nat} (h : ¬ n ≤ left) : tkR left n = -1 := if_neg h

theorem flat_len (l : List Tok) : (l.flatMap tokc).length = l.length * 2 := by
  induction l with
  | nil => rfl
  | cons a l ih => rw [List.flatMap_cons, List.length_append, ih]; simp [tokc]; omega

/-- The marks that the law lays into n tokens from number k on. -/
def tmarks (k n : Nat) : List Tok := (List.range n).map fun i => ⟨((k + 2 * i : Nat) : Int), markB (k + 2 * i + 1)⟩
theorem tmarks_length (k n : Nat) : (tmarks k n).length = n := by simp [tmarks]
theorem tmarks_succ (k n : Nat) : tmarks k (n + 1) = tmarks k n ++ [⟨((k + 2 * n : Nat) : Int), markB (k + 2 * n + 1)⟩] := by simp [tmarks, List.range_succ]
theorem tmarks_at (k n i : Nat) (h : i < n) : (tmarks k n)[i]? = some ⟨((k + 2 * i : Nat) : Int), markB (k + 2 * i + 1)⟩ := by simp [tmarks, h]

end Go.Proofs.Ythihjelcakenpaa

