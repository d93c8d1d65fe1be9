/-
  Gd: Draw, Draw2, DrawW, WordH, LexA, LexB.
-/
import Derived.Test.YthjeeggejkpjgaaGa
import Derived.Laws.BitsAllLaws
import Derived.Laws.BitsLemmas
import Derived.Test.YthjeeggejkpjgaaGc
import Derived.IntWalk

/-
  The cursor over a draw: what each of its readers leaves. What is drawn stays open.
-/
namespace Go.Proofs.Ythjeeggejkpjgaa
open Go.RowKit

theorem and_i64_nat (x : Int) (m : Nat) (hm : m ≤ 1073741823) : 0 ≤ bits .and .i64 x (m : Int) ∧ bits .and .i64 x (m : Int) ≤ m := by
  have h1 : (BitVec.ofInt 64 (m : Int)).toNat = m := by
    rw [BitVec.ofInt_natCast, BitVec.toNat_ofNat]; exact Nat.mod_eq_of_lt (by omega)
  have h2 : bits .and .i64 x (m : Int) = (((BitVec.ofInt 64 x).toNat &&& m : Nat) : Int) := by
    show IntKind.i64.wrap ((BitVec.ofInt 64 x &&& BitVec.ofInt 64 (m : Int)).toNat : Int) = _
    rw [BitVec.toNat_and, h1]
    have : (BitVec.ofInt 64 x).toNat &&& m ≤ m := Nat.and_le_right
    rw [IntKind.wrap_i64]
    omega
  have : (BitVec.ofInt 64 x).toNat &&& m ≤ m := Nat.and_le_right
  rw [h2]
  omega
theorem and255 (x : Int) : 0 ≤ bits .and .i64 x 255 ∧ bits .and .i64 x 255 ≤ 255 := and_i64_nat x 255 (by omega)

/-- Block g is a cursor over the bytes code. -/
structure Cur (w : World) (g : Nat) (code : List UInt8) : Prop where
  ex : ∃ (p : Option Addr) (cap i : Nat) (h : Int), w.cell? ⟨g, 0, none⟩ = some (.slice p code.length cap) ∧ w.cell? ⟨g, 1, none⟩ = some (.int .i64 i) ∧ w.cell? ⟨g, 2, none⟩ = some (.int .i64 h) ∧ i ≤ code.length ∧
    (code = [] ∨ ∃ b off, p = some ⟨b, off, none⟩ ∧ b < g ∧ ∀ j x, code[j]? = some x → w.cell? ⟨b, off + j, none⟩ = some (bv x))
  free : ∀ j, w.frozen? ⟨g, j, none⟩ = false
  few : code.length ≤ 1000000000000000

theorem Cur.lt {w : World} {g : Nat} {code : List UInt8} (h : Cur w g code) : g < w.heap.size := by
  obtain ⟨_, _, _, _, h0, _⟩ := h.ex
  exact World.block_lt_of_cell? w _ h0
theorem Cur.of_block {w w' : World} {g : Nat} {code : List UInt8} (h : Cur w g code) (hb : ∀ k, k < w.heap.size → w'.heap[k]? = w.heap[k]?) : Cur w' g code := by
  obtain ⟨p, cap, i, hh, h0, h1, h2, h3, h4⟩ := h.ex
  have hg := h.lt
  refine ⟨⟨p, cap, i, hh, (World.cell?_of_block (hb g hg)).trans h0, (World.cell?_of_block (hb g hg)).trans h1, (World.cell?_of_block (hb g hg)).trans h2, h3, ?_⟩, fun j => (World.frozen?_of_block (hb g hg)).trans (h.free j), h.few⟩
  rcases h4 with h4 | ⟨b, off, e1, e2, e4⟩
  · exact .inl h4
  · exact .inr ⟨b, off, e1, e2, fun j x hx => (World.cell?_of_block (hb b (by omega))).trans (e4 j x hx)⟩
theorem Cur.below {w w' : World} {g : Nat} {code : List UInt8} (h : Cur w g code) (hb : Below w.heap.size w w') : Cur w' g code := h.of_block hb.block
/-- Behind a change of younger blocks alone. -/
theorem Cur.grown {w w' : World} {g : Nat} {code : List UInt8} {row : Option Nat} (h : Cur w g code) (hg : w.grownBy w' row) (hr : ∀ k, row = some k → g < k) : Cur w' g code := by
  obtain ⟨p, cap, i, hh, h0, h1, h2, h3, h4⟩ := h.ex
  have hlt := h.lt
  have hb : ∀ k, k ≤ g → w'.heap[k]? = w.heap[k]? := fun k hk => hg.block k (by omega) (fun e => by have := hr k e.symm; omega)
  have hgb := hb g (Nat.le_refl _)
  refine ⟨⟨p, cap, i, hh, (World.cell?_of_block (a := ⟨g, 0, none⟩) hgb).trans h0, (World.cell?_of_block (a := ⟨g, 1, none⟩) hgb).trans h1, (World.cell?_of_block (a := ⟨g, 2, none⟩) hgb).trans h2, h3, ?_⟩, fun j => (World.frozen?_of_block (a := ⟨g, j, none⟩) hgb).trans (h.free j), h.few⟩
  rcases h4 with h4 | ⟨b, off, e1, e2, e4⟩
  · exact .inl h4
  · exact .inr ⟨b, off, e1, e2, fun j x hx => (World.cell?_of_block (a := ⟨b, off + j, none⟩) (hb b (by omega))).trans (e4 j x hx)⟩

theorem grown_setCell {w w' : World} {g : Nat} (h : w.grownBy w' (some g)) (j : Nat) (v : Value) : w.grownBy (w'.setCell ⟨g, j, none⟩ v) (some g) :=
  ⟨h.os, h.tape, h.output, by simpa [World.setCell] using h.size, fun k hk hne => (Below.heap_setCell w' _ _ k (by intro e; subst e; exact hne rfl)).trans (h.block k hk hne)⟩
theorem grown_drew {w w' : World} {row : Option Nat} (h : w.grownBy w' row) : w.grownBy w'.drew row := ⟨h.os, h.tape, h.output, h.size, h.block⟩

theorem addr_ne {b o o' : Nat} (h : o ≠ o') : (⟨b, o, none⟩ : Addr) ≠ ⟨b, o', none⟩ := by intro e; injection e with _ e2; exact h e2
theorem addr_ne' {b b' o o' : Nat} (h : b ≠ b') : (⟨b, o, none⟩ : Addr) ≠ ⟨b', o', none⟩ := by intro e; injection e with e1; exact h e1
theorem size_setCell (w : World) (a : Addr) (v : Value) : (w.setCell a v).heap.size = w.heap.size := by simp [World.setCell]

theorem Cur.setH {w : World} {g : Nat} {code : List UInt8} (hc : Cur w g code) (h' : Int) : Cur (w.setCell ⟨g, 2, none⟩ (.int .i64 h')) g code := by
  obtain ⟨p, cap, i, hh, h0, h1, h2, h3, h4⟩ := hc.ex
  refine ⟨⟨p, cap, i, h', (World.cell?_setCell_other w _ _ _ (addr_ne (by omega))).trans h0, (World.cell?_setCell_other w _ _ _ (addr_ne (by omega))).trans h1, World.cell?_setCell_same w _ _ h2, h3, ?_⟩, fun j => by simpa using hc.free j, hc.few⟩
  rcases h4 with h4 | ⟨b, off, e1, e2, e4⟩
  · exact .inl h4
  · exact .inr ⟨b, off, e1, e2, fun j x hx => (World.cell?_setCell_other w _ _ _ (addr_ne' (by omega))).trans (e4 j x hx)⟩
theorem Cur.setI {w : World} {g : Nat} {code : List UInt8} (hc : Cur w g code) (i' : Nat) (hi : i' ≤ code.length) : Cur (w.setCell ⟨g, 1, none⟩ (.int .i64 i')) g code := by
  obtain ⟨p, cap, i, hh, h0, h1, h2, h3, h4⟩ := hc.ex
  refine ⟨⟨p, cap, i', hh, (World.cell?_setCell_other w _ _ _ (addr_ne (by omega))).trans h0, World.cell?_setCell_same w _ _ h1, (World.cell?_setCell_other w _ _ _ (addr_ne (by omega))).trans h2, hi, ?_⟩, fun j => by simpa using hc.free j, hc.few⟩
  rcases h4 with h4 | ⟨b, off, e1, e2, e4⟩
  · exact .inl h4
  · exact .inr ⟨b, off, e1, e2, fun j x hx => (World.cell?_setCell_other w _ _ _ (addr_ne' (by omega))).trans (e4 j x hx)⟩
theorem Cur.drew {w : World} {g : Nat} {code : List UInt8} (hc : Cur w g code) : Cur w.drew g code := ⟨hc.ex, hc.free, hc.few⟩

def BytePost (g : Nat) (code : List UInt8) (w : World) (e : Ending) (w' : World) : Prop := ∃ x : Nat, e = .returned (.int .i64 x) ∧ x ≤ 255 ∧ Cur w' g code ∧ w.grownBy w' (some g)
theorem BytePost.mk {g : Nat} {code : List UInt8} {w w' : World} {v : Int} (h0 : 0 ≤ v) (h1 : v ≤ 255) (hc : Cur w' g code) (hg : w.grownBy w' (some g)) : BytePost g code w (.returned (.int .i64 v)) w' :=
  ⟨v.toNat, by rw [Int.toNat_of_nonneg h0], by omega, hc, hg⟩


theorem Rd1.grownG {w w' : World} {g : Nat} {α : Type} {enc : α → Value} {v : Value} {l : List α} (hr : Rd1 enc w v l) (hg : w.grownBy w' (some g)) (hne : ∀ b off c n, v = .slice (some ⟨b, off, none⟩) n c → b ≠ g) : Rd1 enc w' v l := by
  obtain ⟨p, cap, hv, h | ⟨b, off, hp, hlt, hc⟩⟩ := hr.ex
  · exact ⟨p, cap, hv, .inl h⟩
  · subst hp
    have hb := hne b off cap _ hv
    exact ⟨_, cap, hv, .inr ⟨b, off, rfl, Nat.lt_of_lt_of_le hlt hg.size, fun i x hx => (World.cell?_of_block (a := ⟨b, off + i, none⟩) (hg.block b hlt (by intro e; injection e with e; exact hb e))).trans (hc i x hx)⟩⟩

/-- What l1Below hands back: a number below n. -/
def BelowPost (g : Nat) (code : List UInt8) (n : Nat) (w : World) (e : Ending) (w' : World) : Prop := ∃ x : Nat, e = .returned (.int .i64 x) ∧ x < n ∧ Cur w' g code ∧ w.grownBy w' (some g)

/-- The value is a slice whose block is not g. -/
def Apart (v : Value) (g : Nat) : Prop := ∀ b off c n, v = .slice (some ⟨b, off, none⟩) n c → b ≠ g

def PickPost (g : Nat) (code : List UInt8) (l : List (List UInt8)) (w : World) (e : Ending) (w' : World) : Prop := ∃ x, e = .returned (sv x) ∧ x ∈ l ∧ Cur w' g code ∧ w.grownBy w' (some g)

def PickIntPost (g : Nat) (code : List UInt8) (l : List Int) (w : World) (e : Ending) (w' : World) : Prop := ∃ x, e = .returned (.int .i64 x) ∧ x ∈ l ∧ Cur w' g code ∧ w.grownBy w' (some g)

end Go.Proofs.Ythjeeggejkpjgaa

/-
  What is drawn: the cursor's making, bytes, turned texts.
-/
namespace Go.Proofs.Ythjeeggejkpjgaa
open Go.RowKit

theorem grown_young {w w1 w2 : World} {row row' : Option Nat} (h : w.grownBy w1 row) (hg : w1.grownBy w2 row') (hr : ∀ k, row' = some k → w.heap.size ≤ k) : w.grownBy w2 row :=
  ⟨hg.os.trans h.os, hg.tape.trans h.tape, hg.output.trans h.output, Nat.le_trans h.size hg.size, fun k hk hne => (hg.block k (Nat.lt_of_lt_of_le hk h.size) (fun e => by have := hr k e.symm; omega)).trans (h.block k hk hne)⟩
theorem grown_of_below {w w1 : World} {row : Option Nat} (h : Below w.heap.size w w1) : w.grownBy w1 row := ⟨h.os, h.tape, h.output, h.size, fun k hk _ => h.block k hk⟩
/-- A cursor that was made since: its changes are none of the old memory. -/
theorem below_cur {W w w1 : World} {g B : Nat} (h : Below B W w) (hg : w.grownBy w1 (some g)) (hB : B ≤ w.heap.size) (hgB : B ≤ g) : Below B W w1 := h.grown hg hB (fun k hk => by injection hk with hk; omega)

theorem and_big (x : Int) : 0 ≤ bits .and .i64 x 1073741823 ∧ bits .and .i64 x 1073741823 ≤ 2000000000 := by
  obtain ⟨h1, h2⟩ := and_i64_nat x 1073741823 (by omega)
  exact ⟨h1, Int.le_trans h2 (by omega)⟩

def BytesPost (g : Nat) (code : List UInt8) (n : Nat) (w : World) (e : Ending) (w' : World) : Prop := ∃ (v : Value) (l : List UInt8), e = .returned v ∧ l.length = n ∧ w'.ownsRow w.heap.size 5 1 v n (l.map bv) ∧ Cur w' g code ∧ w.grownBy w' (some g)


/-- A slice of strings that was just written out. -/
theorem Rd1_lit {α : Type} {enc : α → Value} {W : World} {b n c : Nat} {cs : Array Value} {e : TypeId} (l : List α) (h : W.heap[b]? = some (.cells cs e (0, 0))) (hcs : cs.toList = l.map enc) (hn : l.length = n) : Rd1 enc W (.slice (some ⟨b, 0, none⟩) n c) l := by
  subst hn
  refine ⟨_, c, rfl, .inr ⟨b, 0, rfl, (Array.getElem?_eq_some_iff.1 h).1, fun i x hx => ?_⟩⟩
  rw [Nat.zero_add, cell_of_row W b i cs e (0, 0) h, ← Array.getElem?_toList, hcs, List.getElem?_map, hx]
  rfl
theorem Apart_new {b n c g : Nat} (h : g < b) : Apart (.slice (some ⟨b, 0, none⟩) n c) g := by
  intro b' off c' n' e
  injection e with e
  injection e with e
  injection e with e
  omega


/-- A text was drawn, of at most so many bytes. -/
def TextPost (n : Nat) (w : World) (e : Ending) (w' : World) : Prop := ∃ t : List UInt8, e = .returned (sv t) ∧ t.length ≤ n ∧ Below w.heap.size w w'

end Go.Proofs.Ythjeeggejkpjgaa

/-
  A whole number is drawn.
-/
namespace Go.Proofs.Ythjeeggejkpjgaa
open Go.RowKit

theorem grown_trans {w a b : World} {row : Option Nat} (h : w.grownBy a row) (k : a.grownBy b row) : w.grownBy b row :=
  ⟨k.os.trans h.os, k.tape.trans h.tape, k.output.trans h.output, Nat.le_trans h.size k.size, fun i hi hne => (k.block i (Nat.lt_of_lt_of_le hi h.size) hne).trans (h.block i hi hne)⟩
def in64 (n : Int) : Prop := -9223372036854775808 ≤ n ∧ n ≤ 9223372036854775807
/-- Some int was drawn. -/
def WholeG (g : Nat) (code : List UInt8) (w : World) (e : Ending) (w' : World) : Prop := ∃ n : Int, e = .returned (.int .i64 n) ∧ in64 n ∧ Cur w' g code ∧ w.grownBy w' (some g)
theorem drawnWhole : ∀ x ∈ ([0, 1, -1, 9, 10, 999999999, 1000000000, 9223372036854775807, -9223372036854775808] : List Int), -9223372036854775808 ≤ x ∧ x ≤ 9223372036854775807 := by decide

end Go.Proofs.Ythjeeggejkpjgaa

/-
  Chapter 2's draws.
-/
namespace Go.Proofs.Ythjeeggejkpjgaa
open Go.RowKit

def DrewPost (n : Nat) (g : Nat) (code : List UInt8) (w : World) (e : Ending) (w' : World) : Prop := ∃ t : List UInt8, e = .returned (sv t) ∧ t.length ≤ n ∧ Cur w' g code ∧ w.grownBy w' (some g)

def TwoTexts (n : Nat) (w : World) (e : Ending) (w' : World) : Prop := ∃ t u : List UInt8, e = .returned (.tuple #[sv t, sv u]) ∧ t.length ≤ n ∧ u.length ≤ n ∧ Below w.heap.size w w'

def TextAt (n : Nat) (w : World) (e : Ending) (w' : World) : Prop := ∃ (t : List UInt8) (a : Int), e = .returned (.tuple #[sv t, .int .i64 a]) ∧ t.length ≤ n ∧ Below w.heap.size w w'

end Go.Proofs.Ythjeeggejkpjgaa

/-
  Chapter 3's walks: tokens and their texts, by the model.
-/
namespace Go.Proofs.Ythjeeggejkpjgaa
open Go.RowKit
open Go.Lib (decDigits itoa)

structure Tok where
  kind : Int
  text : List UInt8

/-- A token as a value. -/
abbrev tokv (t : Tok) : Value := .agg #[.int .i64 t.kind, sv t.text]
def gapB (a b : Tok) : Bool := a.kind != 3 && b.kind != 4

def litL (l : List UInt8) : List UInt8 := if l.length ≤ 40 then [123] ++ decDigits l.length ++ [125, 13, 10] ++ l else []
theorem litL_le (l : List UInt8) : (litL l).length ≤ 100 := by
  unfold litL
  split
  · have := decDigits_length_le l.length (by omega)
    simp; omega
  · simp

def tokText (t : Tok) : List UInt8 :=
  if t.kind = 1 then (if atomB t.text = true then t.text else [])
  else if t.kind = 2 then (if quoteL t.text = [] then litL t.text else quoteL t.text)
  else if t.kind = 3 then (if t.text = [] then [40] else [])
  else if t.kind = 4 then (if t.text = [] then [41] else [])
  else []

end Go.Proofs.Ythjeeggejkpjgaa

/-
  Chapter 3's walks: LineOf, by the model.
-/
namespace Go.Proofs.Ythjeeggejkpjgaa
open Go.RowKit

def tokc (t : Tok) : List Value := [.int .i64 t.kind, sv t.text]
def sepL : Option Tok → Tok → List UInt8
  | none, _ => []
  | some a, t => if gapB a t = true then [32] else []
def lineFrom : Option Tok → List Tok → List UInt8
  | _, [] => []
  | p, t :: r => sepL p t ++ tokText t ++ lineFrom (some t) r
def okLine (l : List Tok) : Bool := l.all fun t => !(tokText t).isEmpty
def lineL (l : List Tok) : List UInt8 := if okLine l = true then lineFrom none l else []
def lastOr (p : Option Tok) : List Tok → Option Tok
  | [] => p
  | t :: r => lastOr (some t) r
theorem lineFrom_snoc : ∀ (l : List Tok) (p : Option Tok) (t : Tok), lineFrom p (l ++ [t]) = lineFrom p l ++ (sepL (lastOr p l) t ++ tokText t)
  | [], p, t => by simp [lineFrom, lastOr]
  | x :: l, p, t => by simp [lineFrom, lastOr, lineFrom_snoc l (some x) t]
theorem lastOr_snoc : ∀ (l : List Tok) (p : Option Tok) (t : Tok), lastOr p (l ++ [t]) = some t
  | [], _, _ => rfl
  | x :: l, _, t => lastOr_snoc l (some x) t
theorem tokText_le (t : Tok) : (tokText t).length ≤ 100 := by
  unfold tokText
  split
  · split
    · rename_i h; unfold atomB at h; simp only [Bool.and_eq_true, decide_eq_true_eq] at h; omega
    · simp
  split
  · split
    · exact litL_le _
    · have := quoteL_le t.text; omega
  split
  · split <;> simp
  split
  · split <;> simp
  · simp
theorem sepL_yes {a t : Tok} (h : gapB a t = true) : sepL (some a) t = [32] := by show (if gapB a t = true then _ else _) = _; rw [if_pos h]
theorem sepL_no {a t : Tok} (h : gapB a t = false) : sepL (some a) t = [] := by show (if gapB a t = true then _ else _) = _; rw [h]; rfl
theorem sepL_le (p : Option Tok) (t : Tok) : (sepL p t).length ≤ 1 := by
  unfold sepL; split
  · simp
  · split <;> simp
theorem take_tok {l : List Tok} {k : Nat} {t : Tok} (h : l[k]? = some t) : l.take (k + 1) = l.take k ++ [t] := by
  obtain ⟨h1, h2⟩ := List.getElem?_eq_some_iff.1 h
  rw [List.take_succ_eq_append_getElem h1, h2]
theorem line_bad {l : List Tok} {k : Nat} {t : Tok} (h : l[k]? = some t) (he : tokText t = []) : lineL l = [] := by
  unfold lineL okLine
  rw [if_neg]
  intro hc
  rw [List.all_eq_true] at hc
  have := hc t (List.mem_of_getElem? h)
  rw [he] at this
  cases this

/-- The loop's knowledge: acc is the line of the first k, none of them is empty. -/
def LnSt (l : List Tok) (k : Nat) (acc : List UInt8) : Prop := acc = lineFrom none (l.take k) ∧ okLine (l.take k) = true ∧ acc.length ≤ 101 * k
theorem LnSt.step {l : List Tok} {k : Nat} {acc : List UInt8} {t : Tok} (h : LnSt l k acc) (ht : l[k]? = some t) (he : ¬ tokText t = []) (hp : lastOr none (l.take k) = (if k = 0 then none else l[k - 1]?)) :
    LnSt l (k + 1) (acc ++ sepL (if k = 0 then none else l[k - 1]?) t ++ tokText t) := by
  obtain ⟨h1, h2, h3⟩ := h
  refine ⟨?_, ?_, ?_⟩
  · rw [take_tok ht, lineFrom_snoc, hp, h1, List.append_assoc]
  · rw [take_tok ht]
    unfold okLine at *
    rw [List.all_append, h2]
    cases hh : tokText t with
    | nil => exact absurd hh he
    | cons a r => simp [hh]
  · have := tokText_le t
    have := sepL_le (if k = 0 then none else l[k - 1]?) t
    simp only [List.length_append]; omega
theorem last_take (l : List Tok) (k : Nat) (hk : k ≤ l.length) : lastOr none (l.take k) = (if k = 0 then none else l[k - 1]?) := by
  cases k with
  | zero => simp [lastOr]
  | succ j =>
    have hj : l[j]? = some (l[j]'(by omega)) := List.getElem?_eq_getElem (by omega)
    rw [take_tok hj, lastOr_snoc, if_neg (by omega), Nat.add_sub_cancel, hj]

end Go.Proofs.Ythjeeggejkpjgaa

