/-
  Ub: Gc Gd (what the claim needs of them).
-/
import Derived.Test.YtbfgdbpfecffcaaRows
import Derived.WalkKit
import Derived.WalkSpells
import Derived.WalkLawsBesides
import Derived.Laws.IdiomStrings
import Derived.Lib.Hide
import Derived.Deep.AppendLies
import Derived.OrdersHeld
import Derived.Lib.ItoaNum
import Derived.Lib.ItoaMem
import Derived.Lib.AppendStr
import Derived.Lib.ItoaLen
import Derived.Lib.Strings
import Derived.Lib.Bytealg
import Derived.Lib.OthersKept
import Derived.Laws.RangeAny
import Derived.Test.YtbfgdbpfecffcaaProg
import Derived.Laws.BitsAllLaws
import Derived.Laws.BitsLemmas
import Derived.IntWalk
import Derived.Test.YtbfgdbpfecffcaaUa

namespace Go.Proofs.Ytbfgdbpfecffcaa
open Go.RowKit

def txtc (b : UInt8) : Bool := decide (32 ≤ b.toNat) && decide (b.toNat ≤ 126)
def escc (b : UInt8) : Bool := decide (b.toNat = 34) || decide (b.toNat = 92)
def atomc (b : UInt8) : Bool := decide (33 ≤ b.toNat) && decide (b.toNat ≤ 126) && !(decide (b.toNat = 40) || decide (b.toNat = 41) || decide (b.toNat = 123) || decide (b.toNat = 34) || decide (b.toNat = 92))
def atomB (l : List UInt8) : Bool := l.all atomc && decide (1 ≤ l.length) && decide (l.length ≤ 40)
def esc1 (b : UInt8) : List UInt8 := if escc b = true then [92, b] else [b]
def escl (l : List UInt8) : List UInt8 := l.flatMap esc1
def quoteL (l : List UInt8) : List UInt8 := if l.all txtc = true ∧ l.length ≤ 40 then 34 :: escl l ++ [34] else []
def wordL (l : List UInt8) : List UInt8 := if atomB l = true then l else quoteL l

def nameRun : List UInt8 → Bool → Bool
  | [], a => !a
  | b :: r, a => if b.toNat = 47 then (if a = true then false else nameRun r true) else if 97 ≤ b.toNat ∧ b.toNat ≤ 122 then nameRun r false else false
def nameB (l : List UInt8) : Bool := nameRun l true && decide (l.length ≤ 12)
theorem nameRun_slash {b : UInt8} (r : List UInt8) (h : b.toNat = 47) : nameRun (b :: r) false = nameRun r true ∧ nameRun (b :: r) true = false := by simp [nameRun, h]
theorem nameRun_letter {b : UInt8} (r : List UInt8) (a : Bool) (h0 : 97 ≤ b.toNat) (h1 : b.toNat ≤ 122) : nameRun (b :: r) a = nameRun r false := by
  have h : ¬ b.toNat = 47 := by omega
  simp [nameRun, h, h0, h1]
theorem nameRun_bad {b : UInt8} (r : List UInt8) (a : Bool) (h : ¬ b.toNat = 47) (h0 : ¬ (97 ≤ b.toNat ∧ b.toNat ≤ 122)) : nameRun (b :: r) a = false := by
  simp only [nameRun, h, h0, if_false]
theorem nameRun_nil (a : Bool) : nameRun [] a = !a := rfl
def namec (b : UInt8) : Bool := decide (b.toNat = 47) || (decide (97 ≤ b.toNat) && decide (b.toNat ≤ 122))
theorem nameRun_all : ∀ (l : List UInt8) (a : Bool), nameRun l a = true → l.all namec = true
  | [], _, _ => rfl
  | b :: r, a, h => by
    by_cases h1 : b.toNat = 47
    · cases a with
      | true => rw [(nameRun_slash r h1).2] at h; cases h
      | false => rw [(nameRun_slash r h1).1] at h; simp [nameRun_all r true h, namec, h1]
    · by_cases h2 : 97 ≤ b.toNat ∧ b.toNat ≤ 122
      · rw [nameRun_letter r a h2.1 h2.2] at h; simp [nameRun_all r false h, namec, h2]
      · rw [nameRun_bad r a h1 h2] at h; cases h
theorem namec_atomc {b : UInt8} (h : namec b = true) : atomc b = true := by
  have hh : ∀ n : Fin 256, namec (UInt8.ofNat n.val) = true → atomc (UInt8.ofNat n.val) = true := by decide +kernel
  have := hh ⟨b.toNat, b.toNat_lt⟩
  simp at this
  exact this h
theorem nameB_atomB {l : List UInt8} (h : nameB l = true) : atomB l = true := by
  unfold nameB at h
  simp only [Bool.and_eq_true, decide_eq_true_eq] at h
  have h1 := nameRun_all l true h.1
  have h2 : l ≠ [] := by rintro rfl; simp [nameRun] at h
  have h3 : 0 < l.length := List.length_pos_iff.2 h2
  unfold atomB
  simp only [Bool.and_eq_true, decide_eq_true_eq]
  refine ⟨⟨?_, by omega⟩, by omega⟩
  rw [List.all_eq_true] at h1 ⊢
  exact fun x hx => namec_atomc (h1 x hx)
theorem nameB_wordL {l : List UInt8} (h : nameB l = true) : wordL l = l := by unfold wordL; rw [if_pos (nameB_atomB h)]

theorem l1In_any (n a b : Int) (w : World) :
    Calls Try.prog 19 #[.int .i64 n, .int .i64 a, .int .i64 b] w fun e w' => e = .returned (.bool (decide (a ≤ n) && decide (n ≤ b))) ∧ w = w' := by
  by_cases h1 : a ≤ n
  · by_cases h2 : n ≤ b
    · rw [show (decide (a ≤ n) && decide (n ≤ b)) = true by simp [h1, h2]]
      go_enter Try.func19, Try.ntmps19
      go_wp2
      go_ret
      exact ⟨rfl, rfl⟩
    · rw [show (decide (a ≤ n) && decide (n ≤ b)) = false by simp [h2]]
      go_enter Try.func19, Try.ntmps19
      go_wp2
      go_ret
      exact ⟨rfl, rfl⟩
  · rw [show (decide (a ≤ n) && decide (n ≤ b)) = false by simp [h1]]
    go_enter Try.func19, Try.ntmps19
    go_wp2
    go_ret
    exact ⟨rfl, rfl⟩

theorem ne_not' {a b : Int} (h : (a == b) = true) : (a != b) = false := by simp only [bne, h]; rfl
theorem ne_yes' {a b : Int} (h : (a == b) = false) : (a != b) = true := by simp only [bne, h]; rfl

end Go.Proofs.Ytbfgdbpfecffcaa

namespace Go.Proofs.Ytbfgdbpfecffcaa
open Go.RowKit

/-- Block g is a cursor over the bytes code. -/
structure Cur (w : World) (g : Nat) (code : List UInt8) : Prop where
  ex : ∃ (p : Option Addr) (cap i : Nat) (h : Int), w.cell? ⟨g, 0, none⟩ = some (.slice p code.length cap) ∧ w.cell? ⟨g, 1, none⟩ = some (.int .i64 i) ∧ w.cell? ⟨g, 2, none⟩ = some (.int .i64 h) ∧ i ≤ code.length ∧
    (code = [] ∨ ∃ b off, p = some ⟨b, off, none⟩ ∧ b < g ∧ ∀ j x, code[j]? = some x → w.cell? ⟨b, off + j, none⟩ = some (bv x))
  free : ∀ j, w.frozen? ⟨g, j, none⟩ = false
  few : code.length ≤ 1000000000000000

theorem Cur.lt {w : World} {g : Nat} {code : List UInt8} (h : Cur w g code) : g < w.heap.size := by
  obtain ⟨_, _, _, _, h0, _⟩ := h.ex
  exact World.block_lt_of_cell? w _ h0
theorem Cur.of_block {w w' : World} {g : Nat} {code : List UInt8} (h : Cur w g code) (hb : ∀ k, k < w.heap.size → w'.heap[k]? = w.heap[k]?) : Cur w' g code := by
  obtain ⟨p, cap, i, hh, h0, h1, h2, h3, h4⟩ := h.ex
  have hg := h.lt
  refine ⟨⟨p, cap, i, hh, (World.cell?_of_block (hb g hg)).trans h0, (World.cell?_of_block (hb g hg)).trans h1, (World.cell?_of_block (hb g hg)).trans h2, h3, ?_⟩, fun j => (World.frozen?_of_block (hb g hg)).trans (h.free j), h.few⟩
  rcases h4 with h4 | ⟨b, off, e1, e2, e4⟩
  · exact .inl h4
  · exact .inr ⟨b, off, e1, e2, fun j x hx => (World.cell?_of_block (hb b (by omega))).trans (e4 j x hx)⟩
theorem Cur.below {w w' : World} {g : Nat} {code : List UInt8} (h : Cur w g code) (hb : Below w.heap.size w w') : Cur w' g code := h.of_block hb.block
/-- Behind a change of younger blocks alone. -/
theorem Cur.grown {w w' : World} {g : Nat} {code : List UInt8} {row : Option Nat} (h : Cur w g code) (hg : w.grownBy w' row) (hr : ∀ k, row = some k → g < k) : Cur w' g code := by
  obtain ⟨p, cap, i, hh, h0, h1, h2, h3, h4⟩ := h.ex
  have hlt := h.lt
  have hb : ∀ k, k ≤ g → w'.heap[k]? = w.heap[k]? := fun k hk => hg.block k (by omega) (fun e => by have := hr k e.symm; omega)
  have hgb := hb g (Nat.le_refl _)
  refine ⟨⟨p, cap, i, hh, (World.cell?_of_block (a := ⟨g, 0, none⟩) hgb).trans h0, (World.cell?_of_block (a := ⟨g, 1, none⟩) hgb).trans h1, (World.cell?_of_block (a := ⟨g, 2, none⟩) hgb).trans h2, h3, ?_⟩, fun j => (World.frozen?_of_block (a := ⟨g, j, none⟩) hgb).trans (h.free j), h.few⟩
  rcases h4 with h4 | ⟨b, off, e1, e2, e4⟩
  · exact .inl h4
  · exact .inr ⟨b, off, e1, e2, fun j x hx => (World.cell?_of_block (a := ⟨b, off + j, none⟩) (hb b (by omega))).trans (e4 j x hx)⟩

theorem addr_ne {b o o' : Nat} (h : o ≠ o') : (⟨b, o, none⟩ : Addr) ≠ ⟨b, o', none⟩ := by intro e; injection e with _ e2; exact h e2
theorem addr_ne' {b b' o o' : Nat} (h : b ≠ b') : (⟨b, o, none⟩ : Addr) ≠ ⟨b', o', none⟩ := by intro e; injection e with e1; exact h e1
theorem size_setCell (w : World) (a : Addr) (v : Value) : (w.setCell a v).heap.size = w.heap.size := by simp [World.setCell]

theorem Cur.setH {w : World} {g : Nat} {code : List UInt8} (hc : Cur w g code) (h' : Int) : Cur (w.setCell ⟨g, 2, none⟩ (.int .i64 h')) g code := by
  obtain ⟨p, cap, i, hh, h0, h1, h2, h3, h4⟩ := hc.ex
  refine ⟨⟨p, cap, i, h', (World.cell?_setCell_other w _ _ _ (addr_ne (by omega))).trans h0, (World.cell?_setCell_other w _ _ _ (addr_ne (by omega))).trans h1, World.cell?_setCell_same w _ _ h2, h3, ?_⟩, fun j => by simpa using hc.free j, hc.few⟩
  rcases h4 with h4 | ⟨b, off, e1, e2, e4⟩
  · exact .inl h4
  · exact .inr ⟨b, off, e1, e2, fun j x hx => (World.cell?_setCell_other w _ _ _ (addr_ne' (by omega))).trans (e4 j x hx)⟩
theorem Cur.setI {w : World} {g : Nat} {code : List UInt8} (hc : Cur w g code) (i' : Nat) (hi : i' ≤ code.length) : Cur (w.setCell ⟨g, 1, none⟩ (.int .i64 i')) g code := by
  obtain ⟨p, cap, i, hh, h0, h1, h2, h3, h4⟩ := hc.ex
  refine ⟨⟨p, cap, i', hh, (World.cell?_setCell_other w _ _ _ (addr_ne (by omega))).trans h0, World.cell?_setCell_same w _ _ h1, (World.cell?_setCell_other w _ _ _ (addr_ne (by omega))).trans h2, hi, ?_⟩, fun j => by simpa using hc.free j, hc.few⟩
  rcases h4 with h4 | ⟨b, off, e1, e2, e4⟩
  · exact .inl h4
  · exact .inr ⟨b, off, e1, e2, fun j x hx => (World.cell?_setCell_other w _ _ _ (addr_ne' (by omega))).trans (e4 j x hx)⟩
theorem Cur.drew {w : World} {g : Nat} {code : List UInt8} (hc : Cur w g code) : Cur w.drew g code := ⟨hc.ex, hc.free, hc.few⟩

def BytePost (g : Nat) (code : List UInt8) (w : World) (e : Ending) (w' : World) : Prop := ∃ x : Nat, e = .returned (.int .i64 x) ∧ x ≤ 255 ∧ Cur w' g code ∧ w.grownBy w' (some g)
theorem BytePost.mk {g : Nat} {code : List UInt8} {w w' : World} {v : Int} (h0 : 0 ≤ v) (h1 : v ≤ 255) (hc : Cur w' g code) (hg : w.grownBy w' (some g)) : BytePost g code w (.returned (.int .i64 v)) w' :=
  ⟨v.toNat, by rw [Int.toNat_of_nonneg h0], by omega, hc, hg⟩

theorem grown_young {w w1 w2 : World} {row row' : Option Nat} (h : w.grownBy w1 row) (hg : w1.grownBy w2 row') (hr : ∀ k, row' = some k → w.heap.size ≤ k) : w.grownBy w2 row :=
  ⟨hg.os.trans h.os, hg.tape.trans h.tape, hg.output.trans h.output, Nat.le_trans h.size hg.size, fun k hk hne => (hg.block k (Nat.lt_of_lt_of_le hk h.size) (fun e => by have := hr k e.symm; omega)).trans (h.block k hk hne)⟩
theorem grown_of_below {w w1 : World} {row : Option Nat} (h : Below w.heap.size w w1) : w.grownBy w1 row := ⟨h.os, h.tape, h.output, h.size, fun k hk _ => h.block k hk⟩
/-- A cursor that was made since: its changes are none of the old memory. -/
theorem below_cur {W w w1 : World} {g B : Nat} (h : Below B W w) (hg : w.grownBy w1 (some g)) (hB : B ≤ w.heap.size) (hgB : B ≤ g) : Below B W w1 := h.grown hg hB (fun k hk => by injection hk with hk; omega)

theorem grown_trans {w a b : World} {row : Option Nat} (h : w.grownBy a row) (k : a.grownBy b row) : w.grownBy b row :=
  ⟨k.os.trans h.os, k.tape.trans h.tape, k.output.trans h.output, Nat.le_trans h.size k.size, fun i hi hne => (k.block i (Nat.lt_of_lt_of_le hi h.size) hne).trans (h.block i hi hne)⟩
def in64 (n : Int) : Prop := -9223372036854775808 ≤ n ∧ n ≤ 9223372036854775807
/-- Some int was drawn. -/
def WholeG (g : Nat) (code : List UInt8) (w : World) (e : Ending) (w' : World) : Prop := ∃ n : Int, e = .returned (.int .i64 n) ∧ in64 n ∧ Cur w' g code ∧ w.grownBy w' (some g)
theorem drawnWhole : ∀ x ∈ ([0, 1, -1, 9, 10, 999999999, 1000000000, 9223372036854775807, -9223372036854775808] : List Int), -9223372036854775808 ≤ x ∧ x ≤ 9223372036854775807 := by decide

end Go.Proofs.Ytbfgdbpfecffcaa
