/-
  Chapter 5: the model's ReadFlags, Changed, OpText, ReadOp.
-/
import Derived.Test.YtboinphhpfggnaaFlagA
namespace Go.Proofs.Ytboinphhpfggnaa
open Go.RowKit

/-! ### Changed -/

def chg (op old new : Int) : Int :=
  if flB old = true ∧ flB new = true then (if op = 1 then bits .or .i64 old new else if op = 2 then bits .andNot .i64 old new else if op = 3 then new else old) else old

/-! ### OpText, ReadOp -/

def opT (op : Int) : List UInt8 := if op = 1 then [43] else if op = 2 then [45] else if op = 3 then [61] else []
def rdOp (s : List UInt8) : Option Int := if s = [43] then some 1 else if s = [45] then some 2 else if s = [61] then some 3 else none
def opV (o : Option Int) : Value := match o with | some n => .tuple #[.int .i64 n, .bool true] | none => .tuple #[.int .i64 0, .bool false]

def opTo (s : List UInt8) (k : Nat) : Prop := ∀ j : Nat, 1 ≤ j → j < k → ¬ opT (j : Int) = s
theorem rdOp_hit {s : List UInt8} {k : Nat} (h1 : 1 ≤ k) (h3 : k ≤ 3) (h : opT (k : Int) = s) : rdOp s = some (k : Int) := by
  have hk : k = 1 ∨ k = 2 ∨ k = 3 := by omega
  rcases hk with rfl | rfl | rfl <;> (subst h; decide)
theorem rdOp_no {s : List UInt8} (h : opTo s 4) : rdOp s = none := by
  have h1 := h 1 (by omega) (by omega)
  have h2 := h 2 (by omega) (by omega)
  have h3 := h 3 (by omega) (by omega)
  unfold rdOp
  rw [if_neg (fun e => h1 (by rw [e]; rfl)), if_neg (fun e => h2 (by rw [e]; rfl)), if_neg (fun e => h3 (by rw [e]; rfl))]

/-! ### ReadFlags -/

/-- The bit of a word, looked up among the first k. -/
def wBitTo (w : List UInt8) : Nat → Nat
  | 0 => 0
  | k + 1 => if upper w = upper (flAt k) then 2 ^ k else wBitTo w k
def wBit (w : List UInt8) : Nat := wBitTo w 5
def rdF : Nat → List (List UInt8) → Option Nat
  | acc, [] => some acc
  | acc, w :: r => if wBit w = 0 ∨ acc &&& wBit w ≠ 0 then none else rdF (acc ||| wBit w) r
def rdV (o : Option Nat) : Value := match o with | some n => .tuple #[.int .i64 (n : Int), .bool true] | none => .tuple #[.int .i64 0, .bool false]
theorem wBitTo_le (w : List UInt8) : ∀ k, k ≤ 5 → wBitTo w k ≤ 16
  | 0, _ => by simp [wBitTo]
  | k + 1, h => by
    unfold wBitTo
    split
    · have : k = 0 ∨ k = 1 ∨ k = 2 ∨ k = 3 ∨ k = 4 := by omega
      rcases this with rfl | rfl | rfl | rfl | rfl <;> decide
    · exact wBitTo_le w k (by omega)
theorem and_nat (a b : Nat) (ha : a ≤ 31) (hb : b ≤ 16) : bits .and .i64 (a : Int) (b : Int) = ((a &&& b : Nat) : Int) := by
  have h : ∀ a : Fin 32, ∀ b : Fin 17, bits .and .i64 (a.val : Int) (b.val : Int) = ((a.val &&& b.val : Nat) : Int) := by decide +kernel
  exact h ⟨a, by omega⟩ ⟨b, by omega⟩
theorem or_nat (a b : Nat) (ha : a ≤ 31) (hb : b ≤ 16) : bits .or .i64 (a : Int) (b : Int) = ((a ||| b : Nat) : Int) ∧ a ||| b ≤ 31 := by
  have h : ∀ a : Fin 32, ∀ b : Fin 17, bits .or .i64 (a.val : Int) (b.val : Int) = ((a.val ||| b.val : Nat) : Int) ∧ a.val ||| b.val ≤ 31 := by decide +kernel
  exact h ⟨a, by omega⟩ ⟨b, by omega⟩
theorem rdF_cons {acc : Nat} {l : List (List UInt8)} {k : Nat} {x : List UInt8} (h : l[k]? = some x) : rdF acc (l.drop k) = if wBit x = 0 ∨ acc &&& wBit x ≠ 0 then none else rdF (acc ||| wBit x) (l.drop (k + 1)) := by
  obtain ⟨h1, h2⟩ := List.getElem?_eq_some_iff.1 h
  rw [List.drop_eq_getElem_cons h1, h2]
  rfl

end Go.Proofs.Ytboinphhpfggnaa
