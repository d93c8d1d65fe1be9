/-
  Chapter 3's walks: tokens and their texts, by the model.
-/
import Derived.Test.YtldfakcjimaaaaaWordH
namespace Go.Proofs.Ytldfakcjimaaaaa
open Go.RowKit
open Go.Lib (decDigits itoa)

structure Tok where
  kind : Int
  text : List UInt8

/-- A token as a value. -/
abbrev tokv (t : Tok) : Value := .agg #[.int .i64 t.kind, sv t.text]
def gapB (a b : Tok) : Bool := a.kind != 3 && b.kind != 4

theorem l3Gap_any (a b : Tok) (w : World) :
    Calls Try.prog 13 #[tokv a, tokv b] w fun e w' => e = .returned (.bool (gapB a b)) ∧ Below w.heap.size w w' := by
  cases h1 : (a.kind != 3) with
  | false =>
    have hg := Lib.hid (show gapB a b = false by unfold gapB; rw [h1]; rfl)
    go_enter Try.func13, Try.ntmps13
    go_wp2
    go_ret
    exact ⟨by rw [hg.out]; rfl, ((Below.refl _ _).alloc (Nat.le_refl _) _).alloc (by simp) _⟩
  | true =>
    have hg := Lib.hid (show gapB a b = (b.kind != 4) by unfold gapB; rw [h1]; rfl)
    go_enter Try.func13, Try.ntmps13
    go_wp2
    go_ret
    exact ⟨by rw [hg.out]; rfl, ((Below.refl _ _).alloc (Nat.le_refl _) _).alloc (by simp) _⟩

def litL (l : List UInt8) : List UInt8 := if l.length ≤ 40 then [123] ++ decDigits l.length ++ [125, 13, 10] ++ l else []
theorem litL_le (l : List UInt8) : (litL l).length ≤ 100 := by
  unfold litL
  split
  · have := decDigits_length_le l.length (by omega)
    simp; omega
  · simp

def tokText (t : Tok) : List UInt8 :=
  if t.kind = 1 then (if atomB t.text = true then t.text else [])
  else if t.kind = 2 then (if quoteL t.text = [] then litL t.text else quoteL t.text)
  else if t.kind = 3 then (if t.text = [] then [40] else [])
  else if t.kind = 4 then (if t.text = [] then [41] else [])
  else []

end Go.Proofs.Ytldfakcjimaaaaa
