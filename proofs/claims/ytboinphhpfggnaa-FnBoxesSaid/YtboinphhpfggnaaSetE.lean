/-
  Chapter 4's draws.
-/
import Derived.Test.YtboinphhpfggnaaGg
import Derived.Test.YtboinphhpfggnaaGd
import Derived.Handy
namespace Go.Proofs.Ytboinphhpfggnaa
open Go.RowKit

theorem grown_put {w w1 : World} {row : Option Nat} {b : Nat} (h : w.grownBy w1 row) (hb : w.heap.size ≤ b) (j : Nat) (v : Value) : w.grownBy (w1.setCell ⟨b, j, none⟩ v) row :=
  grown_young h (⟨rfl, rfl, rfl, by simp, fun k _ hne => Below.heap_setCell w1 _ v k (by intro e; subst e; exact hne rfl)⟩ : w1.grownBy (w1.setCell ⟨b, j, none⟩ v) (some b)) (fun k hk => by injection hk with hk; omega)
theorem Cur.put {w : World} {g b : Nat} {code : List UInt8} (h : Cur w g code) (hb : g < b) (j : Nat) (v : Value) : Cur (w.setCell ⟨b, j, none⟩ v) g code :=
  h.grown (⟨rfl, rfl, rfl, by simp, fun k _ hne => Below.heap_setCell w _ v k (by intro e; subst e; exact hne rfl)⟩ : w.grownBy (w.setCell ⟨b, j, none⟩ v) (some b)) (fun k hk => by injection hk with hk; omega)
/-- A row above the cursor stands behind a draw. -/
theorem own_draw {w w1 : World} {B g n s : Nat} {e : TypeId} {v : Value} {xs : List Value} (h : w.ownsRow B e s v n xs) (hB : g < B) (hg : w.grownBy w1 (some g)) : w1.ownsRow B e s v n xs :=
  h.kept hg (by
    by_cases hv1 : v.ownBlock = none
    · exact .inl hv1
    · right
      intro e
      have := (h.lt g e).1
      omega)
theorem own_put {w : World} {B n s b j : Nat} {e : TypeId} {v x : Value} {xs : List Value} (h : w.ownsRow B e s v n xs) (hb : ∀ k, v.ownBlock = some k → k < b) : (w.setCell ⟨b, j, none⟩ x).ownsRow B e s v n xs :=
  h.kept (⟨rfl, rfl, rfl, by simp, fun k _ hne => Below.heap_setCell w _ x k (by intro e; subst e; exact hne rfl)⟩ : w.grownBy (w.setCell ⟨b, j, none⟩ x) (some b)) (by
    by_cases hv1 : v.ownBlock = none
    · exact .inl hv1
    · right
      intro e
      have := hb b e
      omega)

def slen : Value → Nat | .slice _ n _ => n | _ => 0
theorem own_sl {w : World} {B n size : Nat} {e : TypeId} {v : Value} {xs : List Value} (h : w.ownsRow B e size v n xs) : ∃ p c, v = .slice p n c := by
  rcases h.2 with ⟨hv, h0⟩ | ⟨g, cap, cur, hv, _⟩
  · exact ⟨none, 0, by rw [hv, h0]⟩
  · exact ⟨_, cap, hv⟩

end Go.Proofs.Ytboinphhpfggnaa
