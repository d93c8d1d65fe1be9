/-
  Chapter 4's draws.
-/
import Derived.Test.YtidjebepgpbcnaaGg
import Derived.Test.YtidjebepgpbcnaaGd
import Derived.Handy
namespace Go.Proofs.Ytidjebepgpbcnaa
open Go.RowKit

theorem Try.el_spn : Elem Try.prog 31 57 2 16 := Elem.mk' (z := .agg #[.int .i64 0, .int .i64 0]) Try.underlying31 (by kernel_rfl) rfl (by omega)

def rgS (s : Spn) : Prop := in64 s.low ∧ in64 s.high
theorem rgS_small {a b : Int} (h1 : 0 ≤ a) (h2 : a ≤ 1000) (h3 : 0 ≤ b) (h4 : b ≤ 1000) : rgS ⟨a, b⟩ := ⟨⟨by show -9223372036854775808 ≤ a; omega, by show a ≤ 9223372036854775807; omega⟩, by show -9223372036854775808 ≤ b; omega, by show b ≤ 9223372036854775807; omega⟩
theorem rgS_snoc {l : List Spn} {s : Spn} (h : ∀ t ∈ l, rgS t) (hs : rgS s) : ∀ t ∈ l ++ [s], rgS t := by
  intro t ht
  rcases List.mem_append.1 ht with ht | ht
  · exact h t ht
  · rw [List.mem_singleton.1 ht]; exact hs
/-- A row that the draws made. -/
def SpansPost (m : Nat) (g : Nat) (code : List UInt8) (w : World) (e : Ending) (w' : World) : Prop := ∃ (v : Value) (n : Nat) (l : List Spn), e = .returned v ∧ n = l.length ∧ n ≤ m ∧ (∀ t ∈ l, rgS t) ∧ w'.ownsRow w.heap.size 57 2 v n (l.flatMap spnc) ∧ Cur w' g code ∧ w.grownBy w' (some g)

theorem grown_put {w w1 : World} {row : Option Nat} {b : Nat} (h : w.grownBy w1 row) (hb : w.heap.size ≤ b) (j : Nat) (v : Value) : w.grownBy (w1.setCell ⟨b, j, none⟩ v) row :=
  grown_young h (⟨rfl, rfl, rfl, by simp, fun k _ hne => Below.heap_setCell w1 _ v k (by intro e; subst e; exact hne rfl)⟩ : w1.grownBy (w1.setCell ⟨b, j, none⟩ v) (some b)) (fun k hk => by injection hk with hk; omega)
theorem Cur.put {w : World} {g b : Nat} {code : List UInt8} (h : Cur w g code) (hb : g < b) (j : Nat) (v : Value) : Cur (w.setCell ⟨b, j, none⟩ v) g code :=
  h.grown (⟨rfl, rfl, rfl, by simp, fun k _ hne => Below.heap_setCell w _ v k (by intro e; subst e; exact hne rfl)⟩ : w.grownBy (w.setCell ⟨b, j, none⟩ v) (some b)) (fun k hk => by injection hk with hk; omega)
/-- A row above the cursor stands behind a draw. -/
theorem own_draw {w w1 : World} {B g n s : Nat} {e : TypeId} {v : Value} {xs : List Value} (h : w.ownsRow B e s v n xs) (hB : g < B) (hg : w.grownBy w1 (some g)) : w1.ownsRow B e s v n xs :=
  h.kept hg (by
    by_cases hv1 : v.ownBlock = none
    · exact .inl hv1
    · right
      intro e
      have := (h.lt g e).1
      omega)
theorem own_put {w : World} {B n s b j : Nat} {e : TypeId} {v x : Value} {xs : List Value} (h : w.ownsRow B e s v n xs) (hb : ∀ k, v.ownBlock = some k → k < b) : (w.setCell ⟨b, j, none⟩ x).ownsRow B e s v n xs :=
  h.kept (⟨rfl, rfl, rfl, by simp, fun k _ hne => Below.heap_setCell w _ x k (by intro e; subst e; exact hne rfl)⟩ : w.grownBy (w.setCell ⟨b, j, none⟩ x) (some b)) (by
    by_cases hv1 : v.ownBlock = none
    · exact .inl hv1
    · right
      intro e
      have := hb b e
      omega)

def slen : Value → Nat | .slice _ n _ => n | _ => 0
theorem own_sl {w : World} {B n size : Nat} {e : TypeId} {v : Value} {xs : List Value} (h : w.ownsRow B e size v n xs) : ∃ p c, v = .slice p n c := by
  rcases h.2 with ⟨hv, h0⟩ | ⟨g, cap, cur, hv, _⟩
  · exact ⟨none, 0, by rw [hv, h0]⟩
  · exact ⟨_, cap, hv⟩

def DrawMembersPost (w : World) (e : Ending) (w' : World) : Prop := ∃ (v : Value) (l : List Spn) (x : Int), e = .returned (.tuple #[v, .int .i64 x]) ∧ l.length ≤ 6 ∧ (∀ t ∈ l, rgS t) ∧ in64 x ∧ w'.ownsRow w.heap.size 57 2 v l.length (l.flatMap spnc) ∧ Below w.heap.size w w'
theorem drawnMembers : ∀ x ∈ ([0, 1, 3, 5, 8, -1, 1000, 9223372036854775807] : List Int), -9223372036854775808 ≤ x ∧ x ≤ 9223372036854775807 := by decide

end Go.Proofs.Ytidjebepgpbcnaa
