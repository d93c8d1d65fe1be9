/-
  Chapter 6: the exact laws of ScopeOk, FilterOk, Covers, Admits, out of what the program's functions answer.
-/
import Derived.Test.YtidjebepgpbcnaaFilH
import Derived.Test.YtidjebepgpbcnaaGd
namespace Go.Proofs.Ytidjebepgpbcnaa
open Go.RowKit

theorem szl_in {l : List (List UInt8)} {x : List UInt8} (h : x ∈ l) : x.length ≤ szl l := by
  induction l with
  | nil => cases h
  | cons a l ih =>
    have e : szl (a :: l) = a.length + szl l := by simp [szl]
    rcases List.mem_cons.1 h with rfl | h
    · omega
    · have := ih h; omega

theorem blk_three {W : World} {b : Nat} {x0 x1 x2 : Value} {T : TypeId} (h : W.heap[b]? = some (.cells #[x0, x1, x2] T (0, 0))) :
    W.cell? ⟨b, 0, none⟩ = some x0 ∧ W.cell? ⟨b, 1, none⟩ = some x1 ∧ W.cell? ⟨b, 2, none⟩ = some x2 :=
  ⟨(Lib.cell_of_heap h 0).trans rfl, (Lib.cell_of_heap h 1).trans rfl, (Lib.cell_of_heap h 2).trans rfl⟩

theorem blk_pair {W : World} {b : Nat} {x0 x1 : Value} {T : TypeId} (h : W.heap[b]? = some (.cells #[x0, x1] T (0, 0))) :
    W.cell? ⟨b, 0, none⟩ = some x0 ∧ W.cell? ⟨b, 1, none⟩ = some x1 :=
  ⟨(Lib.cell_of_heap h 0).trans rfl, (Lib.cell_of_heap h 1).trans rfl⟩
theorem scw_in {l : List Scp} {s : Scp} (h : s ∈ l) : s.names.length + szl s.names ≤ scw l := by
  induction l with
  | nil => cases h
  | cons a l ih =>
    have e : scw (a :: l) = a.names.length + szl a.names + scw l := rfl
    rcases List.mem_cons.1 h with rfl | h
    · omega
    · have := ih h; omega
/-- A slice's length is at most its capacity. -/
def CapOk (v : Value) : Prop := ∀ p n c, v = .slice p n c → n ≤ c
theorem CapOk.of_own {W : World} {B m n : Nat} {e : TypeId} {v : Value} {xs : List Value} (h : W.ownsRow B e m v n xs) : CapOk v := by
  intro p k c hv
  rcases h.2 with ⟨h1, h0⟩ | ⟨b, cap, cur, h1, _, _, hcap, _⟩
  · rw [h1] at hv; injection hv with _ h2 h3; omega
  · rw [h1] at hv; injection hv with _ h2 h3; omega
theorem below_of_drew {w w' : World} (h : Below w.drew.heap.size w.drew w') : Below w.heap.size w w' := (Below.refl _ _).drew.trans h

def ImplScopeOk (G : World → Prop) : Prop := ∀ (s : Scp) (vn : Value)   (W : World), G W → Rd1 sv W vn s.names → s.names.length ≤ 1048576 → (∀ x ∈ s.names, x.length ≤ 1048576) → in64 s.kind → in64 s.events →
  Calls Try.prog 56 #[.agg #[.int .i64 s.kind, vn, .int .i64 s.events]] W fun e w' => e = .returned (.bool (scopeB s)) ∧ Below W.heap.size W w'

def ImplFilterOk (G : World → Prop) : Prop := ∀ (f : Flt) (vs : Value)   (W : World), G W → LfRd W (scpsLf f.scopes) vs → f.scopes.length ≤ 1048576 → (∀ s ∈ f.scopes, s.names.length ≤ 1048576 ∧ ∀ x ∈ s.names, x.length ≤ 1048576) → (∀ s ∈ f.scopes, in64 s.kind ∧ in64 s.events) →
  Calls Try.prog 47 #[.agg #[.bool f.on, vs]] W fun e w' => e = .returned (.bool (filterB f)) ∧ Below W.heap.size W w'


end Go.Proofs.Ytidjebepgpbcnaa
