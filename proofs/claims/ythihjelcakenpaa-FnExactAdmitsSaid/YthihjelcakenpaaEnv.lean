/-
  What a contract may ask of the memory and keeps; rows that stand beside one that is written. No program is read here.
-/
import Derived.Test.YthihjelcakenpaaSlc
namespace Go.Proofs.Ythihjelcakenpaa
open Go.RowKit

/-- What holds of a memory holds of every one that lies over it. -/
def Keeps (G : World → Prop) : Prop := ∀ w w' : World, G w → Below w.heap.size w w' → G w'
theorem keeps_true : Keeps (fun _ => True) := fun _ _ _ _ => trivial
theorem Keeps.and {G K : World → Prop} (hG : Keeps G) (hK : Keeps K) : Keeps (fun W => G W ∧ K W) := fun w w' h hb => ⟨hG w w' h.1 hb, hK w w' h.2 hb⟩

/-- A row stands where another, younger row is written. -/
theorem own_old {w w1 : World} {B B2 n m s s2 top : Nat} {e e2 : TypeId} {v v2 : Value} {xs ys : List Value} (h : w.ownsRow B e s v n xs) (htop : ∀ k, v.ownBlock = some k → k < top) (h2 : w.ownsRow B2 e2 s2 v2 m ys) (hB : top ≤ B2) (hg : w.grownBy w1 v2.ownBlock) : w1.ownsRow B e s v n xs :=
  h.kept hg (by
    by_cases hv1 : v.ownBlock = none
    · exact .inl hv1
    · right
      intro e
      obtain ⟨k, hk⟩ := Option.ne_none_iff_exists'.1 hv1
      have q1 := htop k hk
      have q2 := (h2.lt k (by rw [← e, hk])).1
      omega)
/-- A row stands where another, older row is written. -/
theorem own_new {w w1 : World} {B B2 n m s s2 top : Nat} {e e2 : TypeId} {v v2 : Value} {xs ys : List Value} (h : w.ownsRow B e s v n xs) (hB : top ≤ B) (_h2 : w.ownsRow B2 e2 s2 v2 m ys) (htop : ∀ k, v2.ownBlock = some k → k < top) (hg : w.grownBy w1 v2.ownBlock) : w1.ownsRow B e s v n xs :=
  h.kept hg (by
    by_cases hv1 : v.ownBlock = none
    · exact .inl hv1
    · right
      intro e
      obtain ⟨k, hk⟩ := Option.ne_none_iff_exists'.1 hv1
      have q1 := htop k (by rw [← e, hk])
      have q2 := (h.lt k hk).1
      omega)
theorem own_top {w : World} {B n s : Nat} {e : TypeId} {v : Value} {xs : List Value} (h : w.ownsRow B e s v n xs) : ∀ k, v.ownBlock = some k → k < w.heap.size := fun k hk => (h.lt k hk).2

end Go.Proofs.Ythihjelcakenpaa
