/-
  The laws' helpers in leaves: what the records' texts share; slices of strings.
-/
import Derived.Test.YthjeeggejkpjgaaGh
import Derived.Test.YthjeeggejkpjgaaLg
import Derived.Test.YthjeeggejkpjgaaGg
namespace Go.Proofs.Ythjeeggejkpjgaa
open Go.RowKit

theorem below_drew {w w' : World} (h : Below w.drew.heap.size w.drew w') : Below w.heap.size w w' := (Below.refl _ _).drew.trans h
theorem nd_parts {A B : List Nat} (h : (A ++ B).Nodup) : (∀ q ∈ A, q ∉ B) ∧ A.Nodup ∧ B.Nodup := by
  obtain ⟨h1, h2, h3⟩ := List.nodup_append.1 h
  exact ⟨fun q hq hm => h3 q hq q hm rfl, h1, h2⟩
theorem mark_slice {W : World} {e : TypeId} {m n k : Nat} {flat : List Lf} {v : Value} (h : LfRd W (markLf (.rows e m n flat) k).1 v) : ∃ p c, v = .slice p n c := by
  obtain ⟨p, c, hv, _⟩ := h.2
  exact ⟨p, c, hv⟩

theorem szLs_strs : ∀ l : List (List UInt8), szLs (l.map Lf.str) = szl l
  | [] => rfl
  | a :: l => by simp only [List.map_cons, szLs, szLf_str, szLs_strs l]; rfl
theorem szLf_strs (l : List (List UInt8)) : szLf (strsLf l) = l.length + szl l := by simp only [strsLf, szLf, szLs_strs]
theorem cntLs_strs : ∀ l : List (List UInt8), cntLs (l.map Lf.str) = l.length
  | [] => rfl
  | a :: l => by simp only [List.map_cons, cntLs, cntLf_str, cntLs_strs l, List.length_cons]; omega
theorem cntLf_strs (l : List (List UInt8)) : cntLf (strsLf l) = l.length := by simp only [strsLf, cntLf, cntLs_strs]
theorem strsLf_fit (l : List (List UInt8)) : LfFit (strsLf l) := by
  refine ⟨by omega, by simp, ?_⟩
  induction l with
  | nil => trivial
  | cons a l ih => exact ⟨trivial, ih⟩
theorem markLs_strs : ∀ (l : List (List UInt8)) (k : Nat), (markLs (l.map Lf.str) k).1 = (marks k l.length).map Lf.str
  | [], k => by simp [markLs, marks]
  | a :: l, k => by
    have := markLs_strs l (k + 1)
    simp only [List.map_cons, markLs, markLf_str, this]
    simp only [marks, List.length_cons, List.range_succ_eq_map, List.map_cons, List.map_map, Nat.add_zero]
    congr 2
    funext i
    simp only [Function.comp]
    congr 2
    omega
theorem mark_strs (l : List (List UInt8)) (k : Nat) : (markLf (strsLf l) k).1 = strsLf (marks k l.length) := by
  simp only [strsLf, markLf, markLs_strs, marks_length]
theorem bnd_strs {l : List (List UInt8)} (h : LfBnd (strsLf l)) : l.length ≤ 9223372036854775807 ∧ ∀ x ∈ l, x.length ≤ 9223372036854775807 := by
  refine ⟨h.1, ?_⟩
  have : ∀ l : List (List UInt8), LsBnd (l.map Lf.str) → ∀ x ∈ l, x.length ≤ 9223372036854775807 := by
    intro l
    induction l with
    | nil => intro _ x hx; cases hx
    | cons a l ih =>
      intro h x hx
      rcases List.mem_cons.1 hx with rfl | hx
      · exact h.1
      · exact ih h.2 x hx
  exact this l h.2

/-! ### slices of numbers -/

end Go.Proofs.Ythjeeggejkpjgaa
