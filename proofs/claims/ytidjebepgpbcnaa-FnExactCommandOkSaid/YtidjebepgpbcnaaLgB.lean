/-
  The laws' helpers in leaves: what the records' texts share; slices of strings.
-/
import Derived.Test.YtidjebepgpbcnaaGh
import Derived.Test.YtidjebepgpbcnaaLg
import Derived.Test.YtidjebepgpbcnaaGg
namespace Go.Proofs.Ytidjebepgpbcnaa
open Go.RowKit

theorem below_drew {w w' : World} (h : Below w.drew.heap.size w.drew w') : Below w.heap.size w w' := (Below.refl _ _).drew.trans h
theorem nd_parts {A B : List Nat} (h : (A ++ B).Nodup) : (∀ q ∈ A, q ∉ B) ∧ A.Nodup ∧ B.Nodup := by
  obtain ⟨h1, h2, h3⟩ := List.nodup_append.1 h
  exact ⟨fun q hq hm => h3 q hq q hm rfl, h1, h2⟩
theorem mark_slice {W : World} {e : TypeId} {m n k : Nat} {flat : List Lf} {v : Value} (h : LfRd W (markLf (.rows e m n flat) k).1 v) : ∃ p c, v = .slice p n c := by
  obtain ⟨p, c, hv, _⟩ := h.2
  exact ⟨p, c, hv⟩

theorem szLs_strs : ∀ l : List (List UInt8), szLs (l.map Lf.str) = szl l
  | [] => rfl
  | a :: l => by simp only [List.map_cons, szLs, szLf_str, szLs_strs l]; rfl
theorem szLf_strs (l : List (List UInt8)) : szLf (strsLf l) = l.length + szl l := by simp only [strsLf, szLf, szLs_strs]
theorem cntLs_strs : ∀ l : List (List UInt8), cntLs (l.map Lf.str) = l.length
  | [] => rfl
  | a :: l => by simp only [List.map_cons, cntLs, cntLf_str, cntLs_strs l, List.length_cons]; omega
theorem cntLf_strs (l : List (List UInt8)) : cntLf (strsLf l) = l.length := by simp only [strsLf, cntLf, cntLs_strs]
theorem strsLf_fit (l : List (List UInt8)) : LfFit (strsLf l) := by
  refine ⟨by omega, by simp, ?_⟩
  induction l with
  | nil => trivial
  | cons a l ih => exact ⟨trivial, ih⟩
theorem markLs_strs : ∀ (l : List (List UInt8)) (k : Nat), (markLs (l.map Lf.str) k).1 = (marks k l.length).map Lf.str
  | [], k => by simp [markLs, marks]
  | a :: l, k => by
    have := markLs_strs l (k + 1)
    simp only [List.map_cons, markLs, markLf_str, this]
    simp only [marks, List.length_cons, List.range_succ_eq_map, List.map_cons, List.map_map, Nat.add_zero]
    congr 2
    funext i
    simp only [Function.comp]
    congr 2
    omega
theorem mark_strs (l : List (List UInt8)) (k : Nat) : (markLf (strsLf l) k).1 = strsLf (marks k l.length) := by
  simp only [strsLf, markLf, markLs_strs, marks_length]
theorem bnd_strs {l : List (List UInt8)} (h : LfBnd (strsLf l)) : l.length ≤ 9223372036854775807 ∧ ∀ x ∈ l, x.length ≤ 9223372036854775807 := by
  refine ⟨h.1, ?_⟩
  have : ∀ l : List (List UInt8), LsBnd (l.map Lf.str) → ∀ x ∈ l, x.length ≤ 9223372036854775807 := by
    intro l
    induction l with
    | nil => intro _ x hx; cases hx
    | cons a l ih =>
      intro h x hx
      rcases List.mem_cons.1 hx with rfl | hx
      · exact h.1
      · exact ih h.2 x hx
  exact this l h.2

theorem szStringS_g (v : Value) (l : List (List UInt8)) (ll : Int) (left : Nat) (hll : ll = (left : Int)) (w : World) (hr : LfRd w (strsLf l) v) (hin : LfBnd (strsLf l)) (hL : left ≤ 1000000000000) :
    Calls Try.prog 59 #[v, .int .i64 ll] w fun e w' => e = .returned (.int .i64 (szN left (szLf (strsLf l)))) ∧ Below w.heap.size w w' := by
  subst hll
  rw [szLf_strs]
  exact szStringS_any v l left w (strs_rd.1 hr) (bnd_strs hin).1 (bnd_strs hin).2 hL

theorem eqStringS_g (a b : Value) (l : List (List UInt8)) (w : World) (ha : LfRd w (strsLf l) a) (hb : LfRd w (strsLf l) b) (hs : szLf (strsLf l) ≤ 1000000000000) :
    Calls Try.prog 62 #[a, b] w fun e w' => e = .returned (.bool true) ∧ Below w.heap.size w w' :=
  eqStringS_same a b l w (strs_rd.1 ha) (strs_rd.1 hb) (by rw [szLf_strs] at hs; omega)

theorem toStringS_g (v : Value) (l : List (List UInt8)) (w : World) (hr : LfRd w (strsLf l) v) (hs : szLf (strsLf l) ≤ 10000000) :
    Calls Try.prog 60 #[v] w fun e w' => ∃ v' fp, e = .returned v' ∧ Tree w' w.heap.size (strsLf l) v' fp ∧ Below w.heap.size w w' := by
  refine (toStringS_any v l w (strs_rd.1 hr) (by rw [szLf_strs] at hs; omega)).mono ?_
  rintro e w' ⟨g, rfl, ho, hb⟩
  exact ⟨_, _, rfl, tree_strs ho, hb⟩

/-! ### slices of numbers -/

end Go.Proofs.Ytidjebepgpbcnaa
