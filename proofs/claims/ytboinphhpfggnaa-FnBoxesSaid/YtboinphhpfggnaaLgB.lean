/-
  The laws' helpers in leaves: what the records' texts share; slices of strings.
-/
import Derived.Test.YtboinphhpfggnaaGh
import Derived.Test.YtboinphhpfggnaaLg
import Derived.Test.YtboinphhpfggnaaGg
namespace Go.Proofs.Ytboinphhpfggnaa
open Go.RowKit

theorem below_drew {w w' : World} (h : Below w.drew.heap.size w.drew w') : Below w.heap.size w w' := (Below.refl _ _).drew.trans h
theorem nd_parts {A B : List Nat} (h : (A ++ B).Nodup) : (∀ q ∈ A, q ∉ B) ∧ A.Nodup ∧ B.Nodup := by
  obtain ⟨h1, h2, h3⟩ := List.nodup_append.1 h
  exact ⟨fun q hq hm => h3 q hq q hm rfl, h1, h2⟩
theorem mark_slice {W : World} {e : TypeId} {m n k : Nat} {flat : List Lf} {v : Value} (h : LfRd W (markLf (.rows e m n flat) k).1 v) : ∃ p c, v = .slice p n c := by
  obtain ⟨p, c, hv, _⟩ := h.2
  exact ⟨p, c, hv⟩

theorem szLs_strs : ∀ l : List (List UInt8), szLs (l.map Lf.str) = szl l
  | [] => rfl
  | a :: l => by simp only [List.map_cons, szLs, szLf_str, szLs_strs l]; rfl
theorem szLf_strs (l : List (List UInt8)) : szLf (strsLf l) = l.length + szl l := by simp only [strsLf, szLf, szLs_strs]
theorem cntLs_strs : ∀ l : List (List UInt8), cntLs (l.map Lf.str) = l.length
  | [] => rfl
  | a :: l => by simp only [List.map_cons, cntLs, cntLf_str, cntLs_strs l, List.length_cons]; omega
theorem cntLf_strs (l : List (List UInt8)) : cntLf (strsLf l) = l.length := by simp only [strsLf, cntLf, cntLs_strs]
theorem strsLf_fit (l : List (List UInt8)) : LfFit (strsLf l) := by
  refine ⟨by omega, by simp, ?_⟩
  induction l with
  | nil => trivial
  | cons a l ih => exact ⟨trivial, ih⟩
theorem markLs_strs : ∀ (l : List (List UInt8)) (k : Nat), (markLs (l.map Lf.str) k).1 = (marks k l.length).map Lf.str
  | [], k => by simp [markLs, marks]
  | a :: l, k => by
    have := markLs_strs l (k + 1)
    simp only [List.map_cons, markLs, markLf_str, this]
    simp only [marks, List.length_cons, List.range_succ_eq_map, List.map_cons, List.map_map, Nat.add_zero]
    congr 2
    funext i
    simp only [Function.comp]
    congr 2
    omega
theorem mark_strs (l : List (List UInt8)) (k : Nat) : (markLf (strsLf l) k).1 = strsLf (marks k l.length) := by
  simp only [strsLf, markLf, markLs_strs, marks_length]
theorem bnd_strs {l : List (List UInt8)} (h : LfBnd (strsLf l)) : l.length ≤ 9223372036854775807 ∧ ∀ x ∈ l, x.length ≤ 9223372036854775807 := by
  refine ⟨h.1, ?_⟩
  have : ∀ l : List (List UInt8), LsBnd (l.map Lf.str) → ∀ x ∈ l, x.length ≤ 9223372036854775807 := by
    intro l
    induction l with
    | nil => intro _ x hx; cases hx
    | cons a l ih =>
      intro h x hx
      rcases List.mem_cons.1 hx with rfl | hx
      · exact h.1
      · exact ih h.2 x hx
  exact this l h.2

theorem markText_k (kk : Int) (n : Nat) (h : kk = (n : Int)) (w : World) (hn : n ≤ 1000000000000000) :
    Calls Try.prog 75 #[.int .i64 kk] w fun e w' => e = .returned (sv (markB n)) ∧ Below w.heap.size w w' := by
  subst h
  exact markText_any n w (by omega)

/-! ### slices of numbers -/

def intsLf (l : List Int) : Lf := .rows 3 1 l.length (l.map Lf.int)
theorem lsRd_ints {W : World} : ∀ (l : List Int) (xs : List Value), LsRd W (l.map Lf.int) xs ↔ xs = l.map iv
  | [], xs => Iff.rfl
  | a :: l, xs => by
    constructor
    · rintro ⟨v, us, rfl, h1, h2⟩
      rw [(lsRd_ints l us).1 h2, h1]; rfl
    · rintro rfl
      exact ⟨iv a, l.map iv, rfl, rfl, (lsRd_ints l _).2 rfl⟩
theorem lsIn_ints {W : World} : ∀ (l : List Int) (xs : List Value) (fp : List Nat), LsIn W (l.map Lf.int) xs fp ↔ xs = l.map iv ∧ fp = []
  | [], xs, fp => Iff.rfl
  | a :: l, xs, fp => by
    constructor
    · rintro ⟨v, us, f1, f2, rfl, h1, h2, rfl⟩
      obtain ⟨e1, e2⟩ := (lsIn_ints l us f2).1 h2
      rw [e1, h1.1, h1.2, e2]; exact ⟨rfl, rfl⟩
    · rintro ⟨rfl, rfl⟩
      exact ⟨iv a, l.map iv, [], [], rfl, ⟨rfl, rfl⟩, (lsIn_ints l _ _).2 ⟨rfl, rfl⟩, rfl⟩
theorem ints_rd {W : World} {l : List Int} {v : Value} : LfRd W (intsLf l) v ↔ Rd1 iv W v l := by
  constructor
  · rintro ⟨_, p, cap, hv, h⟩
    refine ⟨p, cap, hv, ?_⟩
    rcases h with h0 | ⟨b, off, hp, hlt, xs, hc, hx⟩
    · exact .inl (List.eq_nil_of_length_eq_zero h0)
    · refine .inr ⟨b, off, hp, hlt, fun i x hi => hc i (iv x) ?_⟩
      rw [(lsRd_ints l xs).1 hx, List.getElem?_map, hi]; rfl
  · intro h
    obtain ⟨p, cap, hv, hc⟩ := h.ex
    refine ⟨by simp, p, cap, hv, ?_⟩
    rcases hc with h0 | ⟨b, off, hp, hlt, hc⟩
    · exact .inl (by rw [h0]; rfl)
    · refine .inr ⟨b, off, hp, hlt, l.map iv, fun j u hu => ?_, (lsRd_ints l _).2 rfl⟩
      rw [List.getElem?_map] at hu
      cases hl : l[j]? with
      | none => rw [hl] at hu; cases hu
      | some x => rw [hl] at hu; injection hu with hu; rw [← hu]; exact hc j x hl
theorem ints_in {W : World} {l : List Int} {v : Value} {fp : List Nat} : LfIn W (intsLf l) v fp ↔ W.ownsRow 0 3 1 v l.length (l.map iv) ∧ fp = v.ownBlock.toList := by
  constructor
  · rintro ⟨_, xs, fq, ho, hx, rfl⟩
    obtain ⟨e1, e2⟩ := (lsIn_ints l xs fq).1 hx
    rw [e1] at ho
    exact ⟨ho, by rw [e2, List.append_nil]⟩
  · rintro ⟨ho, rfl⟩
    exact ⟨by simp, l.map iv, [], ho, (lsIn_ints l _ _).2 ⟨rfl, rfl⟩, by rw [List.append_nil]⟩
theorem tree_ints {W : World} {B : Nat} {l : List Int} {v : Value} (h : W.ownsRow B 3 1 v l.length (l.map iv)) : Tree W B (intsLf l) v v.ownBlock.toList :=
  ⟨ints_in.2 ⟨own_base h, rfl⟩, by cases v.ownBlock <;> simp, fun k hk => (h.lt k (by simpa using hk)).1⟩
theorem szLf_ints (l : List Int) : szLf (intsLf l) = l.length := by
  have h : ∀ l : List Int, szLs (l.map Lf.int) = 0 := by
    intro l
    induction l with
    | nil => rfl
    | cons a l ih => simp only [List.map_cons, szLs, szLf_int, ih]
  simp only [intsLf, szLf, h, Nat.add_zero]
theorem cntLs_ints : ∀ l : List Int, cntLs (l.map Lf.int) = l.length
  | [] => rfl
  | a :: l => by simp only [List.map_cons, cntLs, cntLf_int, cntLs_ints l, List.length_cons]; omega
theorem cntLf_ints (l : List Int) : cntLf (intsLf l) = l.length := by simp only [intsLf, cntLf, cntLs_ints]
theorem intsLf_fit (l : List Int) : LfFit (intsLf l) := by
  refine ⟨by omega, by simp, ?_⟩
  induction l with
  | nil => trivial
  | cons a l ih => exact ⟨trivial, ih⟩
theorem markLs_ints : ∀ (l : List Int) (k : Nat), (markLs (l.map Lf.int) k).1 = (imarks k l.length).map Lf.int
  | [], k => by simp [markLs, imarks]
  | a :: l, k => by
    have := markLs_ints l (k + 1)
    simp only [List.map_cons, markLs, markLf_int, this]
    simp only [imarks, List.length_cons, List.range_succ_eq_map, List.map_cons, List.map_map, Nat.add_zero]
    congr 2
    funext i
    simp only [Function.comp]
    congr 2
    omega
theorem mark_ints (l : List Int) (k : Nat) : (markLf (intsLf l) k).1 = intsLf (imarks k l.length) := by
  simp only [intsLf, markLf, markLs_ints, imarks_length]

theorem eqIntS_g (a b : Value) (l : List Int) (w : World) (ha : LfRd w (intsLf l) a) (hb : LfRd w (intsLf l) b) (hs : szLf (intsLf l) ≤ 1000000000000) :
    Calls Try.prog 27 #[a, b] w fun e w' => e = .returned (.bool true) ∧ Below w.heap.size w w' :=
  eqIntS_same a b l w (ints_rd.1 ha) (ints_rd.1 hb) (by rw [szLf_ints] at hs; omega)

theorem markIntS_g (v : Value) (l : List Int) (kk : Int) (k : Nat) (hkk : kk = (k : Int)) (fp : List Nat) (w : World) (hi : LfIn w (intsLf l) v fp) (_hnd : fp.Nodup) (hk : k + cntLf (intsLf l) ≤ 1000000000000) (hs : szLf (intsLf l) ≤ 1000000000000) :
    Calls Try.prog 29 #[v, .int .i64 kk] w fun e w' => e = .returned (.int .i64 ((k + cntLf (intsLf l) : Nat) : Int)) ∧ LfIn w' (markLf (intsLf l) k).1 v fp ∧ GrownIn w w' fp := by
  obtain ⟨ho, rfl⟩ := ints_in.1 hi
  rw [cntLf_ints] at hk ⊢
  rw [szLf_ints] at hs
  refine (markIntS_any v l.length _ kk k 0 hkk w ho (by omega) (by omega)).mono ?_
  rintro e w' ⟨rfl, o, g⟩
  refine ⟨rfl, ?_, GrownIn.of_row g⟩
  rw [mark_ints]
  exact ints_in.2 ⟨by rw [imarks_length]; exact o, rfl⟩

theorem heldIntS_g (v : Value) (l : List Int) (kk : Int) (k : Nat) (hkk : kk = (k : Int)) (w : World) (hr : LfRd w (markLf (intsLf l) k).1 v) (hk : k + cntLf (intsLf l) ≤ 1000000000000) (hs : szLf (intsLf l) ≤ 1000000000000) :
    Calls Try.prog 30 #[v, .int .i64 kk] w fun e w' => e = .returned (.int .i64 ((k + cntLf (intsLf l) : Nat) : Int)) ∧ Below w.heap.size w w' := by
  rw [mark_ints] at hr
  rw [cntLf_ints] at hk ⊢
  rw [szLf_ints] at hs
  exact (heldIntS_any v kk l.length k hkk w (ints_rd.1 hr) (by omega) (by omega)).mono fun _ _ h => ⟨h.1, h.2 ▸ Below.refl _ _⟩

end Go.Proofs.Ytboinphhpfggnaa
