/-
  How the arguments of a law are opened: tokens, slices of tokens.
-/
import Derived.Test.YthihjelcakenpaaDoorLawS
import Derived.Test.YthihjelcakenpaaDoorGd
import Derived.Lib.SmallJoins
import Derived.Deep.SlicePairs
namespace Go.Proofs.YthihjelcakenpaaDoor
open Go.ChangeShapes Go.WideShapes Go.ChangeAt Go.RowKit Go.Deep Go.Joins

section
variable {H : Type} {enc : TypeId × Value → H} {P : Program} {W : World} {base : Nat} {v : Value} {d : DataW H} {ps : List MemPlace} {t e : TypeId}

/-- A struct of a number and a string that came in. -/
theorem open_tok {r : Reach} {b0 : Nat} {f0 f1 : Field} (hs : P.underlying t = some (.struct #[f0, f1])) (hone : oneCellFields P #[f0, f1] = true) (hC : P.cellsOf t = 2) (ht0 : P.underlying f0.type = some (.int .i64)) (ht1 : P.underlying f1.type = some .string)
    (hval : Value.okWide P W r b0 t v) (h : DataW.Trod enc P W 0 (fun _ => true) true t v d ps) : ∃ x : Tok, v = tokv x ∧ x.text.length ≤ 9223372036854775807 := by
  obtain ⟨v0, v1, y0, y1, n, rfl, _, _, h0, h1⟩ := open_agg2 hs hone hC hval h
  obtain ⟨k, e0, _, _⟩ := DataW.trod_int ht0 h0
  obtain ⟨s, e1, _, hsz⟩ := DataW.trod_string ht1 h1
  simp only [List.cons.injEq, and_true] at e0 e1
  subst e0
  subst e1
  refine ⟨⟨k, s.data.toList⟩, by rw [tokv, sv_data], ?_⟩
  unfold maxLen at hsz
  simpa using hsz

/-- A slice of such that came in. -/
theorem open_toks {r : Reach} {b0 : Nat} {f0 f1 : Field} (ht : P.underlying t = some (.slice e)) (he : P.underlying e = some (.struct #[f0, f1])) (ce : P.cellsOf e = 2) (o0 : f0.offset = 0) (o1 : f1.offset = 1) (c0 : P.cellsOf f0.type = 1) (c1 : P.cellsOf f1.type = 1)
    (ht0 : P.underlying f0.type = some (.int .i64)) (ht1 : P.underlying f1.type = some .string) (hval : Value.okWide P W r b0 t v) (h : DataW.Trod enc P W 0 (fun _ => true) true t v d ps) :
    ∃ l : List Tok, Rd 2 tokc W v l ∧ (∀ x ∈ l, x.text.length ≤ 9223372036854775807) ∧ l.length ≤ 9223372036854775807 := by
  obtain ⟨a, len, cap, rfl⟩ := okWide_slice ht hval
  obtain ⟨fuel, hf⟩ := h
  rcases open_slice_pairs ht he ce o0 o1 c0 c1 hf with ⟨hcs, _⟩ | ⟨a', len', cap', m, n, V0, V1, D0, D1, P0, P1, hcs, _, hl, hm, hmm, _, hcell⟩
  · simp [Value.cells] at hcs
    obtain ⟨rfl, rfl, rfl⟩ := hcs
    exact ⟨[], Rd.nil, by simp, by simp⟩
  · simp [Value.cells] at hcs
    obtain ⟨rfl, rfl, rfl⟩ := hcs
    simp only [if_true] at hmm
    obtain rfl : cap = m := hmm.symm
    have hcap : len ≤ 9223372036854775807 := by unfold maxLen at hm; omega
    have hk : ∀ i, i < cap → ∃ x : Tok, W.cell? (a'.add (i * 2)) = some (.int .i64 x.kind) ∧ W.cell? (a'.add (i * 2 + 1)) = some (sv x.text) ∧ x.text.length ≤ 9223372036854775807 := by
      intro i hi
      obtain ⟨q0, q1, t0, t1⟩ := hcell i hi
      obtain ⟨k, e0, _, _⟩ := DataW.trod_int ht0 t0
      obtain ⟨s, e1, _, hsz⟩ := DataW.trod_string ht1 t1
      simp only [List.cons.injEq, and_true] at e0 e1
      rw [e0] at q0
      rw [e1, ← sv_data] at q1
      exact ⟨⟨k, s.data.toList⟩, q0, q1, by unfold maxLen at hsz; simpa using hsz⟩
    haveI : Inhabited Tok := ⟨⟨0, []⟩⟩
    obtain ⟨X, hX⟩ := choose_lt hk
    refine ⟨(List.range len).map X, ⟨some a', cap, by simp, ?_⟩, ?_, by simpa using hcap⟩
    · by_cases h0 : len = 0
      · left; subst h0; rfl
      · right
        obtain ⟨b, off, spot⟩ := a'
        have hsp : spot = none := by
          have h2 := World.cell?_spot (hX 0 (by omega)).1
          unfold Addr.add at h2
          split at h2
          · exact h2
          · rename_i hn; exact absurd rfl hn
        subst hsp
        have hc0 := (hX 0 (by omega)).1
        rw [Addr.add_lit] at hc0
        refine ⟨b, off, rfl, World.block_lt_of_cell? W _ hc0, fun i x hx j u hu => ?_⟩
        rw [List.getElem?_map] at hx
        have hi : i < len := by
          rcases Nat.lt_or_ge i len with h | h
          · exact h
          · rw [List.getElem?_eq_none (by simpa using h)] at hx; cases hx
        rw [List.getElem?_range hi] at hx
        cases hx
        obtain ⟨q0, q1, _⟩ := hX i (by omega)
        rw [Addr.add_lit] at q0 q1
        match j, hu with
        | 0, hu => cases hu; simpa using q0
        | 1, hu => cases hu; simpa [Nat.add_assoc] using q1
        | j + 2, hu => simp [tokc] at hu
    · intro x hx
      simp only [List.mem_map, List.mem_range] at hx
      obtain ⟨i, hi, rfl⟩ := hx
      exact (hX i (by omega)).2.2
end
end Go.Proofs.YthihjelcakenpaaDoor
