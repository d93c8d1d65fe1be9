/-
  How the arguments of a law are opened: slices of one-cell elements as lists.
-/
import Derived.Test.YthjeeggejkpjgaaLaw
import Derived.Test.YthjeeggejkpjgaaGa
import Derived.Deep.Strs
namespace Go.Proofs.Ythjeeggejkpjgaa
open Go.ChangeShapes Go.WideShapes Go.ChangeAt Go.RowKit Go.Deep

section
variable {H : Type} {enc : TypeId × Value → H} {P : Program} {W : World} {base : Nat} {v : Value} {d : DataW H} {ps : List MemPlace} {t e : TypeId}

/-- A []string that came in. -/
theorem open_strs_any {r : Reach} {b0 : Nat} (ht : P.underlying t = some (.slice e)) (he : P.underlying e = some .string) (hc : P.cellsOf e = 1) (hval : Value.okWide P W r b0 t v) (h : DataW.Trod enc P W 0 (fun _ => true) true t v d ps) :
    ∃ l : List (List UInt8), Rd1 sv W v l ∧ (∀ x ∈ l, x.length ≤ 9223372036854775807) ∧ l.length ≤ 9223372036854775807 := by
  obtain ⟨a, len, cap, rfl⟩ := okWide_slice ht hval
  obtain ⟨fuel, hf⟩ := h
  rcases open_strs ht he hc hf with ⟨hcs, _⟩ | ⟨a', len', cap', m, Sx, hcs, _, hl, hm, hmm, _, hcell⟩
  · simp [Value.cells] at hcs
    obtain ⟨rfl, rfl, rfl⟩ := hcs
    exact ⟨[], Rd1.nil, by simp, by simp⟩
  · simp [Value.cells] at hcs
    obtain ⟨rfl, rfl, rfl⟩ := hcs
    simp only [if_true] at hmm
    obtain rfl : cap = m := hmm.symm
    have hlen : ((List.range len).map fun i => (Sx i).data.toList).length = len := by simp
    have hcap : len ≤ 9223372036854775807 := by unfold maxLen at hm; omega
    refine ⟨(List.range len).map fun i => (Sx i).data.toList, ⟨some a', cap, by rw [hlen], ?_⟩, ?_, by rw [hlen]; exact hcap⟩
    · by_cases h0 : len = 0
      · left; subst h0; rfl
      · right
        obtain ⟨b, off, spot⟩ := a'
        have hsp : spot = none := by
          have := (hcell 0 (by omega)).1
          have h2 := World.cell?_spot this
          unfold Addr.add at h2
          split at h2
          · exact h2
          · rename_i hn; exact absurd rfl hn
        subst hsp
        have hc0 := (hcell 0 (by omega)).1
        rw [Addr.add_lit] at hc0
        refine ⟨b, off, rfl, World.block_lt_of_cell? W _ hc0, fun i x hx => ?_⟩
        rw [List.getElem?_map] at hx
        have hi : i < len := by
          rcases Nat.lt_or_ge i len with h | h
          · exact h
          · rw [List.getElem?_eq_none (by simpa using h)] at hx; cases hx
        rw [List.getElem?_range hi] at hx
        cases hx
        have := (hcell i (by omega)).1
        rw [Addr.add_lit] at this
        rw [this, sv_data]
    · intro x hx
      simp only [List.mem_map, List.mem_range] at hx
      obtain ⟨i, hi, rfl⟩ := hx
      have := (hcell i (by omega)).2
      unfold maxLen at this
      simpa using this

/-- A []byte that came in. -/
theorem open_bytes_any {r : Reach} {b0 : Nat} (ht : P.underlying t = some (.slice e)) (he : P.underlying e = some (.int .u8)) (hc : P.cellsOf e = 1) (hval : Value.okWide P W r b0 t v) (h : DataW.Trod enc P W 0 (fun _ => true) true t v d ps) :
    ∃ l : List UInt8, Rd1 bv W v l := by
  obtain ⟨a, len, cap, rfl⟩ := okWide_slice ht hval
  obtain ⟨fuel, hf⟩ := h
  rcases open_ints ht he hc hf with ⟨hcs, _⟩ | ⟨a', len', cap', zs, hcs, _, hl, hm, hz, _, hcell, hw⟩
  · simp [Value.cells] at hcs
    obtain ⟨rfl, rfl, rfl⟩ := hcs
    exact ⟨[], Rd1.nil⟩
  · simp [Value.cells] at hcs
    obtain ⟨rfl, rfl, rfl⟩ := hcs
    simp only [if_true] at hz
    have hz2 : len ≤ zs.length := by omega
    have hlen : ((zs.take len).map fun n => UInt8.ofNat n.toNat).length = len := by simp; omega
    refine ⟨(zs.take len).map fun n => UInt8.ofNat n.toNat, ⟨some a', cap, by rw [hlen], ?_⟩⟩
    by_cases h0 : len = 0
    · left; subst h0; simp
    · right
      obtain ⟨b, off, spot⟩ := a'
      have hsp : spot = none := by
        have h2 := World.cell?_spot (hcell 0 (by omega))
        unfold Addr.add at h2
        split at h2
        · exact h2
        · rename_i hn; exact absurd rfl hn
      subst hsp
      have hc0 := hcell 0 (by omega)
      rw [Addr.add_lit] at hc0
      refine ⟨b, off, rfl, World.block_lt_of_cell? W _ hc0, fun i x hx => ?_⟩
      rw [List.getElem?_map] at hx
      have hi : i < len := by
        rcases Nat.lt_or_ge i len with h | h
        · exact h
        · rw [List.getElem?_eq_none (by simp; omega)] at hx; cases hx
      rw [List.getElem?_take_of_lt hi] at hx
      have hiz : i < zs.length := by omega
      rw [List.getElem?_eq_getElem hiz] at hx
      cases hx
      have h1 := hcell i hiz
      rw [Addr.add_lit] at h1
      rw [h1]
      have h2 := hw zs[i] (List.getElem_mem hiz)
      have hx2 : 0 ≤ zs[i] ∧ zs[i] ≤ 255 := by simpa [Lit.wf, IntKind.min, IntKind.max, IntKind.signed, IntKind.bits] using h2
      have e1 : ((UInt8.ofNat zs[i].toNat).toNat : Int) = zs[i] := by rw [UInt8.toNat_ofNat_of_lt' (by show zs[i].toNat < 256; omega)]; omega
      show _ = some (Value.int .u8 ((UInt8.ofNat zs[i].toNat).toNat : Int))
      rw [e1]
      simp [hiz]
/-- The same, and its length is at most its capacity. -/
theorem open_bytes_cap {r : Reach} {b0 : Nat} (ht : P.underlying t = some (.slice e)) (he : P.underlying e = some (.int .u8)) (hc : P.cellsOf e = 1) (hval : Value.okWide P W r b0 t v) (h : DataW.Trod enc P W 0 (fun _ => true) true t v d ps) :
    ∃ l : List UInt8, Rd1 bv W v l ∧ ∀ p n c, v = .slice p n c → n ≤ c := by
  obtain ⟨a, len, cap, rfl⟩ := okWide_slice ht hval
  obtain ⟨fuel, hf⟩ := h
  rcases open_ints ht he hc hf with ⟨hcs, _⟩ | ⟨a', len', cap', zs, hcs, _, hl, hm, hz, _, hcell, hw⟩
  · simp [Value.cells] at hcs
    obtain ⟨rfl, rfl, rfl⟩ := hcs
    exact ⟨[], Rd1.nil, fun p n c h => by injection h with _ h2 h3; omega⟩
  · simp [Value.cells] at hcs
    obtain ⟨rfl, rfl, rfl⟩ := hcs
    simp only [if_true] at hz
    have hz2 : len ≤ zs.length := by omega
    have hlen : ((zs.take len).map fun n => UInt8.ofNat n.toNat).length = len := by simp; omega
    refine ⟨(zs.take len).map fun n => UInt8.ofNat n.toNat, ⟨some a', cap, by rw [hlen], ?_⟩, fun p n c h => by injection h with _ h2 h3; omega⟩
    by_cases h0 : len = 0
    · left; subst h0; simp
    · right
      obtain ⟨b, off, spot⟩ := a'
      have hsp : spot = none := by
        have h2 := World.cell?_spot (hcell 0 (by omega))
        unfold Addr.add at h2
        split at h2
        · exact h2
        · rename_i hn; exact absurd rfl hn
      subst hsp
      have hc0 := hcell 0 (by omega)
      rw [Addr.add_lit] at hc0
      refine ⟨b, off, rfl, World.block_lt_of_cell? W _ hc0, fun i x hx => ?_⟩
      rw [List.getElem?_map] at hx
      have hi : i < len := by
        rcases Nat.lt_or_ge i len with h | h
        · exact h
        · rw [List.getElem?_eq_none (by simp; omega)] at hx; cases hx
      rw [List.getElem?_take_of_lt hi] at hx
      have hiz : i < zs.length := by omega
      rw [List.getElem?_eq_getElem hiz] at hx
      cases hx
      have h1 := hcell i hiz
      rw [Addr.add_lit] at h1
      rw [h1]
      have h2 := hw zs[i] (List.getElem_mem hiz)
      have hx2 : 0 ≤ zs[i] ∧ zs[i] ≤ 255 := by simpa [Lit.wf, IntKind.min, IntKind.max, IntKind.signed, IntKind.bits] using h2
      have e1 : ((UInt8.ofNat zs[i].toNat).toNat : Int) = zs[i] := by rw [UInt8.toNat_ofNat_of_lt' (by show zs[i].toNat < 256; omega)]; omega
      show _ = some (Value.int .u8 ((UInt8.ofNat zs[i].toNat).toNat : Int))
      rw [e1]
      simp [hiz]
end
end Go.Proofs.Ythjeeggejkpjgaa
