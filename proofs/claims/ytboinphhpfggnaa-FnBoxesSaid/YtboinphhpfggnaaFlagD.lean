/-
  Chapter 5: draws, and the law FnFlags, out of what the program's functions answer.
-/
import Derived.Test.YtboinphhpfggnaaFlagC
namespace Go.Proofs.Ytboinphhpfggnaa
open Go.RowKit

theorem drawnBits : ∀ x ∈ ([-1, 32, 31, 9223372036854775807, -9223372036854775808] : List Int), -9223372036854775808 ≤ x ∧ x ≤ 9223372036854775807 := by decide

set_option maxRecDepth 20000 in
set_option maxHeartbeats 800000 in
theorem l5Bits_any (g : Nat) (code : List UInt8) (w : World) (hc : Cur w g code) :
    Calls Try.prog 66 #[.pointer (some ⟨g, 0, none⟩)] w fun e w' => WholeG g code w e w' := by
  go_enter Try.func66, Try.ntmps66
  go_wp2_with fail
  refine (l1Once_any g code _ 12 (by omega) _ hc (by omega) (by omega)).mono ?_
  rintro e w1 ⟨b, rfl, hc1, hg1⟩
  have hlt1 := hc1.lt
  cases b with
  | true =>
    go_wp2_with fail
    refine (l1PickInt_any g code _ [-1, 32, 31, 9223372036854775807, -9223372036854775808] _ (hc1.below ((Below.refl _ _).alloc (Nat.le_refl _) _)) (Rd1_lit (b := w1.heap.size) _ (heap_alloc_new w1 _) rfl rfl) (Apart_new hlt1) (by simp) (by simp)).mono ?_
    rintro e w2 ⟨y, rfl, hy, hc2, hg2⟩
    have hy2 := drawnBits y hy
    have hF : w.grownBy w2 (some g) := grown_trans hg1 (grown_trans (World.grownBy_alloc w1 _ (some g)) hg2)
    clear hy hc1 hg1 hg2 hc
    go_wp2
    go_ret
    exact ⟨y, rfl, hy2, hc2, hF⟩
  | false =>
    go_wp2_with fail
    refine (l1Below_any g code _ 32 (by omega) _ hc1 (by omega) (by omega)).mono ?_
    rintro e w2 ⟨y, rfl, hy, hc2, hg2⟩
    have hF : w.grownBy w2 (some g) := grown_trans hg1 hg2
    clear hc1 hg1 hg2 hc
    go_wp2
    go_ret
    exact ⟨_, rfl, ⟨by omega, by omega⟩, hc2, hF⟩

def DrawChangedPost (w : World) (e : Ending) (w' : World) : Prop := ∃ (op old new : Int), e = .returned (.tuple #[.int .i64 op, .int .i64 old, .int .i64 new]) ∧ in64 op ∧ in64 old ∧ in64 new ∧ Below w.heap.size w w'

/-! ### Plain facts -/

theorem chg_out {op old new : Int} (h : ¬ (flB old = true ∧ flB new = true)) : chg op old new = old := if_neg h
theorem flB_of {m : Nat} (h : m ≤ 31) : flB (m : Int) = true := by unfold flB; simp; omega
theorem chg_in (op : Int) (a b : Nat) (ha : a ≤ 31) (hb : b ≤ 31) : chg op a b = if op = 1 then bits .or .i64 a b else if op = 2 then bits .andNot .i64 a b else if op = 3 then (b : Int) else a := by
  unfold chg; rw [if_pos ⟨flB_of ha, flB_of hb⟩]
theorem or_facts (a b : Nat) (ha : a ≤ 31) (hb : b ≤ 31) : ∃ m : Nat, m ≤ 31 ∧ bits .or .i64 (a : Int) (b : Int) = (m : Int) ∧ bits .or .i64 (m : Int) (b : Int) = (m : Int) ∧ bits .and .i64 (m : Int) (b : Int) = (b : Int) := by
  have h : ∀ a b : Fin 32, bits .or .i64 (a.val : Int) (b.val : Int) = ((a.val ||| b.val : Nat) : Int) ∧ a.val ||| b.val ≤ 31 ∧ bits .or .i64 ((a.val ||| b.val : Nat) : Int) (b.val : Int) = ((a.val ||| b.val : Nat) : Int) ∧ bits .and .i64 ((a.val ||| b.val : Nat) : Int) (b.val : Int) = (b.val : Int) := by decide +kernel
  obtain ⟨h1, h2, h3, h4⟩ := h ⟨a, by omega⟩ ⟨b, by omega⟩
  exact ⟨a ||| b, h2, h1, h3, h4⟩
theorem not_facts (a b : Nat) (ha : a ≤ 31) (hb : b ≤ 31) : ∃ m : Nat, m ≤ 31 ∧ bits .andNot .i64 (a : Int) (b : Int) = (m : Int) ∧ bits .andNot .i64 (m : Int) (b : Int) = (m : Int) ∧ bits .and .i64 (m : Int) (b : Int) = 0 := by
  have h : ∀ a b : Fin 32, ∃ m : Fin 32, bits .andNot .i64 (a.val : Int) (b.val : Int) = (m.val : Int) ∧ bits .andNot .i64 (m.val : Int) (b.val : Int) = (m.val : Int) ∧ bits .and .i64 (m.val : Int) (b.val : Int) = 0 := by decide +kernel
  obtain ⟨m, h1, h3, h4⟩ := h ⟨a, by omega⟩ ⟨b, by omega⟩
  exact ⟨m.val, by omega, h1, h3, h4⟩
theorem chg_facts (op : Int) (a b : Nat) (ha : a ≤ 31) (hb : b ≤ 31) : ∃ m : Nat, m ≤ 31 ∧ chg op a b = (m : Int) ∧ chg op (m : Int) b = (m : Int) ∧ ((op == 1) = true → (bits .and .i64 (m : Int) (b : Int) == (b : Int)) = true) ∧ ((op == 2) = true → (bits .and .i64 (m : Int) (b : Int) == 0) = true) := by
  by_cases h1 : op = 1
  · obtain ⟨m, hm, e1, e2, e3⟩ := or_facts a b ha hb
    refine ⟨m, hm, ?_, ?_, fun _ => beq_iff_eq.2 e3, fun h => ?_⟩
    · rw [chg_in op a b ha hb, if_pos h1, e1]
    · rw [chg_in op m b hm hb, if_pos h1, e2]
    · have := beq_iff_eq.1 h; omega
  by_cases h2 : op = 2
  · obtain ⟨m, hm, e1, e2, e3⟩ := not_facts a b ha hb
    refine ⟨m, hm, ?_, ?_, fun h => ?_, fun _ => beq_iff_eq.2 e3⟩
    · rw [chg_in op a b ha hb, if_neg h1, if_pos h2, e1]
    · rw [chg_in op m b hm hb, if_neg h1, if_pos h2, e2]
    · have := beq_iff_eq.1 h; omega
  by_cases h3 : op = 3
  · refine ⟨b, hb, ?_, ?_, fun h => absurd (beq_iff_eq.1 h) h1, fun h => absurd (beq_iff_eq.1 h) h2⟩
    · rw [chg_in op a b ha hb, if_neg h1, if_neg h2, if_pos h3]
    · rw [chg_in op b b hb hb, if_neg h1, if_neg h2, if_pos h3]
  · refine ⟨a, ha, ?_, ?_, fun h => absurd (beq_iff_eq.1 h) h1, fun h => absurd (beq_iff_eq.1 h) h2⟩
    · rw [chg_in op a b ha hb, if_neg h1, if_neg h2, if_neg h3]
    · rw [chg_in op a b ha hb, if_neg h1, if_neg h2, if_neg h3]
theorem rd_words (m : Nat) (hm : m ≤ 31) : rdF 0 (flTo m 5) = some m := by
  have h : ∀ m : Fin 32, rdF 0 (flTo m.val 5) = some m.val := by decide +kernel
  exact h ⟨m, by omega⟩
theorem fl_words (m : Nat) (hm : m ≤ 31) (h0 : ¬ m = 0) : partsl 32 (flT (m : Int)) = flTo m 5 := by
  have h : ∀ m : Fin 32, ¬ m.val = 0 → partsl 32 (Lib.join (flTo m.val 5) [32]) = flTo m.val 5 := by decide +kernel
  have := h ⟨m, by omega⟩ h0
  unfold flT
  rw [if_pos (flB_of hm), Int.toNat_natCast]
  exact this
theorem flT_len (m : Nat) (hm : m ≤ 31) : (flT (m : Int)).length ≤ 100 := by
  unfold flT
  rw [if_pos (flB_of hm), Int.toNat_natCast]
  have h1 := join_length [32] (flTo m 5)
  have h2 := flTo_szl m 5
  have h3 := flTo_len m 5
  simp at h1
  omega
theorem flTo_mem (m k : Nat) : ∀ x ∈ flTo m k, x.length ≤ 8 := by
  intro x hx
  unfold flTo at hx
  obtain ⟨i, _, rfl⟩ := List.mem_map.1 hx
  exact flAt_len i

end Go.Proofs.Ytboinphhpfggnaa
