/-
  Chapter 5: draws, and the law FnFlags, out of what the program's functions answer.
-/
import Derived.Test.YtjfjadfhcljlbaaDoorFlagC
namespace Go.Proofs.YtjfjadfhcljlbaaDoor
open Go.RowKit

theorem drawnBits : ∀ x ∈ ([-1, 32, 31, 9223372036854775807, -9223372036854775808] : List Int), -9223372036854775808 ≤ x ∧ x ≤ 9223372036854775807 := by decide

set_option maxRecDepth 20000 in
set_option maxHeartbeats 800000 in
theorem l5Bits_any (g : Nat) (code : List UInt8) (w : World) (hc : Cur w g code) :
    Calls Tryd.prog 21 #[.pointer (some ⟨g, 0, none⟩)] w fun e w' => WholeG g code w e w' := by
  go_enter Tryd.func21, Tryd.ntmps21
  go_wp2_with fail
  refine (l1Once_any g code _ 12 (by omega) _ hc (by omega) (by omega)).mono ?_
  rintro e w1 ⟨b, rfl, hc1, hg1⟩
  have hlt1 := hc1.lt
  cases b with
  | true =>
    go_wp2_with fail
    refine (l1PickInt_any g code _ [-1, 32, 31, 9223372036854775807, -9223372036854775808] _ (hc1.below ((Below.refl _ _).alloc (Nat.le_refl _) _)) (Rd1_lit (b := w1.heap.size) _ (heap_alloc_new w1 _) rfl rfl) (Apart_new hlt1) (by simp) (by simp)).mono ?_
    rintro e w2 ⟨y, rfl, hy, hc2, hg2⟩
    have hy2 := drawnBits y hy
    have hF : w.grownBy w2 (some g) := grown_trans hg1 (grown_trans (World.grownBy_alloc w1 _ (some g)) hg2)
    clear hy hc1 hg1 hg2 hc
    go_wp2
    go_ret
    exact ⟨y, rfl, hy2, hc2, hF⟩
  | false =>
    go_wp2_with fail
    refine (l1Below_any g code _ 32 (by omega) _ hc1 (by omega) (by omega)).mono ?_
    rintro e w2 ⟨y, rfl, hy, hc2, hg2⟩
    have hF : w.grownBy w2 (some g) := grown_trans hg1 hg2
    clear hc1 hg1 hg2 hc
    go_wp2
    go_ret
    exact ⟨_, rfl, ⟨by omega, by omega⟩, hc2, hF⟩

def DrawChangedPost (w : World) (e : Ending) (w' : World) : Prop := ∃ (op old new : Int), e = .returned (.tuple #[.int .i64 op, .int .i64 old, .int .i64 new]) ∧ in64 op ∧ in64 old ∧ in64 new ∧ Below w.heap.size w w'

set_option maxRecDepth 20000 in
set_option maxHeartbeats 800000 in
theorem DrawChanged_any (v : Value) (code : List UInt8) (w : World) (hr : Rd1 bv w v code) (hl : code.length ≤ 1048576) :
    Calls Tryd.prog 7 #[v] w fun e w' => DrawChangedPost w e w' := by
  have HR := Lib.hid hr
  clear hr
  go_enter Tryd.func7, Tryd.ntmps7
  go_wp2_with fail
  refine (l1New_any v code _ HR.out hl).mono ?_
  rintro e w1 ⟨g, rfl, hg, hc1, hb1⟩
  go_wp2_with fail
  refine (l1Below_any g code _ 6 (by omega) _ hc1 (by omega) (by omega)).mono ?_
  rintro e w2 ⟨x, rfl, hx, hc2, hg2⟩
  have hb2 := below_cur hb1 hg2 hb1.size hg
  clear hc1 hg2 hb1
  go_wp2_with fail
  refine (l5Bits_any g code _ hc2).mono ?_
  rintro e w3 ⟨a, rfl, ha, hc3, hg3⟩
  have hb3 := below_cur hb2 hg3 hb2.size hg
  clear hc2 hg3 hb2
  go_wp2_with fail
  refine (l5Bits_any g code _ hc3).mono ?_
  rintro e w4 ⟨b, rfl, hb, hc4, hg4⟩
  have hb4 := below_cur hb3 hg4 hb3.size hg
  clear hc3 hc4 hg4 hb3
  go_wp2
  go_ret3
  exact ⟨_, a, b, rfl, ⟨by omega, by omega⟩, ha, hb, hb4⟩

/-! ### Plain facts -/

theorem chg_out {op old new : Int} (h : ¬ (flB old = true ∧ flB new = true)) : chg op old new = old := if_neg h
theorem flB_of {m : Nat} (h : m ≤ 31) : flB (m : Int) = true := by unfold flB; simp; omega
theorem chg_in (op : Int) (a b : Nat) (ha : a ≤ 31) (hb : b ≤ 31) : chg op a b = if op = 1 then bits .or .i64 a b else if op = 2 then bits .andNot .i64 a b else if op = 3 then (b : Int) else a := by
  unfold chg; rw [if_pos ⟨flB_of ha, flB_of hb⟩]
theorem or_facts (a b : Nat) (ha : a ≤ 31) (hb : b ≤ 31) : ∃ m : Nat, m ≤ 31 ∧ bits .or .i64 (a : Int) (b : Int) = (m : Int) ∧ bits .or .i64 (m : Int) (b : Int) = (m : Int) ∧ bits .and .i64 (m : Int) (b : Int) = (b : Int) := by
  have h : ∀ a b : Fin 32, bits .or .i64 (a.val : Int) (b.val : Int) = ((a.val ||| b.val : Nat) : Int) ∧ a.val ||| b.val ≤ 31 ∧ bits .or .i64 ((a.val ||| b.val : Nat) : Int) (b.val : Int) = ((a.val ||| b.val : Nat) : Int) ∧ bits .and .i64 ((a.val ||| b.val : Nat) : Int) (b.val : Int) = (b.val : Int) := by decide +kernel
  obtain ⟨h1, h2, h3, h4⟩ := h ⟨a, by omega⟩ ⟨b, by omega⟩
  exact ⟨a ||| b, h2, h1, h3, h4⟩
theorem not_facts (a b : Nat) (ha : a ≤ 31) (hb : b ≤ 31) : ∃ m : Nat, m ≤ 31 ∧ bits .andNot .i64 (a : Int) (b : Int) = (m : Int) ∧ bits .andNot .i64 (m : Int) (b : Int) = (m : Int) ∧ bits .and .i64 (m : Int) (b : Int) = 0 := by
  have h : ∀ a b : Fin 32, ∃ m : Fin 32, bits .andNot .i64 (a.val : Int) (b.val : Int) = (m.val : Int) ∧ bits .andNot .i64 (m.val : Int) (b.val : Int) = (m.val : Int) ∧ bits .and .i64 (m.val : Int) (b.val : Int) = 0 := by decide +kernel
  obtain ⟨m, h1, h3, h4⟩ := h ⟨a, by omega⟩ ⟨b, by omega⟩
  exact ⟨m.val, by omega, h1, h3, h4⟩
theorem chg_facts (op : Int) (a b : Nat) (ha : a ≤ 31) (hb : b ≤ 31) : ∃ m : Nat, m ≤ 31 ∧ chg op a b = (m : Int) ∧ chg op (m : Int) b = (m : Int) ∧ ((op == 1) = true → (bits .and .i64 (m : Int) (b : Int) == (b : Int)) = true) ∧ ((op == 2) = true → (bits .and .i64 (m : Int) (b : Int) == 0) = true) := by
  by_cases h1 : op = 1
  · obtain ⟨m, hm, e1, e2, e3⟩ := or_facts a b ha hb
    refine ⟨m, hm, ?_, ?_, fun _ => beq_iff_eq.2 e3, fun h => ?_⟩
    · rw [chg_in op a b ha hb, if_pos h1, e1]
    · rw [chg_in op m b hm hb, if_pos h1, e2]
    · have := beq_iff_eq.1 h; omega
  by_cases h2 : op = 2
  · obtain ⟨m, hm, e1, e2, e3⟩ := not_facts a b ha hb
    refine ⟨m, hm, ?_, ?_, fun h => ?_, fun _ => beq_iff_eq.2 e3⟩
    · rw [chg_in op a b ha hb, if_neg h1, if_pos h2, e1]
    · rw [chg_in op m b hm hb, if_neg h1, if_pos h2, e2]
    · have := beq_iff_eq.1 h; omega
  by_cases h3 : op = 3
  · refine ⟨b, hb, ?_, ?_, fun h => absurd (beq_iff_eq.1 h) h1, fun h => absurd (beq_iff_eq.1 h) h2⟩
    · rw [chg_in op a b ha hb, if_neg h1, if_neg h2, if_pos h3]
    · rw [chg_in op b b hb hb, if_neg h1, if_neg h2, if_pos h3]
  · refine ⟨a, ha, ?_, ?_, fun h => absurd (beq_iff_eq.1 h) h1, fun h => absurd (beq_iff_eq.1 h) h2⟩
    · rw [chg_in op a b ha hb, if_neg h1, if_neg h2, if_neg h3]
    · rw [chg_in op a b ha hb, if_neg h1, if_neg h2, if_neg h3]
theorem rd_words (m : Nat) (hm : m ≤ 31) : rdF 0 (flTo m 5) = some m := by
  have h : ∀ m : Fin 32, rdF 0 (flTo m.val 5) = some m.val := by decide +kernel
  exact h ⟨m, by omega⟩
theorem fl_words (m : Nat) (hm : m ≤ 31) (h0 : ¬ m = 0) : partsl 32 (flT (m : Int)) = flTo m 5 := by
  have h : ∀ m : Fin 32, ¬ m.val = 0 → partsl 32 (Lib.join (flTo m.val 5) [32]) = flTo m.val 5 := by decide +kernel
  have := h ⟨m, by omega⟩ h0
  unfold flT
  rw [if_pos (flB_of hm), Int.toNat_natCast]
  exact this
theorem flT_len (m : Nat) (hm : m ≤ 31) : (flT (m : Int)).length ≤ 100 := by
  unfold flT
  rw [if_pos (flB_of hm), Int.toNat_natCast]
  have h1 := join_length [32] (flTo m 5)
  have h2 := flTo_szl m 5
  have h3 := flTo_len m 5
  simp at h1
  omega
theorem flTo_mem (m k : Nat) : ∀ x ∈ flTo m k, x.length ≤ 8 := by
  intro x hx
  unfold flTo at hx
  obtain ⟨i, _, rfl⟩ := List.mem_map.1 hx
  exact flAt_len i

set_option maxHeartbeats 3200000 in
theorem FnFlags_of {G : World → Prop} (hK : Keeps G) (IO : ImplFlagsOk G) (IT : ImplFlagsText G) (IR : ImplReadFlags G) (IC : ImplChanged G) (v : Value) (code : List UInt8) (w : World) (hG : G w) (hr : Rd1 bv w v code) :
    Calls Tryd.prog 3 #[v] w fun e w' => e = .returned (.bool true) ∧ Below w.heap.size w w' := by
  have HR := Lib.hid hr
  have HB := Lib.hid (big_any v code w hr)
  have HIO := Lib.hid IO
  have HIT := Lib.hid IT
  have HIR := Lib.hid IR
  have HIC := Lib.hid IC
  clear hr IO IT IR IC
  by_cases hbig : code.length ≤ 1048576
  · have hq : ¬ (1048576 : Int) < (code.length : Int) := by omega
    go_enter Tryd.func3, Tryd.ntmps3
    go_wp2_with fail
    refine (HB.out).mono ?_
    rintro e w' ⟨rfl, rfl⟩
    go_wp2_with fail
    refine (DrawChanged_any v code _ HR.out hbig).mono ?_
    rintro e w1 ⟨op, old, new, rfl, hop, hold, hnew, b1⟩
    have C1 := Lib.hid (HIC.out op old new w1 (hK _ _ hG b1) hop hold hnew)
    have C2 := Lib.hid (fun W => specChanged_any op old new W)
    have C3 := Lib.hid (fun W hg => HIO.out old W hg hold)
    have C4 := Lib.hid (fun W hg => HIO.out new W hg hnew)
    go_wp2_with fail
    refine (C1.out).mono ?_
    rintro e w2 ⟨rfl, b2⟩
    have hb2 := b1.trans (b2.mono b1.size)
    clear b1 b2 C1 HR HB
    go_wp2_with fail
    refine (C2.out _).mono ?_
    rintro e w2' ⟨rfl, rfl⟩
    clear C2
    by_cases hin : flB old = true ∧ flB new = true
    · obtain ⟨h1, h2⟩ := hin
      rw [h1] at C3
      rw [h2] at C4
      obtain ⟨a, rfl, ha⟩ := flB_nat h1
      obtain ⟨b, rfl, hb⟩ := flB_nat h2
      obtain ⟨m, hm, e1, e2, e3, e4⟩ := chg_facts op a b ha hb
      have hm64 : in64 (m : Int) := ⟨by omega, by omega⟩
      have C5 := Lib.hid (fun W hg => HIT.out (m : Int) W hg hm64)
      have C6 := Lib.hid (fun W hg => HIO.out (m : Int) W hg hm64)
      rw [flB_of hm] at C6
      have C7 := Lib.hid (fun W hg => HIC.out op (m : Int) (b : Int) W hg hop hm64 hnew)
      rw [e2] at C7
      have C8 := Lib.hid (fun u W hg (h : Rd1 sv W u (flTo m 5)) => HIR.out u (flTo m 5) W hg h (by have := flTo_len m 5; omega) (fun x hx => by have := flTo_mem m 5 x hx; omega))
      rw [rd_words m hm] at C8
      have hfl := flT_len m hm
      have hfz : (ByteArray.mk (flT (m : Int)).toArray).size ≤ 1048576 := by show (flT (m : Int)).toArray.size ≤ _; simp; omega
      have C9 := Lib.hid (fun W => specParts_any ⟨(flT (m : Int)).toArray⟩ 32 W hfz)
      rw [show (ByteArray.mk (flT (m : Int)).toArray).data.toList = flT (m : Int) from rfl] at C9
      have hwords := fun h0 => fl_words m hm h0
      have hcases : ((op == 1) = true ∧ (bits .and .i64 (m : Int) (b : Int) == (b : Int)) = true) ∨ ((op == 1) = false ∧ (op == 2) = true ∧ (bits .and .i64 (m : Int) (b : Int) == 0) = true) ∨ ((op == 1) = false ∧ (op == 2) = false) := by
        cases h1 : (op == 1) with
        | true => exact .inl ⟨rfl, e3 h1⟩
        | false =>
          cases h2 : (op == 2) with
          | true => exact .inr (.inl ⟨rfl, rfl, e4 h2⟩)
          | false => exact .inr (.inr ⟨rfl, rfl⟩)
      rw [e1]
      have HC := Lib.hid hcases
      have HW := Lib.hid hwords
      generalize flT (m : Int) = ft at *
      clear e1 e2 e3 e4 hcases hwords HIO HIT HIR HIC h1 h2
      go_wp2_with fail
      refine (C3.out _ (hK _ _ hG hb2)).mono ?_
      rintro e w3 ⟨rfl, b3⟩
      have hb3 := hb2.trans (b3.mono hb2.size)
      clear hb2 b3 C3
      go_wp2_with fail
      refine (C4.out _ (hK _ _ hG hb3)).mono ?_
      rintro e w4 ⟨rfl, b4⟩
      have hb4 := hb3.trans (b4.mono hb3.size)
      clear hb3 b4 C4
      go_wp2_with fail
      refine (C5.out _ (hK _ _ hG hb4)).mono ?_
      rintro e w5 ⟨rfl, b5⟩
      have hb5 := hb4.trans (b5.mono hb4.size)
      clear hb4 b5 C5
      go_wp2_with fail
      refine (C9.out _).mono ?_
      rintro e w6 ⟨v6, rfl, o6, b6⟩
      have hb6 := hb5.trans (b6.mono hb5.size)
      clear hb5 b6 C9
      cases hm0 : ((m : Int) == 0) with
      | true =>
        have hmz : m = 0 := by have := beq_iff_eq.1 hm0; omega
        have hf0 : flTo m 5 = [] := by rw [hmz]; decide
        rw [hf0] at C8
        have hbA : Below w.heap.size w (w6.alloc (.cells #[] 9)) := hb6.alloc hb6.size _
        have hru : Rd1 sv (w6.alloc (.cells #[] 9)) (.slice (some ⟨w6.heap.size, 0, none⟩) 0 0) ([] : List (List UInt8)) := Rd1.of_own (enc := sv) (World.ownsRow_made (base := w6.heap.size) w6 #[] 0 (Nat.le_refl _) (by unfold maxLen; omega) (by simp) : (w6.alloc (.cells #[] 9)).ownsRow w6.heap.size 9 1 (.slice (some ⟨w6.heap.size, 0, none⟩) 0 0) 0 [])
        have D8 := Lib.hid (C8.out _ _ (hK _ _ hG hbA) hru)
        clear C8 hru hf0 hmz HW o6
        go_wp2_with fail
        refine (D8.out).mono ?_
        rintro e w8 ⟨rfl, b8⟩
        have hb8 := hbA.trans (b8.mono hbA.size)
        clear D8 hbA b8 hb6
        unfold rdV
        simp only
        go_wp2_with fail
        refine (C6.out _ (hK _ _ hG hb8)).mono ?_
        rintro e w9 ⟨rfl, b9⟩
        have hb9 := hb8.trans (b9.mono hb8.size)
        clear hb8 b9 C6
        rcases HC.out with ⟨k1, k2⟩ | ⟨k1, k2, k3⟩ | ⟨k1, k2⟩
        · have k3 : (op != 1) = false := by simp only [bne, k1]; rfl
          have k4 : (op != 2) = true := by have := beq_iff_eq.1 k1; subst this; rfl
          go_wp2_with fail
          refine (C7.out _ (hK _ _ hG hb9)).mono ?_
          rintro e w10 ⟨rfl, b10⟩
          have hb10 := hb9.trans (b10.mono hb9.size)
          go_wp2
          go_ret
          exact ⟨rfl, hb10⟩
        · have k4 : (op != 1) = true := by simp only [bne, k1]; rfl
          have k5 : (op != 2) = false := by simp only [bne, k2]; rfl
          go_wp2_with fail
          refine (C7.out _ (hK _ _ hG hb9)).mono ?_
          rintro e w10 ⟨rfl, b10⟩
          have hb10 := hb9.trans (b10.mono hb9.size)
          go_wp2
          go_ret
          exact ⟨rfl, hb10⟩
        · have k4 : (op != 1) = true := by simp only [bne, k1]; rfl
          have k5 : (op != 2) = true := by simp only [bne, k2]; rfl
          go_wp2_with fail
          refine (C7.out _ (hK _ _ hG hb9)).mono ?_
          rintro e w10 ⟨rfl, b10⟩
          have hb10 := hb9.trans (b10.mono hb9.size)
          go_wp2
          go_ret
          exact ⟨rfl, hb10⟩
      | false =>
        have hmz : ¬ m = 0 := fun e => by rw [e] at hm0; cases hm0
        rw [HW.out hmz] at o6
        have D8 := Lib.hid (C8.out _ _ (hK _ _ hG hb6) (Rd1.of_own (enc := sv) o6))
        clear C8 hmz HW o6
        go_wp2_with fail
        refine (D8.out).mono ?_
        rintro e w8 ⟨rfl, b8⟩
        have hb8 := hb6.trans (b8.mono hb6.size)
        clear D8 b8 hb6
        unfold rdV
        simp only
        go_wp2_with fail
        refine (C6.out _ (hK _ _ hG hb8)).mono ?_
        rintro e w9 ⟨rfl, b9⟩
        have hb9 := hb8.trans (b9.mono hb8.size)
        clear hb8 b9 C6
        rcases HC.out with ⟨k1, k2⟩ | ⟨k1, k2, k3⟩ | ⟨k1, k2⟩
        · have k3 : (op != 1) = false := by simp only [bne, k1]; rfl
          have k4 : (op != 2) = true := by have := beq_iff_eq.1 k1; subst this; rfl
          go_wp2_with fail
          refine (C7.out _ (hK _ _ hG hb9)).mono ?_
          rintro e w10 ⟨rfl, b10⟩
          have hb10 := hb9.trans (b10.mono hb9.size)
          go_wp2
          go_ret
          exact ⟨rfl, hb10⟩
        · have k4 : (op != 1) = true := by simp only [bne, k1]; rfl
          have k5 : (op != 2) = false := by simp only [bne, k2]; rfl
          go_wp2_with fail
          refine (C7.out _ (hK _ _ hG hb9)).mono ?_
          rintro e w10 ⟨rfl, b10⟩
          have hb10 := hb9.trans (b10.mono hb9.size)
          go_wp2
          go_ret
          exact ⟨rfl, hb10⟩
        · have k4 : (op != 1) = true := by simp only [bne, k1]; rfl
          have k5 : (op != 2) = true := by simp only [bne, k2]; rfl
          go_wp2_with fail
          refine (C7.out _ (hK _ _ hG hb9)).mono ?_
          rintro e w10 ⟨rfl, b10⟩
          have hb10 := hb9.trans (b10.mono hb9.size)
          go_wp2
          go_ret
          exact ⟨rfl, hb10⟩
    · have hout := chg_out (op := op) hin
      rw [hout]
      clear hout HIT HIR HIC HIO
      cases h1 : flB old with
      | false =>
        rw [h1] at C3
        clear C4 hin
        go_wp2_with fail
        refine (C3.out _ (hK _ _ hG hb2)).mono ?_
        rintro e w3 ⟨rfl, b3⟩
        have hb3 := hb2.trans (b3.mono hb2.size)
        go_wp2
        go_ret
        exact ⟨rfl, hb3⟩
      | true =>
        have h2 : flB new = false := by
          cases h2 : flB new with
          | false => rfl
          | true => exact absurd ⟨h1, h2⟩ hin
        rw [h1] at C3
        rw [h2] at C4
        clear hin
        go_wp2_with fail
        refine (C3.out _ (hK _ _ hG hb2)).mono ?_
        rintro e w3 ⟨rfl, b3⟩
        have hb3 := hb2.trans (b3.mono hb2.size)
        go_wp2_with fail
        refine (C4.out _ (hK _ _ hG hb3)).mono ?_
        rintro e w4 ⟨rfl, b4⟩
        have hb4 := hb3.trans (b4.mono hb3.size)
        go_wp2
        go_ret
        exact ⟨rfl, hb4⟩
  · have hq : (1048576 : Int) < (code.length : Int) := by omega
    go_enter Tryd.func3, Tryd.ntmps3
    go_wp2_with fail
    refine (HB.out).mono ?_
    rintro e w' ⟨rfl, rfl⟩
    go_wp2
    go_ret
    exact ⟨rfl, Below.refl _ _⟩

end Go.Proofs.YtjfjadfhcljlbaaDoor
