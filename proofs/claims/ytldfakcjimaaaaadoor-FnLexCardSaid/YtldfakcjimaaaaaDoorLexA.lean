/-
  Chapter 3's walks: tokens and their texts, by the model.
-/
import Derived.Test.YtldfakcjimaaaaaDoorWordH
namespace Go.Proofs.YtldfakcjimaaaaaDoor
open Go.RowKit
open Go.Lib (decDigits itoa)

structure Tok where
  kind : Int
  text : List UInt8

/-- A token as a value. -/
abbrev tokv (t : Tok) : Value := .agg #[.int .i64 t.kind, sv t.text]
def gapB (a b : Tok) : Bool := a.kind != 3 && b.kind != 4

theorem l3Gap_any (a b : Tok) (w : World) :
    Calls Tryd.prog 29 #[tokv a, tokv b] w fun e w' => e = .returned (.bool (gapB a b)) ∧ Below w.heap.size w w' := by
  cases h1 : (a.kind != 3) with
  | false =>
    have hg := Lib.hid (show gapB a b = false by unfold gapB; rw [h1]; rfl)
    go_enter Tryd.func29, Tryd.ntmps29
    go_wp2
    go_ret
    exact ⟨by rw [hg.out]; rfl, ((Below.refl _ _).alloc (Nat.le_refl _) _).alloc (by simp) _⟩
  | true =>
    have hg := Lib.hid (show gapB a b = (b.kind != 4) by unfold gapB; rw [h1]; rfl)
    go_enter Tryd.func29, Tryd.ntmps29
    go_wp2
    go_ret
    exact ⟨by rw [hg.out]; rfl, ((Below.refl _ _).alloc (Nat.le_refl _) _).alloc (by simp) _⟩

def litL (l : List UInt8) : List UInt8 := if l.length ≤ 40 then [123] ++ decDigits l.length ++ [125, 13, 10] ++ l else []
theorem litL_le (l : List UInt8) : (litL l).length ≤ 100 := by
  unfold litL
  split
  · have := decDigits_length_le l.length (by omega)
    simp; omega
  · simp

theorem l3Literal_any (l : List UInt8) (w : World) (hl : l.length ≤ 1048576) :
    Calls Tryd.prog 36 #[sv l] w fun e w' => e = .returned (sv (litL l)) ∧ Below w.heap.size w w' := by
  have hz : (ByteArray.mk l.toArray).size = l.length := by show l.toArray.size = _; simp
  by_cases h : 40 < (l.length : Int)
  · have hg := Lib.hid (show litL l = [] by unfold litL; rw [if_neg (by omega)])
    go_enter Tryd.func36, Tryd.ntmps36
    go_wp2
    go_ret
    exact ⟨by rw [hg.out]; rfl, Below.refl _ _⟩
  · have hg := Lib.hid (show litL l = [123] ++ decDigits l.length ++ [125, 13, 10] ++ l by unfold litL; rw [if_pos (by omega)])
    have hdl := decDigits_length_le l.length (by omega)
    have hdz : (ByteArray.mk (decDigits l.length).toArray).size = (decDigits l.length).length := by show (decDigits l.length).toArray.size = _; simp
    have hcat := Lib.hid (show sv ([123] ++ decDigits l.length ++ [125, 13, 10] ++ l) = .string ((((⟨#[123]⟩ : ByteArray) ++ ⟨(decDigits l.length).toArray⟩) ++ ⟨#[125, 13, 10]⟩) ++ ⟨l.toArray⟩) by unfold sv; congr 1)
    go_enter Tryd.func36, Tryd.ntmps36
    go_wp2_with fail
    refine (specDigits_nat _ _ (by omega)).mono ?_
    rintro e w1 ⟨rfl, b1⟩
    go_wp2
    go_ret
    exact ⟨by rw [hg.out, hcat.out]; rfl, b1⟩

def tokText (t : Tok) : List UInt8 :=
  if t.kind = 1 then (if atomB t.text = true then t.text else [])
  else if t.kind = 2 then (if quoteL t.text = [] then litL t.text else quoteL t.text)
  else if t.kind = 3 then (if t.text = [] then [40] else [])
  else if t.kind = 4 then (if t.text = [] then [41] else [])
  else []

set_option maxHeartbeats 800000 in
theorem specTokenText_any (t : Tok) (w : World) (hl : t.text.length ≤ 1048576) :
    Calls Tryd.prog 16 #[tokv t] w fun e w' => e = .returned (sv (tokText t)) ∧ Below w.heap.size w w' := by
  have hz : (ByteArray.mk t.text.toArray).size = t.text.length := by show t.text.toArray.size = _; simp
  have hm : (ByteArray.mk t.text.toArray).size ≤ maxLen := by unfold maxLen; omega
  have c1 := fun W => specAtomOk_any ⟨t.text.toArray⟩ W hm
  have C2 := Lib.hid (fun W => specQuote_any ⟨t.text.toArray⟩ W hm)
  have C3 := Lib.hid (fun W => l3Literal_any t.text W hl)
  rw [show (ByteArray.mk t.text.toArray).data.toList = t.text from rfl] at c1 C2
  obtain ⟨k, l⟩ := t
  simp only at *
  cases h1 : (k == 1) with
  | true =>
    obtain rfl := beq_iff_eq.1 h1
    cases ha : atomB l with
    | true =>
      rw [ha] at c1
      have C1 := Lib.hid c1
      have hg := Lib.hid (show tokText ⟨1, l⟩ = l by simp [tokText, ha])
      clear c1 ha
      go_enter Tryd.func16, Tryd.ntmps16
      go_wp2_with fail
      refine (C1.out _).mono ?_
      rintro e w1 ⟨rfl, rfl⟩
      go_wp2
      go_ret
      exact ⟨by rw [hg.out]; rfl, (Below.refl _ _).alloc (Nat.le_refl _) _⟩
    | false =>
      rw [ha] at c1
      have C1 := Lib.hid c1
      have hg := Lib.hid (show tokText ⟨1, l⟩ = [] by simp [tokText, ha])
      clear c1 ha
      go_enter Tryd.func16, Tryd.ntmps16
      go_wp2_with fail
      refine (C1.out _).mono ?_
      rintro e w1 ⟨rfl, rfl⟩
      go_wp2
      go_ret
      exact ⟨by rw [hg.out]; rfl, (Below.refl _ _).alloc (Nat.le_refl _) _⟩
  | false =>
    have n1 : ¬ k = 1 := by simpa using h1
    cases h2 : (k == 2) with
    | true =>
      obtain rfl := beq_iff_eq.1 h2
      have hsz : (w.alloc (.cells #[.int .i64 2, sv l] 35)).heap.size = w.heap.size + 1 := by simp
      by_cases hq : quoteL l = []
      · have hg := Lib.hid (show tokText ⟨2, l⟩ = litL l by simp [tokText, hq])
        rw [hq] at C2
        clear hq n1
        go_enter Tryd.func16, Tryd.ntmps16
        go_wp2_with fail
        refine (C2.out _).mono ?_
        rintro e w1 ⟨rfl, b1⟩
        have hc := b1.cell (p := ⟨w.heap.size, 1, none⟩) (by simp)
        have hc2 : (w.alloc (.cells #[.int .i64 2, sv l] 35)).cell? ⟨w.heap.size, 1, none⟩ = some (sv l) := by simp [go_sem]
        have HC := Lib.hid (hc.trans hc2)
        have hb0 := ((Below.refl w.heap.size w).alloc (Nat.le_refl _) (.cells #[.int .i64 2, sv l] 35)).trans (b1.mono (by simp))
        have hcell := HC.out
        clear hc hc2 b1 hsz
        go_wp2_with fail
        refine (C3.out _).mono ?_
        rintro e w2 ⟨rfl, b2⟩
        have hb := hb0.trans (b2.mono hb0.size)
        go_wp2
        go_ret
        exact ⟨by rw [hg.out]; rfl, hb⟩
      · have hg := Lib.hid (show tokText ⟨2, l⟩ = quoteL l by simp [tokText, hq])
        have hqe : (quoteL l).isEmpty = false := by cases hh : quoteL l with | nil => exact absurd hh hq | cons a r => rfl
        clear hq n1
        go_enter Tryd.func16, Tryd.ntmps16
        go_wp2_with fail
        refine (C2.out _).mono ?_
        rintro e w1 ⟨rfl, b1⟩
        have hb0 := ((Below.refl w.heap.size w).alloc (Nat.le_refl _) (.cells #[.int .i64 2, sv l] 35)).trans (b1.mono (by simp))
        clear b1 hsz
        go_wp2
        go_ret
        exact ⟨by rw [hg.out]; rfl, hb0⟩
    | false =>
      have n2 : ¬ k = 2 := by simpa using h2
      cases h3 : (k == 3) with
      | true =>
        obtain rfl := beq_iff_eq.1 h3
        by_cases hq : l = []
        · subst hq
          go_enter Tryd.func16, Tryd.ntmps16
          go_wp2
          go_ret
          exact ⟨rfl, (Below.refl _ _).alloc (Nat.le_refl _) _⟩
        · have hg := Lib.hid (show tokText ⟨3, l⟩ = [] by simp [tokText, hq])
          have hqe : l.isEmpty = false := by cases hh : l with | nil => exact absurd hh hq | cons a r => rfl
          clear hq n1 n2
          go_enter Tryd.func16, Tryd.ntmps16
          go_wp2
          go_ret
          exact ⟨by rw [hg.out]; rfl, (Below.refl _ _).alloc (Nat.le_refl _) _⟩
      | false =>
        have n3 : ¬ k = 3 := by simpa using h3
        cases h4 : (k == 4) with
        | true =>
          obtain rfl := beq_iff_eq.1 h4
          by_cases hq : l = []
          · subst hq
            go_enter Tryd.func16, Tryd.ntmps16
            go_wp2
            go_ret
            exact ⟨rfl, (Below.refl _ _).alloc (Nat.le_refl _) _⟩
          · have hg := Lib.hid (show tokText ⟨4, l⟩ = [] by simp [tokText, hq])
            have hqe : l.isEmpty = false := by cases hh : l with | nil => exact absurd hh hq | cons a r => rfl
            clear hq n1 n2 n3
            go_enter Tryd.func16, Tryd.ntmps16
            go_wp2
            go_ret
            exact ⟨by rw [hg.out]; rfl, (Below.refl _ _).alloc (Nat.le_refl _) _⟩
        | false =>
          have n4 : ¬ k = 4 := by simpa using h4
          have hg := Lib.hid (show tokText ⟨k, l⟩ = [] by simp [tokText, n1, n2, n3, n4])
          clear n1 n2 n3 n4
          go_enter Tryd.func16, Tryd.ntmps16
          go_wp2
          go_ret
          exact ⟨by rw [hg.out]; rfl, (Below.refl _ _).alloc (Nat.le_refl _) _⟩

end Go.Proofs.YtldfakcjimaaaaaDoor
