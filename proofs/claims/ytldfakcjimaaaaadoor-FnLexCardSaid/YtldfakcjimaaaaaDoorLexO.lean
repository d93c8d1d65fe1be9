/-
  Chapter 3's walks: the program's TokenText and LineOf.
-/
import Derived.Test.YtldfakcjimaaaaaDoorLexI
import Derived.Test.YtldfakcjimaaaaaDoorBld
import Derived.Laws.StructEq
namespace Go.Proofs.YtldfakcjimaaaaaDoor
open Go.RowKit
open Go.Lib (decDigits itoa)

theorem implDigits_small (n : Nat) (h : n < 100) (w : World) :
    Calls Tryd.prog 54 #[.int .i64 (n : Int)] w fun e w' => e = .returned (sv (decDigits n)) ∧ w = w' := by
  have C1 := Lib.hid (fun W => Tryd.strconv_Itoa_small n h W)
  go_enter Tryd.func54, Tryd.ntmps54
  go_wp2_with fail
  refine (C1.out _).mono ?_
  rintro e w1 ⟨rfl, rfl⟩
  go_wp2
  go_ret
  exact ⟨rfl, rfl⟩

def strL (l : List UInt8) : List UInt8 := if quoteL l = [] then litL l else quoteL l
set_option maxHeartbeats 800000 in
theorem stringForm_any (l : List UInt8) (w : World) (hl : l.length ≤ 1048576) :
    Calls Tryd.prog 38 #[sv l] w fun e w' => e = .returned (sv (strL l)) ∧ Below w.heap.size w w' := by
  have hz : (ByteArray.mk l.toArray).size = l.length := by show l.toArray.size = _; simp
  have hm : (ByteArray.mk l.toArray).size ≤ maxLen := by unfold maxLen; omega
  have c1 := fun W => implQuote_any ⟨l.toArray⟩ W hm
  rw [show (ByteArray.mk l.toArray).data.toList = l from rfl] at c1
  by_cases hq : quoteL l = []
  · rw [hq] at c1
    have C1 := Lib.hid c1
    clear c1
    by_cases h : 40 < (l.length : Int)
    · have hg := Lib.hid (show strL l = [] by unfold strL litL; rw [if_pos hq, if_neg (by omega)])
      go_enter Tryd.func38, Tryd.ntmps38
      go_wp2_with fail
      refine (C1.out _).mono ?_
      rintro e w1 ⟨rfl, b1⟩
      go_wp2
      go_ret
      exact ⟨by rw [hg.out]; rfl, b1⟩
    · have hg := Lib.hid (show strL l = [123] ++ decDigits l.length ++ [125, 13, 10] ++ l by unfold strL litL; rw [if_pos hq, if_pos (by omega)])
      have hdl := decDigits_length_le l.length (by omega)
      have hdz : (ByteArray.mk (decDigits l.length).toArray).size = (decDigits l.length).length := by show (decDigits l.length).toArray.size = _; simp
      have hcat := Lib.hid (show sv ([123] ++ decDigits l.length ++ [125, 13, 10] ++ l) = .string (((((⟨#[123]⟩ : ByteArray) ++ ⟨(decDigits l.length).toArray⟩) ++ ⟨#[125]⟩) ++ ⟨#[13, 10]⟩) ++ ⟨l.toArray⟩) by unfold sv; congr 1; apply ByteArray.ext; apply Array.ext'; simp)
      have C2 := Lib.hid (fun W => implDigits_small l.length (by omega) W)
      go_enter Tryd.func38, Tryd.ntmps38
      go_wp2_with fail
      refine (C1.out _).mono ?_
      rintro e w1 ⟨rfl, b1⟩
      go_wp2_with fail
      refine (C2.out _).mono ?_
      rintro e w2 ⟨rfl, rfl⟩
      go_wp2
      go_ret
      exact ⟨by rw [hg.out, hcat.out]; rfl, b1⟩
  · have hg := Lib.hid (show strL l = quoteL l by unfold strL; rw [if_neg hq])
    have hqe : (quoteL l).isEmpty = false := by cases hh : quoteL l with | nil => exact absurd hh hq | cons a r => rfl
    have C1 := Lib.hid c1
    clear c1 hq
    go_enter Tryd.func38, Tryd.ntmps38
    go_wp2_with fail
    refine (C1.out _).mono ?_
    rintro e w1 ⟨rfl, b1⟩
    go_wp2
    go_ret
    exact ⟨by rw [hg.out]; rfl, b1⟩

set_option maxHeartbeats 1600000 in
theorem implTokenText_any : ImplTokenText := by
  intro t w hl
  have hz : (ByteArray.mk t.text.toArray).size = t.text.length := by show t.text.toArray.size = _; simp
  have hm : (ByteArray.mk t.text.toArray).size ≤ maxLen := by unfold maxLen; omega
  have c1 := fun W => implAtomOk_any ⟨t.text.toArray⟩ W hm
  have C2 := Lib.hid (fun W => stringForm_any t.text W hl)
  rw [show (ByteArray.mk t.text.toArray).data.toList = t.text from rfl] at c1
  obtain ⟨k, l⟩ := t
  simp only at *
  cases h1 : (k == 1) with
  | true =>
    obtain rfl := beq_iff_eq.1 h1
    have hb0 : Below w.heap.size w (w.alloc (.cells #[.int .i64 1, sv l] 35)) := (Below.refl _ _).alloc (Nat.le_refl _) _
    cases ha : atomB l with
    | true =>
      rw [ha] at c1
      have C1 := Lib.hid c1
      have hg := Lib.hid (show tokText ⟨1, l⟩ = l by simp [tokText, ha])
      clear c1 ha
      go_enter Tryd.func18, Tryd.ntmps18
      go_wp2_with fail
      refine (C1.out _).mono ?_
      rintro e w1 ⟨rfl, b1⟩
      obtain ⟨hc, hf⟩ := new_cells (cs := #[.int .i64 1, sv l]) (e := 35) (by simpa using b1)
      have hc0 := hc 0
      have hc1 := hc 1
      simp only [List.getElem?_toArray, List.getElem?_cons_zero, List.getElem?_cons_succ] at hc0 hc1
      have hb1 := hb0.trans (b1.mono (by simp))
      clear hc hf b1 hb0
      go_wp2
      go_ret
      exact ⟨by rw [hg.out]; rfl, hb1⟩
    | false =>
      rw [ha] at c1
      have C1 := Lib.hid c1
      have hg := Lib.hid (show tokText ⟨1, l⟩ = [] by simp [tokText, ha])
      clear c1 ha
      go_enter Tryd.func18, Tryd.ntmps18
      go_wp2_with fail
      refine (C1.out _).mono ?_
      rintro e w1 ⟨rfl, b1⟩
      obtain ⟨hc, hf⟩ := new_cells (cs := #[.int .i64 1, sv l]) (e := 35) (by simpa using b1)
      have hc0 := hc 0
      have hc1 := hc 1
      simp only [List.getElem?_toArray, List.getElem?_cons_zero, List.getElem?_cons_succ] at hc0 hc1
      have hb1 := hb0.trans (b1.mono (by simp))
      clear hc hf b1 hb0
      go_wp2
      go_ret
      exact ⟨by rw [hg.out]; rfl, hb1⟩
  | false =>
    have n1 : ¬ k = 1 := by simpa using h1
    cases h2 : (k == 2) with
    | true =>
      obtain rfl := beq_iff_eq.1 h2
      have hg := Lib.hid (show tokText ⟨2, l⟩ = strL l by simp [tokText, strL])
      have hb0 : Below w.heap.size w (w.alloc (.cells #[.int .i64 2, sv l] 35)) := (Below.refl _ _).alloc (Nat.le_refl _) _
      clear c1 n1
      go_enter Tryd.func18, Tryd.ntmps18
      go_wp2_with fail
      refine (C2.out _).mono ?_
      rintro e w1 ⟨rfl, b1⟩
      have hb1 := hb0.trans (b1.mono (by simp))
      clear b1 hb0
      go_wp2
      go_ret
      exact ⟨by rw [hg.out]; rfl, hb1⟩
    | false =>
      have n2 : ¬ k = 2 := by simpa using h2
      cases h3 : (k == 3) with
      | true =>
        obtain rfl := beq_iff_eq.1 h3
        clear c1 C2
        by_cases hq : l = []
        · subst hq
          go_enter Tryd.func18, Tryd.ntmps18
          go_wp2
          go_ret
          exact ⟨rfl, (Below.refl _ _).alloc (Nat.le_refl _) _⟩
        · have hg := Lib.hid (show tokText ⟨3, l⟩ = [] by simp [tokText, hq])
          have hqe : l.isEmpty = false := by cases hh : l with | nil => exact absurd hh hq | cons a r => rfl
          clear hq n1 n2
          go_enter Tryd.func18, Tryd.ntmps18
          go_wp2
          go_ret
          exact ⟨by rw [hg.out]; rfl, (Below.refl _ _).alloc (Nat.le_refl _) _⟩
      | false =>
        have n3 : ¬ k = 3 := by simpa using h3
        clear c1 C2
        cases h4 : (k == 4) with
        | true =>
          obtain rfl := beq_iff_eq.1 h4
          by_cases hq : l = []
          · subst hq
            go_enter Tryd.func18, Tryd.ntmps18
            go_wp2
            go_ret
            exact ⟨rfl, (Below.refl _ _).alloc (Nat.le_refl _) _⟩
          · have hg := Lib.hid (show tokText ⟨4, l⟩ = [] by simp [tokText, hq])
            have hqe : l.isEmpty = false := by cases hh : l with | nil => exact absurd hh hq | cons a r => rfl
            clear hq n1 n2 n3
            go_enter Tryd.func18, Tryd.ntmps18
            go_wp2
            go_ret
            exact ⟨by rw [hg.out]; rfl, (Below.refl _ _).alloc (Nat.le_refl _) _⟩
        | false =>
          have n4 : ¬ k = 4 := by simpa using h4
          have hg := Lib.hid (show tokText ⟨k, l⟩ = [] by simp [tokText, n1, n2, n3, n4])
          clear n1 n2 n3 n4
          go_enter Tryd.func18, Tryd.ntmps18
          go_wp2
          go_ret
          exact ⟨by rw [hg.out]; rfl, (Below.refl _ _).alloc (Nat.le_refl _) _⟩

end Go.Proofs.YtldfakcjimaaaaaDoor
