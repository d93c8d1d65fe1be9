/-
  Chapter 2's exact laws: both functions answer alike.
-/
import Derived.Test.YteoalgjmcienjaaWordG
import Derived.Test.YteoalgjmcienjaaWordE
namespace Go.Proofs.Yteoalgjmcienjaa
open Go.RowKit

theorem FnExactAtomOk_any (s : ByteArray) (w : World) (hs : s.size ≤ maxLen) :
    Calls Try.prog 5 #[.string s] w fun e w' => e = .returned (.bool true) ∧ Below w.heap.size w w' := by
  have hs' := hs
  unfold maxLen at hs'
  have HI := Lib.hid (fun W => implAtomOk_any s W hs)
  have HS := Lib.hid (fun W => specAtomOk_any s W hs)
  clear hs
  by_cases hbig : 1048576 < (s.size : Int)
  · go_enter Try.func5, Try.ntmps5
    go_wp2
    go_ret
    exact ⟨rfl, Below.refl _ _⟩
  · go_enter Try.func5, Try.ntmps5
    go_wp2_with fail
    refine (HS.out _).mono ?_
    rintro e w1 ⟨rfl, rfl⟩
    go_wp2_with fail
    refine (HI.out _).mono ?_
    rintro e w2 ⟨rfl, b2⟩
    have hb := b2
    go_wp2
    go_ret
    exact ⟨rfl, hb⟩

theorem FnExactNameOk_any (s : ByteArray) (w : World) (hs : s.size ≤ maxLen) :
    Calls Try.prog 9 #[.string s] w fun e w' => e = .returned (.bool true) ∧ Below w.heap.size w w' := by
  have hs' := hs
  unfold maxLen at hs'
  have HI := Lib.hid (fun W => implNameOk_any s W hs)
  have HS := Lib.hid (fun W => specNameOk_any s W hs)
  clear hs
  by_cases hbig : 1048576 < (s.size : Int)
  · go_enter Try.func9, Try.ntmps9
    go_wp2
    go_ret
    exact ⟨rfl, Below.refl _ _⟩
  · go_enter Try.func9, Try.ntmps9
    go_wp2_with fail
    refine (HS.out _).mono ?_
    rintro e w1 ⟨rfl, rfl⟩
    go_wp2_with fail
    refine (HI.out _).mono ?_
    rintro e w2 ⟨rfl, b2⟩
    have hb := b2
    go_wp2
    go_ret
    exact ⟨rfl, hb⟩

theorem FnExactQuote_any (s : ByteArray) (w : World) (hs : s.size ≤ maxLen) :
    Calls Try.prog 6 #[.string s] w fun e w' => e = .returned (.bool true) ∧ Below w.heap.size w w' := by
  have hs' := hs
  unfold maxLen at hs'
  have HI := Lib.hid (fun W => implQuote_any s W hs)
  have HS := Lib.hid (fun W => specQuote_any s W hs)
  clear hs
  by_cases hbig : 1048576 < (s.size : Int)
  · go_enter Try.func6, Try.ntmps6
    go_wp2
    go_ret
    exact ⟨rfl, Below.refl _ _⟩
  · go_enter Try.func6, Try.ntmps6
    go_wp2_with fail
    refine (HS.out _).mono ?_
    rintro e w1 ⟨rfl, b1⟩
    go_wp2_with fail
    refine (HI.out _).mono ?_
    rintro e w2 ⟨rfl, b2⟩
    have hb := b1.trans (b2.mono b1.size)
    go_wp2
    go_ret
    exact ⟨rfl, hb⟩

theorem FnExactWord_any (s : ByteArray) (w : World) (hs : s.size ≤ maxLen) :
    Calls Try.prog 8 #[.string s] w fun e w' => e = .returned (.bool true) ∧ Below w.heap.size w w' := by
  have hs' := hs
  unfold maxLen at hs'
  have HI := Lib.hid (fun W => implWord_any s W hs)
  have HS := Lib.hid (fun W => specWord_any s W hs)
  clear hs
  by_cases hbig : 1048576 < (s.size : Int)
  · go_enter Try.func8, Try.ntmps8
    go_wp2
    go_ret
    exact ⟨rfl, Below.refl _ _⟩
  · go_enter Try.func8, Try.ntmps8
    go_wp2_with fail
    refine (HS.out _).mono ?_
    rintro e w1 ⟨rfl, b1⟩
    go_wp2_with fail
    refine (HI.out _).mono ?_
    rintro e w2 ⟨rfl, b2⟩
    have hb := b1.trans (b2.mono b1.size)
    go_wp2
    go_ret
    exact ⟨rfl, hb⟩

theorem FnExactUnder_any (x y : ByteArray) (w : World) (hx : x.size ≤ maxLen) (hy : y.size ≤ maxLen) :
    Calls Try.prog 10 #[.string x, .string y] w fun e w' => e = .returned (.bool true) ∧ Below w.heap.size w w' := by
  unfold maxLen at hx hy
  by_cases hbig : 1048576 < (x.size : Int)
  · go_enter Try.func10, Try.ntmps10
    go_wp2
    go_ret
    exact ⟨rfl, Below.refl _ _⟩
  by_cases hbig2 : 1048576 < (y.size : Int)
  · go_enter Try.func10, Try.ntmps10
    go_wp2
    go_ret
    exact ⟨rfl, Below.refl _ _⟩
  have HI := Lib.hid (fun W => implUnder_any x y W (by omega) (by omega))
  have HS := Lib.hid (fun W => specUnder_any x y W (by omega) (by omega))
  go_enter Try.func10, Try.ntmps10
  go_wp2_with fail
  refine (HS.out _).mono ?_
  rintro e w1 ⟨rfl, rfl⟩
  go_wp2_with fail
  refine (HI.out _).mono ?_
  rintro e w2 ⟨rfl, b2⟩
  go_wp2
  go_ret
  exact ⟨rfl, b2⟩

theorem FnExactUnquote_any (s : ByteArray) (a : Int) (w : World) (hs : s.size ≤ maxLen) :
    Calls Try.prog 7 #[.string s, .int .i64 a] w fun e w' => e = .returned (.bool true) ∧ Below w.heap.size w w' := by
  unfold maxLen at hs
  by_cases hbig : 1048576 < (s.size : Int)
  · go_enter Try.func7, Try.ntmps7
    go_wp2
    go_ret
    exact ⟨rfl, Below.refl _ _⟩
  have ci := fun W => implUnquote_any s a W (by omega)
  have cs := fun W => specUnquote_any s a W (by omega)
  have hV : ∃ (t : List UInt8) (n : Int), uqV (uqO s.data.toList a) = .tuple #[sv t, .int .i64 n] := by
    cases uqO s.data.toList a with
    | none => exact ⟨[], -1, rfl⟩
    | some x => exact ⟨x.1, x.2, rfl⟩
  obtain ⟨t, n, hV⟩ := hV
  rw [hV] at ci cs
  have HI := Lib.hid ci
  have HS := Lib.hid cs
  clear ci cs hV
  go_enter Try.func7, Try.ntmps7
  go_wp2_with fail
  refine (HS.out _).mono ?_
  rintro e w1 ⟨rfl, b1⟩
  go_wp2_with fail
  refine (HI.out _).mono ?_
  rintro e w2 ⟨rfl, b2⟩
  have hb := b1.trans (b2.mono b1.size)
  go_wp2
  go_ret
  exact ⟨rfl, hb⟩

end Go.Proofs.Yteoalgjmcienjaa
