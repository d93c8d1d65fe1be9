/-
  Chapter 1's exact laws over strings: the walks of the laws.
-/
import Derived.Test.YtnlopkbkdchfnaaNumB
import Derived.Test.YtnlopkbkdchfnaaNumC
namespace Go.Proofs.Ytnlopkbkdchfnaa
open Go.RowKit

theorem FnExactHex_any (s : ByteArray) (w : World) (_hs : s.size ≤ maxLen) :
    Calls Try.prog 9 #[.string s] w fun e w' => e = .returned (.bool true) ∧ Below w.heap.size w w' := by
  by_cases hbig : s.size ≤ 1048576
  · go_enter Try.func9, Try.ntmps9
    go_wp2_with fail
    refine (specHex_any s _ hbig).mono ?_
    rintro e w1 ⟨rfl, hb1⟩
    go_wp2_with fail
    refine (implHex_any s _ hbig).mono ?_
    rintro e w2 ⟨rfl, hb2⟩
    go_wp2
    go_ret
    exact ⟨rfl, hb1.trans (hb2.mono hb1.size)⟩
  · go_enter Try.func9, Try.ntmps9
    go_wp2
    go_ret
    exact ⟨rfl, Below.refl _ _⟩

theorem unhexV_cases (l : List UInt8) : ∃ (r : ByteArray) (b : Bool), unhexV l = .tuple #[.string r, .bool b] := by
  unfold unhexV
  cases unhexl l with
  | none => exact ⟨_, _, rfl⟩
  | some r => exact ⟨_, _, rfl⟩

theorem FnExactUnhex_any (s : ByteArray) (w : World) (_hs : s.size ≤ maxLen) :
    Calls Try.prog 10 #[.string s] w fun e w' => e = .returned (.bool true) ∧ Below w.heap.size w w' := by
  by_cases hbig : s.size ≤ 1048576
  · have c1 := fun w => specUnhex_any s w hbig
    have c2 := fun w => implUnhex_any s w hbig
    obtain ⟨r, b, hV⟩ := unhexV_cases s.data.toList
    rw [hV] at c1 c2
    clear hV
    have C1 := Lib.hid c1
    have C2 := Lib.hid c2
    clear c1 c2
    go_enter Try.func10, Try.ntmps10
    go_wp2_with fail
    refine (C1.out _).mono ?_
    rintro e w1 ⟨rfl, hb1⟩
    go_wp2_with fail
    refine (C2.out _).mono ?_
    rintro e w2 ⟨rfl, hb2⟩
    go_wp2
    go_ret
    exact ⟨rfl, hb1.trans (hb2.mono hb1.size)⟩
  · go_enter Try.func10, Try.ntmps10
    go_wp2
    go_ret
    exact ⟨rfl, Below.refl _ _⟩

end Go.Proofs.Ytnlopkbkdchfnaa
