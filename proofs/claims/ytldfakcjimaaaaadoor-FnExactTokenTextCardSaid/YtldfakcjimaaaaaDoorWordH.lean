/-
  Chapter 2's draws.
-/
import Derived.Test.YtldfakcjimaaaaaDoorWordG
import Derived.Test.YtldfakcjimaaaaaDoorWordE
import Derived.Test.YtldfakcjimaaaaaDoorDraw2
namespace Go.Proofs.YtldfakcjimaaaaaDoor
open Go.RowKit

def DrewPost (n : Nat) (g : Nat) (code : List UInt8) (w : World) (e : Ending) (w' : World) : Prop := ∃ t : List UInt8, e = .returned (sv t) ∧ t.length ≤ n ∧ Cur w' g code ∧ w.grownBy w' (some g)

set_option maxHeartbeats 400000 in
theorem l2Name_any (g : Nat) (code : List UInt8) (w : World) (hc : Cur w g code) :
    Calls Tryd.prog 57 #[.pointer (some ⟨g, 0, none⟩)] w fun e w' => DrewPost 41 g code w e w' := by
  have hlt := hc.lt
  have HC := Lib.hid hc
  clear hc
  go_enter Tryd.func57, Tryd.ntmps57
  go_wp2_with fail
  refine (l1Pick_any g code _ [[105, 110, 98, 111, 120], [97], [97, 47, 98], [97, 98], [105, 110, 98, 111, 120, 47, 120], [97], [105, 110, 98, 111, 120]] _ (HC.out.below ((Below.refl _ _).alloc (Nat.le_refl _) _)) (Rd1_lit (b := w.heap.size) _ (heap_alloc_new w _) rfl rfl) (Apart_new hlt) (by simp) (by simp)).mono ?_
  rintro e w1 ⟨t, rfl, ht, hc1, hg1⟩
  have hl : ∀ x ∈ [[105, 110, 98, 111, 120], [97], [97, 47, 98], [97, 98], [105, 110, 98, 111, 120, 47, 120], [97], ([105, 110, 98, 111, 120] : List UInt8)], x.length ≤ 41 := by decide
  have htl := hl t ht
  have hg := grown_grown (World.grownBy_alloc w _ (some g)) hg1
  clear ht hl hg1
  go_wp2
  go_ret
  exact ⟨t, rfl, htl, hc1, hg⟩

set_option maxHeartbeats 800000 in
theorem l2Any_any (g : Nat) (code : List UInt8) (w : World) (hc : Cur w g code) :
    Calls Tryd.prog 42 #[.pointer (some ⟨g, 0, none⟩)] w fun e w' => DrewPost 41 g code w e w' := by
  have HC := Lib.hid hc
  clear hc
  go_enter Tryd.func42, Tryd.ntmps42
  go_wp2_with fail
  refine (l1Below_any g code _ 4 (by omega) _ HC.out (by omega) (by omega)).mono ?_
  rintro e w1 ⟨x, rfl, hx, hc1, hg1⟩
  have hlt1 := hc1.lt
  clear HC
  by_cases h0 : x = 0
  · subst h0
    go_wp2_with fail
    refine (l1Pick_any g code _ [[], [47], [97, 47], [47, 97], [97, 47, 47, 98], [65], [97, 98, 99, 100, 101, 102, 103, 104, 105, 106, 107, 108], [97, 98, 99, 100, 101, 102, 103, 104, 105, 106, 107, 108, 109], [97, 32, 98], [97, 34, 98], [92], [120, 40, 121], [0], [49, 50, 51, 52, 53, 54, 55, 56, 57, 48, 49, 50, 51, 52, 53, 54, 55, 56, 57, 48, 49, 50, 51, 52, 53, 54, 55, 56, 57, 48, 49, 50, 51, 52, 53, 54, 55, 56, 57, 48], [49, 50, 51, 52, 53, 54, 55, 56, 57, 48, 49, 50, 51, 52, 53, 54, 55, 56, 57, 48, 49, 50, 51, 52, 53, 54, 55, 56, 57, 48, 49, 50, 51, 52, 53, 54, 55, 56, 57, 48, 49], [127], [126]] _ (hc1.below ((Below.refl _ _).alloc (Nat.le_refl _) _)) (Rd1_lit (b := w1.heap.size) _ (heap_alloc_new w1 _) rfl rfl) (Apart_new hlt1) (by simp) (by simp)).mono ?_
    rintro e w2 ⟨t, rfl, ht, hc2, hg2⟩
    have hl : ∀ x ∈ ([[], [47], [97, 47], [47, 97], [97, 47, 47, 98], [65], [97, 98, 99, 100, 101, 102, 103, 104, 105, 106, 107, 108], [97, 98, 99, 100, 101, 102, 103, 104, 105, 106, 107, 108, 109], [97, 32, 98], [97, 34, 98], [92], [120, 40, 121], [0], [49, 50, 51, 52, 53, 54, 55, 56, 57, 48, 49, 50, 51, 52, 53, 54, 55, 56, 57, 48, 49, 50, 51, 52, 53, 54, 55, 56, 57, 48, 49, 50, 51, 52, 53, 54, 55, 56, 57, 48], [49, 50, 51, 52, 53, 54, 55, 56, 57, 48, 49, 50, 51, 52, 53, 54, 55, 56, 57, 48, 49, 50, 51, 52, 53, 54, 55, 56, 57, 48, 49, 50, 51, 52, 53, 54, 55, 56, 57, 48, 49], [127], [126]] : List (List UInt8)), x.length ≤ 41 := by decide
    have htl := hl t ht
    have hg := grown_grown hg1 (grown_grown (World.grownBy_alloc w1 _ (some g)) hg2)
    clear ht hl hg1 hg2 hc1
    go_wp2
    go_ret
    exact ⟨t, rfl, htl, hc2, hg⟩
  · have hb0 : ((x : Int) == 0) = false := by simp; omega
    by_cases h1 : x = 1
    · subst h1
      go_wp2_with fail
      refine (l1Below_any g code _ 4 (by omega) _ hc1 (by omega) (by omega)).mono ?_
      rintro e w2 ⟨y, rfl, hy, hc2, hg2⟩
      go_wp2_with fail
      refine (l1Bytes_any g code y _ hc2 (by omega)).mono ?_
      rintro e w3 ⟨v3, l, rfl, hll, ho3, hc3, hg3⟩
      have hback := conv_own (P := Tryd.prog) 22 9 5 ho3 hll Tryd.underlying22 Tryd.underlying5 Tryd.underlying9
      have HL := Lib.hid hll
      have hg := grown_grown hg1 (grown_grown hg2 hg3)
      clear hll ho3 hg1 hg2 hg3 hc1 hc2
      go_wp2
      go_ret
      exact ⟨l, rfl, by rw [HL.out]; omega, hc3, hg⟩
    · have hb1 : ((x : Int) == 1) = false := by simp; omega
      go_wp2_with fail
      refine (l2Name_any g code _ hc1).mono ?_
      rintro e w2 ⟨t, rfl, htl, hc2, hg2⟩
      have hg := grown_grown hg1 hg2
      clear hg1 hg2 hc1
      go_wp2
      go_ret
      exact ⟨t, rfl, htl, hc2, hg⟩

def TwoTexts (n : Nat) (w : World) (e : Ending) (w' : World) : Prop := ∃ t u : List UInt8, e = .returned (.tuple #[sv t, sv u]) ∧ t.length ≤ n ∧ u.length ≤ n ∧ Below w.heap.size w w'

def TextAt (n : Nat) (w : World) (e : Ending) (w' : World) : Prop := ∃ (t : List UInt8) (a : Int), e = .returned (.tuple #[sv t, .int .i64 a]) ∧ t.length ≤ n ∧ Below w.heap.size w w'

end Go.Proofs.YtldfakcjimaaaaaDoor
