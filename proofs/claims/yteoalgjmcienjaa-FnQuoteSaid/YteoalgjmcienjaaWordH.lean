/-
  Chapter 2's draws.
-/
import Derived.Test.YteoalgjmcienjaaWordG
import Derived.Test.YteoalgjmcienjaaWordE
import Derived.Test.YteoalgjmcienjaaDraw2
namespace Go.Proofs.Yteoalgjmcienjaa
open Go.RowKit

def DrewPost (n : Nat) (g : Nat) (code : List UInt8) (w : World) (e : Ending) (w' : World) : Prop := ∃ t : List UInt8, e = .returned (sv t) ∧ t.length ≤ n ∧ Cur w' g code ∧ w.grownBy w' (some g)

set_option maxHeartbeats 400000 in
theorem l2Name_any (g : Nat) (code : List UInt8) (w : World) (hc : Cur w g code) :
    Calls Try.prog 40 #[.pointer (some ⟨g, 0, none⟩)] w fun e w' => DrewPost 41 g code w e w' := by
  have hlt := hc.lt
  have HC := Lib.hid hc
  clear hc
  go_enter Try.func40, Try.ntmps40
  go_wp2_with fail
  refine (l1Pick_any g code _ [[105, 110, 98, 111, 120], [97], [97, 47, 98], [97, 98], [105, 110, 98, 111, 120, 47, 120], [97], [105, 110, 98, 111, 120]] _ (HC.out.below ((Below.refl _ _).alloc (Nat.le_refl _) _)) (Rd1_lit (b := w.heap.size) _ (heap_alloc_new w _) rfl rfl) (Apart_new hlt) (by simp) (by simp)).mono ?_
  rintro e w1 ⟨t, rfl, ht, hc1, hg1⟩
  have hl : ∀ x ∈ [[105, 110, 98, 111, 120], [97], [97, 47, 98], [97, 98], [105, 110, 98, 111, 120, 47, 120], [97], ([105, 110, 98, 111, 120] : List UInt8)], x.length ≤ 41 := by decide
  have htl := hl t ht
  have hg := grown_grown (World.grownBy_alloc w _ (some g)) hg1
  clear ht hl hg1
  go_wp2
  go_ret
  exact ⟨t, rfl, htl, hc1, hg⟩

set_option maxHeartbeats 800000 in
theorem l2Any_any (g : Nat) (code : List UInt8) (w : World) (hc : Cur w g code) :
    Calls Try.prog 28 #[.pointer (some ⟨g, 0, none⟩)] w fun e w' => DrewPost 41 g code w e w' := by
  have HC := Lib.hid hc
  clear hc
  go_enter Try.func28, Try.ntmps28
  go_wp2_with fail
  refine (l1Below_any g code _ 4 (by omega) _ HC.out (by omega) (by omega)).mono ?_
  rintro e w1 ⟨x, rfl, hx, hc1, hg1⟩
  have hlt1 := hc1.lt
  clear HC
  by_cases h0 : x = 0
  · subst h0
    go_wp2_with fail
    refine (l1Pick_any g code _ [[], [47], [97, 47], [47, 97], [97, 47, 47, 98], [65], [97, 98, 99, 100, 101, 102, 103, 104, 105, 106, 107, 108], [97, 98, 99, 100, 101, 102, 103, 104, 105, 106, 107, 108, 109], [97, 32, 98], [97, 34, 98], [92], [120, 40, 121], [0], [49, 50, 51, 52, 53, 54, 55, 56, 57, 48, 49, 50, 51, 52, 53, 54, 55, 56, 57, 48, 49, 50, 51, 52, 53, 54, 55, 56, 57, 48, 49, 50, 51, 52, 53, 54, 55, 56, 57, 48], [49, 50, 51, 52, 53, 54, 55, 56, 57, 48, 49, 50, 51, 52, 53, 54, 55, 56, 57, 48, 49, 50, 51, 52, 53, 54, 55, 56, 57, 48, 49, 50, 51, 52, 53, 54, 55, 56, 57, 48, 49], [127], [126]] _ (hc1.below ((Below.refl _ _).alloc (Nat.le_refl _) _)) (Rd1_lit (b := w1.heap.size) _ (heap_alloc_new w1 _) rfl rfl) (Apart_new hlt1) (by simp) (by simp)).mono ?_
    rintro e w2 ⟨t, rfl, ht, hc2, hg2⟩
    have hl : ∀ x ∈ ([[], [47], [97, 47], [47, 97], [97, 47, 47, 98], [65], [97, 98, 99, 100, 101, 102, 103, 104, 105, 106, 107, 108], [97, 98, 99, 100, 101, 102, 103, 104, 105, 106, 107, 108, 109], [97, 32, 98], [97, 34, 98], [92], [120, 40, 121], [0], [49, 50, 51, 52, 53, 54, 55, 56, 57, 48, 49, 50, 51, 52, 53, 54, 55, 56, 57, 48, 49, 50, 51, 52, 53, 54, 55, 56, 57, 48, 49, 50, 51, 52, 53, 54, 55, 56, 57, 48], [49, 50, 51, 52, 53, 54, 55, 56, 57, 48, 49, 50, 51, 52, 53, 54, 55, 56, 57, 48, 49, 50, 51, 52, 53, 54, 55, 56, 57, 48, 49, 50, 51, 52, 53, 54, 55, 56, 57, 48, 49], [127], [126]] : List (List UInt8)), x.length ≤ 41 := by decide
    have htl := hl t ht
    have hg := grown_grown hg1 (grown_grown (World.grownBy_alloc w1 _ (some g)) hg2)
    clear ht hl hg1 hg2 hc1
    go_wp2
    go_ret
    exact ⟨t, rfl, htl, hc2, hg⟩
  · have hb0 : ((x : Int) == 0) = false := by simp; omega
    by_cases h1 : x = 1
    · subst h1
      go_wp2_with fail
      refine (l1Below_any g code _ 4 (by omega) _ hc1 (by omega) (by omega)).mono ?_
      rintro e w2 ⟨y, rfl, hy, hc2, hg2⟩
      go_wp2_with fail
      refine (l1Bytes_any g code y _ hc2 (by omega)).mono ?_
      rintro e w3 ⟨v3, l, rfl, hll, ho3, hc3, hg3⟩
      have hback := conv_own (P := Try.prog) 22 9 5 ho3 hll Try.underlying22 Try.underlying5 Try.underlying9
      have HL := Lib.hid hll
      have hg := grown_grown hg1 (grown_grown hg2 hg3)
      clear hll ho3 hg1 hg2 hg3 hc1 hc2
      go_wp2
      go_ret
      exact ⟨l, rfl, by rw [HL.out]; omega, hc3, hg⟩
    · have hb1 : ((x : Int) == 1) = false := by simp; omega
      go_wp2_with fail
      refine (l2Name_any g code _ hc1).mono ?_
      rintro e w2 ⟨t, rfl, htl, hc2, hg2⟩
      have hg := grown_grown hg1 hg2
      clear hg1 hg2 hc1
      go_wp2
      go_ret
      exact ⟨t, rfl, htl, hc2, hg⟩

theorem DrawQuote_any (v : Value) (code : List UInt8) (w : World) (hr : Rd1 bv w v code) (hl : code.length ≤ 1048576) :
    Calls Try.prog 12 #[v] w fun e w' => TextPost 41 w e w' := by
  have HR := Lib.hid hr
  clear hr
  go_enter Try.func12, Try.ntmps12
  go_wp2_with fail
  refine (l1New_any v code _ HR.out hl).mono ?_
  rintro e w1 ⟨g, rfl, hg, hc1, hb1⟩
  go_wp2_with fail
  refine (l2Any_any g code _ hc1).mono ?_
  rintro e w2 ⟨t, rfl, htl, hc2, hg2⟩
  have hb2 := below_cur hb1 hg2 hb1.size hg
  clear hb1 hg2 hc1
  go_wp2
  go_ret
  exact ⟨t, rfl, htl, hb2⟩

def TwoTexts (n : Nat) (w : World) (e : Ending) (w' : World) : Prop := ∃ t u : List UInt8, e = .returned (.tuple #[sv t, sv u]) ∧ t.length ≤ n ∧ u.length ≤ n ∧ Below w.heap.size w w'

theorem DrawUnder_any (v : Value) (code : List UInt8) (w : World) (hr : Rd1 bv w v code) (hl : code.length ≤ 1048576) :
    Calls Try.prog 18 #[v] w fun e w' => TwoTexts 41 w e w' := by
  have HR := Lib.hid hr
  clear hr
  go_enter Try.func18, Try.ntmps18
  go_wp2_with fail
  refine (l1New_any v code _ HR.out hl).mono ?_
  rintro e w1 ⟨g, rfl, hg, hc1, hb1⟩
  go_wp2_with fail
  refine (l2Any_any g code _ hc1).mono ?_
  rintro e w2 ⟨t, rfl, htl, hc2, hg2⟩
  have hb2 := below_cur hb1 hg2 hb1.size hg
  go_wp2_with fail
  refine (l2Any_any g code _ hc2).mono ?_
  rintro e w3 ⟨u, rfl, hul, hc3, hg3⟩
  have hb3 := below_cur hb2 hg3 hb2.size hg
  clear hb1 hb2 hg2 hg3 hc1 hc2 hc3
  go_wp2
  go_ret2
  exact ⟨t, u, rfl, htl, hul, hb3⟩

def TextAt (n : Nat) (w : World) (e : Ending) (w' : World) : Prop := ∃ (t : List UInt8) (a : Int), e = .returned (.tuple #[sv t, .int .i64 a]) ∧ t.length ≤ n ∧ Below w.heap.size w w'

set_option maxRecDepth 20000 in
set_option maxHeartbeats 800000 in
theorem DrawUnquote_any (v : Value) (code : List UInt8) (w : World) (hr : Rd1 bv w v code) (hl : code.length ≤ 1048576) :
    Calls Try.prog 16 #[v] w fun e w' => TextAt 1048576 w e w' := by
  have HR := Lib.hid hr
  clear hr
  go_enter Try.func16, Try.ntmps16
  go_wp2_with fail
  refine (l1New_any v code _ HR.out hl).mono ?_
  rintro e w1 ⟨g, rfl, hg, hc1, hb1⟩
  have hz1 := hb1.size
  have hlt1 := hc1.lt
  go_wp2_with fail
  refine (l1Pick_any g code _ [[], [120], [34]] _ (hc1.below ((Below.refl _ _).alloc (Nat.le_refl _) _)) (Rd1_lit (b := w1.heap.size) _ (heap_alloc_new w1 _) rfl rfl) (Apart_new hlt1) (by simp) (by simp)).mono ?_
  rintro e w2 ⟨h, rfl, hh, hc2, hg2⟩
  have hb2 := below_cur (hb1.alloc hz1 _) hg2 (by simp; omega) hg
  have hhl : h.length ≤ 1 := by simp at hh; rcases hh with rfl | rfl | rfl <;> simp
  clear hh hc1 hb1 hg2
  go_wp2_with fail
  refine (l2Any_any g code _ hc2).mono ?_
  rintro e w3 ⟨t, rfl, htl, hc3, hg3⟩
  have hb3 := below_cur hb2 hg3 hb2.size hg
  have hsz : (ByteArray.mk t.toArray).size ≤ maxLen := by show t.toArray.size ≤ _; unfold maxLen; simp; omega
  clear hb2 hg3 hc2
  go_wp2_with fail
  refine (specQuote_any ⟨t.toArray⟩ _ hsz).mono ?_
  rintro e w4 ⟨rfl, hb4⟩
  have hc4 := hc3.below hb4
  have hb5 := hb3.trans (hb4.mono hb3.size)
  have hql := quoteL_le t
  clear hb3 hb4 hc3 hsz
  have hz5 := hb5.size
  have hlt4 := hc4.lt
  rw [show (ByteArray.mk t.toArray).data.toList = t from rfl]
  generalize quoteL t = q at *
  go_wp2_with fail
  refine (l1Turned_any g code _ q [[34], [92], [120], [1]] _ (hc4.below ((Below.refl _ _).alloc (Nat.le_refl _) _)) (Rd1_lit (b := w4.heap.size) _ (heap_alloc_new w4 _) rfl rfl) (Apart_new hlt4) (by simp) (by simp) 1000 (by omega) (by omega) (by simp)).mono ?_
  rintro e w5 ⟨u, rfl, hul, hc5, hg5⟩
  have hb6 := below_cur (hb5.alloc hz5 _) hg5 (by simp; omega) hg
  clear hc4 hg5 hb5 hz5 hlt4
  have hz6 := hb6.size
  have hlt5 := hc5.lt
  have hhz : (ByteArray.mk h.toArray).size = h.length := by show h.toArray.size = _; simp
  have huz : (ByteArray.mk u.toArray).size = u.length := by show u.toArray.size = _; simp
  go_wp2_with fail
  refine (l1Pick_any g code _ [[], [121]] _ (hc5.below ((Below.refl _ _).alloc (Nat.le_refl _) _)) (Rd1_lit (b := w5.heap.size) _ (heap_alloc_new w5 _) rfl rfl) (Apart_new hlt5) (by simp) (by simp)).mono ?_
  rintro e w6 ⟨y, rfl, hy, hc6, hg6⟩
  have hb7 := below_cur (hb6.alloc hz6 _) hg6 (by simp; omega) hg
  have hyl : y.length ≤ 1 := by simp at hy; rcases hy with rfl | rfl <;> simp
  have hyz : (ByteArray.mk y.toArray).size = y.length := by show y.toArray.size = _; simp
  clear hy hc5 hb6 hg6 hlt5 hz6
  have hz7 := hb7.size
  have hlt6 := hc6.lt
  obtain ⟨z, hz, hzl⟩ : ∃ z : List UInt8, ((ByteArray.mk h.toArray) ++ (ByteArray.mk u.toArray)) ++ (ByteArray.mk y.toArray) = ⟨z.toArray⟩ ∧ z.length ≤ 3000 := ⟨h ++ u ++ y, by apply ByteArray.ext; simp, by simp; omega⟩
  go_wp2_with fail
  refine (l1PickInt_any g code _ [(h.length : Int), (h.length : Int), (h.length : Int), 0, -1, (z.length : Int), 9223372036854775807] _ (hc6.below ((Below.refl _ _).alloc (Nat.le_refl _) _)) (Rd1_lit (b := w6.heap.size) _ (heap_alloc_new w6 _) rfl rfl) (Apart_new hlt6) (by simp) (by simp)).mono ?_
  rintro e w7 ⟨a, rfl, ha, hc7, hg7⟩
  have hfin := below_cur (hb7.alloc hz7 _) hg7 (by simp; omega) hg
  clear ha hc7 hg7 hb7 hc6 hz
  go_wp2
  go_ret2
  exact ⟨z, a, rfl, by omega, hfin⟩

end Go.Proofs.Yteoalgjmcienjaa
