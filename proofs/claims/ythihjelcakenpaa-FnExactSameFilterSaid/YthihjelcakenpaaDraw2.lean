/-
  What is drawn: the cursor's making, bytes, turned texts.
-/
import Derived.Test.YthihjelcakenpaaDraw
namespace Go.Proofs.Ythihjelcakenpaa
open Go.RowKit

theorem grown_young {w w1 w2 : World} {row row' : Option Nat} (h : w.grownBy w1 row) (hg : w1.grownBy w2 row') (hr : ∀ k, row' = some k → w.heap.size ≤ k) : w.grownBy w2 row :=
  ⟨hg.os.trans h.os, hg.tape.trans h.tape, hg.output.trans h.output, Nat.le_trans h.size hg.size, fun k hk hne => (hg.block k (Nat.lt_of_lt_of_le hk h.size) (fun e => by have := hr k e.symm; omega)).trans (h.block k hk hne)⟩
theorem grown_of_below {w w1 : World} {row : Option Nat} (h : Below w.heap.size w w1) : w.grownBy w1 row := ⟨h.os, h.tape, h.output, h.size, fun k hk _ => h.block k hk⟩
/-- A cursor that was made since: its changes are none of the old memory. -/
theorem below_cur {W w w1 : World} {g B : Nat} (h : Below B W w) (hg : w.grownBy w1 (some g)) (hB : B ≤ w.heap.size) (hgB : B ≤ g) : Below B W w1 := h.grown hg hB (fun k hk => by injection hk with hk; omega)

theorem and_big (x : Int) : 0 ≤ bits .and .i64 x 1073741823 ∧ bits .and .i64 x 1073741823 ≤ 2000000000 := by
  obtain ⟨h1, h2⟩ := and_i64_nat x 1073741823 (by omega)
  exact ⟨h1, Int.le_trans h2 (by omega)⟩

set_option maxRecDepth 20000 in
set_option maxHeartbeats 400000 in
theorem l1New_any (v : Value) (code : List UInt8) (w : World) (hr : Rd1 bv w v code) (hl : code.length ≤ 1048576) :
    Calls Try.prog 27 #[v] w fun e w' => ∃ g, e = .returned (.pointer (some ⟨g, 0, none⟩)) ∧ w.heap.size ≤ g ∧ Cur w' g code ∧ Below w.heap.size w w' := by
  obtain ⟨p, c, rfl, hp⟩ := hr.ex
  have HP := Lib.hid hp
  clear hp hr
  go_enter Try.func27, Try.ntmps27
  go_wp2
  go_loopw [3, 4] (fun h i wr => ∃ (k : Nat) (hv : Int), k ≤ code.length ∧ i = .int .i64 k ∧ h = .int .i64 hv ∧ 0 ≤ hv ∧ hv ≤ 2000000000 ∧ Below w.heap.size w wr) (fun _ i _ => code.length - (intOf i).toNat)
  case atStart => exact ⟨0, _, by omega, rfl, rfl, by omega, by omega, Below.refl _ _⟩
  case round =>
    obtain ⟨k, hv, hk, rfl, rfl, h0, h1, hbr⟩ := hrel
    have hbr0 := hbr.size
    by_cases hlt : k < code.length ∧ k < 4000
    · obtain ⟨hl1, hl2⟩ := hlt
      obtain ⟨b, off, rfl, hb1, hcell⟩ := HP.out.resolve_left (by intro h; subst h; simp at hl1)
      obtain ⟨y, hy⟩ : ∃ y, code[k]? = some y := ⟨_, List.getElem?_eq_getElem hl1⟩
      have e1 : wr.cell? ⟨b, off + k, none⟩ = some (.int .u8 (y.toNat : Int)) := (hbr.cell (p := ⟨b, off + k, none⟩) hb1).trans (hcell k y hy)
      have hy2 : y.toNat < 256 := y.toNat_lt
      clear hcell hy HP
      go_wp2
      go_roundw
      case rel => exact ⟨k + 1, _, by omega, by go_num, rfl, (and_big _).1, (and_big _).2, hbr⟩
      case measure => simp [intOf]; omega
    · have hfin : ∀ (W : World), Below w.heap.size w W → w.heap.size ≤ W.heap.size → Cur (W.alloc (.cells #[.slice p code.length c, .int .i64 ((0 : Nat) : Int), .int .i64 hv] 82)) W.heap.size code := by
        intro W hW hs
        refine ⟨⟨p, c, 0, hv, by simp [go_sem], by simp [go_sem], by simp [go_sem], by omega, ?_⟩, fun j => by simp [go_sem], by omega⟩
        rcases HP.out with h | ⟨b, off, e1, e2, e3⟩
        · exact .inl h
        · refine .inr ⟨b, off, e1, by omega, fun j x hx => ?_⟩
          rw [World.cell?_alloc_lt W _ _ (by show b < W.heap.size; omega)]
          exact (hW.cell (p := ⟨b, off + j, none⟩) e2).trans (e3 j x hx)
      have HF := Lib.hid hfin
      have hq : ¬ ((k : Int) < (code.length : Int)) ∨ (k : Int) < (code.length : Int) ∧ ¬ (k : Int) < 4000 := by omega
      clear hfin hlt
      rcases hq with hq | ⟨hq, hq2⟩
      all_goals
        go_wp2
        go_ret
        exact ⟨wr.heap.size, rfl, hbr0, HF.out wr hbr hbr0, hbr.alloc hbr0 _⟩

def BytesPost (g : Nat) (code : List UInt8) (n : Nat) (w : World) (e : Ending) (w' : World) : Prop := ∃ (v : Value) (l : List UInt8), e = .returned v ∧ l.length = n ∧ w'.ownsRow w.heap.size 5 1 v n (l.map bv) ∧ Cur w' g code ∧ w.grownBy w' (some g)

set_option maxHeartbeats 800000 in
theorem l1Bytes_any (g : Nat) (code : List UInt8) (n : Nat) (w : World) (hc : Cur w g code) (hn : n ≤ 1000000) :
    Calls Try.prog 66 #[.pointer (some ⟨g, 0, none⟩), .int .i64 n] w fun e w' => BytesPost g code n w e w' := by
  have hg0 := hc.lt
  go_enter Try.func66, Try.ntmps66
  go_wp2
  go_loopw [5, 6] (fun v i wr => ∃ (k : Nat) (l : List UInt8), k ≤ n ∧ i = .int .i64 k ∧ l.length = k ∧ wr.ownsRow w.heap.size 5 1 v k (l.map bv) ∧ Cur wr g code ∧ w.grownBy wr (some g)) (fun _ i _ => n - (intOf i).toNat)
  case atStart => exact ⟨0, [], by omega, rfl, rfl, by simpa using World.ownsRow_made w #[] 0 (Nat.le_refl _) (by unfold maxLen; omega) rfl, hc.grown (World.grownBy_alloc w _ none) (fun k hk => by cases hk), World.grownBy_alloc w _ _⟩
  case round =>
    obtain ⟨k, l, hk, rfl, hlen, hown, hcr, hgr⟩ := hrel
    have hz := hgr.size
    have HL := Lib.hid hlen
    clear hlen hc
    by_cases hlt : k < n
    · go_wp2_with fail
      refine (l1Byte_any g code _ hcr).mono ?_
      rintro e w1 ⟨x, rfl, hx, hc1, hg1⟩
      have hz1 := hg1.size
      have ho1 : w1.ownsRow w.heap.size 5 1 u5 k (l.map bv) := hown.kept hg1 (by
        by_cases hv1 : u5.ownBlock = none
        · exact .inl hv1
        · right
          intro e
          have q2 := (hown.lt g e).1
          omega)
      have hgw := grown_grown hgr hg1
      clear hown hcr hgr hg1
      go_wp2_with (at_builtin; refine wpList_app1 Try.el_u8 rfl (.tmp 13) (.tmp 17) rfl w1 w1 u5 k _ rfl ho1 (Below.refl _ _) (by omega) _ (.inr rfl) 1 1 rfl rfl (by simp [Value.oneCell']) (by omega) (by omega) (by omega) ?_)
      intro g2 cap w' hown' _ hg2 _ _
      have hlo : ∀ j, u5.ownBlock = some j → w.heap.size ≤ j := fun j hj => (ho1.lt j hj).1
      have hc2 := hc1.grown hg2 (fun j hj => by have := hlo j hj; omega)
      have hgw2 := grown_young hgw hg2 hlo
      clear ho1 hc1 hgw hg2
      go_wp2
      go_roundw
      case rel =>
        refine ⟨k + 1, l ++ [UInt8.ofNat x], by omega, by go_num, by rw [List.length_append, HL.out]; rfl, ?_, hc2, hgw2⟩
        rw [List.map_append, List.map_singleton, bv_ofNat (by omega)]
        exact hown'
      case measure => simp [intOf]; omega
    · obtain rfl : k = n := by omega
      go_wp2
      go_ret
      exact ⟨_, l, rfl, HL.out, hown, hcr, hgr⟩


/-- A slice of strings that was just written out. -/
theorem Rd1_lit {α : Type} {enc : α → Value} {W : World} {b n c : Nat} {cs : Array Value} {e : TypeId} (l : List α) (h : W.heap[b]? = some (.cells cs e (0, 0))) (hcs : cs.toList = l.map enc) (hn : l.length = n) : Rd1 enc W (.slice (some ⟨b, 0, none⟩) n c) l := by
  subst hn
  refine ⟨_, c, rfl, .inr ⟨b, 0, rfl, (Array.getElem?_eq_some_iff.1 h).1, fun i x hx => ?_⟩⟩
  rw [Nat.zero_add, cell_of_row W b i cs e (0, 0) h, ← Array.getElem?_toList, hcs, List.getElem?_map, hx]
  rfl
theorem Apart_new {b n c g : Nat} (h : g < b) : Apart (.slice (some ⟨b, 0, none⟩) n c) g := by
  intro b' off c' n' e
  injection e with e
  injection e with e
  injection e with e
  omega


/-- A text was drawn, of at most so many bytes. -/
def TextPost (n : Nat) (w : World) (e : Ending) (w' : World) : Prop := ∃ t : List UInt8, e = .returned (sv t) ∧ t.length ≤ n ∧ Below w.heap.size w w'


theorem big_any (v : Value) (l : List UInt8) (w : World) (hr : Rd1 bv w v l) :
    Calls Try.prog 9 #[v] w fun e w' => e = .returned (.bool (decide ((1048576 : Int) < (l.length : Int)))) ∧ w = w' := by
  obtain ⟨p, c, rfl, _⟩ := hr.ex
  clear hr
  go_enter Try.func9, Try.ntmps9
  go_wp2
  go_ret
  exact ⟨rfl, rfl⟩

end Go.Proofs.Ythihjelcakenpaa
