/-
  The cursor over a draw: what each of its readers leaves. What is drawn stays open.
-/
import Derived.Test.YthihjelcakenpaaSlc
import Derived.Laws.BitsAllLaws
import Derived.Laws.BitsLemmas
namespace Go.Proofs.Ythihjelcakenpaa
open Go.RowKit

theorem and_i64_nat (x : Int) (m : Nat) (hm : m ≤ 1073741823) : 0 ≤ bits .and .i64 x (m : Int) ∧ bits .and .i64 x (m : Int) ≤ m := by
  have h1 : (BitVec.ofInt 64 (m : Int)).toNat = m := by
    rw [BitVec.ofInt_natCast, BitVec.toNat_ofNat]; exact Nat.mod_eq_of_lt (by omega)
  have h2 : bits .and .i64 x (m : Int) = (((BitVec.ofInt 64 x).toNat &&& m : Nat) : Int) := by
    show IntKind.i64.wrap ((BitVec.ofInt 64 x &&& BitVec.ofInt 64 (m : Int)).toNat : Int) = _
    rw [BitVec.toNat_and, h1]
    have : (BitVec.ofInt 64 x).toNat &&& m ≤ m := Nat.and_le_right
    rw [IntKind.wrap_i64]
    omega
  have : (BitVec.ofInt 64 x).toNat &&& m ≤ m := Nat.and_le_right
  rw [h2]
  omega
theorem and255 (x : Int) : 0 ≤ bits .and .i64 x 255 ∧ bits .and .i64 x 255 ≤ 255 := and_i64_nat x 255 (by omega)

/-- Block g is a cursor over the bytes code. -/
structure Cur (w : World) (g : Nat) (code : List UInt8) : Prop where
  ex : ∃ (p : Option Addr) (cap i : Nat) (h : Int), w.cell? ⟨g, 0, none⟩ = some (.slice p code.length cap) ∧ w.cell? ⟨g, 1, none⟩ = some (.int .i64 i) ∧ w.cell? ⟨g, 2, none⟩ = some (.int .i64 h) ∧ i ≤ code.length ∧
    (code = [] ∨ ∃ b off, p = some ⟨b, off, none⟩ ∧ b < g ∧ ∀ j x, code[j]? = some x → w.cell? ⟨b, off + j, none⟩ = some (bv x))
  free : ∀ j, w.frozen? ⟨g, j, none⟩ = false
  few : code.length ≤ 1000000000000000

theorem Cur.lt {w : World} {g : Nat} {code : List UInt8} (h : Cur w g code) : g < w.heap.size := by
  obtain ⟨_, _, _, _, h0, _⟩ := h.ex
  exact World.block_lt_of_cell? w _ h0
theorem Cur.of_block {w w' : World} {g : Nat} {code : List UInt8} (h : Cur w g code) (hb : ∀ k, k < w.heap.size → w'.heap[k]? = w.heap[k]?) : Cur w' g code := by
  obtain ⟨p, cap, i, hh, h0, h1, h2, h3, h4⟩ := h.ex
  have hg := h.lt
  refine ⟨⟨p, cap, i, hh, (World.cell?_of_block (hb g hg)).trans h0, (World.cell?_of_block (hb g hg)).trans h1, (World.cell?_of_block (hb g hg)).trans h2, h3, ?_⟩, fun j => (World.frozen?_of_block (hb g hg)).trans (h.free j), h.few⟩
  rcases h4 with h4 | ⟨b, off, e1, e2, e4⟩
  · exact .inl h4
  · exact .inr ⟨b, off, e1, e2, fun j x hx => (World.cell?_of_block (hb b (by omega))).trans (e4 j x hx)⟩
theorem Cur.below {w w' : World} {g : Nat} {code : List UInt8} (h : Cur w g code) (hb : Below w.heap.size w w') : Cur w' g code := h.of_block hb.block
/-- Behind a change of younger blocks alone. -/
theorem Cur.grown {w w' : World} {g : Nat} {code : List UInt8} {row : Option Nat} (h : Cur w g code) (hg : w.grownBy w' row) (hr : ∀ k, row = some k → g < k) : Cur w' g code := by
  obtain ⟨p, cap, i, hh, h0, h1, h2, h3, h4⟩ := h.ex
  have hlt := h.lt
  have hb : ∀ k, k ≤ g → w'.heap[k]? = w.heap[k]? := fun k hk => hg.block k (by omega) (fun e => by have := hr k e.symm; omega)
  have hgb := hb g (Nat.le_refl _)
  refine ⟨⟨p, cap, i, hh, (World.cell?_of_block (a := ⟨g, 0, none⟩) hgb).trans h0, (World.cell?_of_block (a := ⟨g, 1, none⟩) hgb).trans h1, (World.cell?_of_block (a := ⟨g, 2, none⟩) hgb).trans h2, h3, ?_⟩, fun j => (World.frozen?_of_block (a := ⟨g, j, none⟩) hgb).trans (h.free j), h.few⟩
  rcases h4 with h4 | ⟨b, off, e1, e2, e4⟩
  · exact .inl h4
  · exact .inr ⟨b, off, e1, e2, fun j x hx => (World.cell?_of_block (a := ⟨b, off + j, none⟩) (hb b (by omega))).trans (e4 j x hx)⟩

theorem grown_setCell {w w' : World} {g : Nat} (h : w.grownBy w' (some g)) (j : Nat) (v : Value) : w.grownBy (w'.setCell ⟨g, j, none⟩ v) (some g) :=
  ⟨h.os, h.tape, h.output, by simpa [World.setCell] using h.size, fun k hk hne => (Below.heap_setCell w' _ _ k (by intro e; subst e; exact hne rfl)).trans (h.block k hk hne)⟩
theorem grown_drew {w w' : World} {row : Option Nat} (h : w.grownBy w' row) : w.grownBy w'.drew row := ⟨h.os, h.tape, h.output, h.size, h.block⟩

theorem addr_ne {b o o' : Nat} (h : o ≠ o') : (⟨b, o, none⟩ : Addr) ≠ ⟨b, o', none⟩ := by intro e; injection e with _ e2; exact h e2
theorem addr_ne' {b b' o o' : Nat} (h : b ≠ b') : (⟨b, o, none⟩ : Addr) ≠ ⟨b', o', none⟩ := by intro e; injection e with e1; exact h e1
theorem size_setCell (w : World) (a : Addr) (v : Value) : (w.setCell a v).heap.size = w.heap.size := by simp [World.setCell]

theorem Cur.setH {w : World} {g : Nat} {code : List UInt8} (hc : Cur w g code) (h' : Int) : Cur (w.setCell ⟨g, 2, none⟩ (.int .i64 h')) g code := by
  obtain ⟨p, cap, i, hh, h0, h1, h2, h3, h4⟩ := hc.ex
  refine ⟨⟨p, cap, i, h', (World.cell?_setCell_other w _ _ _ (addr_ne (by omega))).trans h0, (World.cell?_setCell_other w _ _ _ (addr_ne (by omega))).trans h1, World.cell?_setCell_same w _ _ h2, h3, ?_⟩, fun j => by simpa using hc.free j, hc.few⟩
  rcases h4 with h4 | ⟨b, off, e1, e2, e4⟩
  · exact .inl h4
  · exact .inr ⟨b, off, e1, e2, fun j x hx => (World.cell?_setCell_other w _ _ _ (addr_ne' (by omega))).trans (e4 j x hx)⟩
theorem Cur.setI {w : World} {g : Nat} {code : List UInt8} (hc : Cur w g code) (i' : Nat) (hi : i' ≤ code.length) : Cur (w.setCell ⟨g, 1, none⟩ (.int .i64 i')) g code := by
  obtain ⟨p, cap, i, hh, h0, h1, h2, h3, h4⟩ := hc.ex
  refine ⟨⟨p, cap, i', hh, (World.cell?_setCell_other w _ _ _ (addr_ne (by omega))).trans h0, World.cell?_setCell_same w _ _ h1, (World.cell?_setCell_other w _ _ _ (addr_ne (by omega))).trans h2, hi, ?_⟩, fun j => by simpa using hc.free j, hc.few⟩
  rcases h4 with h4 | ⟨b, off, e1, e2, e4⟩
  · exact .inl h4
  · exact .inr ⟨b, off, e1, e2, fun j x hx => (World.cell?_setCell_other w _ _ _ (addr_ne' (by omega))).trans (e4 j x hx)⟩
theorem Cur.drew {w : World} {g : Nat} {code : List UInt8} (hc : Cur w g code) : Cur w.drew g code := ⟨hc.ex, hc.free, hc.few⟩

def BytePost (g : Nat) (code : List UInt8) (w : World) (e : Ending) (w' : World) : Prop := ∃ x : Nat, e = .returned (.int .i64 x) ∧ x ≤ 255 ∧ Cur w' g code ∧ w.grownBy w' (some g)
theorem BytePost.mk {g : Nat} {code : List UInt8} {w w' : World} {v : Int} (h0 : 0 ≤ v) (h1 : v ≤ 255) (hc : Cur w' g code) (hg : w.grownBy w' (some g)) : BytePost g code w (.returned (.int .i64 v)) w' :=
  ⟨v.toNat, by rw [Int.toNat_of_nonneg h0], by omega, hc, hg⟩

set_option maxHeartbeats 800000 in
theorem l1Byte_any (g : Nat) (code : List UInt8) (w : World) (hc : Cur w g code) :
    Calls Try.prog 65 #[.pointer (some ⟨g, 0, none⟩)] w fun e w' => BytePost g code w e w' := by
  obtain ⟨p0, cap0, i0, hh0, h0, h1, h2, h3, h4⟩ := hc.ex
  have hf := hc.few
  have f2 := hc.free 2
  have HC := Lib.hid hc
  clear h4 hc h0 h1 h3
  go_enter Try.func65, Try.ntmps65
  go_wp2
  generalize wrap64 (wrap64 (hh0 * 6364136223846793005) + 1442695040888963407) = hv
  have hc1 := HC.out.setH hv
  have hg1 : w.grownBy (w.setCell ⟨g, 2, none⟩ (.int .i64 hv)) (some g) := grown_setCell (World.grownBy.refl _ _) 2 _
  generalize w.setCell ⟨g, 2, none⟩ (.int .i64 hv) = w1 at *
  clear h2 f2 HC
  obtain ⟨p, cap, i, hh, h0, h1, h2, h3, h4⟩ := hc1.ex
  have f1 := hc1.free 1
  have H4 := Lib.hid h4
  have HC := Lib.hid hc1
  clear h4 hc1
  refine ord_start [(0, true), (1, true), (2, true), (3, true), (4, true), (5, true), (6, true), (7, true), (8, true), (9, true), (10, true), (11, true), (12, true)] (fun W => W.cell? ⟨g, 2, none⟩ = some (.int .i64 hh)) (by kernel_rfl) (by kernel_rfl) rfl (by kernel_rfl) ?_
  intro ops' hops
  clear hops
  simp only [List.map_cons, List.map_nil, pickOp_zero, pickOp_succ]
  iterate 13 (refine ord_flo ?_ (fun _ _ _ h => h) rfl ?_ h2 ?_; rotate_left; focus (intro W hS; obtain s1 := hS; go_simp; rfl))
  refine ord_done ?_
  go_simp
  generalize hx : bits BinOp.and IntKind.i64 _ 255 = x
  have hx0 : 0 ≤ x ∧ x ≤ 255 := by rw [← hx]; exact and255 _
  obtain ⟨hx1, hx2⟩ := hx0
  clear hx
  go_wp2
  refine ord_start [(0, true), (1, true), (2, true), (3, true), (4, true), (5, true), (6, true), (7, true), (8, true), (9, true)] (fun W => W.cell? ⟨g, 0, none⟩ = some (.slice p code.length cap) ∧ W.cell? ⟨g, 1, none⟩ = some (.int .i64 i)) (by kernel_rfl) (by kernel_rfl) rfl (by kernel_rfl) ?_
  intro ops' hops
  clear hops
  simp only [List.map_cons, List.map_nil, pickOp_zero, pickOp_succ]
  iterate 10 (refine ord_flo ?_ (fun _ _ _ h => h) rfl ?_ ⟨h0, h1⟩ ?_; rotate_left; focus (intro W hS; obtain ⟨s1, s2⟩ := hS; go_simp; rfl))
  refine ord_done ?_
  go_simp
  by_cases hlt : i < code.length
  · obtain ⟨b, off, rfl, hb1, hcell⟩ := H4.out.resolve_left (by intro h; subst h; simp at hlt)
    obtain ⟨y, hy⟩ : ∃ y, code[i]? = some y := ⟨_, List.getElem?_eq_getElem hlt⟩
    have e1 : w1.cell? ⟨b, off + i, none⟩ = some (.int .u8 (y.toNat : Int)) := hcell i y hy
    have hy2 : y.toNat < 256 := y.toNat_lt
    clear hcell hy H4 h2
    go_wp2
    refine ord_start [(0, true), (1, true), (2, true), (3, true), (4, true), (5, true), (6, true), (7, true), (8, true), (9, true), (10, true), (11, true), (12, true), (13, true), (14, true)] (fun W => W.cell? ⟨g, 0, none⟩ = some (.slice (some ⟨b, off, none⟩) code.length cap) ∧ W.cell? ⟨g, 1, none⟩ = some (.int .i64 i) ∧ W.cell? ⟨b, off + i, none⟩ = some (.int .u8 (y.toNat : Int))) (by kernel_rfl) (by kernel_rfl) rfl (by kernel_rfl) ?_
    intro ops' hops
    clear hops
    simp only [List.map_cons, List.map_nil, pickOp_zero, pickOp_succ]
    iterate 15 (refine ord_flo ?_ (fun _ _ _ h => h) rfl ?_ ⟨h0, h1, e1⟩ ?_; rotate_left; focus (intro W hS; obtain ⟨s1, s2, s3⟩ := hS; go_simp; rfl))
    refine ord_done ?_
    go_simp
    generalize hx : bits BinOp.and IntKind.i64 _ 255 = x'
    have hx0 : 0 ≤ x' ∧ x' ≤ 255 := by rw [← hx]; exact and255 _
    obtain ⟨hx3, hx4⟩ := hx0
    clear hx
    have hcI := Lib.hid (HC.out.setI (i + 1) (by omega))
    have hgI := Lib.hid (grown_setCell hg1 1 (.int .i64 ((i + 1 : Nat) : Int)))
    go_wp2
    go_ret
    exact BytePost.mk hx3 hx4 hcI.out.drew.drew.drew (grown_drew (grown_drew (grown_drew hgI.out)))
  · go_wp2
    go_ret
    exact BytePost.mk hx1 hx2 HC.out.drew.drew (grown_drew (grown_drew hg1))


theorem Rd1.grownG {w w' : World} {g : Nat} {α : Type} {enc : α → Value} {v : Value} {l : List α} (hr : Rd1 enc w v l) (hg : w.grownBy w' (some g)) (hne : ∀ b off c n, v = .slice (some ⟨b, off, none⟩) n c → b ≠ g) : Rd1 enc w' v l := by
  obtain ⟨p, cap, hv, h | ⟨b, off, hp, hlt, hc⟩⟩ := hr.ex
  · exact ⟨p, cap, hv, .inl h⟩
  · subst hp
    have hb := hne b off cap _ hv
    exact ⟨_, cap, hv, .inr ⟨b, off, rfl, Nat.lt_of_lt_of_le hlt hg.size, fun i x hx => (World.cell?_of_block (a := ⟨b, off + i, none⟩) (hg.block b hlt (by intro e; injection e with e; exact hb e))).trans (hc i x hx)⟩⟩

/-- What l1Below hands back: a number below n. -/
def BelowPost (g : Nat) (code : List UInt8) (n : Nat) (w : World) (e : Ending) (w' : World) : Prop := ∃ x : Nat, e = .returned (.int .i64 x) ∧ x < n ∧ Cur w' g code ∧ w.grownBy w' (some g)

set_option maxHeartbeats 800000 in
theorem l1Below_any (g : Nat) (code : List UInt8) (k : Int) (n : Nat) (hk : k = (n : Int)) (w : World) (hc : Cur w g code) (h0 : 0 < n) (h1 : n ≤ 4000000000) :
    Calls Try.prog 55 #[.pointer (some ⟨g, 0, none⟩), .int .i64 k] w fun e w' => BelowPost g code n w e w' := by
  subst hk
  have hl0 : ¬ (n : Int) ≤ 0 := by omega
  have HC := Lib.hid hc
  clear hc
  by_cases hsm : n ≤ 256
  · have hl1 : (n : Int) ≤ 256 := by omega
    go_enter Try.func55, Try.ntmps55
    go_wp2_with fail
    refine (l1Byte_any g code _ HC.out).mono ?_
    rintro e w1 ⟨x, rfl, hx, hc1, hg1⟩
    have hm : ((x : Int)).tmod (n : Int) = ((x % n : Nat) : Int) := by rw [Int.tmod_eq_emod_of_nonneg (by omega)]; omega
    have hne : ¬ (n : Int) = 0 := by omega
    have Hx := Lib.hid (Nat.mod_lt x h0)
    go_wp2
    go_ret
    exact ⟨x % n, rfl, Hx.out, hc1, hg1⟩
  · have hl1 : ¬ (n : Int) ≤ 256 := by omega
    go_enter Try.func55, Try.ntmps55
    go_wp2_with fail
    refine (l1Byte_any g code _ HC.out).mono ?_
    rintro e w1 ⟨x, rfl, hx, hc1, hg1⟩
    go_wp2_with fail
    refine (l1Byte_any g code _ hc1).mono ?_
    rintro e w2 ⟨y, rfl, hy, hc2, hg2⟩
    go_wp2_with fail
    refine (l1Byte_any g code _ hc2).mono ?_
    rintro e w3 ⟨z, rfl, hz, hc3, hg3⟩
    go_wp2_with fail
    refine (l1Byte_any g code _ hc3).mono ?_
    rintro e w4 ⟨q, rfl, hq, hc4, hg4⟩
    have hm : ((x : Int) * 16777216 + (y : Int) * 65536 + (z : Int) * 256 + (q : Int)).tmod (n : Int) = (((x * 16777216 + y * 65536 + z * 256 + q) % n : Nat) : Int) := by
      rw [Int.tmod_eq_emod_of_nonneg (by omega), Int.natCast_emod]
      congr 1
    have hne : ¬ (n : Int) = 0 := by omega
    have Hx := Lib.hid (Nat.mod_lt (x * 16777216 + y * 65536 + z * 256 + q) h0)
    have hg := grown_grown hg1 (grown_grown hg2 (grown_grown hg3 hg4))
    clear hg1 hg2 hg3 hg4 hc1 hc2 hc3
    go_wp2
    go_ret
    exact ⟨_, rfl, Hx.out, hc4, hg⟩

theorem l1Once_any (g : Nat) (code : List UInt8) (k : Int) (n : Nat) (hk : k = (n : Int)) (w : World) (hc : Cur w g code) (h0 : 0 < n) (h1 : n ≤ 4000000000) :
    Calls Try.prog 64 #[.pointer (some ⟨g, 0, none⟩), .int .i64 k] w fun e w' => ∃ b : Bool, e = .returned (.bool b) ∧ Cur w' g code ∧ w.grownBy w' (some g) := by
  have HK := Lib.hid hk
  clear hk
  go_enter Try.func64, Try.ntmps64
  go_wp2_with fail
  refine (l1Below_any g code k n HK.out _ hc h0 h1).mono ?_
  rintro e w1 ⟨x, rfl, hx, hc1, hg1⟩
  go_wp2
  go_ret
  exact ⟨_, rfl, hc1, hg1⟩

/-- The value is a slice whose block is not g. -/
def Apart (v : Value) (g : Nat) : Prop := ∀ b off c n, v = .slice (some ⟨b, off, none⟩) n c → b ≠ g

def PickPost (g : Nat) (code : List UInt8) (l : List (List UInt8)) (w : World) (e : Ending) (w' : World) : Prop := ∃ x, e = .returned (sv x) ∧ x ∈ l ∧ Cur w' g code ∧ w.grownBy w' (some g)

set_option maxHeartbeats 400000 in
theorem l1Pick_any (g : Nat) (code : List UInt8) (v : Value) (l : List (List UInt8)) (w : World) (hc : Cur w g code) (hr : Rd1 sv w v l) (hap : Apart v g) (h0 : 0 < l.length) (h1 : l.length ≤ 4000000000) :
    Calls Try.prog 29 #[.pointer (some ⟨g, 0, none⟩), v] w fun e w' => PickPost g code l w e w' := by
  obtain ⟨p, c, rfl, hp⟩ := hr.ex
  have HR := Lib.hid hr
  have HA := Lib.hid hap
  have HC := Lib.hid hc
  obtain ⟨b, off, rfl, hb1, hcell⟩ := hp.resolve_left (by intro h; subst h; simp at h0)
  clear hr hap hc hcell hp
  go_enter Try.func29, Try.ntmps29
  go_wp2_with fail
  refine (l1Below_any g code _ l.length rfl _ HC.out h0 h1).mono ?_
  rintro e w1 ⟨x, rfl, hx, hc1, hg1⟩
  have hr1 := Rd1.grownG HR.out hg1 HA.out
  obtain ⟨p2, c2, hv2, hp2⟩ := hr1.ex
  obtain ⟨b2, off2, e2, hb2, hcell2⟩ := hp2.resolve_left (by intro h; subst h; simp at h0)
  subst e2
  injection hv2 with e3 e4 e5
  injection e3 with e3
  injection e3 with e6 e7
  subst e6
  subst e7
  obtain ⟨y, hy⟩ : ∃ y, l[x]? = some y := ⟨_, List.getElem?_eq_getElem hx⟩
  have hcy : w1.cell? ⟨b, off + x, none⟩ = some (sv y) := hcell2 x y hy
  have Hy := Lib.hid (List.mem_of_getElem? hy)
  clear hcell2 hy hp2 hr1 e5
  go_wp2
  go_ret
  exact ⟨y, rfl, Hy.out, hc1, hg1⟩

def PickIntPost (g : Nat) (code : List UInt8) (l : List Int) (w : World) (e : Ending) (w' : World) : Prop := ∃ x, e = .returned (.int .i64 x) ∧ x ∈ l ∧ Cur w' g code ∧ w.grownBy w' (some g)

set_option maxHeartbeats 400000 in
theorem l1PickInt_any (g : Nat) (code : List UInt8) (v : Value) (l : List Int) (w : World) (hc : Cur w g code) (hr : Rd1 (Value.int .i64) w v l) (hap : Apart v g) (h0 : 0 < l.length) (h1 : l.length ≤ 4000000000) :
    Calls Try.prog 31 #[.pointer (some ⟨g, 0, none⟩), v] w fun e w' => PickIntPost g code l w e w' := by
  obtain ⟨p, c, rfl, hp⟩ := hr.ex
  have HR := Lib.hid hr
  have HA := Lib.hid hap
  have HC := Lib.hid hc
  obtain ⟨b, off, rfl, hb1, hcell⟩ := hp.resolve_left (by intro h; subst h; simp at h0)
  clear hr hap hc hcell hp
  go_enter Try.func31, Try.ntmps31
  go_wp2_with fail
  refine (l1Below_any g code _ l.length rfl _ HC.out h0 h1).mono ?_
  rintro e w1 ⟨x, rfl, hx, hc1, hg1⟩
  have hr1 := Rd1.grownG HR.out hg1 HA.out
  obtain ⟨p2, c2, hv2, hp2⟩ := hr1.ex
  obtain ⟨b2, off2, e2, hb2, hcell2⟩ := hp2.resolve_left (by intro h; subst h; simp at h0)
  subst e2
  injection hv2 with e3 e4 e5
  injection e3 with e3
  injection e3 with e6 e7
  subst e6
  subst e7
  obtain ⟨y, hy⟩ : ∃ y, l[x]? = some y := ⟨_, List.getElem?_eq_getElem hx⟩
  have hcy : w1.cell? ⟨b, off + x, none⟩ = some (.int .i64 y) := hcell2 x y hy
  have Hy := Lib.hid (List.mem_of_getElem? hy)
  clear hcell2 hy hp2 hr1 e5
  go_wp2
  go_ret
  exact ⟨y, rfl, Hy.out, hc1, hg1⟩

end Go.Proofs.Ythihjelcakenpaa
