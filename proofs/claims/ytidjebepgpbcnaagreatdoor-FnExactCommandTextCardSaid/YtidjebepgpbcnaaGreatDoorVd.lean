/-
  Vd: Mx LexG LexI Bld LexO LexK LexL LexP (what the claim needs of them).
-/
import Derived.Test.YtidjebepgpbcnaaGreatDoorRows
import Derived.WalkKit
import Derived.WalkSpells
import Derived.WalkLawsBesides
import Derived.Laws.IdiomStrings
import Derived.Lib.Hide
import Derived.Deep.AppendLies
import Derived.OrdersHeld
import Derived.Lib.ItoaNum
import Derived.Lib.ItoaMem
import Derived.Lib.AppendStr
import Derived.Lib.ItoaLen
import Derived.Lib.Strings
import Derived.Lib.Bytealg
import Derived.Lib.OthersKept
import Derived.Laws.RangeAny
import Derived.Laws.BitsAllLaws
import Derived.Laws.BitsLemmas
import Derived.IntWalk
import Derived.Handy
import Derived.Test.YtidjebepgpbcnaaGreatDoorProg
import Derived.Lib.Builder
import Derived.Lib.Walk
import Derived.Laws.Externs
import Derived.Laws.StructEq
import Derived.WalkSmall
import Derived.WalkMore
import Derived.ScopeJumps
import Derived.Test.YtidjebepgpbcnaaGreatDoorUa
import Derived.Test.YtidjebepgpbcnaaGreatDoorUb
import Derived.Test.YtidjebepgpbcnaaGreatDoorUc
import Derived.Test.YtidjebepgpbcnaaGreatDoorUs

namespace Go.Proofs.YtidjebepgpbcnaaGreatDoor
open Go.RowKit

def Mx (W : World) : Prop := ∃ m, W.cell? ⟨4, 0, none⟩ = some (.int .i64 m)
theorem Mx.below {w w' : World} (h : Mx w) (hb : Below w.heap.size w w') : Mx w' := by
  obtain ⟨m, hm⟩ := h
  exact ⟨m, (hb.cell (p := ⟨4, 0, none⟩) (World.block_lt_of_cell? _ _ hm)).trans hm⟩

end Go.Proofs.YtidjebepgpbcnaaGreatDoor

namespace Go.Proofs.YtidjebepgpbcnaaGreatDoor
open Go.RowKit

def ImplLineOf : Prop := ∀ (v : Value) (l : List Tok) (W : World), Rd 2 tokc W v l → l.length ≤ 1048576 → (∀ t ∈ l, t.text.length ≤ 1048576) →
  Calls Tryz.prog 41 #[v] W fun e w' => e = .returned (sv (lineL l)) ∧ Below W.heap.size W w'

end Go.Proofs.YtidjebepgpbcnaaGreatDoor

namespace Go.Proofs.YtidjebepgpbcnaaGreatDoor
open Go.RowKit

def ImplTokenText : Prop := ∀ (t : Tok) (W : World), t.text.length ≤ 1048576 → Calls Tryz.prog 76 #[tokv t] W fun e w' => e = .returned (sv (tokText t)) ∧ Below W.heap.size W w'

end Go.Proofs.YtidjebepgpbcnaaGreatDoor

namespace Go.Proofs.YtidjebepgpbcnaaGreatDoor
open Go.RowKit

theorem bld_size : (Tryz.prog.info? 94).map (·.size) = some 2 := by kernel_rfl
theorem bld_lies : liesAt Tryz.prog Tryz.prog.depth 94 (2 / Tryz.prog.cellsOf 94) 0 94 1 = true := by kernel_rfl

set_option maxHeartbeats 1000000 in
set_option maxRecDepth 100000 in
theorem copyCheck_used (b : Nat) (w : World) (h0 : w.cell? ⟨b, 0, none⟩ = some (.pointer (some ⟨b, 0, none⟩))) :
    Calls Tryz.prog 107 #[.pointer (some ⟨b, 0, none⟩)] w fun e w' => e = .returned (.tuple #[]) ∧ w' = w := by
  obtain ⟨j, hj, _⟩ := Option.map_eq_some_iff.1 bld_size
  go_enter Tryz.func107, Tryz.ntmps107
  go_wp2
  rw [Lib.run_neq_ptr_same w _ Tryz.underlying92 hj]
  go_wp2
  go_end0
  exact ⟨rfl, rfl⟩

set_option maxHeartbeats 1000000 in
set_option maxRecDepth 100000 in
theorem copyCheck_fresh (b : Nat) (w : World) (h0 : w.cell? ⟨b, 0, none⟩ = some (.pointer none)) (hsh : w.shape? b = some (94, 2)) (hfz : w.frozen? ⟨b, 0, none⟩ = false) :
    Calls Tryz.prog 107 #[.pointer (some ⟨b, 0, none⟩)] w fun e w' => e = .returned (.tuple #[]) ∧ w' = w.setCell ⟨b, 0, none⟩ (.pointer (some ⟨b, 0, none⟩)) := by
  obtain ⟨j, hj, hjs⟩ := Option.map_eq_some_iff.1 bld_size
  go_enter Tryz.func107, Tryz.ntmps107
  go_wp2
  rw [Lib.run_to_unsafe w ⟨b, 0, none⟩ Tryz.underlying92 Tryz.underlying137 hj (by rw [hjs]; decide) hsh (Nat.zero_lt_succ 1)]
  simp only [Result.andThen]
  rw [Oper.upon_value]
  go_wp2
  rw [run_callFunc_extern Tryz.func122 (by kernel_rfl) (by kernel_rfl) (by kernel_rfl) (e := Extern.AbiNoEscape.same) (by kernel_rfl)]
  rw [Lib.run_noEscape]
  simp only [Result.andThen]
  rw [Oper.upon_value]
  go_wp2
  rw [Lib.run_from_unsafe w ⟨b, 0, none⟩ Tryz.underlying137 Tryz.underlying92 hj hsh bld_lies]
  simp only [Result.andThen]
  rw [Oper.upon_value]
  go_wp2
  go_end0
  exact ⟨rfl, rfl⟩

/-- What is neither the builder's own block nor bytes stays. -/
def BldKept (b : Nat) (w w' : World) : Prop := ∀ k cs T, w.heap[k]? = some (.cells cs T (0, 0)) → T ≠ 5 → k ≠ b → w'.heap[k]? = some (.cells cs T (0, 0))
theorem BldKept.refl (b : Nat) (w : World) : BldKept b w w := fun _ _ _ h _ _ => h
theorem BldKept.trans {b : Nat} {w w' w'' : World} (h : BldKept b w w') (h2 : BldKept b w' w'') : BldKept b w w'' := fun k cs T h0 h1 h3 => h2 k cs T (h k cs T h0 h1 h3) h1 h3
theorem BldKept.setCell (b j : Nat) (w : World) (v : Value) : BldKept b w (w.setCell ⟨b, j, none⟩ v) := fun k _ _ h _ hk => (Below.heap_setCell w ⟨b, j, none⟩ v k hk).trans h
theorem BldKept.grown {b B n : Nat} {w w' : World} {v : Value} {xs : List Value} (hown : w.ownsRow B 5 1 v n xs) (hg : w.grownBy w' v.ownBlock) : BldKept b w w' := fun k _ _ h hT _ =>
  (hg.block k (Array.getElem?_eq_some_iff.1 h).1 (fun e => Lib.ownBlock_ne hown h hT e.symm)).trans h
theorem BldKept.cell {b k j : Nat} {cs : Array Value} {T : TypeId} {w w' : World} (h : BldKept b w w') (h0 : w.heap[k]? = some (.cells cs T (0, 0))) (hT : T ≠ 5) (hk : k ≠ b) : w'.cell? ⟨k, j, none⟩ = cs[j]? := Lib.cell_of_heap (h k cs T h0 hT hk) j

abbrev Bld (B b : Nat) (l : List UInt8) (w : World) : Prop := Lib.IsBuilder 94 5 B b (l.map bv) w

theorem copyCheck_any (B b : Nat) (l : List UInt8) (w : World) (h : Bld B b l w) :
    Calls Tryz.prog 107 #[.pointer (some ⟨b, 0, none⟩)] w fun e w' => e = .returned (.tuple #[]) ∧ Lib.BuilderAt 94 5 B b (.pointer (some ⟨b, 0, none⟩)) (l.map bv) w' ∧ Below B w w' ∧ BldKept b w w' := by
  rcases h with h | h
  · refine (copyCheck_fresh b w h.cell0 h.shape h.frozen0).mono ?_
    rintro e w' ⟨rfl, rfl⟩
    exact ⟨rfl, h.used _, (Below.refl B w).setCell (p := ⟨b, 0, none⟩) h.1 _, BldKept.setCell _ _ _ _⟩
  · refine (copyCheck_used b w h.cell0).mono ?_
    rintro e w' ⟨rfl, rfl⟩
    exact ⟨rfl, h, Below.refl B _, BldKept.refl _ _⟩

/-- Behind what makes new memory, a builder with a new buffer. -/
theorem bld_put {B b : Nat} {v v' : Value} {l : List UInt8} {w : World} (hB : B ≤ b) (hb : w.heap[b]? = some (.cells #[.pointer (some ⟨b, 0, none⟩), v] 94 (0, 0))) (n : Nat) (hn : n = l.length) (hown : w.ownsRow B 5 1 v' n (l.map bv)) :
    Bld B b l (w.setCell ⟨b, 1, none⟩ v') :=
  .inr (Lib.BuilderAt.put hB hb (by rw [List.length_map, ← hn]; exact hown) (by decide))

set_option maxHeartbeats 1000000 in
set_option maxRecDepth 100000 in
theorem WriteByte_any (B b : Nat) (l : List UInt8) (c : UInt8) (w : World) (h : Bld B b l w) (hl : l.length ≤ 1099511627776) (hB : B ≤ w.heap.size) :
    Calls Tryz.prog 77 #[.pointer (some ⟨b, 0, none⟩), .int .u8 (c.toNat : Int)] w fun e w' => e = .returned .nilIface ∧ Bld B b (l ++ [c]) w' ∧ Below B w w' ∧ BldKept b w w' := by
  have C1 := Lib.hid (fun W (h : Bld B b l W) => copyCheck_any B b l W h)
  go_enter Tryz.func77, Tryz.ntmps77
  go_wp2_with fail
  refine (C1.out _ h).mono ?_
  rintro e w1 ⟨rfl, h1, b1, ap1⟩
  obtain ⟨hBb, v, hbk, hown, hne⟩ := h1
  have c0 : w1.cell? ⟨b, 0, none⟩ = some (.pointer (some ⟨b, 0, none⟩)) := by rw [Lib.cell_of_heap hbk]; rfl
  have c1 : w1.cell? ⟨b, 1, none⟩ = some v := by rw [Lib.cell_of_heap hbk]; rfl
  have hz1 : B ≤ w1.heap.size := by have := b1.size; omega
  have hlt : b < w1.heap.size := by
    rcases Nat.lt_or_ge b w1.heap.size with h' | h'
    · exact h'
    · simp [Array.getElem?_eq_none h'] at hbk
  have HK := Lib.hid hbk
  have HN := Lib.hid hne
  have HL := Lib.hid hlt
  clear h hbk hne C1 hlt
  rw [List.length_map] at hown
  go_wp2_with (at_builtin; refine wpList_app1 Tryz.el_u8 rfl (.tmp 11) (.tmp 13) rfl w w1 v l.length _ rfl hown b1 hz1 _ (.inr rfl) 1 1 rfl rfl (by simp [Value.oneCell']) (by omega) (by omega) (by omega) ?_)
  intro g cap w2 hown2 b2 hg2 _ _
  have hb2 : w2.heap[b]? = some (.cells #[.pointer (some ⟨b, 0, none⟩), v] 94 (0, 0)) := by
    rw [hg2.block b HL.out (fun e => HN.out e.symm)]
    exact HK.out
  have d1 : w2.cell? ⟨b, 1, none⟩ = some v := by rw [Lib.cell_of_heap hb2]; rfl
  have f1 : w2.frozen? ⟨b, 1, none⟩ = false := Lib.frozen_of_heap hb2 1
  have AP := Lib.hid (ap1.trans (BldKept.grown (b := b) hown hg2))
  have HR := Lib.hid (bld_put (l := l ++ [c]) hBb hb2 (l.length + 1) (by simp) (by rw [List.map_append]; exact hown2))
  clear hown hown2 b1 hg2 c0 c1 HK HN hb2 ap1
  go_wp2
  go_ret
  exact ⟨rfl, HR.out, b2.setCell (p := ⟨b, 1, none⟩) hBb _, AP.out.trans (BldKept.setCell _ _ _ _)⟩

set_option maxHeartbeats 1000000 in
set_option maxRecDepth 100000 in
theorem WriteString_any (B b : Nat) (l s : List UInt8) (w : World) (h : Bld B b l w) (hl : l.length ≤ 1099511627776) (hs : s.length ≤ 1099511627776) (hB : B ≤ w.heap.size) :
    Calls Tryz.prog 78 #[.pointer (some ⟨b, 0, none⟩), sv s] w fun e w' => e = .returned (.tuple #[.int .i64 (s.length : Int), .nilIface]) ∧ Bld B b (l ++ s) w' ∧ Below B w w' ∧ BldKept b w w' := by
  have C1 := Lib.hid (fun W (h : Bld B b l W) => copyCheck_any B b l W h)
  have hz : (ByteArray.mk s.toArray).size = s.length := by show s.toArray.size = _; simp
  go_enter Tryz.func78, Tryz.ntmps78
  go_wp2_with fail
  refine (C1.out _ h).mono ?_
  rintro e w1 ⟨rfl, h1, b1, ap1⟩
  obtain ⟨hBb, v, hbk, hown, hne⟩ := h1
  have c0 : w1.cell? ⟨b, 0, none⟩ = some (.pointer (some ⟨b, 0, none⟩)) := by rw [Lib.cell_of_heap hbk]; rfl
  have c1 : w1.cell? ⟨b, 1, none⟩ = some v := by rw [Lib.cell_of_heap hbk]; rfl
  have hz1 : B ≤ w1.heap.size := by have := b1.size; omega
  have hlt : b < w1.heap.size := by
    rcases Nat.lt_or_ge b w1.heap.size with h' | h'
    · exact h'
    · simp [Array.getElem?_eq_none h'] at hbk
  have HK := Lib.hid hbk
  have HN := Lib.hid hne
  have HL := Lib.hid hlt
  clear h hbk hne C1 hlt
  rw [List.length_map] at hown
  go_wp2_with (at_builtin; refine wpList_appS rfl (.tmp 12) (.tmp 13) rfl w v l.length l rfl hown b1 hz1 s rfl (by omega) ?_)
  intro v2 w2 hown2 b2 hg2
  obtain ⟨p2, n2, c2, rfl⟩ : ∃ p n c, v2 = .slice p n c := by
    rcases hown2.2 with ⟨hv, _⟩ | ⟨g, cap, cur, hv, _⟩
    · exact ⟨_, _, _, hv⟩
    · exact ⟨_, _, _, hv⟩
  have hb2 : w2.heap[b]? = some (.cells #[.pointer (some ⟨b, 0, none⟩), v] 94 (0, 0)) := by
    rw [hg2.block b HL.out (fun e => HN.out e.symm)]
    exact HK.out
  have d1 : w2.cell? ⟨b, 1, none⟩ = some v := by rw [Lib.cell_of_heap hb2]; rfl
  have f1 : w2.frozen? ⟨b, 1, none⟩ = false := Lib.frozen_of_heap hb2 1
  have AP := Lib.hid (ap1.trans (BldKept.grown (b := b) hown hg2))
  have HR := Lib.hid (bld_put (l := l ++ s) hBb hb2 (l.length + s.length) (by simp) (by rw [List.map_append]; exact hown2))
  clear hown hown2 b1 hg2 c0 c1 HK HN hb2 ap1
  go_wp2
  go_ret2
  exact ⟨rfl, HR.out, b2.setCell (p := ⟨b, 1, none⟩) hBb _, AP.out.trans (BldKept.setCell _ _ _ _)⟩

theorem Bld.keep {B b : Nat} {l : List UInt8} {w w' : World} (h : Bld B b l w) (hb : Below w.heap.size w w') : Bld B b l w' :=
  h.imp (fun h => ⟨h.1, h.2.imp fun _ k => ⟨(hb.block b (Array.getElem?_eq_some_iff.1 k.1).1).trans k.1, ownsRow_below k.2.1 hb, k.2.2⟩⟩)
    (fun h => ⟨h.1, h.2.imp fun _ k => ⟨(hb.block b (Array.getElem?_eq_some_iff.1 k.1).1).trans k.1, ownsRow_below k.2.1 hb, k.2.2⟩⟩)
theorem bytecells (l : List UInt8) : Lib.byteCells l = l.map bv := by simp [Lib.byteCells]
theorem bldString_any (B b : Nat) (l : List UInt8) (w : World) (h : Bld B b l w) (hB : B ≤ w.heap.size) :
    Calls Tryz.prog 79 #[.pointer (some ⟨b, 0, none⟩)] w fun e w' => e = .returned (sv l) ∧ Below B w w' :=
  Tryz.Builder_String_any B b l w (by rw [bytecells]; exact h) hB

end Go.Proofs.YtidjebepgpbcnaaGreatDoor

namespace Go.Proofs.YtidjebepgpbcnaaGreatDoor
open Go.RowKit
open Go.Lib (decDigits itoa)

theorem implDigits_small (n : Nat) (h : n < 100) (w : World) :
    Calls Tryz.prog 121 #[.int .i64 (n : Int)] w fun e w' => e = .returned (sv (decDigits n)) ∧ w = w' := by
  have C1 := Lib.hid (fun W => Tryz.strconv_Itoa_small n h W)
  go_enter Tryz.func121, Tryz.ntmps121
  go_wp2_with fail
  refine (C1.out _).mono ?_
  rintro e w1 ⟨rfl, rfl⟩
  go_wp2
  go_ret
  exact ⟨rfl, rfl⟩

def strL (l : List UInt8) : List UInt8 := if quoteL l = [] then litL l else quoteL l
set_option maxHeartbeats 800000 in
theorem stringForm_any (l : List UInt8) (w : World) (hl : l.length ≤ 1048576) :
    Calls Tryz.prog 106 #[sv l] w fun e w' => e = .returned (sv (strL l)) ∧ Below w.heap.size w w' := by
  have hz : (ByteArray.mk l.toArray).size = l.length := by show l.toArray.size = _; simp
  have hm : (ByteArray.mk l.toArray).size ≤ maxLen := by unfold maxLen; omega
  have c1 := fun W => implQuote_any ⟨l.toArray⟩ W hm
  rw [show (ByteArray.mk l.toArray).data.toList = l from rfl] at c1
  by_cases hq : quoteL l = []
  · rw [hq] at c1
    have C1 := Lib.hid c1
    clear c1
    by_cases h : 40 < (l.length : Int)
    · have hg := Lib.hid (show strL l = [] by unfold strL litL; rw [if_pos hq, if_neg (by omega)])
      go_enter Tryz.func106, Tryz.ntmps106
      go_wp2_with fail
      refine (C1.out _).mono ?_
      rintro e w1 ⟨rfl, b1⟩
      go_wp2
      go_ret
      exact ⟨by rw [hg.out]; rfl, b1⟩
    · have hg := Lib.hid (show strL l = [123] ++ decDigits l.length ++ [125, 13, 10] ++ l by unfold strL litL; rw [if_pos hq, if_pos (by omega)])
      have hdl := decDigits_length_le l.length (by omega)
      have hdz : (ByteArray.mk (decDigits l.length).toArray).size = (decDigits l.length).length := by show (decDigits l.length).toArray.size = _; simp
      have hcat := Lib.hid (show sv ([123] ++ decDigits l.length ++ [125, 13, 10] ++ l) = .string (((((⟨#[123]⟩ : ByteArray) ++ ⟨(decDigits l.length).toArray⟩) ++ ⟨#[125]⟩) ++ ⟨#[13, 10]⟩) ++ ⟨l.toArray⟩) by unfold sv; congr 1; apply ByteArray.ext; apply Array.ext'; simp)
      have C2 := Lib.hid (fun W => implDigits_small l.length (by omega) W)
      go_enter Tryz.func106, Tryz.ntmps106
      go_wp2_with fail
      refine (C1.out _).mono ?_
      rintro e w1 ⟨rfl, b1⟩
      go_wp2_with fail
      refine (C2.out _).mono ?_
      rintro e w2 ⟨rfl, rfl⟩
      go_wp2
      go_ret
      exact ⟨by rw [hg.out, hcat.out]; rfl, b1⟩
  · have hg := Lib.hid (show strL l = quoteL l by unfold strL; rw [if_neg hq])
    have hqe : (quoteL l).isEmpty = false := by cases hh : quoteL l with | nil => exact absurd hh hq | cons a r => rfl
    have C1 := Lib.hid c1
    clear c1 hq
    go_enter Tryz.func106, Tryz.ntmps106
    go_wp2_with fail
    refine (C1.out _).mono ?_
    rintro e w1 ⟨rfl, b1⟩
    go_wp2
    go_ret
    exact ⟨by rw [hg.out]; rfl, b1⟩

set_option maxHeartbeats 1600000 in
theorem implTokenText_any : ImplTokenText := by
  intro t w hl
  have hz : (ByteArray.mk t.text.toArray).size = t.text.length := by show t.text.toArray.size = _; simp
  have hm : (ByteArray.mk t.text.toArray).size ≤ maxLen := by unfold maxLen; omega
  have c1 := fun W => implAtomOk_any ⟨t.text.toArray⟩ W hm
  have C2 := Lib.hid (fun W => stringForm_any t.text W hl)
  rw [show (ByteArray.mk t.text.toArray).data.toList = t.text from rfl] at c1
  obtain ⟨k, l⟩ := t
  simp only at *
  cases h1 : (k == 1) with
  | true =>
    obtain rfl := beq_iff_eq.1 h1
    have hb0 : Below w.heap.size w (w.alloc (.cells #[.int .i64 1, sv l] 48)) := (Below.refl _ _).alloc (Nat.le_refl _) _
    cases ha : atomB l with
    | true =>
      rw [ha] at c1
      have C1 := Lib.hid c1
      have hg := Lib.hid (show tokText ⟨1, l⟩ = l by simp [tokText, ha])
      clear c1 ha
      go_enter Tryz.func76, Tryz.ntmps76
      go_wp2_with fail
      refine (C1.out _).mono ?_
      rintro e w1 ⟨rfl, b1⟩
      obtain ⟨hc, hf⟩ := new_cells (cs := #[.int .i64 1, sv l]) (e := 48) (by simpa using b1)
      have hc0 := hc 0
      have hc1 := hc 1
      simp only [List.getElem?_toArray, List.getElem?_cons_zero, List.getElem?_cons_succ] at hc0 hc1
      have hb1 := hb0.trans (b1.mono (by simp))
      clear hc hf b1 hb0
      go_wp2
      go_ret
      exact ⟨by rw [hg.out]; rfl, hb1⟩
    | false =>
      rw [ha] at c1
      have C1 := Lib.hid c1
      have hg := Lib.hid (show tokText ⟨1, l⟩ = [] by simp [tokText, ha])
      clear c1 ha
      go_enter Tryz.func76, Tryz.ntmps76
      go_wp2_with fail
      refine (C1.out _).mono ?_
      rintro e w1 ⟨rfl, b1⟩
      obtain ⟨hc, hf⟩ := new_cells (cs := #[.int .i64 1, sv l]) (e := 48) (by simpa using b1)
      have hc0 := hc 0
      have hc1 := hc 1
      simp only [List.getElem?_toArray, List.getElem?_cons_zero, List.getElem?_cons_succ] at hc0 hc1
      have hb1 := hb0.trans (b1.mono (by simp))
      clear hc hf b1 hb0
      go_wp2
      go_ret
      exact ⟨by rw [hg.out]; rfl, hb1⟩
  | false =>
    have n1 : ¬ k = 1 := by simpa using h1
    cases h2 : (k == 2) with
    | true =>
      obtain rfl := beq_iff_eq.1 h2
      have hg := Lib.hid (show tokText ⟨2, l⟩ = strL l by simp [tokText, strL])
      have hb0 : Below w.heap.size w (w.alloc (.cells #[.int .i64 2, sv l] 48)) := (Below.refl _ _).alloc (Nat.le_refl _) _
      clear c1 n1
      go_enter Tryz.func76, Tryz.ntmps76
      go_wp2_with fail
      refine (C2.out _).mono ?_
      rintro e w1 ⟨rfl, b1⟩
      have hb1 := hb0.trans (b1.mono (by simp))
      clear b1 hb0
      go_wp2
      go_ret
      exact ⟨by rw [hg.out]; rfl, hb1⟩
    | false =>
      have n2 : ¬ k = 2 := by simpa using h2
      cases h3 : (k == 3) with
      | true =>
        obtain rfl := beq_iff_eq.1 h3
        clear c1 C2
        by_cases hq : l = []
        · subst hq
          go_enter Tryz.func76, Tryz.ntmps76
          go_wp2
          go_ret
          exact ⟨rfl, (Below.refl _ _).alloc (Nat.le_refl _) _⟩
        · have hg := Lib.hid (show tokText ⟨3, l⟩ = [] by simp [tokText, hq])
          have hqe : l.isEmpty = false := by cases hh : l with | nil => exact absurd hh hq | cons a r => rfl
          clear hq n1 n2
          go_enter Tryz.func76, Tryz.ntmps76
          go_wp2
          go_ret
          exact ⟨by rw [hg.out]; rfl, (Below.refl _ _).alloc (Nat.le_refl _) _⟩
      | false =>
        have n3 : ¬ k = 3 := by simpa using h3
        clear c1 C2
        cases h4 : (k == 4) with
        | true =>
          obtain rfl := beq_iff_eq.1 h4
          by_cases hq : l = []
          · subst hq
            go_enter Tryz.func76, Tryz.ntmps76
            go_wp2
            go_ret
            exact ⟨rfl, (Below.refl _ _).alloc (Nat.le_refl _) _⟩
          · have hg := Lib.hid (show tokText ⟨4, l⟩ = [] by simp [tokText, hq])
            have hqe : l.isEmpty = false := by cases hh : l with | nil => exact absurd hh hq | cons a r => rfl
            clear hq n1 n2 n3
            go_enter Tryz.func76, Tryz.ntmps76
            go_wp2
            go_ret
            exact ⟨by rw [hg.out]; rfl, (Below.refl _ _).alloc (Nat.le_refl _) _⟩
        | false =>
          have n4 : ¬ k = 4 := by simpa using h4
          have hg := Lib.hid (show tokText ⟨k, l⟩ = [] by simp [tokText, n1, n2, n3, n4])
          clear n1 n2 n3 n4
          go_enter Tryz.func76, Tryz.ntmps76
          go_wp2
          go_ret
          exact ⟨by rw [hg.out]; rfl, (Below.refl _ _).alloc (Nat.le_refl _) _⟩

end Go.Proofs.YtidjebepgpbcnaaGreatDoor

namespace Go.Proofs.YtidjebepgpbcnaaGreatDoor
open Go.RowKit

def nsB (o : Option Tok) : Bool := match o with | none => false | some a => a.kind != 3
def wrongB (k : Int) (ns af : Bool) : Bool := if (k == 4) = true then af else ns
/-- What the loop knows: a blank is wanted or not, a blank was just read or not. -/
def LkSt (s : ByteArray) (p : Nat) (ts : List Tok) (n : Nat) (ns af : Bool) (U : Option (List Tok)) : Prop :=
  (af = false ∧ LxSt s.data.toList p ts n U ∧ ns = nsB (lastOr none ts)) ∨
  (af = true ∧ ns = false ∧ ∃ (q : Nat) (h : q < s.size), p = q + 1 ∧ s[q].toNat = 32 ∧ LxSt s.data.toList q ts n U ∧ ∃ a, lastOr none ts = some a ∧ (a.kind != 3) = true)
theorem tkS_blank (b : UInt8) (r : List UInt8) (h : b.toNat = 32) : tkS (b :: r) = none := by
  rw [tkS_cons, if_neg (by omega), if_neg (by omega), if_neg (by omega), if_neg (by omega)]
  refine atomS_no (a := []) ?_ rfl
  rw [List.takeWhile_cons_of_neg]
  simp [atomc, h]
section
variable {s : ByteArray} {p n : Nat} {ts : List Tok} {ns af : Bool} {U : Option (List Tok)}
theorem LkSt.start : LkSt s 0 [] 0 false false (lexL s.data.toList) := .inl ⟨rfl, LxSt.start _, rfl⟩
theorem LkSt.num (h : LkSt s p ts n ns af U) : n = ts.length := by
  rcases h with ⟨_, h, _⟩ | ⟨_, _, _, _, _, _, h, _⟩
  · exact h.1
  · exact h.1
theorem LkSt.end_ok (h : LkSt s p ts n ns false U) (hp : ¬ p < s.size) : U = some ts := by
  rcases h with ⟨_, h, _⟩ | ⟨h, _⟩
  · exact h.done hp
  · cases h
theorem LkSt.end_bad (h : LkSt s p ts n ns true U) (hp : ¬ p < s.size) : U = none := by
  rcases h with ⟨h, _⟩ | ⟨_, _, q, hq, rfl, h32, h, _⟩
  · cases h
  · refine h.bad hq true (decide_eq_true h32) ?_
    show tkS (s.data.toList.drop (q + 1)) = none
    rw [drop_str_end s (q + 1) hp]; rfl
theorem LkSt.space (h : LkSt s p ts n true af U) (hp : p < s.size) (h32 : s[p].toNat = 32) : LkSt s (p + 1) ts n false true U := by
  rcases h with ⟨_, h, hn⟩ | ⟨_, h, _⟩
  · refine .inr ⟨rfl, rfl, p, hp, rfl, h32, h, ?_⟩
    cases hl : lastOr none ts with
    | none => rw [hl] at hn; cases hn
    | some a => rw [hl] at hn; exact ⟨a, rfl, hn.symm⟩
  · cases h
theorem LkSt.no_tok (h : LkSt s p ts n ns af U) (hp : p < s.size) (hno : ¬ (ns = true ∧ s[p].toNat = 32)) (ht : tkS (s.data.toList.drop p) = none) : U = none := by
  rcases h with ⟨_, h, hn⟩ | ⟨_, _, q, hq, rfl, h32, h, _⟩
  · by_cases h32 : s[p].toNat = 32
    · have hnf : ns = false := by cases ns with | false => rfl | true => exact absurd ⟨rfl, h32⟩ hno
      cases hk : tkAt s p true with
      | none => exact h.bad hp true (decide_eq_true h32) hk
      | some x =>
        obtain ⟨t, k⟩ := x
        refine h.unfit hp true (decide_eq_true h32) hk ?_
        rw [hnf] at hn
        cases hl : lastOr none ts with
        | none => rfl
        | some a =>
          rw [hl] at hn
          have : (a.kind != 3) = false := hn.symm
          simp [fitB, gapB, this]
    · exact h.bad hp false (decide_eq_false h32) ht
  · exact h.bad hq true (decide_eq_true h32) ht
theorem LkSt.wrong (h : LkSt s p ts n ns af U) (hp : p < s.size) {t : Tok} {k : Nat} (ht : tkS (s.data.toList.drop p) = some (t, k)) (hw : wrongB t.kind ns af = true) : U = none := by
  have hn32 : ¬ s[p].toNat = 32 := fun e => by rw [drop_str s p hp, tkS_blank _ _ e] at ht; cases ht
  unfold wrongB at hw
  rcases h with ⟨rfl, h, hn⟩ | ⟨rfl, rfl, q, hq, rfl, h32, h, a, ha, hak⟩
  · refine h.unfit hp false (decide_eq_false hn32) ht ?_
    cases h4 : (t.kind == 4) with
    | true => rw [h4] at hw; cases hw
    | false =>
      rw [h4, if_neg (by simp)] at hw
      rw [hw] at hn
      cases hl : lastOr none ts with
      | none => rw [hl] at hn; cases hn
      | some a =>
        rw [hl] at hn
        have : (a.kind != 3) = true := hn.symm
        simp [fitB, gapB, bne, h4]
        simpa using this
  · refine h.unfit hq true (decide_eq_true h32) ht ?_
    cases h4 : (t.kind == 4) with
    | false => rw [h4] at hw; cases hw
    | true => rw [ha]; simp [fitB, gapB, bne, h4]
theorem LkSt.step (h : LkSt s p ts n ns af U) (hp : p < s.size) {t : Tok} {k : Nat} (ht : tkS (s.data.toList.drop p) = some (t, k)) (hw : wrongB t.kind ns af = false) :
    LkSt s (p + k) (ts ++ [t]) (n + 1) (t.kind != 3) false U ∧ 1 ≤ k ∧ p + k ≤ s.size := by
  have hn32 : ¬ s[p].toNat = 32 := fun e => by rw [drop_str s p hp, tkS_blank _ _ e] at ht; cases ht
  have hk := tkS_pos _ _ _ ht
  unfold wrongB at hw
  rcases h with ⟨rfl, h, hn⟩ | ⟨rfl, rfl, q, hq, rfl, h32, h, a, ha, hak⟩
  · have hf : fitB (lastOr none ts) false t = true := by
      cases hl : lastOr none ts with
      | none => rfl
      | some a =>
        rw [hl] at hn
        have hn' : ns = (a.kind != 3) := hn
        cases h4 : (t.kind == 4) with
        | true => simp [fitB, gapB, bne, h4]
        | false =>
          rw [h4, if_neg (by simp), hn'] at hw
          simp [fitB, gapB, hw]
    obtain ⟨h1, h2, h3⟩ := h.step hp false (decide_eq_false hn32) ht hf
    refine ⟨.inl ⟨rfl, h1, ?_⟩, hk.1, h3⟩
    rw [lastOr_snoc]; rfl
  · have hf : fitB (lastOr none ts) true t = true := by
      cases h4 : (t.kind == 4) with
      | true => rw [h4] at hw; cases hw
      | false =>
        have h5 : (t.kind != 4) = true := by simp [bne, h4]
        rw [ha]
        show (true == ((a.kind != 3) && (t.kind != 4))) = true
        rw [hak, h5]; rfl
    obtain ⟨h1, h2, h3⟩ := h.step hq true (decide_eq_true h32) ht hf
    refine ⟨.inl ⟨rfl, h1, ?_⟩, hk.1, h3⟩
    rw [lastOr_snoc]; rfl
end

end Go.Proofs.YtidjebepgpbcnaaGreatDoor

namespace Go.Proofs.YtidjebepgpbcnaaGreatDoor
open Go.RowKit

theorem sep_ns (o : Option Tok) (t : Tok) : sepL o t = if (nsB o && (t.kind != 4)) = true then [32] else [] := by
  cases o with
  | none => rfl
  | some a => rfl
theorem Bld.lt {B b : Nat} {l : List UInt8} {w : World} (h : Bld B b l w) : b < w.heap.size := by
  rcases h with h | h
  · exact h.lt
  · exact h.lt
theorem WriteBlank_any (B b : Nat) (l : List UInt8) (w : World) (h : Bld B b l w) (hl : l.length ≤ 1099511627776) (hB : B ≤ w.heap.size) :
    Calls Tryz.prog 77 #[.pointer (some ⟨b, 0, none⟩), .int .u8 32] w fun e w' => e = .returned .nilIface ∧ Bld B b (l ++ [32]) w' ∧ Below B w w' ∧ BldKept b w w' := WriteByte_any B b l 32 w h hl hB

set_option maxHeartbeats 3200000 in
theorem implLineOf_any : ImplLineOf := by
  intro v l w hr hl hx
  obtain ⟨p, c, rfl, hp⟩ := hr.ex
  have HP := Lib.hid hp
  have HX := Lib.hid hx
  have HB0 := Lib.hid (show Bld w.heap.size w.heap.size [] (w.alloc (.cells #[.pointer none, .slice none 0 0] 94)) from Lib.fresh_isBuilder _ _ w)
  clear hp hr hx
  go_enter Tryz.func41, Tryz.ntmps41
  go_wp2
  go_loopw [4, 10] (fun b i wr => ∃ (k : Nat) (acc : List UInt8) (ns : Bool), k ≤ l.length ∧ i = .int .i64 k ∧ b = .bool ns ∧ LnSt l k acc ∧ ns = nsB (if k = 0 then none else l[k - 1]?) ∧ Bld w.heap.size w.heap.size acc wr ∧ Below w.heap.size w wr) (fun _ i _ => l.length - (intOf i).toNat)
  case atStart => exact ⟨0, [], false, by omega, rfl, rfl, ⟨rfl, rfl, by simp⟩, rfl, HB0.out, (Below.refl _ _).alloc (Nat.le_refl _) _⟩
  case round =>
    obtain ⟨k, acc, ns, hk, rfl, rfl, hst, hns, hbld, hbr⟩ := hrel
    have hbr0 := hbr.size
    have hnl : acc.length ≤ 101 * 1048576 := by have := hst.2.2; omega
    have HS := Lib.hid hst
    have HNS := Lib.hid hns
    have hblt := hbld.lt
    clear hst HB0 hns
    by_cases hlt : k < l.length
    · obtain ⟨b, off, rfl, hb1, hcell⟩ := HP.out.resolve_left (by intro h; subst h; simp at hlt)
      obtain ⟨t, ht⟩ : ∃ t, l[k]? = some t := ⟨_, List.getElem?_eq_getElem hlt⟩
      have e1 : wr.cell? ⟨b, off + k * 2, none⟩ = some (.int .i64 t.kind) := (hbr.cell (p := ⟨b, off + k * 2, none⟩) hb1).trans (hcell k t ht 0 _ rfl)
      have e2 : wr.cell? ⟨b, off + k * 2 + 1, none⟩ = some (sv t.text) := (hbr.cell (p := ⟨b, off + k * 2 + 1, none⟩) hb1).trans (hcell k t ht 1 _ rfl)
      have hlast := last_take l k hk
      have HT := Lib.hid ht
      have c1 := fun W => implTokenText_any t W (HX.out t (List.mem_of_getElem? ht))
      have hle := tokText_le t
      have hbA : Below w.heap.size w (wr.alloc (.cells #[.int .i64 t.kind, sv t.text] 48)) := hbr.alloc hbr0 _
      have hbldA : Bld w.heap.size w.heap.size acc (wr.alloc (.cells #[.int .i64 t.kind, sv t.text] 48)) := hbld.keep ((Below.refl _ _).alloc (Nat.le_refl _) _)
      have hzA : (wr.alloc (.cells #[.int .i64 t.kind, sv t.text] 48)).heap.size = wr.heap.size + 1 := by simp
      have hblkA : (wr.alloc (.cells #[.int .i64 t.kind, sv t.text] 48)).heap[wr.heap.size]? = some (.cells #[.int .i64 t.kind, sv t.text] 48 (0, 0)) := heap_alloc_new wr _
      have HA := Lib.hid hblkA
      have HBA := Lib.hid hbldA
      have HZ := Lib.hid hzA
      clear hcell HP ht hblkA hbldA hzA hbld
      by_cases he : tokText t = []
      · have HV := Lib.hid (line_bad HT.out he)
        rw [he] at c1
        have C1 := Lib.hid c1
        clear c1 he hlast
        go_wp2_with fail
        refine (C1.out _).mono ?_
        rintro e w1 ⟨rfl, b1⟩
        have hb := hbA.trans (b1.mono (by rw [HZ.out]; omega))
        clear hbA b1
        go_wp2
        go_ret
        exact ⟨by rw [HV.out]; rfl, hb⟩
      · have HST := Lib.hid (HS.out.step HT.out he hlast)
        have C1 := Lib.hid c1
        have hqe : (tokText t).isEmpty = false := by cases hh : tokText t with | nil => exact absurd hh he | cons a r => rfl
        have hnx : nsB (if k + 1 = 0 then none else l[k + 1 - 1]?) = (t.kind != 3) := by rw [if_neg (by omega), Nat.add_sub_cancel, HT.out]; rfl
        have HNX := Lib.hid hnx
        clear c1 he hlast hnx
        generalize tokText t = tt at *
        rw [sep_ns] at HST
        rw [← HNS.out] at HST
        cases hsp : (ns && (t.kind != 4)) with
        | true =>
          rw [hsp, if_pos rfl] at HST
          obtain ⟨hs1, hs2⟩ := Bool.and_eq_true_iff.1 hsp
          subst hs1
          have CB := Lib.hid (fun W (h : Bld w.heap.size w.heap.size acc W) (hB : w.heap.size ≤ W.heap.size) => WriteBlank_any w.heap.size w.heap.size acc W h (by omega) hB)
          have CS := Lib.hid (fun W (h : Bld w.heap.size w.heap.size (acc ++ [32]) W) (hB : w.heap.size ≤ W.heap.size) => WriteString_any w.heap.size w.heap.size (acc ++ [32]) tt W h (by simp; omega) (by omega) hB)
          clear hsp
          go_wp2_with fail
          refine (C1.out _).mono ?_
          rintro e w1 ⟨rfl, b1⟩
          have hb := hbA.trans (b1.mono (by rw [HZ.out]; omega))
          have hbld1 := HBA.out.keep b1
          have hblk1 := (b1.block wr.heap.size (by rw [HZ.out]; omega)).trans HA.out
          have k1 : w1.cell? ⟨wr.heap.size, 0, none⟩ = some (.int .i64 t.kind) := (Lib.cell_of_heap hblk1 0).trans rfl
          have H1 := Lib.hid hblk1
          clear b1 C1 hbA HBA e1 e2 HA hblk1
          go_wp2_with fail
          refine (CB.out _ hbld1 hb.size).mono ?_
          rintro e w2 ⟨rfl, hbld2, b2, ap2⟩
          have hb2 := hb.trans b2
          clear hbld1 k1 b2 hb
          go_wp2_with fail
          refine (CS.out _ hbld2 hb2.size).mono ?_
          rintro e w3 ⟨rfl, hbld3, b3, ap3⟩
          have hb3 := hb2.trans b3
          have k3 : w3.cell? ⟨wr.heap.size, 0, none⟩ = some (.int .i64 t.kind) := ((ap2.trans ap3).cell (j := 0) H1.out (by decide) (by omega)).trans rfl
          clear hbld2 hb2 b3 ap2 ap3
          go_wp2
          go_roundw
          case rel => exact ⟨k + 1, acc ++ [32] ++ tt, t.kind != 3, by omega, by go_num, rfl, HST.out, HNX.out.symm, hbld3, hb3⟩
          case measure => simp [intOf]; omega
        | false =>
          rw [hsp, if_neg (by simp), List.append_nil] at HST
          have hor : ns = false ∨ (ns = true ∧ (t.kind != 4) = false) := by
            cases ns with
            | false => exact .inl rfl
            | true => exact .inr ⟨rfl, by simpa using hsp⟩
          have CS := Lib.hid (fun W (h : Bld w.heap.size w.heap.size acc W) (hB : w.heap.size ≤ W.heap.size) => WriteString_any w.heap.size w.heap.size acc tt W h (by omega) (by omega) hB)
          clear hsp
          rcases hor with rfl | ⟨rfl, hs2⟩
          all_goals
            go_wp2_with fail
            refine (C1.out _).mono ?_
            rintro e w1 ⟨rfl, b1⟩
            have hb := hbA.trans (b1.mono (by rw [HZ.out]; omega))
            have hbld1 := HBA.out.keep b1
            have hblk1 := (b1.block wr.heap.size (by rw [HZ.out]; omega)).trans HA.out
            have k1 : w1.cell? ⟨wr.heap.size, 0, none⟩ = some (.int .i64 t.kind) := (Lib.cell_of_heap hblk1 0).trans rfl
            have H1 := Lib.hid hblk1
            clear b1 C1 hbA HBA e1 e2 HA hblk1
            go_wp2_with fail
            refine (CS.out _ hbld1 hb.size).mono ?_
            rintro e w3 ⟨rfl, hbld3, b3, ap3⟩
            have hb3 := hb.trans b3
            have k3 : w3.cell? ⟨wr.heap.size, 0, none⟩ = some (.int .i64 t.kind) := (ap3.cell (j := 0) H1.out (by decide) (by omega)).trans rfl
            clear hbld1 hb b3 ap3 k1
            go_wp2
            go_roundw
            case rel => exact ⟨k + 1, acc ++ tt, t.kind != 3, by omega, by go_num, rfl, HST.out, HNX.out.symm, hbld3, hb3⟩
            case measure => simp [intOf]; omega
    · obtain rfl : k = l.length := by omega
      have hV : lineL l = acc := by
        have h1 := HS.out.1
        have h2 := HS.out.2.1
        rw [List.take_length] at h1 h2
        unfold lineL
        rw [if_pos h2, ← h1]
      have HV := Lib.hid hV
      have CT := Lib.hid (bldString_any w.heap.size w.heap.size acc wr hbld hbr0)
      clear hV hbld
      go_wp2_with fail
      refine (CT.out).mono ?_
      rintro e w2 ⟨rfl, b2⟩
      have hb2 := hbr.trans b2
      go_wp2
      go_ret
      exact ⟨by rw [HV.out]; rfl, hb2⟩

end Go.Proofs.YtidjebepgpbcnaaGreatDoor
