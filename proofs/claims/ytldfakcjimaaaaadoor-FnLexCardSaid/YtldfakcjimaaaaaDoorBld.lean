/-
  strings.Builder where its misuse is cut off: what its methods do to a builder that the call has made itself.
-/
import Derived.Test.YtldfakcjimaaaaaDoorAppS
import Derived.Test.YtldfakcjimaaaaaDoorShelf
import Derived.Lib.Builder
import Derived.Lib.Walk
import Derived.Laws.Externs
namespace Go.Proofs.YtldfakcjimaaaaaDoor
open Go.RowKit

theorem bld_size : (Tryd.prog.info? 49).map (·.size) = some 2 := by kernel_rfl
theorem bld_lies : liesAt Tryd.prog Tryd.prog.depth 49 (2 / Tryd.prog.cellsOf 49) 0 49 1 = true := by kernel_rfl

set_option maxHeartbeats 1000000 in
set_option maxRecDepth 100000 in
theorem copyCheck_used (b : Nat) (w : World) (h0 : w.cell? ⟨b, 0, none⟩ = some (.pointer (some ⟨b, 0, none⟩))) :
    Calls Tryd.prog 44 #[.pointer (some ⟨b, 0, none⟩)] w fun e w' => e = .returned (.tuple #[]) ∧ w' = w := by
  obtain ⟨j, hj, _⟩ := Option.map_eq_some_iff.1 bld_size
  go_enter Tryd.func44, Tryd.ntmps44
  go_wp2
  rw [Lib.run_neq_ptr_same w _ Tryd.underlying47 hj]
  go_wp2
  go_end0
  exact ⟨rfl, rfl⟩

set_option maxHeartbeats 1000000 in
set_option maxRecDepth 100000 in
theorem copyCheck_fresh (b : Nat) (w : World) (h0 : w.cell? ⟨b, 0, none⟩ = some (.pointer none)) (hsh : w.shape? b = some (49, 2)) (hfz : w.frozen? ⟨b, 0, none⟩ = false) :
    Calls Tryd.prog 44 #[.pointer (some ⟨b, 0, none⟩)] w fun e w' => e = .returned (.tuple #[]) ∧ w' = w.setCell ⟨b, 0, none⟩ (.pointer (some ⟨b, 0, none⟩)) := by
  obtain ⟨j, hj, hjs⟩ := Option.map_eq_some_iff.1 bld_size
  go_enter Tryd.func44, Tryd.ntmps44
  go_wp2
  rw [Lib.run_to_unsafe w ⟨b, 0, none⟩ Tryd.underlying47 Tryd.underlying79 hj (by rw [hjs]; decide) hsh (Nat.zero_lt_succ 1)]
  simp only [Result.andThen]
  rw [Oper.upon_value]
  go_wp2
  rw [run_callFunc_extern Tryd.func58 (by kernel_rfl) (by kernel_rfl) (by kernel_rfl) (e := Extern.AbiNoEscape.same) (by kernel_rfl)]
  rw [Lib.run_noEscape]
  simp only [Result.andThen]
  rw [Oper.upon_value]
  go_wp2
  rw [Lib.run_from_unsafe w ⟨b, 0, none⟩ Tryd.underlying79 Tryd.underlying47 hj hsh bld_lies]
  simp only [Result.andThen]
  rw [Oper.upon_value]
  go_wp2
  go_end0
  exact ⟨rfl, rfl⟩

/-- What is neither the builder's own block nor bytes stays. -/
def BldKept (b : Nat) (w w' : World) : Prop := ∀ k cs T, w.heap[k]? = some (.cells cs T (0, 0)) → T ≠ 5 → k ≠ b → w'.heap[k]? = some (.cells cs T (0, 0))
theorem BldKept.refl (b : Nat) (w : World) : BldKept b w w := fun _ _ _ h _ _ => h
theorem BldKept.trans {b : Nat} {w w' w'' : World} (h : BldKept b w w') (h2 : BldKept b w' w'') : BldKept b w w'' := fun k cs T h0 h1 h3 => h2 k cs T (h k cs T h0 h1 h3) h1 h3
theorem BldKept.setCell (b j : Nat) (w : World) (v : Value) : BldKept b w (w.setCell ⟨b, j, none⟩ v) := fun k _ _ h _ hk => (Below.heap_setCell w ⟨b, j, none⟩ v k hk).trans h
theorem BldKept.grown {b B n : Nat} {w w' : World} {v : Value} {xs : List Value} (hown : w.ownsRow B 5 1 v n xs) (hg : w.grownBy w' v.ownBlock) : BldKept b w w' := fun k _ _ h hT _ =>
  (hg.block k (Array.getElem?_eq_some_iff.1 h).1 (fun e => Lib.ownBlock_ne hown h hT e.symm)).trans h
theorem BldKept.cell {b k j : Nat} {cs : Array Value} {T : TypeId} {w w' : World} (h : BldKept b w w') (h0 : w.heap[k]? = some (.cells cs T (0, 0))) (hT : T ≠ 5) (hk : k ≠ b) : w'.cell? ⟨k, j, none⟩ = cs[j]? := Lib.cell_of_heap (h k cs T h0 hT hk) j

abbrev Bld (B b : Nat) (l : List UInt8) (w : World) : Prop := Lib.IsBuilder 49 5 B b (l.map bv) w

theorem copyCheck_any (B b : Nat) (l : List UInt8) (w : World) (h : Bld B b l w) :
    Calls Tryd.prog 44 #[.pointer (some ⟨b, 0, none⟩)] w fun e w' => e = .returned (.tuple #[]) ∧ Lib.BuilderAt 49 5 B b (.pointer (some ⟨b, 0, none⟩)) (l.map bv) w' ∧ Below B w w' ∧ BldKept b w w' := by
  rcases h with h | h
  · refine (copyCheck_fresh b w h.cell0 h.shape h.frozen0).mono ?_
    rintro e w' ⟨rfl, rfl⟩
    exact ⟨rfl, h.used _, (Below.refl B w).setCell (p := ⟨b, 0, none⟩) h.1 _, BldKept.setCell _ _ _ _⟩
  · refine (copyCheck_used b w h.cell0).mono ?_
    rintro e w' ⟨rfl, rfl⟩
    exact ⟨rfl, h, Below.refl B _, BldKept.refl _ _⟩

/-- Behind what makes new memory, a builder with a new buffer. -/
theorem bld_put {B b : Nat} {v v' : Value} {l : List UInt8} {w : World} (hB : B ≤ b) (hb : w.heap[b]? = some (.cells #[.pointer (some ⟨b, 0, none⟩), v] 49 (0, 0))) (n : Nat) (hn : n = l.length) (hown : w.ownsRow B 5 1 v' n (l.map bv)) :
    Bld B b l (w.setCell ⟨b, 1, none⟩ v') :=
  .inr (Lib.BuilderAt.put hB hb (by rw [List.length_map, ← hn]; exact hown) (by decide))

set_option maxHeartbeats 1000000 in
set_option maxRecDepth 100000 in
theorem WriteByte_any (B b : Nat) (l : List UInt8) (c : UInt8) (w : World) (h : Bld B b l w) (hl : l.length ≤ 1099511627776) (hB : B ≤ w.heap.size) :
    Calls Tryd.prog 26 #[.pointer (some ⟨b, 0, none⟩), .int .u8 (c.toNat : Int)] w fun e w' => e = .returned .nilIface ∧ Bld B b (l ++ [c]) w' ∧ Below B w w' ∧ BldKept b w w' := by
  have C1 := Lib.hid (fun W (h : Bld B b l W) => copyCheck_any B b l W h)
  go_enter Tryd.func26, Tryd.ntmps26
  go_wp2_with fail
  refine (C1.out _ h).mono ?_
  rintro e w1 ⟨rfl, h1, b1, ap1⟩
  obtain ⟨hBb, v, hbk, hown, hne⟩ := h1
  have c0 : w1.cell? ⟨b, 0, none⟩ = some (.pointer (some ⟨b, 0, none⟩)) := by rw [Lib.cell_of_heap hbk]; rfl
  have c1 : w1.cell? ⟨b, 1, none⟩ = some v := by rw [Lib.cell_of_heap hbk]; rfl
  have hz1 : B ≤ w1.heap.size := by have := b1.size; omega
  have hlt : b < w1.heap.size := by
    rcases Nat.lt_or_ge b w1.heap.size with h' | h'
    · exact h'
    · simp [Array.getElem?_eq_none h'] at hbk
  have HK := Lib.hid hbk
  have HN := Lib.hid hne
  have HL := Lib.hid hlt
  clear h hbk hne C1 hlt
  rw [List.length_map] at hown
  go_wp2_with (at_builtin; refine wpList_app1 Tryd.el_u8 rfl (.tmp 11) (.tmp 13) rfl w w1 v l.length _ rfl hown b1 hz1 _ (.inr rfl) 1 1 rfl rfl (by simp [Value.oneCell']) (by omega) (by omega) (by omega) ?_)
  intro g cap w2 hown2 b2 hg2 _ _
  have hb2 : w2.heap[b]? = some (.cells #[.pointer (some ⟨b, 0, none⟩), v] 49 (0, 0)) := by
    rw [hg2.block b HL.out (fun e => HN.out e.symm)]
    exact HK.out
  have d1 : w2.cell? ⟨b, 1, none⟩ = some v := by rw [Lib.cell_of_heap hb2]; rfl
  have f1 : w2.frozen? ⟨b, 1, none⟩ = false := Lib.frozen_of_heap hb2 1
  have AP := Lib.hid (ap1.trans (BldKept.grown (b := b) hown hg2))
  have HR := Lib.hid (bld_put (l := l ++ [c]) hBb hb2 (l.length + 1) (by simp) (by rw [List.map_append]; exact hown2))
  clear hown hown2 b1 hg2 c0 c1 HK HN hb2 ap1
  go_wp2
  go_ret
  exact ⟨rfl, HR.out, b2.setCell (p := ⟨b, 1, none⟩) hBb _, AP.out.trans (BldKept.setCell _ _ _ _)⟩

set_option maxHeartbeats 1000000 in
set_option maxRecDepth 100000 in
theorem WriteString_any (B b : Nat) (l s : List UInt8) (w : World) (h : Bld B b l w) (hl : l.length ≤ 1099511627776) (hs : s.length ≤ 1099511627776) (hB : B ≤ w.heap.size) :
    Calls Tryd.prog 27 #[.pointer (some ⟨b, 0, none⟩), sv s] w fun e w' => e = .returned (.tuple #[.int .i64 (s.length : Int), .nilIface]) ∧ Bld B b (l ++ s) w' ∧ Below B w w' ∧ BldKept b w w' := by
  have C1 := Lib.hid (fun W (h : Bld B b l W) => copyCheck_any B b l W h)
  have hz : (ByteArray.mk s.toArray).size = s.length := by show s.toArray.size = _; simp
  go_enter Tryd.func27, Tryd.ntmps27
  go_wp2_with fail
  refine (C1.out _ h).mono ?_
  rintro e w1 ⟨rfl, h1, b1, ap1⟩
  obtain ⟨hBb, v, hbk, hown, hne⟩ := h1
  have c0 : w1.cell? ⟨b, 0, none⟩ = some (.pointer (some ⟨b, 0, none⟩)) := by rw [Lib.cell_of_heap hbk]; rfl
  have c1 : w1.cell? ⟨b, 1, none⟩ = some v := by rw [Lib.cell_of_heap hbk]; rfl
  have hz1 : B ≤ w1.heap.size := by have := b1.size; omega
  have hlt : b < w1.heap.size := by
    rcases Nat.lt_or_ge b w1.heap.size with h' | h'
    · exact h'
    · simp [Array.getElem?_eq_none h'] at hbk
  have HK := Lib.hid hbk
  have HN := Lib.hid hne
  have HL := Lib.hid hlt
  clear h hbk hne C1 hlt
  rw [List.length_map] at hown
  go_wp2_with (at_builtin; refine wpList_appS rfl (.tmp 12) (.tmp 13) rfl w v l.length l rfl hown b1 hz1 s rfl (by omega) ?_)
  intro v2 w2 hown2 b2 hg2
  obtain ⟨p2, n2, c2, rfl⟩ : ∃ p n c, v2 = .slice p n c := by
    rcases hown2.2 with ⟨hv, _⟩ | ⟨g, cap, cur, hv, _⟩
    · exact ⟨_, _, _, hv⟩
    · exact ⟨_, _, _, hv⟩
  have hb2 : w2.heap[b]? = some (.cells #[.pointer (some ⟨b, 0, none⟩), v] 49 (0, 0)) := by
    rw [hg2.block b HL.out (fun e => HN.out e.symm)]
    exact HK.out
  have d1 : w2.cell? ⟨b, 1, none⟩ = some v := by rw [Lib.cell_of_heap hb2]; rfl
  have f1 : w2.frozen? ⟨b, 1, none⟩ = false := Lib.frozen_of_heap hb2 1
  have AP := Lib.hid (ap1.trans (BldKept.grown (b := b) hown hg2))
  have HR := Lib.hid (bld_put (l := l ++ s) hBb hb2 (l.length + s.length) (by simp) (by rw [List.map_append]; exact hown2))
  clear hown hown2 b1 hg2 c0 c1 HK HN hb2 ap1
  go_wp2
  go_ret2
  exact ⟨rfl, HR.out, b2.setCell (p := ⟨b, 1, none⟩) hBb _, AP.out.trans (BldKept.setCell _ _ _ _)⟩

theorem Bld.keep {B b : Nat} {l : List UInt8} {w w' : World} (h : Bld B b l w) (hb : Below w.heap.size w w') : Bld B b l w' :=
  h.imp (fun h => ⟨h.1, h.2.imp fun _ k => ⟨(hb.block b (Array.getElem?_eq_some_iff.1 k.1).1).trans k.1, ownsRow_below k.2.1 hb, k.2.2⟩⟩)
    (fun h => ⟨h.1, h.2.imp fun _ k => ⟨(hb.block b (Array.getElem?_eq_some_iff.1 k.1).1).trans k.1, ownsRow_below k.2.1 hb, k.2.2⟩⟩)
theorem bytecells (l : List UInt8) : Lib.byteCells l = l.map bv := by simp [Lib.byteCells]
theorem bldString_any (B b : Nat) (l : List UInt8) (w : World) (h : Bld B b l w) (hB : B ≤ w.heap.size) :
    Calls Tryd.prog 28 #[.pointer (some ⟨b, 0, none⟩)] w fun e w' => e = .returned (sv l) ∧ Below B w w' :=
  Tryd.Builder_String_any B b l w (by rw [bytecells]; exact h) hB

end Go.Proofs.YtldfakcjimaaaaaDoor
