/-
  Chapter 7, the program: the fields that a command of its kind uses (ownFields).
-/
import Derived.Test.YtidjebepgpbcnaaSetE
import Derived.Test.YtidjebepgpbcnaaCmdE
import Derived.Test.YtidjebepgpbcnaaFlagE
import Derived.Test.YtidjebepgpbcnaaSetQ
import Derived.Test.YtidjebepgpbcnaaFipC
import Derived.Handy
import Derived.Maps.RangeWalk
namespace Go.Proofs.Ytidjebepgpbcnaa
open Go.RowKit

theorem wp_named {P : Program} {Q : Exit → Act → World → Prop} {c : Code} {a : Act} {w : World} (h : ∀ X, X = w → c.wp P Q a X) : c.wp P Q a w := h w rfl

/-- Three blocks that the call laid at the heap's end. -/
structure Own3 (T : TypeId) (w X : World) (A R O : Array Value) : Prop where
  a : X.heap[w.heap.size]? = some (.cells A T (0, 0))
  r : X.heap[w.heap.size + 1]? = some (.cells R T (0, 0))
  o : X.heap[w.heap.size + 1 + 1]? = some (.cells O T (0, 0))
  b : Below w.heap.size w X
  z : w.heap.size + 3 ≤ X.heap.size
theorem Own3.of {T : TypeId} {w X : World} {A R O : Array Value} (h : X = ((w.alloc (.cells A T)).alloc (.cells R T)).alloc (.cells O T)) : Own3 T w X A R O := by
  subst h
  refine ⟨?_, ?_, ?_, (((Below.refl _ _).alloc (Nat.le_refl _) _).alloc (by simp) _).alloc (by simp; omega) _, by simp⟩
  · exact ((Below.heap_alloc _ _ _ (by simp; omega)).trans (Below.heap_alloc _ _ _ (by simp))).trans (heap_alloc_new w _)
  · have h1 := heap_alloc_new (w.alloc (.cells A T)) (.cells R T)
    rw [World.size_alloc] at h1
    exact (Below.heap_alloc _ _ _ (by simp)).trans h1
  · have h1 := heap_alloc_new ((w.alloc (.cells A T)).alloc (.cells R T)) (.cells O T)
    rw [World.size_alloc, World.size_alloc] at h1
    exact h1
theorem Own3.drew {T : TypeId} {w X : World} {A R O : Array Value} (h : Own3 T w X A R O) : Own3 T w X.drew A R O := ⟨h.a, h.r, h.o, h.b.drew, h.z⟩
theorem Own3.call {T : TypeId} {w X X' : World} {A R O : Array Value} (h : Own3 T w X A R O) (b : Below X.heap.size X X') : Own3 T w X' A R O := by
  have := h.z
  exact ⟨(b.block _ (by omega)).trans h.a, (b.block _ (by omega)).trans h.r, (b.block _ (by omega)).trans h.o, h.b.trans (b.mono (by omega)), Nat.le_trans h.z b.size⟩
theorem Own3.setO {T : TypeId} {w X : World} {A R O : Array Value} (h : Own3 T w X A R O) (j : Nat) (u : Value) : Own3 T w (X.setCell ⟨w.heap.size + 1 + 1, j, none⟩ u) A R (O.setIfInBounds j u) :=
  ⟨(set_other (by omega)).trans h.a, (set_other (by omega)).trans h.r, set_heap h.o, ⟨h.b.os, h.b.tape, h.b.output, by have := h.b.size; simpa [World.setCell] using this, fun k hk => (set_other (by omega)).trans (h.b.block k hk)⟩, by have := h.z; simpa [World.setCell] using this⟩
theorem Own3.setR {T : TypeId} {w X : World} {A R O : Array Value} (h : Own3 T w X A R O) (V : Array Value) : Own3 T w (X.setRow (w.heap.size + 1) V) A V O :=
  ⟨(setRow_other _ _ _ _ (by omega)).trans h.a, setRow_heap _ _ _ _ _ _ h.r, (setRow_other _ _ _ _ (by omega)).trans h.o, ⟨h.b.os, h.b.tape, h.b.output, by have := h.b.size; simpa [World.setRow] using this, fun k hk => (setRow_other _ _ _ _ (by omega)).trans (h.b.block k hk)⟩, by have := h.z; simpa [World.setRow] using this⟩

theorem wp_store_cell {P : Program} {o : Oper} {a : Act} {w : World} {K : Act → World → Prop} {Q : Exit → Act → World → Prop} (ty : TypeId) (x y : Operand) (ho : o.op = .store ty x y)
    (g j : Nat) (v : Value) (hx : a.eval x = .pointer (some ⟨g, j, none⟩)) (hy : a.eval y = v) (cs : Array Value) (T : TypeId) (hg : w.heap[g]? = some (.cells cs T (0, 0))) (hj : j < cs.size)
    (hi : (P.info? ty).map (·.size) = some 1) (hv : v.cells = #[v]) (h1 : v.oneCell' = true) (h : ∀ X, X = w.setCell ⟨g, j, none⟩ v → K (a.put o.dst undef) X) : o.wp P a w K Q := by
  have hs : (storeVar ty ⟨g, j, none⟩ v).run P w = .ok () (w.setCell ⟨g, j, none⟩ v) := by
    have hc : w.cell? ⟨g, j, none⟩ = some cs[j] := (Lib.cell_of_heap hg j).trans (by simp [hj])
    have hf := Lib.frozen_of_heap hg j
    cases hq : P.info? ty with
    | none => simp [hq] at hi
    | some i =>
      have hsz : i.size = 1 := by simpa [hq] using hi
      simp [storeVar, sizeOf, typeInfo, hq, hv, hsz, storeCells, Addr.add, run_store _ _ _ _ _ h1, hc, hf, Result.andThen]
  unfold Oper.wp execOp
  simp only [ho, hx, hy, Instr.storeAt, Instr.sureAddr, Sem.run_bind, Sem.run_pure, Result.andThen_ok, hs]
  exact h _ rfl

theorem CmdD.bndO {x : CmdD} (h : LsBnd x.lf) : in64 x.kind ∧ in64 x.op ∧ in64 x.flags ∧ (∀ t ∈ x.sset, rgS t) ∧ ∀ s ∈ x.filter.scopes, in64 s.kind ∧ in64 s.events := by
  obtain ⟨_, h1, _, _, _, h5, h6, h7, _, _, h10, _⟩ := h
  refine ⟨h1, h6, h7, fun t ht => ?_, fun s hs => ?_⟩
  · obtain ⟨a, b, _⟩ := LsBnd.flat h5.2 t ht
    exact ⟨a, b⟩
  · obtain ⟨a, _, b, _⟩ := LsBnd.flat h10.2 s hs
    exact ⟨a, b⟩
theorem spns_rd {W : World} {l : List Spn} {v : Value} (h : LfRd W (spnsLf l) v) : Rd 2 spnc W v l := by
  obtain ⟨p, c, rfl, h2⟩ := Spn.at h
  refine ⟨p, c, rfl, h2.imp id ?_⟩
  rintro ⟨b, off, rfl, hb, hc⟩
  refine ⟨b, off, rfl, hb, fun i x hx j u hu => ?_⟩
  obtain ⟨h0, h1⟩ := hc i x hx
  match j, hu with
  | 0, hu => cases hu; exact h0
  | 1, hu => cases hu; exact h1

theorem wp_store_row2 {P : Program} {o : Oper} {a : Act} {w : World} {K : Act → World → Prop} {Q : Exit → Act → World → Prop} (ty : TypeId) (x y : Operand) (ho : o.op = .store ty x y)
    (g : Nat) (cells : Array Value) (hx : a.eval x = .pointer (some ⟨g, 0, none⟩)) (hy : a.eval y = .agg cells)
    (t : TypeId) (old : Array Value) (hg : w.heap[g]? = some (.cells old t (0, 0))) (hi : (P.info? ty).map (·.size) = some cells.size)
    (hold : old.size = cells.size) (h1 : cells.all (·.oneCell') = true)
    (h : ∀ X, X = w.setRow g cells → K (a.put o.dst undef) X) : o.wp P a w K Q := wp_store_row ty x y ho g cells hx hy t old hg hi hold h1 (h _ rfl)

theorem fin2 {v : Value} {b c : Bool} (h : b = c) : (Ending.returned (.tuple #[v, .bool b]) : Ending) = .returned (.tuple #[v, .bool c]) := by rw [h]

def opB (n : Int) : Bool := decide (1 ≤ n) && decide (n ≤ 3)
theorem opB_text (n : Int) : (opT n != []) = opB n := by
  unfold opT opB
  by_cases h1 : n = 1
  · subst h1; rfl
  · by_cases h2 : n = 2
    · subst h2; rfl
    · by_cases h3 : n = 3
      · subst h3; rfl
      · rw [if_neg h1, if_neg h2, if_neg h3]
        by_cases h4 : 1 ≤ n
        · rw [decide_eq_true h4, decide_eq_false (show ¬ n ≤ 3 by omega)]; rfl
        · rw [decide_eq_false h4]; rfl

set_option maxRecDepth 20000 in
set_option maxHeartbeats 6400000 in
theorem own_1 (x : CmdD) (p q : Option Addr) (c d : Nat) (w : World) (hk : x.kind = 1) (_ha : LfRd w (spnsLf x.sset) (.slice p x.sset.length c)) (_ha2 : LfRd w (scpsLf x.filter.scopes) (.slice q x.filter.scopes.length d)) (hs : szLs x.lf ≤ 1048576) (hbd : LsBnd x.lf) :
    Calls Try.prog 31 #[cmdv x (.slice p x.sset.length c) (.slice q x.filter.scopes.length d)] w fun e w' => e = .returned (.tuple #[.agg #[sv x.tag, .int .i64 x.kind, sv [], sv [], .bool false, .slice none 0 0, .int .i64 0, .int .i64 0, sv [], .bool false, .slice none 0 0], .bool (true)]) ∧ Below w.heap.size w w' := by
  obtain ⟨_, z2, z3, z5, z8, z9, z10⟩ := CmdD.small hs
  obtain ⟨_, i6, i7, i5, i10⟩ := CmdD.bndO hbd
  clear _ha _ha2 z2 z3 z5 z8 z9 z10 i6 i7 i5 i10 hs hbd
  have t1 : (x.kind == 1) = true := by rw [beq_iff_eq]; omega
  clear hk
  go_enter Try.func31, Try.ntmps31
  go_wp2
  go_returns
  exact ⟨rfl, (((Below.refl _ _).alloc (Nat.le_refl _) _).alloc (by simp) _).alloc (by simp; omega) _⟩

set_option maxRecDepth 20000 in
set_option maxHeartbeats 6400000 in
theorem own_3 (x : CmdD) (p q : Option Addr) (c d : Nat) (w : World) (hk : x.kind = 3) (_ha : LfRd w (spnsLf x.sset) (.slice p x.sset.length c)) (_ha2 : LfRd w (scpsLf x.filter.scopes) (.slice q x.filter.scopes.length d)) (hs : szLs x.lf ≤ 1048576) (hbd : LsBnd x.lf) :
    Calls Try.prog 31 #[cmdv x (.slice p x.sset.length c) (.slice q x.filter.scopes.length d)] w fun e w' => e = .returned (.tuple #[.agg #[sv x.tag, .int .i64 x.kind, sv [], sv [], .bool false, .slice none 0 0, .int .i64 0, .int .i64 0, sv [], .bool false, .slice none 0 0], .bool (true)]) ∧ Below w.heap.size w w' := by
  obtain ⟨_, z2, z3, z5, z8, z9, z10⟩ := CmdD.small hs
  obtain ⟨_, i6, i7, i5, i10⟩ := CmdD.bndO hbd
  clear _ha _ha2 z2 z3 z5 z8 z9 z10 i6 i7 i5 i10 hs hbd
  have t1 : (x.kind == 1) = false := by rw [beq_eq_false_iff_ne]; omega
  have t3 : (x.kind == 3) = true := by rw [beq_iff_eq]; omega
  clear hk
  go_enter Try.func31, Try.ntmps31
  go_wp2
  go_returns
  exact ⟨rfl, (((Below.refl _ _).alloc (Nat.le_refl _) _).alloc (by simp) _).alloc (by simp; omega) _⟩

set_option maxRecDepth 20000 in
set_option maxHeartbeats 6400000 in
theorem own_4 (x : CmdD) (p q : Option Addr) (c d : Nat) (w : World) (hk : x.kind = 4) (_ha : LfRd w (spnsLf x.sset) (.slice p x.sset.length c)) (_ha2 : LfRd w (scpsLf x.filter.scopes) (.slice q x.filter.scopes.length d)) (hs : szLs x.lf ≤ 1048576) (hbd : LsBnd x.lf) :
    Calls Try.prog 31 #[cmdv x (.slice p x.sset.length c) (.slice q x.filter.scopes.length d)] w fun e w' => e = .returned (.tuple #[.agg #[sv x.tag, .int .i64 x.kind, sv [], sv [], .bool false, .slice none 0 0, .int .i64 0, .int .i64 0, sv [], .bool false, .slice none 0 0], .bool (true)]) ∧ Below w.heap.size w w' := by
  obtain ⟨_, z2, z3, z5, z8, z9, z10⟩ := CmdD.small hs
  obtain ⟨_, i6, i7, i5, i10⟩ := CmdD.bndO hbd
  clear _ha _ha2 z2 z3 z5 z8 z9 z10 i6 i7 i5 i10 hs hbd
  have t1 : (x.kind == 1) = false := by rw [beq_eq_false_iff_ne]; omega
  have t3 : (x.kind == 3) = false := by rw [beq_eq_false_iff_ne]; omega
  have t4 : (x.kind == 4) = true := by rw [beq_iff_eq]; omega
  clear hk
  go_enter Try.func31, Try.ntmps31
  go_wp2
  go_returns
  exact ⟨rfl, (((Below.refl _ _).alloc (Nat.le_refl _) _).alloc (by simp) _).alloc (by simp; omega) _⟩

set_option maxRecDepth 20000 in
set_option maxHeartbeats 6400000 in
theorem own_5 (x : CmdD) (p q : Option Addr) (c d : Nat) (w : World) (hk : x.kind = 5) (_ha : LfRd w (spnsLf x.sset) (.slice p x.sset.length c)) (_ha2 : LfRd w (scpsLf x.filter.scopes) (.slice q x.filter.scopes.length d)) (hs : szLs x.lf ≤ 1048576) (hbd : LsBnd x.lf) :
    Calls Try.prog 31 #[cmdv x (.slice p x.sset.length c) (.slice q x.filter.scopes.length d)] w fun e w' => e = .returned (.tuple #[.agg #[sv x.tag, .int .i64 x.kind, sv [], sv [], .bool false, .slice none 0 0, .int .i64 0, .int .i64 0, sv [], .bool false, .slice none 0 0], .bool (true)]) ∧ Below w.heap.size w w' := by
  obtain ⟨_, z2, z3, z5, z8, z9, z10⟩ := CmdD.small hs
  obtain ⟨_, i6, i7, i5, i10⟩ := CmdD.bndO hbd
  clear _ha _ha2 z2 z3 z5 z8 z9 z10 i6 i7 i5 i10 hs hbd
  have t1 : (x.kind == 1) = false := by rw [beq_eq_false_iff_ne]; omega
  have t3 : (x.kind == 3) = false := by rw [beq_eq_false_iff_ne]; omega
  have t4 : (x.kind == 4) = false := by rw [beq_eq_false_iff_ne]; omega
  have t5 : (x.kind == 5) = true := by rw [beq_iff_eq]; omega
  clear hk
  go_enter Try.func31, Try.ntmps31
  go_wp2
  go_returns
  exact ⟨rfl, (((Below.refl _ _).alloc (Nat.le_refl _) _).alloc (by simp) _).alloc (by simp; omega) _⟩

set_option maxRecDepth 20000 in
set_option maxHeartbeats 6400000 in
theorem own_9 (x : CmdD) (p q : Option Addr) (c d : Nat) (w : World) (hk : x.kind = 9) (_ha : LfRd w (spnsLf x.sset) (.slice p x.sset.length c)) (_ha2 : LfRd w (scpsLf x.filter.scopes) (.slice q x.filter.scopes.length d)) (hs : szLs x.lf ≤ 1048576) (hbd : LsBnd x.lf) :
    Calls Try.prog 31 #[cmdv x (.slice p x.sset.length c) (.slice q x.filter.scopes.length d)] w fun e w' => e = .returned (.tuple #[.agg #[sv x.tag, .int .i64 x.kind, sv [], sv [], .bool false, .slice none 0 0, .int .i64 0, .int .i64 0, sv [], .bool false, .slice none 0 0], .bool (true)]) ∧ Below w.heap.size w w' := by
  obtain ⟨_, z2, z3, z5, z8, z9, z10⟩ := CmdD.small hs
  obtain ⟨_, i6, i7, i5, i10⟩ := CmdD.bndO hbd
  clear _ha _ha2 z2 z3 z5 z8 z9 z10 i6 i7 i5 i10 hs hbd
  have t1 : (x.kind == 1) = false := by rw [beq_eq_false_iff_ne]; omega
  have t3 : (x.kind == 3) = false := by rw [beq_eq_false_iff_ne]; omega
  have t4 : (x.kind == 4) = false := by rw [beq_eq_false_iff_ne]; omega
  have t5 : (x.kind == 5) = false := by rw [beq_eq_false_iff_ne]; omega
  have t9 : (x.kind == 9) = true := by rw [beq_iff_eq]; omega
  clear hk
  go_enter Try.func31, Try.ntmps31
  go_wp2
  go_returns
  exact ⟨rfl, (((Below.refl _ _).alloc (Nat.le_refl _) _).alloc (by simp) _).alloc (by simp; omega) _⟩

set_option maxRecDepth 20000 in
set_option maxHeartbeats 6400000 in
theorem own_15 (x : CmdD) (p q : Option Addr) (c d : Nat) (w : World) (hk : x.kind = 15) (_ha : LfRd w (spnsLf x.sset) (.slice p x.sset.length c)) (_ha2 : LfRd w (scpsLf x.filter.scopes) (.slice q x.filter.scopes.length d)) (hs : szLs x.lf ≤ 1048576) (hbd : LsBnd x.lf) :
    Calls Try.prog 31 #[cmdv x (.slice p x.sset.length c) (.slice q x.filter.scopes.length d)] w fun e w' => e = .returned (.tuple #[.agg #[sv x.tag, .int .i64 x.kind, sv [], sv [], .bool false, .slice none 0 0, .int .i64 0, .int .i64 0, sv [], .bool false, .slice none 0 0], .bool (true)]) ∧ Below w.heap.size w w' := by
  obtain ⟨_, z2, z3, z5, z8, z9, z10⟩ := CmdD.small hs
  obtain ⟨_, i6, i7, i5, i10⟩ := CmdD.bndO hbd
  clear _ha _ha2 z2 z3 z5 z8 z9 z10 i6 i7 i5 i10 hs hbd
  have t1 : (x.kind == 1) = false := by rw [beq_eq_false_iff_ne]; omega
  have t3 : (x.kind == 3) = false := by rw [beq_eq_false_iff_ne]; omega
  have t4 : (x.kind == 4) = false := by rw [beq_eq_false_iff_ne]; omega
  have t5 : (x.kind == 5) = false := by rw [beq_eq_false_iff_ne]; omega
  have t9 : (x.kind == 9) = false := by rw [beq_eq_false_iff_ne]; omega
  have t15 : (x.kind == 15) = true := by rw [beq_iff_eq]; omega
  clear hk
  go_enter Try.func31, Try.ntmps31
  go_wp2
  go_returns
  exact ⟨rfl, (((Below.refl _ _).alloc (Nat.le_refl _) _).alloc (by simp) _).alloc (by simp; omega) _⟩

set_option maxRecDepth 20000 in
set_option maxHeartbeats 6400000 in
theorem own_2 (x : CmdD) (p q : Option Addr) (c d : Nat) (w : World) (hk : x.kind = 2) (_ha : LfRd w (spnsLf x.sset) (.slice p x.sset.length c)) (_ha2 : LfRd w (scpsLf x.filter.scopes) (.slice q x.filter.scopes.length d)) (hs : szLs x.lf ≤ 1048576) (hbd : LsBnd x.lf) :
    Calls Try.prog 31 #[cmdv x (.slice p x.sset.length c) (.slice q x.filter.scopes.length d)] w fun e w' => e = .returned (.tuple #[.agg #[sv x.tag, .int .i64 x.kind, sv x.box, sv [], .bool false, .slice none 0 0, .int .i64 0, .int .i64 0, sv [], .bool false, .slice none 0 0], .bool (nameB x.box)]) ∧ Below w.heap.size w w' := by
  obtain ⟨_, z2, z3, z5, z8, z9, z10⟩ := CmdD.small hs
  obtain ⟨_, i6, i7, i5, i10⟩ := CmdD.bndO hbd
  have cname2 := fun W => implNameOk_any ⟨x.box.toArray⟩ W (by unfold maxLen; show x.box.toArray.size ≤ _; simp; omega)
  clear _ha _ha2 z2 z3 z5 z8 z9 z10 i6 i7 i5 i10 hs hbd
  have t1 : (x.kind == 1) = false := by rw [beq_eq_false_iff_ne]; omega
  have t3 : (x.kind == 3) = false := by rw [beq_eq_false_iff_ne]; omega
  have t4 : (x.kind == 4) = false := by rw [beq_eq_false_iff_ne]; omega
  have t5 : (x.kind == 5) = false := by rw [beq_eq_false_iff_ne]; omega
  have t9 : (x.kind == 9) = false := by rw [beq_eq_false_iff_ne]; omega
  have t15 : (x.kind == 15) = false := by rw [beq_eq_false_iff_ne]; omega
  have t2 : (x.kind == 2) = true := by rw [beq_iff_eq]; omega
  clear hk
  have Cname2 := Lib.hid cname2
  clear cname2
  go_enter Try.func31, Try.ntmps31
  go_wp2
  refine wp_named ?_
  intro X hX
  have H0 := Lib.hid (Own3.of hX)
  clear hX
  have K0 := Lib.hid H0.out
  clear H0
  have HS := Lib.hid (fun (W : World) (R : Array Value) (H : Own3 36 w W #[sv x.tag, .int .i64 x.kind, sv x.box, sv x.to, .bool x.uid, .slice p x.sset.length c, .int .i64 x.op, .int .i64 x.flags, sv x.text, .bool x.filter.on, .slice q x.filter.scopes.length d] R #[sv x.tag, .int .i64 x.kind, sv x.box, sv [], .bool false, .slice none 0 0, .int .i64 0, .int .i64 0, sv [], .bool false, .slice none 0 0]) => (⟨(Lib.cell_of_heap H.a 2).trans rfl, (Lib.cell_of_heap H.o 0).trans rfl, (Lib.cell_of_heap H.o 1).trans rfl, (Lib.cell_of_heap H.o 2).trans rfl, (Lib.cell_of_heap H.o 3).trans rfl, (Lib.cell_of_heap H.o 4).trans rfl, (Lib.cell_of_heap H.o 5).trans rfl, (Lib.cell_of_heap H.o 6).trans rfl, (Lib.cell_of_heap H.o 7).trans rfl, (Lib.cell_of_heap H.o 8).trans rfl, (Lib.cell_of_heap H.o 9).trans rfl, (Lib.cell_of_heap H.o 10).trans rfl⟩ : W.cell? ⟨w.heap.size, 2, none⟩ = some (sv x.box) ∧ W.cell? ⟨w.heap.size + 1 + 1, 0, none⟩ = some (sv x.tag) ∧ W.cell? ⟨w.heap.size + 1 + 1, 1, none⟩ = some (.int .i64 x.kind) ∧ W.cell? ⟨w.heap.size + 1 + 1, 2, none⟩ = some (sv x.box) ∧ W.cell? ⟨w.heap.size + 1 + 1, 3, none⟩ = some (sv []) ∧ W.cell? ⟨w.heap.size + 1 + 1, 4, none⟩ = some (.bool false) ∧ W.cell? ⟨w.heap.size + 1 + 1, 5, none⟩ = some (.slice none 0 0) ∧ W.cell? ⟨w.heap.size + 1 + 1, 6, none⟩ = some (.int .i64 0) ∧ W.cell? ⟨w.heap.size + 1 + 1, 7, none⟩ = some (.int .i64 0) ∧ W.cell? ⟨w.heap.size + 1 + 1, 8, none⟩ = some (sv []) ∧ W.cell? ⟨w.heap.size + 1 + 1, 9, none⟩ = some (.bool false) ∧ W.cell? ⟨w.heap.size + 1 + 1, 10, none⟩ = some (.slice none 0 0)))
  have hs0 := HS.out X.drew _ K0.out.drew
  cases e0 : (nameB x.box) with
  | true =>
    rw [show nameB (ByteArray.mk x.box.toArray).data.toList = true from e0] at Cname2
    refine ord_start [(0, true), (1, true), (2, true), (3, false), (4, false), (5, true)] (fun W => W.cell? ⟨w.heap.size, 2, none⟩ = some (sv x.box) ∧ W.cell? ⟨w.heap.size + 1 + 1, 0, none⟩ = some (sv x.tag) ∧ W.cell? ⟨w.heap.size + 1 + 1, 1, none⟩ = some (.int .i64 x.kind) ∧ W.cell? ⟨w.heap.size + 1 + 1, 2, none⟩ = some (sv x.box) ∧ W.cell? ⟨w.heap.size + 1 + 1, 3, none⟩ = some (sv []) ∧ W.cell? ⟨w.heap.size + 1 + 1, 4, none⟩ = some (.bool false) ∧ W.cell? ⟨w.heap.size + 1 + 1, 5, none⟩ = some (.slice none 0 0) ∧ W.cell? ⟨w.heap.size + 1 + 1, 6, none⟩ = some (.int .i64 0) ∧ W.cell? ⟨w.heap.size + 1 + 1, 7, none⟩ = some (.int .i64 0) ∧ W.cell? ⟨w.heap.size + 1 + 1, 8, none⟩ = some (sv []) ∧ W.cell? ⟨w.heap.size + 1 + 1, 9, none⟩ = some (.bool false) ∧ W.cell? ⟨w.heap.size + 1 + 1, 10, none⟩ = some (.slice none 0 0)) (by kernel_rfl) (by kernel_rfl) rfl (by kernel_rfl) ?_
    intro ops' hops
    simp only [List.map_cons, List.map_nil, pickOp_zero, pickOp_succ]
    iterate 3 (refine ord_flo ?_ (fun _ _ _ h => h) rfl ?_ hs0 ?_; rotate_left; focus (intro W hS; obtain ⟨s0, s1, s2, s3, s4, s5, s6, s7, s8, s9, s10, s11⟩ := hS; go_simp; rfl))
    try go_frame
    refine ord_ev rfl ?_
    go_simp
    refine (Cname2.out _).mono ?_
    rintro e w1 ⟨rfl, b1⟩
    have K1 := Lib.hid ((K0.out.drew).call b1)
    clear b1
    have hs1 := HS.out _ _ K1.out
    refine ⟨hs1, ?_⟩
    try go_frame
    refine ord_ev rfl ?_
    refine wp_store_row2 _ _ _ rfl (w.heap.size + 1) #[sv x.tag, .int .i64 x.kind, sv x.box, sv [], .bool false, .slice none 0 0, .int .i64 0, .int .i64 0, sv [], .bool false, .slice none 0 0] (by rfl) (by rfl) _ _ (K1.out).r (by kernel_rfl) rfl (by simp [Value.oneCell', sv]) ?_
    intro Z hZ
    have KF := Lib.hid (show Own3 _ w Z _ _ _ from by rw [hZ]; exact (K1.out).setR #[sv x.tag, .int .i64 x.kind, sv x.box, sv [], .bool false, .slice none 0 0, .int .i64 0, .int .i64 0, sv [], .bool false, .slice none 0 0])
    clear hZ
    refine ⟨HS.out _ _ KF.out, ?_⟩
    have hsf := HS.out _ _ KF.out
    iterate 1 (refine ord_flo ?_ (fun _ _ _ h => h) rfl ?_ hsf ?_; rotate_left; focus (intro W hS; obtain ⟨s0, s1, s2, s3, s4, s5, s6, s7, s8, s9, s10, s11⟩ := hS; go_simp; rfl))
    refine ord_done ?_
    go_simp
    clear HS hsf hs0 hs1
    have g0 := (Lib.cell_of_heap KF.out.r 0).trans (show _ = some (sv x.tag) from rfl)
    have g1 := (Lib.cell_of_heap KF.out.r 1).trans (show _ = some (.int .i64 x.kind) from rfl)
    have g2 := (Lib.cell_of_heap KF.out.r 2).trans (show _ = some (sv x.box) from rfl)
    have g3 := (Lib.cell_of_heap KF.out.r 3).trans (show _ = some (sv []) from rfl)
    have g4 := (Lib.cell_of_heap KF.out.r 4).trans (show _ = some (.bool false) from rfl)
    have g5 := (Lib.cell_of_heap KF.out.r 5).trans (show _ = some (.slice none 0 0) from rfl)
    have g6 := (Lib.cell_of_heap KF.out.r 6).trans (show _ = some (.int .i64 0) from rfl)
    have g7 := (Lib.cell_of_heap KF.out.r 7).trans (show _ = some (.int .i64 0) from rfl)
    have g8 := (Lib.cell_of_heap KF.out.r 8).trans (show _ = some (sv []) from rfl)
    have g9 := (Lib.cell_of_heap KF.out.r 9).trans (show _ = some (.bool false) from rfl)
    have g10 := (Lib.cell_of_heap KF.out.r 10).trans (show _ = some (.slice none 0 0) from rfl)
    have HB := Lib.hid KF.out.b
    clear KF
    go_wp2
    exact bodyPost_ret (v := .tuple #[.agg #[sv x.tag, .int .i64 x.kind, sv x.box, sv [], .bool false, .slice none 0 0, .int .i64 0, .int .i64 0, sv [], .bool false, .slice none 0 0], .bool true]) (by simp [results, Try.results31, go_sem, g0, g1, g2, g3, g4, g5, g6, g7, g8, g9, g10]) rfl ⟨fin2 (by first | rfl | (rw [e0] <;> rfl)), HB.out⟩
  | false =>
    rw [show nameB (ByteArray.mk x.box.toArray).data.toList = false from e0] at Cname2
    refine ord_start [(0, true), (1, true), (2, true), (3, false), (4, false), (5, true)] (fun W => W.cell? ⟨w.heap.size, 2, none⟩ = some (sv x.box) ∧ W.cell? ⟨w.heap.size + 1 + 1, 0, none⟩ = some (sv x.tag) ∧ W.cell? ⟨w.heap.size + 1 + 1, 1, none⟩ = some (.int .i64 x.kind) ∧ W.cell? ⟨w.heap.size + 1 + 1, 2, none⟩ = some (sv x.box) ∧ W.cell? ⟨w.heap.size + 1 + 1, 3, none⟩ = some (sv []) ∧ W.cell? ⟨w.heap.size + 1 + 1, 4, none⟩ = some (.bool false) ∧ W.cell? ⟨w.heap.size + 1 + 1, 5, none⟩ = some (.slice none 0 0) ∧ W.cell? ⟨w.heap.size + 1 + 1, 6, none⟩ = some (.int .i64 0) ∧ W.cell? ⟨w.heap.size + 1 + 1, 7, none⟩ = some (.int .i64 0) ∧ W.cell? ⟨w.heap.size + 1 + 1, 8, none⟩ = some (sv []) ∧ W.cell? ⟨w.heap.size + 1 + 1, 9, none⟩ = some (.bool false) ∧ W.cell? ⟨w.heap.size + 1 + 1, 10, none⟩ = some (.slice none 0 0)) (by kernel_rfl) (by kernel_rfl) rfl (by kernel_rfl) ?_
    intro ops' hops
    simp only [List.map_cons, List.map_nil, pickOp_zero, pickOp_succ]
    iterate 3 (refine ord_flo ?_ (fun _ _ _ h => h) rfl ?_ hs0 ?_; rotate_left; focus (intro W hS; obtain ⟨s0, s1, s2, s3, s4, s5, s6, s7, s8, s9, s10, s11⟩ := hS; go_simp; rfl))
    try go_frame
    refine ord_ev rfl ?_
    go_simp
    refine (Cname2.out _).mono ?_
    rintro e w1 ⟨rfl, b1⟩
    have K1 := Lib.hid ((K0.out.drew).call b1)
    clear b1
    have hs1 := HS.out _ _ K1.out
    refine ⟨hs1, ?_⟩
    try go_frame
    refine ord_ev rfl ?_
    refine wp_store_row2 _ _ _ rfl (w.heap.size + 1) #[sv x.tag, .int .i64 x.kind, sv x.box, sv [], .bool false, .slice none 0 0, .int .i64 0, .int .i64 0, sv [], .bool false, .slice none 0 0] (by rfl) (by rfl) _ _ (K1.out).r (by kernel_rfl) rfl (by simp [Value.oneCell', sv]) ?_
    intro Z hZ
    have KF := Lib.hid (show Own3 _ w Z _ _ _ from by rw [hZ]; exact (K1.out).setR #[sv x.tag, .int .i64 x.kind, sv x.box, sv [], .bool false, .slice none 0 0, .int .i64 0, .int .i64 0, sv [], .bool false, .slice none 0 0])
    clear hZ
    refine ⟨HS.out _ _ KF.out, ?_⟩
    have hsf := HS.out _ _ KF.out
    iterate 1 (refine ord_flo ?_ (fun _ _ _ h => h) rfl ?_ hsf ?_; rotate_left; focus (intro W hS; obtain ⟨s0, s1, s2, s3, s4, s5, s6, s7, s8, s9, s10, s11⟩ := hS; go_simp; rfl))
    refine ord_done ?_
    go_simp
    clear HS hsf hs0 hs1
    have g0 := (Lib.cell_of_heap KF.out.r 0).trans (show _ = some (sv x.tag) from rfl)
    have g1 := (Lib.cell_of_heap KF.out.r 1).trans (show _ = some (.int .i64 x.kind) from rfl)
    have g2 := (Lib.cell_of_heap KF.out.r 2).trans (show _ = some (sv x.box) from rfl)
    have g3 := (Lib.cell_of_heap KF.out.r 3).trans (show _ = some (sv []) from rfl)
    have g4 := (Lib.cell_of_heap KF.out.r 4).trans (show _ = some (.bool false) from rfl)
    have g5 := (Lib.cell_of_heap KF.out.r 5).trans (show _ = some (.slice none 0 0) from rfl)
    have g6 := (Lib.cell_of_heap KF.out.r 6).trans (show _ = some (.int .i64 0) from rfl)
    have g7 := (Lib.cell_of_heap KF.out.r 7).trans (show _ = some (.int .i64 0) from rfl)
    have g8 := (Lib.cell_of_heap KF.out.r 8).trans (show _ = some (sv []) from rfl)
    have g9 := (Lib.cell_of_heap KF.out.r 9).trans (show _ = some (.bool false) from rfl)
    have g10 := (Lib.cell_of_heap KF.out.r 10).trans (show _ = some (.slice none 0 0) from rfl)
    have HB := Lib.hid KF.out.b
    clear KF
    go_wp2
    exact bodyPost_ret (v := .tuple #[.agg #[sv x.tag, .int .i64 x.kind, sv x.box, sv [], .bool false, .slice none 0 0, .int .i64 0, .int .i64 0, sv [], .bool false, .slice none 0 0], .bool false]) (by simp [results, Try.results31, go_sem, g0, g1, g2, g3, g4, g5, g6, g7, g8, g9, g10]) rfl ⟨fin2 (by first | rfl | (rw [e0] <;> rfl)), HB.out⟩

set_option maxRecDepth 20000 in
set_option maxHeartbeats 6400000 in
theorem own_12 (x : CmdD) (p q : Option Addr) (c d : Nat) (w : World) (hk : x.kind = 12) (_ha : LfRd w (spnsLf x.sset) (.slice p x.sset.length c)) (_ha2 : LfRd w (scpsLf x.filter.scopes) (.slice q x.filter.scopes.length d)) (hs : szLs x.lf ≤ 1048576) (hbd : LsBnd x.lf) :
    Calls Try.prog 31 #[cmdv x (.slice p x.sset.length c) (.slice q x.filter.scopes.length d)] w fun e w' => e = .returned (.tuple #[.agg #[sv x.tag, .int .i64 x.kind, sv x.box, sv [], .bool false, .slice none 0 0, .int .i64 0, .int .i64 0, sv [], .bool false, .slice none 0 0], .bool (nameB x.box)]) ∧ Below w.heap.size w w' := by
  obtain ⟨_, z2, z3, z5, z8, z9, z10⟩ := CmdD.small hs
  obtain ⟨_, i6, i7, i5, i10⟩ := CmdD.bndO hbd
  have cname2 := fun W => implNameOk_any ⟨x.box.toArray⟩ W (by unfold maxLen; show x.box.toArray.size ≤ _; simp; omega)
  clear _ha _ha2 z2 z3 z5 z8 z9 z10 i6 i7 i5 i10 hs hbd
  have t1 : (x.kind == 1) = false := by rw [beq_eq_false_iff_ne]; omega
  have t3 : (x.kind == 3) = false := by rw [beq_eq_false_iff_ne]; omega
  have t4 : (x.kind == 4) = false := by rw [beq_eq_false_iff_ne]; omega
  have t5 : (x.kind == 5) = false := by rw [beq_eq_false_iff_ne]; omega
  have t9 : (x.kind == 9) = false := by rw [beq_eq_false_iff_ne]; omega
  have t15 : (x.kind == 15) = false := by rw [beq_eq_false_iff_ne]; omega
  have t2 : (x.kind == 2) = false := by rw [beq_eq_false_iff_ne]; omega
  have t12 : (x.kind == 12) = true := by rw [beq_iff_eq]; omega
  clear hk
  have Cname2 := Lib.hid cname2
  clear cname2
  go_enter Try.func31, Try.ntmps31
  go_wp2
  refine wp_named ?_
  intro X hX
  have H0 := Lib.hid (Own3.of hX)
  clear hX
  have K0 := Lib.hid H0.out
  clear H0
  have HS := Lib.hid (fun (W : World) (R : Array Value) (H : Own3 36 w W #[sv x.tag, .int .i64 x.kind, sv x.box, sv x.to, .bool x.uid, .slice p x.sset.length c, .int .i64 x.op, .int .i64 x.flags, sv x.text, .bool x.filter.on, .slice q x.filter.scopes.length d] R #[sv x.tag, .int .i64 x.kind, sv x.box, sv [], .bool false, .slice none 0 0, .int .i64 0, .int .i64 0, sv [], .bool false, .slice none 0 0]) => (⟨(Lib.cell_of_heap H.a 2).trans rfl, (Lib.cell_of_heap H.o 0).trans rfl, (Lib.cell_of_heap H.o 1).trans rfl, (Lib.cell_of_heap H.o 2).trans rfl, (Lib.cell_of_heap H.o 3).trans rfl, (Lib.cell_of_heap H.o 4).trans rfl, (Lib.cell_of_heap H.o 5).trans rfl, (Lib.cell_of_heap H.o 6).trans rfl, (Lib.cell_of_heap H.o 7).trans rfl, (Lib.cell_of_heap H.o 8).trans rfl, (Lib.cell_of_heap H.o 9).trans rfl, (Lib.cell_of_heap H.o 10).trans rfl⟩ : W.cell? ⟨w.heap.size, 2, none⟩ = some (sv x.box) ∧ W.cell? ⟨w.heap.size + 1 + 1, 0, none⟩ = some (sv x.tag) ∧ W.cell? ⟨w.heap.size + 1 + 1, 1, none⟩ = some (.int .i64 x.kind) ∧ W.cell? ⟨w.heap.size + 1 + 1, 2, none⟩ = some (sv x.box) ∧ W.cell? ⟨w.heap.size + 1 + 1, 3, none⟩ = some (sv []) ∧ W.cell? ⟨w.heap.size + 1 + 1, 4, none⟩ = some (.bool false) ∧ W.cell? ⟨w.heap.size + 1 + 1, 5, none⟩ = some (.slice none 0 0) ∧ W.cell? ⟨w.heap.size + 1 + 1, 6, none⟩ = some (.int .i64 0) ∧ W.cell? ⟨w.heap.size + 1 + 1, 7, none⟩ = some (.int .i64 0) ∧ W.cell? ⟨w.heap.size + 1 + 1, 8, none⟩ = some (sv []) ∧ W.cell? ⟨w.heap.size + 1 + 1, 9, none⟩ = some (.bool false) ∧ W.cell? ⟨w.heap.size + 1 + 1, 10, none⟩ = some (.slice none 0 0)))
  have hs0 := HS.out X.drew _ K0.out.drew
  cases e0 : (nameB x.box) with
  | true =>
    rw [show nameB (ByteArray.mk x.box.toArray).data.toList = true from e0] at Cname2
    refine ord_start [(0, true), (1, true), (2, true), (3, false), (4, false), (5, true)] (fun W => W.cell? ⟨w.heap.size, 2, none⟩ = some (sv x.box) ∧ W.cell? ⟨w.heap.size + 1 + 1, 0, none⟩ = some (sv x.tag) ∧ W.cell? ⟨w.heap.size + 1 + 1, 1, none⟩ = some (.int .i64 x.kind) ∧ W.cell? ⟨w.heap.size + 1 + 1, 2, none⟩ = some (sv x.box) ∧ W.cell? ⟨w.heap.size + 1 + 1, 3, none⟩ = some (sv []) ∧ W.cell? ⟨w.heap.size + 1 + 1, 4, none⟩ = some (.bool false) ∧ W.cell? ⟨w.heap.size + 1 + 1, 5, none⟩ = some (.slice none 0 0) ∧ W.cell? ⟨w.heap.size + 1 + 1, 6, none⟩ = some (.int .i64 0) ∧ W.cell? ⟨w.heap.size + 1 + 1, 7, none⟩ = some (.int .i64 0) ∧ W.cell? ⟨w.heap.size + 1 + 1, 8, none⟩ = some (sv []) ∧ W.cell? ⟨w.heap.size + 1 + 1, 9, none⟩ = some (.bool false) ∧ W.cell? ⟨w.heap.size + 1 + 1, 10, none⟩ = some (.slice none 0 0)) (by kernel_rfl) (by kernel_rfl) rfl (by kernel_rfl) ?_
    intro ops' hops
    simp only [List.map_cons, List.map_nil, pickOp_zero, pickOp_succ]
    iterate 3 (refine ord_flo ?_ (fun _ _ _ h => h) rfl ?_ hs0 ?_; rotate_left; focus (intro W hS; obtain ⟨s0, s1, s2, s3, s4, s5, s6, s7, s8, s9, s10, s11⟩ := hS; go_simp; rfl))
    try go_frame
    refine ord_ev rfl ?_
    go_simp
    refine (Cname2.out _).mono ?_
    rintro e w1 ⟨rfl, b1⟩
    have K1 := Lib.hid ((K0.out.drew).call b1)
    clear b1
    have hs1 := HS.out _ _ K1.out
    refine ⟨hs1, ?_⟩
    try go_frame
    refine ord_ev rfl ?_
    refine wp_store_row2 _ _ _ rfl (w.heap.size + 1) #[sv x.tag, .int .i64 x.kind, sv x.box, sv [], .bool false, .slice none 0 0, .int .i64 0, .int .i64 0, sv [], .bool false, .slice none 0 0] (by rfl) (by rfl) _ _ (K1.out).r (by kernel_rfl) rfl (by simp [Value.oneCell', sv]) ?_
    intro Z hZ
    have KF := Lib.hid (show Own3 _ w Z _ _ _ from by rw [hZ]; exact (K1.out).setR #[sv x.tag, .int .i64 x.kind, sv x.box, sv [], .bool false, .slice none 0 0, .int .i64 0, .int .i64 0, sv [], .bool false, .slice none 0 0])
    clear hZ
    refine ⟨HS.out _ _ KF.out, ?_⟩
    have hsf := HS.out _ _ KF.out
    iterate 1 (refine ord_flo ?_ (fun _ _ _ h => h) rfl ?_ hsf ?_; rotate_left; focus (intro W hS; obtain ⟨s0, s1, s2, s3, s4, s5, s6, s7, s8, s9, s10, s11⟩ := hS; go_simp; rfl))
    refine ord_done ?_
    go_simp
    clear HS hsf hs0 hs1
    have g0 := (Lib.cell_of_heap KF.out.r 0).trans (show _ = some (sv x.tag) from rfl)
    have g1 := (Lib.cell_of_heap KF.out.r 1).trans (show _ = some (.int .i64 x.kind) from rfl)
    have g2 := (Lib.cell_of_heap KF.out.r 2).trans (show _ = some (sv x.box) from rfl)
    have g3 := (Lib.cell_of_heap KF.out.r 3).trans (show _ = some (sv []) from rfl)
    have g4 := (Lib.cell_of_heap KF.out.r 4).trans (show _ = some (.bool false) from rfl)
    have g5 := (Lib.cell_of_heap KF.out.r 5).trans (show _ = some (.slice none 0 0) from rfl)
    have g6 := (Lib.cell_of_heap KF.out.r 6).trans (show _ = some (.int .i64 0) from rfl)
    have g7 := (Lib.cell_of_heap KF.out.r 7).trans (show _ = some (.int .i64 0) from rfl)
    have g8 := (Lib.cell_of_heap KF.out.r 8).trans (show _ = some (sv []) from rfl)
    have g9 := (Lib.cell_of_heap KF.out.r 9).trans (show _ = some (.bool false) from rfl)
    have g10 := (Lib.cell_of_heap KF.out.r 10).trans (show _ = some (.slice none 0 0) from rfl)
    have HB := Lib.hid KF.out.b
    clear KF
    go_wp2
    exact bodyPost_ret (v := .tuple #[.agg #[sv x.tag, .int .i64 x.kind, sv x.box, sv [], .bool false, .slice none 0 0, .int .i64 0, .int .i64 0, sv [], .bool false, .slice none 0 0], .bool true]) (by simp [results, Try.results31, go_sem, g0, g1, g2, g3, g4, g5, g6, g7, g8, g9, g10]) rfl ⟨fin2 (by first | rfl | (rw [e0] <;> rfl)), HB.out⟩
  | false =>
    rw [show nameB (ByteArray.mk x.box.toArray).data.toList = false from e0] at Cname2
    refine ord_start [(0, true), (1, true), (2, true), (3, false), (4, false), (5, true)] (fun W => W.cell? ⟨w.heap.size, 2, none⟩ = some (sv x.box) ∧ W.cell? ⟨w.heap.size + 1 + 1, 0, none⟩ = some (sv x.tag) ∧ W.cell? ⟨w.heap.size + 1 + 1, 1, none⟩ = some (.int .i64 x.kind) ∧ W.cell? ⟨w.heap.size + 1 + 1, 2, none⟩ = some (sv x.box) ∧ W.cell? ⟨w.heap.size + 1 + 1, 3, none⟩ = some (sv []) ∧ W.cell? ⟨w.heap.size + 1 + 1, 4, none⟩ = some (.bool false) ∧ W.cell? ⟨w.heap.size + 1 + 1, 5, none⟩ = some (.slice none 0 0) ∧ W.cell? ⟨w.heap.size + 1 + 1, 6, none⟩ = some (.int .i64 0) ∧ W.cell? ⟨w.heap.size + 1 + 1, 7, none⟩ = some (.int .i64 0) ∧ W.cell? ⟨w.heap.size + 1 + 1, 8, none⟩ = some (sv []) ∧ W.cell? ⟨w.heap.size + 1 + 1, 9, none⟩ = some (.bool false) ∧ W.cell? ⟨w.heap.size + 1 + 1, 10, none⟩ = some (.slice none 0 0)) (by kernel_rfl) (by kernel_rfl) rfl (by kernel_rfl) ?_
    intro ops' hops
    simp only [List.map_cons, List.map_nil, pickOp_zero, pickOp_succ]
    iterate 3 (refine ord_flo ?_ (fun _ _ _ h => h) rfl ?_ hs0 ?_; rotate_left; focus (intro W hS; obtain ⟨s0, s1, s2, s3, s4, s5, s6, s7, s8, s9, s10, s11⟩ := hS; go_simp; rfl))
    try go_frame
    refine ord_ev rfl ?_
    go_simp
    refine (Cname2.out _).mono ?_
    rintro e w1 ⟨rfl, b1⟩
    have K1 := Lib.hid ((K0.out.drew).call b1)
    clear b1
    have hs1 := HS.out _ _ K1.out
    refine ⟨hs1, ?_⟩
    try go_frame
    refine ord_ev rfl ?_
    refine wp_store_row2 _ _ _ rfl (w.heap.size + 1) #[sv x.tag, .int .i64 x.kind, sv x.box, sv [], .bool false, .slice none 0 0, .int .i64 0, .int .i64 0, sv [], .bool false, .slice none 0 0] (by rfl) (by rfl) _ _ (K1.out).r (by kernel_rfl) rfl (by simp [Value.oneCell', sv]) ?_
    intro Z hZ
    have KF := Lib.hid (show Own3 _ w Z _ _ _ from by rw [hZ]; exact (K1.out).setR #[sv x.tag, .int .i64 x.kind, sv x.box, sv [], .bool false, .slice none 0 0, .int .i64 0, .int .i64 0, sv [], .bool false, .slice none 0 0])
    clear hZ
    refine ⟨HS.out _ _ KF.out, ?_⟩
    have hsf := HS.out _ _ KF.out
    iterate 1 (refine ord_flo ?_ (fun _ _ _ h => h) rfl ?_ hsf ?_; rotate_left; focus (intro W hS; obtain ⟨s0, s1, s2, s3, s4, s5, s6, s7, s8, s9, s10, s11⟩ := hS; go_simp; rfl))
    refine ord_done ?_
    go_simp
    clear HS hsf hs0 hs1
    have g0 := (Lib.cell_of_heap KF.out.r 0).trans (show _ = some (sv x.tag) from rfl)
    have g1 := (Lib.cell_of_heap KF.out.r 1).trans (show _ = some (.int .i64 x.kind) from rfl)
    have g2 := (Lib.cell_of_heap KF.out.r 2).trans (show _ = some (sv x.box) from rfl)
    have g3 := (Lib.cell_of_heap KF.out.r 3).trans (show _ = some (sv []) from rfl)
    have g4 := (Lib.cell_of_heap KF.out.r 4).trans (show _ = some (.bool false) from rfl)
    have g5 := (Lib.cell_of_heap KF.out.r 5).trans (show _ = some (.slice none 0 0) from rfl)
    have g6 := (Lib.cell_of_heap KF.out.r 6).trans (show _ = some (.int .i64 0) from rfl)
    have g7 := (Lib.cell_of_heap KF.out.r 7).trans (show _ = some (.int .i64 0) from rfl)
    have g8 := (Lib.cell_of_heap KF.out.r 8).trans (show _ = some (sv []) from rfl)
    have g9 := (Lib.cell_of_heap KF.out.r 9).trans (show _ = some (.bool false) from rfl)
    have g10 := (Lib.cell_of_heap KF.out.r 10).trans (show _ = some (.slice none 0 0) from rfl)
    have HB := Lib.hid KF.out.b
    clear KF
    go_wp2
    exact bodyPost_ret (v := .tuple #[.agg #[sv x.tag, .int .i64 x.kind, sv x.box, sv [], .bool false, .slice none 0 0, .int .i64 0, .int .i64 0, sv [], .bool false, .slice none 0 0], .bool false]) (by simp [results, Try.results31, go_sem, g0, g1, g2, g3, g4, g5, g6, g7, g8, g9, g10]) rfl ⟨fin2 (by first | rfl | (rw [e0] <;> rfl)), HB.out⟩

set_option maxRecDepth 20000 in
set_option maxHeartbeats 6400000 in
theorem own_13 (x : CmdD) (p q : Option Addr) (c d : Nat) (w : World) (hk : x.kind = 13) (_ha : LfRd w (spnsLf x.sset) (.slice p x.sset.length c)) (_ha2 : LfRd w (scpsLf x.filter.scopes) (.slice q x.filter.scopes.length d)) (hs : szLs x.lf ≤ 1048576) (hbd : LsBnd x.lf) :
    Calls Try.prog 31 #[cmdv x (.slice p x.sset.length c) (.slice q x.filter.scopes.length d)] w fun e w' => e = .returned (.tuple #[.agg #[sv x.tag, .int .i64 x.kind, sv x.box, sv [], .bool false, .slice none 0 0, .int .i64 0, .int .i64 0, sv [], .bool false, .slice none 0 0], .bool (nameB x.box)]) ∧ Below w.heap.size w w' := by
  obtain ⟨_, z2, z3, z5, z8, z9, z10⟩ := CmdD.small hs
  obtain ⟨_, i6, i7, i5, i10⟩ := CmdD.bndO hbd
  have cname2 := fun W => implNameOk_any ⟨x.box.toArray⟩ W (by unfold maxLen; show x.box.toArray.size ≤ _; simp; omega)
  clear _ha _ha2 z2 z3 z5 z8 z9 z10 i6 i7 i5 i10 hs hbd
  have t1 : (x.kind == 1) = false := by rw [beq_eq_false_iff_ne]; omega
  have t3 : (x.kind == 3) = false := by rw [beq_eq_false_iff_ne]; omega
  have t4 : (x.kind == 4) = false := by rw [beq_eq_false_iff_ne]; omega
  have t5 : (x.kind == 5) = false := by rw [beq_eq_false_iff_ne]; omega
  have t9 : (x.kind == 9) = false := by rw [beq_eq_false_iff_ne]; omega
  have t15 : (x.kind == 15) = false := by rw [beq_eq_false_iff_ne]; omega
  have t2 : (x.kind == 2) = false := by rw [beq_eq_false_iff_ne]; omega
  have t12 : (x.kind == 12) = false := by rw [beq_eq_false_iff_ne]; omega
  have t13 : (x.kind == 13) = true := by rw [beq_iff_eq]; omega
  clear hk
  have Cname2 := Lib.hid cname2
  clear cname2
  go_enter Try.func31, Try.ntmps31
  go_wp2
  refine wp_named ?_
  intro X hX
  have H0 := Lib.hid (Own3.of hX)
  clear hX
  have K0 := Lib.hid H0.out
  clear H0
  have HS := Lib.hid (fun (W : World) (R : Array Value) (H : Own3 36 w W #[sv x.tag, .int .i64 x.kind, sv x.box, sv x.to, .bool x.uid, .slice p x.sset.length c, .int .i64 x.op, .int .i64 x.flags, sv x.text, .bool x.filter.on, .slice q x.filter.scopes.length d] R #[sv x.tag, .int .i64 x.kind, sv x.box, sv [], .bool false, .slice none 0 0, .int .i64 0, .int .i64 0, sv [], .bool false, .slice none 0 0]) => (⟨(Lib.cell_of_heap H.a 2).trans rfl, (Lib.cell_of_heap H.o 0).trans rfl, (Lib.cell_of_heap H.o 1).trans rfl, (Lib.cell_of_heap H.o 2).trans rfl, (Lib.cell_of_heap H.o 3).trans rfl, (Lib.cell_of_heap H.o 4).trans rfl, (Lib.cell_of_heap H.o 5).trans rfl, (Lib.cell_of_heap H.o 6).trans rfl, (Lib.cell_of_heap H.o 7).trans rfl, (Lib.cell_of_heap H.o 8).trans rfl, (Lib.cell_of_heap H.o 9).trans rfl, (Lib.cell_of_heap H.o 10).trans rfl⟩ : W.cell? ⟨w.heap.size, 2, none⟩ = some (sv x.box) ∧ W.cell? ⟨w.heap.size + 1 + 1, 0, none⟩ = some (sv x.tag) ∧ W.cell? ⟨w.heap.size + 1 + 1, 1, none⟩ = some (.int .i64 x.kind) ∧ W.cell? ⟨w.heap.size + 1 + 1, 2, none⟩ = some (sv x.box) ∧ W.cell? ⟨w.heap.size + 1 + 1, 3, none⟩ = some (sv []) ∧ W.cell? ⟨w.heap.size + 1 + 1, 4, none⟩ = some (.bool false) ∧ W.cell? ⟨w.heap.size + 1 + 1, 5, none⟩ = some (.slice none 0 0) ∧ W.cell? ⟨w.heap.size + 1 + 1, 6, none⟩ = some (.int .i64 0) ∧ W.cell? ⟨w.heap.size + 1 + 1, 7, none⟩ = some (.int .i64 0) ∧ W.cell? ⟨w.heap.size + 1 + 1, 8, none⟩ = some (sv []) ∧ W.cell? ⟨w.heap.size + 1 + 1, 9, none⟩ = some (.bool false) ∧ W.cell? ⟨w.heap.size + 1 + 1, 10, none⟩ = some (.slice none 0 0)))
  have hs0 := HS.out X.drew _ K0.out.drew
  cases e0 : (nameB x.box) with
  | true =>
    rw [show nameB (ByteArray.mk x.box.toArray).data.toList = true from e0] at Cname2
    refine ord_start [(0, true), (1, true), (2, true), (3, false), (4, false), (5, true)] (fun W => W.cell? ⟨w.heap.size, 2, none⟩ = some (sv x.box) ∧ W.cell? ⟨w.heap.size + 1 + 1, 0, none⟩ = some (sv x.tag) ∧ W.cell? ⟨w.heap.size + 1 + 1, 1, none⟩ = some (.int .i64 x.kind) ∧ W.cell? ⟨w.heap.size + 1 + 1, 2, none⟩ = some (sv x.box) ∧ W.cell? ⟨w.heap.size + 1 + 1, 3, none⟩ = some (sv []) ∧ W.cell? ⟨w.heap.size + 1 + 1, 4, none⟩ = some (.bool false) ∧ W.cell? ⟨w.heap.size + 1 + 1, 5, none⟩ = some (.slice none 0 0) ∧ W.cell? ⟨w.heap.size + 1 + 1, 6, none⟩ = some (.int .i64 0) ∧ W.cell? ⟨w.heap.size + 1 + 1, 7, none⟩ = some (.int .i64 0) ∧ W.cell? ⟨w.heap.size + 1 + 1, 8, none⟩ = some (sv []) ∧ W.cell? ⟨w.heap.size + 1 + 1, 9, none⟩ = some (.bool false) ∧ W.cell? ⟨w.heap.size + 1 + 1, 10, none⟩ = some (.slice none 0 0)) (by kernel_rfl) (by kernel_rfl) rfl (by kernel_rfl) ?_
    intro ops' hops
    simp only [List.map_cons, List.map_nil, pickOp_zero, pickOp_succ]
    iterate 3 (refine ord_flo ?_ (fun _ _ _ h => h) rfl ?_ hs0 ?_; rotate_left; focus (intro W hS; obtain ⟨s0, s1, s2, s3, s4, s5, s6, s7, s8, s9, s10, s11⟩ := hS; go_simp; rfl))
    try go_frame
    refine ord_ev rfl ?_
    go_simp
    refine (Cname2.out _).mono ?_
    rintro e w1 ⟨rfl, b1⟩
    have K1 := Lib.hid ((K0.out.drew).call b1)
    clear b1
    have hs1 := HS.out _ _ K1.out
    refine ⟨hs1, ?_⟩
    try go_frame
    refine ord_ev rfl ?_
    refine wp_store_row2 _ _ _ rfl (w.heap.size + 1) #[sv x.tag, .int .i64 x.kind, sv x.box, sv [], .bool false, .slice none 0 0, .int .i64 0, .int .i64 0, sv [], .bool false, .slice none 0 0] (by rfl) (by rfl) _ _ (K1.out).r (by kernel_rfl) rfl (by simp [Value.oneCell', sv]) ?_
    intro Z hZ
    have KF := Lib.hid (show Own3 _ w Z _ _ _ from by rw [hZ]; exact (K1.out).setR #[sv x.tag, .int .i64 x.kind, sv x.box, sv [], .bool false, .slice none 0 0, .int .i64 0, .int .i64 0, sv [], .bool false, .slice none 0 0])
    clear hZ
    refine ⟨HS.out _ _ KF.out, ?_⟩
    have hsf := HS.out _ _ KF.out
    iterate 1 (refine ord_flo ?_ (fun _ _ _ h => h) rfl ?_ hsf ?_; rotate_left; focus (intro W hS; obtain ⟨s0, s1, s2, s3, s4, s5, s6, s7, s8, s9, s10, s11⟩ := hS; go_simp; rfl))
    refine ord_done ?_
    go_simp
    clear HS hsf hs0 hs1
    have g0 := (Lib.cell_of_heap KF.out.r 0).trans (show _ = some (sv x.tag) from rfl)
    have g1 := (Lib.cell_of_heap KF.out.r 1).trans (show _ = some (.int .i64 x.kind) from rfl)
    have g2 := (Lib.cell_of_heap KF.out.r 2).trans (show _ = some (sv x.box) from rfl)
    have g3 := (Lib.cell_of_heap KF.out.r 3).trans (show _ = some (sv []) from rfl)
    have g4 := (Lib.cell_of_heap KF.out.r 4).trans (show _ = some (.bool false) from rfl)
    have g5 := (Lib.cell_of_heap KF.out.r 5).trans (show _ = some (.slice none 0 0) from rfl)
    have g6 := (Lib.cell_of_heap KF.out.r 6).trans (show _ = some (.int .i64 0) from rfl)
    have g7 := (Lib.cell_of_heap KF.out.r 7).trans (show _ = some (.int .i64 0) from rfl)
    have g8 := (Lib.cell_of_heap KF.out.r 8).trans (show _ = some (sv []) from rfl)
    have g9 := (Lib.cell_of_heap KF.out.r 9).trans (show _ = some (.bool false) from rfl)
    have g10 := (Lib.cell_of_heap KF.out.r 10).trans (show _ = some (.slice none 0 0) from rfl)
    have HB := Lib.hid KF.out.b
    clear KF
    go_wp2
    exact bodyPost_ret (v := .tuple #[.agg #[sv x.tag, .int .i64 x.kind, sv x.box, sv [], .bool false, .slice none 0 0, .int .i64 0, .int .i64 0, sv [], .bool false, .slice none 0 0], .bool true]) (by simp [results, Try.results31, go_sem, g0, g1, g2, g3, g4, g5, g6, g7, g8, g9, g10]) rfl ⟨fin2 (by first | rfl | (rw [e0] <;> rfl)), HB.out⟩
  | false =>
    rw [show nameB (ByteArray.mk x.box.toArray).data.toList = false from e0] at Cname2
    refine ord_start [(0, true), (1, true), (2, true), (3, false), (4, false), (5, true)] (fun W => W.cell? ⟨w.heap.size, 2, none⟩ = some (sv x.box) ∧ W.cell? ⟨w.heap.size + 1 + 1, 0, none⟩ = some (sv x.tag) ∧ W.cell? ⟨w.heap.size + 1 + 1, 1, none⟩ = some (.int .i64 x.kind) ∧ W.cell? ⟨w.heap.size + 1 + 1, 2, none⟩ = some (sv x.box) ∧ W.cell? ⟨w.heap.size + 1 + 1, 3, none⟩ = some (sv []) ∧ W.cell? ⟨w.heap.size + 1 + 1, 4, none⟩ = some (.bool false) ∧ W.cell? ⟨w.heap.size + 1 + 1, 5, none⟩ = some (.slice none 0 0) ∧ W.cell? ⟨w.heap.size + 1 + 1, 6, none⟩ = some (.int .i64 0) ∧ W.cell? ⟨w.heap.size + 1 + 1, 7, none⟩ = some (.int .i64 0) ∧ W.cell? ⟨w.heap.size + 1 + 1, 8, none⟩ = some (sv []) ∧ W.cell? ⟨w.heap.size + 1 + 1, 9, none⟩ = some (.bool false) ∧ W.cell? ⟨w.heap.size + 1 + 1, 10, none⟩ = some (.slice none 0 0)) (by kernel_rfl) (by kernel_rfl) rfl (by kernel_rfl) ?_
    intro ops' hops
    simp only [List.map_cons, List.map_nil, pickOp_zero, pickOp_succ]
    iterate 3 (refine ord_flo ?_ (fun _ _ _ h => h) rfl ?_ hs0 ?_; rotate_left; focus (intro W hS; obtain ⟨s0, s1, s2, s3, s4, s5, s6, s7, s8, s9, s10, s11⟩ := hS; go_simp; rfl))
    try go_frame
    refine ord_ev rfl ?_
    go_simp
    refine (Cname2.out _).mono ?_
    rintro e w1 ⟨rfl, b1⟩
    have K1 := Lib.hid ((K0.out.drew).call b1)
    clear b1
    have hs1 := HS.out _ _ K1.out
    refine ⟨hs1, ?_⟩
    try go_frame
    refine ord_ev rfl ?_
    refine wp_store_row2 _ _ _ rfl (w.heap.size + 1) #[sv x.tag, .int .i64 x.kind, sv x.box, sv [], .bool false, .slice none 0 0, .int .i64 0, .int .i64 0, sv [], .bool false, .slice none 0 0] (by rfl) (by rfl) _ _ (K1.out).r (by kernel_rfl) rfl (by simp [Value.oneCell', sv]) ?_
    intro Z hZ
    have KF := Lib.hid (show Own3 _ w Z _ _ _ from by rw [hZ]; exact (K1.out).setR #[sv x.tag, .int .i64 x.kind, sv x.box, sv [], .bool false, .slice none 0 0, .int .i64 0, .int .i64 0, sv [], .bool false, .slice none 0 0])
    clear hZ
    refine ⟨HS.out _ _ KF.out, ?_⟩
    have hsf := HS.out _ _ KF.out
    iterate 1 (refine ord_flo ?_ (fun _ _ _ h => h) rfl ?_ hsf ?_; rotate_left; focus (intro W hS; obtain ⟨s0, s1, s2, s3, s4, s5, s6, s7, s8, s9, s10, s11⟩ := hS; go_simp; rfl))
    refine ord_done ?_
    go_simp
    clear HS hsf hs0 hs1
    have g0 := (Lib.cell_of_heap KF.out.r 0).trans (show _ = some (sv x.tag) from rfl)
    have g1 := (Lib.cell_of_heap KF.out.r 1).trans (show _ = some (.int .i64 x.kind) from rfl)
    have g2 := (Lib.cell_of_heap KF.out.r 2).trans (show _ = some (sv x.box) from rfl)
    have g3 := (Lib.cell_of_heap KF.out.r 3).trans (show _ = some (sv []) from rfl)
    have g4 := (Lib.cell_of_heap KF.out.r 4).trans (show _ = some (.bool false) from rfl)
    have g5 := (Lib.cell_of_heap KF.out.r 5).trans (show _ = some (.slice none 0 0) from rfl)
    have g6 := (Lib.cell_of_heap KF.out.r 6).trans (show _ = some (.int .i64 0) from rfl)
    have g7 := (Lib.cell_of_heap KF.out.r 7).trans (show _ = some (.int .i64 0) from rfl)
    have g8 := (Lib.cell_of_heap KF.out.r 8).trans (show _ = some (sv []) from rfl)
    have g9 := (Lib.cell_of_heap KF.out.r 9).trans (show _ = some (.bool false) from rfl)
    have g10 := (Lib.cell_of_heap KF.out.r 10).trans (show _ = some (.slice none 0 0) from rfl)
    have HB := Lib.hid KF.out.b
    clear KF
    go_wp2
    exact bodyPost_ret (v := .tuple #[.agg #[sv x.tag, .int .i64 x.kind, sv x.box, sv [], .bool false, .slice none 0 0, .int .i64 0, .int .i64 0, sv [], .bool false, .slice none 0 0], .bool false]) (by simp [results, Try.results31, go_sem, g0, g1, g2, g3, g4, g5, g6, g7, g8, g9, g10]) rfl ⟨fin2 (by first | rfl | (rw [e0] <;> rfl)), HB.out⟩

set_option maxRecDepth 20000 in
set_option maxHeartbeats 6400000 in
theorem own_14 (x : CmdD) (p q : Option Addr) (c d : Nat) (w : World) (hk : x.kind = 14) (_ha : LfRd w (spnsLf x.sset) (.slice p x.sset.length c)) (_ha2 : LfRd w (scpsLf x.filter.scopes) (.slice q x.filter.scopes.length d)) (hs : szLs x.lf ≤ 1048576) (hbd : LsBnd x.lf) :
    Calls Try.prog 31 #[cmdv x (.slice p x.sset.length c) (.slice q x.filter.scopes.length d)] w fun e w' => e = .returned (.tuple #[.agg #[sv x.tag, .int .i64 x.kind, sv x.box, sv x.to, .bool false, .slice none 0 0, .int .i64 0, .int .i64 0, sv [], .bool false, .slice none 0 0], .bool (nameB x.box && nameB x.to)]) ∧ Below w.heap.size w w' := by
  obtain ⟨_, z2, z3, z5, z8, z9, z10⟩ := CmdD.small hs
  obtain ⟨_, i6, i7, i5, i10⟩ := CmdD.bndO hbd
  have cname2 := fun W => implNameOk_any ⟨x.box.toArray⟩ W (by unfold maxLen; show x.box.toArray.size ≤ _; simp; omega)
  have cname3 := fun W => implNameOk_any ⟨x.to.toArray⟩ W (by unfold maxLen; show x.to.toArray.size ≤ _; simp; omega)
  clear _ha _ha2 z2 z3 z5 z8 z9 z10 i6 i7 i5 i10 hs hbd
  have t1 : (x.kind == 1) = false := by rw [beq_eq_false_iff_ne]; omega
  have t3 : (x.kind == 3) = false := by rw [beq_eq_false_iff_ne]; omega
  have t4 : (x.kind == 4) = false := by rw [beq_eq_false_iff_ne]; omega
  have t5 : (x.kind == 5) = false := by rw [beq_eq_false_iff_ne]; omega
  have t9 : (x.kind == 9) = false := by rw [beq_eq_false_iff_ne]; omega
  have t15 : (x.kind == 15) = false := by rw [beq_eq_false_iff_ne]; omega
  have t2 : (x.kind == 2) = false := by rw [beq_eq_false_iff_ne]; omega
  have t12 : (x.kind == 12) = false := by rw [beq_eq_false_iff_ne]; omega
  have t13 : (x.kind == 13) = false := by rw [beq_eq_false_iff_ne]; omega
  have t14 : (x.kind == 14) = true := by rw [beq_iff_eq]; omega
  clear hk
  have Cname2 := Lib.hid cname2
  clear cname2
  have Cname3 := Lib.hid cname3
  clear cname3
  go_enter Try.func31, Try.ntmps31
  go_wp2
  refine wp_named ?_
  intro X hX
  have H0 := Lib.hid (Own3.of hX)
  clear hX
  have HS := Lib.hid (fun (W : World) (R O : Array Value) (H : Own3 36 w W #[sv x.tag, .int .i64 x.kind, sv x.box, sv x.to, .bool x.uid, .slice p x.sset.length c, .int .i64 x.op, .int .i64 x.flags, sv x.text, .bool x.filter.on, .slice q x.filter.scopes.length d] R O) => (⟨(Lib.cell_of_heap H.a 2).trans rfl, (Lib.cell_of_heap H.a 3).trans rfl⟩ : W.cell? ⟨w.heap.size, 2, none⟩ = some (sv x.box) ∧ W.cell? ⟨w.heap.size, 3, none⟩ = some (sv x.to)))
  have hs0 := HS.out X.drew _ _ H0.out.drew
  refine ord_start [(0, true), (1, true), (2, true), (3, true), (4, true), (5, false), (6, true), (7, false)] (fun W => W.cell? ⟨w.heap.size, 2, none⟩ = some (sv x.box) ∧ W.cell? ⟨w.heap.size, 3, none⟩ = some (sv x.to)) (by kernel_rfl) (by kernel_rfl) rfl (by kernel_rfl) ?_
  intro ops' hops
  clear hops
  simp only [List.map_cons, List.map_nil, pickOp_zero, pickOp_succ]
  iterate 5 (refine ord_flo ?_ (fun _ _ _ h => h) rfl ?_ hs0 ?_; rotate_left; focus (intro W hS; obtain ⟨s0, s1⟩ := hS; go_simp; rfl))
  go_frame
  refine ord_ev rfl ?_
  refine wp_store_cell _ _ _ rfl (w.heap.size + 1 + 1) 2 (sv x.box) (by rfl) (by rfl) _ _ (H0.out.drew).o (by simp) (by kernel_rfl) rfl rfl ?_
  intro X1 hX1
  have H1 := Lib.hid (show Own3 _ w X1 _ _ _ from by rw [hX1]; exact (H0.out.drew).setO 2 (sv x.box))
  clear hX1
  refine ⟨HS.out _ _ _ H1.out, ?_⟩
  have hs1 := HS.out _ _ _ H1.out
  iterate 1 (refine ord_flo ?_ (fun _ _ _ h => h) rfl ?_ hs1 ?_; rotate_left; focus (intro W hS; obtain ⟨s0, s1⟩ := hS; go_simp; rfl))
  go_frame
  refine ord_ev rfl ?_
  refine wp_store_cell _ _ _ rfl (w.heap.size + 1 + 1) 3 (sv x.to) (by rfl) (by rfl) _ _ (H1.out).o (by simp) (by kernel_rfl) rfl rfl ?_
  intro X2 hX2
  have H2 := Lib.hid (show Own3 _ w X2 _ _ _ from by rw [hX2]; exact (H1.out).setO 3 (sv x.to))
  clear hX2
  refine ⟨HS.out _ _ _ H2.out, ?_⟩
  have hs2 := HS.out _ _ _ H2.out
  refine ord_done ?_
  go_simp
  clear HS hs0 hs1 hs2
  go_wp2
  have K0 := Lib.hid H2.out
  clear H0 H1 H2
  have HS := Lib.hid (fun (W : World) (R : Array Value) (H : Own3 36 w W #[sv x.tag, .int .i64 x.kind, sv x.box, sv x.to, .bool x.uid, .slice p x.sset.length c, .int .i64 x.op, .int .i64 x.flags, sv x.text, .bool x.filter.on, .slice q x.filter.scopes.length d] R #[sv x.tag, .int .i64 x.kind, sv x.box, sv x.to, .bool false, .slice none 0 0, .int .i64 0, .int .i64 0, sv [], .bool false, .slice none 0 0]) => (⟨(Lib.cell_of_heap H.a 2).trans rfl, (Lib.cell_of_heap H.a 3).trans rfl, (Lib.cell_of_heap H.o 0).trans rfl, (Lib.cell_of_heap H.o 1).trans rfl, (Lib.cell_of_heap H.o 2).trans rfl, (Lib.cell_of_heap H.o 3).trans rfl, (Lib.cell_of_heap H.o 4).trans rfl, (Lib.cell_of_heap H.o 5).trans rfl, (Lib.cell_of_heap H.o 6).trans rfl, (Lib.cell_of_heap H.o 7).trans rfl, (Lib.cell_of_heap H.o 8).trans rfl, (Lib.cell_of_heap H.o 9).trans rfl, (Lib.cell_of_heap H.o 10).trans rfl⟩ : W.cell? ⟨w.heap.size, 2, none⟩ = some (sv x.box) ∧ W.cell? ⟨w.heap.size, 3, none⟩ = some (sv x.to) ∧ W.cell? ⟨w.heap.size + 1 + 1, 0, none⟩ = some (sv x.tag) ∧ W.cell? ⟨w.heap.size + 1 + 1, 1, none⟩ = some (.int .i64 x.kind) ∧ W.cell? ⟨w.heap.size + 1 + 1, 2, none⟩ = some (sv x.box) ∧ W.cell? ⟨w.heap.size + 1 + 1, 3, none⟩ = some (sv x.to) ∧ W.cell? ⟨w.heap.size + 1 + 1, 4, none⟩ = some (.bool false) ∧ W.cell? ⟨w.heap.size + 1 + 1, 5, none⟩ = some (.slice none 0 0) ∧ W.cell? ⟨w.heap.size + 1 + 1, 6, none⟩ = some (.int .i64 0) ∧ W.cell? ⟨w.heap.size + 1 + 1, 7, none⟩ = some (.int .i64 0) ∧ W.cell? ⟨w.heap.size + 1 + 1, 8, none⟩ = some (sv []) ∧ W.cell? ⟨w.heap.size + 1 + 1, 9, none⟩ = some (.bool false) ∧ W.cell? ⟨w.heap.size + 1 + 1, 10, none⟩ = some (.slice none 0 0)))
  have hs0 := HS.out X2.drew _ K0.out.drew
  cases e0 : (nameB x.box) with
  | true =>
    cases e1 : (nameB x.to) with
    | true =>
      rw [show nameB (ByteArray.mk x.box.toArray).data.toList = true from e0] at Cname2
      rw [show nameB (ByteArray.mk x.to.toArray).data.toList = true from e1] at Cname3
      refine ord_start [(0, true), (1, true), (2, true), (3, false), (4, true), (5, true), (6, true), (7, false), (8, true), (9, false), (10, true)] (fun W => W.cell? ⟨w.heap.size, 2, none⟩ = some (sv x.box) ∧ W.cell? ⟨w.heap.size, 3, none⟩ = some (sv x.to) ∧ W.cell? ⟨w.heap.size + 1 + 1, 0, none⟩ = some (sv x.tag) ∧ W.cell? ⟨w.heap.size + 1 + 1, 1, none⟩ = some (.int .i64 x.kind) ∧ W.cell? ⟨w.heap.size + 1 + 1, 2, none⟩ = some (sv x.box) ∧ W.cell? ⟨w.heap.size + 1 + 1, 3, none⟩ = some (sv x.to) ∧ W.cell? ⟨w.heap.size + 1 + 1, 4, none⟩ = some (.bool false) ∧ W.cell? ⟨w.heap.size + 1 + 1, 5, none⟩ = some (.slice none 0 0) ∧ W.cell? ⟨w.heap.size + 1 + 1, 6, none⟩ = some (.int .i64 0) ∧ W.cell? ⟨w.heap.size + 1 + 1, 7, none⟩ = some (.int .i64 0) ∧ W.cell? ⟨w.heap.size + 1 + 1, 8, none⟩ = some (sv []) ∧ W.cell? ⟨w.heap.size + 1 + 1, 9, none⟩ = some (.bool false) ∧ W.cell? ⟨w.heap.size + 1 + 1, 10, none⟩ = some (.slice none 0 0)) (by kernel_rfl) (by kernel_rfl) rfl (by kernel_rfl) ?_
      intro ops' hops
      simp only [List.map_cons, List.map_nil, pickOp_zero, pickOp_succ]
      iterate 3 (refine ord_flo ?_ (fun _ _ _ h => h) rfl ?_ hs0 ?_; rotate_left; focus (intro W hS; obtain ⟨s0, s1, s2, s3, s4, s5, s6, s7, s8, s9, s10, s11, s12⟩ := hS; go_simp; rfl))
      try go_frame
      refine ord_ev rfl ?_
      go_simp
      refine (Cname2.out _).mono ?_
      rintro e w1 ⟨rfl, b1⟩
      have K1 := Lib.hid ((K0.out.drew).call b1)
      clear b1
      have hs1 := HS.out _ _ K1.out
      refine ⟨hs1, ?_⟩
      iterate 1 (refine ord_flo ?_ (fun _ _ _ h => h) rfl ?_ hs1 ?_; rotate_left; focus (intro W hS; obtain ⟨s0, s1, s2, s3, s4, s5, s6, s7, s8, s9, s10, s11, s12⟩ := hS; go_simp; rfl))
      iterate 2 (refine ord_flo ?_ (fun _ _ _ h => h) (by rw [hops.out]; kernel_rfl) ?_ hs1 ?_; rotate_left; focus (intro W hS; obtain ⟨s0, s1, s2, s3, s4, s5, s6, s7, s8, s9, s10, s11, s12⟩ := hS; go_simp; rfl))
      try go_frame
      refine ord_ev (by rw [hops.out]; kernel_rfl) ?_
      go_simp
      refine (Cname3.out _).mono ?_
      rintro e w2 ⟨rfl, b2⟩
      have K2 := Lib.hid ((K1.out).call b2)
      clear b2
      have hs2 := HS.out _ _ K2.out
      refine ⟨hs2, ?_⟩
      iterate 1 (refine ord_flo ?_ (fun _ _ _ h => h) rfl ?_ hs2 ?_; rotate_left; focus (intro W hS; obtain ⟨s0, s1, s2, s3, s4, s5, s6, s7, s8, s9, s10, s11, s12⟩ := hS; go_simp; rfl))
      try go_frame
      refine ord_ev rfl ?_
      refine wp_store_row2 _ _ _ rfl (w.heap.size + 1) #[sv x.tag, .int .i64 x.kind, sv x.box, sv x.to, .bool false, .slice none 0 0, .int .i64 0, .int .i64 0, sv [], .bool false, .slice none 0 0] (by rfl) (by rfl) _ _ (K2.out).r (by kernel_rfl) rfl (by simp [Value.oneCell', sv]) ?_
      intro Z hZ
      have KF := Lib.hid (show Own3 _ w Z _ _ _ from by rw [hZ]; exact (K2.out).setR #[sv x.tag, .int .i64 x.kind, sv x.box, sv x.to, .bool false, .slice none 0 0, .int .i64 0, .int .i64 0, sv [], .bool false, .slice none 0 0])
      clear hZ
      refine ⟨HS.out _ _ KF.out, ?_⟩
      have hsf := HS.out _ _ KF.out
      iterate 1 (refine ord_flo ?_ (fun _ _ _ h => h) rfl ?_ hsf ?_; rotate_left; focus (intro W hS; obtain ⟨s0, s1, s2, s3, s4, s5, s6, s7, s8, s9, s10, s11, s12⟩ := hS; go_simp; rfl))
      refine ord_done ?_
      go_simp
      clear HS hsf hs0 hs1 hs2
      have g0 := (Lib.cell_of_heap KF.out.r 0).trans (show _ = some (sv x.tag) from rfl)
      have g1 := (Lib.cell_of_heap KF.out.r 1).trans (show _ = some (.int .i64 x.kind) from rfl)
      have g2 := (Lib.cell_of_heap KF.out.r 2).trans (show _ = some (sv x.box) from rfl)
      have g3 := (Lib.cell_of_heap KF.out.r 3).trans (show _ = some (sv x.to) from rfl)
      have g4 := (Lib.cell_of_heap KF.out.r 4).trans (show _ = some (.bool false) from rfl)
      have g5 := (Lib.cell_of_heap KF.out.r 5).trans (show _ = some (.slice none 0 0) from rfl)
      have g6 := (Lib.cell_of_heap KF.out.r 6).trans (show _ = some (.int .i64 0) from rfl)
      have g7 := (Lib.cell_of_heap KF.out.r 7).trans (show _ = some (.int .i64 0) from rfl)
      have g8 := (Lib.cell_of_heap KF.out.r 8).trans (show _ = some (sv []) from rfl)
      have g9 := (Lib.cell_of_heap KF.out.r 9).trans (show _ = some (.bool false) from rfl)
      have g10 := (Lib.cell_of_heap KF.out.r 10).trans (show _ = some (.slice none 0 0) from rfl)
      have HB := Lib.hid KF.out.b
      clear KF
      go_wp2
      exact bodyPost_ret (v := .tuple #[.agg #[sv x.tag, .int .i64 x.kind, sv x.box, sv x.to, .bool false, .slice none 0 0, .int .i64 0, .int .i64 0, sv [], .bool false, .slice none 0 0], .bool true]) (by simp [results, Try.results31, go_sem, g0, g1, g2, g3, g4, g5, g6, g7, g8, g9, g10]) rfl ⟨fin2 (by first | rfl | (rw [e0] <;> rfl) | (rw [e0, e1] <;> rfl)), HB.out⟩
    | false =>
      rw [show nameB (ByteArray.mk x.box.toArray).data.toList = true from e0] at Cname2
      rw [show nameB (ByteArray.mk x.to.toArray).data.toList = false from e1] at Cname3
      refine ord_start [(0, true), (1, true), (2, true), (3, false), (4, true), (5, true), (6, true), (7, false), (8, true), (9, false), (10, true)] (fun W => W.cell? ⟨w.heap.size, 2, none⟩ = some (sv x.box) ∧ W.cell? ⟨w.heap.size, 3, none⟩ = some (sv x.to) ∧ W.cell? ⟨w.heap.size + 1 + 1, 0, none⟩ = some (sv x.tag) ∧ W.cell? ⟨w.heap.size + 1 + 1, 1, none⟩ = some (.int .i64 x.kind) ∧ W.cell? ⟨w.heap.size + 1 + 1, 2, none⟩ = some (sv x.box) ∧ W.cell? ⟨w.heap.size + 1 + 1, 3, none⟩ = some (sv x.to) ∧ W.cell? ⟨w.heap.size + 1 + 1, 4, none⟩ = some (.bool false) ∧ W.cell? ⟨w.heap.size + 1 + 1, 5, none⟩ = some (.slice none 0 0) ∧ W.cell? ⟨w.heap.size + 1 + 1, 6, none⟩ = some (.int .i64 0) ∧ W.cell? ⟨w.heap.size + 1 + 1, 7, none⟩ = some (.int .i64 0) ∧ W.cell? ⟨w.heap.size + 1 + 1, 8, none⟩ = some (sv []) ∧ W.cell? ⟨w.heap.size + 1 + 1, 9, none⟩ = some (.bool false) ∧ W.cell? ⟨w.heap.size + 1 + 1, 10, none⟩ = some (.slice none 0 0)) (by kernel_rfl) (by kernel_rfl) rfl (by kernel_rfl) ?_
      intro ops' hops
      simp only [List.map_cons, List.map_nil, pickOp_zero, pickOp_succ]
      iterate 3 (refine ord_flo ?_ (fun _ _ _ h => h) rfl ?_ hs0 ?_; rotate_left; focus (intro W hS; obtain ⟨s0, s1, s2, s3, s4, s5, s6, s7, s8, s9, s10, s11, s12⟩ := hS; go_simp; rfl))
      try go_frame
      refine ord_ev rfl ?_
      go_simp
      refine (Cname2.out _).mono ?_
      rintro e w1 ⟨rfl, b1⟩
      have K1 := Lib.hid ((K0.out.drew).call b1)
      clear b1
      have hs1 := HS.out _ _ K1.out
      refine ⟨hs1, ?_⟩
      iterate 1 (refine ord_flo ?_ (fun _ _ _ h => h) rfl ?_ hs1 ?_; rotate_left; focus (intro W hS; obtain ⟨s0, s1, s2, s3, s4, s5, s6, s7, s8, s9, s10, s11, s12⟩ := hS; go_simp; rfl))
      iterate 2 (refine ord_flo ?_ (fun _ _ _ h => h) (by rw [hops.out]; kernel_rfl) ?_ hs1 ?_; rotate_left; focus (intro W hS; obtain ⟨s0, s1, s2, s3, s4, s5, s6, s7, s8, s9, s10, s11, s12⟩ := hS; go_simp; rfl))
      try go_frame
      refine ord_ev (by rw [hops.out]; kernel_rfl) ?_
      go_simp
      refine (Cname3.out _).mono ?_
      rintro e w2 ⟨rfl, b2⟩
      have K2 := Lib.hid ((K1.out).call b2)
      clear b2
      have hs2 := HS.out _ _ K2.out
      refine ⟨hs2, ?_⟩
      iterate 1 (refine ord_flo ?_ (fun _ _ _ h => h) rfl ?_ hs2 ?_; rotate_left; focus (intro W hS; obtain ⟨s0, s1, s2, s3, s4, s5, s6, s7, s8, s9, s10, s11, s12⟩ := hS; go_simp; rfl))
      try go_frame
      refine ord_ev rfl ?_
      refine wp_store_row2 _ _ _ rfl (w.heap.size + 1) #[sv x.tag, .int .i64 x.kind, sv x.box, sv x.to, .bool false, .slice none 0 0, .int .i64 0, .int .i64 0, sv [], .bool false, .slice none 0 0] (by rfl) (by rfl) _ _ (K2.out).r (by kernel_rfl) rfl (by simp [Value.oneCell', sv]) ?_
      intro Z hZ
      have KF := Lib.hid (show Own3 _ w Z _ _ _ from by rw [hZ]; exact (K2.out).setR #[sv x.tag, .int .i64 x.kind, sv x.box, sv x.to, .bool false, .slice none 0 0, .int .i64 0, .int .i64 0, sv [], .bool false, .slice none 0 0])
      clear hZ
      refine ⟨HS.out _ _ KF.out, ?_⟩
      have hsf := HS.out _ _ KF.out
      iterate 1 (refine ord_flo ?_ (fun _ _ _ h => h) rfl ?_ hsf ?_; rotate_left; focus (intro W hS; obtain ⟨s0, s1, s2, s3, s4, s5, s6, s7, s8, s9, s10, s11, s12⟩ := hS; go_simp; rfl))
      refine ord_done ?_
      go_simp
      clear HS hsf hs0 hs1 hs2
      have g0 := (Lib.cell_of_heap KF.out.r 0).trans (show _ = some (sv x.tag) from rfl)
      have g1 := (Lib.cell_of_heap KF.out.r 1).trans (show _ = some (.int .i64 x.kind) from rfl)
      have g2 := (Lib.cell_of_heap KF.out.r 2).trans (show _ = some (sv x.box) from rfl)
      have g3 := (Lib.cell_of_heap KF.out.r 3).trans (show _ = some (sv x.to) from rfl)
      have g4 := (Lib.cell_of_heap KF.out.r 4).trans (show _ = some (.bool false) from rfl)
      have g5 := (Lib.cell_of_heap KF.out.r 5).trans (show _ = some (.slice none 0 0) from rfl)
      have g6 := (Lib.cell_of_heap KF.out.r 6).trans (show _ = some (.int .i64 0) from rfl)
      have g7 := (Lib.cell_of_heap KF.out.r 7).trans (show _ = some (.int .i64 0) from rfl)
      have g8 := (Lib.cell_of_heap KF.out.r 8).trans (show _ = some (sv []) from rfl)
      have g9 := (Lib.cell_of_heap KF.out.r 9).trans (show _ = some (.bool false) from rfl)
      have g10 := (Lib.cell_of_heap KF.out.r 10).trans (show _ = some (.slice none 0 0) from rfl)
      have HB := Lib.hid KF.out.b
      clear KF
      go_wp2
      exact bodyPost_ret (v := .tuple #[.agg #[sv x.tag, .int .i64 x.kind, sv x.box, sv x.to, .bool false, .slice none 0 0, .int .i64 0, .int .i64 0, sv [], .bool false, .slice none 0 0], .bool false]) (by simp [results, Try.results31, go_sem, g0, g1, g2, g3, g4, g5, g6, g7, g8, g9, g10]) rfl ⟨fin2 (by first | rfl | (rw [e0] <;> rfl) | (rw [e0, e1] <;> rfl)), HB.out⟩
  | false =>
    rw [show nameB (ByteArray.mk x.box.toArray).data.toList = false from e0] at Cname2
    refine ord_start [(0, true), (1, true), (2, true), (3, false), (4, true), (5, true), (6, true), (7, false), (8, true), (9, false), (10, true)] (fun W => W.cell? ⟨w.heap.size, 2, none⟩ = some (sv x.box) ∧ W.cell? ⟨w.heap.size, 3, none⟩ = some (sv x.to) ∧ W.cell? ⟨w.heap.size + 1 + 1, 0, none⟩ = some (sv x.tag) ∧ W.cell? ⟨w.heap.size + 1 + 1, 1, none⟩ = some (.int .i64 x.kind) ∧ W.cell? ⟨w.heap.size + 1 + 1, 2, none⟩ = some (sv x.box) ∧ W.cell? ⟨w.heap.size + 1 + 1, 3, none⟩ = some (sv x.to) ∧ W.cell? ⟨w.heap.size + 1 + 1, 4, none⟩ = some (.bool false) ∧ W.cell? ⟨w.heap.size + 1 + 1, 5, none⟩ = some (.slice none 0 0) ∧ W.cell? ⟨w.heap.size + 1 + 1, 6, none⟩ = some (.int .i64 0) ∧ W.cell? ⟨w.heap.size + 1 + 1, 7, none⟩ = some (.int .i64 0) ∧ W.cell? ⟨w.heap.size + 1 + 1, 8, none⟩ = some (sv []) ∧ W.cell? ⟨w.heap.size + 1 + 1, 9, none⟩ = some (.bool false) ∧ W.cell? ⟨w.heap.size + 1 + 1, 10, none⟩ = some (.slice none 0 0)) (by kernel_rfl) (by kernel_rfl) rfl (by kernel_rfl) ?_
    intro ops' hops
    simp only [List.map_cons, List.map_nil, pickOp_zero, pickOp_succ]
    iterate 3 (refine ord_flo ?_ (fun _ _ _ h => h) rfl ?_ hs0 ?_; rotate_left; focus (intro W hS; obtain ⟨s0, s1, s2, s3, s4, s5, s6, s7, s8, s9, s10, s11, s12⟩ := hS; go_simp; rfl))
    try go_frame
    refine ord_ev rfl ?_
    go_simp
    refine (Cname2.out _).mono ?_
    rintro e w1 ⟨rfl, b1⟩
    have K1 := Lib.hid ((K0.out.drew).call b1)
    clear b1
    have hs1 := HS.out _ _ K1.out
    refine ⟨hs1, ?_⟩
    iterate 1 (refine ord_flo ?_ (fun _ _ _ h => h) rfl ?_ hs1 ?_; rotate_left; focus (intro W hS; obtain ⟨s0, s1, s2, s3, s4, s5, s6, s7, s8, s9, s10, s11, s12⟩ := hS; go_simp; rfl))
    iterate 2 (refine ord_not (fun _ _ _ h => h) (by rw [hops.out]; kernel_rfl) hs1 ?_)
    refine ord_evnot hs1 (by rw [hops.out]; kernel_rfl) ?_
    iterate 1 (refine ord_flo ?_ (fun _ _ _ h => h) rfl ?_ hs1 ?_; rotate_left; focus (intro W hS; obtain ⟨s0, s1, s2, s3, s4, s5, s6, s7, s8, s9, s10, s11, s12⟩ := hS; go_simp; rfl))
    try go_frame
    refine ord_ev rfl ?_
    refine wp_store_row2 _ _ _ rfl (w.heap.size + 1) #[sv x.tag, .int .i64 x.kind, sv x.box, sv x.to, .bool false, .slice none 0 0, .int .i64 0, .int .i64 0, sv [], .bool false, .slice none 0 0] (by rfl) (by rfl) _ _ (K1.out).r (by kernel_rfl) rfl (by simp [Value.oneCell', sv]) ?_
    intro Z hZ
    have KF := Lib.hid (show Own3 _ w Z _ _ _ from by rw [hZ]; exact (K1.out).setR #[sv x.tag, .int .i64 x.kind, sv x.box, sv x.to, .bool false, .slice none 0 0, .int .i64 0, .int .i64 0, sv [], .bool false, .slice none 0 0])
    clear hZ
    refine ⟨HS.out _ _ KF.out, ?_⟩
    have hsf := HS.out _ _ KF.out
    iterate 1 (refine ord_flo ?_ (fun _ _ _ h => h) rfl ?_ hsf ?_; rotate_left; focus (intro W hS; obtain ⟨s0, s1, s2, s3, s4, s5, s6, s7, s8, s9, s10, s11, s12⟩ := hS; go_simp; rfl))
    refine ord_done ?_
    go_simp
    clear HS hsf hs0 hs1
    have g0 := (Lib.cell_of_heap KF.out.r 0).trans (show _ = some (sv x.tag) from rfl)
    have g1 := (Lib.cell_of_heap KF.out.r 1).trans (show _ = some (.int .i64 x.kind) from rfl)
    have g2 := (Lib.cell_of_heap KF.out.r 2).trans (show _ = some (sv x.box) from rfl)
    have g3 := (Lib.cell_of_heap KF.out.r 3).trans (show _ = some (sv x.to) from rfl)
    have g4 := (Lib.cell_of_heap KF.out.r 4).trans (show _ = some (.bool false) from rfl)
    have g5 := (Lib.cell_of_heap KF.out.r 5).trans (show _ = some (.slice none 0 0) from rfl)
    have g6 := (Lib.cell_of_heap KF.out.r 6).trans (show _ = some (.int .i64 0) from rfl)
    have g7 := (Lib.cell_of_heap KF.out.r 7).trans (show _ = some (.int .i64 0) from rfl)
    have g8 := (Lib.cell_of_heap KF.out.r 8).trans (show _ = some (sv []) from rfl)
    have g9 := (Lib.cell_of_heap KF.out.r 9).trans (show _ = some (.bool false) from rfl)
    have g10 := (Lib.cell_of_heap KF.out.r 10).trans (show _ = some (.slice none 0 0) from rfl)
    have HB := Lib.hid KF.out.b
    clear KF
    go_wp2
    exact bodyPost_ret (v := .tuple #[.agg #[sv x.tag, .int .i64 x.kind, sv x.box, sv x.to, .bool false, .slice none 0 0, .int .i64 0, .int .i64 0, sv [], .bool false, .slice none 0 0], .bool false]) (by simp [results, Try.results31, go_sem, g0, g1, g2, g3, g4, g5, g6, g7, g8, g9, g10]) rfl ⟨fin2 (by first | rfl | (rw [e0] <;> rfl)), HB.out⟩

set_option maxRecDepth 20000 in
set_option maxHeartbeats 6400000 in
theorem own_11 (x : CmdD) (p q : Option Addr) (c d : Nat) (w : World) (hk : x.kind = 11) (_ha : LfRd w (spnsLf x.sset) (.slice p x.sset.length c)) (_ha2 : LfRd w (scpsLf x.filter.scopes) (.slice q x.filter.scopes.length d)) (hs : szLs x.lf ≤ 1048576) (hbd : LsBnd x.lf) :
    Calls Try.prog 31 #[cmdv x (.slice p x.sset.length c) (.slice q x.filter.scopes.length d)] w fun e w' => e = .returned (.tuple #[.agg #[sv x.tag, .int .i64 x.kind, sv x.box, sv [], .bool false, .slice none 0 0, .int .i64 0, .int .i64 x.flags, sv x.text, .bool false, .slice none 0 0], .bool (nameB x.box && flB x.flags && decide ((x.text.length : Int) ≤ 40))]) ∧ Below w.heap.size w w' := by
  obtain ⟨_, z2, z3, z5, z8, z9, z10⟩ := CmdD.small hs
  obtain ⟨_, i6, i7, i5, i10⟩ := CmdD.bndO hbd
  have cname2 := fun W => implNameOk_any ⟨x.box.toArray⟩ W (by unfold maxLen; show x.box.toArray.size ≤ _; simp; omega)
  have cflags7 := fun W => implFlagsOk_at x.flags W
  clear _ha _ha2 z2 z3 z5 z8 z9 z10 i6 i7 i5 i10 hs hbd
  have t1 : (x.kind == 1) = false := by rw [beq_eq_false_iff_ne]; omega
  have t3 : (x.kind == 3) = false := by rw [beq_eq_false_iff_ne]; omega
  have t4 : (x.kind == 4) = false := by rw [beq_eq_false_iff_ne]; omega
  have t5 : (x.kind == 5) = false := by rw [beq_eq_false_iff_ne]; omega
  have t9 : (x.kind == 9) = false := by rw [beq_eq_false_iff_ne]; omega
  have t15 : (x.kind == 15) = false := by rw [beq_eq_false_iff_ne]; omega
  have t2 : (x.kind == 2) = false := by rw [beq_eq_false_iff_ne]; omega
  have t12 : (x.kind == 12) = false := by rw [beq_eq_false_iff_ne]; omega
  have t13 : (x.kind == 13) = false := by rw [beq_eq_false_iff_ne]; omega
  have t14 : (x.kind == 14) = false := by rw [beq_eq_false_iff_ne]; omega
  have t11 : (x.kind == 11) = true := by rw [beq_iff_eq]; omega
  clear hk
  have Cname2 := Lib.hid cname2
  clear cname2
  have Cflags7 := Lib.hid cflags7
  clear cflags7
  go_enter Try.func31, Try.ntmps31
  go_wp2
  refine wp_named ?_
  intro X hX
  have H0 := Lib.hid (Own3.of hX)
  clear hX
  have HS := Lib.hid (fun (W : World) (R O : Array Value) (H : Own3 36 w W #[sv x.tag, .int .i64 x.kind, sv x.box, sv x.to, .bool x.uid, .slice p x.sset.length c, .int .i64 x.op, .int .i64 x.flags, sv x.text, .bool x.filter.on, .slice q x.filter.scopes.length d] R O) => (⟨(Lib.cell_of_heap H.a 2).trans rfl, (Lib.cell_of_heap H.a 7).trans rfl, (Lib.cell_of_heap H.a 8).trans rfl⟩ : W.cell? ⟨w.heap.size, 2, none⟩ = some (sv x.box) ∧ W.cell? ⟨w.heap.size, 7, none⟩ = some (.int .i64 x.flags) ∧ W.cell? ⟨w.heap.size, 8, none⟩ = some (sv x.text)))
  have hs0 := HS.out X.drew _ _ H0.out.drew
  refine ord_start [(0, true), (1, true), (2, true), (3, true), (4, true), (5, true), (6, true), (7, false), (8, true), (9, false), (10, true), (11, false)] (fun W => W.cell? ⟨w.heap.size, 2, none⟩ = some (sv x.box) ∧ W.cell? ⟨w.heap.size, 7, none⟩ = some (.int .i64 x.flags) ∧ W.cell? ⟨w.heap.size, 8, none⟩ = some (sv x.text)) (by kernel_rfl) (by kernel_rfl) rfl (by kernel_rfl) ?_
  intro ops' hops
  clear hops
  simp only [List.map_cons, List.map_nil, pickOp_zero, pickOp_succ]
  iterate 7 (refine ord_flo ?_ (fun _ _ _ h => h) rfl ?_ hs0 ?_; rotate_left; focus (intro W hS; obtain ⟨s0, s1, s2⟩ := hS; go_simp; rfl))
  go_frame
  refine ord_ev rfl ?_
  refine wp_store_cell _ _ _ rfl (w.heap.size + 1 + 1) 2 (sv x.box) (by rfl) (by rfl) _ _ (H0.out.drew).o (by simp) (by kernel_rfl) rfl rfl ?_
  intro X1 hX1
  have H1 := Lib.hid (show Own3 _ w X1 _ _ _ from by rw [hX1]; exact (H0.out.drew).setO 2 (sv x.box))
  clear hX1
  refine ⟨HS.out _ _ _ H1.out, ?_⟩
  have hs1 := HS.out _ _ _ H1.out
  iterate 1 (refine ord_flo ?_ (fun _ _ _ h => h) rfl ?_ hs1 ?_; rotate_left; focus (intro W hS; obtain ⟨s0, s1, s2⟩ := hS; go_simp; rfl))
  go_frame
  refine ord_ev rfl ?_
  refine wp_store_cell _ _ _ rfl (w.heap.size + 1 + 1) 7 (.int .i64 x.flags) (by rfl) (by rfl) _ _ (H1.out).o (by simp) (by kernel_rfl) rfl rfl ?_
  intro X2 hX2
  have H2 := Lib.hid (show Own3 _ w X2 _ _ _ from by rw [hX2]; exact (H1.out).setO 7 (.int .i64 x.flags))
  clear hX2
  refine ⟨HS.out _ _ _ H2.out, ?_⟩
  have hs2 := HS.out _ _ _ H2.out
  iterate 1 (refine ord_flo ?_ (fun _ _ _ h => h) rfl ?_ hs2 ?_; rotate_left; focus (intro W hS; obtain ⟨s0, s1, s2⟩ := hS; go_simp; rfl))
  go_frame
  refine ord_ev rfl ?_
  refine wp_store_cell _ _ _ rfl (w.heap.size + 1 + 1) 8 (sv x.text) (by rfl) (by rfl) _ _ (H2.out).o (by simp) (by kernel_rfl) rfl rfl ?_
  intro X3 hX3
  have H3 := Lib.hid (show Own3 _ w X3 _ _ _ from by rw [hX3]; exact (H2.out).setO 8 (sv x.text))
  clear hX3
  refine ⟨HS.out _ _ _ H3.out, ?_⟩
  have hs3 := HS.out _ _ _ H3.out
  refine ord_done ?_
  go_simp
  clear HS hs0 hs1 hs2 hs3
  go_wp2
  have K0 := Lib.hid H3.out
  clear H0 H1 H2 H3
  have HS := Lib.hid (fun (W : World) (R : Array Value) (H : Own3 36 w W #[sv x.tag, .int .i64 x.kind, sv x.box, sv x.to, .bool x.uid, .slice p x.sset.length c, .int .i64 x.op, .int .i64 x.flags, sv x.text, .bool x.filter.on, .slice q x.filter.scopes.length d] R #[sv x.tag, .int .i64 x.kind, sv x.box, sv [], .bool false, .slice none 0 0, .int .i64 0, .int .i64 x.flags, sv x.text, .bool false, .slice none 0 0]) => (⟨(Lib.cell_of_heap H.a 2).trans rfl, (Lib.cell_of_heap H.a 7).trans rfl, (Lib.cell_of_heap H.a 8).trans rfl, (Lib.cell_of_heap H.o 0).trans rfl, (Lib.cell_of_heap H.o 1).trans rfl, (Lib.cell_of_heap H.o 2).trans rfl, (Lib.cell_of_heap H.o 3).trans rfl, (Lib.cell_of_heap H.o 4).trans rfl, (Lib.cell_of_heap H.o 5).trans rfl, (Lib.cell_of_heap H.o 6).trans rfl, (Lib.cell_of_heap H.o 7).trans rfl, (Lib.cell_of_heap H.o 8).trans rfl, (Lib.cell_of_heap H.o 9).trans rfl, (Lib.cell_of_heap H.o 10).trans rfl⟩ : W.cell? ⟨w.heap.size, 2, none⟩ = some (sv x.box) ∧ W.cell? ⟨w.heap.size, 7, none⟩ = some (.int .i64 x.flags) ∧ W.cell? ⟨w.heap.size, 8, none⟩ = some (sv x.text) ∧ W.cell? ⟨w.heap.size + 1 + 1, 0, none⟩ = some (sv x.tag) ∧ W.cell? ⟨w.heap.size + 1 + 1, 1, none⟩ = some (.int .i64 x.kind) ∧ W.cell? ⟨w.heap.size + 1 + 1, 2, none⟩ = some (sv x.box) ∧ W.cell? ⟨w.heap.size + 1 + 1, 3, none⟩ = some (sv []) ∧ W.cell? ⟨w.heap.size + 1 + 1, 4, none⟩ = some (.bool false) ∧ W.cell? ⟨w.heap.size + 1 + 1, 5, none⟩ = some (.slice none 0 0) ∧ W.cell? ⟨w.heap.size + 1 + 1, 6, none⟩ = some (.int .i64 0) ∧ W.cell? ⟨w.heap.size + 1 + 1, 7, none⟩ = some (.int .i64 x.flags) ∧ W.cell? ⟨w.heap.size + 1 + 1, 8, none⟩ = some (sv x.text) ∧ W.cell? ⟨w.heap.size + 1 + 1, 9, none⟩ = some (.bool false) ∧ W.cell? ⟨w.heap.size + 1 + 1, 10, none⟩ = some (.slice none 0 0)))
  have hs0 := HS.out X3.drew _ K0.out.drew
  cases e0 : (nameB x.box) with
  | true =>
    cases e1 : (flB x.flags) with
    | true =>
      cases e2 : (decide ((x.text.length : Int) ≤ 40)) with
      | true =>
        rw [show nameB (ByteArray.mk x.box.toArray).data.toList = true from e0] at Cname2
        rw [e1] at Cflags7
        have elen : (x.text.length : Int) ≤ 40 := of_decide_eq_true e2
        refine ord_start [(0, true), (1, true), (2, true), (3, false), (4, true), (5, true), (6, true), (7, false), (8, true), (9, true), (10, true), (11, true), (12, true), (13, true), (14, true), (15, false), (16, true)] (fun W => W.cell? ⟨w.heap.size, 2, none⟩ = some (sv x.box) ∧ W.cell? ⟨w.heap.size, 7, none⟩ = some (.int .i64 x.flags) ∧ W.cell? ⟨w.heap.size, 8, none⟩ = some (sv x.text) ∧ W.cell? ⟨w.heap.size + 1 + 1, 0, none⟩ = some (sv x.tag) ∧ W.cell? ⟨w.heap.size + 1 + 1, 1, none⟩ = some (.int .i64 x.kind) ∧ W.cell? ⟨w.heap.size + 1 + 1, 2, none⟩ = some (sv x.box) ∧ W.cell? ⟨w.heap.size + 1 + 1, 3, none⟩ = some (sv []) ∧ W.cell? ⟨w.heap.size + 1 + 1, 4, none⟩ = some (.bool false) ∧ W.cell? ⟨w.heap.size + 1 + 1, 5, none⟩ = some (.slice none 0 0) ∧ W.cell? ⟨w.heap.size + 1 + 1, 6, none⟩ = some (.int .i64 0) ∧ W.cell? ⟨w.heap.size + 1 + 1, 7, none⟩ = some (.int .i64 x.flags) ∧ W.cell? ⟨w.heap.size + 1 + 1, 8, none⟩ = some (sv x.text) ∧ W.cell? ⟨w.heap.size + 1 + 1, 9, none⟩ = some (.bool false) ∧ W.cell? ⟨w.heap.size + 1 + 1, 10, none⟩ = some (.slice none 0 0)) (by kernel_rfl) (by kernel_rfl) rfl (by kernel_rfl) ?_
        intro ops' hops
        simp only [List.map_cons, List.map_nil, pickOp_zero, pickOp_succ]
        iterate 3 (refine ord_flo ?_ (fun _ _ _ h => h) rfl ?_ hs0 ?_; rotate_left; focus (intro W hS; obtain ⟨s0, s1, s2, s3, s4, s5, s6, s7, s8, s9, s10, s11, s12, s13⟩ := hS; go_simp; rfl))
        try go_frame
        refine ord_ev rfl ?_
        go_simp
        refine (Cname2.out _).mono ?_
        rintro e w1 ⟨rfl, b1⟩
        have K1 := Lib.hid ((K0.out.drew).call b1)
        clear b1
        have hs1 := HS.out _ _ K1.out
        refine ⟨hs1, ?_⟩
        iterate 1 (refine ord_flo ?_ (fun _ _ _ h => h) rfl ?_ hs1 ?_; rotate_left; focus (intro W hS; obtain ⟨s0, s1, s2, s3, s4, s5, s6, s7, s8, s9, s10, s11, s12, s13⟩ := hS; go_simp; rfl))
        iterate 2 (refine ord_flo ?_ (fun _ _ _ h => h) (by rw [hops.out]; kernel_rfl) ?_ hs1 ?_; rotate_left; focus (intro W hS; obtain ⟨s0, s1, s2, s3, s4, s5, s6, s7, s8, s9, s10, s11, s12, s13⟩ := hS; go_simp; rfl))
        try go_frame
        refine ord_ev (by rw [hops.out]; kernel_rfl) ?_
        go_simp
        refine (Cflags7.out _).mono ?_
        rintro e w2 ⟨rfl, rfl⟩
        have K2 := Lib.hid (K1.out)
        have hs2 := HS.out _ _ K2.out
        refine ⟨hs2, ?_⟩
        iterate 2 (refine ord_flo ?_ (fun _ _ _ h => h) rfl ?_ hs2 ?_; rotate_left; focus (intro W hS; obtain ⟨s0, s1, s2, s3, s4, s5, s6, s7, s8, s9, s10, s11, s12, s13⟩ := hS; go_simp; rfl))
        iterate 4 (refine ord_flo ?_ (fun _ _ _ h => h) (by rw [hops.out]; kernel_rfl) ?_ hs2 ?_; rotate_left; focus (intro W hS; obtain ⟨s0, s1, s2, s3, s4, s5, s6, s7, s8, s9, s10, s11, s12, s13⟩ := hS; go_simp; rfl))
        iterate 1 (refine ord_flo ?_ (fun _ _ _ h => h) rfl ?_ hs2 ?_; rotate_left; focus (intro W hS; obtain ⟨s0, s1, s2, s3, s4, s5, s6, s7, s8, s9, s10, s11, s12, s13⟩ := hS; go_simp; rfl))
        try go_frame
        refine ord_ev rfl ?_
        refine wp_store_row2 _ _ _ rfl (w.heap.size + 1) #[sv x.tag, .int .i64 x.kind, sv x.box, sv [], .bool false, .slice none 0 0, .int .i64 0, .int .i64 x.flags, sv x.text, .bool false, .slice none 0 0] (by rfl) (by rfl) _ _ (K2.out).r (by kernel_rfl) rfl (by simp [Value.oneCell', sv]) ?_
        intro Z hZ
        have KF := Lib.hid (show Own3 _ w Z _ _ _ from by rw [hZ]; exact (K2.out).setR #[sv x.tag, .int .i64 x.kind, sv x.box, sv [], .bool false, .slice none 0 0, .int .i64 0, .int .i64 x.flags, sv x.text, .bool false, .slice none 0 0])
        clear hZ
        refine ⟨HS.out _ _ KF.out, ?_⟩
        have hsf := HS.out _ _ KF.out
        iterate 1 (refine ord_flo ?_ (fun _ _ _ h => h) rfl ?_ hsf ?_; rotate_left; focus (intro W hS; obtain ⟨s0, s1, s2, s3, s4, s5, s6, s7, s8, s9, s10, s11, s12, s13⟩ := hS; go_simp; rfl))
        refine ord_done ?_
        go_simp
        clear HS hsf hs0 hs1 hs2
        have g0 := (Lib.cell_of_heap KF.out.r 0).trans (show _ = some (sv x.tag) from rfl)
        have g1 := (Lib.cell_of_heap KF.out.r 1).trans (show _ = some (.int .i64 x.kind) from rfl)
        have g2 := (Lib.cell_of_heap KF.out.r 2).trans (show _ = some (sv x.box) from rfl)
        have g3 := (Lib.cell_of_heap KF.out.r 3).trans (show _ = some (sv []) from rfl)
        have g4 := (Lib.cell_of_heap KF.out.r 4).trans (show _ = some (.bool false) from rfl)
        have g5 := (Lib.cell_of_heap KF.out.r 5).trans (show _ = some (.slice none 0 0) from rfl)
        have g6 := (Lib.cell_of_heap KF.out.r 6).trans (show _ = some (.int .i64 0) from rfl)
        have g7 := (Lib.cell_of_heap KF.out.r 7).trans (show _ = some (.int .i64 x.flags) from rfl)
        have g8 := (Lib.cell_of_heap KF.out.r 8).trans (show _ = some (sv x.text) from rfl)
        have g9 := (Lib.cell_of_heap KF.out.r 9).trans (show _ = some (.bool false) from rfl)
        have g10 := (Lib.cell_of_heap KF.out.r 10).trans (show _ = some (.slice none 0 0) from rfl)
        have HB := Lib.hid KF.out.b
        clear KF
        go_wp2
        exact bodyPost_ret (v := .tuple #[.agg #[sv x.tag, .int .i64 x.kind, sv x.box, sv [], .bool false, .slice none 0 0, .int .i64 0, .int .i64 x.flags, sv x.text, .bool false, .slice none 0 0], .bool true]) (by simp [results, Try.results31, go_sem, g0, g1, g2, g3, g4, g5, g6, g7, g8, g9, g10]) rfl ⟨fin2 (by first | rfl | (rw [e0] <;> rfl) | (rw [e0, e1] <;> rfl) | (rw [e0, e1, e2] <;> rfl)), HB.out⟩
      | false =>
        rw [show nameB (ByteArray.mk x.box.toArray).data.toList = true from e0] at Cname2
        rw [e1] at Cflags7
        have elen : ¬ (x.text.length : Int) ≤ 40 := of_decide_eq_false e2
        refine ord_start [(0, true), (1, true), (2, true), (3, false), (4, true), (5, true), (6, true), (7, false), (8, true), (9, true), (10, true), (11, true), (12, true), (13, true), (14, true), (15, false), (16, true)] (fun W => W.cell? ⟨w.heap.size, 2, none⟩ = some (sv x.box) ∧ W.cell? ⟨w.heap.size, 7, none⟩ = some (.int .i64 x.flags) ∧ W.cell? ⟨w.heap.size, 8, none⟩ = some (sv x.text) ∧ W.cell? ⟨w.heap.size + 1 + 1, 0, none⟩ = some (sv x.tag) ∧ W.cell? ⟨w.heap.size + 1 + 1, 1, none⟩ = some (.int .i64 x.kind) ∧ W.cell? ⟨w.heap.size + 1 + 1, 2, none⟩ = some (sv x.box) ∧ W.cell? ⟨w.heap.size + 1 + 1, 3, none⟩ = some (sv []) ∧ W.cell? ⟨w.heap.size + 1 + 1, 4, none⟩ = some (.bool false) ∧ W.cell? ⟨w.heap.size + 1 + 1, 5, none⟩ = some (.slice none 0 0) ∧ W.cell? ⟨w.heap.size + 1 + 1, 6, none⟩ = some (.int .i64 0) ∧ W.cell? ⟨w.heap.size + 1 + 1, 7, none⟩ = some (.int .i64 x.flags) ∧ W.cell? ⟨w.heap.size + 1 + 1, 8, none⟩ = some (sv x.text) ∧ W.cell? ⟨w.heap.size + 1 + 1, 9, none⟩ = some (.bool false) ∧ W.cell? ⟨w.heap.size + 1 + 1, 10, none⟩ = some (.slice none 0 0)) (by kernel_rfl) (by kernel_rfl) rfl (by kernel_rfl) ?_
        intro ops' hops
        simp only [List.map_cons, List.map_nil, pickOp_zero, pickOp_succ]
        iterate 3 (refine ord_flo ?_ (fun _ _ _ h => h) rfl ?_ hs0 ?_; rotate_left; focus (intro W hS; obtain ⟨s0, s1, s2, s3, s4, s5, s6, s7, s8, s9, s10, s11, s12, s13⟩ := hS; go_simp; rfl))
        try go_frame
        refine ord_ev rfl ?_
        go_simp
        refine (Cname2.out _).mono ?_
        rintro e w1 ⟨rfl, b1⟩
        have K1 := Lib.hid ((K0.out.drew).call b1)
        clear b1
        have hs1 := HS.out _ _ K1.out
        refine ⟨hs1, ?_⟩
        iterate 1 (refine ord_flo ?_ (fun _ _ _ h => h) rfl ?_ hs1 ?_; rotate_left; focus (intro W hS; obtain ⟨s0, s1, s2, s3, s4, s5, s6, s7, s8, s9, s10, s11, s12, s13⟩ := hS; go_simp; rfl))
        iterate 2 (refine ord_flo ?_ (fun _ _ _ h => h) (by rw [hops.out]; kernel_rfl) ?_ hs1 ?_; rotate_left; focus (intro W hS; obtain ⟨s0, s1, s2, s3, s4, s5, s6, s7, s8, s9, s10, s11, s12, s13⟩ := hS; go_simp; rfl))
        try go_frame
        refine ord_ev (by rw [hops.out]; kernel_rfl) ?_
        go_simp
        refine (Cflags7.out _).mono ?_
        rintro e w2 ⟨rfl, rfl⟩
        have K2 := Lib.hid (K1.out)
        have hs2 := HS.out _ _ K2.out
        refine ⟨hs2, ?_⟩
        iterate 2 (refine ord_flo ?_ (fun _ _ _ h => h) rfl ?_ hs2 ?_; rotate_left; focus (intro W hS; obtain ⟨s0, s1, s2, s3, s4, s5, s6, s7, s8, s9, s10, s11, s12, s13⟩ := hS; go_simp; rfl))
        iterate 4 (refine ord_flo ?_ (fun _ _ _ h => h) (by rw [hops.out]; kernel_rfl) ?_ hs2 ?_; rotate_left; focus (intro W hS; obtain ⟨s0, s1, s2, s3, s4, s5, s6, s7, s8, s9, s10, s11, s12, s13⟩ := hS; go_simp; rfl))
        iterate 1 (refine ord_flo ?_ (fun _ _ _ h => h) rfl ?_ hs2 ?_; rotate_left; focus (intro W hS; obtain ⟨s0, s1, s2, s3, s4, s5, s6, s7, s8, s9, s10, s11, s12, s13⟩ := hS; go_simp; rfl))
        try go_frame
        refine ord_ev rfl ?_
        refine wp_store_row2 _ _ _ rfl (w.heap.size + 1) #[sv x.tag, .int .i64 x.kind, sv x.box, sv [], .bool false, .slice none 0 0, .int .i64 0, .int .i64 x.flags, sv x.text, .bool false, .slice none 0 0] (by rfl) (by rfl) _ _ (K2.out).r (by kernel_rfl) rfl (by simp [Value.oneCell', sv]) ?_
        intro Z hZ
        have KF := Lib.hid (show Own3 _ w Z _ _ _ from by rw [hZ]; exact (K2.out).setR #[sv x.tag, .int .i64 x.kind, sv x.box, sv [], .bool false, .slice none 0 0, .int .i64 0, .int .i64 x.flags, sv x.text, .bool false, .slice none 0 0])
        clear hZ
        refine ⟨HS.out _ _ KF.out, ?_⟩
        have hsf := HS.out _ _ KF.out
        iterate 1 (refine ord_flo ?_ (fun _ _ _ h => h) rfl ?_ hsf ?_; rotate_left; focus (intro W hS; obtain ⟨s0, s1, s2, s3, s4, s5, s6, s7, s8, s9, s10, s11, s12, s13⟩ := hS; go_simp; rfl))
        refine ord_done ?_
        go_simp
        clear HS hsf hs0 hs1 hs2
        have g0 := (Lib.cell_of_heap KF.out.r 0).trans (show _ = some (sv x.tag) from rfl)
        have g1 := (Lib.cell_of_heap KF.out.r 1).trans (show _ = some (.int .i64 x.kind) from rfl)
        have g2 := (Lib.cell_of_heap KF.out.r 2).trans (show _ = some (sv x.box) from rfl)
        have g3 := (Lib.cell_of_heap KF.out.r 3).trans (show _ = some (sv []) from rfl)
        have g4 := (Lib.cell_of_heap KF.out.r 4).trans (show _ = some (.bool false) from rfl)
        have g5 := (Lib.cell_of_heap KF.out.r 5).trans (show _ = some (.slice none 0 0) from rfl)
        have g6 := (Lib.cell_of_heap KF.out.r 6).trans (show _ = some (.int .i64 0) from rfl)
        have g7 := (Lib.cell_of_heap KF.out.r 7).trans (show _ = some (.int .i64 x.flags) from rfl)
        have g8 := (Lib.cell_of_heap KF.out.r 8).trans (show _ = some (sv x.text) from rfl)
        have g9 := (Lib.cell_of_heap KF.out.r 9).trans (show _ = some (.bool false) from rfl)
        have g10 := (Lib.cell_of_heap KF.out.r 10).trans (show _ = some (.slice none 0 0) from rfl)
        have HB := Lib.hid KF.out.b
        clear KF
        go_wp2
        exact bodyPost_ret (v := .tuple #[.agg #[sv x.tag, .int .i64 x.kind, sv x.box, sv [], .bool false, .slice none 0 0, .int .i64 0, .int .i64 x.flags, sv x.text, .bool false, .slice none 0 0], .bool false]) (by simp [results, Try.results31, go_sem, g0, g1, g2, g3, g4, g5, g6, g7, g8, g9, g10]) rfl ⟨fin2 (by first | rfl | (rw [e0] <;> rfl) | (rw [e0, e1] <;> rfl) | (rw [e0, e1, e2] <;> rfl)), HB.out⟩
    | false =>
      rw [show nameB (ByteArray.mk x.box.toArray).data.toList = true from e0] at Cname2
      rw [e1] at Cflags7
      refine ord_start [(0, true), (1, true), (2, true), (3, false), (4, true), (5, true), (6, true), (7, false), (8, true), (9, true), (10, true), (11, true), (12, true), (13, true), (14, true), (15, false), (16, true)] (fun W => W.cell? ⟨w.heap.size, 2, none⟩ = some (sv x.box) ∧ W.cell? ⟨w.heap.size, 7, none⟩ = some (.int .i64 x.flags) ∧ W.cell? ⟨w.heap.size, 8, none⟩ = some (sv x.text) ∧ W.cell? ⟨w.heap.size + 1 + 1, 0, none⟩ = some (sv x.tag) ∧ W.cell? ⟨w.heap.size + 1 + 1, 1, none⟩ = some (.int .i64 x.kind) ∧ W.cell? ⟨w.heap.size + 1 + 1, 2, none⟩ = some (sv x.box) ∧ W.cell? ⟨w.heap.size + 1 + 1, 3, none⟩ = some (sv []) ∧ W.cell? ⟨w.heap.size + 1 + 1, 4, none⟩ = some (.bool false) ∧ W.cell? ⟨w.heap.size + 1 + 1, 5, none⟩ = some (.slice none 0 0) ∧ W.cell? ⟨w.heap.size + 1 + 1, 6, none⟩ = some (.int .i64 0) ∧ W.cell? ⟨w.heap.size + 1 + 1, 7, none⟩ = some (.int .i64 x.flags) ∧ W.cell? ⟨w.heap.size + 1 + 1, 8, none⟩ = some (sv x.text) ∧ W.cell? ⟨w.heap.size + 1 + 1, 9, none⟩ = some (.bool false) ∧ W.cell? ⟨w.heap.size + 1 + 1, 10, none⟩ = some (.slice none 0 0)) (by kernel_rfl) (by kernel_rfl) rfl (by kernel_rfl) ?_
      intro ops' hops
      simp only [List.map_cons, List.map_nil, pickOp_zero, pickOp_succ]
      iterate 3 (refine ord_flo ?_ (fun _ _ _ h => h) rfl ?_ hs0 ?_; rotate_left; focus (intro W hS; obtain ⟨s0, s1, s2, s3, s4, s5, s6, s7, s8, s9, s10, s11, s12, s13⟩ := hS; go_simp; rfl))
      try go_frame
      refine ord_ev rfl ?_
      go_simp
      refine (Cname2.out _).mono ?_
      rintro e w1 ⟨rfl, b1⟩
      have K1 := Lib.hid ((K0.out.drew).call b1)
      clear b1
      have hs1 := HS.out _ _ K1.out
      refine ⟨hs1, ?_⟩
      iterate 1 (refine ord_flo ?_ (fun _ _ _ h => h) rfl ?_ hs1 ?_; rotate_left; focus (intro W hS; obtain ⟨s0, s1, s2, s3, s4, s5, s6, s7, s8, s9, s10, s11, s12, s13⟩ := hS; go_simp; rfl))
      iterate 2 (refine ord_flo ?_ (fun _ _ _ h => h) (by rw [hops.out]; kernel_rfl) ?_ hs1 ?_; rotate_left; focus (intro W hS; obtain ⟨s0, s1, s2, s3, s4, s5, s6, s7, s8, s9, s10, s11, s12, s13⟩ := hS; go_simp; rfl))
      try go_frame
      refine ord_ev (by rw [hops.out]; kernel_rfl) ?_
      go_simp
      refine (Cflags7.out _).mono ?_
      rintro e w2 ⟨rfl, rfl⟩
      have K2 := Lib.hid (K1.out)
      have hs2 := HS.out _ _ K2.out
      refine ⟨hs2, ?_⟩
      iterate 2 (refine ord_flo ?_ (fun _ _ _ h => h) rfl ?_ hs2 ?_; rotate_left; focus (intro W hS; obtain ⟨s0, s1, s2, s3, s4, s5, s6, s7, s8, s9, s10, s11, s12, s13⟩ := hS; go_simp; rfl))
      iterate 4 (refine ord_not (fun _ _ _ h => h) (by rw [hops.out]; kernel_rfl) hs2 ?_)
      iterate 1 (refine ord_flo ?_ (fun _ _ _ h => h) rfl ?_ hs2 ?_; rotate_left; focus (intro W hS; obtain ⟨s0, s1, s2, s3, s4, s5, s6, s7, s8, s9, s10, s11, s12, s13⟩ := hS; go_simp; rfl))
      try go_frame
      refine ord_ev rfl ?_
      refine wp_store_row2 _ _ _ rfl (w.heap.size + 1) #[sv x.tag, .int .i64 x.kind, sv x.box, sv [], .bool false, .slice none 0 0, .int .i64 0, .int .i64 x.flags, sv x.text, .bool false, .slice none 0 0] (by rfl) (by rfl) _ _ (K2.out).r (by kernel_rfl) rfl (by simp [Value.oneCell', sv]) ?_
      intro Z hZ
      have KF := Lib.hid (show Own3 _ w Z _ _ _ from by rw [hZ]; exact (K2.out).setR #[sv x.tag, .int .i64 x.kind, sv x.box, sv [], .bool false, .slice none 0 0, .int .i64 0, .int .i64 x.flags, sv x.text, .bool false, .slice none 0 0])
      clear hZ
      refine ⟨HS.out _ _ KF.out, ?_⟩
      have hsf := HS.out _ _ KF.out
      iterate 1 (refine ord_flo ?_ (fun _ _ _ h => h) rfl ?_ hsf ?_; rotate_left; focus (intro W hS; obtain ⟨s0, s1, s2, s3, s4, s5, s6, s7, s8, s9, s10, s11, s12, s13⟩ := hS; go_simp; rfl))
      refine ord_done ?_
      go_simp
      clear HS hsf hs0 hs1 hs2
      have g0 := (Lib.cell_of_heap KF.out.r 0).trans (show _ = some (sv x.tag) from rfl)
      have g1 := (Lib.cell_of_heap KF.out.r 1).trans (show _ = some (.int .i64 x.kind) from rfl)
      have g2 := (Lib.cell_of_heap KF.out.r 2).trans (show _ = some (sv x.box) from rfl)
      have g3 := (Lib.cell_of_heap KF.out.r 3).trans (show _ = some (sv []) from rfl)
      have g4 := (Lib.cell_of_heap KF.out.r 4).trans (show _ = some (.bool false) from rfl)
      have g5 := (Lib.cell_of_heap KF.out.r 5).trans (show _ = some (.slice none 0 0) from rfl)
      have g6 := (Lib.cell_of_heap KF.out.r 6).trans (show _ = some (.int .i64 0) from rfl)
      have g7 := (Lib.cell_of_heap KF.out.r 7).trans (show _ = some (.int .i64 x.flags) from rfl)
      have g8 := (Lib.cell_of_heap KF.out.r 8).trans (show _ = some (sv x.text) from rfl)
      have g9 := (Lib.cell_of_heap KF.out.r 9).trans (show _ = some (.bool false) from rfl)
      have g10 := (Lib.cell_of_heap KF.out.r 10).trans (show _ = some (.slice none 0 0) from rfl)
      have HB := Lib.hid KF.out.b
      clear KF
      go_wp2
      exact bodyPost_ret (v := .tuple #[.agg #[sv x.tag, .int .i64 x.kind, sv x.box, sv [], .bool false, .slice none 0 0, .int .i64 0, .int .i64 x.flags, sv x.text, .bool false, .slice none 0 0], .bool false]) (by simp [results, Try.results31, go_sem, g0, g1, g2, g3, g4, g5, g6, g7, g8, g9, g10]) rfl ⟨fin2 (by first | rfl | (rw [e0] <;> rfl) | (rw [e0, e1] <;> rfl)), HB.out⟩
  | false =>
    rw [show nameB (ByteArray.mk x.box.toArray).data.toList = false from e0] at Cname2
    refine ord_start [(0, true), (1, true), (2, true), (3, false), (4, true), (5, true), (6, true), (7, false), (8, true), (9, true), (10, true), (11, true), (12, true), (13, true), (14, true), (15, false), (16, true)] (fun W => W.cell? ⟨w.heap.size, 2, none⟩ = some (sv x.box) ∧ W.cell? ⟨w.heap.size, 7, none⟩ = some (.int .i64 x.flags) ∧ W.cell? ⟨w.heap.size, 8, none⟩ = some (sv x.text) ∧ W.cell? ⟨w.heap.size + 1 + 1, 0, none⟩ = some (sv x.tag) ∧ W.cell? ⟨w.heap.size + 1 + 1, 1, none⟩ = some (.int .i64 x.kind) ∧ W.cell? ⟨w.heap.size + 1 + 1, 2, none⟩ = some (sv x.box) ∧ W.cell? ⟨w.heap.size + 1 + 1, 3, none⟩ = some (sv []) ∧ W.cell? ⟨w.heap.size + 1 + 1, 4, none⟩ = some (.bool false) ∧ W.cell? ⟨w.heap.size + 1 + 1, 5, none⟩ = some (.slice none 0 0) ∧ W.cell? ⟨w.heap.size + 1 + 1, 6, none⟩ = some (.int .i64 0) ∧ W.cell? ⟨w.heap.size + 1 + 1, 7, none⟩ = some (.int .i64 x.flags) ∧ W.cell? ⟨w.heap.size + 1 + 1, 8, none⟩ = some (sv x.text) ∧ W.cell? ⟨w.heap.size + 1 + 1, 9, none⟩ = some (.bool false) ∧ W.cell? ⟨w.heap.size + 1 + 1, 10, none⟩ = some (.slice none 0 0)) (by kernel_rfl) (by kernel_rfl) rfl (by kernel_rfl) ?_
    intro ops' hops
    simp only [List.map_cons, List.map_nil, pickOp_zero, pickOp_succ]
    iterate 3 (refine ord_flo ?_ (fun _ _ _ h => h) rfl ?_ hs0 ?_; rotate_left; focus (intro W hS; obtain ⟨s0, s1, s2, s3, s4, s5, s6, s7, s8, s9, s10, s11, s12, s13⟩ := hS; go_simp; rfl))
    try go_frame
    refine ord_ev rfl ?_
    go_simp
    refine (Cname2.out _).mono ?_
    rintro e w1 ⟨rfl, b1⟩
    have K1 := Lib.hid ((K0.out.drew).call b1)
    clear b1
    have hs1 := HS.out _ _ K1.out
    refine ⟨hs1, ?_⟩
    iterate 1 (refine ord_flo ?_ (fun _ _ _ h => h) rfl ?_ hs1 ?_; rotate_left; focus (intro W hS; obtain ⟨s0, s1, s2, s3, s4, s5, s6, s7, s8, s9, s10, s11, s12, s13⟩ := hS; go_simp; rfl))
    iterate 2 (refine ord_not (fun _ _ _ h => h) (by rw [hops.out]; kernel_rfl) hs1 ?_)
    refine ord_evnot hs1 (by rw [hops.out]; kernel_rfl) ?_
    iterate 2 (refine ord_flo ?_ (fun _ _ _ h => h) rfl ?_ hs1 ?_; rotate_left; focus (intro W hS; obtain ⟨s0, s1, s2, s3, s4, s5, s6, s7, s8, s9, s10, s11, s12, s13⟩ := hS; go_simp; rfl))
    iterate 4 (refine ord_not (fun _ _ _ h => h) (by rw [hops.out]; kernel_rfl) hs1 ?_)
    iterate 1 (refine ord_flo ?_ (fun _ _ _ h => h) rfl ?_ hs1 ?_; rotate_left; focus (intro W hS; obtain ⟨s0, s1, s2, s3, s4, s5, s6, s7, s8, s9, s10, s11, s12, s13⟩ := hS; go_simp; rfl))
    try go_frame
    refine ord_ev rfl ?_
    refine wp_store_row2 _ _ _ rfl (w.heap.size + 1) #[sv x.tag, .int .i64 x.kind, sv x.box, sv [], .bool false, .slice none 0 0, .int .i64 0, .int .i64 x.flags, sv x.text, .bool false, .slice none 0 0] (by rfl) (by rfl) _ _ (K1.out).r (by kernel_rfl) rfl (by simp [Value.oneCell', sv]) ?_
    intro Z hZ
    have KF := Lib.hid (show Own3 _ w Z _ _ _ from by rw [hZ]; exact (K1.out).setR #[sv x.tag, .int .i64 x.kind, sv x.box, sv [], .bool false, .slice none 0 0, .int .i64 0, .int .i64 x.flags, sv x.text, .bool false, .slice none 0 0])
    clear hZ
    refine ⟨HS.out _ _ KF.out, ?_⟩
    have hsf := HS.out _ _ KF.out
    iterate 1 (refine ord_flo ?_ (fun _ _ _ h => h) rfl ?_ hsf ?_; rotate_left; focus (intro W hS; obtain ⟨s0, s1, s2, s3, s4, s5, s6, s7, s8, s9, s10, s11, s12, s13⟩ := hS; go_simp; rfl))
    refine ord_done ?_
    go_simp
    clear HS hsf hs0 hs1
    have g0 := (Lib.cell_of_heap KF.out.r 0).trans (show _ = some (sv x.tag) from rfl)
    have g1 := (Lib.cell_of_heap KF.out.r 1).trans (show _ = some (.int .i64 x.kind) from rfl)
    have g2 := (Lib.cell_of_heap KF.out.r 2).trans (show _ = some (sv x.box) from rfl)
    have g3 := (Lib.cell_of_heap KF.out.r 3).trans (show _ = some (sv []) from rfl)
    have g4 := (Lib.cell_of_heap KF.out.r 4).trans (show _ = some (.bool false) from rfl)
    have g5 := (Lib.cell_of_heap KF.out.r 5).trans (show _ = some (.slice none 0 0) from rfl)
    have g6 := (Lib.cell_of_heap KF.out.r 6).trans (show _ = some (.int .i64 0) from rfl)
    have g7 := (Lib.cell_of_heap KF.out.r 7).trans (show _ = some (.int .i64 x.flags) from rfl)
    have g8 := (Lib.cell_of_heap KF.out.r 8).trans (show _ = some (sv x.text) from rfl)
    have g9 := (Lib.cell_of_heap KF.out.r 9).trans (show _ = some (.bool false) from rfl)
    have g10 := (Lib.cell_of_heap KF.out.r 10).trans (show _ = some (.slice none 0 0) from rfl)
    have HB := Lib.hid KF.out.b
    clear KF
    go_wp2
    exact bodyPost_ret (v := .tuple #[.agg #[sv x.tag, .int .i64 x.kind, sv x.box, sv [], .bool false, .slice none 0 0, .int .i64 0, .int .i64 x.flags, sv x.text, .bool false, .slice none 0 0], .bool false]) (by simp [results, Try.results31, go_sem, g0, g1, g2, g3, g4, g5, g6, g7, g8, g9, g10]) rfl ⟨fin2 (by first | rfl | (rw [e0] <;> rfl)), HB.out⟩

set_option maxRecDepth 20000 in
set_option maxHeartbeats 6400000 in
theorem own_7 (x : CmdD) (p q : Option Addr) (c d : Nat) (w : World) (hk : x.kind = 7) (ha : LfRd w (spnsLf x.sset) (.slice p x.sset.length c)) (_ha2 : LfRd w (scpsLf x.filter.scopes) (.slice q x.filter.scopes.length d)) (hs : szLs x.lf ≤ 1048576) (hbd : LsBnd x.lf) :
    Calls Try.prog 31 #[cmdv x (.slice p x.sset.length c) (.slice q x.filter.scopes.length d)] w fun e w' => e = .returned (.tuple #[.agg #[sv x.tag, .int .i64 x.kind, sv [], sv [], .bool x.uid, .slice p x.sset.length c, .int .i64 0, .int .i64 0, sv [], .bool false, .slice none 0 0], .bool (setB x.sset)]) ∧ Below w.heap.size w w' := by
  obtain ⟨_, z2, z3, z5, z8, z9, z10⟩ := CmdD.small hs
  obtain ⟨_, i6, i7, i5, i10⟩ := CmdD.bndO hbd
  have cset5 := fun W (h : Below w.heap.size w W) => implSetOk_big (.slice p x.sset.length c) x.sset W (spns_rd (LfRd.below h _ _ ha)) (by omega)
  clear ha _ha2 z2 z3 z5 z8 z9 z10 i6 i7 i5 i10 hs hbd
  have t1 : (x.kind == 1) = false := by rw [beq_eq_false_iff_ne]; omega
  have t3 : (x.kind == 3) = false := by rw [beq_eq_false_iff_ne]; omega
  have t4 : (x.kind == 4) = false := by rw [beq_eq_false_iff_ne]; omega
  have t5 : (x.kind == 5) = false := by rw [beq_eq_false_iff_ne]; omega
  have t9 : (x.kind == 9) = false := by rw [beq_eq_false_iff_ne]; omega
  have t15 : (x.kind == 15) = false := by rw [beq_eq_false_iff_ne]; omega
  have t2 : (x.kind == 2) = false := by rw [beq_eq_false_iff_ne]; omega
  have t12 : (x.kind == 12) = false := by rw [beq_eq_false_iff_ne]; omega
  have t13 : (x.kind == 13) = false := by rw [beq_eq_false_iff_ne]; omega
  have t14 : (x.kind == 14) = false := by rw [beq_eq_false_iff_ne]; omega
  have t11 : (x.kind == 11) = false := by rw [beq_eq_false_iff_ne]; omega
  have t7 : (x.kind == 7) = true := by rw [beq_iff_eq]; omega
  clear hk
  have Cset5 := Lib.hid cset5
  clear cset5
  go_enter Try.func31, Try.ntmps31
  go_wp2
  refine wp_named ?_
  intro X hX
  have H0 := Lib.hid (Own3.of hX)
  clear hX
  have HS := Lib.hid (fun (W : World) (R O : Array Value) (H : Own3 36 w W #[sv x.tag, .int .i64 x.kind, sv x.box, sv x.to, .bool x.uid, .slice p x.sset.length c, .int .i64 x.op, .int .i64 x.flags, sv x.text, .bool x.filter.on, .slice q x.filter.scopes.length d] R O) => (⟨(Lib.cell_of_heap H.a 4).trans rfl, (Lib.cell_of_heap H.a 5).trans rfl⟩ : W.cell? ⟨w.heap.size, 4, none⟩ = some (.bool x.uid) ∧ W.cell? ⟨w.heap.size, 5, none⟩ = some (.slice p x.sset.length c)))
  have hs0 := HS.out X.drew _ _ H0.out.drew
  refine ord_start [(0, true), (1, true), (2, true), (3, true), (4, true), (5, false), (6, true), (7, false)] (fun W => W.cell? ⟨w.heap.size, 4, none⟩ = some (.bool x.uid) ∧ W.cell? ⟨w.heap.size, 5, none⟩ = some (.slice p x.sset.length c)) (by kernel_rfl) (by kernel_rfl) rfl (by kernel_rfl) ?_
  intro ops' hops
  clear hops
  simp only [List.map_cons, List.map_nil, pickOp_zero, pickOp_succ]
  iterate 5 (refine ord_flo ?_ (fun _ _ _ h => h) rfl ?_ hs0 ?_; rotate_left; focus (intro W hS; obtain ⟨s0, s1⟩ := hS; go_simp; rfl))
  go_frame
  refine ord_ev rfl ?_
  refine wp_store_cell _ _ _ rfl (w.heap.size + 1 + 1) 4 (.bool x.uid) (by rfl) (by rfl) _ _ (H0.out.drew).o (by simp) (by kernel_rfl) rfl rfl ?_
  intro X1 hX1
  have H1 := Lib.hid (show Own3 _ w X1 _ _ _ from by rw [hX1]; exact (H0.out.drew).setO 4 (.bool x.uid))
  clear hX1
  refine ⟨HS.out _ _ _ H1.out, ?_⟩
  have hs1 := HS.out _ _ _ H1.out
  iterate 1 (refine ord_flo ?_ (fun _ _ _ h => h) rfl ?_ hs1 ?_; rotate_left; focus (intro W hS; obtain ⟨s0, s1⟩ := hS; go_simp; rfl))
  go_frame
  refine ord_ev rfl ?_
  refine wp_store_cell _ _ _ rfl (w.heap.size + 1 + 1) 5 (.slice p x.sset.length c) (by rfl) (by rfl) _ _ (H1.out).o (by simp) (by kernel_rfl) rfl rfl ?_
  intro X2 hX2
  have H2 := Lib.hid (show Own3 _ w X2 _ _ _ from by rw [hX2]; exact (H1.out).setO 5 (.slice p x.sset.length c))
  clear hX2
  refine ⟨HS.out _ _ _ H2.out, ?_⟩
  have hs2 := HS.out _ _ _ H2.out
  refine ord_done ?_
  go_simp
  clear HS hs0 hs1 hs2
  go_wp2
  have K0 := Lib.hid H2.out
  clear H0 H1 H2
  have HS := Lib.hid (fun (W : World) (R : Array Value) (H : Own3 36 w W #[sv x.tag, .int .i64 x.kind, sv x.box, sv x.to, .bool x.uid, .slice p x.sset.length c, .int .i64 x.op, .int .i64 x.flags, sv x.text, .bool x.filter.on, .slice q x.filter.scopes.length d] R #[sv x.tag, .int .i64 x.kind, sv [], sv [], .bool x.uid, .slice p x.sset.length c, .int .i64 0, .int .i64 0, sv [], .bool false, .slice none 0 0]) => (⟨(Lib.cell_of_heap H.a 5).trans rfl, (Lib.cell_of_heap H.o 0).trans rfl, (Lib.cell_of_heap H.o 1).trans rfl, (Lib.cell_of_heap H.o 2).trans rfl, (Lib.cell_of_heap H.o 3).trans rfl, (Lib.cell_of_heap H.o 4).trans rfl, (Lib.cell_of_heap H.o 5).trans rfl, (Lib.cell_of_heap H.o 6).trans rfl, (Lib.cell_of_heap H.o 7).trans rfl, (Lib.cell_of_heap H.o 8).trans rfl, (Lib.cell_of_heap H.o 9).trans rfl, (Lib.cell_of_heap H.o 10).trans rfl⟩ : W.cell? ⟨w.heap.size, 5, none⟩ = some (.slice p x.sset.length c) ∧ W.cell? ⟨w.heap.size + 1 + 1, 0, none⟩ = some (sv x.tag) ∧ W.cell? ⟨w.heap.size + 1 + 1, 1, none⟩ = some (.int .i64 x.kind) ∧ W.cell? ⟨w.heap.size + 1 + 1, 2, none⟩ = some (sv []) ∧ W.cell? ⟨w.heap.size + 1 + 1, 3, none⟩ = some (sv []) ∧ W.cell? ⟨w.heap.size + 1 + 1, 4, none⟩ = some (.bool x.uid) ∧ W.cell? ⟨w.heap.size + 1 + 1, 5, none⟩ = some (.slice p x.sset.length c) ∧ W.cell? ⟨w.heap.size + 1 + 1, 6, none⟩ = some (.int .i64 0) ∧ W.cell? ⟨w.heap.size + 1 + 1, 7, none⟩ = some (.int .i64 0) ∧ W.cell? ⟨w.heap.size + 1 + 1, 8, none⟩ = some (sv []) ∧ W.cell? ⟨w.heap.size + 1 + 1, 9, none⟩ = some (.bool false) ∧ W.cell? ⟨w.heap.size + 1 + 1, 10, none⟩ = some (.slice none 0 0)))
  have hs0 := HS.out X2.drew _ K0.out.drew
  cases e0 : (setB x.sset) with
  | true =>
    rw [e0] at Cset5
    refine ord_start [(0, true), (1, true), (2, true), (3, false), (4, false), (5, true)] (fun W => W.cell? ⟨w.heap.size, 5, none⟩ = some (.slice p x.sset.length c) ∧ W.cell? ⟨w.heap.size + 1 + 1, 0, none⟩ = some (sv x.tag) ∧ W.cell? ⟨w.heap.size + 1 + 1, 1, none⟩ = some (.int .i64 x.kind) ∧ W.cell? ⟨w.heap.size + 1 + 1, 2, none⟩ = some (sv []) ∧ W.cell? ⟨w.heap.size + 1 + 1, 3, none⟩ = some (sv []) ∧ W.cell? ⟨w.heap.size + 1 + 1, 4, none⟩ = some (.bool x.uid) ∧ W.cell? ⟨w.heap.size + 1 + 1, 5, none⟩ = some (.slice p x.sset.length c) ∧ W.cell? ⟨w.heap.size + 1 + 1, 6, none⟩ = some (.int .i64 0) ∧ W.cell? ⟨w.heap.size + 1 + 1, 7, none⟩ = some (.int .i64 0) ∧ W.cell? ⟨w.heap.size + 1 + 1, 8, none⟩ = some (sv []) ∧ W.cell? ⟨w.heap.size + 1 + 1, 9, none⟩ = some (.bool false) ∧ W.cell? ⟨w.heap.size + 1 + 1, 10, none⟩ = some (.slice none 0 0)) (by kernel_rfl) (by kernel_rfl) rfl (by kernel_rfl) ?_
    intro ops' hops
    simp only [List.map_cons, List.map_nil, pickOp_zero, pickOp_succ]
    iterate 3 (refine ord_flo ?_ (fun _ _ _ h => h) rfl ?_ hs0 ?_; rotate_left; focus (intro W hS; obtain ⟨s0, s1, s2, s3, s4, s5, s6, s7, s8, s9, s10, s11⟩ := hS; go_simp; rfl))
    try go_frame
    refine ord_ev rfl ?_
    go_simp
    refine (Cset5.out _ (K0.out.drew).b).mono ?_
    rintro e w1 ⟨rfl, b1⟩
    have K1 := Lib.hid ((K0.out.drew).call b1)
    clear b1
    have hs1 := HS.out _ _ K1.out
    refine ⟨hs1, ?_⟩
    try go_frame
    refine ord_ev rfl ?_
    refine wp_store_row2 _ _ _ rfl (w.heap.size + 1) #[sv x.tag, .int .i64 x.kind, sv [], sv [], .bool x.uid, .slice p x.sset.length c, .int .i64 0, .int .i64 0, sv [], .bool false, .slice none 0 0] (by rfl) (by rfl) _ _ (K1.out).r (by kernel_rfl) rfl (by simp [Value.oneCell', sv]) ?_
    intro Z hZ
    have KF := Lib.hid (show Own3 _ w Z _ _ _ from by rw [hZ]; exact (K1.out).setR #[sv x.tag, .int .i64 x.kind, sv [], sv [], .bool x.uid, .slice p x.sset.length c, .int .i64 0, .int .i64 0, sv [], .bool false, .slice none 0 0])
    clear hZ
    refine ⟨HS.out _ _ KF.out, ?_⟩
    have hsf := HS.out _ _ KF.out
    iterate 1 (refine ord_flo ?_ (fun _ _ _ h => h) rfl ?_ hsf ?_; rotate_left; focus (intro W hS; obtain ⟨s0, s1, s2, s3, s4, s5, s6, s7, s8, s9, s10, s11⟩ := hS; go_simp; rfl))
    refine ord_done ?_
    go_simp
    clear HS hsf hs0 hs1
    have g0 := (Lib.cell_of_heap KF.out.r 0).trans (show _ = some (sv x.tag) from rfl)
    have g1 := (Lib.cell_of_heap KF.out.r 1).trans (show _ = some (.int .i64 x.kind) from rfl)
    have g2 := (Lib.cell_of_heap KF.out.r 2).trans (show _ = some (sv []) from rfl)
    have g3 := (Lib.cell_of_heap KF.out.r 3).trans (show _ = some (sv []) from rfl)
    have g4 := (Lib.cell_of_heap KF.out.r 4).trans (show _ = some (.bool x.uid) from rfl)
    have g5 := (Lib.cell_of_heap KF.out.r 5).trans (show _ = some (.slice p x.sset.length c) from rfl)
    have g6 := (Lib.cell_of_heap KF.out.r 6).trans (show _ = some (.int .i64 0) from rfl)
    have g7 := (Lib.cell_of_heap KF.out.r 7).trans (show _ = some (.int .i64 0) from rfl)
    have g8 := (Lib.cell_of_heap KF.out.r 8).trans (show _ = some (sv []) from rfl)
    have g9 := (Lib.cell_of_heap KF.out.r 9).trans (show _ = some (.bool false) from rfl)
    have g10 := (Lib.cell_of_heap KF.out.r 10).trans (show _ = some (.slice none 0 0) from rfl)
    have HB := Lib.hid KF.out.b
    clear KF
    go_wp2
    exact bodyPost_ret (v := .tuple #[.agg #[sv x.tag, .int .i64 x.kind, sv [], sv [], .bool x.uid, .slice p x.sset.length c, .int .i64 0, .int .i64 0, sv [], .bool false, .slice none 0 0], .bool true]) (by simp [results, Try.results31, go_sem, g0, g1, g2, g3, g4, g5, g6, g7, g8, g9, g10]) rfl ⟨fin2 (by first | rfl | (rw [e0] <;> rfl)), HB.out⟩
  | false =>
    rw [e0] at Cset5
    refine ord_start [(0, true), (1, true), (2, true), (3, false), (4, false), (5, true)] (fun W => W.cell? ⟨w.heap.size, 5, none⟩ = some (.slice p x.sset.length c) ∧ W.cell? ⟨w.heap.size + 1 + 1, 0, none⟩ = some (sv x.tag) ∧ W.cell? ⟨w.heap.size + 1 + 1, 1, none⟩ = some (.int .i64 x.kind) ∧ W.cell? ⟨w.heap.size + 1 + 1, 2, none⟩ = some (sv []) ∧ W.cell? ⟨w.heap.size + 1 + 1, 3, none⟩ = some (sv []) ∧ W.cell? ⟨w.heap.size + 1 + 1, 4, none⟩ = some (.bool x.uid) ∧ W.cell? ⟨w.heap.size + 1 + 1, 5, none⟩ = some (.slice p x.sset.length c) ∧ W.cell? ⟨w.heap.size + 1 + 1, 6, none⟩ = some (.int .i64 0) ∧ W.cell? ⟨w.heap.size + 1 + 1, 7, none⟩ = some (.int .i64 0) ∧ W.cell? ⟨w.heap.size + 1 + 1, 8, none⟩ = some (sv []) ∧ W.cell? ⟨w.heap.size + 1 + 1, 9, none⟩ = some (.bool false) ∧ W.cell? ⟨w.heap.size + 1 + 1, 10, none⟩ = some (.slice none 0 0)) (by kernel_rfl) (by kernel_rfl) rfl (by kernel_rfl) ?_
    intro ops' hops
    simp only [List.map_cons, List.map_nil, pickOp_zero, pickOp_succ]
    iterate 3 (refine ord_flo ?_ (fun _ _ _ h => h) rfl ?_ hs0 ?_; rotate_left; focus (intro W hS; obtain ⟨s0, s1, s2, s3, s4, s5, s6, s7, s8, s9, s10, s11⟩ := hS; go_simp; rfl))
    try go_frame
    refine ord_ev rfl ?_
    go_simp
    refine (Cset5.out _ (K0.out.drew).b).mono ?_
    rintro e w1 ⟨rfl, b1⟩
    have K1 := Lib.hid ((K0.out.drew).call b1)
    clear b1
    have hs1 := HS.out _ _ K1.out
    refine ⟨hs1, ?_⟩
    try go_frame
    refine ord_ev rfl ?_
    refine wp_store_row2 _ _ _ rfl (w.heap.size + 1) #[sv x.tag, .int .i64 x.kind, sv [], sv [], .bool x.uid, .slice p x.sset.length c, .int .i64 0, .int .i64 0, sv [], .bool false, .slice none 0 0] (by rfl) (by rfl) _ _ (K1.out).r (by kernel_rfl) rfl (by simp [Value.oneCell', sv]) ?_
    intro Z hZ
    have KF := Lib.hid (show Own3 _ w Z _ _ _ from by rw [hZ]; exact (K1.out).setR #[sv x.tag, .int .i64 x.kind, sv [], sv [], .bool x.uid, .slice p x.sset.length c, .int .i64 0, .int .i64 0, sv [], .bool false, .slice none 0 0])
    clear hZ
    refine ⟨HS.out _ _ KF.out, ?_⟩
    have hsf := HS.out _ _ KF.out
    iterate 1 (refine ord_flo ?_ (fun _ _ _ h => h) rfl ?_ hsf ?_; rotate_left; focus (intro W hS; obtain ⟨s0, s1, s2, s3, s4, s5, s6, s7, s8, s9, s10, s11⟩ := hS; go_simp; rfl))
    refine ord_done ?_
    go_simp
    clear HS hsf hs0 hs1
    have g0 := (Lib.cell_of_heap KF.out.r 0).trans (show _ = some (sv x.tag) from rfl)
    have g1 := (Lib.cell_of_heap KF.out.r 1).trans (show _ = some (.int .i64 x.kind) from rfl)
    have g2 := (Lib.cell_of_heap KF.out.r 2).trans (show _ = some (sv []) from rfl)
    have g3 := (Lib.cell_of_heap KF.out.r 3).trans (show _ = some (sv []) from rfl)
    have g4 := (Lib.cell_of_heap KF.out.r 4).trans (show _ = some (.bool x.uid) from rfl)
    have g5 := (Lib.cell_of_heap KF.out.r 5).trans (show _ = some (.slice p x.sset.length c) from rfl)
    have g6 := (Lib.cell_of_heap KF.out.r 6).trans (show _ = some (.int .i64 0) from rfl)
    have g7 := (Lib.cell_of_heap KF.out.r 7).trans (show _ = some (.int .i64 0) from rfl)
    have g8 := (Lib.cell_of_heap KF.out.r 8).trans (show _ = some (sv []) from rfl)
    have g9 := (Lib.cell_of_heap KF.out.r 9).trans (show _ = some (.bool false) from rfl)
    have g10 := (Lib.cell_of_heap KF.out.r 10).trans (show _ = some (.slice none 0 0) from rfl)
    have HB := Lib.hid KF.out.b
    clear KF
    go_wp2
    exact bodyPost_ret (v := .tuple #[.agg #[sv x.tag, .int .i64 x.kind, sv [], sv [], .bool x.uid, .slice p x.sset.length c, .int .i64 0, .int .i64 0, sv [], .bool false, .slice none 0 0], .bool false]) (by simp [results, Try.results31, go_sem, g0, g1, g2, g3, g4, g5, g6, g7, g8, g9, g10]) rfl ⟨fin2 (by first | rfl | (rw [e0] <;> rfl)), HB.out⟩

set_option maxRecDepth 20000 in
set_option maxHeartbeats 6400000 in
theorem own_10 (x : CmdD) (p q : Option Addr) (c d : Nat) (w : World) (hk : x.kind = 10) (ha : LfRd w (spnsLf x.sset) (.slice p x.sset.length c)) (_ha2 : LfRd w (scpsLf x.filter.scopes) (.slice q x.filter.scopes.length d)) (hs : szLs x.lf ≤ 1048576) (hbd : LsBnd x.lf) :
    Calls Try.prog 31 #[cmdv x (.slice p x.sset.length c) (.slice q x.filter.scopes.length d)] w fun e w' => e = .returned (.tuple #[.agg #[sv x.tag, .int .i64 x.kind, sv x.box, sv [], .bool x.uid, .slice p x.sset.length c, .int .i64 0, .int .i64 0, sv [], .bool false, .slice none 0 0], .bool (setB x.sset && nameB x.box)]) ∧ Below w.heap.size w w' := by
  obtain ⟨_, z2, z3, z5, z8, z9, z10⟩ := CmdD.small hs
  obtain ⟨_, i6, i7, i5, i10⟩ := CmdD.bndO hbd
  have cset5 := fun W (h : Below w.heap.size w W) => implSetOk_big (.slice p x.sset.length c) x.sset W (spns_rd (LfRd.below h _ _ ha)) (by omega)
  have cname2 := fun W => implNameOk_any ⟨x.box.toArray⟩ W (by unfold maxLen; show x.box.toArray.size ≤ _; simp; omega)
  clear ha _ha2 z2 z3 z5 z8 z9 z10 i6 i7 i5 i10 hs hbd
  have t1 : (x.kind == 1) = false := by rw [beq_eq_false_iff_ne]; omega
  have t3 : (x.kind == 3) = false := by rw [beq_eq_false_iff_ne]; omega
  have t4 : (x.kind == 4) = false := by rw [beq_eq_false_iff_ne]; omega
  have t5 : (x.kind == 5) = false := by rw [beq_eq_false_iff_ne]; omega
  have t9 : (x.kind == 9) = false := by rw [beq_eq_false_iff_ne]; omega
  have t15 : (x.kind == 15) = false := by rw [beq_eq_false_iff_ne]; omega
  have t2 : (x.kind == 2) = false := by rw [beq_eq_false_iff_ne]; omega
  have t12 : (x.kind == 12) = false := by rw [beq_eq_false_iff_ne]; omega
  have t13 : (x.kind == 13) = false := by rw [beq_eq_false_iff_ne]; omega
  have t14 : (x.kind == 14) = false := by rw [beq_eq_false_iff_ne]; omega
  have t11 : (x.kind == 11) = false := by rw [beq_eq_false_iff_ne]; omega
  have t7 : (x.kind == 7) = false := by rw [beq_eq_false_iff_ne]; omega
  have t10 : (x.kind == 10) = true := by rw [beq_iff_eq]; omega
  clear hk
  have Cset5 := Lib.hid cset5
  clear cset5
  have Cname2 := Lib.hid cname2
  clear cname2
  go_enter Try.func31, Try.ntmps31
  go_wp2
  refine wp_named ?_
  intro X hX
  have H0 := Lib.hid (Own3.of hX)
  clear hX
  have HS := Lib.hid (fun (W : World) (R O : Array Value) (H : Own3 36 w W #[sv x.tag, .int .i64 x.kind, sv x.box, sv x.to, .bool x.uid, .slice p x.sset.length c, .int .i64 x.op, .int .i64 x.flags, sv x.text, .bool x.filter.on, .slice q x.filter.scopes.length d] R O) => (⟨(Lib.cell_of_heap H.a 4).trans rfl, (Lib.cell_of_heap H.a 5).trans rfl, (Lib.cell_of_heap H.a 2).trans rfl⟩ : W.cell? ⟨w.heap.size, 4, none⟩ = some (.bool x.uid) ∧ W.cell? ⟨w.heap.size, 5, none⟩ = some (.slice p x.sset.length c) ∧ W.cell? ⟨w.heap.size, 2, none⟩ = some (sv x.box)))
  have hs0 := HS.out X.drew _ _ H0.out.drew
  refine ord_start [(0, true), (1, true), (2, true), (3, true), (4, true), (5, true), (6, true), (7, false), (8, true), (9, false), (10, true), (11, false)] (fun W => W.cell? ⟨w.heap.size, 4, none⟩ = some (.bool x.uid) ∧ W.cell? ⟨w.heap.size, 5, none⟩ = some (.slice p x.sset.length c) ∧ W.cell? ⟨w.heap.size, 2, none⟩ = some (sv x.box)) (by kernel_rfl) (by kernel_rfl) rfl (by kernel_rfl) ?_
  intro ops' hops
  clear hops
  simp only [List.map_cons, List.map_nil, pickOp_zero, pickOp_succ]
  iterate 7 (refine ord_flo ?_ (fun _ _ _ h => h) rfl ?_ hs0 ?_; rotate_left; focus (intro W hS; obtain ⟨s0, s1, s2⟩ := hS; go_simp; rfl))
  go_frame
  refine ord_ev rfl ?_
  refine wp_store_cell _ _ _ rfl (w.heap.size + 1 + 1) 4 (.bool x.uid) (by rfl) (by rfl) _ _ (H0.out.drew).o (by simp) (by kernel_rfl) rfl rfl ?_
  intro X1 hX1
  have H1 := Lib.hid (show Own3 _ w X1 _ _ _ from by rw [hX1]; exact (H0.out.drew).setO 4 (.bool x.uid))
  clear hX1
  refine ⟨HS.out _ _ _ H1.out, ?_⟩
  have hs1 := HS.out _ _ _ H1.out
  iterate 1 (refine ord_flo ?_ (fun _ _ _ h => h) rfl ?_ hs1 ?_; rotate_left; focus (intro W hS; obtain ⟨s0, s1, s2⟩ := hS; go_simp; rfl))
  go_frame
  refine ord_ev rfl ?_
  refine wp_store_cell _ _ _ rfl (w.heap.size + 1 + 1) 5 (.slice p x.sset.length c) (by rfl) (by rfl) _ _ (H1.out).o (by simp) (by kernel_rfl) rfl rfl ?_
  intro X2 hX2
  have H2 := Lib.hid (show Own3 _ w X2 _ _ _ from by rw [hX2]; exact (H1.out).setO 5 (.slice p x.sset.length c))
  clear hX2
  refine ⟨HS.out _ _ _ H2.out, ?_⟩
  have hs2 := HS.out _ _ _ H2.out
  iterate 1 (refine ord_flo ?_ (fun _ _ _ h => h) rfl ?_ hs2 ?_; rotate_left; focus (intro W hS; obtain ⟨s0, s1, s2⟩ := hS; go_simp; rfl))
  go_frame
  refine ord_ev rfl ?_
  refine wp_store_cell _ _ _ rfl (w.heap.size + 1 + 1) 2 (sv x.box) (by rfl) (by rfl) _ _ (H2.out).o (by simp) (by kernel_rfl) rfl rfl ?_
  intro X3 hX3
  have H3 := Lib.hid (show Own3 _ w X3 _ _ _ from by rw [hX3]; exact (H2.out).setO 2 (sv x.box))
  clear hX3
  refine ⟨HS.out _ _ _ H3.out, ?_⟩
  have hs3 := HS.out _ _ _ H3.out
  refine ord_done ?_
  go_simp
  clear HS hs0 hs1 hs2 hs3
  go_wp2
  have K0 := Lib.hid H3.out
  clear H0 H1 H2 H3
  have HS := Lib.hid (fun (W : World) (R : Array Value) (H : Own3 36 w W #[sv x.tag, .int .i64 x.kind, sv x.box, sv x.to, .bool x.uid, .slice p x.sset.length c, .int .i64 x.op, .int .i64 x.flags, sv x.text, .bool x.filter.on, .slice q x.filter.scopes.length d] R #[sv x.tag, .int .i64 x.kind, sv x.box, sv [], .bool x.uid, .slice p x.sset.length c, .int .i64 0, .int .i64 0, sv [], .bool false, .slice none 0 0]) => (⟨(Lib.cell_of_heap H.a 5).trans rfl, (Lib.cell_of_heap H.a 2).trans rfl, (Lib.cell_of_heap H.o 0).trans rfl, (Lib.cell_of_heap H.o 1).trans rfl, (Lib.cell_of_heap H.o 2).trans rfl, (Lib.cell_of_heap H.o 3).trans rfl, (Lib.cell_of_heap H.o 4).trans rfl, (Lib.cell_of_heap H.o 5).trans rfl, (Lib.cell_of_heap H.o 6).trans rfl, (Lib.cell_of_heap H.o 7).trans rfl, (Lib.cell_of_heap H.o 8).trans rfl, (Lib.cell_of_heap H.o 9).trans rfl, (Lib.cell_of_heap H.o 10).trans rfl⟩ : W.cell? ⟨w.heap.size, 5, none⟩ = some (.slice p x.sset.length c) ∧ W.cell? ⟨w.heap.size, 2, none⟩ = some (sv x.box) ∧ W.cell? ⟨w.heap.size + 1 + 1, 0, none⟩ = some (sv x.tag) ∧ W.cell? ⟨w.heap.size + 1 + 1, 1, none⟩ = some (.int .i64 x.kind) ∧ W.cell? ⟨w.heap.size + 1 + 1, 2, none⟩ = some (sv x.box) ∧ W.cell? ⟨w.heap.size + 1 + 1, 3, none⟩ = some (sv []) ∧ W.cell? ⟨w.heap.size + 1 + 1, 4, none⟩ = some (.bool x.uid) ∧ W.cell? ⟨w.heap.size + 1 + 1, 5, none⟩ = some (.slice p x.sset.length c) ∧ W.cell? ⟨w.heap.size + 1 + 1, 6, none⟩ = some (.int .i64 0) ∧ W.cell? ⟨w.heap.size + 1 + 1, 7, none⟩ = some (.int .i64 0) ∧ W.cell? ⟨w.heap.size + 1 + 1, 8, none⟩ = some (sv []) ∧ W.cell? ⟨w.heap.size + 1 + 1, 9, none⟩ = some (.bool false) ∧ W.cell? ⟨w.heap.size + 1 + 1, 10, none⟩ = some (.slice none 0 0)))
  have hs0 := HS.out X3.drew _ K0.out.drew
  cases e0 : (setB x.sset) with
  | true =>
    cases e1 : (nameB x.box) with
    | true =>
      rw [e0] at Cset5
      rw [show nameB (ByteArray.mk x.box.toArray).data.toList = true from e1] at Cname2
      refine ord_start [(0, true), (1, true), (2, true), (3, false), (4, true), (5, true), (6, true), (7, false), (8, true), (9, false), (10, true)] (fun W => W.cell? ⟨w.heap.size, 5, none⟩ = some (.slice p x.sset.length c) ∧ W.cell? ⟨w.heap.size, 2, none⟩ = some (sv x.box) ∧ W.cell? ⟨w.heap.size + 1 + 1, 0, none⟩ = some (sv x.tag) ∧ W.cell? ⟨w.heap.size + 1 + 1, 1, none⟩ = some (.int .i64 x.kind) ∧ W.cell? ⟨w.heap.size + 1 + 1, 2, none⟩ = some (sv x.box) ∧ W.cell? ⟨w.heap.size + 1 + 1, 3, none⟩ = some (sv []) ∧ W.cell? ⟨w.heap.size + 1 + 1, 4, none⟩ = some (.bool x.uid) ∧ W.cell? ⟨w.heap.size + 1 + 1, 5, none⟩ = some (.slice p x.sset.length c) ∧ W.cell? ⟨w.heap.size + 1 + 1, 6, none⟩ = some (.int .i64 0) ∧ W.cell? ⟨w.heap.size + 1 + 1, 7, none⟩ = some (.int .i64 0) ∧ W.cell? ⟨w.heap.size + 1 + 1, 8, none⟩ = some (sv []) ∧ W.cell? ⟨w.heap.size + 1 + 1, 9, none⟩ = some (.bool false) ∧ W.cell? ⟨w.heap.size + 1 + 1, 10, none⟩ = some (.slice none 0 0)) (by kernel_rfl) (by kernel_rfl) rfl (by kernel_rfl) ?_
      intro ops' hops
      simp only [List.map_cons, List.map_nil, pickOp_zero, pickOp_succ]
      iterate 3 (refine ord_flo ?_ (fun _ _ _ h => h) rfl ?_ hs0 ?_; rotate_left; focus (intro W hS; obtain ⟨s0, s1, s2, s3, s4, s5, s6, s7, s8, s9, s10, s11, s12⟩ := hS; go_simp; rfl))
      try go_frame
      refine ord_ev rfl ?_
      go_simp
      refine (Cset5.out _ (K0.out.drew).b).mono ?_
      rintro e w1 ⟨rfl, b1⟩
      have K1 := Lib.hid ((K0.out.drew).call b1)
      clear b1
      have hs1 := HS.out _ _ K1.out
      refine ⟨hs1, ?_⟩
      iterate 1 (refine ord_flo ?_ (fun _ _ _ h => h) rfl ?_ hs1 ?_; rotate_left; focus (intro W hS; obtain ⟨s0, s1, s2, s3, s4, s5, s6, s7, s8, s9, s10, s11, s12⟩ := hS; go_simp; rfl))
      iterate 2 (refine ord_flo ?_ (fun _ _ _ h => h) (by rw [hops.out]; kernel_rfl) ?_ hs1 ?_; rotate_left; focus (intro W hS; obtain ⟨s0, s1, s2, s3, s4, s5, s6, s7, s8, s9, s10, s11, s12⟩ := hS; go_simp; rfl))
      try go_frame
      refine ord_ev (by rw [hops.out]; kernel_rfl) ?_
      go_simp
      refine (Cname2.out _).mono ?_
      rintro e w2 ⟨rfl, b2⟩
      have K2 := Lib.hid ((K1.out).call b2)
      clear b2
      have hs2 := HS.out _ _ K2.out
      refine ⟨hs2, ?_⟩
      iterate 1 (refine ord_flo ?_ (fun _ _ _ h => h) rfl ?_ hs2 ?_; rotate_left; focus (intro W hS; obtain ⟨s0, s1, s2, s3, s4, s5, s6, s7, s8, s9, s10, s11, s12⟩ := hS; go_simp; rfl))
      try go_frame
      refine ord_ev rfl ?_
      refine wp_store_row2 _ _ _ rfl (w.heap.size + 1) #[sv x.tag, .int .i64 x.kind, sv x.box, sv [], .bool x.uid, .slice p x.sset.length c, .int .i64 0, .int .i64 0, sv [], .bool false, .slice none 0 0] (by rfl) (by rfl) _ _ (K2.out).r (by kernel_rfl) rfl (by simp [Value.oneCell', sv]) ?_
      intro Z hZ
      have KF := Lib.hid (show Own3 _ w Z _ _ _ from by rw [hZ]; exact (K2.out).setR #[sv x.tag, .int .i64 x.kind, sv x.box, sv [], .bool x.uid, .slice p x.sset.length c, .int .i64 0, .int .i64 0, sv [], .bool false, .slice none 0 0])
      clear hZ
      refine ⟨HS.out _ _ KF.out, ?_⟩
      have hsf := HS.out _ _ KF.out
      iterate 1 (refine ord_flo ?_ (fun _ _ _ h => h) rfl ?_ hsf ?_; rotate_left; focus (intro W hS; obtain ⟨s0, s1, s2, s3, s4, s5, s6, s7, s8, s9, s10, s11, s12⟩ := hS; go_simp; rfl))
      refine ord_done ?_
      go_simp
      clear HS hsf hs0 hs1 hs2
      have g0 := (Lib.cell_of_heap KF.out.r 0).trans (show _ = some (sv x.tag) from rfl)
      have g1 := (Lib.cell_of_heap KF.out.r 1).trans (show _ = some (.int .i64 x.kind) from rfl)
      have g2 := (Lib.cell_of_heap KF.out.r 2).trans (show _ = some (sv x.box) from rfl)
      have g3 := (Lib.cell_of_heap KF.out.r 3).trans (show _ = some (sv []) from rfl)
      have g4 := (Lib.cell_of_heap KF.out.r 4).trans (show _ = some (.bool x.uid) from rfl)
      have g5 := (Lib.cell_of_heap KF.out.r 5).trans (show _ = some (.slice p x.sset.length c) from rfl)
      have g6 := (Lib.cell_of_heap KF.out.r 6).trans (show _ = some (.int .i64 0) from rfl)
      have g7 := (Lib.cell_of_heap KF.out.r 7).trans (show _ = some (.int .i64 0) from rfl)
      have g8 := (Lib.cell_of_heap KF.out.r 8).trans (show _ = some (sv []) from rfl)
      have g9 := (Lib.cell_of_heap KF.out.r 9).trans (show _ = some (.bool false) from rfl)
      have g10 := (Lib.cell_of_heap KF.out.r 10).trans (show _ = some (.slice none 0 0) from rfl)
      have HB := Lib.hid KF.out.b
      clear KF
      go_wp2
      exact bodyPost_ret (v := .tuple #[.agg #[sv x.tag, .int .i64 x.kind, sv x.box, sv [], .bool x.uid, .slice p x.sset.length c, .int .i64 0, .int .i64 0, sv [], .bool false, .slice none 0 0], .bool true]) (by simp [results, Try.results31, go_sem, g0, g1, g2, g3, g4, g5, g6, g7, g8, g9, g10]) rfl ⟨fin2 (by first | rfl | (rw [e0] <;> rfl) | (rw [e0, e1] <;> rfl)), HB.out⟩
    | false =>
      rw [e0] at Cset5
      rw [show nameB (ByteArray.mk x.box.toArray).data.toList = false from e1] at Cname2
      refine ord_start [(0, true), (1, true), (2, true), (3, false), (4, true), (5, true), (6, true), (7, false), (8, true), (9, false), (10, true)] (fun W => W.cell? ⟨w.heap.size, 5, none⟩ = some (.slice p x.sset.length c) ∧ W.cell? ⟨w.heap.size, 2, none⟩ = some (sv x.box) ∧ W.cell? ⟨w.heap.size + 1 + 1, 0, none⟩ = some (sv x.tag) ∧ W.cell? ⟨w.heap.size + 1 + 1, 1, none⟩ = some (.int .i64 x.kind) ∧ W.cell? ⟨w.heap.size + 1 + 1, 2, none⟩ = some (sv x.box) ∧ W.cell? ⟨w.heap.size + 1 + 1, 3, none⟩ = some (sv []) ∧ W.cell? ⟨w.heap.size + 1 + 1, 4, none⟩ = some (.bool x.uid) ∧ W.cell? ⟨w.heap.size + 1 + 1, 5, none⟩ = some (.slice p x.sset.length c) ∧ W.cell? ⟨w.heap.size + 1 + 1, 6, none⟩ = some (.int .i64 0) ∧ W.cell? ⟨w.heap.size + 1 + 1, 7, none⟩ = some (.int .i64 0) ∧ W.cell? ⟨w.heap.size + 1 + 1, 8, none⟩ = some (sv []) ∧ W.cell? ⟨w.heap.size + 1 + 1, 9, none⟩ = some (.bool false) ∧ W.cell? ⟨w.heap.size + 1 + 1, 10, none⟩ = some (.slice none 0 0)) (by kernel_rfl) (by kernel_rfl) rfl (by kernel_rfl) ?_
      intro ops' hops
      simp only [List.map_cons, List.map_nil, pickOp_zero, pickOp_succ]
      iterate 3 (refine ord_flo ?_ (fun _ _ _ h => h) rfl ?_ hs0 ?_; rotate_left; focus (intro W hS; obtain ⟨s0, s1, s2, s3, s4, s5, s6, s7, s8, s9, s10, s11, s12⟩ := hS; go_simp; rfl))
      try go_frame
      refine ord_ev rfl ?_
      go_simp
      refine (Cset5.out _ (K0.out.drew).b).mono ?_
      rintro e w1 ⟨rfl, b1⟩
      have K1 := Lib.hid ((K0.out.drew).call b1)
      clear b1
      have hs1 := HS.out _ _ K1.out
      refine ⟨hs1, ?_⟩
      iterate 1 (refine ord_flo ?_ (fun _ _ _ h => h) rfl ?_ hs1 ?_; rotate_left; focus (intro W hS; obtain ⟨s0, s1, s2, s3, s4, s5, s6, s7, s8, s9, s10, s11, s12⟩ := hS; go_simp; rfl))
      iterate 2 (refine ord_flo ?_ (fun _ _ _ h => h) (by rw [hops.out]; kernel_rfl) ?_ hs1 ?_; rotate_left; focus (intro W hS; obtain ⟨s0, s1, s2, s3, s4, s5, s6, s7, s8, s9, s10, s11, s12⟩ := hS; go_simp; rfl))
      try go_frame
      refine ord_ev (by rw [hops.out]; kernel_rfl) ?_
      go_simp
      refine (Cname2.out _).mono ?_
      rintro e w2 ⟨rfl, b2⟩
      have K2 := Lib.hid ((K1.out).call b2)
      clear b2
      have hs2 := HS.out _ _ K2.out
      refine ⟨hs2, ?_⟩
      iterate 1 (refine ord_flo ?_ (fun _ _ _ h => h) rfl ?_ hs2 ?_; rotate_left; focus (intro W hS; obtain ⟨s0, s1, s2, s3, s4, s5, s6, s7, s8, s9, s10, s11, s12⟩ := hS; go_simp; rfl))
      try go_frame
      refine ord_ev rfl ?_
      refine wp_store_row2 _ _ _ rfl (w.heap.size + 1) #[sv x.tag, .int .i64 x.kind, sv x.box, sv [], .bool x.uid, .slice p x.sset.length c, .int .i64 0, .int .i64 0, sv [], .bool false, .slice none 0 0] (by rfl) (by rfl) _ _ (K2.out).r (by kernel_rfl) rfl (by simp [Value.oneCell', sv]) ?_
      intro Z hZ
      have KF := Lib.hid (show Own3 _ w Z _ _ _ from by rw [hZ]; exact (K2.out).setR #[sv x.tag, .int .i64 x.kind, sv x.box, sv [], .bool x.uid, .slice p x.sset.length c, .int .i64 0, .int .i64 0, sv [], .bool false, .slice none 0 0])
      clear hZ
      refine ⟨HS.out _ _ KF.out, ?_⟩
      have hsf := HS.out _ _ KF.out
      iterate 1 (refine ord_flo ?_ (fun _ _ _ h => h) rfl ?_ hsf ?_; rotate_left; focus (intro W hS; obtain ⟨s0, s1, s2, s3, s4, s5, s6, s7, s8, s9, s10, s11, s12⟩ := hS; go_simp; rfl))
      refine ord_done ?_
      go_simp
      clear HS hsf hs0 hs1 hs2
      have g0 := (Lib.cell_of_heap KF.out.r 0).trans (show _ = some (sv x.tag) from rfl)
      have g1 := (Lib.cell_of_heap KF.out.r 1).trans (show _ = some (.int .i64 x.kind) from rfl)
      have g2 := (Lib.cell_of_heap KF.out.r 2).trans (show _ = some (sv x.box) from rfl)
      have g3 := (Lib.cell_of_heap KF.out.r 3).trans (show _ = some (sv []) from rfl)
      have g4 := (Lib.cell_of_heap KF.out.r 4).trans (show _ = some (.bool x.uid) from rfl)
      have g5 := (Lib.cell_of_heap KF.out.r 5).trans (show _ = some (.slice p x.sset.length c) from rfl)
      have g6 := (Lib.cell_of_heap KF.out.r 6).trans (show _ = some (.int .i64 0) from rfl)
      have g7 := (Lib.cell_of_heap KF.out.r 7).trans (show _ = some (.int .i64 0) from rfl)
      have g8 := (Lib.cell_of_heap KF.out.r 8).trans (show _ = some (sv []) from rfl)
      have g9 := (Lib.cell_of_heap KF.out.r 9).trans (show _ = some (.bool false) from rfl)
      have g10 := (Lib.cell_of_heap KF.out.r 10).trans (show _ = some (.slice none 0 0) from rfl)
      have HB := Lib.hid KF.out.b
      clear KF
      go_wp2
      exact bodyPost_ret (v := .tuple #[.agg #[sv x.tag, .int .i64 x.kind, sv x.box, sv [], .bool x.uid, .slice p x.sset.length c, .int .i64 0, .int .i64 0, sv [], .bool false, .slice none 0 0], .bool false]) (by simp [results, Try.results31, go_sem, g0, g1, g2, g3, g4, g5, g6, g7, g8, g9, g10]) rfl ⟨fin2 (by first | rfl | (rw [e0] <;> rfl) | (rw [e0, e1] <;> rfl)), HB.out⟩
  | false =>
    rw [e0] at Cset5
    refine ord_start [(0, true), (1, true), (2, true), (3, false), (4, true), (5, true), (6, true), (7, false), (8, true), (9, false), (10, true)] (fun W => W.cell? ⟨w.heap.size, 5, none⟩ = some (.slice p x.sset.length c) ∧ W.cell? ⟨w.heap.size, 2, none⟩ = some (sv x.box) ∧ W.cell? ⟨w.heap.size + 1 + 1, 0, none⟩ = some (sv x.tag) ∧ W.cell? ⟨w.heap.size + 1 + 1, 1, none⟩ = some (.int .i64 x.kind) ∧ W.cell? ⟨w.heap.size + 1 + 1, 2, none⟩ = some (sv x.box) ∧ W.cell? ⟨w.heap.size + 1 + 1, 3, none⟩ = some (sv []) ∧ W.cell? ⟨w.heap.size + 1 + 1, 4, none⟩ = some (.bool x.uid) ∧ W.cell? ⟨w.heap.size + 1 + 1, 5, none⟩ = some (.slice p x.sset.length c) ∧ W.cell? ⟨w.heap.size + 1 + 1, 6, none⟩ = some (.int .i64 0) ∧ W.cell? ⟨w.heap.size + 1 + 1, 7, none⟩ = some (.int .i64 0) ∧ W.cell? ⟨w.heap.size + 1 + 1, 8, none⟩ = some (sv []) ∧ W.cell? ⟨w.heap.size + 1 + 1, 9, none⟩ = some (.bool false) ∧ W.cell? ⟨w.heap.size + 1 + 1, 10, none⟩ = some (.slice none 0 0)) (by kernel_rfl) (by kernel_rfl) rfl (by kernel_rfl) ?_
    intro ops' hops
    simp only [List.map_cons, List.map_nil, pickOp_zero, pickOp_succ]
    iterate 3 (refine ord_flo ?_ (fun _ _ _ h => h) rfl ?_ hs0 ?_; rotate_left; focus (intro W hS; obtain ⟨s0, s1, s2, s3, s4, s5, s6, s7, s8, s9, s10, s11, s12⟩ := hS; go_simp; rfl))
    try go_frame
    refine ord_ev rfl ?_
    go_simp
    refine (Cset5.out _ (K0.out.drew).b).mono ?_
    rintro e w1 ⟨rfl, b1⟩
    have K1 := Lib.hid ((K0.out.drew).call b1)
    clear b1
    have hs1 := HS.out _ _ K1.out
    refine ⟨hs1, ?_⟩
    iterate 1 (refine ord_flo ?_ (fun _ _ _ h => h) rfl ?_ hs1 ?_; rotate_left; focus (intro W hS; obtain ⟨s0, s1, s2, s3, s4, s5, s6, s7, s8, s9, s10, s11, s12⟩ := hS; go_simp; rfl))
    iterate 2 (refine ord_not (fun _ _ _ h => h) (by rw [hops.out]; kernel_rfl) hs1 ?_)
    refine ord_evnot hs1 (by rw [hops.out]; kernel_rfl) ?_
    iterate 1 (refine ord_flo ?_ (fun _ _ _ h => h) rfl ?_ hs1 ?_; rotate_left; focus (intro W hS; obtain ⟨s0, s1, s2, s3, s4, s5, s6, s7, s8, s9, s10, s11, s12⟩ := hS; go_simp; rfl))
    try go_frame
    refine ord_ev rfl ?_
    refine wp_store_row2 _ _ _ rfl (w.heap.size + 1) #[sv x.tag, .int .i64 x.kind, sv x.box, sv [], .bool x.uid, .slice p x.sset.length c, .int .i64 0, .int .i64 0, sv [], .bool false, .slice none 0 0] (by rfl) (by rfl) _ _ (K1.out).r (by kernel_rfl) rfl (by simp [Value.oneCell', sv]) ?_
    intro Z hZ
    have KF := Lib.hid (show Own3 _ w Z _ _ _ from by rw [hZ]; exact (K1.out).setR #[sv x.tag, .int .i64 x.kind, sv x.box, sv [], .bool x.uid, .slice p x.sset.length c, .int .i64 0, .int .i64 0, sv [], .bool false, .slice none 0 0])
    clear hZ
    refine ⟨HS.out _ _ KF.out, ?_⟩
    have hsf := HS.out _ _ KF.out
    iterate 1 (refine ord_flo ?_ (fun _ _ _ h => h) rfl ?_ hsf ?_; rotate_left; focus (intro W hS; obtain ⟨s0, s1, s2, s3, s4, s5, s6, s7, s8, s9, s10, s11, s12⟩ := hS; go_simp; rfl))
    refine ord_done ?_
    go_simp
    clear HS hsf hs0 hs1
    have g0 := (Lib.cell_of_heap KF.out.r 0).trans (show _ = some (sv x.tag) from rfl)
    have g1 := (Lib.cell_of_heap KF.out.r 1).trans (show _ = some (.int .i64 x.kind) from rfl)
    have g2 := (Lib.cell_of_heap KF.out.r 2).trans (show _ = some (sv x.box) from rfl)
    have g3 := (Lib.cell_of_heap KF.out.r 3).trans (show _ = some (sv []) from rfl)
    have g4 := (Lib.cell_of_heap KF.out.r 4).trans (show _ = some (.bool x.uid) from rfl)
    have g5 := (Lib.cell_of_heap KF.out.r 5).trans (show _ = some (.slice p x.sset.length c) from rfl)
    have g6 := (Lib.cell_of_heap KF.out.r 6).trans (show _ = some (.int .i64 0) from rfl)
    have g7 := (Lib.cell_of_heap KF.out.r 7).trans (show _ = some (.int .i64 0) from rfl)
    have g8 := (Lib.cell_of_heap KF.out.r 8).trans (show _ = some (sv []) from rfl)
    have g9 := (Lib.cell_of_heap KF.out.r 9).trans (show _ = some (.bool false) from rfl)
    have g10 := (Lib.cell_of_heap KF.out.r 10).trans (show _ = some (.slice none 0 0) from rfl)
    have HB := Lib.hid KF.out.b
    clear KF
    go_wp2
    exact bodyPost_ret (v := .tuple #[.agg #[sv x.tag, .int .i64 x.kind, sv x.box, sv [], .bool x.uid, .slice p x.sset.length c, .int .i64 0, .int .i64 0, sv [], .bool false, .slice none 0 0], .bool false]) (by simp [results, Try.results31, go_sem, g0, g1, g2, g3, g4, g5, g6, g7, g8, g9, g10]) rfl ⟨fin2 (by first | rfl | (rw [e0] <;> rfl)), HB.out⟩

set_option maxRecDepth 20000 in
set_option maxHeartbeats 6400000 in
theorem own_8 (x : CmdD) (p q : Option Addr) (c d : Nat) (w : World) (hk : x.kind = 8) (ha : LfRd w (spnsLf x.sset) (.slice p x.sset.length c)) (_ha2 : LfRd w (scpsLf x.filter.scopes) (.slice q x.filter.scopes.length d)) (hs : szLs x.lf ≤ 1048576) (hbd : LsBnd x.lf) :
    Calls Try.prog 31 #[cmdv x (.slice p x.sset.length c) (.slice q x.filter.scopes.length d)] w fun e w' => e = .returned (.tuple #[.agg #[sv x.tag, .int .i64 x.kind, sv [], sv [], .bool x.uid, .slice p x.sset.length c, .int .i64 x.op, .int .i64 x.flags, sv [], .bool false, .slice none 0 0], .bool (setB x.sset && opB x.op && flB x.flags)]) ∧ Below w.heap.size w w' := by
  obtain ⟨_, z2, z3, z5, z8, z9, z10⟩ := CmdD.small hs
  obtain ⟨_, i6, i7, i5, i10⟩ := CmdD.bndO hbd
  have cset5 := fun W (h : Below w.heap.size w W) => implSetOk_big (.slice p x.sset.length c) x.sset W (spns_rd (LfRd.below h _ _ ha)) (by omega)
  have cop6 := fun W => implOpText_at x.op W
  have cflags7 := fun W => implFlagsOk_at x.flags W
  clear ha _ha2 z2 z3 z5 z8 z9 z10 i6 i7 i5 i10 hs hbd
  have t1 : (x.kind == 1) = false := by rw [beq_eq_false_iff_ne]; omega
  have t3 : (x.kind == 3) = false := by rw [beq_eq_false_iff_ne]; omega
  have t4 : (x.kind == 4) = false := by rw [beq_eq_false_iff_ne]; omega
  have t5 : (x.kind == 5) = false := by rw [beq_eq_false_iff_ne]; omega
  have t9 : (x.kind == 9) = false := by rw [beq_eq_false_iff_ne]; omega
  have t15 : (x.kind == 15) = false := by rw [beq_eq_false_iff_ne]; omega
  have t2 : (x.kind == 2) = false := by rw [beq_eq_false_iff_ne]; omega
  have t12 : (x.kind == 12) = false := by rw [beq_eq_false_iff_ne]; omega
  have t13 : (x.kind == 13) = false := by rw [beq_eq_false_iff_ne]; omega
  have t14 : (x.kind == 14) = false := by rw [beq_eq_false_iff_ne]; omega
  have t11 : (x.kind == 11) = false := by rw [beq_eq_false_iff_ne]; omega
  have t7 : (x.kind == 7) = false := by rw [beq_eq_false_iff_ne]; omega
  have t10 : (x.kind == 10) = false := by rw [beq_eq_false_iff_ne]; omega
  have t8 : (x.kind == 8) = true := by rw [beq_iff_eq]; omega
  clear hk
  have Cset5 := Lib.hid cset5
  clear cset5
  have Cop6 := Lib.hid cop6
  clear cop6
  have Cflags7 := Lib.hid cflags7
  clear cflags7
  go_enter Try.func31, Try.ntmps31
  go_wp2
  refine wp_named ?_
  intro X hX
  have H0 := Lib.hid (Own3.of hX)
  clear hX
  have HS := Lib.hid (fun (W : World) (R O : Array Value) (H : Own3 36 w W #[sv x.tag, .int .i64 x.kind, sv x.box, sv x.to, .bool x.uid, .slice p x.sset.length c, .int .i64 x.op, .int .i64 x.flags, sv x.text, .bool x.filter.on, .slice q x.filter.scopes.length d] R O) => (⟨(Lib.cell_of_heap H.a 4).trans rfl, (Lib.cell_of_heap H.a 5).trans rfl, (Lib.cell_of_heap H.a 6).trans rfl, (Lib.cell_of_heap H.a 7).trans rfl⟩ : W.cell? ⟨w.heap.size, 4, none⟩ = some (.bool x.uid) ∧ W.cell? ⟨w.heap.size, 5, none⟩ = some (.slice p x.sset.length c) ∧ W.cell? ⟨w.heap.size, 6, none⟩ = some (.int .i64 x.op) ∧ W.cell? ⟨w.heap.size, 7, none⟩ = some (.int .i64 x.flags)))
  have hs0 := HS.out X.drew _ _ H0.out.drew
  refine ord_start [(0, true), (1, true), (2, true), (3, true), (4, true), (5, true), (6, true), (7, true), (8, true), (9, false), (10, true), (11, false), (12, true), (13, false), (14, true), (15, false)] (fun W => W.cell? ⟨w.heap.size, 4, none⟩ = some (.bool x.uid) ∧ W.cell? ⟨w.heap.size, 5, none⟩ = some (.slice p x.sset.length c) ∧ W.cell? ⟨w.heap.size, 6, none⟩ = some (.int .i64 x.op) ∧ W.cell? ⟨w.heap.size, 7, none⟩ = some (.int .i64 x.flags)) (by kernel_rfl) (by kernel_rfl) rfl (by kernel_rfl) ?_
  intro ops' hops
  clear hops
  simp only [List.map_cons, List.map_nil, pickOp_zero, pickOp_succ]
  iterate 9 (refine ord_flo ?_ (fun _ _ _ h => h) rfl ?_ hs0 ?_; rotate_left; focus (intro W hS; obtain ⟨s0, s1, s2, s3⟩ := hS; go_simp; rfl))
  go_frame
  refine ord_ev rfl ?_
  refine wp_store_cell _ _ _ rfl (w.heap.size + 1 + 1) 4 (.bool x.uid) (by rfl) (by rfl) _ _ (H0.out.drew).o (by simp) (by kernel_rfl) rfl rfl ?_
  intro X1 hX1
  have H1 := Lib.hid (show Own3 _ w X1 _ _ _ from by rw [hX1]; exact (H0.out.drew).setO 4 (.bool x.uid))
  clear hX1
  refine ⟨HS.out _ _ _ H1.out, ?_⟩
  have hs1 := HS.out _ _ _ H1.out
  iterate 1 (refine ord_flo ?_ (fun _ _ _ h => h) rfl ?_ hs1 ?_; rotate_left; focus (intro W hS; obtain ⟨s0, s1, s2, s3⟩ := hS; go_simp; rfl))
  go_frame
  refine ord_ev rfl ?_
  refine wp_store_cell _ _ _ rfl (w.heap.size + 1 + 1) 5 (.slice p x.sset.length c) (by rfl) (by rfl) _ _ (H1.out).o (by simp) (by kernel_rfl) rfl rfl ?_
  intro X2 hX2
  have H2 := Lib.hid (show Own3 _ w X2 _ _ _ from by rw [hX2]; exact (H1.out).setO 5 (.slice p x.sset.length c))
  clear hX2
  refine ⟨HS.out _ _ _ H2.out, ?_⟩
  have hs2 := HS.out _ _ _ H2.out
  iterate 1 (refine ord_flo ?_ (fun _ _ _ h => h) rfl ?_ hs2 ?_; rotate_left; focus (intro W hS; obtain ⟨s0, s1, s2, s3⟩ := hS; go_simp; rfl))
  go_frame
  refine ord_ev rfl ?_
  refine wp_store_cell _ _ _ rfl (w.heap.size + 1 + 1) 6 (.int .i64 x.op) (by rfl) (by rfl) _ _ (H2.out).o (by simp) (by kernel_rfl) rfl rfl ?_
  intro X3 hX3
  have H3 := Lib.hid (show Own3 _ w X3 _ _ _ from by rw [hX3]; exact (H2.out).setO 6 (.int .i64 x.op))
  clear hX3
  refine ⟨HS.out _ _ _ H3.out, ?_⟩
  have hs3 := HS.out _ _ _ H3.out
  iterate 1 (refine ord_flo ?_ (fun _ _ _ h => h) rfl ?_ hs3 ?_; rotate_left; focus (intro W hS; obtain ⟨s0, s1, s2, s3⟩ := hS; go_simp; rfl))
  go_frame
  refine ord_ev rfl ?_
  refine wp_store_cell _ _ _ rfl (w.heap.size + 1 + 1) 7 (.int .i64 x.flags) (by rfl) (by rfl) _ _ (H3.out).o (by simp) (by kernel_rfl) rfl rfl ?_
  intro X4 hX4
  have H4 := Lib.hid (show Own3 _ w X4 _ _ _ from by rw [hX4]; exact (H3.out).setO 7 (.int .i64 x.flags))
  clear hX4
  refine ⟨HS.out _ _ _ H4.out, ?_⟩
  have hs4 := HS.out _ _ _ H4.out
  refine ord_done ?_
  go_simp
  clear HS hs0 hs1 hs2 hs3 hs4
  go_wp2
  have K0 := Lib.hid H4.out
  clear H0 H1 H2 H3 H4
  have HS := Lib.hid (fun (W : World) (R : Array Value) (H : Own3 36 w W #[sv x.tag, .int .i64 x.kind, sv x.box, sv x.to, .bool x.uid, .slice p x.sset.length c, .int .i64 x.op, .int .i64 x.flags, sv x.text, .bool x.filter.on, .slice q x.filter.scopes.length d] R #[sv x.tag, .int .i64 x.kind, sv [], sv [], .bool x.uid, .slice p x.sset.length c, .int .i64 x.op, .int .i64 x.flags, sv [], .bool false, .slice none 0 0]) => (⟨(Lib.cell_of_heap H.a 5).trans rfl, (Lib.cell_of_heap H.a 6).trans rfl, (Lib.cell_of_heap H.a 7).trans rfl, (Lib.cell_of_heap H.o 0).trans rfl, (Lib.cell_of_heap H.o 1).trans rfl, (Lib.cell_of_heap H.o 2).trans rfl, (Lib.cell_of_heap H.o 3).trans rfl, (Lib.cell_of_heap H.o 4).trans rfl, (Lib.cell_of_heap H.o 5).trans rfl, (Lib.cell_of_heap H.o 6).trans rfl, (Lib.cell_of_heap H.o 7).trans rfl, (Lib.cell_of_heap H.o 8).trans rfl, (Lib.cell_of_heap H.o 9).trans rfl, (Lib.cell_of_heap H.o 10).trans rfl⟩ : W.cell? ⟨w.heap.size, 5, none⟩ = some (.slice p x.sset.length c) ∧ W.cell? ⟨w.heap.size, 6, none⟩ = some (.int .i64 x.op) ∧ W.cell? ⟨w.heap.size, 7, none⟩ = some (.int .i64 x.flags) ∧ W.cell? ⟨w.heap.size + 1 + 1, 0, none⟩ = some (sv x.tag) ∧ W.cell? ⟨w.heap.size + 1 + 1, 1, none⟩ = some (.int .i64 x.kind) ∧ W.cell? ⟨w.heap.size + 1 + 1, 2, none⟩ = some (sv []) ∧ W.cell? ⟨w.heap.size + 1 + 1, 3, none⟩ = some (sv []) ∧ W.cell? ⟨w.heap.size + 1 + 1, 4, none⟩ = some (.bool x.uid) ∧ W.cell? ⟨w.heap.size + 1 + 1, 5, none⟩ = some (.slice p x.sset.length c) ∧ W.cell? ⟨w.heap.size + 1 + 1, 6, none⟩ = some (.int .i64 x.op) ∧ W.cell? ⟨w.heap.size + 1 + 1, 7, none⟩ = some (.int .i64 x.flags) ∧ W.cell? ⟨w.heap.size + 1 + 1, 8, none⟩ = some (sv []) ∧ W.cell? ⟨w.heap.size + 1 + 1, 9, none⟩ = some (.bool false) ∧ W.cell? ⟨w.heap.size + 1 + 1, 10, none⟩ = some (.slice none 0 0)))
  have hs0 := HS.out X4.drew _ K0.out.drew
  cases e0 : (setB x.sset) with
  | true =>
    cases e1 : (opB x.op) with
    | true =>
      cases e2 : (flB x.flags) with
      | true =>
        rw [e0] at Cset5
        have eop : (opT x.op != []) = true := (opB_text x.op).trans e1
        have eop2 : ¬ opT x.op = [] := by simpa using eop
        rw [e2] at Cflags7
        refine ord_start [(0, true), (1, true), (2, true), (3, false), (4, true), (5, true), (6, true), (7, false), (8, true), (9, true), (10, true), (11, true), (12, true), (13, false), (14, true), (15, false), (16, true)] (fun W => W.cell? ⟨w.heap.size, 5, none⟩ = some (.slice p x.sset.length c) ∧ W.cell? ⟨w.heap.size, 6, none⟩ = some (.int .i64 x.op) ∧ W.cell? ⟨w.heap.size, 7, none⟩ = some (.int .i64 x.flags) ∧ W.cell? ⟨w.heap.size + 1 + 1, 0, none⟩ = some (sv x.tag) ∧ W.cell? ⟨w.heap.size + 1 + 1, 1, none⟩ = some (.int .i64 x.kind) ∧ W.cell? ⟨w.heap.size + 1 + 1, 2, none⟩ = some (sv []) ∧ W.cell? ⟨w.heap.size + 1 + 1, 3, none⟩ = some (sv []) ∧ W.cell? ⟨w.heap.size + 1 + 1, 4, none⟩ = some (.bool x.uid) ∧ W.cell? ⟨w.heap.size + 1 + 1, 5, none⟩ = some (.slice p x.sset.length c) ∧ W.cell? ⟨w.heap.size + 1 + 1, 6, none⟩ = some (.int .i64 x.op) ∧ W.cell? ⟨w.heap.size + 1 + 1, 7, none⟩ = some (.int .i64 x.flags) ∧ W.cell? ⟨w.heap.size + 1 + 1, 8, none⟩ = some (sv []) ∧ W.cell? ⟨w.heap.size + 1 + 1, 9, none⟩ = some (.bool false) ∧ W.cell? ⟨w.heap.size + 1 + 1, 10, none⟩ = some (.slice none 0 0)) (by kernel_rfl) (by kernel_rfl) rfl (by kernel_rfl) ?_
        intro ops' hops
        simp only [List.map_cons, List.map_nil, pickOp_zero, pickOp_succ]
        iterate 3 (refine ord_flo ?_ (fun _ _ _ h => h) rfl ?_ hs0 ?_; rotate_left; focus (intro W hS; obtain ⟨s0, s1, s2, s3, s4, s5, s6, s7, s8, s9, s10, s11, s12, s13⟩ := hS; go_simp; rfl))
        try go_frame
        refine ord_ev rfl ?_
        go_simp
        refine (Cset5.out _ (K0.out.drew).b).mono ?_
        rintro e w1 ⟨rfl, b1⟩
        have K1 := Lib.hid ((K0.out.drew).call b1)
        clear b1
        have hs1 := HS.out _ _ K1.out
        refine ⟨hs1, ?_⟩
        iterate 1 (refine ord_flo ?_ (fun _ _ _ h => h) rfl ?_ hs1 ?_; rotate_left; focus (intro W hS; obtain ⟨s0, s1, s2, s3, s4, s5, s6, s7, s8, s9, s10, s11, s12, s13⟩ := hS; go_simp; rfl))
        iterate 2 (refine ord_flo ?_ (fun _ _ _ h => h) (by rw [hops.out]; kernel_rfl) ?_ hs1 ?_; rotate_left; focus (intro W hS; obtain ⟨s0, s1, s2, s3, s4, s5, s6, s7, s8, s9, s10, s11, s12, s13⟩ := hS; go_simp; rfl))
        try go_frame
        refine ord_ev (by rw [hops.out]; kernel_rfl) ?_
        go_simp
        refine (Cop6.out _).mono ?_
        rintro e w2 ⟨rfl, rfl⟩
        have K2 := Lib.hid (K1.out)
        have hs2 := HS.out _ _ K2.out
        refine ⟨hs2, ?_⟩
        refine ord_flo (.bool true) (fun _ _ _ h => h) (by rw [hops.out]; kernel_rfl) (fun W hS => ?_) hs2 ?_
        focus (go_simp; try simp [eop2])
        iterate 2 (refine ord_flo ?_ (fun _ _ _ h => h) rfl ?_ hs2 ?_; rotate_left; focus (intro W hS; obtain ⟨s0, s1, s2, s3, s4, s5, s6, s7, s8, s9, s10, s11, s12, s13⟩ := hS; go_simp; rfl))
        iterate 2 (refine ord_flo ?_ (fun _ _ _ h => h) (by rw [hops.out]; kernel_rfl) ?_ hs2 ?_; rotate_left; focus (intro W hS; obtain ⟨s0, s1, s2, s3, s4, s5, s6, s7, s8, s9, s10, s11, s12, s13⟩ := hS; go_simp; rfl))
        try go_frame
        refine ord_ev (by rw [hops.out]; kernel_rfl) ?_
        go_simp
        refine (Cflags7.out _).mono ?_
        rintro e w3 ⟨rfl, rfl⟩
        have K3 := Lib.hid (K2.out)
        have hs3 := HS.out _ _ K3.out
        refine ⟨hs3, ?_⟩
        iterate 1 (refine ord_flo ?_ (fun _ _ _ h => h) rfl ?_ hs3 ?_; rotate_left; focus (intro W hS; obtain ⟨s0, s1, s2, s3, s4, s5, s6, s7, s8, s9, s10, s11, s12, s13⟩ := hS; go_simp; rfl))
        try go_frame
        refine ord_ev rfl ?_
        refine wp_store_row2 _ _ _ rfl (w.heap.size + 1) #[sv x.tag, .int .i64 x.kind, sv [], sv [], .bool x.uid, .slice p x.sset.length c, .int .i64 x.op, .int .i64 x.flags, sv [], .bool false, .slice none 0 0] (by rfl) (by rfl) _ _ (K3.out).r (by kernel_rfl) rfl (by simp [Value.oneCell', sv]) ?_
        intro Z hZ
        have KF := Lib.hid (show Own3 _ w Z _ _ _ from by rw [hZ]; exact (K3.out).setR #[sv x.tag, .int .i64 x.kind, sv [], sv [], .bool x.uid, .slice p x.sset.length c, .int .i64 x.op, .int .i64 x.flags, sv [], .bool false, .slice none 0 0])
        clear hZ
        refine ⟨HS.out _ _ KF.out, ?_⟩
        have hsf := HS.out _ _ KF.out
        iterate 1 (refine ord_flo ?_ (fun _ _ _ h => h) rfl ?_ hsf ?_; rotate_left; focus (intro W hS; obtain ⟨s0, s1, s2, s3, s4, s5, s6, s7, s8, s9, s10, s11, s12, s13⟩ := hS; go_simp; rfl))
        refine ord_done ?_
        go_simp
        clear HS hsf hs0 hs1 hs2 hs3
        have g0 := (Lib.cell_of_heap KF.out.r 0).trans (show _ = some (sv x.tag) from rfl)
        have g1 := (Lib.cell_of_heap KF.out.r 1).trans (show _ = some (.int .i64 x.kind) from rfl)
        have g2 := (Lib.cell_of_heap KF.out.r 2).trans (show _ = some (sv []) from rfl)
        have g3 := (Lib.cell_of_heap KF.out.r 3).trans (show _ = some (sv []) from rfl)
        have g4 := (Lib.cell_of_heap KF.out.r 4).trans (show _ = some (.bool x.uid) from rfl)
        have g5 := (Lib.cell_of_heap KF.out.r 5).trans (show _ = some (.slice p x.sset.length c) from rfl)
        have g6 := (Lib.cell_of_heap KF.out.r 6).trans (show _ = some (.int .i64 x.op) from rfl)
        have g7 := (Lib.cell_of_heap KF.out.r 7).trans (show _ = some (.int .i64 x.flags) from rfl)
        have g8 := (Lib.cell_of_heap KF.out.r 8).trans (show _ = some (sv []) from rfl)
        have g9 := (Lib.cell_of_heap KF.out.r 9).trans (show _ = some (.bool false) from rfl)
        have g10 := (Lib.cell_of_heap KF.out.r 10).trans (show _ = some (.slice none 0 0) from rfl)
        have HB := Lib.hid KF.out.b
        clear KF
        go_wp2
        exact bodyPost_ret (v := .tuple #[.agg #[sv x.tag, .int .i64 x.kind, sv [], sv [], .bool x.uid, .slice p x.sset.length c, .int .i64 x.op, .int .i64 x.flags, sv [], .bool false, .slice none 0 0], .bool true]) (by simp [results, Try.results31, go_sem, g0, g1, g2, g3, g4, g5, g6, g7, g8, g9, g10]) rfl ⟨fin2 (by first | rfl | (rw [e0] <;> rfl) | (rw [e0, e1] <;> rfl) | (rw [e0, e1, e2] <;> rfl)), HB.out⟩
      | false =>
        rw [e0] at Cset5
        have eop : (opT x.op != []) = true := (opB_text x.op).trans e1
        have eop2 : ¬ opT x.op = [] := by simpa using eop
        rw [e2] at Cflags7
        refine ord_start [(0, true), (1, true), (2, true), (3, false), (4, true), (5, true), (6, true), (7, false), (8, true), (9, true), (10, true), (11, true), (12, true), (13, false), (14, true), (15, false), (16, true)] (fun W => W.cell? ⟨w.heap.size, 5, none⟩ = some (.slice p x.sset.length c) ∧ W.cell? ⟨w.heap.size, 6, none⟩ = some (.int .i64 x.op) ∧ W.cell? ⟨w.heap.size, 7, none⟩ = some (.int .i64 x.flags) ∧ W.cell? ⟨w.heap.size + 1 + 1, 0, none⟩ = some (sv x.tag) ∧ W.cell? ⟨w.heap.size + 1 + 1, 1, none⟩ = some (.int .i64 x.kind) ∧ W.cell? ⟨w.heap.size + 1 + 1, 2, none⟩ = some (sv []) ∧ W.cell? ⟨w.heap.size + 1 + 1, 3, none⟩ = some (sv []) ∧ W.cell? ⟨w.heap.size + 1 + 1, 4, none⟩ = some (.bool x.uid) ∧ W.cell? ⟨w.heap.size + 1 + 1, 5, none⟩ = some (.slice p x.sset.length c) ∧ W.cell? ⟨w.heap.size + 1 + 1, 6, none⟩ = some (.int .i64 x.op) ∧ W.cell? ⟨w.heap.size + 1 + 1, 7, none⟩ = some (.int .i64 x.flags) ∧ W.cell? ⟨w.heap.size + 1 + 1, 8, none⟩ = some (sv []) ∧ W.cell? ⟨w.heap.size + 1 + 1, 9, none⟩ = some (.bool false) ∧ W.cell? ⟨w.heap.size + 1 + 1, 10, none⟩ = some (.slice none 0 0)) (by kernel_rfl) (by kernel_rfl) rfl (by kernel_rfl) ?_
        intro ops' hops
        simp only [List.map_cons, List.map_nil, pickOp_zero, pickOp_succ]
        iterate 3 (refine ord_flo ?_ (fun _ _ _ h => h) rfl ?_ hs0 ?_; rotate_left; focus (intro W hS; obtain ⟨s0, s1, s2, s3, s4, s5, s6, s7, s8, s9, s10, s11, s12, s13⟩ := hS; go_simp; rfl))
        try go_frame
        refine ord_ev rfl ?_
        go_simp
        refine (Cset5.out _ (K0.out.drew).b).mono ?_
        rintro e w1 ⟨rfl, b1⟩
        have K1 := Lib.hid ((K0.out.drew).call b1)
        clear b1
        have hs1 := HS.out _ _ K1.out
        refine ⟨hs1, ?_⟩
        iterate 1 (refine ord_flo ?_ (fun _ _ _ h => h) rfl ?_ hs1 ?_; rotate_left; focus (intro W hS; obtain ⟨s0, s1, s2, s3, s4, s5, s6, s7, s8, s9, s10, s11, s12, s13⟩ := hS; go_simp; rfl))
        iterate 2 (refine ord_flo ?_ (fun _ _ _ h => h) (by rw [hops.out]; kernel_rfl) ?_ hs1 ?_; rotate_left; focus (intro W hS; obtain ⟨s0, s1, s2, s3, s4, s5, s6, s7, s8, s9, s10, s11, s12, s13⟩ := hS; go_simp; rfl))
        try go_frame
        refine ord_ev (by rw [hops.out]; kernel_rfl) ?_
        go_simp
        refine (Cop6.out _).mono ?_
        rintro e w2 ⟨rfl, rfl⟩
        have K2 := Lib.hid (K1.out)
        have hs2 := HS.out _ _ K2.out
        refine ⟨hs2, ?_⟩
        refine ord_flo (.bool true) (fun _ _ _ h => h) (by rw [hops.out]; kernel_rfl) (fun W hS => ?_) hs2 ?_
        focus (go_simp; try simp [eop2])
        iterate 2 (refine ord_flo ?_ (fun _ _ _ h => h) rfl ?_ hs2 ?_; rotate_left; focus (intro W hS; obtain ⟨s0, s1, s2, s3, s4, s5, s6, s7, s8, s9, s10, s11, s12, s13⟩ := hS; go_simp; rfl))
        iterate 2 (refine ord_flo ?_ (fun _ _ _ h => h) (by rw [hops.out]; kernel_rfl) ?_ hs2 ?_; rotate_left; focus (intro W hS; obtain ⟨s0, s1, s2, s3, s4, s5, s6, s7, s8, s9, s10, s11, s12, s13⟩ := hS; go_simp; rfl))
        try go_frame
        refine ord_ev (by rw [hops.out]; kernel_rfl) ?_
        go_simp
        refine (Cflags7.out _).mono ?_
        rintro e w3 ⟨rfl, rfl⟩
        have K3 := Lib.hid (K2.out)
        have hs3 := HS.out _ _ K3.out
        refine ⟨hs3, ?_⟩
        iterate 1 (refine ord_flo ?_ (fun _ _ _ h => h) rfl ?_ hs3 ?_; rotate_left; focus (intro W hS; obtain ⟨s0, s1, s2, s3, s4, s5, s6, s7, s8, s9, s10, s11, s12, s13⟩ := hS; go_simp; rfl))
        try go_frame
        refine ord_ev rfl ?_
        refine wp_store_row2 _ _ _ rfl (w.heap.size + 1) #[sv x.tag, .int .i64 x.kind, sv [], sv [], .bool x.uid, .slice p x.sset.length c, .int .i64 x.op, .int .i64 x.flags, sv [], .bool false, .slice none 0 0] (by rfl) (by rfl) _ _ (K3.out).r (by kernel_rfl) rfl (by simp [Value.oneCell', sv]) ?_
        intro Z hZ
        have KF := Lib.hid (show Own3 _ w Z _ _ _ from by rw [hZ]; exact (K3.out).setR #[sv x.tag, .int .i64 x.kind, sv [], sv [], .bool x.uid, .slice p x.sset.length c, .int .i64 x.op, .int .i64 x.flags, sv [], .bool false, .slice none 0 0])
        clear hZ
        refine ⟨HS.out _ _ KF.out, ?_⟩
        have hsf := HS.out _ _ KF.out
        iterate 1 (refine ord_flo ?_ (fun _ _ _ h => h) rfl ?_ hsf ?_; rotate_left; focus (intro W hS; obtain ⟨s0, s1, s2, s3, s4, s5, s6, s7, s8, s9, s10, s11, s12, s13⟩ := hS; go_simp; rfl))
        refine ord_done ?_
        go_simp
        clear HS hsf hs0 hs1 hs2 hs3
        have g0 := (Lib.cell_of_heap KF.out.r 0).trans (show _ = some (sv x.tag) from rfl)
        have g1 := (Lib.cell_of_heap KF.out.r 1).trans (show _ = some (.int .i64 x.kind) from rfl)
        have g2 := (Lib.cell_of_heap KF.out.r 2).trans (show _ = some (sv []) from rfl)
        have g3 := (Lib.cell_of_heap KF.out.r 3).trans (show _ = some (sv []) from rfl)
        have g4 := (Lib.cell_of_heap KF.out.r 4).trans (show _ = some (.bool x.uid) from rfl)
        have g5 := (Lib.cell_of_heap KF.out.r 5).trans (show _ = some (.slice p x.sset.length c) from rfl)
        have g6 := (Lib.cell_of_heap KF.out.r 6).trans (show _ = some (.int .i64 x.op) from rfl)
        have g7 := (Lib.cell_of_heap KF.out.r 7).trans (show _ = some (.int .i64 x.flags) from rfl)
        have g8 := (Lib.cell_of_heap KF.out.r 8).trans (show _ = some (sv []) from rfl)
        have g9 := (Lib.cell_of_heap KF.out.r 9).trans (show _ = some (.bool false) from rfl)
        have g10 := (Lib.cell_of_heap KF.out.r 10).trans (show _ = some (.slice none 0 0) from rfl)
        have HB := Lib.hid KF.out.b
        clear KF
        go_wp2
        exact bodyPost_ret (v := .tuple #[.agg #[sv x.tag, .int .i64 x.kind, sv [], sv [], .bool x.uid, .slice p x.sset.length c, .int .i64 x.op, .int .i64 x.flags, sv [], .bool false, .slice none 0 0], .bool false]) (by simp [results, Try.results31, go_sem, g0, g1, g2, g3, g4, g5, g6, g7, g8, g9, g10]) rfl ⟨fin2 (by first | rfl | (rw [e0] <;> rfl) | (rw [e0, e1] <;> rfl) | (rw [e0, e1, e2] <;> rfl)), HB.out⟩
    | false =>
      rw [e0] at Cset5
      have eop : (opT x.op != []) = false := (opB_text x.op).trans e1
      have eop2 : opT x.op = [] := by simpa using eop
      refine ord_start [(0, true), (1, true), (2, true), (3, false), (4, true), (5, true), (6, true), (7, false), (8, true), (9, true), (10, true), (11, true), (12, true), (13, false), (14, true), (15, false), (16, true)] (fun W => W.cell? ⟨w.heap.size, 5, none⟩ = some (.slice p x.sset.length c) ∧ W.cell? ⟨w.heap.size, 6, none⟩ = some (.int .i64 x.op) ∧ W.cell? ⟨w.heap.size, 7, none⟩ = some (.int .i64 x.flags) ∧ W.cell? ⟨w.heap.size + 1 + 1, 0, none⟩ = some (sv x.tag) ∧ W.cell? ⟨w.heap.size + 1 + 1, 1, none⟩ = some (.int .i64 x.kind) ∧ W.cell? ⟨w.heap.size + 1 + 1, 2, none⟩ = some (sv []) ∧ W.cell? ⟨w.heap.size + 1 + 1, 3, none⟩ = some (sv []) ∧ W.cell? ⟨w.heap.size + 1 + 1, 4, none⟩ = some (.bool x.uid) ∧ W.cell? ⟨w.heap.size + 1 + 1, 5, none⟩ = some (.slice p x.sset.length c) ∧ W.cell? ⟨w.heap.size + 1 + 1, 6, none⟩ = some (.int .i64 x.op) ∧ W.cell? ⟨w.heap.size + 1 + 1, 7, none⟩ = some (.int .i64 x.flags) ∧ W.cell? ⟨w.heap.size + 1 + 1, 8, none⟩ = some (sv []) ∧ W.cell? ⟨w.heap.size + 1 + 1, 9, none⟩ = some (.bool false) ∧ W.cell? ⟨w.heap.size + 1 + 1, 10, none⟩ = some (.slice none 0 0)) (by kernel_rfl) (by kernel_rfl) rfl (by kernel_rfl) ?_
      intro ops' hops
      simp only [List.map_cons, List.map_nil, pickOp_zero, pickOp_succ]
      iterate 3 (refine ord_flo ?_ (fun _ _ _ h => h) rfl ?_ hs0 ?_; rotate_left; focus (intro W hS; obtain ⟨s0, s1, s2, s3, s4, s5, s6, s7, s8, s9, s10, s11, s12, s13⟩ := hS; go_simp; rfl))
      try go_frame
      refine ord_ev rfl ?_
      go_simp
      refine (Cset5.out _ (K0.out.drew).b).mono ?_
      rintro e w1 ⟨rfl, b1⟩
      have K1 := Lib.hid ((K0.out.drew).call b1)
      clear b1
      have hs1 := HS.out _ _ K1.out
      refine ⟨hs1, ?_⟩
      iterate 1 (refine ord_flo ?_ (fun _ _ _ h => h) rfl ?_ hs1 ?_; rotate_left; focus (intro W hS; obtain ⟨s0, s1, s2, s3, s4, s5, s6, s7, s8, s9, s10, s11, s12, s13⟩ := hS; go_simp; rfl))
      iterate 2 (refine ord_flo ?_ (fun _ _ _ h => h) (by rw [hops.out]; kernel_rfl) ?_ hs1 ?_; rotate_left; focus (intro W hS; obtain ⟨s0, s1, s2, s3, s4, s5, s6, s7, s8, s9, s10, s11, s12, s13⟩ := hS; go_simp; rfl))
      try go_frame
      refine ord_ev (by rw [hops.out]; kernel_rfl) ?_
      go_simp
      refine (Cop6.out _).mono ?_
      rintro e w2 ⟨rfl, rfl⟩
      have K2 := Lib.hid (K1.out)
      have hs2 := HS.out _ _ K2.out
      refine ⟨hs2, ?_⟩
      refine ord_flo (.bool false) (fun _ _ _ h => h) (by rw [hops.out]; kernel_rfl) (fun W hS => ?_) hs2 ?_
      focus (go_simp; try simp [eop2])
      iterate 2 (refine ord_flo ?_ (fun _ _ _ h => h) rfl ?_ hs2 ?_; rotate_left; focus (intro W hS; obtain ⟨s0, s1, s2, s3, s4, s5, s6, s7, s8, s9, s10, s11, s12, s13⟩ := hS; go_simp; rfl))
      iterate 2 (refine ord_not (fun _ _ _ h => h) (by rw [hops.out]; kernel_rfl) hs2 ?_)
      refine ord_evnot hs2 (by rw [hops.out]; kernel_rfl) ?_
      iterate 1 (refine ord_flo ?_ (fun _ _ _ h => h) rfl ?_ hs2 ?_; rotate_left; focus (intro W hS; obtain ⟨s0, s1, s2, s3, s4, s5, s6, s7, s8, s9, s10, s11, s12, s13⟩ := hS; go_simp; rfl))
      try go_frame
      refine ord_ev rfl ?_
      refine wp_store_row2 _ _ _ rfl (w.heap.size + 1) #[sv x.tag, .int .i64 x.kind, sv [], sv [], .bool x.uid, .slice p x.sset.length c, .int .i64 x.op, .int .i64 x.flags, sv [], .bool false, .slice none 0 0] (by rfl) (by rfl) _ _ (K2.out).r (by kernel_rfl) rfl (by simp [Value.oneCell', sv]) ?_
      intro Z hZ
      have KF := Lib.hid (show Own3 _ w Z _ _ _ from by rw [hZ]; exact (K2.out).setR #[sv x.tag, .int .i64 x.kind, sv [], sv [], .bool x.uid, .slice p x.sset.length c, .int .i64 x.op, .int .i64 x.flags, sv [], .bool false, .slice none 0 0])
      clear hZ
      refine ⟨HS.out _ _ KF.out, ?_⟩
      have hsf := HS.out _ _ KF.out
      iterate 1 (refine ord_flo ?_ (fun _ _ _ h => h) rfl ?_ hsf ?_; rotate_left; focus (intro W hS; obtain ⟨s0, s1, s2, s3, s4, s5, s6, s7, s8, s9, s10, s11, s12, s13⟩ := hS; go_simp; rfl))
      refine ord_done ?_
      go_simp
      clear HS hsf hs0 hs1 hs2
      have g0 := (Lib.cell_of_heap KF.out.r 0).trans (show _ = some (sv x.tag) from rfl)
      have g1 := (Lib.cell_of_heap KF.out.r 1).trans (show _ = some (.int .i64 x.kind) from rfl)
      have g2 := (Lib.cell_of_heap KF.out.r 2).trans (show _ = some (sv []) from rfl)
      have g3 := (Lib.cell_of_heap KF.out.r 3).trans (show _ = some (sv []) from rfl)
      have g4 := (Lib.cell_of_heap KF.out.r 4).trans (show _ = some (.bool x.uid) from rfl)
      have g5 := (Lib.cell_of_heap KF.out.r 5).trans (show _ = some (.slice p x.sset.length c) from rfl)
      have g6 := (Lib.cell_of_heap KF.out.r 6).trans (show _ = some (.int .i64 x.op) from rfl)
      have g7 := (Lib.cell_of_heap KF.out.r 7).trans (show _ = some (.int .i64 x.flags) from rfl)
      have g8 := (Lib.cell_of_heap KF.out.r 8).trans (show _ = some (sv []) from rfl)
      have g9 := (Lib.cell_of_heap KF.out.r 9).trans (show _ = some (.bool false) from rfl)
      have g10 := (Lib.cell_of_heap KF.out.r 10).trans (show _ = some (.slice none 0 0) from rfl)
      have HB := Lib.hid KF.out.b
      clear KF
      go_wp2
      exact bodyPost_ret (v := .tuple #[.agg #[sv x.tag, .int .i64 x.kind, sv [], sv [], .bool x.uid, .slice p x.sset.length c, .int .i64 x.op, .int .i64 x.flags, sv [], .bool false, .slice none 0 0], .bool false]) (by simp [results, Try.results31, go_sem, g0, g1, g2, g3, g4, g5, g6, g7, g8, g9, g10]) rfl ⟨fin2 (by first | rfl | (rw [e0] <;> rfl) | (rw [e0, e1] <;> rfl)), HB.out⟩
  | false =>
    rw [e0] at Cset5
    refine ord_start [(0, true), (1, true), (2, true), (3, false), (4, true), (5, true), (6, true), (7, false), (8, true), (9, true), (10, true), (11, true), (12, true), (13, false), (14, true), (15, false), (16, true)] (fun W => W.cell? ⟨w.heap.size, 5, none⟩ = some (.slice p x.sset.length c) ∧ W.cell? ⟨w.heap.size, 6, none⟩ = some (.int .i64 x.op) ∧ W.cell? ⟨w.heap.size, 7, none⟩ = some (.int .i64 x.flags) ∧ W.cell? ⟨w.heap.size + 1 + 1, 0, none⟩ = some (sv x.tag) ∧ W.cell? ⟨w.heap.size + 1 + 1, 1, none⟩ = some (.int .i64 x.kind) ∧ W.cell? ⟨w.heap.size + 1 + 1, 2, none⟩ = some (sv []) ∧ W.cell? ⟨w.heap.size + 1 + 1, 3, none⟩ = some (sv []) ∧ W.cell? ⟨w.heap.size + 1 + 1, 4, none⟩ = some (.bool x.uid) ∧ W.cell? ⟨w.heap.size + 1 + 1, 5, none⟩ = some (.slice p x.sset.length c) ∧ W.cell? ⟨w.heap.size + 1 + 1, 6, none⟩ = some (.int .i64 x.op) ∧ W.cell? ⟨w.heap.size + 1 + 1, 7, none⟩ = some (.int .i64 x.flags) ∧ W.cell? ⟨w.heap.size + 1 + 1, 8, none⟩ = some (sv []) ∧ W.cell? ⟨w.heap.size + 1 + 1, 9, none⟩ = some (.bool false) ∧ W.cell? ⟨w.heap.size + 1 + 1, 10, none⟩ = some (.slice none 0 0)) (by kernel_rfl) (by kernel_rfl) rfl (by kernel_rfl) ?_
    intro ops' hops
    simp only [List.map_cons, List.map_nil, pickOp_zero, pickOp_succ]
    iterate 3 (refine ord_flo ?_ (fun _ _ _ h => h) rfl ?_ hs0 ?_; rotate_left; focus (intro W hS; obtain ⟨s0, s1, s2, s3, s4, s5, s6, s7, s8, s9, s10, s11, s12, s13⟩ := hS; go_simp; rfl))
    try go_frame
    refine ord_ev rfl ?_
    go_simp
    refine (Cset5.out _ (K0.out.drew).b).mono ?_
    rintro e w1 ⟨rfl, b1⟩
    have K1 := Lib.hid ((K0.out.drew).call b1)
    clear b1
    have hs1 := HS.out _ _ K1.out
    refine ⟨hs1, ?_⟩
    iterate 1 (refine ord_flo ?_ (fun _ _ _ h => h) rfl ?_ hs1 ?_; rotate_left; focus (intro W hS; obtain ⟨s0, s1, s2, s3, s4, s5, s6, s7, s8, s9, s10, s11, s12, s13⟩ := hS; go_simp; rfl))
    iterate 2 (refine ord_not (fun _ _ _ h => h) (by rw [hops.out]; kernel_rfl) hs1 ?_)
    refine ord_evnot hs1 (by rw [hops.out]; kernel_rfl) ?_
    iterate 1 (refine ord_not (fun _ _ _ h => h) (by rw [hops.out]; kernel_rfl) hs1 ?_)
    iterate 2 (refine ord_flo ?_ (fun _ _ _ h => h) rfl ?_ hs1 ?_; rotate_left; focus (intro W hS; obtain ⟨s0, s1, s2, s3, s4, s5, s6, s7, s8, s9, s10, s11, s12, s13⟩ := hS; go_simp; rfl))
    iterate 2 (refine ord_not (fun _ _ _ h => h) (by rw [hops.out]; kernel_rfl) hs1 ?_)
    refine ord_evnot hs1 (by rw [hops.out]; kernel_rfl) ?_
    iterate 1 (refine ord_flo ?_ (fun _ _ _ h => h) rfl ?_ hs1 ?_; rotate_left; focus (intro W hS; obtain ⟨s0, s1, s2, s3, s4, s5, s6, s7, s8, s9, s10, s11, s12, s13⟩ := hS; go_simp; rfl))
    try go_frame
    refine ord_ev rfl ?_
    refine wp_store_row2 _ _ _ rfl (w.heap.size + 1) #[sv x.tag, .int .i64 x.kind, sv [], sv [], .bool x.uid, .slice p x.sset.length c, .int .i64 x.op, .int .i64 x.flags, sv [], .bool false, .slice none 0 0] (by rfl) (by rfl) _ _ (K1.out).r (by kernel_rfl) rfl (by simp [Value.oneCell', sv]) ?_
    intro Z hZ
    have KF := Lib.hid (show Own3 _ w Z _ _ _ from by rw [hZ]; exact (K1.out).setR #[sv x.tag, .int .i64 x.kind, sv [], sv [], .bool x.uid, .slice p x.sset.length c, .int .i64 x.op, .int .i64 x.flags, sv [], .bool false, .slice none 0 0])
    clear hZ
    refine ⟨HS.out _ _ KF.out, ?_⟩
    have hsf := HS.out _ _ KF.out
    iterate 1 (refine ord_flo ?_ (fun _ _ _ h => h) rfl ?_ hsf ?_; rotate_left; focus (intro W hS; obtain ⟨s0, s1, s2, s3, s4, s5, s6, s7, s8, s9, s10, s11, s12, s13⟩ := hS; go_simp; rfl))
    refine ord_done ?_
    go_simp
    clear HS hsf hs0 hs1
    have g0 := (Lib.cell_of_heap KF.out.r 0).trans (show _ = some (sv x.tag) from rfl)
    have g1 := (Lib.cell_of_heap KF.out.r 1).trans (show _ = some (.int .i64 x.kind) from rfl)
    have g2 := (Lib.cell_of_heap KF.out.r 2).trans (show _ = some (sv []) from rfl)
    have g3 := (Lib.cell_of_heap KF.out.r 3).trans (show _ = some (sv []) from rfl)
    have g4 := (Lib.cell_of_heap KF.out.r 4).trans (show _ = some (.bool x.uid) from rfl)
    have g5 := (Lib.cell_of_heap KF.out.r 5).trans (show _ = some (.slice p x.sset.length c) from rfl)
    have g6 := (Lib.cell_of_heap KF.out.r 6).trans (show _ = some (.int .i64 x.op) from rfl)
    have g7 := (Lib.cell_of_heap KF.out.r 7).trans (show _ = some (.int .i64 x.flags) from rfl)
    have g8 := (Lib.cell_of_heap KF.out.r 8).trans (show _ = some (sv []) from rfl)
    have g9 := (Lib.cell_of_heap KF.out.r 9).trans (show _ = some (.bool false) from rfl)
    have g10 := (Lib.cell_of_heap KF.out.r 10).trans (show _ = some (.slice none 0 0) from rfl)
    have HB := Lib.hid KF.out.b
    clear KF
    go_wp2
    exact bodyPost_ret (v := .tuple #[.agg #[sv x.tag, .int .i64 x.kind, sv [], sv [], .bool x.uid, .slice p x.sset.length c, .int .i64 x.op, .int .i64 x.flags, sv [], .bool false, .slice none 0 0], .bool false]) (by simp [results, Try.results31, go_sem, g0, g1, g2, g3, g4, g5, g6, g7, g8, g9, g10]) rfl ⟨fin2 (by first | rfl | (rw [e0] <;> rfl)), HB.out⟩

set_option maxRecDepth 20000 in
set_option maxHeartbeats 6400000 in
theorem own_6 (x : CmdD) (p q : Option Addr) (c d : Nat) (w : World) (hk : x.kind = 6) (_ha : LfRd w (spnsLf x.sset) (.slice p x.sset.length c)) (ha2 : LfRd w (scpsLf x.filter.scopes) (.slice q x.filter.scopes.length d)) (hs : szLs x.lf ≤ 1048576) (hbd : LsBnd x.lf) :
    Calls Try.prog 31 #[cmdv x (.slice p x.sset.length c) (.slice q x.filter.scopes.length d)] w fun e w' => e = .returned (.tuple #[.agg #[sv x.tag, .int .i64 x.kind, sv [], sv [], .bool false, .slice none 0 0, .int .i64 0, .int .i64 0, sv [], .bool x.filter.on, .slice q x.filter.scopes.length d], .bool (filterB x.filter)]) ∧ Below w.heap.size w w' := by
  obtain ⟨_, z2, z3, z5, z8, z9, z10⟩ := CmdD.small hs
  obtain ⟨_, i6, i7, i5, i10⟩ := CmdD.bndO hbd
  have cfilter9 := fun W (h : Below w.heap.size w W) => implFilterOk_any x.filter (.slice q x.filter.scopes.length d) W trivial (LfRd.below h _ _ ha2) z9 z10 i10
  clear _ha ha2 z2 z3 z5 z8 z9 z10 i6 i7 i5 i10 hs hbd
  have t1 : (x.kind == 1) = false := by rw [beq_eq_false_iff_ne]; omega
  have t3 : (x.kind == 3) = false := by rw [beq_eq_false_iff_ne]; omega
  have t4 : (x.kind == 4) = false := by rw [beq_eq_false_iff_ne]; omega
  have t5 : (x.kind == 5) = false := by rw [beq_eq_false_iff_ne]; omega
  have t9 : (x.kind == 9) = false := by rw [beq_eq_false_iff_ne]; omega
  have t15 : (x.kind == 15) = false := by rw [beq_eq_false_iff_ne]; omega
  have t2 : (x.kind == 2) = false := by rw [beq_eq_false_iff_ne]; omega
  have t12 : (x.kind == 12) = false := by rw [beq_eq_false_iff_ne]; omega
  have t13 : (x.kind == 13) = false := by rw [beq_eq_false_iff_ne]; omega
  have t14 : (x.kind == 14) = false := by rw [beq_eq_false_iff_ne]; omega
  have t11 : (x.kind == 11) = false := by rw [beq_eq_false_iff_ne]; omega
  have t7 : (x.kind == 7) = false := by rw [beq_eq_false_iff_ne]; omega
  have t10 : (x.kind == 10) = false := by rw [beq_eq_false_iff_ne]; omega
  have t8 : (x.kind == 8) = false := by rw [beq_eq_false_iff_ne]; omega
  have t6 : (x.kind == 6) = true := by rw [beq_iff_eq]; omega
  clear hk
  have Cfilter9 := Lib.hid cfilter9
  clear cfilter9
  go_enter Try.func31, Try.ntmps31
  go_wp2
  refine wp_named ?_
  intro X hX
  have H0 := Lib.hid (Own3.of hX)
  clear hX
  have K0 := Lib.hid H0.out
  clear H0
  have HS := Lib.hid (fun (W : World) (R : Array Value) (H : Own3 36 w W #[sv x.tag, .int .i64 x.kind, sv x.box, sv x.to, .bool x.uid, .slice p x.sset.length c, .int .i64 x.op, .int .i64 x.flags, sv x.text, .bool x.filter.on, .slice q x.filter.scopes.length d] R #[sv x.tag, .int .i64 x.kind, sv [], sv [], .bool false, .slice none 0 0, .int .i64 0, .int .i64 0, sv [], .bool x.filter.on, .slice q x.filter.scopes.length d]) => (⟨(Lib.cell_of_heap H.a 9).trans rfl, (Lib.cell_of_heap H.a 10).trans rfl, (Lib.cell_of_heap H.o 0).trans rfl, (Lib.cell_of_heap H.o 1).trans rfl, (Lib.cell_of_heap H.o 2).trans rfl, (Lib.cell_of_heap H.o 3).trans rfl, (Lib.cell_of_heap H.o 4).trans rfl, (Lib.cell_of_heap H.o 5).trans rfl, (Lib.cell_of_heap H.o 6).trans rfl, (Lib.cell_of_heap H.o 7).trans rfl, (Lib.cell_of_heap H.o 8).trans rfl, (Lib.cell_of_heap H.o 9).trans rfl, (Lib.cell_of_heap H.o 10).trans rfl⟩ : W.cell? ⟨w.heap.size, 9, none⟩ = some (.bool x.filter.on) ∧ W.cell? ⟨w.heap.size, 10, none⟩ = some (.slice q x.filter.scopes.length d) ∧ W.cell? ⟨w.heap.size + 1 + 1, 0, none⟩ = some (sv x.tag) ∧ W.cell? ⟨w.heap.size + 1 + 1, 1, none⟩ = some (.int .i64 x.kind) ∧ W.cell? ⟨w.heap.size + 1 + 1, 2, none⟩ = some (sv []) ∧ W.cell? ⟨w.heap.size + 1 + 1, 3, none⟩ = some (sv []) ∧ W.cell? ⟨w.heap.size + 1 + 1, 4, none⟩ = some (.bool false) ∧ W.cell? ⟨w.heap.size + 1 + 1, 5, none⟩ = some (.slice none 0 0) ∧ W.cell? ⟨w.heap.size + 1 + 1, 6, none⟩ = some (.int .i64 0) ∧ W.cell? ⟨w.heap.size + 1 + 1, 7, none⟩ = some (.int .i64 0) ∧ W.cell? ⟨w.heap.size + 1 + 1, 8, none⟩ = some (sv []) ∧ W.cell? ⟨w.heap.size + 1 + 1, 9, none⟩ = some (.bool x.filter.on) ∧ W.cell? ⟨w.heap.size + 1 + 1, 10, none⟩ = some (.slice q x.filter.scopes.length d)))
  have hs0 := HS.out X.drew _ K0.out.drew
  cases e0 : (filterB x.filter) with
  | true =>
    rw [e0] at Cfilter9
    refine ord_start [(0, true), (1, true), (2, true), (3, false), (4, false), (5, true)] (fun W => W.cell? ⟨w.heap.size, 9, none⟩ = some (.bool x.filter.on) ∧ W.cell? ⟨w.heap.size, 10, none⟩ = some (.slice q x.filter.scopes.length d) ∧ W.cell? ⟨w.heap.size + 1 + 1, 0, none⟩ = some (sv x.tag) ∧ W.cell? ⟨w.heap.size + 1 + 1, 1, none⟩ = some (.int .i64 x.kind) ∧ W.cell? ⟨w.heap.size + 1 + 1, 2, none⟩ = some (sv []) ∧ W.cell? ⟨w.heap.size + 1 + 1, 3, none⟩ = some (sv []) ∧ W.cell? ⟨w.heap.size + 1 + 1, 4, none⟩ = some (.bool false) ∧ W.cell? ⟨w.heap.size + 1 + 1, 5, none⟩ = some (.slice none 0 0) ∧ W.cell? ⟨w.heap.size + 1 + 1, 6, none⟩ = some (.int .i64 0) ∧ W.cell? ⟨w.heap.size + 1 + 1, 7, none⟩ = some (.int .i64 0) ∧ W.cell? ⟨w.heap.size + 1 + 1, 8, none⟩ = some (sv []) ∧ W.cell? ⟨w.heap.size + 1 + 1, 9, none⟩ = some (.bool x.filter.on) ∧ W.cell? ⟨w.heap.size + 1 + 1, 10, none⟩ = some (.slice q x.filter.scopes.length d)) (by kernel_rfl) (by kernel_rfl) rfl (by kernel_rfl) ?_
    intro ops' hops
    simp only [List.map_cons, List.map_nil, pickOp_zero, pickOp_succ]
    iterate 3 (refine ord_flo ?_ (fun _ _ _ h => h) rfl ?_ hs0 ?_; rotate_left; focus (intro W hS; obtain ⟨s0, s1, s2, s3, s4, s5, s6, s7, s8, s9, s10, s11, s12⟩ := hS; go_simp; rfl))
    try go_frame
    refine ord_ev rfl ?_
    go_simp
    refine (Cfilter9.out _ (K0.out.drew).b).mono ?_
    rintro e w1 ⟨rfl, b1⟩
    have K1 := Lib.hid ((K0.out.drew).call b1)
    clear b1
    have hs1 := HS.out _ _ K1.out
    refine ⟨hs1, ?_⟩
    try go_frame
    refine ord_ev rfl ?_
    refine wp_store_row2 _ _ _ rfl (w.heap.size + 1) #[sv x.tag, .int .i64 x.kind, sv [], sv [], .bool false, .slice none 0 0, .int .i64 0, .int .i64 0, sv [], .bool x.filter.on, .slice q x.filter.scopes.length d] (by rfl) (by rfl) _ _ (K1.out).r (by kernel_rfl) rfl (by simp [Value.oneCell', sv]) ?_
    intro Z hZ
    have KF := Lib.hid (show Own3 _ w Z _ _ _ from by rw [hZ]; exact (K1.out).setR #[sv x.tag, .int .i64 x.kind, sv [], sv [], .bool false, .slice none 0 0, .int .i64 0, .int .i64 0, sv [], .bool x.filter.on, .slice q x.filter.scopes.length d])
    clear hZ
    refine ⟨HS.out _ _ KF.out, ?_⟩
    have hsf := HS.out _ _ KF.out
    iterate 1 (refine ord_flo ?_ (fun _ _ _ h => h) rfl ?_ hsf ?_; rotate_left; focus (intro W hS; obtain ⟨s0, s1, s2, s3, s4, s5, s6, s7, s8, s9, s10, s11, s12⟩ := hS; go_simp; rfl))
    refine ord_done ?_
    go_simp
    clear HS hsf hs0 hs1
    have g0 := (Lib.cell_of_heap KF.out.r 0).trans (show _ = some (sv x.tag) from rfl)
    have g1 := (Lib.cell_of_heap KF.out.r 1).trans (show _ = some (.int .i64 x.kind) from rfl)
    have g2 := (Lib.cell_of_heap KF.out.r 2).trans (show _ = some (sv []) from rfl)
    have g3 := (Lib.cell_of_heap KF.out.r 3).trans (show _ = some (sv []) from rfl)
    have g4 := (Lib.cell_of_heap KF.out.r 4).trans (show _ = some (.bool false) from rfl)
    have g5 := (Lib.cell_of_heap KF.out.r 5).trans (show _ = some (.slice none 0 0) from rfl)
    have g6 := (Lib.cell_of_heap KF.out.r 6).trans (show _ = some (.int .i64 0) from rfl)
    have g7 := (Lib.cell_of_heap KF.out.r 7).trans (show _ = some (.int .i64 0) from rfl)
    have g8 := (Lib.cell_of_heap KF.out.r 8).trans (show _ = some (sv []) from rfl)
    have g9 := (Lib.cell_of_heap KF.out.r 9).trans (show _ = some (.bool x.filter.on) from rfl)
    have g10 := (Lib.cell_of_heap KF.out.r 10).trans (show _ = some (.slice q x.filter.scopes.length d) from rfl)
    have HB := Lib.hid KF.out.b
    clear KF
    go_wp2
    exact bodyPost_ret (v := .tuple #[.agg #[sv x.tag, .int .i64 x.kind, sv [], sv [], .bool false, .slice none 0 0, .int .i64 0, .int .i64 0, sv [], .bool x.filter.on, .slice q x.filter.scopes.length d], .bool true]) (by simp [results, Try.results31, go_sem, g0, g1, g2, g3, g4, g5, g6, g7, g8, g9, g10]) rfl ⟨fin2 (by first | rfl | (rw [e0] <;> rfl)), HB.out⟩
  | false =>
    rw [e0] at Cfilter9
    refine ord_start [(0, true), (1, true), (2, true), (3, false), (4, false), (5, true)] (fun W => W.cell? ⟨w.heap.size, 9, none⟩ = some (.bool x.filter.on) ∧ W.cell? ⟨w.heap.size, 10, none⟩ = some (.slice q x.filter.scopes.length d) ∧ W.cell? ⟨w.heap.size + 1 + 1, 0, none⟩ = some (sv x.tag) ∧ W.cell? ⟨w.heap.size + 1 + 1, 1, none⟩ = some (.int .i64 x.kind) ∧ W.cell? ⟨w.heap.size + 1 + 1, 2, none⟩ = some (sv []) ∧ W.cell? ⟨w.heap.size + 1 + 1, 3, none⟩ = some (sv []) ∧ W.cell? ⟨w.heap.size + 1 + 1, 4, none⟩ = some (.bool false) ∧ W.cell? ⟨w.heap.size + 1 + 1, 5, none⟩ = some (.slice none 0 0) ∧ W.cell? ⟨w.heap.size + 1 + 1, 6, none⟩ = some (.int .i64 0) ∧ W.cell? ⟨w.heap.size + 1 + 1, 7, none⟩ = some (.int .i64 0) ∧ W.cell? ⟨w.heap.size + 1 + 1, 8, none⟩ = some (sv []) ∧ W.cell? ⟨w.heap.size + 1 + 1, 9, none⟩ = some (.bool x.filter.on) ∧ W.cell? ⟨w.heap.size + 1 + 1, 10, none⟩ = some (.slice q x.filter.scopes.length d)) (by kernel_rfl) (by kernel_rfl) rfl (by kernel_rfl) ?_
    intro ops' hops
    simp only [List.map_cons, List.map_nil, pickOp_zero, pickOp_succ]
    iterate 3 (refine ord_flo ?_ (fun _ _ _ h => h) rfl ?_ hs0 ?_; rotate_left; focus (intro W hS; obtain ⟨s0, s1, s2, s3, s4, s5, s6, s7, s8, s9, s10, s11, s12⟩ := hS; go_simp; rfl))
    try go_frame
    refine ord_ev rfl ?_
    go_simp
    refine (Cfilter9.out _ (K0.out.drew).b).mono ?_
    rintro e w1 ⟨rfl, b1⟩
    have K1 := Lib.hid ((K0.out.drew).call b1)
    clear b1
    have hs1 := HS.out _ _ K1.out
    refine ⟨hs1, ?_⟩
    try go_frame
    refine ord_ev rfl ?_
    refine wp_store_row2 _ _ _ rfl (w.heap.size + 1) #[sv x.tag, .int .i64 x.kind, sv [], sv [], .bool false, .slice none 0 0, .int .i64 0, .int .i64 0, sv [], .bool x.filter.on, .slice q x.filter.scopes.length d] (by rfl) (by rfl) _ _ (K1.out).r (by kernel_rfl) rfl (by simp [Value.oneCell', sv]) ?_
    intro Z hZ
    have KF := Lib.hid (show Own3 _ w Z _ _ _ from by rw [hZ]; exact (K1.out).setR #[sv x.tag, .int .i64 x.kind, sv [], sv [], .bool false, .slice none 0 0, .int .i64 0, .int .i64 0, sv [], .bool x.filter.on, .slice q x.filter.scopes.length d])
    clear hZ
    refine ⟨HS.out _ _ KF.out, ?_⟩
    have hsf := HS.out _ _ KF.out
    iterate 1 (refine ord_flo ?_ (fun _ _ _ h => h) rfl ?_ hsf ?_; rotate_left; focus (intro W hS; obtain ⟨s0, s1, s2, s3, s4, s5, s6, s7, s8, s9, s10, s11, s12⟩ := hS; go_simp; rfl))
    refine ord_done ?_
    go_simp
    clear HS hsf hs0 hs1
    have g0 := (Lib.cell_of_heap KF.out.r 0).trans (show _ = some (sv x.tag) from rfl)
    have g1 := (Lib.cell_of_heap KF.out.r 1).trans (show _ = some (.int .i64 x.kind) from rfl)
    have g2 := (Lib.cell_of_heap KF.out.r 2).trans (show _ = some (sv []) from rfl)
    have g3 := (Lib.cell_of_heap KF.out.r 3).trans (show _ = some (sv []) from rfl)
    have g4 := (Lib.cell_of_heap KF.out.r 4).trans (show _ = some (.bool false) from rfl)
    have g5 := (Lib.cell_of_heap KF.out.r 5).trans (show _ = some (.slice none 0 0) from rfl)
    have g6 := (Lib.cell_of_heap KF.out.r 6).trans (show _ = some (.int .i64 0) from rfl)
    have g7 := (Lib.cell_of_heap KF.out.r 7).trans (show _ = some (.int .i64 0) from rfl)
    have g8 := (Lib.cell_of_heap KF.out.r 8).trans (show _ = some (sv []) from rfl)
    have g9 := (Lib.cell_of_heap KF.out.r 9).trans (show _ = some (.bool x.filter.on) from rfl)
    have g10 := (Lib.cell_of_heap KF.out.r 10).trans (show _ = some (.slice q x.filter.scopes.length d) from rfl)
    have HB := Lib.hid KF.out.b
    clear KF
    go_wp2
    exact bodyPost_ret (v := .tuple #[.agg #[sv x.tag, .int .i64 x.kind, sv [], sv [], .bool false, .slice none 0 0, .int .i64 0, .int .i64 0, sv [], .bool x.filter.on, .slice q x.filter.scopes.length d], .bool false]) (by simp [results, Try.results31, go_sem, g0, g1, g2, g3, g4, g5, g6, g7, g8, g9, g10]) rfl ⟨fin2 (by first | rfl | (rw [e0] <;> rfl)), HB.out⟩

set_option maxRecDepth 20000 in
set_option maxHeartbeats 6400000 in
theorem own_no (x : CmdD) (p q : Option Addr) (c d : Nat) (w : World) (hk : ¬ (1 ≤ x.kind ∧ x.kind ≤ 15)) :
    Calls Try.prog 31 #[cmdv x (.slice p x.sset.length c) (.slice q x.filter.scopes.length d)] w fun e w' => e = .returned (.tuple #[.agg #[sv [], .int .i64 0, sv [], sv [], .bool false, .slice none 0 0, .int .i64 0, .int .i64 0, sv [], .bool false, .slice none 0 0], .bool false]) ∧ Below w.heap.size w w' := by
  have t1 : (x.kind == 1) = false := by rw [beq_eq_false_iff_ne]; omega
  have t3 : (x.kind == 3) = false := by rw [beq_eq_false_iff_ne]; omega
  have t4 : (x.kind == 4) = false := by rw [beq_eq_false_iff_ne]; omega
  have t5 : (x.kind == 5) = false := by rw [beq_eq_false_iff_ne]; omega
  have t9 : (x.kind == 9) = false := by rw [beq_eq_false_iff_ne]; omega
  have t15 : (x.kind == 15) = false := by rw [beq_eq_false_iff_ne]; omega
  have t2 : (x.kind == 2) = false := by rw [beq_eq_false_iff_ne]; omega
  have t12 : (x.kind == 12) = false := by rw [beq_eq_false_iff_ne]; omega
  have t13 : (x.kind == 13) = false := by rw [beq_eq_false_iff_ne]; omega
  have t14 : (x.kind == 14) = false := by rw [beq_eq_false_iff_ne]; omega
  have t11 : (x.kind == 11) = false := by rw [beq_eq_false_iff_ne]; omega
  have t7 : (x.kind == 7) = false := by rw [beq_eq_false_iff_ne]; omega
  have t10 : (x.kind == 10) = false := by rw [beq_eq_false_iff_ne]; omega
  have t8 : (x.kind == 8) = false := by rw [beq_eq_false_iff_ne]; omega
  have t6 : (x.kind == 6) = false := by rw [beq_eq_false_iff_ne]; omega
  clear hk
  go_enter Try.func31, Try.ntmps31
  go_wp2
  go_returns
  exact ⟨rfl, (((Below.refl _ _).alloc (Nat.le_refl _) _).alloc (by simp) _).alloc (by simp; omega) _⟩

def ownOk (x : CmdD) : Bool :=
  if x.kind = 14 then nameB x.box && nameB x.to
  else if x.kind = 11 then nameB x.box && flB x.flags && decide ((x.text.length : Int) ≤ 40)
  else if x.kind = 7 then setB x.sset
  else if x.kind = 10 then setB x.sset && nameB x.box
  else if x.kind = 8 then setB x.sset && opB x.op && flB x.flags
  else if x.kind = 6 then filterB x.filter
  else if boxedB x.kind = true then nameB x.box
  else true

theorem ownFields_yes (x : CmdD) (p q : Option Addr) (c d : Nat) (w : World) (hk : 1 ≤ x.kind ∧ x.kind ≤ 15) (ha : LfRd w (spnsLf x.sset) (.slice p x.sset.length c)) (ha2 : LfRd w (scpsLf x.filter.scopes) (.slice q x.filter.scopes.length d)) (hs : szLs x.lf ≤ 1048576) (hbd : LsBnd x.lf) :
    Calls Try.prog 31 #[cmdv x (.slice p x.sset.length c) (.slice q x.filter.scopes.length d)] w fun e w' => e = .returned (.tuple #[cmdv (saidC x) (said5 x (.slice p x.sset.length c)) (said10 x (.slice q x.filter.scopes.length d)), .bool (ownOk x)]) ∧ Below w.heap.size w w' := by
  by_cases h1 : x.kind = 1
  · clear hk
    have e1 : boxedB x.kind = false := by rw [h1]; rfl
    have e2 : setsB x.kind = false := by rw [h1]; rfl
    have p14 : (x.kind = 14) = False := eq_false (by omega)
    have p8 : (x.kind = 8) = False := eq_false (by omega)
    have p11 : (x.kind = 11) = False := eq_false (by omega)
    have p6 : (x.kind = 6) = False := eq_false (by omega)
    have p7 : (x.kind = 7) = False := eq_false (by omega)
    have p10 : (x.kind = 10) = False := eq_false (by omega)
    have ev : cmdv (saidC x) (said5 x (.slice p x.sset.length c)) (said10 x (.slice q x.filter.scopes.length d)) = .agg #[sv x.tag, .int .i64 x.kind, sv [], sv [], .bool false, .slice none 0 0, .int .i64 0, .int .i64 0, sv [], .bool false, .slice none 0 0] := by
      simp [cmdv, saidC, said5, said10, e1, e2, p14, p8, p11, p6]
    have eo : ownOk x = (true) := by
      simp [ownOk, p14, p11, p7, p10, p8, p6, e1]
    rw [ev, eo]
    exact own_1 x p q c d w h1 ha ha2 hs hbd
  by_cases h3 : x.kind = 3
  · clear hk
    have e1 : boxedB x.kind = false := by rw [h3]; rfl
    have e2 : setsB x.kind = false := by rw [h3]; rfl
    have p14 : (x.kind = 14) = False := eq_false (by omega)
    have p8 : (x.kind = 8) = False := eq_false (by omega)
    have p11 : (x.kind = 11) = False := eq_false (by omega)
    have p6 : (x.kind = 6) = False := eq_false (by omega)
    have p7 : (x.kind = 7) = False := eq_false (by omega)
    have p10 : (x.kind = 10) = False := eq_false (by omega)
    have ev : cmdv (saidC x) (said5 x (.slice p x.sset.length c)) (said10 x (.slice q x.filter.scopes.length d)) = .agg #[sv x.tag, .int .i64 x.kind, sv [], sv [], .bool false, .slice none 0 0, .int .i64 0, .int .i64 0, sv [], .bool false, .slice none 0 0] := by
      simp [cmdv, saidC, said5, said10, e1, e2, p14, p8, p11, p6]
    have eo : ownOk x = (true) := by
      simp [ownOk, p14, p11, p7, p10, p8, p6, e1]
    rw [ev, eo]
    exact own_3 x p q c d w h3 ha ha2 hs hbd
  by_cases h4 : x.kind = 4
  · clear hk
    have e1 : boxedB x.kind = false := by rw [h4]; rfl
    have e2 : setsB x.kind = false := by rw [h4]; rfl
    have p14 : (x.kind = 14) = False := eq_false (by omega)
    have p8 : (x.kind = 8) = False := eq_false (by omega)
    have p11 : (x.kind = 11) = False := eq_false (by omega)
    have p6 : (x.kind = 6) = False := eq_false (by omega)
    have p7 : (x.kind = 7) = False := eq_false (by omega)
    have p10 : (x.kind = 10) = False := eq_false (by omega)
    have ev : cmdv (saidC x) (said5 x (.slice p x.sset.length c)) (said10 x (.slice q x.filter.scopes.length d)) = .agg #[sv x.tag, .int .i64 x.kind, sv [], sv [], .bool false, .slice none 0 0, .int .i64 0, .int .i64 0, sv [], .bool false, .slice none 0 0] := by
      simp [cmdv, saidC, said5, said10, e1, e2, p14, p8, p11, p6]
    have eo : ownOk x = (true) := by
      simp [ownOk, p14, p11, p7, p10, p8, p6, e1]
    rw [ev, eo]
    exact own_4 x p q c d w h4 ha ha2 hs hbd
  by_cases h5 : x.kind = 5
  · clear hk
    have e1 : boxedB x.kind = false := by rw [h5]; rfl
    have e2 : setsB x.kind = false := by rw [h5]; rfl
    have p14 : (x.kind = 14) = False := eq_false (by omega)
    have p8 : (x.kind = 8) = False := eq_false (by omega)
    have p11 : (x.kind = 11) = False := eq_false (by omega)
    have p6 : (x.kind = 6) = False := eq_false (by omega)
    have p7 : (x.kind = 7) = False := eq_false (by omega)
    have p10 : (x.kind = 10) = False := eq_false (by omega)
    have ev : cmdv (saidC x) (said5 x (.slice p x.sset.length c)) (said10 x (.slice q x.filter.scopes.length d)) = .agg #[sv x.tag, .int .i64 x.kind, sv [], sv [], .bool false, .slice none 0 0, .int .i64 0, .int .i64 0, sv [], .bool false, .slice none 0 0] := by
      simp [cmdv, saidC, said5, said10, e1, e2, p14, p8, p11, p6]
    have eo : ownOk x = (true) := by
      simp [ownOk, p14, p11, p7, p10, p8, p6, e1]
    rw [ev, eo]
    exact own_5 x p q c d w h5 ha ha2 hs hbd
  by_cases h9 : x.kind = 9
  · clear hk
    have e1 : boxedB x.kind = false := by rw [h9]; rfl
    have e2 : setsB x.kind = false := by rw [h9]; rfl
    have p14 : (x.kind = 14) = False := eq_false (by omega)
    have p8 : (x.kind = 8) = False := eq_false (by omega)
    have p11 : (x.kind = 11) = False := eq_false (by omega)
    have p6 : (x.kind = 6) = False := eq_false (by omega)
    have p7 : (x.kind = 7) = False := eq_false (by omega)
    have p10 : (x.kind = 10) = False := eq_false (by omega)
    have ev : cmdv (saidC x) (said5 x (.slice p x.sset.length c)) (said10 x (.slice q x.filter.scopes.length d)) = .agg #[sv x.tag, .int .i64 x.kind, sv [], sv [], .bool false, .slice none 0 0, .int .i64 0, .int .i64 0, sv [], .bool false, .slice none 0 0] := by
      simp [cmdv, saidC, said5, said10, e1, e2, p14, p8, p11, p6]
    have eo : ownOk x = (true) := by
      simp [ownOk, p14, p11, p7, p10, p8, p6, e1]
    rw [ev, eo]
    exact own_9 x p q c d w h9 ha ha2 hs hbd
  by_cases h15 : x.kind = 15
  · clear hk
    have e1 : boxedB x.kind = false := by rw [h15]; rfl
    have e2 : setsB x.kind = false := by rw [h15]; rfl
    have p14 : (x.kind = 14) = False := eq_false (by omega)
    have p8 : (x.kind = 8) = False := eq_false (by omega)
    have p11 : (x.kind = 11) = False := eq_false (by omega)
    have p6 : (x.kind = 6) = False := eq_false (by omega)
    have p7 : (x.kind = 7) = False := eq_false (by omega)
    have p10 : (x.kind = 10) = False := eq_false (by omega)
    have ev : cmdv (saidC x) (said5 x (.slice p x.sset.length c)) (said10 x (.slice q x.filter.scopes.length d)) = .agg #[sv x.tag, .int .i64 x.kind, sv [], sv [], .bool false, .slice none 0 0, .int .i64 0, .int .i64 0, sv [], .bool false, .slice none 0 0] := by
      simp [cmdv, saidC, said5, said10, e1, e2, p14, p8, p11, p6]
    have eo : ownOk x = (true) := by
      simp [ownOk, p14, p11, p7, p10, p8, p6, e1]
    rw [ev, eo]
    exact own_15 x p q c d w h15 ha ha2 hs hbd
  by_cases h2 : x.kind = 2
  · clear hk
    have e1 : boxedB x.kind = true := by rw [h2]; rfl
    have e2 : setsB x.kind = false := by rw [h2]; rfl
    have p14 : (x.kind = 14) = False := eq_false (by omega)
    have p8 : (x.kind = 8) = False := eq_false (by omega)
    have p11 : (x.kind = 11) = False := eq_false (by omega)
    have p6 : (x.kind = 6) = False := eq_false (by omega)
    have p7 : (x.kind = 7) = False := eq_false (by omega)
    have p10 : (x.kind = 10) = False := eq_false (by omega)
    have ev : cmdv (saidC x) (said5 x (.slice p x.sset.length c)) (said10 x (.slice q x.filter.scopes.length d)) = .agg #[sv x.tag, .int .i64 x.kind, sv x.box, sv [], .bool false, .slice none 0 0, .int .i64 0, .int .i64 0, sv [], .bool false, .slice none 0 0] := by
      simp [cmdv, saidC, said5, said10, e1, e2, p14, p8, p11, p6]
    have eo : ownOk x = (nameB x.box) := by
      simp [ownOk, p14, p11, p7, p10, p8, p6, e1]
    rw [ev, eo]
    exact own_2 x p q c d w h2 ha ha2 hs hbd
  by_cases h12 : x.kind = 12
  · clear hk
    have e1 : boxedB x.kind = true := by rw [h12]; rfl
    have e2 : setsB x.kind = false := by rw [h12]; rfl
    have p14 : (x.kind = 14) = False := eq_false (by omega)
    have p8 : (x.kind = 8) = False := eq_false (by omega)
    have p11 : (x.kind = 11) = False := eq_false (by omega)
    have p6 : (x.kind = 6) = False := eq_false (by omega)
    have p7 : (x.kind = 7) = False := eq_false (by omega)
    have p10 : (x.kind = 10) = False := eq_false (by omega)
    have ev : cmdv (saidC x) (said5 x (.slice p x.sset.length c)) (said10 x (.slice q x.filter.scopes.length d)) = .agg #[sv x.tag, .int .i64 x.kind, sv x.box, sv [], .bool false, .slice none 0 0, .int .i64 0, .int .i64 0, sv [], .bool false, .slice none 0 0] := by
      simp [cmdv, saidC, said5, said10, e1, e2, p14, p8, p11, p6]
    have eo : ownOk x = (nameB x.box) := by
      simp [ownOk, p14, p11, p7, p10, p8, p6, e1]
    rw [ev, eo]
    exact own_12 x p q c d w h12 ha ha2 hs hbd
  by_cases h13 : x.kind = 13
  · clear hk
    have e1 : boxedB x.kind = true := by rw [h13]; rfl
    have e2 : setsB x.kind = false := by rw [h13]; rfl
    have p14 : (x.kind = 14) = False := eq_false (by omega)
    have p8 : (x.kind = 8) = False := eq_false (by omega)
    have p11 : (x.kind = 11) = False := eq_false (by omega)
    have p6 : (x.kind = 6) = False := eq_false (by omega)
    have p7 : (x.kind = 7) = False := eq_false (by omega)
    have p10 : (x.kind = 10) = False := eq_false (by omega)
    have ev : cmdv (saidC x) (said5 x (.slice p x.sset.length c)) (said10 x (.slice q x.filter.scopes.length d)) = .agg #[sv x.tag, .int .i64 x.kind, sv x.box, sv [], .bool false, .slice none 0 0, .int .i64 0, .int .i64 0, sv [], .bool false, .slice none 0 0] := by
      simp [cmdv, saidC, said5, said10, e1, e2, p14, p8, p11, p6]
    have eo : ownOk x = (nameB x.box) := by
      simp [ownOk, p14, p11, p7, p10, p8, p6, e1]
    rw [ev, eo]
    exact own_13 x p q c d w h13 ha ha2 hs hbd
  by_cases h14 : x.kind = 14
  · clear hk
    have e1 : boxedB x.kind = true := by rw [h14]; rfl
    have e2 : setsB x.kind = false := by rw [h14]; rfl
    have p14 : (x.kind = 14) = True := eq_true (by omega)
    have p8 : (x.kind = 8) = False := eq_false (by omega)
    have p11 : (x.kind = 11) = False := eq_false (by omega)
    have p6 : (x.kind = 6) = False := eq_false (by omega)
    have ev : cmdv (saidC x) (said5 x (.slice p x.sset.length c)) (said10 x (.slice q x.filter.scopes.length d)) = .agg #[sv x.tag, .int .i64 x.kind, sv x.box, sv x.to, .bool false, .slice none 0 0, .int .i64 0, .int .i64 0, sv [], .bool false, .slice none 0 0] := by
      simp [cmdv, saidC, said5, said10, e1, e2, p14, p8, p11, p6]
    have eo : ownOk x = (nameB x.box && nameB x.to) := by
      simp [ownOk, p14]
    rw [ev, eo]
    exact own_14 x p q c d w h14 ha ha2 hs hbd
  by_cases h11 : x.kind = 11
  · clear hk
    have e1 : boxedB x.kind = true := by rw [h11]; rfl
    have e2 : setsB x.kind = false := by rw [h11]; rfl
    have p14 : (x.kind = 14) = False := eq_false (by omega)
    have p8 : (x.kind = 8) = False := eq_false (by omega)
    have p11 : (x.kind = 11) = True := eq_true (by omega)
    have p6 : (x.kind = 6) = False := eq_false (by omega)
    have ev : cmdv (saidC x) (said5 x (.slice p x.sset.length c)) (said10 x (.slice q x.filter.scopes.length d)) = .agg #[sv x.tag, .int .i64 x.kind, sv x.box, sv [], .bool false, .slice none 0 0, .int .i64 0, .int .i64 x.flags, sv x.text, .bool false, .slice none 0 0] := by
      simp [cmdv, saidC, said5, said10, e1, e2, p14, p8, p11, p6]
    have eo : ownOk x = (nameB x.box && flB x.flags && decide ((x.text.length : Int) ≤ 40)) := by
      simp [ownOk, p14, p11]
    rw [ev, eo]
    exact own_11 x p q c d w h11 ha ha2 hs hbd
  by_cases h7 : x.kind = 7
  · clear hk
    have e1 : boxedB x.kind = false := by rw [h7]; rfl
    have e2 : setsB x.kind = true := by rw [h7]; rfl
    have p14 : (x.kind = 14) = False := eq_false (by omega)
    have p8 : (x.kind = 8) = False := eq_false (by omega)
    have p11 : (x.kind = 11) = False := eq_false (by omega)
    have p6 : (x.kind = 6) = False := eq_false (by omega)
    have p7 : (x.kind = 7) = True := eq_true (by omega)
    have ev : cmdv (saidC x) (said5 x (.slice p x.sset.length c)) (said10 x (.slice q x.filter.scopes.length d)) = .agg #[sv x.tag, .int .i64 x.kind, sv [], sv [], .bool x.uid, .slice p x.sset.length c, .int .i64 0, .int .i64 0, sv [], .bool false, .slice none 0 0] := by
      simp [cmdv, saidC, said5, said10, e1, e2, p14, p8, p11, p6]
    have eo : ownOk x = (setB x.sset) := by
      simp [ownOk, p14, p11, p7]
    rw [ev, eo]
    exact own_7 x p q c d w h7 ha ha2 hs hbd
  by_cases h10 : x.kind = 10
  · clear hk
    have e1 : boxedB x.kind = true := by rw [h10]; rfl
    have e2 : setsB x.kind = true := by rw [h10]; rfl
    have p14 : (x.kind = 14) = False := eq_false (by omega)
    have p8 : (x.kind = 8) = False := eq_false (by omega)
    have p11 : (x.kind = 11) = False := eq_false (by omega)
    have p6 : (x.kind = 6) = False := eq_false (by omega)
    have p7 : (x.kind = 7) = False := eq_false (by omega)
    have p10 : (x.kind = 10) = True := eq_true (by omega)
    have ev : cmdv (saidC x) (said5 x (.slice p x.sset.length c)) (said10 x (.slice q x.filter.scopes.length d)) = .agg #[sv x.tag, .int .i64 x.kind, sv x.box, sv [], .bool x.uid, .slice p x.sset.length c, .int .i64 0, .int .i64 0, sv [], .bool false, .slice none 0 0] := by
      simp [cmdv, saidC, said5, said10, e1, e2, p14, p8, p11, p6]
    have eo : ownOk x = (setB x.sset && nameB x.box) := by
      simp [ownOk, p14, p11, p7, p10]
    rw [ev, eo]
    exact own_10 x p q c d w h10 ha ha2 hs hbd
  by_cases h8 : x.kind = 8
  · clear hk
    have e1 : boxedB x.kind = false := by rw [h8]; rfl
    have e2 : setsB x.kind = true := by rw [h8]; rfl
    have p14 : (x.kind = 14) = False := eq_false (by omega)
    have p8 : (x.kind = 8) = True := eq_true (by omega)
    have p11 : (x.kind = 11) = False := eq_false (by omega)
    have p6 : (x.kind = 6) = False := eq_false (by omega)
    have p7 : (x.kind = 7) = False := eq_false (by omega)
    have p10 : (x.kind = 10) = False := eq_false (by omega)
    have ev : cmdv (saidC x) (said5 x (.slice p x.sset.length c)) (said10 x (.slice q x.filter.scopes.length d)) = .agg #[sv x.tag, .int .i64 x.kind, sv [], sv [], .bool x.uid, .slice p x.sset.length c, .int .i64 x.op, .int .i64 x.flags, sv [], .bool false, .slice none 0 0] := by
      simp [cmdv, saidC, said5, said10, e1, e2, p14, p8, p11, p6]
    have eo : ownOk x = (setB x.sset && opB x.op && flB x.flags) := by
      simp [ownOk, p14, p11, p7, p10, p8]
    rw [ev, eo]
    exact own_8 x p q c d w h8 ha ha2 hs hbd
  by_cases h6 : x.kind = 6
  · clear hk
    have e1 : boxedB x.kind = false := by rw [h6]; rfl
    have e2 : setsB x.kind = false := by rw [h6]; rfl
    have p14 : (x.kind = 14) = False := eq_false (by omega)
    have p8 : (x.kind = 8) = False := eq_false (by omega)
    have p11 : (x.kind = 11) = False := eq_false (by omega)
    have p6 : (x.kind = 6) = True := eq_true (by omega)
    have p7 : (x.kind = 7) = False := eq_false (by omega)
    have p10 : (x.kind = 10) = False := eq_false (by omega)
    have ev : cmdv (saidC x) (said5 x (.slice p x.sset.length c)) (said10 x (.slice q x.filter.scopes.length d)) = .agg #[sv x.tag, .int .i64 x.kind, sv [], sv [], .bool false, .slice none 0 0, .int .i64 0, .int .i64 0, sv [], .bool x.filter.on, .slice q x.filter.scopes.length d] := by
      simp [cmdv, saidC, said5, said10, e1, e2, p14, p8, p11, p6]
    have eo : ownOk x = (filterB x.filter) := by
      simp [ownOk, p14, p11, p7, p10, p8, p6]
    rw [ev, eo]
    exact own_6 x p q c d w h6 ha ha2 hs hbd
  exfalso
  omega

end Go.Proofs.Ytidjebepgpbcnaa
