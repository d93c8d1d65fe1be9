/-
  Sx: ComR (what the claim needs of them).
-/
import Derived.Deep.DeepCutAuto
import Derived.Handy
import Derived.Test.YtbfgdbpfecffcaaGreatDoorRows
import Derived.WalkKit
import Derived.WalkSpells
import Derived.WalkLawsBesides
import Derived.Laws.IdiomStrings
import Derived.Lib.Hide
import Derived.Deep.AppendLies
import Derived.OrdersHeld
import Derived.Lib.ItoaNum
import Derived.Lib.ItoaMem
import Derived.Lib.AppendStr
import Derived.Lib.ItoaLen
import Derived.Lib.Strings
import Derived.Lib.Bytealg
import Derived.Lib.OthersKept
import Derived.Laws.RangeAny
import Derived.Laws.BitsAllLaws
import Derived.Laws.BitsLemmas
import Derived.IntWalk
import Derived.Lib.Join
import Derived.Deep.Strs
import Derived.Test.YtbfgdbpfecffcaaGreatDoorProg
import Derived.Laws.Tables
import Derived.Test.YtbfgdbpfecffcaaGreatDoorSb
import Derived.Test.YtbfgdbpfecffcaaGreatDoorSc
import Derived.Test.YtbfgdbpfecffcaaGreatDoorSd
import Derived.Test.YtbfgdbpfecffcaaGreatDoorSe
import Derived.Test.YtbfgdbpfecffcaaGreatDoorSf
import Derived.Test.YtbfgdbpfecffcaaGreatDoorSg
import Derived.Test.YtbfgdbpfecffcaaGreatDoorSj
import Derived.Test.YtbfgdbpfecffcaaGreatDoorSt

namespace Go.Proofs.YtbfgdbpfecffcaaGreatDoor
open Go.RowKit

theorem wp_named9 {P : Program} {Q : Exit → Act → World → Prop} {c : Code} {a : Act} {w : World} (h : ∀ X, X = w → c.wp P Q a X) : c.wp P Q a w := h w rfl

/-- Three blocks that the call laid at the heap's end. -/
structure Three (T : TypeId) (w X : World) (A R O : Array Value) : Prop where
  a : X.heap[w.heap.size]? = some (.cells A T (0, 0))
  r : X.heap[w.heap.size + 1]? = some (.cells R T (0, 0))
  o : X.heap[w.heap.size + 1 + 1]? = some (.cells O T (0, 0))
  b : Below w.heap.size w X
  z : w.heap.size + 3 ≤ X.heap.size
theorem Three.of {T : TypeId} {w X : World} {A R O : Array Value} (h : X = ((w.alloc (.cells A T)).alloc (.cells R T)).alloc (.cells O T)) : Three T w X A R O := by
  subst h
  refine ⟨?_, ?_, ?_, (((Below.refl _ _).alloc (Nat.le_refl _) _).alloc (by simp) _).alloc (by simp; omega) _, by simp⟩
  · exact ((Below.heap_alloc _ _ _ (by simp; omega)).trans (Below.heap_alloc _ _ _ (by simp))).trans (heap_alloc_new w _)
  · have h1 := heap_alloc_new (w.alloc (.cells A T)) (.cells R T)
    rw [World.size_alloc] at h1
    exact (Below.heap_alloc _ _ _ (by simp)).trans h1
  · have h1 := heap_alloc_new ((w.alloc (.cells A T)).alloc (.cells R T)) (.cells O T)
    rw [World.size_alloc, World.size_alloc] at h1
    exact h1
theorem Three.drew {T : TypeId} {w X : World} {A R O : Array Value} (h : Three T w X A R O) : Three T w X.drew A R O := ⟨h.a, h.r, h.o, h.b.drew, h.z⟩
theorem Three.call {T : TypeId} {w X X' : World} {A R O : Array Value} (h : Three T w X A R O) (b : Below X.heap.size X X') : Three T w X' A R O := by
  have := h.z
  exact ⟨(b.block _ (by omega)).trans h.a, (b.block _ (by omega)).trans h.r, (b.block _ (by omega)).trans h.o, h.b.trans (b.mono (by omega)), Nat.le_trans h.z b.size⟩
theorem Three.setO {T : TypeId} {w X : World} {A R O : Array Value} (h : Three T w X A R O) (j : Nat) (u : Value) : Three T w (X.setCell ⟨w.heap.size + 1 + 1, j, none⟩ u) A R (O.setIfInBounds j u) :=
  ⟨(set_other (by omega)).trans h.a, (set_other (by omega)).trans h.r, set_heap h.o, ⟨h.b.os, h.b.tape, h.b.output, by have := h.b.size; simpa [World.setCell] using this, fun k hk => (set_other (by omega)).trans (h.b.block k hk)⟩, by have := h.z; simpa [World.setCell] using this⟩
theorem Three.setR {T : TypeId} {w X : World} {A R O : Array Value} (h : Three T w X A R O) (V : Array Value) : Three T w (X.setRow (w.heap.size + 1) V) A V O :=
  ⟨(setRow_other _ _ _ _ (by omega)).trans h.a, setRow_heap _ _ _ _ _ _ h.r, (setRow_other _ _ _ _ (by omega)).trans h.o, ⟨h.b.os, h.b.tape, h.b.output, by have := h.b.size; simpa [World.setRow] using this, fun k hk => (setRow_other _ _ _ _ (by omega)).trans (h.b.block k hk)⟩, by have := h.z; simpa [World.setRow] using this⟩
theorem wp_put1 {P : Program} {o : Oper} {a : Act} {w : World} {K : Act → World → Prop} {Q : Exit → Act → World → Prop} (ty : TypeId) (x y : Operand) (ho : o.op = .store ty x y)
    (g j : Nat) (v : Value) (hx : a.eval x = .pointer (some ⟨g, j, none⟩)) (hy : a.eval y = v) (cs : Array Value) (T : TypeId) (hg : w.heap[g]? = some (.cells cs T (0, 0))) (hj : j < cs.size)
    (hi : (P.info? ty).map (·.size) = some 1) (hv : v.cells = #[v]) (h1 : v.oneCell' = true) (h : ∀ X, X = w.setCell ⟨g, j, none⟩ v → K (a.put o.dst undef) X) : o.wp P a w K Q := by
  have hs : (storeVar ty ⟨g, j, none⟩ v).run P w = .ok () (w.setCell ⟨g, j, none⟩ v) := by
    have hc : w.cell? ⟨g, j, none⟩ = some cs[j] := (Lib.cell_of_heap hg j).trans (by simp [hj])
    have hf := Lib.frozen_of_heap hg j
    cases hq : P.info? ty with
    | none => simp [hq] at hi
    | some i =>
      have hsz : i.size = 1 := by simpa [hq] using hi
      simp [storeVar, sizeOf, typeInfo, hq, hv, hsz, storeCells, Addr.add, run_store _ _ _ _ _ h1, hc, hf, Result.andThen]
  unfold Oper.wp execOp
  simp only [ho, hx, hy, Instr.storeAt, Instr.sureAddr, Sem.run_bind, Sem.run_pure, Result.andThen_ok, hs]
  exact h _ rfl
theorem wp_putR {P : Program} {o : Oper} {a : Act} {w : World} {K : Act → World → Prop} {Q : Exit → Act → World → Prop} (ty : TypeId) (x y : Operand) (ho : o.op = .store ty x y)
    (g : Nat) (cells : Array Value) (hx : a.eval x = .pointer (some ⟨g, 0, none⟩)) (hy : a.eval y = .agg cells)
    (t : TypeId) (old : Array Value) (hg : w.heap[g]? = some (.cells old t (0, 0))) (hi : (P.info? ty).map (·.size) = some cells.size)
    (hold : old.size = cells.size) (h1 : cells.all (·.oneCell') = true)
    (h : ∀ X, X = w.setRow g cells → K (a.put o.dst undef) X) : o.wp P a w K Q := wp_store_row ty x y ho g cells hx hy t old hg hi hold h1 (h _ rfl)
theorem fin9 {v : Value} {b c : Bool} (h : b = c) : (Ending.returned (.tuple #[v, .bool b]) : Ending) = .returned (.tuple #[v, .bool c]) := by rw [h]

def usedC (m : ComD) : ComD := if 1 ≤ m.kind ∧ m.kind ≤ 6 then wantC m else ⟨0, 0, 0, 0, [], []⟩
def okC (m : ComD) : Bool :=
  if m.kind = 1 ∨ m.kind = 3 then nameB m.name else if m.kind = 2 then true else if m.kind = 4 then uidB m && flB m.flags && decide ((m.text.length : Int) ≤ 40)
  else if m.kind = 5 then uidB m && flB m.flags else if m.kind = 6 then uidB m else false
theorem com_used (m : ComD) : commitB m = (okC m && num9 m.validity && decide (m = usedC m)) := by
  by_cases hk : 1 ≤ m.kind ∧ m.kind ≤ 6
  · cases hv : num9 m.validity with
    | false => rw [com_val hv]; simp
    | true =>
      have hu : usedC m = wantC m := if_pos hk
      rw [hu]
      obtain ⟨k, v, u, f, n, t⟩ := m
      simp only at hk hv
      rcases (show k = 1 ∨ k = 2 ∨ k = 3 ∨ k = 4 ∨ k = 5 ∨ k = 6 by omega) with h | h | h | h | h | h
      · subst h; rw [com_13 (.inl rfl) hv, Bool.eq_iff_iff]; simp [okC, wantC]; constructor <;> (intro h; simp_all)
      · subst h; rw [com_2 rfl hv, Bool.eq_iff_iff]; simp [okC, wantC]; constructor <;> (intro h; simp_all)
      · subst h; rw [com_13 (.inr rfl) hv, Bool.eq_iff_iff]; simp [okC, wantC]; constructor <;> (intro h; simp_all)
      · subst h; rw [com_4 rfl hv, Bool.eq_iff_iff]; simp [okC, wantC, uidB]; constructor <;> (intro h; simp_all)
      · subst h; rw [com_5 rfl hv, Bool.eq_iff_iff]; simp [okC, wantC, uidB]; constructor <;> (intro h; simp_all)
      · subst h; rw [com_6 rfl hv, Bool.eq_iff_iff]; simp [okC, wantC, uidB]; constructor <;> (intro h; simp_all [show flB 0 = true from rfl])
  · rw [com_in (by rw [Bool.eq_false_iff]; simpa using hk)]
    unfold okC
    rw [if_neg (by omega), if_neg (by omega), if_neg (by omega), if_neg (by omega), if_neg (by omega)]
    rfl

theorem uidOk_any (x : ComD) (w : World) :
    Calls Tryz.prog 116 #[.int .i64 x.uid] w fun e w' => e = .returned (.bool (uidB x)) ∧ w = w' := by
  unfold uidB
  by_cases h1 : 1 ≤ x.uid
  · rw [decide_eq_true h1]
    by_cases h2 : x.uid ≤ 999999998
    · rw [decide_eq_true h2]
      go_enter Tryz.func116, Tryz.ntmps116
      go_wp2
      go_ret
      exact ⟨rfl, rfl⟩
    · rw [decide_eq_false h2]
      go_enter Tryz.func116, Tryz.ntmps116
      go_wp2
      go_ret
      exact ⟨rfl, rfl⟩
  · rw [decide_eq_false h1]
    go_enter Tryz.func116, Tryz.ntmps116
    go_wp2
    go_ret
    exact ⟨rfl, rfl⟩

set_option maxRecDepth 20000 in
set_option maxHeartbeats 6400000 in
theorem used_1 (x : ComD) (w : World) (hk : x.kind = 1) (hn : x.name.length ≤ 1048576) :
    Calls Tryz.prog 73 #[.agg #[.int .i64 x.kind, .int .i64 x.validity, .int .i64 x.uid, .int .i64 x.flags, sv x.name, sv x.text]] w fun e w' => e = .returned (.tuple #[.agg #[.int .i64 x.kind, .int .i64 x.validity, .int .i64 0, .int .i64 0, sv x.name, sv []], .bool (nameB x.name)]) ∧ Below w.heap.size w w' := by
  have cname4 := fun W => implNameOk_any ⟨x.name.toArray⟩ W (by unfold maxLen; show x.name.toArray.size ≤ _; simp; omega)
  clear hn
  have t1 : (x.kind == 1) = true := by rw [beq_iff_eq]; omega
  clear hk
  have Cname4 := Lib.hid cname4
  clear cname4
  go_enter Tryz.func73, Tryz.ntmps73
  go_wp2
  refine wp_named9 ?_
  intro X hX
  have H0 := Lib.hid (Three.of hX)
  clear hX
  have K0 := Lib.hid H0.out
  clear H0
  have HS := Lib.hid (fun (W : World) (R : Array Value) (H : Three 26 w W #[.int .i64 x.kind, .int .i64 x.validity, .int .i64 x.uid, .int .i64 x.flags, sv x.name, sv x.text] R #[.int .i64 x.kind, .int .i64 x.validity, .int .i64 0, .int .i64 0, sv x.name, sv []]) => (⟨(Lib.cell_of_heap H.a 4).trans rfl, (Lib.cell_of_heap H.o 0).trans rfl, (Lib.cell_of_heap H.o 1).trans rfl, (Lib.cell_of_heap H.o 2).trans rfl, (Lib.cell_of_heap H.o 3).trans rfl, (Lib.cell_of_heap H.o 4).trans rfl, (Lib.cell_of_heap H.o 5).trans rfl⟩ : W.cell? ⟨w.heap.size, 4, none⟩ = some (sv x.name) ∧ W.cell? ⟨w.heap.size + 1 + 1, 0, none⟩ = some (.int .i64 x.kind) ∧ W.cell? ⟨w.heap.size + 1 + 1, 1, none⟩ = some (.int .i64 x.validity) ∧ W.cell? ⟨w.heap.size + 1 + 1, 2, none⟩ = some (.int .i64 0) ∧ W.cell? ⟨w.heap.size + 1 + 1, 3, none⟩ = some (.int .i64 0) ∧ W.cell? ⟨w.heap.size + 1 + 1, 4, none⟩ = some (sv x.name) ∧ W.cell? ⟨w.heap.size + 1 + 1, 5, none⟩ = some (sv [])))
  have hs0 := HS.out X.drew _ K0.out.drew
  cases e0 : (nameB x.name) with
  | true =>
    rw [show nameB (ByteArray.mk x.name.toArray).data.toList = true from e0] at Cname4
    refine ord_start [(0, true), (1, true), (2, true), (3, false), (4, false), (5, true)] (fun W => W.cell? ⟨w.heap.size, 4, none⟩ = some (sv x.name) ∧ W.cell? ⟨w.heap.size + 1 + 1, 0, none⟩ = some (.int .i64 x.kind) ∧ W.cell? ⟨w.heap.size + 1 + 1, 1, none⟩ = some (.int .i64 x.validity) ∧ W.cell? ⟨w.heap.size + 1 + 1, 2, none⟩ = some (.int .i64 0) ∧ W.cell? ⟨w.heap.size + 1 + 1, 3, none⟩ = some (.int .i64 0) ∧ W.cell? ⟨w.heap.size + 1 + 1, 4, none⟩ = some (sv x.name) ∧ W.cell? ⟨w.heap.size + 1 + 1, 5, none⟩ = some (sv [])) (by kernel_rfl) (by kernel_rfl) rfl (by kernel_rfl) ?_
    intro ops' hops
    simp only [List.map_cons, List.map_nil, pickOp_zero, pickOp_succ]
    iterate 3 (refine ord_flo ?_ (fun _ _ _ h => h) rfl ?_ hs0 ?_; rotate_left; focus (intro W hS; obtain ⟨s0, s1, s2, s3, s4, s5, s6⟩ := hS; go_simp; rfl))
    try go_frame
    refine ord_ev rfl ?_
    go_simp
    refine (Cname4.out _).mono ?_
    rintro e w1 ⟨rfl, b1⟩
    have K1 := Lib.hid ((K0.out.drew).call b1)
    clear b1
    have hs1 := HS.out _ _ K1.out
    refine ⟨hs1, ?_⟩
    try go_frame
    refine ord_ev rfl ?_
    refine wp_putR _ _ _ rfl (w.heap.size + 1) #[.int .i64 x.kind, .int .i64 x.validity, .int .i64 0, .int .i64 0, sv x.name, sv []] (by rfl) (by rfl) _ _ (K1.out).r (by kernel_rfl) rfl (by simp [Value.oneCell', sv]) ?_
    intro Z hZ
    have KF := Lib.hid (show Three _ w Z _ _ _ from by rw [hZ]; exact (K1.out).setR #[.int .i64 x.kind, .int .i64 x.validity, .int .i64 0, .int .i64 0, sv x.name, sv []])
    clear hZ
    refine ⟨HS.out _ _ KF.out, ?_⟩
    have hsf := HS.out _ _ KF.out
    iterate 1 (refine ord_flo ?_ (fun _ _ _ h => h) rfl ?_ hsf ?_; rotate_left; focus (intro W hS; obtain ⟨s0, s1, s2, s3, s4, s5, s6⟩ := hS; go_simp; rfl))
    refine ord_done ?_
    go_simp
    clear HS hsf hs0 hs1
    have g0 := (Lib.cell_of_heap KF.out.r 0).trans (show _ = some (.int .i64 x.kind) from rfl)
    have g1 := (Lib.cell_of_heap KF.out.r 1).trans (show _ = some (.int .i64 x.validity) from rfl)
    have g2 := (Lib.cell_of_heap KF.out.r 2).trans (show _ = some (.int .i64 0) from rfl)
    have g3 := (Lib.cell_of_heap KF.out.r 3).trans (show _ = some (.int .i64 0) from rfl)
    have g4 := (Lib.cell_of_heap KF.out.r 4).trans (show _ = some (sv x.name) from rfl)
    have g5 := (Lib.cell_of_heap KF.out.r 5).trans (show _ = some (sv []) from rfl)
    have HB := Lib.hid KF.out.b
    clear KF
    go_wp2
    exact bodyPost_ret (v := .tuple #[.agg #[.int .i64 x.kind, .int .i64 x.validity, .int .i64 0, .int .i64 0, sv x.name, sv []], .bool true]) (by simp [results, Tryz.results73, go_sem, g0, g1, g2, g3, g4, g5]) rfl ⟨fin9 (by first | rfl | (rw [e0] <;> rfl)), HB.out⟩
  | false =>
    rw [show nameB (ByteArray.mk x.name.toArray).data.toList = false from e0] at Cname4
    refine ord_start [(0, true), (1, true), (2, true), (3, false), (4, false), (5, true)] (fun W => W.cell? ⟨w.heap.size, 4, none⟩ = some (sv x.name) ∧ W.cell? ⟨w.heap.size + 1 + 1, 0, none⟩ = some (.int .i64 x.kind) ∧ W.cell? ⟨w.heap.size + 1 + 1, 1, none⟩ = some (.int .i64 x.validity) ∧ W.cell? ⟨w.heap.size + 1 + 1, 2, none⟩ = some (.int .i64 0) ∧ W.cell? ⟨w.heap.size + 1 + 1, 3, none⟩ = some (.int .i64 0) ∧ W.cell? ⟨w.heap.size + 1 + 1, 4, none⟩ = some (sv x.name) ∧ W.cell? ⟨w.heap.size + 1 + 1, 5, none⟩ = some (sv [])) (by kernel_rfl) (by kernel_rfl) rfl (by kernel_rfl) ?_
    intro ops' hops
    simp only [List.map_cons, List.map_nil, pickOp_zero, pickOp_succ]
    iterate 3 (refine ord_flo ?_ (fun _ _ _ h => h) rfl ?_ hs0 ?_; rotate_left; focus (intro W hS; obtain ⟨s0, s1, s2, s3, s4, s5, s6⟩ := hS; go_simp; rfl))
    try go_frame
    refine ord_ev rfl ?_
    go_simp
    refine (Cname4.out _).mono ?_
    rintro e w1 ⟨rfl, b1⟩
    have K1 := Lib.hid ((K0.out.drew).call b1)
    clear b1
    have hs1 := HS.out _ _ K1.out
    refine ⟨hs1, ?_⟩
    try go_frame
    refine ord_ev rfl ?_
    refine wp_putR _ _ _ rfl (w.heap.size + 1) #[.int .i64 x.kind, .int .i64 x.validity, .int .i64 0, .int .i64 0, sv x.name, sv []] (by rfl) (by rfl) _ _ (K1.out).r (by kernel_rfl) rfl (by simp [Value.oneCell', sv]) ?_
    intro Z hZ
    have KF := Lib.hid (show Three _ w Z _ _ _ from by rw [hZ]; exact (K1.out).setR #[.int .i64 x.kind, .int .i64 x.validity, .int .i64 0, .int .i64 0, sv x.name, sv []])
    clear hZ
    refine ⟨HS.out _ _ KF.out, ?_⟩
    have hsf := HS.out _ _ KF.out
    iterate 1 (refine ord_flo ?_ (fun _ _ _ h => h) rfl ?_ hsf ?_; rotate_left; focus (intro W hS; obtain ⟨s0, s1, s2, s3, s4, s5, s6⟩ := hS; go_simp; rfl))
    refine ord_done ?_
    go_simp
    clear HS hsf hs0 hs1
    have g0 := (Lib.cell_of_heap KF.out.r 0).trans (show _ = some (.int .i64 x.kind) from rfl)
    have g1 := (Lib.cell_of_heap KF.out.r 1).trans (show _ = some (.int .i64 x.validity) from rfl)
    have g2 := (Lib.cell_of_heap KF.out.r 2).trans (show _ = some (.int .i64 0) from rfl)
    have g3 := (Lib.cell_of_heap KF.out.r 3).trans (show _ = some (.int .i64 0) from rfl)
    have g4 := (Lib.cell_of_heap KF.out.r 4).trans (show _ = some (sv x.name) from rfl)
    have g5 := (Lib.cell_of_heap KF.out.r 5).trans (show _ = some (sv []) from rfl)
    have HB := Lib.hid KF.out.b
    clear KF
    go_wp2
    exact bodyPost_ret (v := .tuple #[.agg #[.int .i64 x.kind, .int .i64 x.validity, .int .i64 0, .int .i64 0, sv x.name, sv []], .bool false]) (by simp [results, Tryz.results73, go_sem, g0, g1, g2, g3, g4, g5]) rfl ⟨fin9 (by first | rfl | (rw [e0] <;> rfl)), HB.out⟩

set_option maxRecDepth 20000 in
set_option maxHeartbeats 6400000 in
theorem used_3 (x : ComD) (w : World) (hk : x.kind = 3) (hn : x.name.length ≤ 1048576) :
    Calls Tryz.prog 73 #[.agg #[.int .i64 x.kind, .int .i64 x.validity, .int .i64 x.uid, .int .i64 x.flags, sv x.name, sv x.text]] w fun e w' => e = .returned (.tuple #[.agg #[.int .i64 x.kind, .int .i64 x.validity, .int .i64 0, .int .i64 0, sv x.name, sv []], .bool (nameB x.name)]) ∧ Below w.heap.size w w' := by
  have cname4 := fun W => implNameOk_any ⟨x.name.toArray⟩ W (by unfold maxLen; show x.name.toArray.size ≤ _; simp; omega)
  clear hn
  have t1 : (x.kind == 1) = false := by rw [beq_eq_false_iff_ne]; omega
  have t3 : (x.kind == 3) = true := by rw [beq_iff_eq]; omega
  clear hk
  have Cname4 := Lib.hid cname4
  clear cname4
  go_enter Tryz.func73, Tryz.ntmps73
  go_wp2
  refine wp_named9 ?_
  intro X hX
  have H0 := Lib.hid (Three.of hX)
  clear hX
  have K0 := Lib.hid H0.out
  clear H0
  have HS := Lib.hid (fun (W : World) (R : Array Value) (H : Three 26 w W #[.int .i64 x.kind, .int .i64 x.validity, .int .i64 x.uid, .int .i64 x.flags, sv x.name, sv x.text] R #[.int .i64 x.kind, .int .i64 x.validity, .int .i64 0, .int .i64 0, sv x.name, sv []]) => (⟨(Lib.cell_of_heap H.a 4).trans rfl, (Lib.cell_of_heap H.o 0).trans rfl, (Lib.cell_of_heap H.o 1).trans rfl, (Lib.cell_of_heap H.o 2).trans rfl, (Lib.cell_of_heap H.o 3).trans rfl, (Lib.cell_of_heap H.o 4).trans rfl, (Lib.cell_of_heap H.o 5).trans rfl⟩ : W.cell? ⟨w.heap.size, 4, none⟩ = some (sv x.name) ∧ W.cell? ⟨w.heap.size + 1 + 1, 0, none⟩ = some (.int .i64 x.kind) ∧ W.cell? ⟨w.heap.size + 1 + 1, 1, none⟩ = some (.int .i64 x.validity) ∧ W.cell? ⟨w.heap.size + 1 + 1, 2, none⟩ = some (.int .i64 0) ∧ W.cell? ⟨w.heap.size + 1 + 1, 3, none⟩ = some (.int .i64 0) ∧ W.cell? ⟨w.heap.size + 1 + 1, 4, none⟩ = some (sv x.name) ∧ W.cell? ⟨w.heap.size + 1 + 1, 5, none⟩ = some (sv [])))
  have hs0 := HS.out X.drew _ K0.out.drew
  cases e0 : (nameB x.name) with
  | true =>
    rw [show nameB (ByteArray.mk x.name.toArray).data.toList = true from e0] at Cname4
    refine ord_start [(0, true), (1, true), (2, true), (3, false), (4, false), (5, true)] (fun W => W.cell? ⟨w.heap.size, 4, none⟩ = some (sv x.name) ∧ W.cell? ⟨w.heap.size + 1 + 1, 0, none⟩ = some (.int .i64 x.kind) ∧ W.cell? ⟨w.heap.size + 1 + 1, 1, none⟩ = some (.int .i64 x.validity) ∧ W.cell? ⟨w.heap.size + 1 + 1, 2, none⟩ = some (.int .i64 0) ∧ W.cell? ⟨w.heap.size + 1 + 1, 3, none⟩ = some (.int .i64 0) ∧ W.cell? ⟨w.heap.size + 1 + 1, 4, none⟩ = some (sv x.name) ∧ W.cell? ⟨w.heap.size + 1 + 1, 5, none⟩ = some (sv [])) (by kernel_rfl) (by kernel_rfl) rfl (by kernel_rfl) ?_
    intro ops' hops
    simp only [List.map_cons, List.map_nil, pickOp_zero, pickOp_succ]
    iterate 3 (refine ord_flo ?_ (fun _ _ _ h => h) rfl ?_ hs0 ?_; rotate_left; focus (intro W hS; obtain ⟨s0, s1, s2, s3, s4, s5, s6⟩ := hS; go_simp; rfl))
    try go_frame
    refine ord_ev rfl ?_
    go_simp
    refine (Cname4.out _).mono ?_
    rintro e w1 ⟨rfl, b1⟩
    have K1 := Lib.hid ((K0.out.drew).call b1)
    clear b1
    have hs1 := HS.out _ _ K1.out
    refine ⟨hs1, ?_⟩
    try go_frame
    refine ord_ev rfl ?_
    refine wp_putR _ _ _ rfl (w.heap.size + 1) #[.int .i64 x.kind, .int .i64 x.validity, .int .i64 0, .int .i64 0, sv x.name, sv []] (by rfl) (by rfl) _ _ (K1.out).r (by kernel_rfl) rfl (by simp [Value.oneCell', sv]) ?_
    intro Z hZ
    have KF := Lib.hid (show Three _ w Z _ _ _ from by rw [hZ]; exact (K1.out).setR #[.int .i64 x.kind, .int .i64 x.validity, .int .i64 0, .int .i64 0, sv x.name, sv []])
    clear hZ
    refine ⟨HS.out _ _ KF.out, ?_⟩
    have hsf := HS.out _ _ KF.out
    iterate 1 (refine ord_flo ?_ (fun _ _ _ h => h) rfl ?_ hsf ?_; rotate_left; focus (intro W hS; obtain ⟨s0, s1, s2, s3, s4, s5, s6⟩ := hS; go_simp; rfl))
    refine ord_done ?_
    go_simp
    clear HS hsf hs0 hs1
    have g0 := (Lib.cell_of_heap KF.out.r 0).trans (show _ = some (.int .i64 x.kind) from rfl)
    have g1 := (Lib.cell_of_heap KF.out.r 1).trans (show _ = some (.int .i64 x.validity) from rfl)
    have g2 := (Lib.cell_of_heap KF.out.r 2).trans (show _ = some (.int .i64 0) from rfl)
    have g3 := (Lib.cell_of_heap KF.out.r 3).trans (show _ = some (.int .i64 0) from rfl)
    have g4 := (Lib.cell_of_heap KF.out.r 4).trans (show _ = some (sv x.name) from rfl)
    have g5 := (Lib.cell_of_heap KF.out.r 5).trans (show _ = some (sv []) from rfl)
    have HB := Lib.hid KF.out.b
    clear KF
    go_wp2
    exact bodyPost_ret (v := .tuple #[.agg #[.int .i64 x.kind, .int .i64 x.validity, .int .i64 0, .int .i64 0, sv x.name, sv []], .bool true]) (by simp [results, Tryz.results73, go_sem, g0, g1, g2, g3, g4, g5]) rfl ⟨fin9 (by first | rfl | (rw [e0] <;> rfl)), HB.out⟩
  | false =>
    rw [show nameB (ByteArray.mk x.name.toArray).data.toList = false from e0] at Cname4
    refine ord_start [(0, true), (1, true), (2, true), (3, false), (4, false), (5, true)] (fun W => W.cell? ⟨w.heap.size, 4, none⟩ = some (sv x.name) ∧ W.cell? ⟨w.heap.size + 1 + 1, 0, none⟩ = some (.int .i64 x.kind) ∧ W.cell? ⟨w.heap.size + 1 + 1, 1, none⟩ = some (.int .i64 x.validity) ∧ W.cell? ⟨w.heap.size + 1 + 1, 2, none⟩ = some (.int .i64 0) ∧ W.cell? ⟨w.heap.size + 1 + 1, 3, none⟩ = some (.int .i64 0) ∧ W.cell? ⟨w.heap.size + 1 + 1, 4, none⟩ = some (sv x.name) ∧ W.cell? ⟨w.heap.size + 1 + 1, 5, none⟩ = some (sv [])) (by kernel_rfl) (by kernel_rfl) rfl (by kernel_rfl) ?_
    intro ops' hops
    simp only [List.map_cons, List.map_nil, pickOp_zero, pickOp_succ]
    iterate 3 (refine ord_flo ?_ (fun _ _ _ h => h) rfl ?_ hs0 ?_; rotate_left; focus (intro W hS; obtain ⟨s0, s1, s2, s3, s4, s5, s6⟩ := hS; go_simp; rfl))
    try go_frame
    refine ord_ev rfl ?_
    go_simp
    refine (Cname4.out _).mono ?_
    rintro e w1 ⟨rfl, b1⟩
    have K1 := Lib.hid ((K0.out.drew).call b1)
    clear b1
    have hs1 := HS.out _ _ K1.out
    refine ⟨hs1, ?_⟩
    try go_frame
    refine ord_ev rfl ?_
    refine wp_putR _ _ _ rfl (w.heap.size + 1) #[.int .i64 x.kind, .int .i64 x.validity, .int .i64 0, .int .i64 0, sv x.name, sv []] (by rfl) (by rfl) _ _ (K1.out).r (by kernel_rfl) rfl (by simp [Value.oneCell', sv]) ?_
    intro Z hZ
    have KF := Lib.hid (show Three _ w Z _ _ _ from by rw [hZ]; exact (K1.out).setR #[.int .i64 x.kind, .int .i64 x.validity, .int .i64 0, .int .i64 0, sv x.name, sv []])
    clear hZ
    refine ⟨HS.out _ _ KF.out, ?_⟩
    have hsf := HS.out _ _ KF.out
    iterate 1 (refine ord_flo ?_ (fun _ _ _ h => h) rfl ?_ hsf ?_; rotate_left; focus (intro W hS; obtain ⟨s0, s1, s2, s3, s4, s5, s6⟩ := hS; go_simp; rfl))
    refine ord_done ?_
    go_simp
    clear HS hsf hs0 hs1
    have g0 := (Lib.cell_of_heap KF.out.r 0).trans (show _ = some (.int .i64 x.kind) from rfl)
    have g1 := (Lib.cell_of_heap KF.out.r 1).trans (show _ = some (.int .i64 x.validity) from rfl)
    have g2 := (Lib.cell_of_heap KF.out.r 2).trans (show _ = some (.int .i64 0) from rfl)
    have g3 := (Lib.cell_of_heap KF.out.r 3).trans (show _ = some (.int .i64 0) from rfl)
    have g4 := (Lib.cell_of_heap KF.out.r 4).trans (show _ = some (sv x.name) from rfl)
    have g5 := (Lib.cell_of_heap KF.out.r 5).trans (show _ = some (sv []) from rfl)
    have HB := Lib.hid KF.out.b
    clear KF
    go_wp2
    exact bodyPost_ret (v := .tuple #[.agg #[.int .i64 x.kind, .int .i64 x.validity, .int .i64 0, .int .i64 0, sv x.name, sv []], .bool false]) (by simp [results, Tryz.results73, go_sem, g0, g1, g2, g3, g4, g5]) rfl ⟨fin9 (by first | rfl | (rw [e0] <;> rfl)), HB.out⟩

set_option maxRecDepth 20000 in
set_option maxHeartbeats 6400000 in
theorem used_2 (x : ComD) (w : World) (hk : x.kind = 2) :
    Calls Tryz.prog 73 #[.agg #[.int .i64 x.kind, .int .i64 x.validity, .int .i64 x.uid, .int .i64 x.flags, sv x.name, sv x.text]] w fun e w' => e = .returned (.tuple #[.agg #[.int .i64 x.kind, .int .i64 x.validity, .int .i64 0, .int .i64 0, sv [], sv []], .bool (true)]) ∧ Below w.heap.size w w' := by
  have t1 : (x.kind == 1) = false := by rw [beq_eq_false_iff_ne]; omega
  have t3 : (x.kind == 3) = false := by rw [beq_eq_false_iff_ne]; omega
  have t2 : (x.kind == 2) = true := by rw [beq_iff_eq]; omega
  clear hk
  go_enter Tryz.func73, Tryz.ntmps73
  go_wp2
  go_returns
  exact ⟨rfl, (((Below.refl _ _).alloc (Nat.le_refl _) _).alloc (by simp) _).alloc (by simp; omega) _⟩

set_option maxRecDepth 20000 in
set_option maxHeartbeats 6400000 in
theorem used_4 (x : ComD) (w : World) (hk : x.kind = 4) :
    Calls Tryz.prog 73 #[.agg #[.int .i64 x.kind, .int .i64 x.validity, .int .i64 x.uid, .int .i64 x.flags, sv x.name, sv x.text]] w fun e w' => e = .returned (.tuple #[.agg #[.int .i64 x.kind, .int .i64 x.validity, .int .i64 x.uid, .int .i64 x.flags, sv [], sv x.text], .bool (uidB x && flB x.flags && decide ((x.text.length : Int) ≤ 40))]) ∧ Below w.heap.size w w' := by
  have cuid2 := fun W => uidOk_any x W
  have cflags3 := fun W => flagsOk9_any x.flags W
  have t1 : (x.kind == 1) = false := by rw [beq_eq_false_iff_ne]; omega
  have t3 : (x.kind == 3) = false := by rw [beq_eq_false_iff_ne]; omega
  have t2 : (x.kind == 2) = false := by rw [beq_eq_false_iff_ne]; omega
  have t4 : (x.kind == 4) = true := by rw [beq_iff_eq]; omega
  clear hk
  have Cuid2 := Lib.hid cuid2
  clear cuid2
  have Cflags3 := Lib.hid cflags3
  clear cflags3
  go_enter Tryz.func73, Tryz.ntmps73
  go_wp2
  refine wp_named9 ?_
  intro X hX
  have H0 := Lib.hid (Three.of hX)
  clear hX
  have HS := Lib.hid (fun (W : World) (R O : Array Value) (H : Three 26 w W #[.int .i64 x.kind, .int .i64 x.validity, .int .i64 x.uid, .int .i64 x.flags, sv x.name, sv x.text] R O) => (⟨(Lib.cell_of_heap H.a 2).trans rfl, (Lib.cell_of_heap H.a 3).trans rfl, (Lib.cell_of_heap H.a 5).trans rfl⟩ : W.cell? ⟨w.heap.size, 2, none⟩ = some (.int .i64 x.uid) ∧ W.cell? ⟨w.heap.size, 3, none⟩ = some (.int .i64 x.flags) ∧ W.cell? ⟨w.heap.size, 5, none⟩ = some (sv x.text)))
  have hs0 := HS.out X.drew _ _ H0.out.drew
  refine ord_start [(0, true), (1, true), (2, true), (3, true), (4, true), (5, true), (6, true), (7, false), (8, true), (9, false), (10, true), (11, false)] (fun W => W.cell? ⟨w.heap.size, 2, none⟩ = some (.int .i64 x.uid) ∧ W.cell? ⟨w.heap.size, 3, none⟩ = some (.int .i64 x.flags) ∧ W.cell? ⟨w.heap.size, 5, none⟩ = some (sv x.text)) (by kernel_rfl) (by kernel_rfl) rfl (by kernel_rfl) ?_
  intro ops' hops
  clear hops
  simp only [List.map_cons, List.map_nil, pickOp_zero, pickOp_succ]
  iterate 7 (refine ord_flo ?_ (fun _ _ _ h => h) rfl ?_ hs0 ?_; rotate_left; focus (intro W hS; obtain ⟨s0, s1, s2⟩ := hS; go_simp; rfl))
  go_frame
  refine ord_ev rfl ?_
  refine wp_put1 _ _ _ rfl (w.heap.size + 1 + 1) 2 (.int .i64 x.uid) (by rfl) (by rfl) _ _ (H0.out.drew).o (by simp) (by kernel_rfl) rfl rfl ?_
  intro X1 hX1
  have H1 := Lib.hid (show Three _ w X1 _ _ _ from by rw [hX1]; exact (H0.out.drew).setO 2 (.int .i64 x.uid))
  clear hX1
  refine ⟨HS.out _ _ _ H1.out, ?_⟩
  have hs1 := HS.out _ _ _ H1.out
  iterate 1 (refine ord_flo ?_ (fun _ _ _ h => h) rfl ?_ hs1 ?_; rotate_left; focus (intro W hS; obtain ⟨s0, s1, s2⟩ := hS; go_simp; rfl))
  go_frame
  refine ord_ev rfl ?_
  refine wp_put1 _ _ _ rfl (w.heap.size + 1 + 1) 3 (.int .i64 x.flags) (by rfl) (by rfl) _ _ (H1.out).o (by simp) (by kernel_rfl) rfl rfl ?_
  intro X2 hX2
  have H2 := Lib.hid (show Three _ w X2 _ _ _ from by rw [hX2]; exact (H1.out).setO 3 (.int .i64 x.flags))
  clear hX2
  refine ⟨HS.out _ _ _ H2.out, ?_⟩
  have hs2 := HS.out _ _ _ H2.out
  iterate 1 (refine ord_flo ?_ (fun _ _ _ h => h) rfl ?_ hs2 ?_; rotate_left; focus (intro W hS; obtain ⟨s0, s1, s2⟩ := hS; go_simp; rfl))
  go_frame
  refine ord_ev rfl ?_
  refine wp_put1 _ _ _ rfl (w.heap.size + 1 + 1) 5 (sv x.text) (by rfl) (by rfl) _ _ (H2.out).o (by simp) (by kernel_rfl) rfl rfl ?_
  intro X3 hX3
  have H3 := Lib.hid (show Three _ w X3 _ _ _ from by rw [hX3]; exact (H2.out).setO 5 (sv x.text))
  clear hX3
  refine ⟨HS.out _ _ _ H3.out, ?_⟩
  have hs3 := HS.out _ _ _ H3.out
  refine ord_done ?_
  go_simp
  clear HS hs0 hs1 hs2 hs3
  go_wp2
  have K0 := Lib.hid H3.out
  clear H0 H1 H2 H3
  have HS := Lib.hid (fun (W : World) (R : Array Value) (H : Three 26 w W #[.int .i64 x.kind, .int .i64 x.validity, .int .i64 x.uid, .int .i64 x.flags, sv x.name, sv x.text] R #[.int .i64 x.kind, .int .i64 x.validity, .int .i64 x.uid, .int .i64 x.flags, sv [], sv x.text]) => (⟨(Lib.cell_of_heap H.a 2).trans rfl, (Lib.cell_of_heap H.a 3).trans rfl, (Lib.cell_of_heap H.a 5).trans rfl, (Lib.cell_of_heap H.o 0).trans rfl, (Lib.cell_of_heap H.o 1).trans rfl, (Lib.cell_of_heap H.o 2).trans rfl, (Lib.cell_of_heap H.o 3).trans rfl, (Lib.cell_of_heap H.o 4).trans rfl, (Lib.cell_of_heap H.o 5).trans rfl⟩ : W.cell? ⟨w.heap.size, 2, none⟩ = some (.int .i64 x.uid) ∧ W.cell? ⟨w.heap.size, 3, none⟩ = some (.int .i64 x.flags) ∧ W.cell? ⟨w.heap.size, 5, none⟩ = some (sv x.text) ∧ W.cell? ⟨w.heap.size + 1 + 1, 0, none⟩ = some (.int .i64 x.kind) ∧ W.cell? ⟨w.heap.size + 1 + 1, 1, none⟩ = some (.int .i64 x.validity) ∧ W.cell? ⟨w.heap.size + 1 + 1, 2, none⟩ = some (.int .i64 x.uid) ∧ W.cell? ⟨w.heap.size + 1 + 1, 3, none⟩ = some (.int .i64 x.flags) ∧ W.cell? ⟨w.heap.size + 1 + 1, 4, none⟩ = some (sv []) ∧ W.cell? ⟨w.heap.size + 1 + 1, 5, none⟩ = some (sv x.text)))
  have hs0 := HS.out X3.drew _ K0.out.drew
  cases e0 : (uidB x) with
  | true =>
    cases e1 : (flB x.flags) with
    | true =>
      cases e2 : (decide ((x.text.length : Int) ≤ 40)) with
      | true =>
        simp only [e0] at Cuid2
        rw [e1] at Cflags3
        have elen : (x.text.length : Int) ≤ 40 := of_decide_eq_true e2
        refine ord_start [(0, true), (1, true), (2, true), (3, false), (4, true), (5, true), (6, true), (7, false), (8, true), (9, true), (10, true), (11, true), (12, true), (13, true), (14, true), (15, false), (16, true)] (fun W => W.cell? ⟨w.heap.size, 2, none⟩ = some (.int .i64 x.uid) ∧ W.cell? ⟨w.heap.size, 3, none⟩ = some (.int .i64 x.flags) ∧ W.cell? ⟨w.heap.size, 5, none⟩ = some (sv x.text) ∧ W.cell? ⟨w.heap.size + 1 + 1, 0, none⟩ = some (.int .i64 x.kind) ∧ W.cell? ⟨w.heap.size + 1 + 1, 1, none⟩ = some (.int .i64 x.validity) ∧ W.cell? ⟨w.heap.size + 1 + 1, 2, none⟩ = some (.int .i64 x.uid) ∧ W.cell? ⟨w.heap.size + 1 + 1, 3, none⟩ = some (.int .i64 x.flags) ∧ W.cell? ⟨w.heap.size + 1 + 1, 4, none⟩ = some (sv []) ∧ W.cell? ⟨w.heap.size + 1 + 1, 5, none⟩ = some (sv x.text)) (by kernel_rfl) (by kernel_rfl) rfl (by kernel_rfl) ?_
        intro ops' hops
        simp only [List.map_cons, List.map_nil, pickOp_zero, pickOp_succ]
        iterate 3 (refine ord_flo ?_ (fun _ _ _ h => h) rfl ?_ hs0 ?_; rotate_left; focus (intro W hS; obtain ⟨s0, s1, s2, s3, s4, s5, s6, s7, s8⟩ := hS; go_simp; rfl))
        try go_frame
        refine ord_ev rfl ?_
        go_simp
        refine (Cuid2.out _).mono ?_
        rintro e w1 ⟨rfl, rfl⟩
        have K1 := Lib.hid (K0.out.drew)
        have hs1 := HS.out _ _ K1.out
        refine ⟨hs1, ?_⟩
        iterate 1 (refine ord_flo ?_ (fun _ _ _ h => h) rfl ?_ hs1 ?_; rotate_left; focus (intro W hS; obtain ⟨s0, s1, s2, s3, s4, s5, s6, s7, s8⟩ := hS; go_simp; rfl))
        iterate 2 (refine ord_flo ?_ (fun _ _ _ h => h) (by rw [hops.out]; kernel_rfl) ?_ hs1 ?_; rotate_left; focus (intro W hS; obtain ⟨s0, s1, s2, s3, s4, s5, s6, s7, s8⟩ := hS; go_simp; rfl))
        try go_frame
        refine ord_ev (by rw [hops.out]; kernel_rfl) ?_
        go_simp
        refine (Cflags3.out _).mono ?_
        rintro e w2 ⟨rfl, rfl⟩
        have K2 := Lib.hid (K1.out)
        have hs2 := HS.out _ _ K2.out
        refine ⟨hs2, ?_⟩
        iterate 2 (refine ord_flo ?_ (fun _ _ _ h => h) rfl ?_ hs2 ?_; rotate_left; focus (intro W hS; obtain ⟨s0, s1, s2, s3, s4, s5, s6, s7, s8⟩ := hS; go_simp; rfl))
        iterate 4 (refine ord_flo ?_ (fun _ _ _ h => h) (by rw [hops.out]; kernel_rfl) ?_ hs2 ?_; rotate_left; focus (intro W hS; obtain ⟨s0, s1, s2, s3, s4, s5, s6, s7, s8⟩ := hS; go_simp; rfl))
        iterate 1 (refine ord_flo ?_ (fun _ _ _ h => h) rfl ?_ hs2 ?_; rotate_left; focus (intro W hS; obtain ⟨s0, s1, s2, s3, s4, s5, s6, s7, s8⟩ := hS; go_simp; rfl))
        try go_frame
        refine ord_ev rfl ?_
        refine wp_putR _ _ _ rfl (w.heap.size + 1) #[.int .i64 x.kind, .int .i64 x.validity, .int .i64 x.uid, .int .i64 x.flags, sv [], sv x.text] (by rfl) (by rfl) _ _ (K2.out).r (by kernel_rfl) rfl (by simp [Value.oneCell', sv]) ?_
        intro Z hZ
        have KF := Lib.hid (show Three _ w Z _ _ _ from by rw [hZ]; exact (K2.out).setR #[.int .i64 x.kind, .int .i64 x.validity, .int .i64 x.uid, .int .i64 x.flags, sv [], sv x.text])
        clear hZ
        refine ⟨HS.out _ _ KF.out, ?_⟩
        have hsf := HS.out _ _ KF.out
        iterate 1 (refine ord_flo ?_ (fun _ _ _ h => h) rfl ?_ hsf ?_; rotate_left; focus (intro W hS; obtain ⟨s0, s1, s2, s3, s4, s5, s6, s7, s8⟩ := hS; go_simp; rfl))
        refine ord_done ?_
        go_simp
        clear HS hsf hs0 hs1 hs2
        have g0 := (Lib.cell_of_heap KF.out.r 0).trans (show _ = some (.int .i64 x.kind) from rfl)
        have g1 := (Lib.cell_of_heap KF.out.r 1).trans (show _ = some (.int .i64 x.validity) from rfl)
        have g2 := (Lib.cell_of_heap KF.out.r 2).trans (show _ = some (.int .i64 x.uid) from rfl)
        have g3 := (Lib.cell_of_heap KF.out.r 3).trans (show _ = some (.int .i64 x.flags) from rfl)
        have g4 := (Lib.cell_of_heap KF.out.r 4).trans (show _ = some (sv []) from rfl)
        have g5 := (Lib.cell_of_heap KF.out.r 5).trans (show _ = some (sv x.text) from rfl)
        have HB := Lib.hid KF.out.b
        clear KF
        go_wp2
        exact bodyPost_ret (v := .tuple #[.agg #[.int .i64 x.kind, .int .i64 x.validity, .int .i64 x.uid, .int .i64 x.flags, sv [], sv x.text], .bool true]) (by simp [results, Tryz.results73, go_sem, g0, g1, g2, g3, g4, g5]) rfl ⟨fin9 (by first | rfl | (rw [e0] <;> rfl) | (rw [e0, e1] <;> rfl) | (rw [e0, e1, e2] <;> rfl)), HB.out⟩
      | false =>
        simp only [e0] at Cuid2
        rw [e1] at Cflags3
        have elen : ¬ (x.text.length : Int) ≤ 40 := of_decide_eq_false e2
        refine ord_start [(0, true), (1, true), (2, true), (3, false), (4, true), (5, true), (6, true), (7, false), (8, true), (9, true), (10, true), (11, true), (12, true), (13, true), (14, true), (15, false), (16, true)] (fun W => W.cell? ⟨w.heap.size, 2, none⟩ = some (.int .i64 x.uid) ∧ W.cell? ⟨w.heap.size, 3, none⟩ = some (.int .i64 x.flags) ∧ W.cell? ⟨w.heap.size, 5, none⟩ = some (sv x.text) ∧ W.cell? ⟨w.heap.size + 1 + 1, 0, none⟩ = some (.int .i64 x.kind) ∧ W.cell? ⟨w.heap.size + 1 + 1, 1, none⟩ = some (.int .i64 x.validity) ∧ W.cell? ⟨w.heap.size + 1 + 1, 2, none⟩ = some (.int .i64 x.uid) ∧ W.cell? ⟨w.heap.size + 1 + 1, 3, none⟩ = some (.int .i64 x.flags) ∧ W.cell? ⟨w.heap.size + 1 + 1, 4, none⟩ = some (sv []) ∧ W.cell? ⟨w.heap.size + 1 + 1, 5, none⟩ = some (sv x.text)) (by kernel_rfl) (by kernel_rfl) rfl (by kernel_rfl) ?_
        intro ops' hops
        simp only [List.map_cons, List.map_nil, pickOp_zero, pickOp_succ]
        iterate 3 (refine ord_flo ?_ (fun _ _ _ h => h) rfl ?_ hs0 ?_; rotate_left; focus (intro W hS; obtain ⟨s0, s1, s2, s3, s4, s5, s6, s7, s8⟩ := hS; go_simp; rfl))
        try go_frame
        refine ord_ev rfl ?_
        go_simp
        refine (Cuid2.out _).mono ?_
        rintro e w1 ⟨rfl, rfl⟩
        have K1 := Lib.hid (K0.out.drew)
        have hs1 := HS.out _ _ K1.out
        refine ⟨hs1, ?_⟩
        iterate 1 (refine ord_flo ?_ (fun _ _ _ h => h) rfl ?_ hs1 ?_; rotate_left; focus (intro W hS; obtain ⟨s0, s1, s2, s3, s4, s5, s6, s7, s8⟩ := hS; go_simp; rfl))
        iterate 2 (refine ord_flo ?_ (fun _ _ _ h => h) (by rw [hops.out]; kernel_rfl) ?_ hs1 ?_; rotate_left; focus (intro W hS; obtain ⟨s0, s1, s2, s3, s4, s5, s6, s7, s8⟩ := hS; go_simp; rfl))
        try go_frame
        refine ord_ev (by rw [hops.out]; kernel_rfl) ?_
        go_simp
        refine (Cflags3.out _).mono ?_
        rintro e w2 ⟨rfl, rfl⟩
        have K2 := Lib.hid (K1.out)
        have hs2 := HS.out _ _ K2.out
        refine ⟨hs2, ?_⟩
        iterate 2 (refine ord_flo ?_ (fun _ _ _ h => h) rfl ?_ hs2 ?_; rotate_left; focus (intro W hS; obtain ⟨s0, s1, s2, s3, s4, s5, s6, s7, s8⟩ := hS; go_simp; rfl))
        iterate 4 (refine ord_flo ?_ (fun _ _ _ h => h) (by rw [hops.out]; kernel_rfl) ?_ hs2 ?_; rotate_left; focus (intro W hS; obtain ⟨s0, s1, s2, s3, s4, s5, s6, s7, s8⟩ := hS; go_simp; rfl))
        iterate 1 (refine ord_flo ?_ (fun _ _ _ h => h) rfl ?_ hs2 ?_; rotate_left; focus (intro W hS; obtain ⟨s0, s1, s2, s3, s4, s5, s6, s7, s8⟩ := hS; go_simp; rfl))
        try go_frame
        refine ord_ev rfl ?_
        refine wp_putR _ _ _ rfl (w.heap.size + 1) #[.int .i64 x.kind, .int .i64 x.validity, .int .i64 x.uid, .int .i64 x.flags, sv [], sv x.text] (by rfl) (by rfl) _ _ (K2.out).r (by kernel_rfl) rfl (by simp [Value.oneCell', sv]) ?_
        intro Z hZ
        have KF := Lib.hid (show Three _ w Z _ _ _ from by rw [hZ]; exact (K2.out).setR #[.int .i64 x.kind, .int .i64 x.validity, .int .i64 x.uid, .int .i64 x.flags, sv [], sv x.text])
        clear hZ
        refine ⟨HS.out _ _ KF.out, ?_⟩
        have hsf := HS.out _ _ KF.out
        iterate 1 (refine ord_flo ?_ (fun _ _ _ h => h) rfl ?_ hsf ?_; rotate_left; focus (intro W hS; obtain ⟨s0, s1, s2, s3, s4, s5, s6, s7, s8⟩ := hS; go_simp; rfl))
        refine ord_done ?_
        go_simp
        clear HS hsf hs0 hs1 hs2
        have g0 := (Lib.cell_of_heap KF.out.r 0).trans (show _ = some (.int .i64 x.kind) from rfl)
        have g1 := (Lib.cell_of_heap KF.out.r 1).trans (show _ = some (.int .i64 x.validity) from rfl)
        have g2 := (Lib.cell_of_heap KF.out.r 2).trans (show _ = some (.int .i64 x.uid) from rfl)
        have g3 := (Lib.cell_of_heap KF.out.r 3).trans (show _ = some (.int .i64 x.flags) from rfl)
        have g4 := (Lib.cell_of_heap KF.out.r 4).trans (show _ = some (sv []) from rfl)
        have g5 := (Lib.cell_of_heap KF.out.r 5).trans (show _ = some (sv x.text) from rfl)
        have HB := Lib.hid KF.out.b
        clear KF
        go_wp2
        exact bodyPost_ret (v := .tuple #[.agg #[.int .i64 x.kind, .int .i64 x.validity, .int .i64 x.uid, .int .i64 x.flags, sv [], sv x.text], .bool false]) (by simp [results, Tryz.results73, go_sem, g0, g1, g2, g3, g4, g5]) rfl ⟨fin9 (by first | rfl | (rw [e0] <;> rfl) | (rw [e0, e1] <;> rfl) | (rw [e0, e1, e2] <;> rfl)), HB.out⟩
    | false =>
      simp only [e0] at Cuid2
      rw [e1] at Cflags3
      refine ord_start [(0, true), (1, true), (2, true), (3, false), (4, true), (5, true), (6, true), (7, false), (8, true), (9, true), (10, true), (11, true), (12, true), (13, true), (14, true), (15, false), (16, true)] (fun W => W.cell? ⟨w.heap.size, 2, none⟩ = some (.int .i64 x.uid) ∧ W.cell? ⟨w.heap.size, 3, none⟩ = some (.int .i64 x.flags) ∧ W.cell? ⟨w.heap.size, 5, none⟩ = some (sv x.text) ∧ W.cell? ⟨w.heap.size + 1 + 1, 0, none⟩ = some (.int .i64 x.kind) ∧ W.cell? ⟨w.heap.size + 1 + 1, 1, none⟩ = some (.int .i64 x.validity) ∧ W.cell? ⟨w.heap.size + 1 + 1, 2, none⟩ = some (.int .i64 x.uid) ∧ W.cell? ⟨w.heap.size + 1 + 1, 3, none⟩ = some (.int .i64 x.flags) ∧ W.cell? ⟨w.heap.size + 1 + 1, 4, none⟩ = some (sv []) ∧ W.cell? ⟨w.heap.size + 1 + 1, 5, none⟩ = some (sv x.text)) (by kernel_rfl) (by kernel_rfl) rfl (by kernel_rfl) ?_
      intro ops' hops
      simp only [List.map_cons, List.map_nil, pickOp_zero, pickOp_succ]
      iterate 3 (refine ord_flo ?_ (fun _ _ _ h => h) rfl ?_ hs0 ?_; rotate_left; focus (intro W hS; obtain ⟨s0, s1, s2, s3, s4, s5, s6, s7, s8⟩ := hS; go_simp; rfl))
      try go_frame
      refine ord_ev rfl ?_
      go_simp
      refine (Cuid2.out _).mono ?_
      rintro e w1 ⟨rfl, rfl⟩
      have K1 := Lib.hid (K0.out.drew)
      have hs1 := HS.out _ _ K1.out
      refine ⟨hs1, ?_⟩
      iterate 1 (refine ord_flo ?_ (fun _ _ _ h => h) rfl ?_ hs1 ?_; rotate_left; focus (intro W hS; obtain ⟨s0, s1, s2, s3, s4, s5, s6, s7, s8⟩ := hS; go_simp; rfl))
      iterate 2 (refine ord_flo ?_ (fun _ _ _ h => h) (by rw [hops.out]; kernel_rfl) ?_ hs1 ?_; rotate_left; focus (intro W hS; obtain ⟨s0, s1, s2, s3, s4, s5, s6, s7, s8⟩ := hS; go_simp; rfl))
      try go_frame
      refine ord_ev (by rw [hops.out]; kernel_rfl) ?_
      go_simp
      refine (Cflags3.out _).mono ?_
      rintro e w2 ⟨rfl, rfl⟩
      have K2 := Lib.hid (K1.out)
      have hs2 := HS.out _ _ K2.out
      refine ⟨hs2, ?_⟩
      iterate 2 (refine ord_flo ?_ (fun _ _ _ h => h) rfl ?_ hs2 ?_; rotate_left; focus (intro W hS; obtain ⟨s0, s1, s2, s3, s4, s5, s6, s7, s8⟩ := hS; go_simp; rfl))
      iterate 4 (refine ord_not (fun _ _ _ h => h) (by rw [hops.out]; kernel_rfl) hs2 ?_)
      iterate 1 (refine ord_flo ?_ (fun _ _ _ h => h) rfl ?_ hs2 ?_; rotate_left; focus (intro W hS; obtain ⟨s0, s1, s2, s3, s4, s5, s6, s7, s8⟩ := hS; go_simp; rfl))
      try go_frame
      refine ord_ev rfl ?_
      refine wp_putR _ _ _ rfl (w.heap.size + 1) #[.int .i64 x.kind, .int .i64 x.validity, .int .i64 x.uid, .int .i64 x.flags, sv [], sv x.text] (by rfl) (by rfl) _ _ (K2.out).r (by kernel_rfl) rfl (by simp [Value.oneCell', sv]) ?_
      intro Z hZ
      have KF := Lib.hid (show Three _ w Z _ _ _ from by rw [hZ]; exact (K2.out).setR #[.int .i64 x.kind, .int .i64 x.validity, .int .i64 x.uid, .int .i64 x.flags, sv [], sv x.text])
      clear hZ
      refine ⟨HS.out _ _ KF.out, ?_⟩
      have hsf := HS.out _ _ KF.out
      iterate 1 (refine ord_flo ?_ (fun _ _ _ h => h) rfl ?_ hsf ?_; rotate_left; focus (intro W hS; obtain ⟨s0, s1, s2, s3, s4, s5, s6, s7, s8⟩ := hS; go_simp; rfl))
      refine ord_done ?_
      go_simp
      clear HS hsf hs0 hs1 hs2
      have g0 := (Lib.cell_of_heap KF.out.r 0).trans (show _ = some (.int .i64 x.kind) from rfl)
      have g1 := (Lib.cell_of_heap KF.out.r 1).trans (show _ = some (.int .i64 x.validity) from rfl)
      have g2 := (Lib.cell_of_heap KF.out.r 2).trans (show _ = some (.int .i64 x.uid) from rfl)
      have g3 := (Lib.cell_of_heap KF.out.r 3).trans (show _ = some (.int .i64 x.flags) from rfl)
      have g4 := (Lib.cell_of_heap KF.out.r 4).trans (show _ = some (sv []) from rfl)
      have g5 := (Lib.cell_of_heap KF.out.r 5).trans (show _ = some (sv x.text) from rfl)
      have HB := Lib.hid KF.out.b
      clear KF
      go_wp2
      exact bodyPost_ret (v := .tuple #[.agg #[.int .i64 x.kind, .int .i64 x.validity, .int .i64 x.uid, .int .i64 x.flags, sv [], sv x.text], .bool false]) (by simp [results, Tryz.results73, go_sem, g0, g1, g2, g3, g4, g5]) rfl ⟨fin9 (by first | rfl | (rw [e0] <;> rfl) | (rw [e0, e1] <;> rfl)), HB.out⟩
  | false =>
    simp only [e0] at Cuid2
    refine ord_start [(0, true), (1, true), (2, true), (3, false), (4, true), (5, true), (6, true), (7, false), (8, true), (9, true), (10, true), (11, true), (12, true), (13, true), (14, true), (15, false), (16, true)] (fun W => W.cell? ⟨w.heap.size, 2, none⟩ = some (.int .i64 x.uid) ∧ W.cell? ⟨w.heap.size, 3, none⟩ = some (.int .i64 x.flags) ∧ W.cell? ⟨w.heap.size, 5, none⟩ = some (sv x.text) ∧ W.cell? ⟨w.heap.size + 1 + 1, 0, none⟩ = some (.int .i64 x.kind) ∧ W.cell? ⟨w.heap.size + 1 + 1, 1, none⟩ = some (.int .i64 x.validity) ∧ W.cell? ⟨w.heap.size + 1 + 1, 2, none⟩ = some (.int .i64 x.uid) ∧ W.cell? ⟨w.heap.size + 1 + 1, 3, none⟩ = some (.int .i64 x.flags) ∧ W.cell? ⟨w.heap.size + 1 + 1, 4, none⟩ = some (sv []) ∧ W.cell? ⟨w.heap.size + 1 + 1, 5, none⟩ = some (sv x.text)) (by kernel_rfl) (by kernel_rfl) rfl (by kernel_rfl) ?_
    intro ops' hops
    simp only [List.map_cons, List.map_nil, pickOp_zero, pickOp_succ]
    iterate 3 (refine ord_flo ?_ (fun _ _ _ h => h) rfl ?_ hs0 ?_; rotate_left; focus (intro W hS; obtain ⟨s0, s1, s2, s3, s4, s5, s6, s7, s8⟩ := hS; go_simp; rfl))
    try go_frame
    refine ord_ev rfl ?_
    go_simp
    refine (Cuid2.out _).mono ?_
    rintro e w1 ⟨rfl, rfl⟩
    have K1 := Lib.hid (K0.out.drew)
    have hs1 := HS.out _ _ K1.out
    refine ⟨hs1, ?_⟩
    iterate 1 (refine ord_flo ?_ (fun _ _ _ h => h) rfl ?_ hs1 ?_; rotate_left; focus (intro W hS; obtain ⟨s0, s1, s2, s3, s4, s5, s6, s7, s8⟩ := hS; go_simp; rfl))
    iterate 2 (refine ord_not (fun _ _ _ h => h) (by rw [hops.out]; kernel_rfl) hs1 ?_)
    refine ord_evnot hs1 (by rw [hops.out]; kernel_rfl) ?_
    iterate 2 (refine ord_flo ?_ (fun _ _ _ h => h) rfl ?_ hs1 ?_; rotate_left; focus (intro W hS; obtain ⟨s0, s1, s2, s3, s4, s5, s6, s7, s8⟩ := hS; go_simp; rfl))
    iterate 4 (refine ord_not (fun _ _ _ h => h) (by rw [hops.out]; kernel_rfl) hs1 ?_)
    iterate 1 (refine ord_flo ?_ (fun _ _ _ h => h) rfl ?_ hs1 ?_; rotate_left; focus (intro W hS; obtain ⟨s0, s1, s2, s3, s4, s5, s6, s7, s8⟩ := hS; go_simp; rfl))
    try go_frame
    refine ord_ev rfl ?_
    refine wp_putR _ _ _ rfl (w.heap.size + 1) #[.int .i64 x.kind, .int .i64 x.validity, .int .i64 x.uid, .int .i64 x.flags, sv [], sv x.text] (by rfl) (by rfl) _ _ (K1.out).r (by kernel_rfl) rfl (by simp [Value.oneCell', sv]) ?_
    intro Z hZ
    have KF := Lib.hid (show Three _ w Z _ _ _ from by rw [hZ]; exact (K1.out).setR #[.int .i64 x.kind, .int .i64 x.validity, .int .i64 x.uid, .int .i64 x.flags, sv [], sv x.text])
    clear hZ
    refine ⟨HS.out _ _ KF.out, ?_⟩
    have hsf := HS.out _ _ KF.out
    iterate 1 (refine ord_flo ?_ (fun _ _ _ h => h) rfl ?_ hsf ?_; rotate_left; focus (intro W hS; obtain ⟨s0, s1, s2, s3, s4, s5, s6, s7, s8⟩ := hS; go_simp; rfl))
    refine ord_done ?_
    go_simp
    clear HS hsf hs0 hs1
    have g0 := (Lib.cell_of_heap KF.out.r 0).trans (show _ = some (.int .i64 x.kind) from rfl)
    have g1 := (Lib.cell_of_heap KF.out.r 1).trans (show _ = some (.int .i64 x.validity) from rfl)
    have g2 := (Lib.cell_of_heap KF.out.r 2).trans (show _ = some (.int .i64 x.uid) from rfl)
    have g3 := (Lib.cell_of_heap KF.out.r 3).trans (show _ = some (.int .i64 x.flags) from rfl)
    have g4 := (Lib.cell_of_heap KF.out.r 4).trans (show _ = some (sv []) from rfl)
    have g5 := (Lib.cell_of_heap KF.out.r 5).trans (show _ = some (sv x.text) from rfl)
    have HB := Lib.hid KF.out.b
    clear KF
    go_wp2
    exact bodyPost_ret (v := .tuple #[.agg #[.int .i64 x.kind, .int .i64 x.validity, .int .i64 x.uid, .int .i64 x.flags, sv [], sv x.text], .bool false]) (by simp [results, Tryz.results73, go_sem, g0, g1, g2, g3, g4, g5]) rfl ⟨fin9 (by first | rfl | (rw [e0] <;> rfl)), HB.out⟩

set_option maxRecDepth 20000 in
set_option maxHeartbeats 6400000 in
theorem used_5 (x : ComD) (w : World) (hk : x.kind = 5) :
    Calls Tryz.prog 73 #[.agg #[.int .i64 x.kind, .int .i64 x.validity, .int .i64 x.uid, .int .i64 x.flags, sv x.name, sv x.text]] w fun e w' => e = .returned (.tuple #[.agg #[.int .i64 x.kind, .int .i64 x.validity, .int .i64 x.uid, .int .i64 x.flags, sv [], sv []], .bool (uidB x && flB x.flags)]) ∧ Below w.heap.size w w' := by
  have cuid2 := fun W => uidOk_any x W
  have cflags3 := fun W => flagsOk9_any x.flags W
  have t1 : (x.kind == 1) = false := by rw [beq_eq_false_iff_ne]; omega
  have t3 : (x.kind == 3) = false := by rw [beq_eq_false_iff_ne]; omega
  have t2 : (x.kind == 2) = false := by rw [beq_eq_false_iff_ne]; omega
  have t4 : (x.kind == 4) = false := by rw [beq_eq_false_iff_ne]; omega
  have t5 : (x.kind == 5) = true := by rw [beq_iff_eq]; omega
  clear hk
  have Cuid2 := Lib.hid cuid2
  clear cuid2
  have Cflags3 := Lib.hid cflags3
  clear cflags3
  go_enter Tryz.func73, Tryz.ntmps73
  go_wp2
  refine wp_named9 ?_
  intro X hX
  have H0 := Lib.hid (Three.of hX)
  clear hX
  have HS := Lib.hid (fun (W : World) (R O : Array Value) (H : Three 26 w W #[.int .i64 x.kind, .int .i64 x.validity, .int .i64 x.uid, .int .i64 x.flags, sv x.name, sv x.text] R O) => (⟨(Lib.cell_of_heap H.a 2).trans rfl, (Lib.cell_of_heap H.a 3).trans rfl⟩ : W.cell? ⟨w.heap.size, 2, none⟩ = some (.int .i64 x.uid) ∧ W.cell? ⟨w.heap.size, 3, none⟩ = some (.int .i64 x.flags)))
  have hs0 := HS.out X.drew _ _ H0.out.drew
  refine ord_start [(0, true), (1, true), (2, true), (3, true), (4, true), (5, false), (6, true), (7, false)] (fun W => W.cell? ⟨w.heap.size, 2, none⟩ = some (.int .i64 x.uid) ∧ W.cell? ⟨w.heap.size, 3, none⟩ = some (.int .i64 x.flags)) (by kernel_rfl) (by kernel_rfl) rfl (by kernel_rfl) ?_
  intro ops' hops
  clear hops
  simp only [List.map_cons, List.map_nil, pickOp_zero, pickOp_succ]
  iterate 5 (refine ord_flo ?_ (fun _ _ _ h => h) rfl ?_ hs0 ?_; rotate_left; focus (intro W hS; obtain ⟨s0, s1⟩ := hS; go_simp; rfl))
  go_frame
  refine ord_ev rfl ?_
  refine wp_put1 _ _ _ rfl (w.heap.size + 1 + 1) 2 (.int .i64 x.uid) (by rfl) (by rfl) _ _ (H0.out.drew).o (by simp) (by kernel_rfl) rfl rfl ?_
  intro X1 hX1
  have H1 := Lib.hid (show Three _ w X1 _ _ _ from by rw [hX1]; exact (H0.out.drew).setO 2 (.int .i64 x.uid))
  clear hX1
  refine ⟨HS.out _ _ _ H1.out, ?_⟩
  have hs1 := HS.out _ _ _ H1.out
  iterate 1 (refine ord_flo ?_ (fun _ _ _ h => h) rfl ?_ hs1 ?_; rotate_left; focus (intro W hS; obtain ⟨s0, s1⟩ := hS; go_simp; rfl))
  go_frame
  refine ord_ev rfl ?_
  refine wp_put1 _ _ _ rfl (w.heap.size + 1 + 1) 3 (.int .i64 x.flags) (by rfl) (by rfl) _ _ (H1.out).o (by simp) (by kernel_rfl) rfl rfl ?_
  intro X2 hX2
  have H2 := Lib.hid (show Three _ w X2 _ _ _ from by rw [hX2]; exact (H1.out).setO 3 (.int .i64 x.flags))
  clear hX2
  refine ⟨HS.out _ _ _ H2.out, ?_⟩
  have hs2 := HS.out _ _ _ H2.out
  refine ord_done ?_
  go_simp
  clear HS hs0 hs1 hs2
  go_wp2
  have K0 := Lib.hid H2.out
  clear H0 H1 H2
  have HS := Lib.hid (fun (W : World) (R : Array Value) (H : Three 26 w W #[.int .i64 x.kind, .int .i64 x.validity, .int .i64 x.uid, .int .i64 x.flags, sv x.name, sv x.text] R #[.int .i64 x.kind, .int .i64 x.validity, .int .i64 x.uid, .int .i64 x.flags, sv [], sv []]) => (⟨(Lib.cell_of_heap H.a 2).trans rfl, (Lib.cell_of_heap H.a 3).trans rfl, (Lib.cell_of_heap H.o 0).trans rfl, (Lib.cell_of_heap H.o 1).trans rfl, (Lib.cell_of_heap H.o 2).trans rfl, (Lib.cell_of_heap H.o 3).trans rfl, (Lib.cell_of_heap H.o 4).trans rfl, (Lib.cell_of_heap H.o 5).trans rfl⟩ : W.cell? ⟨w.heap.size, 2, none⟩ = some (.int .i64 x.uid) ∧ W.cell? ⟨w.heap.size, 3, none⟩ = some (.int .i64 x.flags) ∧ W.cell? ⟨w.heap.size + 1 + 1, 0, none⟩ = some (.int .i64 x.kind) ∧ W.cell? ⟨w.heap.size + 1 + 1, 1, none⟩ = some (.int .i64 x.validity) ∧ W.cell? ⟨w.heap.size + 1 + 1, 2, none⟩ = some (.int .i64 x.uid) ∧ W.cell? ⟨w.heap.size + 1 + 1, 3, none⟩ = some (.int .i64 x.flags) ∧ W.cell? ⟨w.heap.size + 1 + 1, 4, none⟩ = some (sv []) ∧ W.cell? ⟨w.heap.size + 1 + 1, 5, none⟩ = some (sv [])))
  have hs0 := HS.out X2.drew _ K0.out.drew
  cases e0 : (uidB x) with
  | true =>
    cases e1 : (flB x.flags) with
    | true =>
      simp only [e0] at Cuid2
      rw [e1] at Cflags3
      refine ord_start [(0, true), (1, true), (2, true), (3, false), (4, true), (5, true), (6, true), (7, false), (8, true), (9, false), (10, true)] (fun W => W.cell? ⟨w.heap.size, 2, none⟩ = some (.int .i64 x.uid) ∧ W.cell? ⟨w.heap.size, 3, none⟩ = some (.int .i64 x.flags) ∧ W.cell? ⟨w.heap.size + 1 + 1, 0, none⟩ = some (.int .i64 x.kind) ∧ W.cell? ⟨w.heap.size + 1 + 1, 1, none⟩ = some (.int .i64 x.validity) ∧ W.cell? ⟨w.heap.size + 1 + 1, 2, none⟩ = some (.int .i64 x.uid) ∧ W.cell? ⟨w.heap.size + 1 + 1, 3, none⟩ = some (.int .i64 x.flags) ∧ W.cell? ⟨w.heap.size + 1 + 1, 4, none⟩ = some (sv []) ∧ W.cell? ⟨w.heap.size + 1 + 1, 5, none⟩ = some (sv [])) (by kernel_rfl) (by kernel_rfl) rfl (by kernel_rfl) ?_
      intro ops' hops
      simp only [List.map_cons, List.map_nil, pickOp_zero, pickOp_succ]
      iterate 3 (refine ord_flo ?_ (fun _ _ _ h => h) rfl ?_ hs0 ?_; rotate_left; focus (intro W hS; obtain ⟨s0, s1, s2, s3, s4, s5, s6, s7⟩ := hS; go_simp; rfl))
      try go_frame
      refine ord_ev rfl ?_
      go_simp
      refine (Cuid2.out _).mono ?_
      rintro e w1 ⟨rfl, rfl⟩
      have K1 := Lib.hid (K0.out.drew)
      have hs1 := HS.out _ _ K1.out
      refine ⟨hs1, ?_⟩
      iterate 1 (refine ord_flo ?_ (fun _ _ _ h => h) rfl ?_ hs1 ?_; rotate_left; focus (intro W hS; obtain ⟨s0, s1, s2, s3, s4, s5, s6, s7⟩ := hS; go_simp; rfl))
      iterate 2 (refine ord_flo ?_ (fun _ _ _ h => h) (by rw [hops.out]; kernel_rfl) ?_ hs1 ?_; rotate_left; focus (intro W hS; obtain ⟨s0, s1, s2, s3, s4, s5, s6, s7⟩ := hS; go_simp; rfl))
      try go_frame
      refine ord_ev (by rw [hops.out]; kernel_rfl) ?_
      go_simp
      refine (Cflags3.out _).mono ?_
      rintro e w2 ⟨rfl, rfl⟩
      have K2 := Lib.hid (K1.out)
      have hs2 := HS.out _ _ K2.out
      refine ⟨hs2, ?_⟩
      iterate 1 (refine ord_flo ?_ (fun _ _ _ h => h) rfl ?_ hs2 ?_; rotate_left; focus (intro W hS; obtain ⟨s0, s1, s2, s3, s4, s5, s6, s7⟩ := hS; go_simp; rfl))
      try go_frame
      refine ord_ev rfl ?_
      refine wp_putR _ _ _ rfl (w.heap.size + 1) #[.int .i64 x.kind, .int .i64 x.validity, .int .i64 x.uid, .int .i64 x.flags, sv [], sv []] (by rfl) (by rfl) _ _ (K2.out).r (by kernel_rfl) rfl (by simp [Value.oneCell', sv]) ?_
      intro Z hZ
      have KF := Lib.hid (show Three _ w Z _ _ _ from by rw [hZ]; exact (K2.out).setR #[.int .i64 x.kind, .int .i64 x.validity, .int .i64 x.uid, .int .i64 x.flags, sv [], sv []])
      clear hZ
      refine ⟨HS.out _ _ KF.out, ?_⟩
      have hsf := HS.out _ _ KF.out
      iterate 1 (refine ord_flo ?_ (fun _ _ _ h => h) rfl ?_ hsf ?_; rotate_left; focus (intro W hS; obtain ⟨s0, s1, s2, s3, s4, s5, s6, s7⟩ := hS; go_simp; rfl))
      refine ord_done ?_
      go_simp
      clear HS hsf hs0 hs1 hs2
      have g0 := (Lib.cell_of_heap KF.out.r 0).trans (show _ = some (.int .i64 x.kind) from rfl)
      have g1 := (Lib.cell_of_heap KF.out.r 1).trans (show _ = some (.int .i64 x.validity) from rfl)
      have g2 := (Lib.cell_of_heap KF.out.r 2).trans (show _ = some (.int .i64 x.uid) from rfl)
      have g3 := (Lib.cell_of_heap KF.out.r 3).trans (show _ = some (.int .i64 x.flags) from rfl)
      have g4 := (Lib.cell_of_heap KF.out.r 4).trans (show _ = some (sv []) from rfl)
      have g5 := (Lib.cell_of_heap KF.out.r 5).trans (show _ = some (sv []) from rfl)
      have HB := Lib.hid KF.out.b
      clear KF
      go_wp2
      exact bodyPost_ret (v := .tuple #[.agg #[.int .i64 x.kind, .int .i64 x.validity, .int .i64 x.uid, .int .i64 x.flags, sv [], sv []], .bool true]) (by simp [results, Tryz.results73, go_sem, g0, g1, g2, g3, g4, g5]) rfl ⟨fin9 (by first | rfl | (rw [e0] <;> rfl) | (rw [e0, e1] <;> rfl)), HB.out⟩
    | false =>
      simp only [e0] at Cuid2
      rw [e1] at Cflags3
      refine ord_start [(0, true), (1, true), (2, true), (3, false), (4, true), (5, true), (6, true), (7, false), (8, true), (9, false), (10, true)] (fun W => W.cell? ⟨w.heap.size, 2, none⟩ = some (.int .i64 x.uid) ∧ W.cell? ⟨w.heap.size, 3, none⟩ = some (.int .i64 x.flags) ∧ W.cell? ⟨w.heap.size + 1 + 1, 0, none⟩ = some (.int .i64 x.kind) ∧ W.cell? ⟨w.heap.size + 1 + 1, 1, none⟩ = some (.int .i64 x.validity) ∧ W.cell? ⟨w.heap.size + 1 + 1, 2, none⟩ = some (.int .i64 x.uid) ∧ W.cell? ⟨w.heap.size + 1 + 1, 3, none⟩ = some (.int .i64 x.flags) ∧ W.cell? ⟨w.heap.size + 1 + 1, 4, none⟩ = some (sv []) ∧ W.cell? ⟨w.heap.size + 1 + 1, 5, none⟩ = some (sv [])) (by kernel_rfl) (by kernel_rfl) rfl (by kernel_rfl) ?_
      intro ops' hops
      simp only [List.map_cons, List.map_nil, pickOp_zero, pickOp_succ]
      iterate 3 (refine ord_flo ?_ (fun _ _ _ h => h) rfl ?_ hs0 ?_; rotate_left; focus (intro W hS; obtain ⟨s0, s1, s2, s3, s4, s5, s6, s7⟩ := hS; go_simp; rfl))
      try go_frame
      refine ord_ev rfl ?_
      go_simp
      refine (Cuid2.out _).mono ?_
      rintro e w1 ⟨rfl, rfl⟩
      have K1 := Lib.hid (K0.out.drew)
      have hs1 := HS.out _ _ K1.out
      refine ⟨hs1, ?_⟩
      iterate 1 (refine ord_flo ?_ (fun _ _ _ h => h) rfl ?_ hs1 ?_; rotate_left; focus (intro W hS; obtain ⟨s0, s1, s2, s3, s4, s5, s6, s7⟩ := hS; go_simp; rfl))
      iterate 2 (refine ord_flo ?_ (fun _ _ _ h => h) (by rw [hops.out]; kernel_rfl) ?_ hs1 ?_; rotate_left; focus (intro W hS; obtain ⟨s0, s1, s2, s3, s4, s5, s6, s7⟩ := hS; go_simp; rfl))
      try go_frame
      refine ord_ev (by rw [hops.out]; kernel_rfl) ?_
      go_simp
      refine (Cflags3.out _).mono ?_
      rintro e w2 ⟨rfl, rfl⟩
      have K2 := Lib.hid (K1.out)
      have hs2 := HS.out _ _ K2.out
      refine ⟨hs2, ?_⟩
      iterate 1 (refine ord_flo ?_ (fun _ _ _ h => h) rfl ?_ hs2 ?_; rotate_left; focus (intro W hS; obtain ⟨s0, s1, s2, s3, s4, s5, s6, s7⟩ := hS; go_simp; rfl))
      try go_frame
      refine ord_ev rfl ?_
      refine wp_putR _ _ _ rfl (w.heap.size + 1) #[.int .i64 x.kind, .int .i64 x.validity, .int .i64 x.uid, .int .i64 x.flags, sv [], sv []] (by rfl) (by rfl) _ _ (K2.out).r (by kernel_rfl) rfl (by simp [Value.oneCell', sv]) ?_
      intro Z hZ
      have KF := Lib.hid (show Three _ w Z _ _ _ from by rw [hZ]; exact (K2.out).setR #[.int .i64 x.kind, .int .i64 x.validity, .int .i64 x.uid, .int .i64 x.flags, sv [], sv []])
      clear hZ
      refine ⟨HS.out _ _ KF.out, ?_⟩
      have hsf := HS.out _ _ KF.out
      iterate 1 (refine ord_flo ?_ (fun _ _ _ h => h) rfl ?_ hsf ?_; rotate_left; focus (intro W hS; obtain ⟨s0, s1, s2, s3, s4, s5, s6, s7⟩ := hS; go_simp; rfl))
      refine ord_done ?_
      go_simp
      clear HS hsf hs0 hs1 hs2
      have g0 := (Lib.cell_of_heap KF.out.r 0).trans (show _ = some (.int .i64 x.kind) from rfl)
      have g1 := (Lib.cell_of_heap KF.out.r 1).trans (show _ = some (.int .i64 x.validity) from rfl)
      have g2 := (Lib.cell_of_heap KF.out.r 2).trans (show _ = some (.int .i64 x.uid) from rfl)
      have g3 := (Lib.cell_of_heap KF.out.r 3).trans (show _ = some (.int .i64 x.flags) from rfl)
      have g4 := (Lib.cell_of_heap KF.out.r 4).trans (show _ = some (sv []) from rfl)
      have g5 := (Lib.cell_of_heap KF.out.r 5).trans (show _ = some (sv []) from rfl)
      have HB := Lib.hid KF.out.b
      clear KF
      go_wp2
      exact bodyPost_ret (v := .tuple #[.agg #[.int .i64 x.kind, .int .i64 x.validity, .int .i64 x.uid, .int .i64 x.flags, sv [], sv []], .bool false]) (by simp [results, Tryz.results73, go_sem, g0, g1, g2, g3, g4, g5]) rfl ⟨fin9 (by first | rfl | (rw [e0] <;> rfl) | (rw [e0, e1] <;> rfl)), HB.out⟩
  | false =>
    simp only [e0] at Cuid2
    refine ord_start [(0, true), (1, true), (2, true), (3, false), (4, true), (5, true), (6, true), (7, false), (8, true), (9, false), (10, true)] (fun W => W.cell? ⟨w.heap.size, 2, none⟩ = some (.int .i64 x.uid) ∧ W.cell? ⟨w.heap.size, 3, none⟩ = some (.int .i64 x.flags) ∧ W.cell? ⟨w.heap.size + 1 + 1, 0, none⟩ = some (.int .i64 x.kind) ∧ W.cell? ⟨w.heap.size + 1 + 1, 1, none⟩ = some (.int .i64 x.validity) ∧ W.cell? ⟨w.heap.size + 1 + 1, 2, none⟩ = some (.int .i64 x.uid) ∧ W.cell? ⟨w.heap.size + 1 + 1, 3, none⟩ = some (.int .i64 x.flags) ∧ W.cell? ⟨w.heap.size + 1 + 1, 4, none⟩ = some (sv []) ∧ W.cell? ⟨w.heap.size + 1 + 1, 5, none⟩ = some (sv [])) (by kernel_rfl) (by kernel_rfl) rfl (by kernel_rfl) ?_
    intro ops' hops
    simp only [List.map_cons, List.map_nil, pickOp_zero, pickOp_succ]
    iterate 3 (refine ord_flo ?_ (fun _ _ _ h => h) rfl ?_ hs0 ?_; rotate_left; focus (intro W hS; obtain ⟨s0, s1, s2, s3, s4, s5, s6, s7⟩ := hS; go_simp; rfl))
    try go_frame
    refine ord_ev rfl ?_
    go_simp
    refine (Cuid2.out _).mono ?_
    rintro e w1 ⟨rfl, rfl⟩
    have K1 := Lib.hid (K0.out.drew)
    have hs1 := HS.out _ _ K1.out
    refine ⟨hs1, ?_⟩
    iterate 1 (refine ord_flo ?_ (fun _ _ _ h => h) rfl ?_ hs1 ?_; rotate_left; focus (intro W hS; obtain ⟨s0, s1, s2, s3, s4, s5, s6, s7⟩ := hS; go_simp; rfl))
    iterate 2 (refine ord_not (fun _ _ _ h => h) (by rw [hops.out]; kernel_rfl) hs1 ?_)
    refine ord_evnot hs1 (by rw [hops.out]; kernel_rfl) ?_
    iterate 1 (refine ord_flo ?_ (fun _ _ _ h => h) rfl ?_ hs1 ?_; rotate_left; focus (intro W hS; obtain ⟨s0, s1, s2, s3, s4, s5, s6, s7⟩ := hS; go_simp; rfl))
    try go_frame
    refine ord_ev rfl ?_
    refine wp_putR _ _ _ rfl (w.heap.size + 1) #[.int .i64 x.kind, .int .i64 x.validity, .int .i64 x.uid, .int .i64 x.flags, sv [], sv []] (by rfl) (by rfl) _ _ (K1.out).r (by kernel_rfl) rfl (by simp [Value.oneCell', sv]) ?_
    intro Z hZ
    have KF := Lib.hid (show Three _ w Z _ _ _ from by rw [hZ]; exact (K1.out).setR #[.int .i64 x.kind, .int .i64 x.validity, .int .i64 x.uid, .int .i64 x.flags, sv [], sv []])
    clear hZ
    refine ⟨HS.out _ _ KF.out, ?_⟩
    have hsf := HS.out _ _ KF.out
    iterate 1 (refine ord_flo ?_ (fun _ _ _ h => h) rfl ?_ hsf ?_; rotate_left; focus (intro W hS; obtain ⟨s0, s1, s2, s3, s4, s5, s6, s7⟩ := hS; go_simp; rfl))
    refine ord_done ?_
    go_simp
    clear HS hsf hs0 hs1
    have g0 := (Lib.cell_of_heap KF.out.r 0).trans (show _ = some (.int .i64 x.kind) from rfl)
    have g1 := (Lib.cell_of_heap KF.out.r 1).trans (show _ = some (.int .i64 x.validity) from rfl)
    have g2 := (Lib.cell_of_heap KF.out.r 2).trans (show _ = some (.int .i64 x.uid) from rfl)
    have g3 := (Lib.cell_of_heap KF.out.r 3).trans (show _ = some (.int .i64 x.flags) from rfl)
    have g4 := (Lib.cell_of_heap KF.out.r 4).trans (show _ = some (sv []) from rfl)
    have g5 := (Lib.cell_of_heap KF.out.r 5).trans (show _ = some (sv []) from rfl)
    have HB := Lib.hid KF.out.b
    clear KF
    go_wp2
    exact bodyPost_ret (v := .tuple #[.agg #[.int .i64 x.kind, .int .i64 x.validity, .int .i64 x.uid, .int .i64 x.flags, sv [], sv []], .bool false]) (by simp [results, Tryz.results73, go_sem, g0, g1, g2, g3, g4, g5]) rfl ⟨fin9 (by first | rfl | (rw [e0] <;> rfl)), HB.out⟩

set_option maxRecDepth 20000 in
set_option maxHeartbeats 6400000 in
theorem used_6 (x : ComD) (w : World) (hk : x.kind = 6) :
    Calls Tryz.prog 73 #[.agg #[.int .i64 x.kind, .int .i64 x.validity, .int .i64 x.uid, .int .i64 x.flags, sv x.name, sv x.text]] w fun e w' => e = .returned (.tuple #[.agg #[.int .i64 x.kind, .int .i64 x.validity, .int .i64 x.uid, .int .i64 0, sv [], sv []], .bool (uidB x)]) ∧ Below w.heap.size w w' := by
  have cuid2 := fun W => uidOk_any x W
  have t1 : (x.kind == 1) = false := by rw [beq_eq_false_iff_ne]; omega
  have t3 : (x.kind == 3) = false := by rw [beq_eq_false_iff_ne]; omega
  have t2 : (x.kind == 2) = false := by rw [beq_eq_false_iff_ne]; omega
  have t4 : (x.kind == 4) = false := by rw [beq_eq_false_iff_ne]; omega
  have t5 : (x.kind == 5) = false := by rw [beq_eq_false_iff_ne]; omega
  have t6 : (x.kind == 6) = true := by rw [beq_iff_eq]; omega
  clear hk
  have Cuid2 := Lib.hid cuid2
  clear cuid2
  go_enter Tryz.func73, Tryz.ntmps73
  go_wp2
  refine wp_named9 ?_
  intro X hX
  have H0 := Lib.hid (Three.of hX)
  clear hX
  have K0 := Lib.hid H0.out
  clear H0
  have HS := Lib.hid (fun (W : World) (R : Array Value) (H : Three 26 w W #[.int .i64 x.kind, .int .i64 x.validity, .int .i64 x.uid, .int .i64 x.flags, sv x.name, sv x.text] R #[.int .i64 x.kind, .int .i64 x.validity, .int .i64 x.uid, .int .i64 0, sv [], sv []]) => (⟨(Lib.cell_of_heap H.a 2).trans rfl, (Lib.cell_of_heap H.o 0).trans rfl, (Lib.cell_of_heap H.o 1).trans rfl, (Lib.cell_of_heap H.o 2).trans rfl, (Lib.cell_of_heap H.o 3).trans rfl, (Lib.cell_of_heap H.o 4).trans rfl, (Lib.cell_of_heap H.o 5).trans rfl⟩ : W.cell? ⟨w.heap.size, 2, none⟩ = some (.int .i64 x.uid) ∧ W.cell? ⟨w.heap.size + 1 + 1, 0, none⟩ = some (.int .i64 x.kind) ∧ W.cell? ⟨w.heap.size + 1 + 1, 1, none⟩ = some (.int .i64 x.validity) ∧ W.cell? ⟨w.heap.size + 1 + 1, 2, none⟩ = some (.int .i64 x.uid) ∧ W.cell? ⟨w.heap.size + 1 + 1, 3, none⟩ = some (.int .i64 0) ∧ W.cell? ⟨w.heap.size + 1 + 1, 4, none⟩ = some (sv []) ∧ W.cell? ⟨w.heap.size + 1 + 1, 5, none⟩ = some (sv [])))
  have hs0 := HS.out X.drew _ K0.out.drew
  cases e0 : (uidB x) with
  | true =>
    simp only [e0] at Cuid2
    refine ord_start [(0, true), (1, true), (2, true), (3, false), (4, false), (5, true)] (fun W => W.cell? ⟨w.heap.size, 2, none⟩ = some (.int .i64 x.uid) ∧ W.cell? ⟨w.heap.size + 1 + 1, 0, none⟩ = some (.int .i64 x.kind) ∧ W.cell? ⟨w.heap.size + 1 + 1, 1, none⟩ = some (.int .i64 x.validity) ∧ W.cell? ⟨w.heap.size + 1 + 1, 2, none⟩ = some (.int .i64 x.uid) ∧ W.cell? ⟨w.heap.size + 1 + 1, 3, none⟩ = some (.int .i64 0) ∧ W.cell? ⟨w.heap.size + 1 + 1, 4, none⟩ = some (sv []) ∧ W.cell? ⟨w.heap.size + 1 + 1, 5, none⟩ = some (sv [])) (by kernel_rfl) (by kernel_rfl) rfl (by kernel_rfl) ?_
    intro ops' hops
    simp only [List.map_cons, List.map_nil, pickOp_zero, pickOp_succ]
    iterate 3 (refine ord_flo ?_ (fun _ _ _ h => h) rfl ?_ hs0 ?_; rotate_left; focus (intro W hS; obtain ⟨s0, s1, s2, s3, s4, s5, s6⟩ := hS; go_simp; rfl))
    try go_frame
    refine ord_ev rfl ?_
    go_simp
    refine (Cuid2.out _).mono ?_
    rintro e w1 ⟨rfl, rfl⟩
    have K1 := Lib.hid (K0.out.drew)
    have hs1 := HS.out _ _ K1.out
    refine ⟨hs1, ?_⟩
    try go_frame
    refine ord_ev rfl ?_
    refine wp_putR _ _ _ rfl (w.heap.size + 1) #[.int .i64 x.kind, .int .i64 x.validity, .int .i64 x.uid, .int .i64 0, sv [], sv []] (by rfl) (by rfl) _ _ (K1.out).r (by kernel_rfl) rfl (by simp [Value.oneCell', sv]) ?_
    intro Z hZ
    have KF := Lib.hid (show Three _ w Z _ _ _ from by rw [hZ]; exact (K1.out).setR #[.int .i64 x.kind, .int .i64 x.validity, .int .i64 x.uid, .int .i64 0, sv [], sv []])
    clear hZ
    refine ⟨HS.out _ _ KF.out, ?_⟩
    have hsf := HS.out _ _ KF.out
    iterate 1 (refine ord_flo ?_ (fun _ _ _ h => h) rfl ?_ hsf ?_; rotate_left; focus (intro W hS; obtain ⟨s0, s1, s2, s3, s4, s5, s6⟩ := hS; go_simp; rfl))
    refine ord_done ?_
    go_simp
    clear HS hsf hs0 hs1
    have g0 := (Lib.cell_of_heap KF.out.r 0).trans (show _ = some (.int .i64 x.kind) from rfl)
    have g1 := (Lib.cell_of_heap KF.out.r 1).trans (show _ = some (.int .i64 x.validity) from rfl)
    have g2 := (Lib.cell_of_heap KF.out.r 2).trans (show _ = some (.int .i64 x.uid) from rfl)
    have g3 := (Lib.cell_of_heap KF.out.r 3).trans (show _ = some (.int .i64 0) from rfl)
    have g4 := (Lib.cell_of_heap KF.out.r 4).trans (show _ = some (sv []) from rfl)
    have g5 := (Lib.cell_of_heap KF.out.r 5).trans (show _ = some (sv []) from rfl)
    have HB := Lib.hid KF.out.b
    clear KF
    go_wp2
    exact bodyPost_ret (v := .tuple #[.agg #[.int .i64 x.kind, .int .i64 x.validity, .int .i64 x.uid, .int .i64 0, sv [], sv []], .bool true]) (by simp [results, Tryz.results73, go_sem, g0, g1, g2, g3, g4, g5]) rfl ⟨fin9 (by first | rfl | (rw [e0] <;> rfl)), HB.out⟩
  | false =>
    simp only [e0] at Cuid2
    refine ord_start [(0, true), (1, true), (2, true), (3, false), (4, false), (5, true)] (fun W => W.cell? ⟨w.heap.size, 2, none⟩ = some (.int .i64 x.uid) ∧ W.cell? ⟨w.heap.size + 1 + 1, 0, none⟩ = some (.int .i64 x.kind) ∧ W.cell? ⟨w.heap.size + 1 + 1, 1, none⟩ = some (.int .i64 x.validity) ∧ W.cell? ⟨w.heap.size + 1 + 1, 2, none⟩ = some (.int .i64 x.uid) ∧ W.cell? ⟨w.heap.size + 1 + 1, 3, none⟩ = some (.int .i64 0) ∧ W.cell? ⟨w.heap.size + 1 + 1, 4, none⟩ = some (sv []) ∧ W.cell? ⟨w.heap.size + 1 + 1, 5, none⟩ = some (sv [])) (by kernel_rfl) (by kernel_rfl) rfl (by kernel_rfl) ?_
    intro ops' hops
    simp only [List.map_cons, List.map_nil, pickOp_zero, pickOp_succ]
    iterate 3 (refine ord_flo ?_ (fun _ _ _ h => h) rfl ?_ hs0 ?_; rotate_left; focus (intro W hS; obtain ⟨s0, s1, s2, s3, s4, s5, s6⟩ := hS; go_simp; rfl))
    try go_frame
    refine ord_ev rfl ?_
    go_simp
    refine (Cuid2.out _).mono ?_
    rintro e w1 ⟨rfl, rfl⟩
    have K1 := Lib.hid (K0.out.drew)
    have hs1 := HS.out _ _ K1.out
    refine ⟨hs1, ?_⟩
    try go_frame
    refine ord_ev rfl ?_
    refine wp_putR _ _ _ rfl (w.heap.size + 1) #[.int .i64 x.kind, .int .i64 x.validity, .int .i64 x.uid, .int .i64 0, sv [], sv []] (by rfl) (by rfl) _ _ (K1.out).r (by kernel_rfl) rfl (by simp [Value.oneCell', sv]) ?_
    intro Z hZ
    have KF := Lib.hid (show Three _ w Z _ _ _ from by rw [hZ]; exact (K1.out).setR #[.int .i64 x.kind, .int .i64 x.validity, .int .i64 x.uid, .int .i64 0, sv [], sv []])
    clear hZ
    refine ⟨HS.out _ _ KF.out, ?_⟩
    have hsf := HS.out _ _ KF.out
    iterate 1 (refine ord_flo ?_ (fun _ _ _ h => h) rfl ?_ hsf ?_; rotate_left; focus (intro W hS; obtain ⟨s0, s1, s2, s3, s4, s5, s6⟩ := hS; go_simp; rfl))
    refine ord_done ?_
    go_simp
    clear HS hsf hs0 hs1
    have g0 := (Lib.cell_of_heap KF.out.r 0).trans (show _ = some (.int .i64 x.kind) from rfl)
    have g1 := (Lib.cell_of_heap KF.out.r 1).trans (show _ = some (.int .i64 x.validity) from rfl)
    have g2 := (Lib.cell_of_heap KF.out.r 2).trans (show _ = some (.int .i64 x.uid) from rfl)
    have g3 := (Lib.cell_of_heap KF.out.r 3).trans (show _ = some (.int .i64 0) from rfl)
    have g4 := (Lib.cell_of_heap KF.out.r 4).trans (show _ = some (sv []) from rfl)
    have g5 := (Lib.cell_of_heap KF.out.r 5).trans (show _ = some (sv []) from rfl)
    have HB := Lib.hid KF.out.b
    clear KF
    go_wp2
    exact bodyPost_ret (v := .tuple #[.agg #[.int .i64 x.kind, .int .i64 x.validity, .int .i64 x.uid, .int .i64 0, sv [], sv []], .bool false]) (by simp [results, Tryz.results73, go_sem, g0, g1, g2, g3, g4, g5]) rfl ⟨fin9 (by first | rfl | (rw [e0] <;> rfl)), HB.out⟩

set_option maxRecDepth 20000 in
set_option maxHeartbeats 6400000 in
theorem used_no (x : ComD) (w : World) (hk : ¬ (1 ≤ x.kind ∧ x.kind ≤ 6)) :
    Calls Tryz.prog 73 #[.agg #[.int .i64 x.kind, .int .i64 x.validity, .int .i64 x.uid, .int .i64 x.flags, sv x.name, sv x.text]] w fun e w' => e = .returned (.tuple #[.agg #[.int .i64 0, .int .i64 0, .int .i64 0, .int .i64 0, sv [], sv []], .bool false]) ∧ Below w.heap.size w w' := by
  have t1 : (x.kind == 1) = false := by rw [beq_eq_false_iff_ne]; omega
  have t3 : (x.kind == 3) = false := by rw [beq_eq_false_iff_ne]; omega
  have t2 : (x.kind == 2) = false := by rw [beq_eq_false_iff_ne]; omega
  have t4 : (x.kind == 4) = false := by rw [beq_eq_false_iff_ne]; omega
  have t5 : (x.kind == 5) = false := by rw [beq_eq_false_iff_ne]; omega
  have t6 : (x.kind == 6) = false := by rw [beq_eq_false_iff_ne]; omega
  clear hk
  go_enter Tryz.func73, Tryz.ntmps73
  go_wp2
  go_returns
  exact ⟨rfl, (((Below.refl _ _).alloc (Nat.le_refl _) _).alloc (by simp) _).alloc (by simp; omega) _⟩

theorem usedFields_any (x : ComD) (w : World) (hn : x.name.length ≤ 1048576) :
    Calls Tryz.prog 73 #[.agg #[.int .i64 x.kind, .int .i64 x.validity, .int .i64 x.uid, .int .i64 x.flags, sv x.name, sv x.text]] w fun e w' => e = .returned (.tuple #[.agg #[.int .i64 (usedC x).kind, .int .i64 (usedC x).validity, .int .i64 (usedC x).uid, .int .i64 (usedC x).flags, sv (usedC x).name, sv (usedC x).text], .bool (okC x)]) ∧ Below w.heap.size w w' := by
  by_cases h1 : x.kind = 1
  · have eo : okC x = (nameB x.name) := by simp [okC, h1]
    have eu : usedC x = ⟨x.kind, x.validity, 0, 0, x.name, []⟩ := by simp [usedC, wantC, h1]
    rw [eo, eu]
    have := used_1 x w h1 hn
    exact this
  by_cases h2 : x.kind = 2
  · have eo : okC x = (true) := by simp [okC, h2]
    have eu : usedC x = ⟨x.kind, x.validity, 0, 0, [], []⟩ := by simp [usedC, wantC, h2]
    rw [eo, eu]
    have := used_2 x w h2
    exact this
  by_cases h3 : x.kind = 3
  · have eo : okC x = (nameB x.name) := by simp [okC, h3]
    have eu : usedC x = ⟨x.kind, x.validity, 0, 0, x.name, []⟩ := by simp [usedC, wantC, h3]
    rw [eo, eu]
    have := used_3 x w h3 hn
    exact this
  by_cases h4 : x.kind = 4
  · have eo : okC x = (uidB x && flB x.flags && decide ((x.text.length : Int) ≤ 40)) := by simp [okC, h4]
    have eu : usedC x = ⟨x.kind, x.validity, x.uid, x.flags, [], x.text⟩ := by simp [usedC, wantC, h4]
    rw [eo, eu]
    have := used_4 x w h4
    exact this
  by_cases h5 : x.kind = 5
  · have eo : okC x = (uidB x && flB x.flags) := by simp [okC, h5]
    have eu : usedC x = ⟨x.kind, x.validity, x.uid, x.flags, [], []⟩ := by simp [usedC, wantC, h5]
    rw [eo, eu]
    have := used_5 x w h5
    exact this
  by_cases h6 : x.kind = 6
  · have eo : okC x = (uidB x) := by simp [okC, h6]
    have eu : usedC x = ⟨x.kind, x.validity, x.uid, 0, [], []⟩ := by simp [usedC, wantC, h6]
    rw [eo, eu]
    have := used_6 x w h6
    exact this
  have eo : okC x = false := by simp [okC, h1, h2, h3, h4, h5, h6]
  have eu : usedC x = ⟨0, 0, 0, 0, [], []⟩ := if_neg (by omega)
  rw [eo, eu]
  exact used_no x w (by omega)

set_option maxRecDepth 20000 in
set_option maxHeartbeats 6400000 in
theorem implCommitOk_c {G : World → Prop} : CtrCommitOk 24 G := by
  intro x w _ hs hbd
  have hn : x.name.length ≤ 1048576 := by rw [ComD.sz] at hs; omega
  have CU := usedFields_any x (w.alloc (.cells #[.int .i64 x.kind, .int .i64 x.validity, .int .i64 x.uid, .int .i64 x.flags, sv x.name, sv x.text] 26)) hn
  have CI := fun W => idOk_any x.validity W
  have hv := com_used x
  generalize usedC x = u at *
  generalize okC x = ok at *
  have HV := Lib.hid hv
  have hb1 : Below w.heap.size w (w.alloc (.cells #[.int .i64 x.kind, .int .i64 x.validity, .int .i64 x.uid, .int .i64 x.flags, sv x.name, sv x.text] 26)) := (Below.refl _ _).alloc (Nat.le_refl _) _
  have hA1 := heap_alloc_new w (.cells #[.int .i64 x.kind, .int .i64 x.validity, .int .i64 x.uid, .int .i64 x.flags, sv x.name, sv x.text] 26)
  have HA := Lib.hid (And.intro hb1 hA1)
  clear hs hbd hn hv hb1 hA1
  cases ok with
  | false =>
    have HF := Lib.hid (show commitB x = false by rw [HV.out]; rfl)
    have CUH := Lib.hid CU
    clear CU CI HV
    go_enter Tryz.func24, Tryz.ntmps24
    go_wp2_with fail
    refine CUH.out.mono ?_
    rintro e w1 ⟨rfl, b1⟩
    obtain ⟨hb1, hA1⟩ := HA.out
    have hA := (b1.block w.heap.size (by simp)).trans hA1
    have hbw := hb1.trans (b1.mono (by simp))
    have hbX : Below w.heap.size w (w1.alloc (.cells #[.int .i64 u.kind, .int .i64 u.validity, .int .i64 u.uid, .int .i64 u.flags, sv u.name, sv u.text] 26)) := hbw.alloc hbw.size _
    have hAX : (w1.alloc (.cells #[.int .i64 u.kind, .int .i64 u.validity, .int .i64 u.uid, .int .i64 u.flags, sv u.name, sv u.text] 26)).heap[w.heap.size]? = _ := (Below.heap_alloc _ _ _ (Array.getElem?_eq_some_iff.1 hA).1).trans hA
    have hUX := heap_alloc_new w1 (.cells #[.int .i64 u.kind, .int .i64 u.validity, .int .i64 u.uid, .int .i64 u.flags, sv u.name, sv u.text] 26)
    have HX := Lib.hid hbX
    clear hb1 hA1 b1 hA hbw hbX hAX hUX HA CUH
    go_wp2
    go_ret
    exact ⟨by rw [HF.out]; rfl, HX.out⟩
  | true =>
  cases hv : num9 x.validity with
  | false =>
    have HF := Lib.hid (show commitB x = false by rw [HV.out, hv]; rfl)
    simp only [hv] at CI
    have CUH := Lib.hid CU
    have CIH := Lib.hid CI
    clear CU CI HV hv
    go_enter Tryz.func24, Tryz.ntmps24
    go_wp2_with fail
    refine CUH.out.mono ?_
    rintro e w1 ⟨rfl, b1⟩
    obtain ⟨hb1, hA1⟩ := HA.out
    have hA := (b1.block w.heap.size (by simp)).trans hA1
    have hbw := hb1.trans (b1.mono (by simp))
    have hbX : Below w.heap.size w (w1.alloc (.cells #[.int .i64 u.kind, .int .i64 u.validity, .int .i64 u.uid, .int .i64 u.flags, sv u.name, sv u.text] 26)) := hbw.alloc hbw.size _
    have hAX : (w1.alloc (.cells #[.int .i64 u.kind, .int .i64 u.validity, .int .i64 u.uid, .int .i64 u.flags, sv u.name, sv u.text] 26)).heap[w.heap.size]? = _ := (Below.heap_alloc _ _ _ (Array.getElem?_eq_some_iff.1 hA).1).trans hA
    have hUX := heap_alloc_new w1 (.cells #[.int .i64 u.kind, .int .i64 u.validity, .int .i64 u.uid, .int .i64 u.flags, sv u.name, sv u.text] 26)
    have a1 := (Lib.cell_of_heap hAX 1).trans (show _ = some (.int .i64 x.validity) from rfl)
    have HW := Lib.hid (And.intro hbX (And.intro hAX hUX))
    clear hb1 hA1 b1 hA hbw hbX hAX hUX HA
    clear CUH
    go_wp2_with fail
    refine (CIH.out _).mono ?_
    rintro e w2 ⟨rfl, rfl⟩
    go_wp2
    go_ret
    exact ⟨by rw [HF.out]; rfl, HW.out.1⟩
  | true =>
  have HE := Lib.hid (show commitB x = decide (x = u) by rw [HV.out, hv]; rfl)
  simp only [hv] at CI
  have CUH := Lib.hid CU
  have CIH := Lib.hid CI
  clear CU CI HV hv
  go_enter Tryz.func24, Tryz.ntmps24
  go_wp2_with fail
  refine CUH.out.mono ?_
  rintro e w1 ⟨rfl, b1⟩
  obtain ⟨hb1, hA1⟩ := HA.out
  have hA := (b1.block w.heap.size (by simp)).trans hA1
  have hbw := hb1.trans (b1.mono (by simp))
  have hbX : Below w.heap.size w (w1.alloc (.cells #[.int .i64 u.kind, .int .i64 u.validity, .int .i64 u.uid, .int .i64 u.flags, sv u.name, sv u.text] 26)) := hbw.alloc hbw.size _
  have hAX : (w1.alloc (.cells #[.int .i64 u.kind, .int .i64 u.validity, .int .i64 u.uid, .int .i64 u.flags, sv u.name, sv u.text] 26)).heap[w.heap.size]? = _ := (Below.heap_alloc _ _ _ (Array.getElem?_eq_some_iff.1 hA).1).trans hA
  have hUX := heap_alloc_new w1 (.cells #[.int .i64 u.kind, .int .i64 u.validity, .int .i64 u.uid, .int .i64 u.flags, sv u.name, sv u.text] 26)
  have a1 := (Lib.cell_of_heap hAX 1).trans (show _ = some (.int .i64 x.validity) from rfl)
  have HW := Lib.hid (And.intro hbX (And.intro hAX hUX))
  clear hb1 hA1 b1 hA hbw hbX hAX hUX HA
  clear CUH
  go_wp2_with fail
  refine (CIH.out _).mono ?_
  rintro e w2 ⟨rfl, rfl⟩
  clear CIH a1
  obtain ⟨hbX, hA, hC⟩ := HW.out
  generalize (w1.alloc (.cells #[.int .i64 u.kind, .int .i64 u.validity, .int .i64 u.uid, .int .i64 u.flags, sv u.name, sv u.text] 26)) = X at *
  have a0 := (Lib.cell_of_heap hA 0).trans (show _ = some (.int .i64 x.kind) from rfl)
  have a1 := (Lib.cell_of_heap hA 1).trans (show _ = some (.int .i64 x.validity) from rfl)
  have a2 := (Lib.cell_of_heap hA 2).trans (show _ = some (.int .i64 x.uid) from rfl)
  have a3 := (Lib.cell_of_heap hA 3).trans (show _ = some (.int .i64 x.flags) from rfl)
  have a4 := (Lib.cell_of_heap hA 4).trans (show _ = some (sv x.name) from rfl)
  have a5 := (Lib.cell_of_heap hA 5).trans (show _ = some (sv x.text) from rfl)
  have c0 := (Lib.cell_of_heap hC 0).trans (show _ = some (.int .i64 u.kind) from rfl)
  have c1 := (Lib.cell_of_heap hC 1).trans (show _ = some (.int .i64 u.validity) from rfl)
  have c2 := (Lib.cell_of_heap hC 2).trans (show _ = some (.int .i64 u.uid) from rfl)
  have c3 := (Lib.cell_of_heap hC 3).trans (show _ = some (.int .i64 u.flags) from rfl)
  have c4 := (Lib.cell_of_heap hC 4).trans (show _ = some (sv u.name) from rfl)
  have c5 := (Lib.cell_of_heap hC 5).trans (show _ = some (sv u.text) from rfl)
  clear hA hC HW
  cases q0 : (x.kind == u.kind) with
  | false =>
    have HF := Lib.hid (show commitB x = false by rw [HE.out]; exact decide_eq_false (fun e => by rw [← e] at q0; simp at q0))
    clear HE
    go_wp2
    go_ret
    exact ⟨by rw [HF.out]; rfl, hbX⟩
  | true =>
  cases q1 : (x.validity == u.validity) with
  | false =>
    have HF := Lib.hid (show commitB x = false by rw [HE.out]; exact decide_eq_false (fun e => by rw [← e] at q1; simp at q1))
    clear HE
    go_wp2
    go_ret
    exact ⟨by rw [HF.out]; rfl, hbX⟩
  | true =>
  cases q2 : (x.uid == u.uid) with
  | false =>
    have HF := Lib.hid (show commitB x = false by rw [HE.out]; exact decide_eq_false (fun e => by rw [← e] at q2; simp at q2))
    clear HE
    go_wp2
    go_ret
    exact ⟨by rw [HF.out]; rfl, hbX⟩
  | true =>
  cases q3 : (x.flags == u.flags) with
  | false =>
    have HF := Lib.hid (show commitB x = false by rw [HE.out]; exact decide_eq_false (fun e => by rw [← e] at q3; simp at q3))
    clear HE
    go_wp2
    go_ret
    exact ⟨by rw [HF.out]; rfl, hbX⟩
  | true =>
  cases q4 : (x.name == u.name) with
  | false =>
    have HF := Lib.hid (show commitB x = false by rw [HE.out]; exact decide_eq_false (fun e => by rw [← e] at q4; simp at q4))
    clear HE
    go_wp2
    go_ret
    exact ⟨by rw [HF.out]; rfl, hbX⟩
  | true =>
  cases q5 : (x.text == u.text) with
  | false =>
    have HF := Lib.hid (show commitB x = false by rw [HE.out]; exact decide_eq_false (fun e => by rw [← e] at q5; simp at q5))
    clear HE
    go_wp2
    go_ret
    exact ⟨by rw [HF.out]; rfl, hbX⟩
  | true =>
  have HF := Lib.hid (show commitB x = true by rw [HE.out]; exact decide_eq_true (by cases x; cases u; simp only [beq_iff_eq] at q0 q1 q2 q3 q4 q5; simp only [q0, q1, q2, q3, q4, q5]))
  clear HE
  go_wp2
  go_ret
  exact ⟨by rw [HF.out]; rfl, hbX⟩

end Go.Proofs.YtbfgdbpfecffcaaGreatDoor
