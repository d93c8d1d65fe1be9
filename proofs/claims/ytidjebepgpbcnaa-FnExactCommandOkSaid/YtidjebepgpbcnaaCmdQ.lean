/-
  Chapter 7: CommandOk, the model's and the program's.
-/
import Derived.Test.YtidjebepgpbcnaaCmdO
import Derived.Test.YtidjebepgpbcnaaCmdM
import Derived.Test.YtidjebepgpbcnaaCmdK
import Derived.Deep.DeepCutAuto
import Derived.Deep.Cut
import Derived.Deep.CutRange
import Derived.Test.YtidjebepgpbcnaaLawCommandOk
namespace Go.Proofs.Ytidjebepgpbcnaa
open Go.RowKit

/-- A block that the call laid at the heap's end. -/
structure Own1 (T : TypeId) (w X : World) (A : Array Value) : Prop where
  a : X.heap[w.heap.size]? = some (.cells A T (0, 0))
  b : Below w.heap.size w X
  z : w.heap.size + 1 ≤ X.heap.size
theorem Own1.of {T : TypeId} {w X : World} {A : Array Value} (h : X = w.alloc (.cells A T)) : Own1 T w X A := by
  subst h
  exact ⟨heap_alloc_new w _, (Below.refl _ _).alloc (Nat.le_refl _) _, by simp⟩
theorem Own1.drew {T : TypeId} {w X : World} {A : Array Value} (h : Own1 T w X A) : Own1 T w X.drew A := ⟨h.a, h.b.drew, h.z⟩
theorem Own1.call {T : TypeId} {w X X' : World} {A : Array Value} (h : Own1 T w X A) (b : Below X.heap.size X X') : Own1 T w X' A := by
  have := h.z
  exact ⟨(b.block _ (by omega)).trans h.a, h.b.trans (b.mono (by omega)), Nat.le_trans h.z b.size⟩

theorem nil_rd {W : World} {n : TypeId} {m : Nat} : LfRd W (.rows n m 0 []) (.slice none 0 0) := ⟨by simp, none, 0, rfl, .inl rfl⟩
theorem said5_rd {x : CmdD} {W : World} {r : Value} (h : LfRd W (spnsLf x.sset) r) : LfRd W (spnsLf (saidC x).sset) (said5 x r) := by
  unfold saidC said5
  cases hb : setsB x.kind
  · exact nil_rd
  · exact h
theorem said10_rd {x : CmdD} {W : World} {r : Value} (h : LfRd W (scpsLf x.filter.scopes) r) : LfRd W (scpsLf (saidC x).filter.scopes) (said10 x r) := by
  unfold saidC said10
  by_cases hk : x.kind = 6
  · rw [if_pos hk]; simp only [hk, if_true]; exact h
  · rw [if_neg hk]; simp only [hk, if_false]; exact nil_rd
theorem said_small {x : CmdD} (hs : szLs x.lf ≤ 1048576) : szLs (saidC x).lf ≤ 1048576 := by
  have h := CmdD.sz x
  have h' := CmdD.sz (saidC x)
  have e1 : (saidC x).tag = x.tag := rfl
  have e2 : (saidC x).box.length ≤ x.box.length := by unfold saidC; simp only; split <;> simp
  have e3 : (saidC x).to.length ≤ x.to.length := by unfold saidC; simp only; split <;> simp
  have e4 : szLf (spnsLf (saidC x).sset) ≤ szLf (spnsLf x.sset) := by unfold saidC; simp only; split; exact Nat.le_refl _; exact Nat.zero_le _
  have e5 : (saidC x).text.length ≤ x.text.length := by unfold saidC; simp only; split <;> simp
  have e6 : szLf (scpsLf (saidC x).filter.scopes) ≤ szLf (scpsLf x.filter.scopes) := by unfold saidC; simp only; split; exact Nat.le_refl _; exact Nat.zero_le _
  rw [e1] at h'
  omega
theorem zero64 : in64 0 := by unfold in64; omega
theorem said_bnd {x : CmdD} (hb : LsBnd x.lf) : LsBnd (saidC x).lf := by
  obtain ⟨h0, h1, h2, h3, h4, h5, h6, h7, h8, h9, h10, _⟩ := hb
  have z : LfBnd (.str []) := Nat.zero_le _
  have zr : ∀ n, LfBnd (.rows n 2 0 []) := fun _ => ⟨Nat.zero_le _, trivial⟩
  have zr3 : ∀ n, LfBnd (.rows n 3 0 []) := fun _ => ⟨Nat.zero_le _, trivial⟩
  unfold saidC
  refine ⟨h0, h1, ?_, ?_, trivial, ?_, ?_, ?_, ?_, trivial, ?_, trivial⟩
  · simp only; split; exact h2; exact z
  · simp only; split; exact h3; exact z
  · simp only; split; exact h5; exact zr _
  · simp only; split; exact h6; exact zero64
  · simp only; split; exact h7; exact zero64
  · simp only; split; exact h8; exact z
  · simp only; split; exact h10; exact zr3 _

set_option maxRecDepth 20000 in
set_option maxHeartbeats 12800000 in
theorem specCommandOk_at (x : CmdD) (a5 a10 : Value) (w : World) (ha : LfRd w (spnsLf x.sset) a5) (ha2 : LfRd w (scpsLf x.filter.scopes) a10) (hs : szLs x.lf ≤ 1048576) :
    Calls Try.prog 10 #[cmdv x a5 a10] w fun e w' => e = .returned (.bool (cmdB x)) ∧ Below w.heap.size w w' := by
  obtain ⟨z1, z2, z3, z5, z8, z9, z10⟩ := CmdD.small hs
  obtain ⟨y1, y2, y3, y5, y8, y9, y10⟩ := CmdD.small (said_small hs)
  have cE := fun W (h : Below w.heap.size w W) => specSameCommand_any (saidC x) x (said5 x a5) (said10 x a10) a5 a10 W (said5_rd (LfRd.below h _ _ ha)) (said10_rd (LfRd.below h _ _ ha2)) (LfRd.below h _ _ ha) (LfRd.below h _ _ ha2) (by omega) (by omega) (fun s hm => by have := (y10 s hm).1; omega)
  have cset5 := fun W (h : Below w.heap.size w W) => specSetOk_any a5 x.sset W (spns_rd (LfRd.below h _ _ ha)) (by omega)
  have cfilter9 := fun W (h : Below w.heap.size w W) => specFilterOk_any x.filter a10 W (LfRd.below h _ _ ha2) (by omega) (fun s hm => ⟨by have := (z10 s hm).1; omega, fun y hy => by have := (z10 s hm).2 y hy; omega⟩)
  obtain ⟨p, c, rfl, _⟩ := Spn.at ha
  obtain ⟨q, d, rfl, _⟩ := scps_at ha2
  have cT := fun W => specTagOk_any ⟨x.tag.toArray⟩ W (by unfold maxLen; show x.tag.toArray.size ≤ _; simp; omega)
  have cS := fun W => l7Said_any x p q c d W
  have cname2 := fun W => specNameOk_any ⟨x.box.toArray⟩ W (by unfold maxLen; show x.box.toArray.size ≤ _; simp; omega)
  have cname3 := fun W => specNameOk_any ⟨x.to.toArray⟩ W (by unfold maxLen; show x.to.toArray.size ≤ _; simp; omega)
  have CE := Lib.hid cE
  have Cset5 := Lib.hid cset5
  have Cfilter9 := Lib.hid cfilter9
  have CT := Lib.hid cT
  have CS := Lib.hid cS
  have Cname2 := Lib.hid cname2
  have Cname3 := Lib.hid cname3
  have CK := Lib.hid (fun W => l1In_any x.kind 1 15 W)
  have CB := Lib.hid (fun W => l7Boxed_any x.kind W)
  have CZ := Lib.hid (fun W => l7Sets_any x.kind W)
  have Cop6 := Lib.hid (fun W => l1In_any x.op 1 3 W)
  have Cflags7 := Lib.hid (fun W => specFlagsOk_any x.flags W)
  clear cE cset5 cfilter9 cT cS cname2 cname3 ha ha2 hs z1 z2 z3 z5 z8 z9 z10 y1 y2 y3 y5 y8 y9 y10
  cases eT : tagB x.tag with
  | false =>
    rw [show tagB (ByteArray.mk x.tag.toArray).data.toList = false from eT] at CT
    go_enter Try.func10, Try.ntmps10
    go_wp2
    refine wp_named ?_
    intro X hX
    have H0 := Lib.hid (Own1.of hX)
    clear hX
    have HS := Lib.hid (fun (W : World) (H : Own1 36 w W #[sv x.tag, .int .i64 x.kind, sv x.box, sv x.to, .bool x.uid, .slice p x.sset.length c, .int .i64 x.op, .int .i64 x.flags, sv x.text, .bool x.filter.on, .slice q x.filter.scopes.length d]) => (⟨(Lib.cell_of_heap H.a 0).trans rfl, (Lib.cell_of_heap H.a 1).trans rfl, (Lib.cell_of_heap H.a 2).trans rfl, (Lib.cell_of_heap H.a 3).trans rfl, (Lib.cell_of_heap H.a 4).trans rfl, (Lib.cell_of_heap H.a 5).trans rfl, (Lib.cell_of_heap H.a 6).trans rfl, (Lib.cell_of_heap H.a 7).trans rfl, (Lib.cell_of_heap H.a 8).trans rfl, (Lib.cell_of_heap H.a 9).trans rfl, (Lib.cell_of_heap H.a 10).trans rfl⟩ : W.cell? ⟨w.heap.size, 0, none⟩ = some (sv x.tag) ∧ W.cell? ⟨w.heap.size, 1, none⟩ = some (.int .i64 x.kind) ∧ W.cell? ⟨w.heap.size, 2, none⟩ = some (sv x.box) ∧ W.cell? ⟨w.heap.size, 3, none⟩ = some (sv x.to) ∧ W.cell? ⟨w.heap.size, 4, none⟩ = some (.bool x.uid) ∧ W.cell? ⟨w.heap.size, 5, none⟩ = some (.slice p x.sset.length c) ∧ W.cell? ⟨w.heap.size, 6, none⟩ = some (.int .i64 x.op) ∧ W.cell? ⟨w.heap.size, 7, none⟩ = some (.int .i64 x.flags) ∧ W.cell? ⟨w.heap.size, 8, none⟩ = some (sv x.text) ∧ W.cell? ⟨w.heap.size, 9, none⟩ = some (.bool x.filter.on) ∧ W.cell? ⟨w.heap.size, 10, none⟩ = some (.slice q x.filter.scopes.length d)))
    have hs0 := HS.out X.drew H0.out.drew
    refine ord_start [(0, true), (1, true), (2, false), (3, true), (4, true), (5, true), (6, true), (7, false), (8, true), (9, true), (10, true), (11, true), (13, true), (12, false), (14, false), (15, true), (16, true)] (fun W => W.cell? ⟨w.heap.size, 0, none⟩ = some (sv x.tag) ∧ W.cell? ⟨w.heap.size, 1, none⟩ = some (.int .i64 x.kind) ∧ W.cell? ⟨w.heap.size, 2, none⟩ = some (sv x.box) ∧ W.cell? ⟨w.heap.size, 3, none⟩ = some (sv x.to) ∧ W.cell? ⟨w.heap.size, 4, none⟩ = some (.bool x.uid) ∧ W.cell? ⟨w.heap.size, 5, none⟩ = some (.slice p x.sset.length c) ∧ W.cell? ⟨w.heap.size, 6, none⟩ = some (.int .i64 x.op) ∧ W.cell? ⟨w.heap.size, 7, none⟩ = some (.int .i64 x.flags) ∧ W.cell? ⟨w.heap.size, 8, none⟩ = some (sv x.text) ∧ W.cell? ⟨w.heap.size, 9, none⟩ = some (.bool x.filter.on) ∧ W.cell? ⟨w.heap.size, 10, none⟩ = some (.slice q x.filter.scopes.length d)) (by kernel_rfl) (by kernel_rfl) rfl (by kernel_rfl) ?_
    intro ops' hops
    simp only [List.map_cons, List.map_nil, pickOp_zero, pickOp_succ]
    iterate 2 (refine ord_flo ?_ (fun _ _ _ h => h) rfl ?_ hs0 ?_; rotate_left; focus (intro W hS; obtain ⟨s0, s1, s2, s3, s4, s5, s6, s7, s8, s9, s10⟩ := hS; go_simp; rfl))
    try go_frame
    refine ord_ev rfl ?_
    go_simp
    refine (CT.out _).mono ?_
    rintro e w1 ⟨rfl, rfl⟩
    refine ⟨hs0, ?_⟩
    iterate 2 (refine ord_flo ?_ (fun _ _ _ h => h) rfl ?_ hs0 ?_; rotate_left; focus (intro W hS; obtain ⟨s0, s1, s2, s3, s4, s5, s6, s7, s8, s9, s10⟩ := hS; go_simp; rfl))
    iterate 2 (refine ord_not (fun _ _ _ h => h) (by rw [hops.out]; kernel_rfl) hs0 ?_)
    refine ord_evnot hs0 (by rw [hops.out]; kernel_rfl) ?_
    iterate 1 (refine ord_not (fun _ _ _ h => h) (by rw [hops.out]; kernel_rfl) hs0 ?_)
    iterate 2 (refine ord_flo ?_ (fun _ _ _ h => h) rfl ?_ hs0 ?_; rotate_left; focus (intro W hS; obtain ⟨s0, s1, s2, s3, s4, s5, s6, s7, s8, s9, s10⟩ := hS; go_simp; rfl))
    iterate 2 (refine ord_not (fun _ _ _ h => h) (by rw [hops.out]; kernel_rfl) hs0 ?_)
    refine ord_evnot hs0 (by rw [hops.out]; kernel_rfl) ?_
    refine ord_evnot hs0 (by rw [hops.out]; kernel_rfl) ?_
    iterate 1 (refine ord_not (fun _ _ _ h => h) (by rw [hops.out]; kernel_rfl) hs0 ?_)
    iterate 1 (refine ord_flo ?_ (fun _ _ _ h => h) rfl ?_ hs0 ?_; rotate_left; focus (intro W hS; obtain ⟨s0, s1, s2, s3, s4, s5, s6, s7, s8, s9, s10⟩ := hS; go_simp; rfl))
    refine ord_done ?_
    go_simp
    try go_frame
    have HV := Lib.hid (show cmdB x = false from by unfold cmdB; rw [eT]; simp)
    go_wp2
    go_ret
    exact ⟨by rw [HV.out]; rfl, H0.out.drew.b⟩
  | true =>
    cases eK : (decide (1 ≤ x.kind) && decide (x.kind ≤ 15)) with
    | false =>
      rw [show tagB (ByteArray.mk x.tag.toArray).data.toList = true from eT] at CT
      rw [eK] at CK
      go_enter Try.func10, Try.ntmps10
      go_wp2
      refine wp_named ?_
      intro X hX
      have H0 := Lib.hid (Own1.of hX)
      clear hX
      have HS := Lib.hid (fun (W : World) (H : Own1 36 w W #[sv x.tag, .int .i64 x.kind, sv x.box, sv x.to, .bool x.uid, .slice p x.sset.length c, .int .i64 x.op, .int .i64 x.flags, sv x.text, .bool x.filter.on, .slice q x.filter.scopes.length d]) => (⟨(Lib.cell_of_heap H.a 0).trans rfl, (Lib.cell_of_heap H.a 1).trans rfl, (Lib.cell_of_heap H.a 2).trans rfl, (Lib.cell_of_heap H.a 3).trans rfl, (Lib.cell_of_heap H.a 4).trans rfl, (Lib.cell_of_heap H.a 5).trans rfl, (Lib.cell_of_heap H.a 6).trans rfl, (Lib.cell_of_heap H.a 7).trans rfl, (Lib.cell_of_heap H.a 8).trans rfl, (Lib.cell_of_heap H.a 9).trans rfl, (Lib.cell_of_heap H.a 10).trans rfl⟩ : W.cell? ⟨w.heap.size, 0, none⟩ = some (sv x.tag) ∧ W.cell? ⟨w.heap.size, 1, none⟩ = some (.int .i64 x.kind) ∧ W.cell? ⟨w.heap.size, 2, none⟩ = some (sv x.box) ∧ W.cell? ⟨w.heap.size, 3, none⟩ = some (sv x.to) ∧ W.cell? ⟨w.heap.size, 4, none⟩ = some (.bool x.uid) ∧ W.cell? ⟨w.heap.size, 5, none⟩ = some (.slice p x.sset.length c) ∧ W.cell? ⟨w.heap.size, 6, none⟩ = some (.int .i64 x.op) ∧ W.cell? ⟨w.heap.size, 7, none⟩ = some (.int .i64 x.flags) ∧ W.cell? ⟨w.heap.size, 8, none⟩ = some (sv x.text) ∧ W.cell? ⟨w.heap.size, 9, none⟩ = some (.bool x.filter.on) ∧ W.cell? ⟨w.heap.size, 10, none⟩ = some (.slice q x.filter.scopes.length d)))
      have hs0 := HS.out X.drew H0.out.drew
      refine ord_start [(0, true), (1, true), (2, false), (3, true), (4, true), (5, true), (6, true), (7, false), (8, true), (9, true), (10, true), (11, true), (13, true), (12, false), (14, false), (15, true), (16, true)] (fun W => W.cell? ⟨w.heap.size, 0, none⟩ = some (sv x.tag) ∧ W.cell? ⟨w.heap.size, 1, none⟩ = some (.int .i64 x.kind) ∧ W.cell? ⟨w.heap.size, 2, none⟩ = some (sv x.box) ∧ W.cell? ⟨w.heap.size, 3, none⟩ = some (sv x.to) ∧ W.cell? ⟨w.heap.size, 4, none⟩ = some (.bool x.uid) ∧ W.cell? ⟨w.heap.size, 5, none⟩ = some (.slice p x.sset.length c) ∧ W.cell? ⟨w.heap.size, 6, none⟩ = some (.int .i64 x.op) ∧ W.cell? ⟨w.heap.size, 7, none⟩ = some (.int .i64 x.flags) ∧ W.cell? ⟨w.heap.size, 8, none⟩ = some (sv x.text) ∧ W.cell? ⟨w.heap.size, 9, none⟩ = some (.bool x.filter.on) ∧ W.cell? ⟨w.heap.size, 10, none⟩ = some (.slice q x.filter.scopes.length d)) (by kernel_rfl) (by kernel_rfl) rfl (by kernel_rfl) ?_
      intro ops' hops
      simp only [List.map_cons, List.map_nil, pickOp_zero, pickOp_succ]
      iterate 2 (refine ord_flo ?_ (fun _ _ _ h => h) rfl ?_ hs0 ?_; rotate_left; focus (intro W hS; obtain ⟨s0, s1, s2, s3, s4, s5, s6, s7, s8, s9, s10⟩ := hS; go_simp; rfl))
      try go_frame
      refine ord_ev rfl ?_
      go_simp
      refine (CT.out _).mono ?_
      rintro e w1 ⟨rfl, rfl⟩
      refine ⟨hs0, ?_⟩
      iterate 2 (refine ord_flo ?_ (fun _ _ _ h => h) rfl ?_ hs0 ?_; rotate_left; focus (intro W hS; obtain ⟨s0, s1, s2, s3, s4, s5, s6, s7, s8, s9, s10⟩ := hS; go_simp; rfl))
      iterate 2 (refine ord_flo ?_ (fun _ _ _ h => h) (by rw [hops.out]; kernel_rfl) ?_ hs0 ?_; rotate_left; focus (intro W hS; obtain ⟨s0, s1, s2, s3, s4, s5, s6, s7, s8, s9, s10⟩ := hS; go_simp; rfl))
      try go_frame
      refine ord_ev (by rw [hops.out]; kernel_rfl) ?_
      go_simp
      refine (CK.out _).mono ?_
      rintro e w2 ⟨rfl, rfl⟩
      refine ⟨hs0, ?_⟩
      iterate 1 (refine ord_flo ?_ (fun _ _ _ h => h) (by rw [hops.out]; kernel_rfl) ?_ hs0 ?_; rotate_left; focus (intro W hS; obtain ⟨s0, s1, s2, s3, s4, s5, s6, s7, s8, s9, s10⟩ := hS; go_simp; rfl))
      iterate 2 (refine ord_flo ?_ (fun _ _ _ h => h) rfl ?_ hs0 ?_; rotate_left; focus (intro W hS; obtain ⟨s0, s1, s2, s3, s4, s5, s6, s7, s8, s9, s10⟩ := hS; go_simp; rfl))
      iterate 2 (refine ord_not (fun _ _ _ h => h) (by rw [hops.out]; kernel_rfl) hs0 ?_)
      refine ord_evnot hs0 (by rw [hops.out]; kernel_rfl) ?_
      refine ord_evnot hs0 (by rw [hops.out]; kernel_rfl) ?_
      iterate 1 (refine ord_not (fun _ _ _ h => h) (by rw [hops.out]; kernel_rfl) hs0 ?_)
      iterate 1 (refine ord_flo ?_ (fun _ _ _ h => h) rfl ?_ hs0 ?_; rotate_left; focus (intro W hS; obtain ⟨s0, s1, s2, s3, s4, s5, s6, s7, s8, s9, s10⟩ := hS; go_simp; rfl))
      refine ord_done ?_
      go_simp
      try go_frame
      have HV := Lib.hid (show cmdB x = false from by unfold cmdB; rw [eT, eK]; simp)
      go_wp2
      go_ret
      exact ⟨by rw [HV.out]; rfl, H0.out.drew.b⟩
    | true =>
      cases eE : decide (saidC x = x) with
      | false =>
        rw [show tagB (ByteArray.mk x.tag.toArray).data.toList = true from eT] at CT
        rw [eK] at CK
        rw [eE] at CE
        go_enter Try.func10, Try.ntmps10
        go_wp2
        refine wp_named ?_
        intro X hX
        have H0 := Lib.hid (Own1.of hX)
        clear hX
        have HS := Lib.hid (fun (W : World) (H : Own1 36 w W #[sv x.tag, .int .i64 x.kind, sv x.box, sv x.to, .bool x.uid, .slice p x.sset.length c, .int .i64 x.op, .int .i64 x.flags, sv x.text, .bool x.filter.on, .slice q x.filter.scopes.length d]) => (⟨(Lib.cell_of_heap H.a 0).trans rfl, (Lib.cell_of_heap H.a 1).trans rfl, (Lib.cell_of_heap H.a 2).trans rfl, (Lib.cell_of_heap H.a 3).trans rfl, (Lib.cell_of_heap H.a 4).trans rfl, (Lib.cell_of_heap H.a 5).trans rfl, (Lib.cell_of_heap H.a 6).trans rfl, (Lib.cell_of_heap H.a 7).trans rfl, (Lib.cell_of_heap H.a 8).trans rfl, (Lib.cell_of_heap H.a 9).trans rfl, (Lib.cell_of_heap H.a 10).trans rfl⟩ : W.cell? ⟨w.heap.size, 0, none⟩ = some (sv x.tag) ∧ W.cell? ⟨w.heap.size, 1, none⟩ = some (.int .i64 x.kind) ∧ W.cell? ⟨w.heap.size, 2, none⟩ = some (sv x.box) ∧ W.cell? ⟨w.heap.size, 3, none⟩ = some (sv x.to) ∧ W.cell? ⟨w.heap.size, 4, none⟩ = some (.bool x.uid) ∧ W.cell? ⟨w.heap.size, 5, none⟩ = some (.slice p x.sset.length c) ∧ W.cell? ⟨w.heap.size, 6, none⟩ = some (.int .i64 x.op) ∧ W.cell? ⟨w.heap.size, 7, none⟩ = some (.int .i64 x.flags) ∧ W.cell? ⟨w.heap.size, 8, none⟩ = some (sv x.text) ∧ W.cell? ⟨w.heap.size, 9, none⟩ = some (.bool x.filter.on) ∧ W.cell? ⟨w.heap.size, 10, none⟩ = some (.slice q x.filter.scopes.length d)))
        have hs0 := HS.out X.drew H0.out.drew
        refine ord_start [(0, true), (1, true), (2, false), (3, true), (4, true), (5, true), (6, true), (7, false), (8, true), (9, true), (10, true), (11, true), (13, true), (12, false), (14, false), (15, true), (16, true)] (fun W => W.cell? ⟨w.heap.size, 0, none⟩ = some (sv x.tag) ∧ W.cell? ⟨w.heap.size, 1, none⟩ = some (.int .i64 x.kind) ∧ W.cell? ⟨w.heap.size, 2, none⟩ = some (sv x.box) ∧ W.cell? ⟨w.heap.size, 3, none⟩ = some (sv x.to) ∧ W.cell? ⟨w.heap.size, 4, none⟩ = some (.bool x.uid) ∧ W.cell? ⟨w.heap.size, 5, none⟩ = some (.slice p x.sset.length c) ∧ W.cell? ⟨w.heap.size, 6, none⟩ = some (.int .i64 x.op) ∧ W.cell? ⟨w.heap.size, 7, none⟩ = some (.int .i64 x.flags) ∧ W.cell? ⟨w.heap.size, 8, none⟩ = some (sv x.text) ∧ W.cell? ⟨w.heap.size, 9, none⟩ = some (.bool x.filter.on) ∧ W.cell? ⟨w.heap.size, 10, none⟩ = some (.slice q x.filter.scopes.length d)) (by kernel_rfl) (by kernel_rfl) rfl (by kernel_rfl) ?_
        intro ops' hops
        simp only [List.map_cons, List.map_nil, pickOp_zero, pickOp_succ]
        iterate 2 (refine ord_flo ?_ (fun _ _ _ h => h) rfl ?_ hs0 ?_; rotate_left; focus (intro W hS; obtain ⟨s0, s1, s2, s3, s4, s5, s6, s7, s8, s9, s10⟩ := hS; go_simp; rfl))
        try go_frame
        refine ord_ev rfl ?_
        go_simp
        refine (CT.out _).mono ?_
        rintro e w1 ⟨rfl, rfl⟩
        refine ⟨hs0, ?_⟩
        iterate 2 (refine ord_flo ?_ (fun _ _ _ h => h) rfl ?_ hs0 ?_; rotate_left; focus (intro W hS; obtain ⟨s0, s1, s2, s3, s4, s5, s6, s7, s8, s9, s10⟩ := hS; go_simp; rfl))
        iterate 2 (refine ord_flo ?_ (fun _ _ _ h => h) (by rw [hops.out]; kernel_rfl) ?_ hs0 ?_; rotate_left; focus (intro W hS; obtain ⟨s0, s1, s2, s3, s4, s5, s6, s7, s8, s9, s10⟩ := hS; go_simp; rfl))
        try go_frame
        refine ord_ev (by rw [hops.out]; kernel_rfl) ?_
        go_simp
        refine (CK.out _).mono ?_
        rintro e w2 ⟨rfl, rfl⟩
        refine ⟨hs0, ?_⟩
        iterate 1 (refine ord_flo ?_ (fun _ _ _ h => h) (by rw [hops.out]; kernel_rfl) ?_ hs0 ?_; rotate_left; focus (intro W hS; obtain ⟨s0, s1, s2, s3, s4, s5, s6, s7, s8, s9, s10⟩ := hS; go_simp; rfl))
        iterate 2 (refine ord_flo ?_ (fun _ _ _ h => h) rfl ?_ hs0 ?_; rotate_left; focus (intro W hS; obtain ⟨s0, s1, s2, s3, s4, s5, s6, s7, s8, s9, s10⟩ := hS; go_simp; rfl))
        iterate 2 (refine ord_flo ?_ (fun _ _ _ h => h) (by rw [hops.out]; kernel_rfl) ?_ hs0 ?_; rotate_left; focus (intro W hS; obtain ⟨s0, s1, s2, s3, s4, s5, s6, s7, s8, s9, s10⟩ := hS; go_simp; rfl))
        try go_frame
        refine ord_ev (by rw [hops.out]; kernel_rfl) ?_
        go_simp
        refine (CS.out _).mono ?_
        rintro e w3 ⟨rfl, b3⟩
        have H3 := Lib.hid (H0.out.drew.call b3)
        clear b3
        have hs3 := HS.out _ H3.out
        refine ⟨hs3, ?_⟩
        try go_frame
        refine ord_ev (by rw [hops.out]; kernel_rfl) ?_
        go_simp
        refine (CE.out _ H3.out.b).mono ?_
        rintro e w4 ⟨rfl, b4⟩
        have H4 := Lib.hid (H3.out.call b4)
        clear b4
        have hs4 := HS.out _ H4.out
        refine ⟨hs4, ?_⟩
        iterate 1 (refine ord_flo ?_ (fun _ _ _ h => h) (by rw [hops.out]; kernel_rfl) ?_ hs4 ?_; rotate_left; focus (intro W hS; obtain ⟨s0, s1, s2, s3, s4, s5, s6, s7, s8, s9, s10⟩ := hS; go_simp; rfl))
        iterate 1 (refine ord_flo ?_ (fun _ _ _ h => h) rfl ?_ hs4 ?_; rotate_left; focus (intro W hS; obtain ⟨s0, s1, s2, s3, s4, s5, s6, s7, s8, s9, s10⟩ := hS; go_simp; rfl))
        refine ord_done ?_
        go_simp
        try go_frame
        have HV := Lib.hid (show cmdB x = false from by unfold cmdB; rw [eT, eK, eE]; simp)
        go_wp2
        go_ret
        exact ⟨by rw [HV.out]; rfl, H4.out.b⟩
      | true =>
        rw [show tagB (ByteArray.mk x.tag.toArray).data.toList = true from eT] at CT
        rw [eK] at CK
        rw [eE] at CE
        go_enter Try.func10, Try.ntmps10
        go_wp2
        refine wp_named ?_
        intro X hX
        have H0 := Lib.hid (Own1.of hX)
        clear hX
        have HS := Lib.hid (fun (W : World) (H : Own1 36 w W #[sv x.tag, .int .i64 x.kind, sv x.box, sv x.to, .bool x.uid, .slice p x.sset.length c, .int .i64 x.op, .int .i64 x.flags, sv x.text, .bool x.filter.on, .slice q x.filter.scopes.length d]) => (⟨(Lib.cell_of_heap H.a 0).trans rfl, (Lib.cell_of_heap H.a 1).trans rfl, (Lib.cell_of_heap H.a 2).trans rfl, (Lib.cell_of_heap H.a 3).trans rfl, (Lib.cell_of_heap H.a 4).trans rfl, (Lib.cell_of_heap H.a 5).trans rfl, (Lib.cell_of_heap H.a 6).trans rfl, (Lib.cell_of_heap H.a 7).trans rfl, (Lib.cell_of_heap H.a 8).trans rfl, (Lib.cell_of_heap H.a 9).trans rfl, (Lib.cell_of_heap H.a 10).trans rfl⟩ : W.cell? ⟨w.heap.size, 0, none⟩ = some (sv x.tag) ∧ W.cell? ⟨w.heap.size, 1, none⟩ = some (.int .i64 x.kind) ∧ W.cell? ⟨w.heap.size, 2, none⟩ = some (sv x.box) ∧ W.cell? ⟨w.heap.size, 3, none⟩ = some (sv x.to) ∧ W.cell? ⟨w.heap.size, 4, none⟩ = some (.bool x.uid) ∧ W.cell? ⟨w.heap.size, 5, none⟩ = some (.slice p x.sset.length c) ∧ W.cell? ⟨w.heap.size, 6, none⟩ = some (.int .i64 x.op) ∧ W.cell? ⟨w.heap.size, 7, none⟩ = some (.int .i64 x.flags) ∧ W.cell? ⟨w.heap.size, 8, none⟩ = some (sv x.text) ∧ W.cell? ⟨w.heap.size, 9, none⟩ = some (.bool x.filter.on) ∧ W.cell? ⟨w.heap.size, 10, none⟩ = some (.slice q x.filter.scopes.length d)))
        have hs0 := HS.out X.drew H0.out.drew
        refine ord_start [(0, true), (1, true), (2, false), (3, true), (4, true), (5, true), (6, true), (7, false), (8, true), (9, true), (10, true), (11, true), (13, true), (12, false), (14, false), (15, true), (16, true)] (fun W => W.cell? ⟨w.heap.size, 0, none⟩ = some (sv x.tag) ∧ W.cell? ⟨w.heap.size, 1, none⟩ = some (.int .i64 x.kind) ∧ W.cell? ⟨w.heap.size, 2, none⟩ = some (sv x.box) ∧ W.cell? ⟨w.heap.size, 3, none⟩ = some (sv x.to) ∧ W.cell? ⟨w.heap.size, 4, none⟩ = some (.bool x.uid) ∧ W.cell? ⟨w.heap.size, 5, none⟩ = some (.slice p x.sset.length c) ∧ W.cell? ⟨w.heap.size, 6, none⟩ = some (.int .i64 x.op) ∧ W.cell? ⟨w.heap.size, 7, none⟩ = some (.int .i64 x.flags) ∧ W.cell? ⟨w.heap.size, 8, none⟩ = some (sv x.text) ∧ W.cell? ⟨w.heap.size, 9, none⟩ = some (.bool x.filter.on) ∧ W.cell? ⟨w.heap.size, 10, none⟩ = some (.slice q x.filter.scopes.length d)) (by kernel_rfl) (by kernel_rfl) rfl (by kernel_rfl) ?_
        intro ops' hops
        simp only [List.map_cons, List.map_nil, pickOp_zero, pickOp_succ]
        iterate 2 (refine ord_flo ?_ (fun _ _ _ h => h) rfl ?_ hs0 ?_; rotate_left; focus (intro W hS; obtain ⟨s0, s1, s2, s3, s4, s5, s6, s7, s8, s9, s10⟩ := hS; go_simp; rfl))
        try go_frame
        refine ord_ev rfl ?_
        go_simp
        refine (CT.out _).mono ?_
        rintro e w1 ⟨rfl, rfl⟩
        refine ⟨hs0, ?_⟩
        iterate 2 (refine ord_flo ?_ (fun _ _ _ h => h) rfl ?_ hs0 ?_; rotate_left; focus (intro W hS; obtain ⟨s0, s1, s2, s3, s4, s5, s6, s7, s8, s9, s10⟩ := hS; go_simp; rfl))
        iterate 2 (refine ord_flo ?_ (fun _ _ _ h => h) (by rw [hops.out]; kernel_rfl) ?_ hs0 ?_; rotate_left; focus (intro W hS; obtain ⟨s0, s1, s2, s3, s4, s5, s6, s7, s8, s9, s10⟩ := hS; go_simp; rfl))
        try go_frame
        refine ord_ev (by rw [hops.out]; kernel_rfl) ?_
        go_simp
        refine (CK.out _).mono ?_
        rintro e w2 ⟨rfl, rfl⟩
        refine ⟨hs0, ?_⟩
        iterate 1 (refine ord_flo ?_ (fun _ _ _ h => h) (by rw [hops.out]; kernel_rfl) ?_ hs0 ?_; rotate_left; focus (intro W hS; obtain ⟨s0, s1, s2, s3, s4, s5, s6, s7, s8, s9, s10⟩ := hS; go_simp; rfl))
        iterate 2 (refine ord_flo ?_ (fun _ _ _ h => h) rfl ?_ hs0 ?_; rotate_left; focus (intro W hS; obtain ⟨s0, s1, s2, s3, s4, s5, s6, s7, s8, s9, s10⟩ := hS; go_simp; rfl))
        iterate 2 (refine ord_flo ?_ (fun _ _ _ h => h) (by rw [hops.out]; kernel_rfl) ?_ hs0 ?_; rotate_left; focus (intro W hS; obtain ⟨s0, s1, s2, s3, s4, s5, s6, s7, s8, s9, s10⟩ := hS; go_simp; rfl))
        try go_frame
        refine ord_ev (by rw [hops.out]; kernel_rfl) ?_
        go_simp
        refine (CS.out _).mono ?_
        rintro e w3 ⟨rfl, b3⟩
        have H3 := Lib.hid (H0.out.drew.call b3)
        clear b3
        have hs3 := HS.out _ H3.out
        refine ⟨hs3, ?_⟩
        try go_frame
        refine ord_ev (by rw [hops.out]; kernel_rfl) ?_
        go_simp
        refine (CE.out _ H3.out.b).mono ?_
        rintro e w4 ⟨rfl, b4⟩
        have H4 := Lib.hid (H3.out.call b4)
        clear b4
        have hs4 := HS.out _ H4.out
        refine ⟨hs4, ?_⟩
        iterate 1 (refine ord_flo ?_ (fun _ _ _ h => h) (by rw [hops.out]; kernel_rfl) ?_ hs4 ?_; rotate_left; focus (intro W hS; obtain ⟨s0, s1, s2, s3, s4, s5, s6, s7, s8, s9, s10⟩ := hS; go_simp; rfl))
        iterate 1 (refine ord_flo ?_ (fun _ _ _ h => h) rfl ?_ hs4 ?_; rotate_left; focus (intro W hS; obtain ⟨s0, s1, s2, s3, s4, s5, s6, s7, s8, s9, s10⟩ := hS; go_simp; rfl))
        refine ord_done ?_
        go_simp
        try go_frame
        have HB := Lib.hid H4.out.b
        have HC := Lib.hid H4.out.a
        clear HS hs0 hs3 hs4 H0 H3 H4 CT CK CS CE
        have y0 := (Lib.cell_of_heap HC.out 0).trans (show _ = some (sv x.tag) from rfl)
        have y1 := (Lib.cell_of_heap HC.out 1).trans (show _ = some (.int .i64 x.kind) from rfl)
        have y2 := (Lib.cell_of_heap HC.out 2).trans (show _ = some (sv x.box) from rfl)
        have y3 := (Lib.cell_of_heap HC.out 3).trans (show _ = some (sv x.to) from rfl)
        have y4 := (Lib.cell_of_heap HC.out 4).trans (show _ = some (.bool x.uid) from rfl)
        have y5 := (Lib.cell_of_heap HC.out 5).trans (show _ = some (.slice p x.sset.length c) from rfl)
        have y6 := (Lib.cell_of_heap HC.out 6).trans (show _ = some (.int .i64 x.op) from rfl)
        have y7 := (Lib.cell_of_heap HC.out 7).trans (show _ = some (.int .i64 x.flags) from rfl)
        have y8 := (Lib.cell_of_heap HC.out 8).trans (show _ = some (sv x.text) from rfl)
        have y9 := (Lib.cell_of_heap HC.out 9).trans (show _ = some (.bool x.filter.on) from rfl)
        have y10 := (Lib.cell_of_heap HC.out 10).trans (show _ = some (.slice q x.filter.scopes.length d) from rfl)
        clear HC
        by_cases k14 : x.kind = 14
        · have hb1 : boxedB x.kind = true := by unfold boxedB; simp only [Bool.or_eq_true, beq_iff_eq]; omega
          have hb2 : setsB x.kind = false := by unfold setsB; simp only [Bool.or_eq_false_iff, beq_eq_false_iff_ne]; omega
          have t14 : (x.kind == 14) = true := by rw [beq_iff_eq]; omega
          have t8 : (x.kind == 8) = false := by rw [beq_eq_false_iff_ne]; omega
          clear k14
          rw [hb1] at CB
          rw [hb2] at CZ
          go_wp2_with fail
          refine (CB.out _).mono ?_
          rintro e w5 ⟨rfl, rfl⟩
          cases e0 : nameB x.box with
          | true =>
            rw [show nameB (ByteArray.mk x.box.toArray).data.toList = true from e0] at Cname2
            go_wp2_with fail
            refine (Cname2.out _).mono ?_
            rintro e w7 ⟨rfl, rfl⟩
            cases e1 : nameB x.to with
            | true =>
              rw [show nameB (ByteArray.mk x.to.toArray).data.toList = true from e1] at Cname3
              go_wp2_with fail
              refine (Cname3.out _).mono ?_
              rintro e w7 ⟨rfl, rfl⟩
              go_wp2_with fail
              refine (CZ.out _).mono ?_
              rintro e w6 ⟨rfl, rfl⟩
              cases e2 : flB x.flags with
              | true =>
                rw [e2] at Cflags7
                go_wp2_with fail
                refine (Cflags7.out _).mono ?_
                rintro e w7 ⟨rfl, rfl⟩
                by_cases hl : (x.text.length : Int) ≤ 40
                · have el : decide ((x.text.length : Int) ≤ 40) = true := decide_eq_true hl
                  have HV := Lib.hid (show cmdB x = filterB x.filter from by unfold cmdB; rw [eT, eK, eE, hb1, hb2, t14, t8, e0, e1, e2, el]; simp)
                  go_wp2_with fail
                  refine (Cfilter9.out _ HB.out).mono ?_
                  rintro e w9 ⟨rfl, b9⟩
                  have hbz := HB.out.trans (b9.mono HB.out.size)
                  clear b9
                  go_wp2
                  go_ret
                  exact ⟨by rw [HV.out]; rfl, hbz⟩
                · have el : decide ((x.text.length : Int) ≤ 40) = false := decide_eq_false hl
                  have HV := Lib.hid (show cmdB x = false from by unfold cmdB; rw [eT, eK, eE, hb1, hb2, t14, t8, e0, e1, e2, el]; simp)
                  go_wp2
                  go_ret
                  exact ⟨by rw [HV.out]; rfl, HB.out⟩
              | false =>
                rw [e2] at Cflags7
                go_wp2_with fail
                refine (Cflags7.out _).mono ?_
                rintro e w7 ⟨rfl, rfl⟩
                have HV := Lib.hid (show cmdB x = false from by unfold cmdB; rw [eT, eK, eE, hb1, hb2, t14, t8, e0, e1, e2]; simp)
                go_wp2
                go_ret
                exact ⟨by rw [HV.out]; rfl, HB.out⟩
            | false =>
              rw [show nameB (ByteArray.mk x.to.toArray).data.toList = false from e1] at Cname3
              go_wp2_with fail
              refine (Cname3.out _).mono ?_
              rintro e w7 ⟨rfl, rfl⟩
              have HV := Lib.hid (show cmdB x = false from by unfold cmdB; rw [eT, eK, eE, hb1, hb2, t14, t8, e0, e1]; simp)
              go_wp2
              go_ret
              exact ⟨by rw [HV.out]; rfl, HB.out⟩
          | false =>
            rw [show nameB (ByteArray.mk x.box.toArray).data.toList = false from e0] at Cname2
            go_wp2_with fail
            refine (Cname2.out _).mono ?_
            rintro e w7 ⟨rfl, rfl⟩
            have HV := Lib.hid (show cmdB x = false from by unfold cmdB; rw [eT, eK, eE, hb1, hb2, t14, t8, e0]; simp)
            go_wp2
            go_ret
            exact ⟨by rw [HV.out]; rfl, HB.out⟩
        by_cases k10 : x.kind = 10
        · have hb1 : boxedB x.kind = true := by unfold boxedB; simp only [Bool.or_eq_true, beq_iff_eq]; omega
          have hb2 : setsB x.kind = true := by unfold setsB; simp only [Bool.or_eq_true, beq_iff_eq]; omega
          have t14 : (x.kind == 14) = false := by rw [beq_eq_false_iff_ne]; omega
          have t8 : (x.kind == 8) = false := by rw [beq_eq_false_iff_ne]; omega
          clear k10
          rw [hb1] at CB
          rw [hb2] at CZ
          go_wp2_with fail
          refine (CB.out _).mono ?_
          rintro e w5 ⟨rfl, rfl⟩
          cases e0 : nameB x.box with
          | true =>
            rw [show nameB (ByteArray.mk x.box.toArray).data.toList = true from e0] at Cname2
            go_wp2_with fail
            refine (Cname2.out _).mono ?_
            rintro e w7 ⟨rfl, rfl⟩
            go_wp2_with fail
            refine (CZ.out _).mono ?_
            rintro e w6 ⟨rfl, rfl⟩
            cases e1 : setB x.sset with
            | true =>
              rw [e1] at Cset5
              go_wp2_with fail
              refine (Cset5.out _ HB.out).mono ?_
              rintro e w7 ⟨rfl, rfl⟩
              cases e2 : flB x.flags with
              | true =>
                rw [e2] at Cflags7
                go_wp2_with fail
                refine (Cflags7.out _).mono ?_
                rintro e w7 ⟨rfl, rfl⟩
                by_cases hl : (x.text.length : Int) ≤ 40
                · have el : decide ((x.text.length : Int) ≤ 40) = true := decide_eq_true hl
                  have HV := Lib.hid (show cmdB x = filterB x.filter from by unfold cmdB; rw [eT, eK, eE, hb1, hb2, t14, t8, e0, e1, e2, el]; simp)
                  go_wp2_with fail
                  refine (Cfilter9.out _ HB.out).mono ?_
                  rintro e w9 ⟨rfl, b9⟩
                  have hbz := HB.out.trans (b9.mono HB.out.size)
                  clear b9
                  go_wp2
                  go_ret
                  exact ⟨by rw [HV.out]; rfl, hbz⟩
                · have el : decide ((x.text.length : Int) ≤ 40) = false := decide_eq_false hl
                  have HV := Lib.hid (show cmdB x = false from by unfold cmdB; rw [eT, eK, eE, hb1, hb2, t14, t8, e0, e1, e2, el]; simp)
                  go_wp2
                  go_ret
                  exact ⟨by rw [HV.out]; rfl, HB.out⟩
              | false =>
                rw [e2] at Cflags7
                go_wp2_with fail
                refine (Cflags7.out _).mono ?_
                rintro e w7 ⟨rfl, rfl⟩
                have HV := Lib.hid (show cmdB x = false from by unfold cmdB; rw [eT, eK, eE, hb1, hb2, t14, t8, e0, e1, e2]; simp)
                go_wp2
                go_ret
                exact ⟨by rw [HV.out]; rfl, HB.out⟩
            | false =>
              rw [e1] at Cset5
              go_wp2_with fail
              refine (Cset5.out _ HB.out).mono ?_
              rintro e w7 ⟨rfl, rfl⟩
              have HV := Lib.hid (show cmdB x = false from by unfold cmdB; rw [eT, eK, eE, hb1, hb2, t14, t8, e0, e1]; simp)
              go_wp2
              go_ret
              exact ⟨by rw [HV.out]; rfl, HB.out⟩
          | false =>
            rw [show nameB (ByteArray.mk x.box.toArray).data.toList = false from e0] at Cname2
            go_wp2_with fail
            refine (Cname2.out _).mono ?_
            rintro e w7 ⟨rfl, rfl⟩
            have HV := Lib.hid (show cmdB x = false from by unfold cmdB; rw [eT, eK, eE, hb1, hb2, t14, t8, e0]; simp)
            go_wp2
            go_ret
            exact ⟨by rw [HV.out]; rfl, HB.out⟩
        by_cases k8 : x.kind = 8
        · have hb1 : boxedB x.kind = false := by unfold boxedB; simp only [Bool.or_eq_false_iff, beq_eq_false_iff_ne]; omega
          have hb2 : setsB x.kind = true := by unfold setsB; simp only [Bool.or_eq_true, beq_iff_eq]; omega
          have t14 : (x.kind == 14) = false := by rw [beq_eq_false_iff_ne]; omega
          have t8 : (x.kind == 8) = true := by rw [beq_iff_eq]; omega
          clear k8
          rw [hb1] at CB
          rw [hb2] at CZ
          go_wp2_with fail
          refine (CB.out _).mono ?_
          rintro e w5 ⟨rfl, rfl⟩
          go_wp2_with fail
          refine (CZ.out _).mono ?_
          rintro e w6 ⟨rfl, rfl⟩
          cases e0 : setB x.sset with
          | true =>
            rw [e0] at Cset5
            go_wp2_with fail
            refine (Cset5.out _ HB.out).mono ?_
            rintro e w7 ⟨rfl, rfl⟩
            cases e1 : (decide (1 ≤ x.op) && decide (x.op ≤ 3)) with
            | true =>
              rw [e1] at Cop6
              go_wp2_with fail
              refine (Cop6.out _).mono ?_
              rintro e w7 ⟨rfl, rfl⟩
              cases e2 : flB x.flags with
              | true =>
                rw [e2] at Cflags7
                go_wp2_with fail
                refine (Cflags7.out _).mono ?_
                rintro e w7 ⟨rfl, rfl⟩
                by_cases hl : (x.text.length : Int) ≤ 40
                · have el : decide ((x.text.length : Int) ≤ 40) = true := decide_eq_true hl
                  have HV := Lib.hid (show cmdB x = filterB x.filter from by unfold cmdB; rw [eT, eK, eE, hb1, hb2, t14, t8, e0, e1, e2, el]; simp)
                  go_wp2_with fail
                  refine (Cfilter9.out _ HB.out).mono ?_
                  rintro e w9 ⟨rfl, b9⟩
                  have hbz := HB.out.trans (b9.mono HB.out.size)
                  clear b9
                  go_wp2
                  go_ret
                  exact ⟨by rw [HV.out]; rfl, hbz⟩
                · have el : decide ((x.text.length : Int) ≤ 40) = false := decide_eq_false hl
                  have HV := Lib.hid (show cmdB x = false from by unfold cmdB; rw [eT, eK, eE, hb1, hb2, t14, t8, e0, e1, e2, el]; simp)
                  go_wp2
                  go_ret
                  exact ⟨by rw [HV.out]; rfl, HB.out⟩
              | false =>
                rw [e2] at Cflags7
                go_wp2_with fail
                refine (Cflags7.out _).mono ?_
                rintro e w7 ⟨rfl, rfl⟩
                have HV := Lib.hid (show cmdB x = false from by unfold cmdB; rw [eT, eK, eE, hb1, hb2, t14, t8, e0, e1, e2]; simp)
                go_wp2
                go_ret
                exact ⟨by rw [HV.out]; rfl, HB.out⟩
            | false =>
              rw [e1] at Cop6
              go_wp2_with fail
              refine (Cop6.out _).mono ?_
              rintro e w7 ⟨rfl, rfl⟩
              have HV := Lib.hid (show cmdB x = false from by unfold cmdB; rw [eT, eK, eE, hb1, hb2, t14, t8, e0, e1]; simp)
              go_wp2
              go_ret
              exact ⟨by rw [HV.out]; rfl, HB.out⟩
          | false =>
            rw [e0] at Cset5
            go_wp2_with fail
            refine (Cset5.out _ HB.out).mono ?_
            rintro e w7 ⟨rfl, rfl⟩
            have HV := Lib.hid (show cmdB x = false from by unfold cmdB; rw [eT, eK, eE, hb1, hb2, t14, t8, e0]; simp)
            go_wp2
            go_ret
            exact ⟨by rw [HV.out]; rfl, HB.out⟩
        by_cases k7 : x.kind = 7
        · have hb1 : boxedB x.kind = false := by unfold boxedB; simp only [Bool.or_eq_false_iff, beq_eq_false_iff_ne]; omega
          have hb2 : setsB x.kind = true := by unfold setsB; simp only [Bool.or_eq_true, beq_iff_eq]; omega
          have t14 : (x.kind == 14) = false := by rw [beq_eq_false_iff_ne]; omega
          have t8 : (x.kind == 8) = false := by rw [beq_eq_false_iff_ne]; omega
          clear k7
          rw [hb1] at CB
          rw [hb2] at CZ
          go_wp2_with fail
          refine (CB.out _).mono ?_
          rintro e w5 ⟨rfl, rfl⟩
          go_wp2_with fail
          refine (CZ.out _).mono ?_
          rintro e w6 ⟨rfl, rfl⟩
          cases e0 : setB x.sset with
          | true =>
            rw [e0] at Cset5
            go_wp2_with fail
            refine (Cset5.out _ HB.out).mono ?_
            rintro e w7 ⟨rfl, rfl⟩
            cases e1 : flB x.flags with
            | true =>
              rw [e1] at Cflags7
              go_wp2_with fail
              refine (Cflags7.out _).mono ?_
              rintro e w7 ⟨rfl, rfl⟩
              by_cases hl : (x.text.length : Int) ≤ 40
              · have el : decide ((x.text.length : Int) ≤ 40) = true := decide_eq_true hl
                have HV := Lib.hid (show cmdB x = filterB x.filter from by unfold cmdB; rw [eT, eK, eE, hb1, hb2, t14, t8, e0, e1, el]; simp)
                go_wp2_with fail
                refine (Cfilter9.out _ HB.out).mono ?_
                rintro e w9 ⟨rfl, b9⟩
                have hbz := HB.out.trans (b9.mono HB.out.size)
                clear b9
                go_wp2
                go_ret
                exact ⟨by rw [HV.out]; rfl, hbz⟩
              · have el : decide ((x.text.length : Int) ≤ 40) = false := decide_eq_false hl
                have HV := Lib.hid (show cmdB x = false from by unfold cmdB; rw [eT, eK, eE, hb1, hb2, t14, t8, e0, e1, el]; simp)
                go_wp2
                go_ret
                exact ⟨by rw [HV.out]; rfl, HB.out⟩
            | false =>
              rw [e1] at Cflags7
              go_wp2_with fail
              refine (Cflags7.out _).mono ?_
              rintro e w7 ⟨rfl, rfl⟩
              have HV := Lib.hid (show cmdB x = false from by unfold cmdB; rw [eT, eK, eE, hb1, hb2, t14, t8, e0, e1]; simp)
              go_wp2
              go_ret
              exact ⟨by rw [HV.out]; rfl, HB.out⟩
          | false =>
            rw [e0] at Cset5
            go_wp2_with fail
            refine (Cset5.out _ HB.out).mono ?_
            rintro e w7 ⟨rfl, rfl⟩
            have HV := Lib.hid (show cmdB x = false from by unfold cmdB; rw [eT, eK, eE, hb1, hb2, t14, t8, e0]; simp)
            go_wp2
            go_ret
            exact ⟨by rw [HV.out]; rfl, HB.out⟩
        by_cases kb : x.kind = 2 ∨ x.kind = 11 ∨ x.kind = 12 ∨ x.kind = 13
        · have hb1 : boxedB x.kind = true := by unfold boxedB; simp only [Bool.or_eq_true, beq_iff_eq]; omega
          have hb2 : setsB x.kind = false := by unfold setsB; simp only [Bool.or_eq_false_iff, beq_eq_false_iff_ne]; omega
          have t14 : (x.kind == 14) = false := by rw [beq_eq_false_iff_ne]; omega
          have t8 : (x.kind == 8) = false := by rw [beq_eq_false_iff_ne]; omega
          clear kb
          rw [hb1] at CB
          rw [hb2] at CZ
          go_wp2_with fail
          refine (CB.out _).mono ?_
          rintro e w5 ⟨rfl, rfl⟩
          cases e0 : nameB x.box with
          | true =>
            rw [show nameB (ByteArray.mk x.box.toArray).data.toList = true from e0] at Cname2
            go_wp2_with fail
            refine (Cname2.out _).mono ?_
            rintro e w7 ⟨rfl, rfl⟩
            go_wp2_with fail
            refine (CZ.out _).mono ?_
            rintro e w6 ⟨rfl, rfl⟩
            cases e1 : flB x.flags with
            | true =>
              rw [e1] at Cflags7
              go_wp2_with fail
              refine (Cflags7.out _).mono ?_
              rintro e w7 ⟨rfl, rfl⟩
              by_cases hl : (x.text.length : Int) ≤ 40
              · have el : decide ((x.text.length : Int) ≤ 40) = true := decide_eq_true hl
                have HV := Lib.hid (show cmdB x = filterB x.filter from by unfold cmdB; rw [eT, eK, eE, hb1, hb2, t14, t8, e0, e1, el]; simp)
                go_wp2_with fail
                refine (Cfilter9.out _ HB.out).mono ?_
                rintro e w9 ⟨rfl, b9⟩
                have hbz := HB.out.trans (b9.mono HB.out.size)
                clear b9
                go_wp2
                go_ret
                exact ⟨by rw [HV.out]; rfl, hbz⟩
              · have el : decide ((x.text.length : Int) ≤ 40) = false := decide_eq_false hl
                have HV := Lib.hid (show cmdB x = false from by unfold cmdB; rw [eT, eK, eE, hb1, hb2, t14, t8, e0, e1, el]; simp)
                go_wp2
                go_ret
                exact ⟨by rw [HV.out]; rfl, HB.out⟩
            | false =>
              rw [e1] at Cflags7
              go_wp2_with fail
              refine (Cflags7.out _).mono ?_
              rintro e w7 ⟨rfl, rfl⟩
              have HV := Lib.hid (show cmdB x = false from by unfold cmdB; rw [eT, eK, eE, hb1, hb2, t14, t8, e0, e1]; simp)
              go_wp2
              go_ret
              exact ⟨by rw [HV.out]; rfl, HB.out⟩
          | false =>
            rw [show nameB (ByteArray.mk x.box.toArray).data.toList = false from e0] at Cname2
            go_wp2_with fail
            refine (Cname2.out _).mono ?_
            rintro e w7 ⟨rfl, rfl⟩
            have HV := Lib.hid (show cmdB x = false from by unfold cmdB; rw [eT, eK, eE, hb1, hb2, t14, t8, e0]; simp)
            go_wp2
            go_ret
            exact ⟨by rw [HV.out]; rfl, HB.out⟩
        have hb1 : boxedB x.kind = false := by unfold boxedB; simp only [Bool.or_eq_false_iff, beq_eq_false_iff_ne]; omega
        have hb2 : setsB x.kind = false := by unfold setsB; simp only [Bool.or_eq_false_iff, beq_eq_false_iff_ne]; omega
        have t14 : (x.kind == 14) = false := by rw [beq_eq_false_iff_ne]; omega
        have t8 : (x.kind == 8) = false := by rw [beq_eq_false_iff_ne]; omega
        rw [hb1] at CB
        rw [hb2] at CZ
        go_wp2_with fail
        refine (CB.out _).mono ?_
        rintro e w5 ⟨rfl, rfl⟩
        go_wp2_with fail
        refine (CZ.out _).mono ?_
        rintro e w6 ⟨rfl, rfl⟩
        cases e0 : flB x.flags with
        | true =>
          rw [e0] at Cflags7
          go_wp2_with fail
          refine (Cflags7.out _).mono ?_
          rintro e w7 ⟨rfl, rfl⟩
          by_cases hl : (x.text.length : Int) ≤ 40
          · have el : decide ((x.text.length : Int) ≤ 40) = true := decide_eq_true hl
            have HV := Lib.hid (show cmdB x = filterB x.filter from by unfold cmdB; rw [eT, eK, eE, hb1, hb2, t14, t8, e0, el]; simp)
            go_wp2_with fail
            refine (Cfilter9.out _ HB.out).mono ?_
            rintro e w9 ⟨rfl, b9⟩
            have hbz := HB.out.trans (b9.mono HB.out.size)
            clear b9
            go_wp2
            go_ret
            exact ⟨by rw [HV.out]; rfl, hbz⟩
          · have el : decide ((x.text.length : Int) ≤ 40) = false := decide_eq_false hl
            have HV := Lib.hid (show cmdB x = false from by unfold cmdB; rw [eT, eK, eE, hb1, hb2, t14, t8, e0, el]; simp)
            go_wp2
            go_ret
            exact ⟨by rw [HV.out]; rfl, HB.out⟩
        | false =>
          rw [e0] at Cflags7
          go_wp2_with fail
          refine (Cflags7.out _).mono ?_
          rintro e w7 ⟨rfl, rfl⟩
          have HV := Lib.hid (show cmdB x = false from by unfold cmdB; rw [eT, eK, eE, hb1, hb2, t14, t8, e0]; simp)
          go_wp2
          go_ret
          exact ⟨by rw [HV.out]; rfl, HB.out⟩

theorem specCommandOk_c : CtrCommandOk 10 (fun _ => True) := fun x r5 r10 W _ h1 h2 hs _ => specCommandOk_at x r5 r10 W h1 h2 hs

theorem cmdB_own (x : CmdD) (hk : 1 ≤ x.kind ∧ x.kind ≤ 15) : (ownOk x && tagB x.tag && decide (saidC x = x)) = cmdB x := by
  by_cases hd : saidC x = x
  · have hf : ¬ (x.kind = 8 ∨ x.kind = 11) → x.flags = 0 := fun h => by
      have h1 := congrArg CmdD.flags hd
      change (if x.kind = 8 ∨ x.kind = 11 then x.flags else 0) = x.flags at h1
      rw [if_neg h] at h1; exact h1.symm
    have ht : ¬ x.kind = 11 → x.text = [] := fun h => by
      have h1 := congrArg CmdD.text hd
      change (if x.kind = 11 then x.text else []) = x.text at h1
      rw [if_neg h] at h1; exact h1.symm
    have hfi : ¬ x.kind = 6 → x.filter = ⟨false, []⟩ := fun h => by
      have h1 := congrArg CmdD.filter hd
      change (if x.kind = 6 then x.filter else ⟨false, []⟩) = x.filter at h1
      rw [if_neg h] at h1; exact h1.symm
    have ho : ∀ n, opB n = (decide (1 ≤ n) && decide (n ≤ 3)) := fun _ => rfl
    unfold cmdB
    rw [decide_eq_true hd, decide_eq_true hk.1, decide_eq_true hk.2, ← ho]
    by_cases k14 : x.kind = 14
    · have hb1 : boxedB x.kind = true := by unfold boxedB; simp only [Bool.or_eq_true, beq_iff_eq]; omega
      have hb2 : setsB x.kind = false := by unfold setsB; simp only [Bool.or_eq_false_iff, beq_eq_false_iff_ne]; omega
      have t14 : (x.kind == 14) = true := by rw [beq_iff_eq]; omega
      have t8 : (x.kind == 8) = false := by rw [beq_eq_false_iff_ne]; omega
      have eo : ownOk x = (nameB x.box && nameB x.to) := by unfold ownOk; rw [if_pos (by omega)]
      rw [eo, hb1, hb2, t14, t8, hf (by omega), ht (by omega), hfi (by omega)]
      generalize tagB x.tag = b0
      generalize nameB x.box = b1
      generalize nameB x.to = b2
      cases b0 <;> cases b1 <;> cases b2 <;> rfl
    by_cases k11 : x.kind = 11
    · have hb1 : boxedB x.kind = true := by unfold boxedB; simp only [Bool.or_eq_true, beq_iff_eq]; omega
      have hb2 : setsB x.kind = false := by unfold setsB; simp only [Bool.or_eq_false_iff, beq_eq_false_iff_ne]; omega
      have t14 : (x.kind == 14) = false := by rw [beq_eq_false_iff_ne]; omega
      have t8 : (x.kind == 8) = false := by rw [beq_eq_false_iff_ne]; omega
      have eo : ownOk x = (nameB x.box && flB x.flags && decide ((x.text.length : Int) ≤ 40)) := by unfold ownOk; rw [if_neg (by omega), if_pos (by omega)]
      rw [eo, hb1, hb2, t14, t8, hfi (by omega)]
      generalize tagB x.tag = b0
      generalize nameB x.box = b1
      generalize flB x.flags = b2
      generalize decide ((x.text.length : Int) ≤ 40) = b3
      cases b0 <;> cases b1 <;> cases b2 <;> cases b3 <;> rfl
    by_cases k7 : x.kind = 7
    · have hb1 : boxedB x.kind = false := by unfold boxedB; simp only [Bool.or_eq_false_iff, beq_eq_false_iff_ne]; omega
      have hb2 : setsB x.kind = true := by unfold setsB; simp only [Bool.or_eq_true, beq_iff_eq]; omega
      have t14 : (x.kind == 14) = false := by rw [beq_eq_false_iff_ne]; omega
      have t8 : (x.kind == 8) = false := by rw [beq_eq_false_iff_ne]; omega
      have eo : ownOk x = (setB x.sset) := by unfold ownOk; rw [if_neg (by omega), if_neg (by omega), if_pos (by omega)]
      rw [eo, hb1, hb2, t14, t8, hf (by omega), ht (by omega), hfi (by omega)]
      generalize tagB x.tag = b0
      generalize setB x.sset = b1
      cases b0 <;> cases b1 <;> rfl
    by_cases k10 : x.kind = 10
    · have hb1 : boxedB x.kind = true := by unfold boxedB; simp only [Bool.or_eq_true, beq_iff_eq]; omega
      have hb2 : setsB x.kind = true := by unfold setsB; simp only [Bool.or_eq_true, beq_iff_eq]; omega
      have t14 : (x.kind == 14) = false := by rw [beq_eq_false_iff_ne]; omega
      have t8 : (x.kind == 8) = false := by rw [beq_eq_false_iff_ne]; omega
      have eo : ownOk x = (setB x.sset && nameB x.box) := by unfold ownOk; rw [if_neg (by omega), if_neg (by omega), if_neg (by omega), if_pos (by omega)]
      rw [eo, hb1, hb2, t14, t8, hf (by omega), ht (by omega), hfi (by omega)]
      generalize tagB x.tag = b0
      generalize nameB x.box = b1
      generalize setB x.sset = b2
      cases b0 <;> cases b1 <;> cases b2 <;> rfl
    by_cases k8 : x.kind = 8
    · have hb1 : boxedB x.kind = false := by unfold boxedB; simp only [Bool.or_eq_false_iff, beq_eq_false_iff_ne]; omega
      have hb2 : setsB x.kind = true := by unfold setsB; simp only [Bool.or_eq_true, beq_iff_eq]; omega
      have t14 : (x.kind == 14) = false := by rw [beq_eq_false_iff_ne]; omega
      have t8 : (x.kind == 8) = true := by rw [beq_iff_eq]; omega
      have eo : ownOk x = (setB x.sset && opB x.op && flB x.flags) := by unfold ownOk; rw [if_neg (by omega), if_neg (by omega), if_neg (by omega), if_neg (by omega), if_pos (by omega)]
      rw [eo, hb1, hb2, t14, t8, ht (by omega), hfi (by omega)]
      generalize tagB x.tag = b0
      generalize setB x.sset = b1
      generalize opB x.op = b2
      generalize flB x.flags = b3
      cases b0 <;> cases b1 <;> cases b2 <;> cases b3 <;> rfl
    by_cases k6 : x.kind = 6
    · have hb1 : boxedB x.kind = false := by unfold boxedB; simp only [Bool.or_eq_false_iff, beq_eq_false_iff_ne]; omega
      have hb2 : setsB x.kind = false := by unfold setsB; simp only [Bool.or_eq_false_iff, beq_eq_false_iff_ne]; omega
      have t14 : (x.kind == 14) = false := by rw [beq_eq_false_iff_ne]; omega
      have t8 : (x.kind == 8) = false := by rw [beq_eq_false_iff_ne]; omega
      have eo : ownOk x = (filterB x.filter) := by unfold ownOk; rw [if_neg (by omega), if_neg (by omega), if_neg (by omega), if_neg (by omega), if_neg (by omega), if_pos (by omega)]
      rw [eo, hb1, hb2, t14, t8, hf (by omega), ht (by omega)]
      generalize tagB x.tag = b0
      generalize filterB x.filter = b1
      cases b0 <;> cases b1 <;> rfl
    by_cases kb : x.kind = 2 ∨ x.kind = 12 ∨ x.kind = 13
    · have hb1 : boxedB x.kind = true := by unfold boxedB; simp only [Bool.or_eq_true, beq_iff_eq]; omega
      have hb2 : setsB x.kind = false := by unfold setsB; simp only [Bool.or_eq_false_iff, beq_eq_false_iff_ne]; omega
      have t14 : (x.kind == 14) = false := by rw [beq_eq_false_iff_ne]; omega
      have t8 : (x.kind == 8) = false := by rw [beq_eq_false_iff_ne]; omega
      have eo : ownOk x = (nameB x.box) := by unfold ownOk; rw [if_neg (by omega), if_neg (by omega), if_neg (by omega), if_neg (by omega), if_neg (by omega), if_neg (by omega), if_pos (by rw [hb1])]
      rw [eo, hb1, hb2, t14, t8, hf (by omega), ht (by omega), hfi (by omega)]
      generalize tagB x.tag = b0
      generalize nameB x.box = b1
      cases b0 <;> cases b1 <;> rfl
    have hb1 : boxedB x.kind = false := by unfold boxedB; simp only [Bool.or_eq_false_iff, beq_eq_false_iff_ne]; omega
    have hb2 : setsB x.kind = false := by unfold setsB; simp only [Bool.or_eq_false_iff, beq_eq_false_iff_ne]; omega
    have t14 : (x.kind == 14) = false := by rw [beq_eq_false_iff_ne]; omega
    have t8 : (x.kind == 8) = false := by rw [beq_eq_false_iff_ne]; omega
    have eo : ownOk x = (true) := by unfold ownOk; rw [if_neg (by omega), if_neg (by omega), if_neg (by omega), if_neg (by omega), if_neg (by omega), if_neg (by omega), if_neg (by rw [hb1]; decide)]
    rw [eo, hb1, hb2, t14, t8, hf (by omega), ht (by omega), hfi (by omega)]
    generalize tagB x.tag = b0
    cases b0 <;> rfl
  · rw [decide_eq_false hd]
    unfold cmdB
    rw [decide_eq_false hd]
    simp

set_option maxRecDepth 20000 in
set_option maxHeartbeats 6400000 in
theorem implCommandOk_at (x : CmdD) (a5 a10 : Value) (w : World) (ha : LfRd w (spnsLf x.sset) a5) (ha2 : LfRd w (scpsLf x.filter.scopes) a10) (hs : szLs x.lf ≤ 1048576) (hbd : LsBnd x.lf) :
    Calls Try.prog 12 #[cmdv x a5 a10] w fun e w' => e = .returned (.bool (cmdB x)) ∧ Below w.heap.size w w' := by
  have cE := fun W (h : Below w.heap.size w W) => implSameCommand_at x (saidC x) a5 a10 (said5 x a5) (said10 x a10) W (LfRd.below h _ _ ha) (LfRd.below h _ _ ha2) (said5_rd (LfRd.below h _ _ ha)) (said10_rd (LfRd.below h _ _ ha2)) hs hbd (said_small hs) (said_bnd hbd)
  have hsw : decide (x = saidC x) = decide (saidC x = x) := by
    by_cases h : x = saidC x
    · rw [decide_eq_true h, decide_eq_true h.symm]
    · rw [decide_eq_false h, decide_eq_false (fun e => h e.symm)]
  simp only [hsw] at cE
  have ha' := ha
  have ha2' := ha2
  obtain ⟨p, c, rfl, _⟩ := Spn.at ha
  obtain ⟨q, d, rfl, _⟩ := scps_at ha2
  obtain ⟨p5, c5, e5, _⟩ := Spn.at (said5_rd (x := x) ha')
  obtain ⟨p10, c10, e10, _⟩ := scps_at (said10_rd (x := x) ha2')
  rw [e5, e10] at cE
  have cT := fun W => implTagOk_at ⟨x.tag.toArray⟩ W (by have := (CmdD.small hs).1; unfold maxLen; show x.tag.toArray.size ≤ _; simp; omega)
  have CE := Lib.hid cE
  have CT := Lib.hid cT
  clear cE cT
  by_cases hk : 1 ≤ x.kind ∧ x.kind ≤ 15
  · have cO := fun W (h : Below w.heap.size w W) => ownFields_yes x p q c d W hk (LfRd.below h _ _ ha') (LfRd.below h _ _ ha2') hs hbd
    rw [e5, e10] at cO
    simp only [cmdv] at cO
    have CO := Lib.hid cO
    have HV := Lib.hid (cmdB_own x hk)
    clear cO ha' ha2' hs hbd hk hsw
    cases eO : ownOk x with
    | false =>
      rw [eO] at CO HV
      go_enter Try.func12, Try.ntmps12
      go_wp2_with fail
      refine (CO.out _ ((Below.refl _ _).alloc (Nat.le_refl _) _)).mono ?_
      rintro e w1 ⟨rfl, b1⟩
      have H1 := Lib.hid ((Own1.of (w := w) rfl).call b1)
      clear b1
      go_upto_region 2 with fail
      refine wp_named ?_
      intro X hX
      have H2 := Lib.hid (H1.out.call (show Below w1.heap.size w1 X from by rw [hX]; exact (Below.refl _ _).alloc (Nat.le_refl _) _))
      have HBX := Lib.hid H2.out.b
      clear hX
      go_wp2
      go_ret
      exact ⟨by rw [← HV.out]; simp, HBX.out⟩
    | true =>
      cases eT : tagB x.tag with
      | false =>
        rw [eO] at CO HV
        rw [eT] at HV
        rw [show tagB (ByteArray.mk x.tag.toArray).data.toList = false from eT] at CT
        go_enter Try.func12, Try.ntmps12
        go_wp2_with fail
        refine (CO.out _ ((Below.refl _ _).alloc (Nat.le_refl _) _)).mono ?_
        rintro e w1 ⟨rfl, b1⟩
        have H1 := Lib.hid ((Own1.of (w := w) rfl).call b1)
        clear b1
        go_upto_region 2 with fail
        refine wp_named ?_
        intro X hX
        have H2 := Lib.hid (H1.out.call (show Below w1.heap.size w1 X from by rw [hX]; exact (Below.refl _ _).alloc (Nat.le_refl _) _))
        have O2 := Lib.hid (show X.heap[w1.heap.size]? = some (.cells #[sv (saidC x).tag, .int .i64 (saidC x).kind, sv (saidC x).box, sv (saidC x).to, .bool (saidC x).uid, (.slice p5 (saidC x).sset.length c5), .int .i64 (saidC x).op, .int .i64 (saidC x).flags, sv (saidC x).text, .bool (saidC x).filter.on, (.slice p10 (saidC x).filter.scopes.length c10)] 36 (0, 0)) from by rw [hX]; exact heap_alloc_new _ _)
        clear hX
        have a0 := (Lib.cell_of_heap H2.out.a 0).trans (show _ = some (sv x.tag) from rfl)
        go_wp2_with fail
        refine (CT.out _).mono ?_
        rintro e w3 ⟨rfl, b3⟩
        have hbz := H2.out.call b3
        clear b3
        go_wp2
        go_ret
        exact ⟨by rw [← HV.out]; simp, hbz.b⟩
      | true =>
        rw [eO] at CO HV
        rw [eT] at HV
        rw [show tagB (ByteArray.mk x.tag.toArray).data.toList = true from eT] at CT
        go_enter Try.func12, Try.ntmps12
        go_wp2_with fail
        refine (CO.out _ ((Below.refl _ _).alloc (Nat.le_refl _) _)).mono ?_
        rintro e w1 ⟨rfl, b1⟩
        have H1 := Lib.hid ((Own1.of (w := w) rfl).call b1)
        clear b1
        go_upto_region 2 with fail
        refine wp_named ?_
        intro X hX
        have H2 := Lib.hid (H1.out.call (show Below w1.heap.size w1 X from by rw [hX]; exact (Below.refl _ _).alloc (Nat.le_refl _) _))
        have O2 := Lib.hid (show X.heap[w1.heap.size]? = some (.cells #[sv (saidC x).tag, .int .i64 (saidC x).kind, sv (saidC x).box, sv (saidC x).to, .bool (saidC x).uid, (.slice p5 (saidC x).sset.length c5), .int .i64 (saidC x).op, .int .i64 (saidC x).flags, sv (saidC x).text, .bool (saidC x).filter.on, (.slice p10 (saidC x).filter.scopes.length c10)] 36 (0, 0)) from by rw [hX]; exact heap_alloc_new _ _)
        clear hX
        have a0 := (Lib.cell_of_heap H2.out.a 0).trans (show _ = some (sv x.tag) from rfl)
        go_wp2_with fail
        refine (CT.out _).mono ?_
        rintro e w3 ⟨rfl, b3⟩
        have H3 := Lib.hid (H2.out.call b3)
        have O3 := Lib.hid ((b3.block w1.heap.size (Array.getElem?_eq_some_iff.1 O2.out).1).trans O2.out)
        clear b3 a0
        have a0 := (Lib.cell_of_heap H3.out.a 0).trans (show _ = some (sv x.tag) from rfl)
        have a1 := (Lib.cell_of_heap H3.out.a 1).trans (show _ = some (.int .i64 x.kind) from rfl)
        have a2 := (Lib.cell_of_heap H3.out.a 2).trans (show _ = some (sv x.box) from rfl)
        have a3 := (Lib.cell_of_heap H3.out.a 3).trans (show _ = some (sv x.to) from rfl)
        have a4 := (Lib.cell_of_heap H3.out.a 4).trans (show _ = some (.bool x.uid) from rfl)
        have a5 := (Lib.cell_of_heap H3.out.a 5).trans (show _ = some (.slice p x.sset.length c) from rfl)
        have a6 := (Lib.cell_of_heap H3.out.a 6).trans (show _ = some (.int .i64 x.op) from rfl)
        have a7 := (Lib.cell_of_heap H3.out.a 7).trans (show _ = some (.int .i64 x.flags) from rfl)
        have a8 := (Lib.cell_of_heap H3.out.a 8).trans (show _ = some (sv x.text) from rfl)
        have a9 := (Lib.cell_of_heap H3.out.a 9).trans (show _ = some (.bool x.filter.on) from rfl)
        have a10 := (Lib.cell_of_heap H3.out.a 10).trans (show _ = some (.slice q x.filter.scopes.length d) from rfl)
        have o0 := (Lib.cell_of_heap O3.out 0).trans (show _ = some (sv (saidC x).tag) from rfl)
        have o1 := (Lib.cell_of_heap O3.out 1).trans (show _ = some (.int .i64 (saidC x).kind) from rfl)
        have o2 := (Lib.cell_of_heap O3.out 2).trans (show _ = some (sv (saidC x).box) from rfl)
        have o3 := (Lib.cell_of_heap O3.out 3).trans (show _ = some (sv (saidC x).to) from rfl)
        have o4 := (Lib.cell_of_heap O3.out 4).trans (show _ = some (.bool (saidC x).uid) from rfl)
        have o5 := (Lib.cell_of_heap O3.out 5).trans (show _ = some ((.slice p5 (saidC x).sset.length c5)) from rfl)
        have o6 := (Lib.cell_of_heap O3.out 6).trans (show _ = some (.int .i64 (saidC x).op) from rfl)
        have o7 := (Lib.cell_of_heap O3.out 7).trans (show _ = some (.int .i64 (saidC x).flags) from rfl)
        have o8 := (Lib.cell_of_heap O3.out 8).trans (show _ = some (sv (saidC x).text) from rfl)
        have o9 := (Lib.cell_of_heap O3.out 9).trans (show _ = some (.bool (saidC x).filter.on) from rfl)
        have o10 := (Lib.cell_of_heap O3.out 10).trans (show _ = some ((.slice p10 (saidC x).filter.scopes.length c10)) from rfl)
        go_wp2_with fail
        refine (CE.out _ H3.out.b).mono ?_
        rintro e w4 ⟨rfl, b4⟩
        have hbz := H3.out.call b4
        clear b4 a0 a1 a2 a3 a4 a5 a6 a7 a8 a9 a10 o0 o1 o2 o3 o4 o5 o6 o7 o8 o9 o10
        go_wp2
        go_ret
        exact ⟨by rw [← HV.out]; simp, hbz.b⟩
  · have CO := Lib.hid (fun W => own_no x p q c d W hk)
    have HV := Lib.hid (show cmdB x = false from by
      unfold cmdB
      by_cases h1 : 1 ≤ x.kind
      · rw [decide_eq_false (show ¬ x.kind ≤ 15 from fun h2 => hk ⟨h1, h2⟩)]; simp
      · rw [decide_eq_false h1]; simp)
    clear ha' ha2' hs hbd hk hsw CE CT
    go_enter Try.func12, Try.ntmps12
    go_wp2_with fail
    refine (CO.out _).mono ?_
    rintro e w1 ⟨rfl, b1⟩
    have H1 := Lib.hid ((Own1.of (w := w) rfl).call b1)
    clear b1
    go_upto_region 2 with fail
    refine wp_named ?_
    intro X hX
    have H2 := Lib.hid (H1.out.call (show Below w1.heap.size w1 X from by rw [hX]; exact (Below.refl _ _).alloc (Nat.le_refl _) _))
    clear hX
    go_wp2
    go_ret
    exact ⟨by rw [HV.out]; rfl, H2.out.b⟩
theorem implCommandOk_c {G : World → Prop} : CtrCommandOk 12 G := fun x r5 r10 W _ h1 h2 hs hb => implCommandOk_at x r5 r10 W h1 h2 hs hb

end Go.Proofs.Ytidjebepgpbcnaa
