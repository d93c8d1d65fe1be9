/-
  Xl: AppliC (what the claim needs of them).
-/
import Derived.Deep.LoopGhost
import Derived.Handy
import Derived.Maps.OwnIn
import Derived.Sort.KeysCollected
import Derived.RangeFuncNested
import Derived.RangeFuncLeaves
import Derived.RangeFuncWrites
import Derived.WalkKit
import Derived.OwnWalkIn
import Derived.TacticsInMore
import Derived.LoopNIn
import Derived.LoopIn
import Derived.Maps.OwnSet
import Derived.Maps.RangeWalk
import Derived.Sort.OwnSorted
import Derived.Sort.EveryDepth
import Derived.Deep.DeepCutAuto
import Derived.Lib.SliceRun
import Derived.Test.YtbfgdbpfecffcaaGreatDoorRows
import Derived.WalkSpells
import Derived.WalkLawsBesides
import Derived.Laws.IdiomStrings
import Derived.Lib.Hide
import Derived.Deep.AppendLies
import Derived.OrdersHeld
import Derived.Lib.ItoaNum
import Derived.Lib.ItoaMem
import Derived.Lib.AppendStr
import Derived.Lib.ItoaLen
import Derived.Lib.Strings
import Derived.Lib.Bytealg
import Derived.Lib.OthersKept
import Derived.Laws.RangeAny
import Derived.Laws.BitsAllLaws
import Derived.Laws.BitsLemmas
import Derived.IntWalk
import Derived.LaidEql
import Derived.Stop.Asserts
import Derived.RowKitTokens
import Derived.Lib.Join
import Derived.Deep.Strs
import Derived.Test.YtbfgdbpfecffcaaGreatDoorProg
import Derived.Laws.Tables
import Derived.Test.YtbfgdbpfecffcaaGreatDoorWb
import Derived.Test.YtbfgdbpfecffcaaGreatDoorWc
import Derived.Test.YtbfgdbpfecffcaaGreatDoorWd
import Derived.Test.YtbfgdbpfecffcaaGreatDoorWe
import Derived.Test.YtbfgdbpfecffcaaGreatDoorWf
import Derived.Test.YtbfgdbpfecffcaaGreatDoorWh
import Derived.Test.YtbfgdbpfecffcaaGreatDoorWi
import Derived.Test.YtbfgdbpfecffcaaGreatDoorWm
import Derived.Test.YtbfgdbpfecffcaaGreatDoorWo
import Derived.Test.YtbfgdbpfecffcaaGreatDoorWp
import Derived.Test.YtbfgdbpfecffcaaGreatDoorWq
import Derived.Test.YtbfgdbpfecffcaaGreatDoorWr
import Derived.Test.YtbfgdbpfecffcaaGreatDoorWs
import Derived.Test.YtbfgdbpfecffcaaGreatDoorWx
import Derived.Test.YtbfgdbpfecffcaaGreatDoorWy
import Derived.Test.YtbfgdbpfecffcaaGreatDoorWz
import Derived.Test.YtbfgdbpfecffcaaGreatDoorXa
import Derived.Test.YtbfgdbpfecffcaaGreatDoorXc
import Derived.Test.YtbfgdbpfecffcaaGreatDoorXd
import Derived.Test.YtbfgdbpfecffcaaGreatDoorXe
import Derived.Test.YtbfgdbpfecffcaaGreatDoorXf
import Derived.Test.YtbfgdbpfecffcaaGreatDoorXg
import Derived.Test.YtbfgdbpfecffcaaGreatDoorXj

namespace Go.Proofs.YtbfgdbpfecffcaaGreatDoor
open Go.RowKit

theorem cell_lt {W W' : World} {a : Addr} {u : Value} (hb : Below W.heap.size W W') (h : W.cell? a = some u) : W'.cell? a = some u := (hb.cell (World.block_lt_of_cell? _ _ h)).trans h
theorem find_box {A : List BoxD} {y : BoxD} (h : boxesB A = true) (hm : y ∈ A) : ∃ j : Nat, A[j]? = some y ∧ bxWith A y.validity = (j : Int) := by
  obtain ⟨j, hj⟩ := List.getElem?_of_mem hm
  exact ⟨j, hj, boxes_with h hj⟩
/-- A box of another Validity stays as it was. -/
theorem apart_out {l : List BoxD} {x : ComD} {i : Nat} {y : BoxD} (h : appB l x = true) (hy : l[i]? = some y) (hv : y.validity ≠ x.validity) : ∃ j : Nat, (doneL l x)[j]? = some y ∧ bxWith (doneL l x) y.validity = (j : Int) := by
  refine find_box (done_right h) ?_
  obtain ⟨h1, h2, h3, h4⟩ := app_parts h
  have hm := List.mem_of_getElem? hy
  unfold doneL
  by_cases e1 : x.kind = 1
  · rw [if_pos e1]
    exact (lay_perm ..).mem_iff.2 (List.mem_cons_of_mem _ hm)
  rw [if_neg e1]
  obtain ⟨b, hb, hbv, _⟩ := h4 e1
  rw [hb]
  simp only
  have hik : i ≠ whereB l x.validity := fun e => by rw [e, hb] at hy; injection hy with hy; rw [← hy] at hv; exact hv hbv
  have hme : y ∈ l.eraseIdx (whereB l x.validity) := List.mem_eraseIdx_iff_getElem?.2 ⟨i, hik, hy⟩
  split
  · exact hme
  · split
    · exact (lay_perm ..).mem_iff.2 (List.mem_cons_of_mem _ hme)
    · exact List.mem_of_getElem? (i := i) (by rw [List.getElem?_set_ne (Ne.symm hik)]; exact hy)
theorem after_next {b : BoxD} {m : ComD} (h : m.kind = 4 → b.next = m.uid) : b.next ≤ (boxAfter b m).next := by
  unfold boxAfter
  split
  · rename_i h4
    have := h h4
    simp only
    omega
  · split
    · exact Int.le_refl _
    · split <;> exact Int.le_refl _
/-- The box of the commit's own Validity: gone just by a deletion, its Next never less. -/
theorem apart_in {l : List BoxD} {x : ComD} {i : Nat} {y : BoxD} (h : appB l x = true) (hy : l[i]? = some y) (hv : y.validity = x.validity) :
    (x.kind = 2 ∧ bxWith (doneL l x) y.validity < 0) ∨ ∃ (j : Nat) (z : BoxD), (doneL l x)[j]? = some z ∧ bxWith (doneL l x) y.validity = (j : Int) ∧ y.next ≤ z.next := by
  have hr := done_right h
  obtain ⟨h1, h2, h3, h4⟩ := app_parts h
  by_cases e1 : x.kind = 1
  · exact absurd hv (with_not (h3 e1).2.1 y (List.mem_of_getElem? hy))
  obtain ⟨b, hb, hbv, _, n4, _⟩ := h4 e1
  have hik : i = whereB l x.validity := by
    have w1 := boxes_with h1 hy
    have w2 := boxes_with h1 hb
    rw [hv] at w1
    rw [hbv] at w2
    omega
  subst hik
  rw [hb] at hy
  injection hy with hy
  subst hy
  have key : ∀ z : BoxD, z ∈ doneL l x → z.validity = b.validity → b.next ≤ z.next → ∃ (j : Nat) (z : BoxD), (doneL l x)[j]? = some z ∧ bxWith (doneL l x) b.validity = (j : Int) ∧ b.next ≤ z.next := fun z hz hzv hn => by
    obtain ⟨j, hj, hw⟩ := find_box hr hz
    exact ⟨j, z, hj, by rw [← hzv]; exact hw, hn⟩
  by_cases e2 : x.kind = 2
  · refine .inl ⟨e2, ?_⟩
    rw [done_2 e2 hb]
    refine Int.not_le.1 fun hc => ?_
    obtain ⟨b', hb', hv'⟩ := with_at (Int.not_lt.2 hc)
    obtain ⟨i', hi', hl'⟩ := List.mem_eraseIdx_iff_getElem?.1 (List.mem_of_getElem? hb')
    have w1 := boxes_with h1 hl'
    have w2 := boxes_with h1 hb
    rw [hv'] at w1
    exact hi' (by omega)
  refine .inr ?_
  by_cases e3 : x.kind = 3
  · refine key { b with name := x.name } ?_ rfl (Int.le_refl _)
    rw [done_3 e3 hb]
    exact (lay_perm ..).mem_iff.2 (List.mem_cons_self ..)
  · have hk := (commit_parts h2).1
    refine key (boxAfter b x) ?_ (after_keeps b x).2 (after_next fun h => (n4 h).1)
    rw [done_4 (by omega) hb]
    exact List.mem_of_getElem? (i := whereB l x.validity) (by rw [List.getElem?_set_self (List.getElem?_eq_some_iff.1 hb).1])

set_option maxRecDepth 20000 in
set_option maxHeartbeats 12800000 in
theorem FnApart_any (v : Value) (code : List UInt8) (w : World) (hE : ErrG w) (hr : Rd1 bv w v code) :
    Calls Tryz.prog 4 #[v] w fun e w' => e = .returned (.bool true) ∧ Below w.heap.size w w' := by
  have HR := Lib.hid hr
  have HB := Lib.hid (big_any v code w hr)
  have HE := Lib.hid hE
  clear hr hE
  by_cases hbig : code.length ≤ 1048576
  case neg =>
    have hq : (1048576 : Int) < (code.length : Int) := by omega
    go_enter Tryz.func4, Tryz.ntmps4
    go_wp2_with fail
    refine (HB.out).mono ?_
    rintro e w' ⟨rfl, rfl⟩
    go_wp2
    go_ret
    exact ⟨rfl, Below.refl _ _⟩
  have hq : ¬ (1048576 : Int) < (code.length : Int) := by omega
  go_enter Tryz.func4, Tryz.ntmps4
  go_wp2_with fail
  refine (HB.out).mono ?_
  rintro e w' ⟨rfl, rfl⟩
  clear HB
  go_wp2_with fail
  refine (DrawApplied_any v code _ HR.out hbig).mono ?_
  rintro e w1 ⟨l, v1, fp, x, rfl, h5, hsm, hx, hin, _, b1⟩
  obtain ⟨p, c, rfl⟩ := LfIn.slice hin
  have HD := Lib.hid (And.intro h5 (And.intro hsm (And.intro hx (And.intro hin b1))))
  clear h5 hsm hx hin b1 HR
  go_upto_region 4 with fail
  refine wp_named9 ?_
  intro X hX
  have HX := Lib.hid (show X.heap[w1.heap.size]? = some (.cells #[.int .i64 x.kind, .int .i64 x.validity, .int .i64 x.uid, .int .i64 x.flags, sv x.name, sv x.text] 26 (0, 0)) ∧ LfIn X (boxsLf l) (.slice p l.length c) fp ∧ Below w.heap.size w X ∧ w1.heap.size < X.heap.size ∧ ErrG X by
    rw [hX]
    obtain ⟨_, _, _, hin, b1⟩ := HD.out
    have hb := (Below.refl w1.heap.size w1).alloc (Nat.le_refl _) (.cells #[.int .i64 x.kind, .int .i64 x.validity, .int .i64 x.uid, .int .i64 x.flags, sv x.name, sv x.text] 26)
    have hbw := b1.alloc b1.size (.cells #[.int .i64 x.kind, .int .i64 x.validity, .int .i64 x.uid, .int .i64 x.flags, sv x.name, sv x.text] 26)
    exact ⟨heap_alloc_new w1 _, hin.below hb, hbw, by simp, errG_keeps _ _ HE.out hbw⟩)
  clear hX
  generalize w1.heap.size = m at *
  have HF := Lib.hid (boxes_fine HD.out.1 HD.out.2.1)
  have HV := Lib.hid (fun W (g : Below X.heap.size X W) => (⟨com_cells ((g.block m HX.out.2.2.2.1).trans HX.out.1), HX.out.2.1.below g, errG_keeps _ _ HX.out.2.2.2.2 g⟩ : (W.cell? ⟨m, 0, none⟩ = some (.int .i64 x.kind) ∧ W.cell? ⟨m, 1, none⟩ = some (.int .i64 x.validity) ∧ W.cell? ⟨m, 2, none⟩ = some (.int .i64 x.uid) ∧ W.cell? ⟨m, 3, none⟩ = some (.int .i64 x.flags) ∧ W.cell? ⟨m, 4, none⟩ = some (sv x.name) ∧ W.cell? ⟨m, 5, none⟩ = some (sv x.text)) ∧ LfIn W (boxsLf l) (.slice p l.length c) fp ∧ ErrG W))
  have HC := Lib.hid (CapLe.of_in HX.out.2.1)
  have CI := Lib.hid (implApplied_c l (.slice p l.length c) x X HX.out.2.2.2.2 (LfIn.rd _ _ _ HX.out.2.1) HC.out HF.out.1 HF.out.2 HD.out.2.2.1.fine.1 HD.out.2.2.1.fine.2)
  have CS := Lib.hid (fun W (g : Below X.heap.size X W) => specApplied_c l (.slice p l.length c) x W trivial (LfIn.rd _ _ _ (HV.out W g).2.1) HC.out HF.out.1 HF.out.2 HD.out.2.2.1.fine.1 HD.out.2.2.1.fine.2)
  have HQ := Lib.hid (applied_q x HD.out.1 HD.out.2.1)
  have HAPP := Lib.hid (show appB l x = true → appliedL l x = doneL l x from applied_yes)
  have HOUT := Lib.hid (fun (h : appB l x = true) (i : Nat) (y : BoxD) (hy : l[i]? = some y) => (show (y.validity ≠ x.validity → ∃ j : Nat, (appliedL l x)[j]? = some y ∧ bxWith (appliedL l x) y.validity = (j : Int)) ∧ (y.validity = x.validity → (x.kind = 2 ∧ bxWith (appliedL l x) y.validity < 0) ∨ ∃ (j : Nat) (z : BoxD), (appliedL l x)[j]? = some z ∧ bxWith (appliedL l x) y.validity = (j : Int) ∧ y.next ≤ z.next) from by
    rw [applied_yes h]; exact ⟨apart_out h hy, apart_in h hy⟩))
  clear HAPP
  generalize appliedL l x = A at *
  generalize appB l x = t at *
  have htt : (t != t) = false := by cases t <;> rfl
  have hte : (t == t) = true := by cases t <;> rfl
  have HFA := Lib.hid (boxes_fine HQ.out.1 HQ.out.2)
  have hbX := HX.out.2.2.1
  obtain ⟨⟨a0, a1, a2, a3, a4, a5⟩, -, -⟩ := HV.out X (Below.refl _ _)
  go_wp2_with fail
  refine CI.out.mono ?_
  rintro e w3 ⟨z0, f0, rfl, hz0, _, _, b3⟩
  obtain ⟨pz, cz, rfl⟩ := LfIn.slice hz0
  have HZ0 := Lib.hid hz0
  clear CI hz0 a0 a1 a2 a3 a4 a5
  obtain ⟨⟨a0, a1, a2, a3, a4, a5⟩, -, -⟩ := HV.out w3 b3
  go_wp2_with fail
  refine (CS.out w3 b3).mono ?_
  rintro e w4 ⟨z1, f1, rfl, hz1, _, _, b4⟩
  have b4X := b3.trans (b4.mono b3.size)
  have HZ1 := Lib.hid (HZ0.out.below b4)
  obtain ⟨py1, cy1, rfl⟩ := LfIn.slice hz1
  clear CS hz1 b3 b4 a0 a1 a2 a3 a4 a5 HZ0
  have HW4 := Lib.hid (fun W (g : Below w4.heap.size w4 W) => (⟨HZ1.out.below g, (HV.out W (b4X.trans (g.mono b4X.size))).2.1, (HV.out W (b4X.trans (g.mono b4X.size))).1⟩ : LfIn W (boxsLf A) (.slice pz A.length cz) f0 ∧ LfIn W (boxsLf l) (.slice p l.length c) fp ∧ (W.cell? ⟨m, 0, none⟩ = some (.int .i64 x.kind) ∧ W.cell? ⟨m, 1, none⟩ = some (.int .i64 x.validity) ∧ W.cell? ⟨m, 2, none⟩ = some (.int .i64 x.uid) ∧ W.cell? ⟨m, 3, none⟩ = some (.int .i64 x.flags) ∧ W.cell? ⟨m, 4, none⟩ = some (sv x.name) ∧ W.cell? ⟨m, 5, none⟩ = some (sv x.text))))
  have hb4 := hbX.trans (b4X.mono hbX.size)
  clear HZ1 HV b4X hbX
  cases t with
  | false =>
    have hfin := hb4
    clear HW4 hb4 HOUT
    go_wp2
    go_ret
    exact ⟨rfl, hfin⟩
  | true =>
  have HO := Lib.hid (HOUT.out rfl)
  have HSM := Lib.hid HD.out.2.1
  have CW := Lib.hid (fun W (n : Int) (g : LfIn W (boxsLf A) (.slice pz A.length cz) f0) (hn : in64 n) => specBoxWith_c A (.slice pz A.length cz) n W trivial (LfIn.rd _ _ _ g) HFA.out.1 HFA.out.2 hn)
  have hl5 := HD.out.1
  clear HOUT HD
  have hW4 := hb4.size
  go_wp2_with fail
  go_loopw [9, 10] (fun i _ wr => ∃ k : Nat, k ≤ l.length ∧ i = .int .i64 k ∧ Below w4.heap.size w4 wr) (fun i _ _ => l.length - (intOf i).toNat)
  case atStart => exact ⟨0, by omega, rfl, Below.refl _ _⟩
  case round =>
    obtain ⟨k, hk, rfl, hbr⟩ := hrel
    by_cases hlt : k < l.length
    case neg =>
      have hfin := hb4.trans (hbr.mono hW4)
      go_wp2
      go_ret
      exact ⟨rfl, hfin⟩
    obtain ⟨y, hy⟩ : ∃ y, l[k]? = some y := ⟨_, List.getElem?_eq_getElem hlt⟩
    obtain ⟨b, r3, fx, rfl, ⟨e0, e1, e2, e3⟩, hm3, hfx⟩ := list_at (HW4.out wr hbr).2.1 hy
    obtain ⟨py, cy, rfl⟩ := LfIn.slice hm3
    have HSY := Lib.hid (HSM.out y (List.mem_of_getElem? hy))
    have HOY := Lib.hid (HO.out k y hy)
    have CW2 := Lib.hid (CW.out wr y.validity (HW4.out wr hbr).1 HSY.out.2.1)
    clear hm3 hfx
    have HY3 := Lib.hid (fun W (g : Below wr.heap.size wr W) => (⟨(cell_lt g e0), (cell_lt g e1), (cell_lt g e2), (cell_lt g e3)⟩ : W.cell? ⟨b, k * 4, none⟩ = some (sv y.name) ∧ W.cell? ⟨b, k * 4 + 1, none⟩ = some (.int .i64 y.validity) ∧ W.cell? ⟨b, k * 4 + 2, none⟩ = some (.int .i64 y.next) ∧ W.cell? ⟨b, k * 4 + 3, none⟩ = some (.slice py y.msgs.length cy)))
    have hbrz := hbr.size
    go_wp2_with fail
    refine CW2.out.mono ?_
    rintro e w5 ⟨rfl, b5⟩
    have hb5 := hbr.trans (b5.mono hbrz)
    obtain ⟨e0, e1, e2, e3⟩ := HY3.out w5 b5
    obtain ⟨-, hinB, ⟨a0, a1, -⟩⟩ := HW4.out w5 hb5
    have HIN := Lib.hid (And.intro (HW4.out w5 hb5).1 hinB)
    clear CW2 b5 hbr hbrz HY3 hinB
    by_cases hv : y.validity = x.validity
    case neg =>
      obtain ⟨j, hj, hw⟩ := HOY.out.1 hv
      rw [hw]
      obtain ⟨ba, ra, fa, rfl, ⟨d0, d1, d2, d3⟩, hma, _⟩ := list_at HIN.out.1 hj
      obtain ⟨pa, ca, rfl⟩ := LfIn.slice hma
      obtain ⟨b', r', f', he', ⟨_, _, _, c3⟩, hmb, _⟩ := list_at HIN.out.2 hy
      injection he' with he'
      injection he' with he'
      subst he'
      rw [e3] at c3
      injection c3 with c3
      subst c3
      obtain ⟨sx1, sx2⟩ := box_sz HSY.out
      have HSB := Lib.hid ((specSameBox_c y (.slice pa y.msgs.length ca) y (.slice py y.msgs.length cy) w5.drew.drew trivial (LfRd.below ((Below.refl _ _).drew.drew) _ _ (LfIn.rd _ _ _ hma)) (by omega) sx2 (LfRd.below ((Below.refl _ _).drew.drew) _ _ (LfIn.rd _ _ _ hmb)) (by omega) sx2).mono (R' := fun e w' => e = .returned (.bool true) ∧ Below w5.drew.drew.heap.size w5.drew.drew w') fun e w' h => by simpa using h)
      have hjl : j < A.length := (List.getElem?_eq_some_iff.1 hj).1
      clear hma hmb sx1 sx2 HIN hj hw HOY
      go_wp2
      refine ord_start [(0, true), (1, true), (2, true), (3, true), (4, true), (5, true), (6, true), (7, true)] (fun W => W.cell? ⟨b, k * 4 + 1, none⟩ = some (.int .i64 y.validity) ∧ W.cell? ⟨m, 1, none⟩ = some (.int .i64 x.validity)) (by kernel_rfl) (by kernel_rfl) rfl (by kernel_rfl) ?_
      intro ops' hops
      clear hops
      simp only [List.map_cons, List.map_nil, pickOp_zero, pickOp_succ]
      iterate 2 (refine ord_flo ?_ (fun _ _ _ h => h) rfl ?_ ⟨e1, a1⟩ ?_; rotate_left; focus (intro W hS; obtain ⟨s1, s2⟩ := hS; go_simp; rfl))
      refine ord_flo (.pointer (some ⟨b, k * 4, none⟩)) (fun _ _ _ h => h) rfl ?_ ⟨e1, a1⟩ ?_
      · intro W hS
        obtain ⟨s1, s2⟩ := hS
        go_simp <;> omega
      iterate 4 (refine ord_flo ?_ (fun _ _ _ h => h) rfl ?_ ⟨e1, a1⟩ ?_; rotate_left; focus (intro W hS; obtain ⟨s1, s2⟩ := hS; go_simp; rfl))
      refine ord_flo (.bool true) (fun _ _ _ h => h) rfl ?_ ⟨e1, a1⟩ ?_
      · intro W hS
        obtain ⟨s1, s2⟩ := hS
        go_simp <;> omega
      refine ord_done ?_
      go_simp
      clear a1
      go_wp2
      refine ord_start [(0, true), (1, true), (2, true), (3, true), (4, true), (5, true), (6, true), (7, true), (8, true), (9, true), (10, true), (11, false), (12, true), (13, true)] (fun W => W.cell? ⟨ba, j * 4, none⟩ = some (sv y.name) ∧ W.cell? ⟨ba, j * 4 + 1, none⟩ = some (.int .i64 y.validity) ∧ W.cell? ⟨ba, j * 4 + 2, none⟩ = some (.int .i64 y.next) ∧ W.cell? ⟨ba, j * 4 + 3, none⟩ = some (.slice pa y.msgs.length ca) ∧ W.cell? ⟨b, k * 4, none⟩ = some (sv y.name) ∧ W.cell? ⟨b, k * 4 + 1, none⟩ = some (.int .i64 y.validity) ∧ W.cell? ⟨b, k * 4 + 2, none⟩ = some (.int .i64 y.next) ∧ W.cell? ⟨b, k * 4 + 3, none⟩ = some (.slice py y.msgs.length cy)) (by kernel_rfl) (by kernel_rfl) rfl (by kernel_rfl) ?_
      intro ops' hops
      simp only [List.map_cons, List.map_nil, pickOp_zero, pickOp_succ]
      iterate 1 (refine ord_flo ?_ (fun _ _ _ h => h) rfl ?_ ⟨d0, d1, d2, d3, e0, e1, e2, e3⟩ ?_; rotate_left; focus (intro W hS; obtain ⟨s1, s2, s3, s4, s5, s6, s7, s8⟩ := hS; go_simp; rfl))
      refine ord_flo (.bool false) (fun _ _ _ h => h) (by rw [hops.out]; kernel_rfl) ?_ ⟨d0, d1, d2, d3, e0, e1, e2, e3⟩ ?_
      · intro W hS
        obtain ⟨s1, s2, s3, s4, s5, s6, s7, s8⟩ := hS
        go_simp <;> omega
      iterate 1 (refine ord_flo ?_ (fun _ _ _ h => h) rfl ?_ ⟨d0, d1, d2, d3, e0, e1, e2, e3⟩ ?_; rotate_left; focus (intro W hS; obtain ⟨s1, s2, s3, s4, s5, s6, s7, s8⟩ := hS; go_simp; rfl))
      iterate 2 (refine ord_flo ?_ (fun _ _ _ h => h) (by rw [hops.out]; kernel_rfl) ?_ ⟨d0, d1, d2, d3, e0, e1, e2, e3⟩ ?_; rotate_left; focus (intro W hS; obtain ⟨s1, s2, s3, s4, s5, s6, s7, s8⟩ := hS; go_simp; rfl))
      refine ord_flo (.pointer (some ⟨ba, j * 4, none⟩)) (fun _ _ _ h => h) (by rw [hops.out]; kernel_rfl) ?_ ⟨d0, d1, d2, d3, e0, e1, e2, e3⟩ ?_
      · intro W hS
        obtain ⟨s1, s2, s3, s4, s5, s6, s7, s8⟩ := hS
        go_simp <;> omega
      iterate 3 (refine ord_flo ?_ (fun _ _ _ h => h) (by rw [hops.out]; kernel_rfl) ?_ ⟨d0, d1, d2, d3, e0, e1, e2, e3⟩ ?_; rotate_left; focus (intro W hS; obtain ⟨s1, s2, s3, s4, s5, s6, s7, s8⟩ := hS; go_simp; rfl))
      refine ord_flo (.pointer (some ⟨b, k * 4, none⟩)) (fun _ _ _ h => h) (by rw [hops.out]; kernel_rfl) ?_ ⟨d0, d1, d2, d3, e0, e1, e2, e3⟩ ?_
      · intro W hS
        obtain ⟨s1, s2, s3, s4, s5, s6, s7, s8⟩ := hS
        go_simp <;> omega
      iterate 1 (refine ord_flo ?_ (fun _ _ _ h => h) (by rw [hops.out]; kernel_rfl) ?_ ⟨d0, d1, d2, d3, e0, e1, e2, e3⟩ ?_; rotate_left; focus (intro W hS; obtain ⟨s1, s2, s3, s4, s5, s6, s7, s8⟩ := hS; go_simp; rfl))
      refine ord_ev (by rw [hops.out]; kernel_rfl) ?_
      go_simp
      refine HSB.out.mono ?_
      rintro e w6 ⟨rfl, b6⟩
      have hb6 := Lib.hid (hb5.drew.drew.trans (Below.mono b6 (by show w4.heap.size ≤ w5.heap.size; have := hb5.size; omega)))
      replace d0 := cell_lt b6 d0
      replace d1 := cell_lt b6 d1
      replace d2 := cell_lt b6 d2
      replace d3 := cell_lt b6 d3
      replace e0 := cell_lt b6 e0
      replace e1 := cell_lt b6 e1
      replace e2 := cell_lt b6 e2
      replace e3 := cell_lt b6 e3
      clear b6
      refine ⟨⟨d0, d1, d2, d3, e0, e1, e2, e3⟩, ?_⟩
      iterate 1 (refine ord_flo ?_ (fun _ _ _ h => h) (by rw [hops.out]; kernel_rfl) ?_ ⟨d0, d1, d2, d3, e0, e1, e2, e3⟩ ?_; rotate_left; focus (intro W hS; obtain ⟨s1, s2, s3, s4, s5, s6, s7, s8⟩ := hS; go_simp; rfl))
      iterate 1 (refine ord_flo ?_ (fun _ _ _ h => h) rfl ?_ ⟨d0, d1, d2, d3, e0, e1, e2, e3⟩ ?_; rotate_left; focus (intro W hS; obtain ⟨s1, s2, s3, s4, s5, s6, s7, s8⟩ := hS; go_simp; rfl))
      refine ord_done ?_
      go_simp
      clear d0 d1 d2 d3 e0 e1 e2 e3
      have hb6' := hb6.out
      go_wp2
      go_roundw
      case rel => exact ⟨k + 1, by omega, by go_num, hb6'⟩
      case measure => simp [intOf]; omega
    case pos =>
      rcases HOY.out.2 hv with ⟨hk2, hneg⟩ | ⟨j, z, hj, hw, hnx⟩
      · obtain ⟨q, hq⟩ : ∃ q : Int, bxWith A y.validity = q := ⟨_, rfl⟩
        rw [hq]
        rw [hq] at hneg
        have HK2 := Lib.hid hk2
        have hbd := hb5.drew.drew
        clear hq HIN HOY hk2
        go_wp2
        refine ord_start [(0, true), (1, true), (2, true), (3, true), (4, true), (5, true), (6, true), (7, true)] (fun W => W.cell? ⟨b, k * 4 + 1, none⟩ = some (.int .i64 y.validity) ∧ W.cell? ⟨m, 1, none⟩ = some (.int .i64 x.validity)) (by kernel_rfl) (by kernel_rfl) rfl (by kernel_rfl) ?_
        intro ops' hops
        clear hops
        simp only [List.map_cons, List.map_nil, pickOp_zero, pickOp_succ]
        iterate 2 (refine ord_flo ?_ (fun _ _ _ h => h) rfl ?_ ⟨e1, a1⟩ ?_; rotate_left; focus (intro W hS; obtain ⟨s1, s2⟩ := hS; go_simp; rfl))
        refine ord_flo (.pointer (some ⟨b, k * 4, none⟩)) (fun _ _ _ h => h) rfl ?_ ⟨e1, a1⟩ ?_
        · intro W hS
          obtain ⟨s1, s2⟩ := hS
          go_simp <;> omega
        iterate 4 (refine ord_flo ?_ (fun _ _ _ h => h) rfl ?_ ⟨e1, a1⟩ ?_; rotate_left; focus (intro W hS; obtain ⟨s1, s2⟩ := hS; go_simp; rfl))
        refine ord_flo (.bool false) (fun _ _ _ h => h) rfl ?_ ⟨e1, a1⟩ ?_
        · intro W hS
          obtain ⟨s1, s2⟩ := hS
          go_simp <;> omega
        refine ord_done ?_
        go_simp
        clear a1
        go_wp2
        refine ord_start [(0, true), (1, true), (2, true), (3, true), (4, true), (5, true), (6, true), (7, true), (8, true), (9, true), (10, true), (11, true), (12, true), (13, true), (14, true), (15, true), (16, true), (17, true), (18, true), (19, true), (20, true), (21, true), (22, true), (23, true)] (fun W => W.cell? ⟨b, k * 4 + 2, none⟩ = some (.int .i64 y.next) ∧ W.cell? ⟨m, 0, none⟩ = some (.int .i64 x.kind)) (by kernel_rfl) (by kernel_rfl) rfl (by kernel_rfl) ?_
        intro ops' hops
        simp only [List.map_cons, List.map_nil, pickOp_zero, pickOp_succ]
        iterate 1 (refine ord_flo ?_ (fun _ _ _ h => h) rfl ?_ ⟨e2, a0⟩ ?_; rotate_left; focus (intro W hS; obtain ⟨s2, s3⟩ := hS; go_simp; rfl))
        refine ord_flo (.bool false) (fun _ _ _ h => h) (by rw [hops.out]; kernel_rfl) ?_ ⟨e2, a0⟩ ?_
        · intro W hS
          obtain ⟨s2, s3⟩ := hS
          go_simp <;> omega
        iterate 1 (refine ord_flo ?_ (fun _ _ _ h => h) rfl ?_ ⟨e2, a0⟩ ?_; rotate_left; focus (intro W hS; obtain ⟨s2, s3⟩ := hS; go_simp; rfl))
        iterate 11 (refine ord_not (fun _ _ _ h => h) (by rw [hops.out]; kernel_rfl) ⟨e2, a0⟩ ?_)
        iterate 2 (refine ord_flo ?_ (fun _ _ _ h => h) rfl ?_ ⟨e2, a0⟩ ?_; rotate_left; focus (intro W hS; obtain ⟨s2, s3⟩ := hS; go_simp; rfl))
        iterate 1 (refine ord_flo ?_ (fun _ _ _ h => h) (by rw [hops.out]; kernel_rfl) ?_ ⟨e2, a0⟩ ?_; rotate_left; focus (intro W hS; obtain ⟨s2, s3⟩ := hS; go_simp; rfl))
        refine ord_flo (.bool true) (fun _ _ _ h => h) (by rw [hops.out]; kernel_rfl) ?_ ⟨e2, a0⟩ ?_
        · intro W hS
          obtain ⟨s2, s3⟩ := hS
          go_simp <;> omega
        iterate 3 (refine ord_flo ?_ (fun _ _ _ h => h) (by rw [hops.out]; kernel_rfl) ?_ ⟨e2, a0⟩ ?_; rotate_left; focus (intro W hS; obtain ⟨s2, s3⟩ := hS; go_simp; rfl))
        refine ord_flo (.bool false) (fun _ _ _ h => h) (by rw [hops.out]; kernel_rfl) ?_ ⟨e2, a0⟩ ?_
        · intro W hS
          obtain ⟨s2, s3⟩ := hS
          (have hk2 := HK2.out; go_simp <;> omega)
        iterate 1 (refine ord_flo ?_ (fun _ _ _ h => h) (by rw [hops.out]; kernel_rfl) ?_ ⟨e2, a0⟩ ?_; rotate_left; focus (intro W hS; obtain ⟨s2, s3⟩ := hS; go_simp; rfl))
        iterate 1 (refine ord_flo ?_ (fun _ _ _ h => h) rfl ?_ ⟨e2, a0⟩ ?_; rotate_left; focus (intro W hS; obtain ⟨s2, s3⟩ := hS; go_simp; rfl))
        refine ord_done ?_
        go_simp
        clear e0 e1 e2 e3 a0
        go_wp2
        go_roundw
        case rel => exact ⟨k + 1, by omega, by go_num, hbd⟩
        case measure => simp [intOf]; omega
      · rw [hw]
        obtain ⟨ba, ra, fa, rfl, ⟨d0, d1, d2, d3⟩, hma, _⟩ := list_at HIN.out.1 hj
        obtain ⟨pa, ca, rfl⟩ := LfIn.slice hma
        have hjl : j < A.length := (List.getElem?_eq_some_iff.1 hj).1
        have hbd := hb5.drew.drew
        have hnl : ¬ z.next < y.next := by omega
        clear hma HIN hj hw HOY d0 d1 d3
        go_wp2
        refine ord_start [(0, true), (1, true), (2, true), (3, true), (4, true), (5, true), (6, true), (7, true)] (fun W => W.cell? ⟨b, k * 4 + 1, none⟩ = some (.int .i64 y.validity) ∧ W.cell? ⟨m, 1, none⟩ = some (.int .i64 x.validity)) (by kernel_rfl) (by kernel_rfl) rfl (by kernel_rfl) ?_
        intro ops' hops
        clear hops
        simp only [List.map_cons, List.map_nil, pickOp_zero, pickOp_succ]
        iterate 2 (refine ord_flo ?_ (fun _ _ _ h => h) rfl ?_ ⟨e1, a1⟩ ?_; rotate_left; focus (intro W hS; obtain ⟨s1, s2⟩ := hS; go_simp; rfl))
        refine ord_flo (.pointer (some ⟨b, k * 4, none⟩)) (fun _ _ _ h => h) rfl ?_ ⟨e1, a1⟩ ?_
        · intro W hS
          obtain ⟨s1, s2⟩ := hS
          go_simp <;> omega
        iterate 4 (refine ord_flo ?_ (fun _ _ _ h => h) rfl ?_ ⟨e1, a1⟩ ?_; rotate_left; focus (intro W hS; obtain ⟨s1, s2⟩ := hS; go_simp; rfl))
        refine ord_flo (.bool false) (fun _ _ _ h => h) rfl ?_ ⟨e1, a1⟩ ?_
        · intro W hS
          obtain ⟨s1, s2⟩ := hS
          go_simp <;> omega
        refine ord_done ?_
        go_simp
        clear a1
        go_wp2
        refine ord_start [(0, true), (1, true), (2, true), (3, true), (4, true), (5, true), (6, true), (7, true), (8, true), (9, true), (10, true), (11, true), (12, true), (13, true), (14, true), (15, true), (16, true), (17, true), (18, true), (19, true), (20, true), (21, true), (22, true), (23, true)] (fun W => W.cell? ⟨ba, j * 4 + 2, none⟩ = some (.int .i64 z.next) ∧ W.cell? ⟨b, k * 4 + 2, none⟩ = some (.int .i64 y.next) ∧ W.cell? ⟨m, 0, none⟩ = some (.int .i64 x.kind)) (by kernel_rfl) (by kernel_rfl) rfl (by kernel_rfl) ?_
        intro ops' hops
        simp only [List.map_cons, List.map_nil, pickOp_zero, pickOp_succ]
        iterate 1 (refine ord_flo ?_ (fun _ _ _ h => h) rfl ?_ ⟨d2, e2, a0⟩ ?_; rotate_left; focus (intro W hS; obtain ⟨s1, s2, s3⟩ := hS; go_simp; rfl))
        refine ord_flo (.bool true) (fun _ _ _ h => h) (by rw [hops.out]; kernel_rfl) ?_ ⟨d2, e2, a0⟩ ?_
        · intro W hS
          obtain ⟨s1, s2, s3⟩ := hS
          go_simp <;> omega
        iterate 1 (refine ord_flo ?_ (fun _ _ _ h => h) rfl ?_ ⟨d2, e2, a0⟩ ?_; rotate_left; focus (intro W hS; obtain ⟨s1, s2, s3⟩ := hS; go_simp; rfl))
        iterate 2 (refine ord_flo ?_ (fun _ _ _ h => h) (by rw [hops.out]; kernel_rfl) ?_ ⟨d2, e2, a0⟩ ?_; rotate_left; focus (intro W hS; obtain ⟨s1, s2, s3⟩ := hS; go_simp; rfl))
        refine ord_flo (.pointer (some ⟨ba, j * 4, none⟩)) (fun _ _ _ h => h) (by rw [hops.out]; kernel_rfl) ?_ ⟨d2, e2, a0⟩ ?_
        · intro W hS
          obtain ⟨s1, s2, s3⟩ := hS
          go_simp <;> omega
        iterate 4 (refine ord_flo ?_ (fun _ _ _ h => h) (by rw [hops.out]; kernel_rfl) ?_ ⟨d2, e2, a0⟩ ?_; rotate_left; focus (intro W hS; obtain ⟨s1, s2, s3⟩ := hS; go_simp; rfl))
        refine ord_flo (.pointer (some ⟨b, k * 4, none⟩)) (fun _ _ _ h => h) (by rw [hops.out]; kernel_rfl) ?_ ⟨d2, e2, a0⟩ ?_
        · intro W hS
          obtain ⟨s1, s2, s3⟩ := hS
          go_simp <;> omega
        iterate 2 (refine ord_flo ?_ (fun _ _ _ h => h) (by rw [hops.out]; kernel_rfl) ?_ ⟨d2, e2, a0⟩ ?_; rotate_left; focus (intro W hS; obtain ⟨s1, s2, s3⟩ := hS; go_simp; rfl))
        refine ord_flo (.bool false) (fun _ _ _ h => h) (by rw [hops.out]; kernel_rfl) ?_ ⟨d2, e2, a0⟩ ?_
        · intro W hS
          obtain ⟨s1, s2, s3⟩ := hS
          go_simp <;> omega
        iterate 2 (refine ord_flo ?_ (fun _ _ _ h => h) rfl ?_ ⟨d2, e2, a0⟩ ?_; rotate_left; focus (intro W hS; obtain ⟨s1, s2, s3⟩ := hS; go_simp; rfl))
        iterate 1 (refine ord_flo ?_ (fun _ _ _ h => h) (by rw [hops.out]; kernel_rfl) ?_ ⟨d2, e2, a0⟩ ?_; rotate_left; focus (intro W hS; obtain ⟨s1, s2, s3⟩ := hS; go_simp; rfl))
        refine ord_flo (.bool false) (fun _ _ _ h => h) (by rw [hops.out]; kernel_rfl) ?_ ⟨d2, e2, a0⟩ ?_
        · intro W hS
          obtain ⟨s1, s2, s3⟩ := hS
          go_simp <;> omega
        iterate 1 (refine ord_flo ?_ (fun _ _ _ h => h) (by rw [hops.out]; kernel_rfl) ?_ ⟨d2, e2, a0⟩ ?_; rotate_left; focus (intro W hS; obtain ⟨s1, s2, s3⟩ := hS; go_simp; rfl))
        iterate 3 (refine ord_not (fun _ _ _ h => h) (by rw [hops.out]; kernel_rfl) ⟨d2, e2, a0⟩ ?_)
        iterate 1 (refine ord_flo ?_ (fun _ _ _ h => h) (by rw [hops.out]; kernel_rfl) ?_ ⟨d2, e2, a0⟩ ?_; rotate_left; focus (intro W hS; obtain ⟨s1, s2, s3⟩ := hS; go_simp; rfl))
        iterate 1 (refine ord_flo ?_ (fun _ _ _ h => h) rfl ?_ ⟨d2, e2, a0⟩ ?_; rotate_left; focus (intro W hS; obtain ⟨s1, s2, s3⟩ := hS; go_simp; rfl))
        refine ord_done ?_
        go_simp
        clear d2 e0 e1 e2 e3 a0
        go_wp2
        go_roundw
        case rel => exact ⟨k + 1, by omega, by go_num, hbd⟩
        case measure => simp [intOf]; omega

end Go.Proofs.YtbfgdbpfecffcaaGreatDoor
