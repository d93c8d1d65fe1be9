/-
  Si: BoxC (what the claim needs of them).
-/
import Derived.Test.YtbfgdbpfecffcaaGreatDoorRows
import Derived.WalkKit
import Derived.WalkSpells
import Derived.WalkLawsBesides
import Derived.Laws.IdiomStrings
import Derived.Lib.Hide
import Derived.Deep.AppendLies
import Derived.OrdersHeld
import Derived.Lib.ItoaNum
import Derived.Lib.ItoaMem
import Derived.Lib.AppendStr
import Derived.Lib.ItoaLen
import Derived.Lib.Strings
import Derived.Lib.Bytealg
import Derived.Lib.OthersKept
import Derived.Laws.RangeAny
import Derived.Laws.BitsAllLaws
import Derived.Laws.BitsLemmas
import Derived.IntWalk
import Derived.Handy
import Derived.Lib.Join
import Derived.Deep.Strs
import Derived.Test.YtbfgdbpfecffcaaGreatDoorProg
import Derived.Laws.Tables
import Derived.Test.YtbfgdbpfecffcaaGreatDoorSb
import Derived.Test.YtbfgdbpfecffcaaGreatDoorSc
import Derived.Test.YtbfgdbpfecffcaaGreatDoorSd
import Derived.Test.YtbfgdbpfecffcaaGreatDoorSe
import Derived.Test.YtbfgdbpfecffcaaGreatDoorSf
import Derived.Test.YtbfgdbpfecffcaaGreatDoorSh

namespace Go.Proofs.YtbfgdbpfecffcaaGreatDoor
open Go.RowKit

theorem msg_zero {b : BoxD} {m : MsgD} (h : b.msgs[0]? = some m) : msgStep b 0 = ((decide (1 ≤ m.uid) && decide (m.uid ≤ b.next - 1)) && flB m.flags && decide ((m.text.length : Int) ≤ 40)) := by
  unfold msgStep
  rw [h]
  simp only [Bool.and_true]
theorem msg_succ {b : BoxD} {j : Nat} {q m : MsgD} (hq : b.msgs[j]? = some q) (h : b.msgs[j + 1]? = some m) : msgStep b (j + 1) = ((decide (1 ≤ m.uid) && decide (m.uid ≤ b.next - 1)) && decide (q.uid < m.uid) && flB m.flags && decide ((m.text.length : Int) ≤ 40)) := by
  unfold msgStep
  rw [h]
  simp only [hq]
theorem box_no1 {b : BoxD} (h : nameB b.name = false) : boxB b = false := by unfold boxB; rw [h]; rfl
theorem box_no2 {b : BoxD} (h : num9 b.validity = false) : boxB b = false := by unfold boxB; rw [h]; simp
theorem box_no3 {b : BoxD} (h : num9 b.next = false) : boxB b = false := by unfold boxB; rw [h]; simp
theorem box_no4 {b : BoxD} (h : ¬ ((b.msgs.length : Int) ≤ 6)) : boxB b = false := by unfold boxB; rw [decide_eq_false h]; simp
theorem box_no5 {b : BoxD} {k : Nat} (hk : k < b.msgs.length) (h : msgStep b k = false) : boxB b = false := by unfold boxB; rw [range_not hk h]; simp
theorem box_yes {b : BoxD} (h1 : nameB b.name = true) (h2 : num9 b.validity = true) (h3 : num9 b.next = true) (h4 : (b.msgs.length : Int) ≤ 6) (h5 : (List.range b.msgs.length).all (msgStep b) = true) : boxB b = true := by unfold boxB; rw [h1, h2, h3, h5, decide_eq_true h4]; rfl

theorem l9Number_any (n : Int) (w : World) :
    Calls Tryz.prog 114 #[.int .i64 n] w fun e w' => e = .returned (.bool (num9 n)) ∧ w = w' := by
  have C1 := Lib.hid (fun W => l1In_any n 1 999999999 W)
  go_enter Tryz.func114, Tryz.ntmps114
  go_wp2_with fail
  refine (C1.out _).mono ?_
  rintro e w' ⟨rfl, rfl⟩
  go_wp2
  go_ret
  exact ⟨rfl, rfl⟩

set_option maxRecDepth 20000 in
set_option maxHeartbeats 6400000 in
theorem specBoxOk_c : CtrBoxOk 72 (fun _ => True) := by
  intro x r w _ hr hs hbd
  have hl : x.msgs.length ≤ 1048576 := by
    have h1 := BoxD.sz x
    have h2 : szLf (msgsLf x.msgs) = x.msgs.length + szLs (x.msgs.flatMap MsgD.lf) := rfl
    omega
  have hxl : ∀ m ∈ x.msgs, m.text.length ≤ 1048576 := by
    intro m hm
    have h1 := BoxD.sz x
    have h2 : szLf (msgsLf x.msgs) = x.msgs.length + szLs (x.msgs.flatMap MsgD.lf) := rfl
    have h3 := szLs_mem MsgD.lf hm
    rw [MsgD.sz] at h3
    omega
  have hnl : x.name.length ≤ 1048576 := by have h1 := BoxD.sz x; omega
  obtain ⟨p, c, rfl, hp⟩ := MsgD.at hr
  have HP := Lib.hid hp
  have HXL := Lib.hid hxl
  have hbA : Below w.heap.size w (w.alloc (.cells #[sv x.name, .int .i64 x.validity, .int .i64 x.next, .slice p x.msgs.length c] 38)) := (Below.refl _ _).alloc (Nat.le_refl _) _
  have hA := heap_alloc_new w (.cells #[sv x.name, .int .i64 x.validity, .int .i64 x.next, .slice p x.msgs.length c] 38)
  have CN : ∀ W, Calls Tryz.prog 113 #[sv x.name] W fun e w' => e = .returned (.bool (nameB x.name)) ∧ W = w' := fun W => by
    have := specNameOk_any ⟨x.name.toArray⟩ W (by unfold maxLen; show x.name.toArray.size ≤ _; simp; omega)
    simpa using this
  have CV := fun W => l9Number_any x.validity W
  have CX := fun W => l9Number_any x.next W
  generalize hW : (w.alloc (.cells #[sv x.name, .int .i64 x.validity, .int .i64 x.next, .slice p x.msgs.length c] 38)) = W at *
  have HA := Lib.hid hA
  clear hp hr hs hxl hbd
  have c0 := (Lib.cell_of_heap hA 0).trans (show _ = some (sv x.name) from rfl)
  have c1 := (Lib.cell_of_heap hA 1).trans (show _ = some (.int .i64 x.validity) from rfl)
  have c2 := (Lib.cell_of_heap hA 2).trans (show _ = some (.int .i64 x.next) from rfl)
  have c3 := (Lib.cell_of_heap hA 3).trans (show _ = some (.slice p x.msgs.length c) from rfl)
  clear hA
  cases h1 : nameB x.name with
  | false =>
    have HV := Lib.hid (box_no1 h1)
    simp only [h1] at CN
    have C1 := Lib.hid CN
    clear CN CV CX h1
    go_enter Tryz.func72, Tryz.ntmps72
    go_wp2_with fail
    refine (C1.out _).mono ?_
    rintro e w' ⟨rfl, rfl⟩
    clear hW
    go_wp2
    go_ret
    exact ⟨by rw [HV.out]; rfl, hbA⟩
  | true =>
  cases h2 : num9 x.validity with
  | false =>
    have HV := Lib.hid (box_no2 h2)
    simp only [h1] at CN
    simp only [h2] at CV
    have C1 := Lib.hid CN
    have C2 := Lib.hid CV
    clear CN CV CX h1 h2
    go_enter Tryz.func72, Tryz.ntmps72
    go_wp2_with fail
    refine (C1.out _).mono ?_
    rintro e w' ⟨rfl, rfl⟩
    go_wp2_with fail
    refine (C2.out _).mono ?_
    rintro e w' ⟨rfl, rfl⟩
    clear hW
    go_wp2
    go_ret
    exact ⟨by rw [HV.out]; rfl, hbA⟩
  | true =>
  cases h3 : num9 x.next with
  | false =>
    have HV := Lib.hid (box_no3 h3)
    simp only [h1] at CN
    simp only [h2] at CV
    simp only [h3] at CX
    have C1 := Lib.hid CN
    have C2 := Lib.hid CV
    have C3 := Lib.hid CX
    clear CN CV CX h1 h2 h3
    go_enter Tryz.func72, Tryz.ntmps72
    go_wp2_with fail
    refine (C1.out _).mono ?_
    rintro e w' ⟨rfl, rfl⟩
    go_wp2_with fail
    refine (C2.out _).mono ?_
    rintro e w' ⟨rfl, rfl⟩
    go_wp2_with fail
    refine (C3.out _).mono ?_
    rintro e w' ⟨rfl, rfl⟩
    clear hW
    go_wp2
    go_ret
    exact ⟨by rw [HV.out]; rfl, hbA⟩
  | true =>
  have HN := Lib.hid (And.intro h1 (And.intro h2 h3))
  have hnx : 1 ≤ x.next ∧ x.next ≤ 999999999 := by unfold num9 at h3; simp only [Bool.and_eq_true, decide_eq_true_eq] at h3; exact h3
  simp only [h1] at CN
  simp only [h2] at CV
  simp only [h3] at CX
  have C1 := Lib.hid CN
  have C2 := Lib.hid CV
  have C3 := Lib.hid CX
  clear CN CV CX h1 h2 h3
  by_cases h4 : (x.msgs.length : Int) ≤ 6
  case neg =>
    have HV := Lib.hid (box_no4 h4)
    have h4b : (6 : Int) < (x.msgs.length : Int) := by omega
    go_enter Tryz.func72, Tryz.ntmps72
    go_wp2_with fail
    refine (C1.out _).mono ?_
    rintro e w' ⟨rfl, rfl⟩
    go_wp2_with fail
    refine (C2.out _).mono ?_
    rintro e w' ⟨rfl, rfl⟩
    go_wp2_with fail
    refine (C3.out _).mono ?_
    rintro e w' ⟨rfl, rfl⟩
    clear hW
    go_wp2
    go_ret
    exact ⟨by rw [HV.out]; rfl, hbA⟩
  have h4b : ¬ ((6 : Int) < (x.msgs.length : Int)) := by omega
  have H4 := Lib.hid h4
  clear h4
  go_enter Tryz.func72, Tryz.ntmps72
  go_wp2_with fail
  refine (C1.out _).mono ?_
  rintro e w' ⟨rfl, rfl⟩
  go_wp2_with fail
  refine (C2.out _).mono ?_
  rintro e w' ⟨rfl, rfl⟩
  go_wp2_with fail
  refine (C3.out _).mono ?_
  rintro e w' ⟨rfl, rfl⟩
  clear C1 C2 C3
  go_wp2
  clear hW c0 c1 h4b
  go_loopw [3] (fun i wr => ∃ k : Nat, k ≤ x.msgs.length ∧ i = .int .i64 k ∧ (List.range k).all (msgStep x) = true ∧ Below W.heap.size W wr) (fun i _ => x.msgs.length - (intOf i).toNat)
  case atStart => exact ⟨0, by omega, rfl, rfl, Below.refl _ _⟩
  case round =>
    obtain ⟨k, hk, rfl, hall, hbr⟩ := hrel
    have HALL := Lib.hid hall
    have hA1 := (hbr.block w.heap.size (Array.getElem?_eq_some_iff.1 HA.out).1).trans HA.out
    have a3 := (Lib.cell_of_heap hA1 3).trans (show _ = some (.slice p x.msgs.length c) from rfl)
    clear hall c2 c3
    by_cases hlt : k < x.msgs.length
    case neg =>
      obtain rfl : k = x.msgs.length := by omega
      have HV := Lib.hid (box_yes HN.out.1 HN.out.2.1 HN.out.2.2 H4.out HALL.out)
      have hbf := hbA.trans (hbr.mono hbA.size)
      go_wp2
      go_ret
      exact ⟨by rw [HV.out]; rfl, hbf⟩
    obtain ⟨b, off, rfl, hb1, hc⟩ := HP.out.resolve_left (by intro h; rw [h] at hlt; simp at hlt)
    obtain ⟨m, hm⟩ : ∃ m, x.msgs[k]? = some m := ⟨_, List.getElem?_eq_getElem hlt⟩
    have hml := HXL.out m (List.mem_of_getElem? hm)
    obtain ⟨x0, x1, x2⟩ := hc k m hm
    have hbw := hbA.trans (hbr.mono hbA.size)
    have e0 : wr.cell? ⟨b, off + k * 3, none⟩ = some (.int .i64 m.uid) := (hbw.cell (p := ⟨b, off + k * 3, none⟩) hb1).trans x0
    have e1 : wr.cell? ⟨b, off + k * 3 + 1, none⟩ = some (.int .i64 m.flags) := (hbw.cell (p := ⟨b, off + k * 3 + 1, none⟩) hb1).trans x1
    have e2 : wr.cell? ⟨b, off + k * 3 + 2, none⟩ = some (sv m.text) := (hbw.cell (p := ⟨b, off + k * 3 + 2, none⟩) hb1).trans x2
    have hZ0 := heap_alloc_new wr (.cells #[.int .i64 0, .int .i64 0, .string ⟨#[]⟩] 87)
    obtain ⟨Z, hZ⟩ : ∃ Z, Z = (wr.alloc (.cells #[.int .i64 0, .int .i64 0, .string ⟨#[]⟩] 87)).setRow wr.heap.size #[.int .i64 m.uid, .int .i64 m.flags, sv m.text] := ⟨_, rfl⟩
    have hZn : Z.heap[wr.heap.size]? = some (.cells #[.int .i64 m.uid, .int .i64 m.flags, sv m.text] 87 (0, 0)) := by rw [hZ]; exact setRow_heap _ _ _ _ _ _ hZ0
    have hwz := hbr.size
    have hbZ : Below W.heap.size W Z := by
      have h1 : Below wr.heap.size wr (wr.alloc (.cells #[.int .i64 0, .int .i64 0, .string ⟨#[]⟩] 87)) := (Below.refl _ _).alloc (Nat.le_refl _) _
      refine hbr.trans ((?_ : Below wr.heap.size wr Z).mono hwz)
      rw [hZ]
      exact ⟨h1.os, h1.tape, h1.output, by simp [World.setRow], fun q hq => (setRow_other _ _ _ _ (by omega)).trans (h1.block q hq)⟩
    have hAZ := (hbZ.block w.heap.size (Array.getElem?_eq_some_iff.1 HA.out).1).trans HA.out
    have z0 : Z.drew.cell? ⟨wr.heap.size, 0, none⟩ = some (.int .i64 m.uid) := (Lib.cell_of_heap hZn 0).trans rfl
    have z1 : Z.drew.cell? ⟨wr.heap.size, 1, none⟩ = some (.int .i64 m.flags) := (Lib.cell_of_heap hZn 1).trans rfl
    have z2 : Z.drew.cell? ⟨wr.heap.size, 2, none⟩ = some (sv m.text) := (Lib.cell_of_heap hZn 2).trans rfl
    have z3 : Z.drew.cell? ⟨w.heap.size, 2, none⟩ = some (.int .i64 x.next) := (Lib.cell_of_heap hAZ 2).trans rfl
    have z4 : Z.drew.cell? ⟨w.heap.size, 3, none⟩ = some (.slice (some ⟨b, off, none⟩) x.msgs.length c) := (Lib.cell_of_heap hAZ 3).trans rfl
    have hwx : IntKind.i64.wrap (x.next - 1) = x.next - 1 := IntWalk.i64_in _ (by omega)
    have C5 := fun V => l1In_any m.uid 1 (x.next - 1) V
    have C6 := fun V => specFlagsOk_any m.flags V
    have hbd : Below W.heap.size W Z.drew := hbZ.drew
    have hbf := hbA.trans (hbd.mono hbA.size)
    obtain ⟨t1, ht1⟩ : ∃ t, (decide (1 ≤ m.uid) && decide (m.uid ≤ x.next - 1)) = t := ⟨_, rfl⟩
    obtain ⟨t3, ht3⟩ : ∃ t, flB m.flags = t := ⟨_, rfl⟩
    rw [ht1] at C5
    rw [ht3] at C6
    have HC5 := Lib.hid C5
    have HC6 := Lib.hid C6
    clear C5 C6 hnx
    have HM := Lib.hid hm
    cases k with
    | zero =>
      clear hm hc x0 x1 x2 hbr hbZ hAZ hZn hA1
      simp only [Nat.zero_mul, Nat.add_zero] at e0 e1 e2
      have HE := Lib.hid (msg_zero HM.out)
      rw [ht1, ht3] at HE
      have HE2 := Lib.hid HE.out
      clear HE
      cases t1 with
      | false =>
        have HV := Lib.hid (box_no5 hlt (by rw [HE2.out]; simp))
        clear HE2 HM HALL HN
        go_wp2_with (refine wpList_putrow rfl _ _ _ rfl wr.heap.size #[.int .i64 m.uid, .int .i64 m.flags, sv m.text] (by rfl) (by rfl) _ _ hZ0 (by kernel_rfl) rfl (by simp [Value.oneCell', sv]) ?_)
        rw [← hZ]
        clear hZ hZ0
        refine ord_start ((0, true) :: (1, true) :: (2, true) :: (3, true) :: (4, true) :: (5, false) :: (6, true) :: (7, true) :: (8, true) :: (9, true) :: (10, true) :: (11, true) :: (12, true) :: (13, true) :: (14, true) :: (15, true) :: (16, true) :: (17, true) :: (18, true) :: (19, true) :: (20, true) :: (21, true) :: (22, true) :: (23, true) :: (24, true) :: (25, true) :: (26, false) :: (27, true) :: (28, true) :: (29, true) :: (30, true) :: (31, true) :: (32, true) :: (33, true) :: (34, true) :: []) (fun W => W.cell? ⟨wr.heap.size, 0, none⟩ = some (.int .i64 m.uid) ∧ W.cell? ⟨wr.heap.size, 1, none⟩ = some (.int .i64 m.flags) ∧ W.cell? ⟨wr.heap.size, 2, none⟩ = some (sv m.text) ∧ W.cell? ⟨w.heap.size, 2, none⟩ = some (.int .i64 x.next) ∧ W.cell? ⟨w.heap.size, 3, none⟩ = some (.slice (some ⟨b, off, none⟩) x.msgs.length c)) (by kernel_rfl) (by kernel_rfl) (by kernel_rfl) (by kernel_rfl) ?_
        intro ops' hops
        simp only [List.map_cons, List.map_nil, pickOp_zero, pickOp_succ]
        iterate 5 (refine ord_flo ?_ (fun _ _ _ h => h) rfl ?_ ⟨z0, z1, z2, z3, z4⟩ ?_; rotate_left; focus (intro W hS; obtain ⟨s1, s2, s3, s4, s5⟩ := hS; go_simp; rfl))
        refine ord_ev (by rw [hops.out]; kernel_rfl) ?_
        go_simp
        refine (HC5.out _).mono ?_
        rintro e w1 ⟨rfl, rfl⟩
        refine ⟨⟨z0, z1, z2, z3, z4⟩, ?_⟩
        iterate 2 (refine ord_flo ?_ (fun _ _ _ h => h) rfl ?_ ⟨z0, z1, z2, z3, z4⟩ ?_; rotate_left; focus (intro W hS; obtain ⟨s1, s2, s3, s4, s5⟩ := hS; go_simp; rfl))
        iterate 14 (refine ord_not (fun _ _ _ h => h) (by rw [hops.out]; kernel_rfl) ⟨z0, z1, z2, z3, z4⟩ ?_)
        iterate 2 (refine ord_flo ?_ (fun _ _ _ h => h) rfl ?_ ⟨z0, z1, z2, z3, z4⟩ ?_; rotate_left; focus (intro W hS; obtain ⟨s1, s2, s3, s4, s5⟩ := hS; go_simp; rfl))
        iterate 2 (refine ord_not (fun _ _ _ h => h) (by rw [hops.out]; kernel_rfl) ⟨z0, z1, z2, z3, z4⟩ ?_)
        refine ord_evnot ⟨z0, z1, z2, z3, z4⟩ (by rw [hops.out]; kernel_rfl) ?_
        iterate 1 (refine ord_not (fun _ _ _ h => h) (by rw [hops.out]; kernel_rfl) ⟨z0, z1, z2, z3, z4⟩ ?_)
        iterate 2 (refine ord_flo ?_ (fun _ _ _ h => h) rfl ?_ ⟨z0, z1, z2, z3, z4⟩ ?_; rotate_left; focus (intro W hS; obtain ⟨s1, s2, s3, s4, s5⟩ := hS; go_simp; rfl))
        iterate 4 (refine ord_not (fun _ _ _ h => h) (by rw [hops.out]; kernel_rfl) ⟨z0, z1, z2, z3, z4⟩ ?_)
        iterate 1 (refine ord_flo ?_ (fun _ _ _ h => h) rfl ?_ ⟨z0, z1, z2, z3, z4⟩ ?_; rotate_left; focus (intro W hS; obtain ⟨s1, s2, s3, s4, s5⟩ := hS; go_simp; rfl))
        refine ord_done ?_
        go_simp
        go_wp2
        go_ret
        exact ⟨by rw [HV.out]; rfl, hbf⟩
      | true =>
      cases t3 with
      | false =>
        have HV := Lib.hid (box_no5 hlt (by rw [HE2.out]; simp))
        clear HE2 HM HALL HN
        go_wp2_with (refine wpList_putrow rfl _ _ _ rfl wr.heap.size #[.int .i64 m.uid, .int .i64 m.flags, sv m.text] (by rfl) (by rfl) _ _ hZ0 (by kernel_rfl) rfl (by simp [Value.oneCell', sv]) ?_)
        rw [← hZ]
        clear hZ hZ0
        refine ord_start ((0, true) :: (1, true) :: (2, true) :: (3, true) :: (4, true) :: (5, false) :: (6, true) :: (7, true) :: (8, true) :: (9, true) :: (10, true) :: (11, true) :: (12, true) :: (13, true) :: (14, true) :: (15, true) :: (16, true) :: (17, true) :: (18, true) :: (19, true) :: (20, true) :: (21, true) :: (22, true) :: (23, true) :: (24, true) :: (25, true) :: (26, false) :: (27, true) :: (28, true) :: (29, true) :: (30, true) :: (31, true) :: (32, true) :: (33, true) :: (34, true) :: []) (fun W => W.cell? ⟨wr.heap.size, 0, none⟩ = some (.int .i64 m.uid) ∧ W.cell? ⟨wr.heap.size, 1, none⟩ = some (.int .i64 m.flags) ∧ W.cell? ⟨wr.heap.size, 2, none⟩ = some (sv m.text) ∧ W.cell? ⟨w.heap.size, 2, none⟩ = some (.int .i64 x.next) ∧ W.cell? ⟨w.heap.size, 3, none⟩ = some (.slice (some ⟨b, off, none⟩) x.msgs.length c)) (by kernel_rfl) (by kernel_rfl) (by kernel_rfl) (by kernel_rfl) ?_
        intro ops' hops
        simp only [List.map_cons, List.map_nil, pickOp_zero, pickOp_succ]
        iterate 5 (refine ord_flo ?_ (fun _ _ _ h => h) rfl ?_ ⟨z0, z1, z2, z3, z4⟩ ?_; rotate_left; focus (intro W hS; obtain ⟨s1, s2, s3, s4, s5⟩ := hS; go_simp; rfl))
        refine ord_ev (by rw [hops.out]; kernel_rfl) ?_
        go_simp
        refine (HC5.out _).mono ?_
        rintro e w1 ⟨rfl, rfl⟩
        refine ⟨⟨z0, z1, z2, z3, z4⟩, ?_⟩
        iterate 2 (refine ord_flo ?_ (fun _ _ _ h => h) rfl ?_ ⟨z0, z1, z2, z3, z4⟩ ?_; rotate_left; focus (intro W hS; obtain ⟨s1, s2, s3, s4, s5⟩ := hS; go_simp; rfl))
        iterate 3 (refine ord_flo ?_ (fun _ _ _ h => h) (by rw [hops.out]; kernel_rfl) ?_ ⟨z0, z1, z2, z3, z4⟩ ?_; rotate_left; focus (intro W hS; obtain ⟨s1, s2, s3, s4, s5⟩ := hS; go_simp; rfl))
        iterate 10 (refine ord_not (fun _ _ _ h => h) (by rw [hops.out]; kernel_rfl) ⟨z0, z1, z2, z3, z4⟩ ?_)
        iterate 1 (refine ord_flo ?_ (fun _ _ _ h => h) (by rw [hops.out]; kernel_rfl) ?_ ⟨z0, z1, z2, z3, z4⟩ ?_; rotate_left; focus (intro W hS; obtain ⟨s1, s2, s3, s4, s5⟩ := hS; go_simp; rfl))
        iterate 2 (refine ord_flo ?_ (fun _ _ _ h => h) rfl ?_ ⟨z0, z1, z2, z3, z4⟩ ?_; rotate_left; focus (intro W hS; obtain ⟨s1, s2, s3, s4, s5⟩ := hS; go_simp; rfl))
        iterate 2 (refine ord_flo ?_ (fun _ _ _ h => h) (by rw [hops.out]; kernel_rfl) ?_ ⟨z0, z1, z2, z3, z4⟩ ?_; rotate_left; focus (intro W hS; obtain ⟨s1, s2, s3, s4, s5⟩ := hS; go_simp; rfl))
        refine ord_ev (by rw [hops.out]; kernel_rfl) ?_
        go_simp
        refine (HC6.out _).mono ?_
        rintro e w1 ⟨rfl, rfl⟩
        refine ⟨⟨z0, z1, z2, z3, z4⟩, ?_⟩
        iterate 1 (refine ord_flo ?_ (fun _ _ _ h => h) (by rw [hops.out]; kernel_rfl) ?_ ⟨z0, z1, z2, z3, z4⟩ ?_; rotate_left; focus (intro W hS; obtain ⟨s1, s2, s3, s4, s5⟩ := hS; go_simp; rfl))
        iterate 2 (refine ord_flo ?_ (fun _ _ _ h => h) rfl ?_ ⟨z0, z1, z2, z3, z4⟩ ?_; rotate_left; focus (intro W hS; obtain ⟨s1, s2, s3, s4, s5⟩ := hS; go_simp; rfl))
        iterate 4 (refine ord_not (fun _ _ _ h => h) (by rw [hops.out]; kernel_rfl) ⟨z0, z1, z2, z3, z4⟩ ?_)
        iterate 1 (refine ord_flo ?_ (fun _ _ _ h => h) rfl ?_ ⟨z0, z1, z2, z3, z4⟩ ?_; rotate_left; focus (intro W hS; obtain ⟨s1, s2, s3, s4, s5⟩ := hS; go_simp; rfl))
        refine ord_done ?_
        go_simp
        go_wp2
        go_ret
        exact ⟨by rw [HV.out]; rfl, hbf⟩
      | true =>
      by_cases h4 : (m.text.length : Int) ≤ 40
      case neg =>
        have h4b : (40 : Int) < (m.text.length : Int) := by omega
        have HV := Lib.hid (box_no5 hlt (by rw [HE2.out]; simp [h4]))
        clear HE2 HM HALL HN
        go_wp2_with (refine wpList_putrow rfl _ _ _ rfl wr.heap.size #[.int .i64 m.uid, .int .i64 m.flags, sv m.text] (by rfl) (by rfl) _ _ hZ0 (by kernel_rfl) rfl (by simp [Value.oneCell', sv]) ?_)
        rw [← hZ]
        clear hZ hZ0
        refine ord_start ((0, true) :: (1, true) :: (2, true) :: (3, true) :: (4, true) :: (5, false) :: (6, true) :: (7, true) :: (8, true) :: (9, true) :: (10, true) :: (11, true) :: (12, true) :: (13, true) :: (14, true) :: (15, true) :: (16, true) :: (17, true) :: (18, true) :: (19, true) :: (20, true) :: (21, true) :: (22, true) :: (23, true) :: (24, true) :: (25, true) :: (26, false) :: (27, true) :: (28, true) :: (29, true) :: (30, true) :: (31, true) :: (32, true) :: (33, true) :: (34, true) :: []) (fun W => W.cell? ⟨wr.heap.size, 0, none⟩ = some (.int .i64 m.uid) ∧ W.cell? ⟨wr.heap.size, 1, none⟩ = some (.int .i64 m.flags) ∧ W.cell? ⟨wr.heap.size, 2, none⟩ = some (sv m.text) ∧ W.cell? ⟨w.heap.size, 2, none⟩ = some (.int .i64 x.next) ∧ W.cell? ⟨w.heap.size, 3, none⟩ = some (.slice (some ⟨b, off, none⟩) x.msgs.length c)) (by kernel_rfl) (by kernel_rfl) (by kernel_rfl) (by kernel_rfl) ?_
        intro ops' hops
        simp only [List.map_cons, List.map_nil, pickOp_zero, pickOp_succ]
        iterate 5 (refine ord_flo ?_ (fun _ _ _ h => h) rfl ?_ ⟨z0, z1, z2, z3, z4⟩ ?_; rotate_left; focus (intro W hS; obtain ⟨s1, s2, s3, s4, s5⟩ := hS; go_simp; rfl))
        refine ord_ev (by rw [hops.out]; kernel_rfl) ?_
        go_simp
        refine (HC5.out _).mono ?_
        rintro e w1 ⟨rfl, rfl⟩
        refine ⟨⟨z0, z1, z2, z3, z4⟩, ?_⟩
        iterate 2 (refine ord_flo ?_ (fun _ _ _ h => h) rfl ?_ ⟨z0, z1, z2, z3, z4⟩ ?_; rotate_left; focus (intro W hS; obtain ⟨s1, s2, s3, s4, s5⟩ := hS; go_simp; rfl))
        iterate 3 (refine ord_flo ?_ (fun _ _ _ h => h) (by rw [hops.out]; kernel_rfl) ?_ ⟨z0, z1, z2, z3, z4⟩ ?_; rotate_left; focus (intro W hS; obtain ⟨s1, s2, s3, s4, s5⟩ := hS; go_simp; rfl))
        iterate 10 (refine ord_not (fun _ _ _ h => h) (by rw [hops.out]; kernel_rfl) ⟨z0, z1, z2, z3, z4⟩ ?_)
        iterate 1 (refine ord_flo ?_ (fun _ _ _ h => h) (by rw [hops.out]; kernel_rfl) ?_ ⟨z0, z1, z2, z3, z4⟩ ?_; rotate_left; focus (intro W hS; obtain ⟨s1, s2, s3, s4, s5⟩ := hS; go_simp; rfl))
        iterate 2 (refine ord_flo ?_ (fun _ _ _ h => h) rfl ?_ ⟨z0, z1, z2, z3, z4⟩ ?_; rotate_left; focus (intro W hS; obtain ⟨s1, s2, s3, s4, s5⟩ := hS; go_simp; rfl))
        iterate 2 (refine ord_flo ?_ (fun _ _ _ h => h) (by rw [hops.out]; kernel_rfl) ?_ ⟨z0, z1, z2, z3, z4⟩ ?_; rotate_left; focus (intro W hS; obtain ⟨s1, s2, s3, s4, s5⟩ := hS; go_simp; rfl))
        refine ord_ev (by rw [hops.out]; kernel_rfl) ?_
        go_simp
        refine (HC6.out _).mono ?_
        rintro e w1 ⟨rfl, rfl⟩
        refine ⟨⟨z0, z1, z2, z3, z4⟩, ?_⟩
        iterate 1 (refine ord_flo ?_ (fun _ _ _ h => h) (by rw [hops.out]; kernel_rfl) ?_ ⟨z0, z1, z2, z3, z4⟩ ?_; rotate_left; focus (intro W hS; obtain ⟨s1, s2, s3, s4, s5⟩ := hS; go_simp; rfl))
        iterate 2 (refine ord_flo ?_ (fun _ _ _ h => h) rfl ?_ ⟨z0, z1, z2, z3, z4⟩ ?_; rotate_left; focus (intro W hS; obtain ⟨s1, s2, s3, s4, s5⟩ := hS; go_simp; rfl))
        iterate 4 (refine ord_flo ?_ (fun _ _ _ h => h) (by rw [hops.out]; kernel_rfl) ?_ ⟨z0, z1, z2, z3, z4⟩ ?_; rotate_left; focus (intro W hS; obtain ⟨s1, s2, s3, s4, s5⟩ := hS; go_simp; rfl))
        iterate 1 (refine ord_flo ?_ (fun _ _ _ h => h) rfl ?_ ⟨z0, z1, z2, z3, z4⟩ ?_; rotate_left; focus (intro W hS; obtain ⟨s1, s2, s3, s4, s5⟩ := hS; go_simp; rfl))
        refine ord_done ?_
        go_simp
        go_wp2
        go_ret
        exact ⟨by rw [HV.out]; rfl, hbf⟩
      have h4b : ¬ ((40 : Int) < (m.text.length : Int)) := by omega
      have HS := Lib.hid (range_step HALL.out (by rw [HE2.out]; simp [h4]))
      clear HE2 HM HALL h4
      go_wp2_with (refine wpList_putrow rfl _ _ _ rfl wr.heap.size #[.int .i64 m.uid, .int .i64 m.flags, sv m.text] (by rfl) (by rfl) _ _ hZ0 (by kernel_rfl) rfl (by simp [Value.oneCell', sv]) ?_)
      rw [← hZ]
      clear hZ hZ0
      refine ord_start ((0, true) :: (1, true) :: (2, true) :: (3, true) :: (4, true) :: (5, false) :: (6, true) :: (7, true) :: (8, true) :: (9, true) :: (10, true) :: (11, true) :: (12, true) :: (13, true) :: (14, true) :: (15, true) :: (16, true) :: (17, true) :: (18, true) :: (19, true) :: (20, true) :: (21, true) :: (22, true) :: (23, true) :: (24, true) :: (25, true) :: (26, false) :: (27, true) :: (28, true) :: (29, true) :: (30, true) :: (31, true) :: (32, true) :: (33, true) :: (34, true) :: []) (fun W => W.cell? ⟨wr.heap.size, 0, none⟩ = some (.int .i64 m.uid) ∧ W.cell? ⟨wr.heap.size, 1, none⟩ = some (.int .i64 m.flags) ∧ W.cell? ⟨wr.heap.size, 2, none⟩ = some (sv m.text) ∧ W.cell? ⟨w.heap.size, 2, none⟩ = some (.int .i64 x.next) ∧ W.cell? ⟨w.heap.size, 3, none⟩ = some (.slice (some ⟨b, off, none⟩) x.msgs.length c)) (by kernel_rfl) (by kernel_rfl) (by kernel_rfl) (by kernel_rfl) ?_
      intro ops' hops
      simp only [List.map_cons, List.map_nil, pickOp_zero, pickOp_succ]
      iterate 5 (refine ord_flo ?_ (fun _ _ _ h => h) rfl ?_ ⟨z0, z1, z2, z3, z4⟩ ?_; rotate_left; focus (intro W hS; obtain ⟨s1, s2, s3, s4, s5⟩ := hS; go_simp; rfl))
      refine ord_ev (by rw [hops.out]; kernel_rfl) ?_
      go_simp
      refine (HC5.out _).mono ?_
      rintro e w1 ⟨rfl, rfl⟩
      refine ⟨⟨z0, z1, z2, z3, z4⟩, ?_⟩
      iterate 2 (refine ord_flo ?_ (fun _ _ _ h => h) rfl ?_ ⟨z0, z1, z2, z3, z4⟩ ?_; rotate_left; focus (intro W hS; obtain ⟨s1, s2, s3, s4, s5⟩ := hS; go_simp; rfl))
      iterate 3 (refine ord_flo ?_ (fun _ _ _ h => h) (by rw [hops.out]; kernel_rfl) ?_ ⟨z0, z1, z2, z3, z4⟩ ?_; rotate_left; focus (intro W hS; obtain ⟨s1, s2, s3, s4, s5⟩ := hS; go_simp; rfl))
      iterate 10 (refine ord_not (fun _ _ _ h => h) (by rw [hops.out]; kernel_rfl) ⟨z0, z1, z2, z3, z4⟩ ?_)
      iterate 1 (refine ord_flo ?_ (fun _ _ _ h => h) (by rw [hops.out]; kernel_rfl) ?_ ⟨z0, z1, z2, z3, z4⟩ ?_; rotate_left; focus (intro W hS; obtain ⟨s1, s2, s3, s4, s5⟩ := hS; go_simp; rfl))
      iterate 2 (refine ord_flo ?_ (fun _ _ _ h => h) rfl ?_ ⟨z0, z1, z2, z3, z4⟩ ?_; rotate_left; focus (intro W hS; obtain ⟨s1, s2, s3, s4, s5⟩ := hS; go_simp; rfl))
      iterate 2 (refine ord_flo ?_ (fun _ _ _ h => h) (by rw [hops.out]; kernel_rfl) ?_ ⟨z0, z1, z2, z3, z4⟩ ?_; rotate_left; focus (intro W hS; obtain ⟨s1, s2, s3, s4, s5⟩ := hS; go_simp; rfl))
      refine ord_ev (by rw [hops.out]; kernel_rfl) ?_
      go_simp
      refine (HC6.out _).mono ?_
      rintro e w1 ⟨rfl, rfl⟩
      refine ⟨⟨z0, z1, z2, z3, z4⟩, ?_⟩
      iterate 1 (refine ord_flo ?_ (fun _ _ _ h => h) (by rw [hops.out]; kernel_rfl) ?_ ⟨z0, z1, z2, z3, z4⟩ ?_; rotate_left; focus (intro W hS; obtain ⟨s1, s2, s3, s4, s5⟩ := hS; go_simp; rfl))
      iterate 2 (refine ord_flo ?_ (fun _ _ _ h => h) rfl ?_ ⟨z0, z1, z2, z3, z4⟩ ?_; rotate_left; focus (intro W hS; obtain ⟨s1, s2, s3, s4, s5⟩ := hS; go_simp; rfl))
      iterate 4 (refine ord_flo ?_ (fun _ _ _ h => h) (by rw [hops.out]; kernel_rfl) ?_ ⟨z0, z1, z2, z3, z4⟩ ?_; rotate_left; focus (intro W hS; obtain ⟨s1, s2, s3, s4, s5⟩ := hS; go_simp; rfl))
      iterate 1 (refine ord_flo ?_ (fun _ _ _ h => h) rfl ?_ ⟨z0, z1, z2, z3, z4⟩ ?_; rotate_left; focus (intro W hS; obtain ⟨s1, s2, s3, s4, s5⟩ := hS; go_simp; rfl))
      refine ord_done ?_
      go_simp
      go_wp2
      go_roundw
      case rel => exact ⟨1, by omega, by go_num, HS.out, hbd⟩
      case measure => simp [intOf]; omega
    | succ j =>
      obtain ⟨q, hq⟩ : ∃ q, x.msgs[j]? = some q := ⟨_, List.getElem?_eq_getElem (by omega)⟩
      obtain ⟨v0, _, _⟩ := hc j q hq
      have hbZw := hbA.trans (hbZ.mono hbA.size)
      have y0 : Z.drew.cell? ⟨b, off + j * 3, none⟩ = some (.int .i64 q.uid) := (hbZw.cell (p := ⟨b, off + j * 3, none⟩) hb1).trans v0
      have HQ := Lib.hid hq
      have hjc : ((j + 1 : Nat) : Int) = (j : Int) + 1 := by omega
      have hwr : IntKind.i64.wrap ((j : Int) + 1 - 1) = (j : Int) := IntWalk.i64_in _ (by omega) |>.trans (by omega)
      have hwj : IntKind.i64.wrap (j : Int) = (j : Int) := IntWalk.i64_in _ (by omega)
      clear hm hq hc x0 x1 x2 v0 hbr hbZ hAZ hZn hA1 hbZw
      have HE := Lib.hid (msg_succ HQ.out HM.out)
      rw [ht1, ht3] at HE
      have HE2 := Lib.hid HE.out
      clear HE
      cases t1 with
      | false =>
        have HV := Lib.hid (box_no5 hlt (by rw [HE2.out]; simp))
        clear HE2 HM HALL HN HQ
        go_wp2_with (refine wpList_putrow rfl _ _ _ rfl wr.heap.size #[.int .i64 m.uid, .int .i64 m.flags, sv m.text] (by rfl) (by rfl) _ _ hZ0 (by kernel_rfl) rfl (by simp [Value.oneCell', sv]) ?_)
        rw [← hZ]
        clear hZ hZ0
        refine ord_start ((0, true) :: (1, true) :: (2, true) :: (3, true) :: (4, true) :: (5, false) :: (6, true) :: (7, true) :: (8, true) :: (9, true) :: (10, true) :: (11, true) :: (12, true) :: (13, true) :: (14, true) :: (15, true) :: (16, true) :: (17, true) :: (18, true) :: (19, true) :: (20, true) :: (21, true) :: (22, true) :: (23, true) :: (24, true) :: (25, true) :: (26, false) :: (27, true) :: (28, true) :: (29, true) :: (30, true) :: (31, true) :: (32, true) :: (33, true) :: (34, true) :: []) (fun W => W.cell? ⟨wr.heap.size, 0, none⟩ = some (.int .i64 m.uid) ∧ W.cell? ⟨wr.heap.size, 1, none⟩ = some (.int .i64 m.flags) ∧ W.cell? ⟨wr.heap.size, 2, none⟩ = some (sv m.text) ∧ W.cell? ⟨w.heap.size, 2, none⟩ = some (.int .i64 x.next) ∧ W.cell? ⟨w.heap.size, 3, none⟩ = some (.slice (some ⟨b, off, none⟩) x.msgs.length c) ∧ W.cell? ⟨b, off + j * 3, none⟩ = some (.int .i64 q.uid)) (by kernel_rfl) (by kernel_rfl) (by kernel_rfl) (by kernel_rfl) ?_
        intro ops' hops
        simp only [List.map_cons, List.map_nil, pickOp_zero, pickOp_succ]
        iterate 5 (refine ord_flo ?_ (fun _ _ _ h => h) rfl ?_ ⟨z0, z1, z2, z3, z4, y0⟩ ?_; rotate_left; focus (intro W hS; obtain ⟨s1, s2, s3, s4, s5, s6⟩ := hS; go_simp; rfl))
        refine ord_ev (by rw [hops.out]; kernel_rfl) ?_
        go_simp
        refine (HC5.out _).mono ?_
        rintro e w1 ⟨rfl, rfl⟩
        refine ⟨⟨z0, z1, z2, z3, z4, y0⟩, ?_⟩
        iterate 2 (refine ord_flo ?_ (fun _ _ _ h => h) rfl ?_ ⟨z0, z1, z2, z3, z4, y0⟩ ?_; rotate_left; focus (intro W hS; obtain ⟨s1, s2, s3, s4, s5, s6⟩ := hS; go_simp; rfl))
        iterate 14 (refine ord_not (fun _ _ _ h => h) (by rw [hops.out]; kernel_rfl) ⟨z0, z1, z2, z3, z4, y0⟩ ?_)
        iterate 2 (refine ord_flo ?_ (fun _ _ _ h => h) rfl ?_ ⟨z0, z1, z2, z3, z4, y0⟩ ?_; rotate_left; focus (intro W hS; obtain ⟨s1, s2, s3, s4, s5, s6⟩ := hS; go_simp; rfl))
        iterate 2 (refine ord_not (fun _ _ _ h => h) (by rw [hops.out]; kernel_rfl) ⟨z0, z1, z2, z3, z4, y0⟩ ?_)
        refine ord_evnot ⟨z0, z1, z2, z3, z4, y0⟩ (by rw [hops.out]; kernel_rfl) ?_
        iterate 1 (refine ord_not (fun _ _ _ h => h) (by rw [hops.out]; kernel_rfl) ⟨z0, z1, z2, z3, z4, y0⟩ ?_)
        iterate 2 (refine ord_flo ?_ (fun _ _ _ h => h) rfl ?_ ⟨z0, z1, z2, z3, z4, y0⟩ ?_; rotate_left; focus (intro W hS; obtain ⟨s1, s2, s3, s4, s5, s6⟩ := hS; go_simp; rfl))
        iterate 4 (refine ord_not (fun _ _ _ h => h) (by rw [hops.out]; kernel_rfl) ⟨z0, z1, z2, z3, z4, y0⟩ ?_)
        iterate 1 (refine ord_flo ?_ (fun _ _ _ h => h) rfl ?_ ⟨z0, z1, z2, z3, z4, y0⟩ ?_; rotate_left; focus (intro W hS; obtain ⟨s1, s2, s3, s4, s5, s6⟩ := hS; go_simp; rfl))
        refine ord_done ?_
        go_simp
        go_wp2
        go_ret
        exact ⟨by rw [HV.out]; rfl, hbf⟩
      | true =>
      by_cases h2 : q.uid < m.uid
      case neg =>
        have h2b : m.uid ≤ q.uid := by omega
        have HV := Lib.hid (box_no5 hlt (by rw [HE2.out]; simp [h2]))
        clear HE2 HM HALL HN HQ
        go_wp2_with (refine wpList_putrow rfl _ _ _ rfl wr.heap.size #[.int .i64 m.uid, .int .i64 m.flags, sv m.text] (by rfl) (by rfl) _ _ hZ0 (by kernel_rfl) rfl (by simp [Value.oneCell', sv]) ?_)
        rw [← hZ]
        clear hZ hZ0
        refine ord_start ((0, true) :: (1, true) :: (2, true) :: (3, true) :: (4, true) :: (5, false) :: (6, true) :: (7, true) :: (8, true) :: (9, true) :: (10, true) :: (11, true) :: (12, true) :: (13, true) :: (14, true) :: (15, true) :: (16, true) :: (17, true) :: (18, true) :: (19, true) :: (20, true) :: (21, true) :: (22, true) :: (23, true) :: (24, true) :: (25, true) :: (26, false) :: (27, true) :: (28, true) :: (29, true) :: (30, true) :: (31, true) :: (32, true) :: (33, true) :: (34, true) :: []) (fun W => W.cell? ⟨wr.heap.size, 0, none⟩ = some (.int .i64 m.uid) ∧ W.cell? ⟨wr.heap.size, 1, none⟩ = some (.int .i64 m.flags) ∧ W.cell? ⟨wr.heap.size, 2, none⟩ = some (sv m.text) ∧ W.cell? ⟨w.heap.size, 2, none⟩ = some (.int .i64 x.next) ∧ W.cell? ⟨w.heap.size, 3, none⟩ = some (.slice (some ⟨b, off, none⟩) x.msgs.length c) ∧ W.cell? ⟨b, off + j * 3, none⟩ = some (.int .i64 q.uid)) (by kernel_rfl) (by kernel_rfl) (by kernel_rfl) (by kernel_rfl) ?_
        intro ops' hops
        simp only [List.map_cons, List.map_nil, pickOp_zero, pickOp_succ]
        iterate 5 (refine ord_flo ?_ (fun _ _ _ h => h) rfl ?_ ⟨z0, z1, z2, z3, z4, y0⟩ ?_; rotate_left; focus (intro W hS; obtain ⟨s1, s2, s3, s4, s5, s6⟩ := hS; go_simp; rfl))
        refine ord_ev (by rw [hops.out]; kernel_rfl) ?_
        go_simp
        refine (HC5.out _).mono ?_
        rintro e w1 ⟨rfl, rfl⟩
        refine ⟨⟨z0, z1, z2, z3, z4, y0⟩, ?_⟩
        iterate 2 (refine ord_flo ?_ (fun _ _ _ h => h) rfl ?_ ⟨z0, z1, z2, z3, z4, y0⟩ ?_; rotate_left; focus (intro W hS; obtain ⟨s1, s2, s3, s4, s5, s6⟩ := hS; go_simp; rfl))
        iterate 7 (refine ord_flo ?_ (fun _ _ _ h => h) (by rw [hops.out]; kernel_rfl) ?_ ⟨z0, z1, z2, z3, z4, y0⟩ ?_; rotate_left; focus (intro W hS; obtain ⟨s1, s2, s3, s4, s5, s6⟩ := hS; go_simp; rfl))
        refine ord_flo (.pointer (some ⟨b, off + j * 3, none⟩)) (fun _ _ _ h => h) (by rw [hops.out]; kernel_rfl) ?_ ⟨z0, z1, z2, z3, z4, y0⟩ ?_
        · intro W hS
          obtain ⟨s1, s2, s3, s4, s5, s6⟩ := hS
          go_simp; intro h; omega
        iterate 4 (refine ord_flo ?_ (fun _ _ _ h => h) (by rw [hops.out]; kernel_rfl) ?_ ⟨z0, z1, z2, z3, z4, y0⟩ ?_; rotate_left; focus (intro W hS; obtain ⟨s1, s2, s3, s4, s5, s6⟩ := hS; go_simp; rfl))
        refine ord_flo (.bool true) (fun _ _ _ h => h) (by rw [hops.out]; kernel_rfl) ?_ ⟨z0, z1, z2, z3, z4, y0⟩ ?_
        · intro W hS
          obtain ⟨s1, s2, s3, s4, s5, s6⟩ := hS
          go_simp <;> omega
        iterate 1 (refine ord_flo ?_ (fun _ _ _ h => h) (by rw [hops.out]; kernel_rfl) ?_ ⟨z0, z1, z2, z3, z4, y0⟩ ?_; rotate_left; focus (intro W hS; obtain ⟨s1, s2, s3, s4, s5, s6⟩ := hS; go_simp; rfl))
        iterate 2 (refine ord_flo ?_ (fun _ _ _ h => h) rfl ?_ ⟨z0, z1, z2, z3, z4, y0⟩ ?_; rotate_left; focus (intro W hS; obtain ⟨s1, s2, s3, s4, s5, s6⟩ := hS; go_simp; rfl))
        iterate 2 (refine ord_not (fun _ _ _ h => h) (by rw [hops.out]; kernel_rfl) ⟨z0, z1, z2, z3, z4, y0⟩ ?_)
        refine ord_evnot ⟨z0, z1, z2, z3, z4, y0⟩ (by rw [hops.out]; kernel_rfl) ?_
        iterate 1 (refine ord_not (fun _ _ _ h => h) (by rw [hops.out]; kernel_rfl) ⟨z0, z1, z2, z3, z4, y0⟩ ?_)
        iterate 2 (refine ord_flo ?_ (fun _ _ _ h => h) rfl ?_ ⟨z0, z1, z2, z3, z4, y0⟩ ?_; rotate_left; focus (intro W hS; obtain ⟨s1, s2, s3, s4, s5, s6⟩ := hS; go_simp; rfl))
        iterate 4 (refine ord_not (fun _ _ _ h => h) (by rw [hops.out]; kernel_rfl) ⟨z0, z1, z2, z3, z4, y0⟩ ?_)
        iterate 1 (refine ord_flo ?_ (fun _ _ _ h => h) rfl ?_ ⟨z0, z1, z2, z3, z4, y0⟩ ?_; rotate_left; focus (intro W hS; obtain ⟨s1, s2, s3, s4, s5, s6⟩ := hS; go_simp; rfl))
        refine ord_done ?_
        go_simp
        go_wp2
        go_ret
        exact ⟨by rw [HV.out]; rfl, hbf⟩
      have h2b : ¬ (m.uid ≤ q.uid) := by omega
      cases t3 with
      | false =>
        have HV := Lib.hid (box_no5 hlt (by rw [HE2.out]; simp))
        clear HE2 HM HALL HN HQ
        go_wp2_with (refine wpList_putrow rfl _ _ _ rfl wr.heap.size #[.int .i64 m.uid, .int .i64 m.flags, sv m.text] (by rfl) (by rfl) _ _ hZ0 (by kernel_rfl) rfl (by simp [Value.oneCell', sv]) ?_)
        rw [← hZ]
        clear hZ hZ0
        refine ord_start ((0, true) :: (1, true) :: (2, true) :: (3, true) :: (4, true) :: (5, false) :: (6, true) :: (7, true) :: (8, true) :: (9, true) :: (10, true) :: (11, true) :: (12, true) :: (13, true) :: (14, true) :: (15, true) :: (16, true) :: (17, true) :: (18, true) :: (19, true) :: (20, true) :: (21, true) :: (22, true) :: (23, true) :: (24, true) :: (25, true) :: (26, false) :: (27, true) :: (28, true) :: (29, true) :: (30, true) :: (31, true) :: (32, true) :: (33, true) :: (34, true) :: []) (fun W => W.cell? ⟨wr.heap.size, 0, none⟩ = some (.int .i64 m.uid) ∧ W.cell? ⟨wr.heap.size, 1, none⟩ = some (.int .i64 m.flags) ∧ W.cell? ⟨wr.heap.size, 2, none⟩ = some (sv m.text) ∧ W.cell? ⟨w.heap.size, 2, none⟩ = some (.int .i64 x.next) ∧ W.cell? ⟨w.heap.size, 3, none⟩ = some (.slice (some ⟨b, off, none⟩) x.msgs.length c) ∧ W.cell? ⟨b, off + j * 3, none⟩ = some (.int .i64 q.uid)) (by kernel_rfl) (by kernel_rfl) (by kernel_rfl) (by kernel_rfl) ?_
        intro ops' hops
        simp only [List.map_cons, List.map_nil, pickOp_zero, pickOp_succ]
        iterate 5 (refine ord_flo ?_ (fun _ _ _ h => h) rfl ?_ ⟨z0, z1, z2, z3, z4, y0⟩ ?_; rotate_left; focus (intro W hS; obtain ⟨s1, s2, s3, s4, s5, s6⟩ := hS; go_simp; rfl))
        refine ord_ev (by rw [hops.out]; kernel_rfl) ?_
        go_simp
        refine (HC5.out _).mono ?_
        rintro e w1 ⟨rfl, rfl⟩
        refine ⟨⟨z0, z1, z2, z3, z4, y0⟩, ?_⟩
        iterate 2 (refine ord_flo ?_ (fun _ _ _ h => h) rfl ?_ ⟨z0, z1, z2, z3, z4, y0⟩ ?_; rotate_left; focus (intro W hS; obtain ⟨s1, s2, s3, s4, s5, s6⟩ := hS; go_simp; rfl))
        iterate 7 (refine ord_flo ?_ (fun _ _ _ h => h) (by rw [hops.out]; kernel_rfl) ?_ ⟨z0, z1, z2, z3, z4, y0⟩ ?_; rotate_left; focus (intro W hS; obtain ⟨s1, s2, s3, s4, s5, s6⟩ := hS; go_simp; rfl))
        refine ord_flo (.pointer (some ⟨b, off + j * 3, none⟩)) (fun _ _ _ h => h) (by rw [hops.out]; kernel_rfl) ?_ ⟨z0, z1, z2, z3, z4, y0⟩ ?_
        · intro W hS
          obtain ⟨s1, s2, s3, s4, s5, s6⟩ := hS
          go_simp; intro h; omega
        iterate 4 (refine ord_flo ?_ (fun _ _ _ h => h) (by rw [hops.out]; kernel_rfl) ?_ ⟨z0, z1, z2, z3, z4, y0⟩ ?_; rotate_left; focus (intro W hS; obtain ⟨s1, s2, s3, s4, s5, s6⟩ := hS; go_simp; rfl))
        refine ord_flo (.bool false) (fun _ _ _ h => h) (by rw [hops.out]; kernel_rfl) ?_ ⟨z0, z1, z2, z3, z4, y0⟩ ?_
        · intro W hS
          obtain ⟨s1, s2, s3, s4, s5, s6⟩ := hS
          go_simp <;> omega
        iterate 1 (refine ord_flo ?_ (fun _ _ _ h => h) (by rw [hops.out]; kernel_rfl) ?_ ⟨z0, z1, z2, z3, z4, y0⟩ ?_; rotate_left; focus (intro W hS; obtain ⟨s1, s2, s3, s4, s5, s6⟩ := hS; go_simp; rfl))
        iterate 2 (refine ord_flo ?_ (fun _ _ _ h => h) rfl ?_ ⟨z0, z1, z2, z3, z4, y0⟩ ?_; rotate_left; focus (intro W hS; obtain ⟨s1, s2, s3, s4, s5, s6⟩ := hS; go_simp; rfl))
        iterate 2 (refine ord_flo ?_ (fun _ _ _ h => h) (by rw [hops.out]; kernel_rfl) ?_ ⟨z0, z1, z2, z3, z4, y0⟩ ?_; rotate_left; focus (intro W hS; obtain ⟨s1, s2, s3, s4, s5, s6⟩ := hS; go_simp; rfl))
        refine ord_ev (by rw [hops.out]; kernel_rfl) ?_
        go_simp
        refine (HC6.out _).mono ?_
        rintro e w1 ⟨rfl, rfl⟩
        refine ⟨⟨z0, z1, z2, z3, z4, y0⟩, ?_⟩
        iterate 1 (refine ord_flo ?_ (fun _ _ _ h => h) (by rw [hops.out]; kernel_rfl) ?_ ⟨z0, z1, z2, z3, z4, y0⟩ ?_; rotate_left; focus (intro W hS; obtain ⟨s1, s2, s3, s4, s5, s6⟩ := hS; go_simp; rfl))
        iterate 2 (refine ord_flo ?_ (fun _ _ _ h => h) rfl ?_ ⟨z0, z1, z2, z3, z4, y0⟩ ?_; rotate_left; focus (intro W hS; obtain ⟨s1, s2, s3, s4, s5, s6⟩ := hS; go_simp; rfl))
        iterate 4 (refine ord_not (fun _ _ _ h => h) (by rw [hops.out]; kernel_rfl) ⟨z0, z1, z2, z3, z4, y0⟩ ?_)
        iterate 1 (refine ord_flo ?_ (fun _ _ _ h => h) rfl ?_ ⟨z0, z1, z2, z3, z4, y0⟩ ?_; rotate_left; focus (intro W hS; obtain ⟨s1, s2, s3, s4, s5, s6⟩ := hS; go_simp; rfl))
        refine ord_done ?_
        go_simp
        go_wp2
        go_ret
        exact ⟨by rw [HV.out]; rfl, hbf⟩
      | true =>
      by_cases h4 : (m.text.length : Int) ≤ 40
      case neg =>
        have h4b : (40 : Int) < (m.text.length : Int) := by omega
        have HV := Lib.hid (box_no5 hlt (by rw [HE2.out]; simp [h4]))
        clear HE2 HM HALL HN HQ
        go_wp2_with (refine wpList_putrow rfl _ _ _ rfl wr.heap.size #[.int .i64 m.uid, .int .i64 m.flags, sv m.text] (by rfl) (by rfl) _ _ hZ0 (by kernel_rfl) rfl (by simp [Value.oneCell', sv]) ?_)
        rw [← hZ]
        clear hZ hZ0
        refine ord_start ((0, true) :: (1, true) :: (2, true) :: (3, true) :: (4, true) :: (5, false) :: (6, true) :: (7, true) :: (8, true) :: (9, true) :: (10, true) :: (11, true) :: (12, true) :: (13, true) :: (14, true) :: (15, true) :: (16, true) :: (17, true) :: (18, true) :: (19, true) :: (20, true) :: (21, true) :: (22, true) :: (23, true) :: (24, true) :: (25, true) :: (26, false) :: (27, true) :: (28, true) :: (29, true) :: (30, true) :: (31, true) :: (32, true) :: (33, true) :: (34, true) :: []) (fun W => W.cell? ⟨wr.heap.size, 0, none⟩ = some (.int .i64 m.uid) ∧ W.cell? ⟨wr.heap.size, 1, none⟩ = some (.int .i64 m.flags) ∧ W.cell? ⟨wr.heap.size, 2, none⟩ = some (sv m.text) ∧ W.cell? ⟨w.heap.size, 2, none⟩ = some (.int .i64 x.next) ∧ W.cell? ⟨w.heap.size, 3, none⟩ = some (.slice (some ⟨b, off, none⟩) x.msgs.length c) ∧ W.cell? ⟨b, off + j * 3, none⟩ = some (.int .i64 q.uid)) (by kernel_rfl) (by kernel_rfl) (by kernel_rfl) (by kernel_rfl) ?_
        intro ops' hops
        simp only [List.map_cons, List.map_nil, pickOp_zero, pickOp_succ]
        iterate 5 (refine ord_flo ?_ (fun _ _ _ h => h) rfl ?_ ⟨z0, z1, z2, z3, z4, y0⟩ ?_; rotate_left; focus (intro W hS; obtain ⟨s1, s2, s3, s4, s5, s6⟩ := hS; go_simp; rfl))
        refine ord_ev (by rw [hops.out]; kernel_rfl) ?_
        go_simp
        refine (HC5.out _).mono ?_
        rintro e w1 ⟨rfl, rfl⟩
        refine ⟨⟨z0, z1, z2, z3, z4, y0⟩, ?_⟩
        iterate 2 (refine ord_flo ?_ (fun _ _ _ h => h) rfl ?_ ⟨z0, z1, z2, z3, z4, y0⟩ ?_; rotate_left; focus (intro W hS; obtain ⟨s1, s2, s3, s4, s5, s6⟩ := hS; go_simp; rfl))
        iterate 7 (refine ord_flo ?_ (fun _ _ _ h => h) (by rw [hops.out]; kernel_rfl) ?_ ⟨z0, z1, z2, z3, z4, y0⟩ ?_; rotate_left; focus (intro W hS; obtain ⟨s1, s2, s3, s4, s5, s6⟩ := hS; go_simp; rfl))
        refine ord_flo (.pointer (some ⟨b, off + j * 3, none⟩)) (fun _ _ _ h => h) (by rw [hops.out]; kernel_rfl) ?_ ⟨z0, z1, z2, z3, z4, y0⟩ ?_
        · intro W hS
          obtain ⟨s1, s2, s3, s4, s5, s6⟩ := hS
          go_simp; intro h; omega
        iterate 4 (refine ord_flo ?_ (fun _ _ _ h => h) (by rw [hops.out]; kernel_rfl) ?_ ⟨z0, z1, z2, z3, z4, y0⟩ ?_; rotate_left; focus (intro W hS; obtain ⟨s1, s2, s3, s4, s5, s6⟩ := hS; go_simp; rfl))
        refine ord_flo (.bool false) (fun _ _ _ h => h) (by rw [hops.out]; kernel_rfl) ?_ ⟨z0, z1, z2, z3, z4, y0⟩ ?_
        · intro W hS
          obtain ⟨s1, s2, s3, s4, s5, s6⟩ := hS
          go_simp <;> omega
        iterate 1 (refine ord_flo ?_ (fun _ _ _ h => h) (by rw [hops.out]; kernel_rfl) ?_ ⟨z0, z1, z2, z3, z4, y0⟩ ?_; rotate_left; focus (intro W hS; obtain ⟨s1, s2, s3, s4, s5, s6⟩ := hS; go_simp; rfl))
        iterate 2 (refine ord_flo ?_ (fun _ _ _ h => h) rfl ?_ ⟨z0, z1, z2, z3, z4, y0⟩ ?_; rotate_left; focus (intro W hS; obtain ⟨s1, s2, s3, s4, s5, s6⟩ := hS; go_simp; rfl))
        iterate 2 (refine ord_flo ?_ (fun _ _ _ h => h) (by rw [hops.out]; kernel_rfl) ?_ ⟨z0, z1, z2, z3, z4, y0⟩ ?_; rotate_left; focus (intro W hS; obtain ⟨s1, s2, s3, s4, s5, s6⟩ := hS; go_simp; rfl))
        refine ord_ev (by rw [hops.out]; kernel_rfl) ?_
        go_simp
        refine (HC6.out _).mono ?_
        rintro e w1 ⟨rfl, rfl⟩
        refine ⟨⟨z0, z1, z2, z3, z4, y0⟩, ?_⟩
        iterate 1 (refine ord_flo ?_ (fun _ _ _ h => h) (by rw [hops.out]; kernel_rfl) ?_ ⟨z0, z1, z2, z3, z4, y0⟩ ?_; rotate_left; focus (intro W hS; obtain ⟨s1, s2, s3, s4, s5, s6⟩ := hS; go_simp; rfl))
        iterate 2 (refine ord_flo ?_ (fun _ _ _ h => h) rfl ?_ ⟨z0, z1, z2, z3, z4, y0⟩ ?_; rotate_left; focus (intro W hS; obtain ⟨s1, s2, s3, s4, s5, s6⟩ := hS; go_simp; rfl))
        iterate 4 (refine ord_flo ?_ (fun _ _ _ h => h) (by rw [hops.out]; kernel_rfl) ?_ ⟨z0, z1, z2, z3, z4, y0⟩ ?_; rotate_left; focus (intro W hS; obtain ⟨s1, s2, s3, s4, s5, s6⟩ := hS; go_simp; rfl))
        iterate 1 (refine ord_flo ?_ (fun _ _ _ h => h) rfl ?_ ⟨z0, z1, z2, z3, z4, y0⟩ ?_; rotate_left; focus (intro W hS; obtain ⟨s1, s2, s3, s4, s5, s6⟩ := hS; go_simp; rfl))
        refine ord_done ?_
        go_simp
        go_wp2
        go_ret
        exact ⟨by rw [HV.out]; rfl, hbf⟩
      have h4b : ¬ ((40 : Int) < (m.text.length : Int)) := by omega
      have HS := Lib.hid (range_step HALL.out (by rw [HE2.out]; simp [h4, h2]))
      clear HE2 HM HALL h4 HQ h2
      go_wp2_with (refine wpList_putrow rfl _ _ _ rfl wr.heap.size #[.int .i64 m.uid, .int .i64 m.flags, sv m.text] (by rfl) (by rfl) _ _ hZ0 (by kernel_rfl) rfl (by simp [Value.oneCell', sv]) ?_)
      rw [← hZ]
      clear hZ hZ0
      refine ord_start ((0, true) :: (1, true) :: (2, true) :: (3, true) :: (4, true) :: (5, false) :: (6, true) :: (7, true) :: (8, true) :: (9, true) :: (10, true) :: (11, true) :: (12, true) :: (13, true) :: (14, true) :: (15, true) :: (16, true) :: (17, true) :: (18, true) :: (19, true) :: (20, true) :: (21, true) :: (22, true) :: (23, true) :: (24, true) :: (25, true) :: (26, false) :: (27, true) :: (28, true) :: (29, true) :: (30, true) :: (31, true) :: (32, true) :: (33, true) :: (34, true) :: []) (fun W => W.cell? ⟨wr.heap.size, 0, none⟩ = some (.int .i64 m.uid) ∧ W.cell? ⟨wr.heap.size, 1, none⟩ = some (.int .i64 m.flags) ∧ W.cell? ⟨wr.heap.size, 2, none⟩ = some (sv m.text) ∧ W.cell? ⟨w.heap.size, 2, none⟩ = some (.int .i64 x.next) ∧ W.cell? ⟨w.heap.size, 3, none⟩ = some (.slice (some ⟨b, off, none⟩) x.msgs.length c) ∧ W.cell? ⟨b, off + j * 3, none⟩ = some (.int .i64 q.uid)) (by kernel_rfl) (by kernel_rfl) (by kernel_rfl) (by kernel_rfl) ?_
      intro ops' hops
      simp only [List.map_cons, List.map_nil, pickOp_zero, pickOp_succ]
      iterate 5 (refine ord_flo ?_ (fun _ _ _ h => h) rfl ?_ ⟨z0, z1, z2, z3, z4, y0⟩ ?_; rotate_left; focus (intro W hS; obtain ⟨s1, s2, s3, s4, s5, s6⟩ := hS; go_simp; rfl))
      refine ord_ev (by rw [hops.out]; kernel_rfl) ?_
      go_simp
      refine (HC5.out _).mono ?_
      rintro e w1 ⟨rfl, rfl⟩
      refine ⟨⟨z0, z1, z2, z3, z4, y0⟩, ?_⟩
      iterate 2 (refine ord_flo ?_ (fun _ _ _ h => h) rfl ?_ ⟨z0, z1, z2, z3, z4, y0⟩ ?_; rotate_left; focus (intro W hS; obtain ⟨s1, s2, s3, s4, s5, s6⟩ := hS; go_simp; rfl))
      iterate 7 (refine ord_flo ?_ (fun _ _ _ h => h) (by rw [hops.out]; kernel_rfl) ?_ ⟨z0, z1, z2, z3, z4, y0⟩ ?_; rotate_left; focus (intro W hS; obtain ⟨s1, s2, s3, s4, s5, s6⟩ := hS; go_simp; rfl))
      refine ord_flo (.pointer (some ⟨b, off + j * 3, none⟩)) (fun _ _ _ h => h) (by rw [hops.out]; kernel_rfl) ?_ ⟨z0, z1, z2, z3, z4, y0⟩ ?_
      · intro W hS
        obtain ⟨s1, s2, s3, s4, s5, s6⟩ := hS
        go_simp; intro h; omega
      iterate 4 (refine ord_flo ?_ (fun _ _ _ h => h) (by rw [hops.out]; kernel_rfl) ?_ ⟨z0, z1, z2, z3, z4, y0⟩ ?_; rotate_left; focus (intro W hS; obtain ⟨s1, s2, s3, s4, s5, s6⟩ := hS; go_simp; rfl))
      refine ord_flo (.bool false) (fun _ _ _ h => h) (by rw [hops.out]; kernel_rfl) ?_ ⟨z0, z1, z2, z3, z4, y0⟩ ?_
      · intro W hS
        obtain ⟨s1, s2, s3, s4, s5, s6⟩ := hS
        go_simp <;> omega
      iterate 1 (refine ord_flo ?_ (fun _ _ _ h => h) (by rw [hops.out]; kernel_rfl) ?_ ⟨z0, z1, z2, z3, z4, y0⟩ ?_; rotate_left; focus (intro W hS; obtain ⟨s1, s2, s3, s4, s5, s6⟩ := hS; go_simp; rfl))
      iterate 2 (refine ord_flo ?_ (fun _ _ _ h => h) rfl ?_ ⟨z0, z1, z2, z3, z4, y0⟩ ?_; rotate_left; focus (intro W hS; obtain ⟨s1, s2, s3, s4, s5, s6⟩ := hS; go_simp; rfl))
      iterate 2 (refine ord_flo ?_ (fun _ _ _ h => h) (by rw [hops.out]; kernel_rfl) ?_ ⟨z0, z1, z2, z3, z4, y0⟩ ?_; rotate_left; focus (intro W hS; obtain ⟨s1, s2, s3, s4, s5, s6⟩ := hS; go_simp; rfl))
      refine ord_ev (by rw [hops.out]; kernel_rfl) ?_
      go_simp
      refine (HC6.out _).mono ?_
      rintro e w1 ⟨rfl, rfl⟩
      refine ⟨⟨z0, z1, z2, z3, z4, y0⟩, ?_⟩
      iterate 1 (refine ord_flo ?_ (fun _ _ _ h => h) (by rw [hops.out]; kernel_rfl) ?_ ⟨z0, z1, z2, z3, z4, y0⟩ ?_; rotate_left; focus (intro W hS; obtain ⟨s1, s2, s3, s4, s5, s6⟩ := hS; go_simp; rfl))
      iterate 2 (refine ord_flo ?_ (fun _ _ _ h => h) rfl ?_ ⟨z0, z1, z2, z3, z4, y0⟩ ?_; rotate_left; focus (intro W hS; obtain ⟨s1, s2, s3, s4, s5, s6⟩ := hS; go_simp; rfl))
      iterate 4 (refine ord_flo ?_ (fun _ _ _ h => h) (by rw [hops.out]; kernel_rfl) ?_ ⟨z0, z1, z2, z3, z4, y0⟩ ?_; rotate_left; focus (intro W hS; obtain ⟨s1, s2, s3, s4, s5, s6⟩ := hS; go_simp; rfl))
      iterate 1 (refine ord_flo ?_ (fun _ _ _ h => h) rfl ?_ ⟨z0, z1, z2, z3, z4, y0⟩ ?_; rotate_left; focus (intro W hS; obtain ⟨s1, s2, s3, s4, s5, s6⟩ := hS; go_simp; rfl))
      refine ord_done ?_
      go_simp
      go_wp2
      go_roundw
      case rel => exact ⟨j + 1 + 1, by omega, by go_num, HS.out, hbd⟩
      case measure => simp [intOf]; omega

set_option maxRecDepth 20000 in
set_option maxHeartbeats 6400000 in
theorem specSameBox_c : CtrSameBox 26 (fun _ => True) := by
  intro x r y s w _ hr hs _ hq hs2 _
  have hl : x.msgs.length ≤ 1048576 := by
    have h1 := BoxD.sz x
    have h2 : szLf (msgsLf x.msgs) = x.msgs.length + szLs (x.msgs.flatMap MsgD.lf) := rfl
    omega
  obtain ⟨p, c, rfl, hp⟩ := MsgD.at hr
  obtain ⟨q, d, rfl, hqq⟩ := MsgD.at hq
  have HP := Lib.hid hp
  have HQ := Lib.hid hqq
  have hbA : Below w.heap.size w ((w.alloc (.cells #[sv x.name, .int .i64 x.validity, .int .i64 x.next, .slice p x.msgs.length c] 38)).alloc (.cells #[sv y.name, .int .i64 y.validity, .int .i64 y.next, .slice q y.msgs.length d] 38)) := ((Below.refl _ _).alloc (Nat.le_refl _) _).alloc (by simp) _
  have hA : ((w.alloc (.cells #[sv x.name, .int .i64 x.validity, .int .i64 x.next, .slice p x.msgs.length c] 38)).alloc (.cells #[sv y.name, .int .i64 y.validity, .int .i64 y.next, .slice q y.msgs.length d] 38)).heap[w.heap.size]? = some (.cells #[sv x.name, .int .i64 x.validity, .int .i64 x.next, .slice p x.msgs.length c] 38 (0, 0)) := (Below.heap_alloc _ _ _ (by simp)).trans (heap_alloc_new w _)
  have hB : ((w.alloc (.cells #[sv x.name, .int .i64 x.validity, .int .i64 x.next, .slice p x.msgs.length c] 38)).alloc (.cells #[sv y.name, .int .i64 y.validity, .int .i64 y.next, .slice q y.msgs.length d] 38)).heap[w.heap.size + 1]? = some (.cells #[sv y.name, .int .i64 y.validity, .int .i64 y.next, .slice q y.msgs.length d] 38 (0, 0)) := by
    have h1 := heap_alloc_new (w.alloc (.cells #[sv x.name, .int .i64 x.validity, .int .i64 x.next, .slice p x.msgs.length c] 38)) (.cells #[sv y.name, .int .i64 y.validity, .int .i64 y.next, .slice q y.msgs.length d] 38)
    rw [World.size_alloc] at h1
    exact h1
  generalize hW : ((w.alloc (.cells #[sv x.name, .int .i64 x.validity, .int .i64 x.next, .slice p x.msgs.length c] 38)).alloc (.cells #[sv y.name, .int .i64 y.validity, .int .i64 y.next, .slice q y.msgs.length d] 38)) = W at *
  have HA := Lib.hid hA
  have HB := Lib.hid hB
  have a0 := (Lib.cell_of_heap hA 0).trans (show _ = some (sv x.name) from rfl)
  have a1 := (Lib.cell_of_heap hA 1).trans (show _ = some (.int .i64 x.validity) from rfl)
  have a2 := (Lib.cell_of_heap hA 2).trans (show _ = some (.int .i64 x.next) from rfl)
  have a3 := (Lib.cell_of_heap hA 3).trans (show _ = some (.slice p x.msgs.length c) from rfl)
  have b0 := (Lib.cell_of_heap hB 0).trans (show _ = some (sv y.name) from rfl)
  have b1 := (Lib.cell_of_heap hB 1).trans (show _ = some (.int .i64 y.validity) from rfl)
  have b2 := (Lib.cell_of_heap hB 2).trans (show _ = some (.int .i64 y.next) from rfl)
  have b3 := (Lib.cell_of_heap hB 3).trans (show _ = some (.slice q y.msgs.length d) from rfl)
  clear hr hs hp hA hB hq hs2 hqq
  cases h1 : (x.name == y.name) with
  | false =>
    have g1 := ne_strY h1
    have HV := Lib.hid (show decide (x = y) = false from decide_eq_false (fun e => by rw [e] at h1; simp at h1))
    go_enter Tryz.func26, Tryz.ntmps26
    go_wp2
    go_ret
    exact ⟨by rw [HV.out]; rfl, hbA⟩
  | true =>
  have g1 := ne_strN h1
  cases h2 : (x.validity == y.validity) with
  | false =>
    have g2 := ne_yes' h2
    have HV := Lib.hid (show decide (x = y) = false from decide_eq_false (fun e => by rw [e] at h2; simp at h2))
    go_enter Tryz.func26, Tryz.ntmps26
    go_wp2
    go_ret
    exact ⟨by rw [HV.out]; rfl, hbA⟩
  | true =>
  have g2 := ne_not' h2
  cases h3 : (x.next == y.next) with
  | false =>
    have g3 := ne_yes' h3
    have HV := Lib.hid (show decide (x = y) = false from decide_eq_false (fun e => by rw [e] at h3; simp at h3))
    go_enter Tryz.func26, Tryz.ntmps26
    go_wp2
    go_ret
    exact ⟨by rw [HV.out]; rfl, hbA⟩
  | true =>
  have g3 := ne_not' h3
  by_cases hlen : x.msgs.length = y.msgs.length
  case neg =>
    have h4 : ((x.msgs.length : Int) == (y.msgs.length : Int)) = false := by rw [beq_eq_false_iff_ne]; omega
    have g4 := ne_yes' h4
    have HV := Lib.hid (show decide (x = y) = false from decide_eq_false (fun e => by rw [e] at hlen; simp at hlen))
    go_enter Tryz.func26, Tryz.ntmps26
    go_wp2
    go_ret
    exact ⟨by rw [HV.out]; rfl, hbA⟩
  have h4 : ((x.msgs.length : Int) == (y.msgs.length : Int)) = true := by rw [hlen]; simp
  have g4 := ne_not' h4
  have HL := Lib.hid hlen
  have HE := Lib.hid (And.intro h1 (And.intro h2 h3))
  clear hlen
  go_enter Tryz.func26, Tryz.ntmps26
  go_wp2
  clear hW h1 h2 h3 g1 g2 g3 h4 g4 a0 a1 a2 b0 b1 b2
  go_loopw [5] (fun i wr => ∃ k : Nat, k ≤ x.msgs.length ∧ i = .int .i64 k ∧ x.msgs.take k = y.msgs.take k ∧ Below W.heap.size W wr) (fun i _ => x.msgs.length - (intOf i).toNat)
  case atStart => exact ⟨0, by omega, rfl, rfl, Below.refl _ _⟩
  case round =>
    obtain ⟨k, hk, rfl, hall, hbr⟩ := hrel
    have HALL := Lib.hid hall
    have hA1 := (hbr.block w.heap.size (Array.getElem?_eq_some_iff.1 HA.out).1).trans HA.out
    have hB1 := (hbr.block (w.heap.size + 1) (Array.getElem?_eq_some_iff.1 HB.out).1).trans HB.out
    have r3 : wr.cell? ⟨w.heap.size, 3, none⟩ = some (.slice p x.msgs.length c) := (Lib.cell_of_heap hA1 3).trans rfl
    clear hall a3 b3
    by_cases hlt : k < x.msgs.length
    case neg =>
      obtain rfl : k = x.msgs.length := by omega
      have HV := Lib.hid (show decide (x = y) = true from decide_eq_true (by
        have h5 := HALL.out
        rw [List.take_length, HL.out, List.take_length] at h5
        obtain ⟨e1, e2, e3⟩ := HE.out
        cases x; cases y; simp only [beq_iff_eq] at e1 e2 e3 h5; simp only [e1, e2, e3, h5]))
      have hbf := hbA.trans (hbr.mono hbA.size)
      clear hA1 hB1
      go_wp2
      go_ret
      exact ⟨by rw [HV.out]; rfl, hbf⟩
    obtain ⟨b1, o1, rfl, hb1, hc1⟩ := HP.out.resolve_left (by intro h; rw [h] at hlt; simp at hlt)
    obtain ⟨b2, o2, rfl, hb2, hc2⟩ := HQ.out.resolve_left (by intro h; have := HL.out; rw [h] at this; simp at this; rw [this] at hlt; simp at hlt)
    obtain ⟨m, hm⟩ : ∃ m, x.msgs[k]? = some m := ⟨_, List.getElem?_eq_getElem hlt⟩
    obtain ⟨n, hn⟩ : ∃ n, y.msgs[k]? = some n := ⟨_, List.getElem?_eq_getElem (by have := HL.out; omega)⟩
    obtain ⟨x0, x1, x2⟩ := hc1 k m hm
    obtain ⟨y0, y1, y2⟩ := hc2 k n hn
    have hbw := hbA.trans (hbr.mono hbA.size)
    have e0 : wr.drew.cell? ⟨b1, o1 + k * 3, none⟩ = some (.int .i64 m.uid) := (hbw.cell (p := ⟨b1, o1 + k * 3, none⟩) hb1).trans x0
    have e1 : wr.drew.cell? ⟨b1, o1 + k * 3 + 1, none⟩ = some (.int .i64 m.flags) := (hbw.cell (p := ⟨b1, o1 + k * 3 + 1, none⟩) hb1).trans x1
    have e2 : wr.drew.cell? ⟨b1, o1 + k * 3 + 2, none⟩ = some (sv m.text) := (hbw.cell (p := ⟨b1, o1 + k * 3 + 2, none⟩) hb1).trans x2
    have f0 : wr.drew.cell? ⟨b2, o2 + k * 3, none⟩ = some (.int .i64 n.uid) := (hbw.cell (p := ⟨b2, o2 + k * 3, none⟩) hb2).trans y0
    have f1 : wr.drew.cell? ⟨b2, o2 + k * 3 + 1, none⟩ = some (.int .i64 n.flags) := (hbw.cell (p := ⟨b2, o2 + k * 3 + 1, none⟩) hb2).trans y1
    have f2 : wr.drew.cell? ⟨b2, o2 + k * 3 + 2, none⟩ = some (sv n.text) := (hbw.cell (p := ⟨b2, o2 + k * 3 + 2, none⟩) hb2).trans y2
    have r3d : wr.drew.cell? ⟨w.heap.size, 3, none⟩ = some (.slice (some ⟨b1, o1, none⟩) x.msgs.length c) := r3
    have q3d : wr.drew.cell? ⟨w.heap.size + 1, 3, none⟩ = some (.slice (some ⟨b2, o2, none⟩) y.msgs.length d) := (Lib.cell_of_heap hB1 3).trans rfl
    have hlt2 : k < y.msgs.length := by have := HL.out; omega
    have hno := Lib.hid (fun h : m ≠ n => (decide_eq_false (fun e => same_not hm hn h (by rw [e])) : decide (x = y) = false))
    have hyes := Lib.hid (fun h : m = n => same_take hm (by rw [hn, h]) HALL.out)
    have hbd : Below W.heap.size W wr.drew := hbr.drew
    have hbf := hbA.trans (hbd.mono hbA.size)
    clear hc1 hc2 hm hn x0 x1 x2 y0 y1 y2 hA1 hB1 hbr hbw
    cases h1 : (m.uid == n.uid) with
    | false =>
      have HV := Lib.hid (hno.out (by intro e; rw [e] at h1; simp at h1))
      clear hno hyes HP HQ HL HALL HE
      go_wp2
      refine ord_start [(0, true), (1, true), (2, true), (3, true), (4, true), (5, true), (6, true), (7, true), (8, true), (9, true), (10, true)] (fun W => W.cell? ⟨b1, o1 + k * 3, none⟩ = some (.int .i64 m.uid) ∧ W.cell? ⟨b1, o1 + k * 3 + 1, none⟩ = some (.int .i64 m.flags) ∧ W.cell? ⟨b1, o1 + k * 3 + 2, none⟩ = some (sv m.text) ∧ W.cell? ⟨b2, o2 + k * 3, none⟩ = some (.int .i64 n.uid) ∧ W.cell? ⟨b2, o2 + k * 3 + 1, none⟩ = some (.int .i64 n.flags) ∧ W.cell? ⟨b2, o2 + k * 3 + 2, none⟩ = some (sv n.text) ∧ W.cell? ⟨w.heap.size, 3, none⟩ = some (.slice (some ⟨b1, o1, none⟩) x.msgs.length c) ∧ W.cell? ⟨w.heap.size + 1, 3, none⟩ = some (.slice (some ⟨b2, o2, none⟩) y.msgs.length d)) (by kernel_rfl) (by kernel_rfl) rfl (by kernel_rfl) ?_
      intro ops' hops
      clear hops
      simp only [List.map_cons, List.map_nil, pickOp_zero, pickOp_succ]
      iterate 11 (refine ord_flo ?_ (fun _ _ _ h => h) rfl ?_ ⟨e0, e1, e2, f0, f1, f2, r3d, q3d⟩ ?_; rotate_left; focus (intro W hS; obtain ⟨s1, s2, s3, s4, s5, s6, s7, s8⟩ := hS; go_simp; rfl))
      refine ord_done ?_
      go_simp
      go_wp2
      go_ret
      exact ⟨by rw [HV.out]; rfl, hbf⟩
    | true =>
    cases h2 : (m.flags == n.flags) with
    | false =>
      have HV := Lib.hid (hno.out (by intro e; rw [e] at h2; simp at h2))
      clear hno hyes HP HQ HL HALL HE
      go_wp2
      refine ord_start [(0, true), (1, true), (2, true), (3, true), (4, true), (5, true), (6, true), (7, true), (8, true), (9, true), (10, true)] (fun W => W.cell? ⟨b1, o1 + k * 3, none⟩ = some (.int .i64 m.uid) ∧ W.cell? ⟨b1, o1 + k * 3 + 1, none⟩ = some (.int .i64 m.flags) ∧ W.cell? ⟨b1, o1 + k * 3 + 2, none⟩ = some (sv m.text) ∧ W.cell? ⟨b2, o2 + k * 3, none⟩ = some (.int .i64 n.uid) ∧ W.cell? ⟨b2, o2 + k * 3 + 1, none⟩ = some (.int .i64 n.flags) ∧ W.cell? ⟨b2, o2 + k * 3 + 2, none⟩ = some (sv n.text) ∧ W.cell? ⟨w.heap.size, 3, none⟩ = some (.slice (some ⟨b1, o1, none⟩) x.msgs.length c) ∧ W.cell? ⟨w.heap.size + 1, 3, none⟩ = some (.slice (some ⟨b2, o2, none⟩) y.msgs.length d)) (by kernel_rfl) (by kernel_rfl) rfl (by kernel_rfl) ?_
      intro ops' hops
      clear hops
      simp only [List.map_cons, List.map_nil, pickOp_zero, pickOp_succ]
      iterate 11 (refine ord_flo ?_ (fun _ _ _ h => h) rfl ?_ ⟨e0, e1, e2, f0, f1, f2, r3d, q3d⟩ ?_; rotate_left; focus (intro W hS; obtain ⟨s1, s2, s3, s4, s5, s6, s7, s8⟩ := hS; go_simp; rfl))
      refine ord_done ?_
      go_simp
      go_wp2
      go_ret
      exact ⟨by rw [HV.out]; rfl, hbf⟩
    | true =>
    cases h3 : (m.text == n.text) with
    | false =>
      have HV := Lib.hid (hno.out (by intro e; rw [e] at h3; simp at h3))
      clear hno hyes HP HQ HL HALL HE
      go_wp2
      refine ord_start [(0, true), (1, true), (2, true), (3, true), (4, true), (5, true), (6, true), (7, true), (8, true), (9, true), (10, true)] (fun W => W.cell? ⟨b1, o1 + k * 3, none⟩ = some (.int .i64 m.uid) ∧ W.cell? ⟨b1, o1 + k * 3 + 1, none⟩ = some (.int .i64 m.flags) ∧ W.cell? ⟨b1, o1 + k * 3 + 2, none⟩ = some (sv m.text) ∧ W.cell? ⟨b2, o2 + k * 3, none⟩ = some (.int .i64 n.uid) ∧ W.cell? ⟨b2, o2 + k * 3 + 1, none⟩ = some (.int .i64 n.flags) ∧ W.cell? ⟨b2, o2 + k * 3 + 2, none⟩ = some (sv n.text) ∧ W.cell? ⟨w.heap.size, 3, none⟩ = some (.slice (some ⟨b1, o1, none⟩) x.msgs.length c) ∧ W.cell? ⟨w.heap.size + 1, 3, none⟩ = some (.slice (some ⟨b2, o2, none⟩) y.msgs.length d)) (by kernel_rfl) (by kernel_rfl) rfl (by kernel_rfl) ?_
      intro ops' hops
      clear hops
      simp only [List.map_cons, List.map_nil, pickOp_zero, pickOp_succ]
      iterate 11 (refine ord_flo ?_ (fun _ _ _ h => h) rfl ?_ ⟨e0, e1, e2, f0, f1, f2, r3d, q3d⟩ ?_; rotate_left; focus (intro W hS; obtain ⟨s1, s2, s3, s4, s5, s6, s7, s8⟩ := hS; go_simp; rfl))
      refine ord_done ?_
      go_simp
      go_wp2
      go_ret
      exact ⟨by rw [HV.out]; rfl, hbf⟩
    | true =>
    have HN := Lib.hid (hyes.out (by cases m; cases n; simp only [beq_iff_eq] at h1 h2 h3; rw [h1, h2, h3]))
    clear hno hyes
    go_wp2
    refine ord_start [(0, true), (1, true), (2, true), (3, true), (4, true), (5, true), (6, true), (7, true), (8, true), (9, true), (10, true)] (fun W => W.cell? ⟨b1, o1 + k * 3, none⟩ = some (.int .i64 m.uid) ∧ W.cell? ⟨b1, o1 + k * 3 + 1, none⟩ = some (.int .i64 m.flags) ∧ W.cell? ⟨b1, o1 + k * 3 + 2, none⟩ = some (sv m.text) ∧ W.cell? ⟨b2, o2 + k * 3, none⟩ = some (.int .i64 n.uid) ∧ W.cell? ⟨b2, o2 + k * 3 + 1, none⟩ = some (.int .i64 n.flags) ∧ W.cell? ⟨b2, o2 + k * 3 + 2, none⟩ = some (sv n.text) ∧ W.cell? ⟨w.heap.size, 3, none⟩ = some (.slice (some ⟨b1, o1, none⟩) x.msgs.length c) ∧ W.cell? ⟨w.heap.size + 1, 3, none⟩ = some (.slice (some ⟨b2, o2, none⟩) y.msgs.length d)) (by kernel_rfl) (by kernel_rfl) rfl (by kernel_rfl) ?_
    intro ops' hops
    clear hops
    simp only [List.map_cons, List.map_nil, pickOp_zero, pickOp_succ]
    iterate 11 (refine ord_flo ?_ (fun _ _ _ h => h) rfl ?_ ⟨e0, e1, e2, f0, f1, f2, r3d, q3d⟩ ?_; rotate_left; focus (intro W hS; obtain ⟨s1, s2, s3, s4, s5, s6, s7, s8⟩ := hS; go_simp; rfl))
    refine ord_done ?_
    go_simp
    go_wp2
    go_roundw
    case rel => exact ⟨k + 1, by omega, by go_num, HN.out, hbd⟩
    case measure => simp [intOf]; omega

set_option maxRecDepth 20000 in
set_option maxHeartbeats 6400000 in
theorem specSameBoxes_c : CtrSameBoxes 20 (fun _ => True) := by
  intro l va m vb w _ ha hs hbd hb hs2 hbd2
  have hl : l.length ≤ 1048576 := Nat.le_trans (Nat.le_add_right _ _) hs
  have hsl : ∀ x ∈ l, szLs x.lf ≤ 1048576 ∧ LsBnd x.lf := fun x hx => ⟨by have h1 := szLs_mem BoxD.lf hx; have h2 : szLf (boxsLf l) = l.length + szLs (l.flatMap BoxD.lf) := rfl; omega, LsBnd.flat hbd.2 x hx⟩
  have hsm : ∀ x ∈ m, szLs x.lf ≤ 1048576 ∧ LsBnd x.lf := fun x hx => ⟨by have h1 := szLs_mem BoxD.lf hx; have h2 : szLf (boxsLf m) = m.length + szLs (m.flatMap BoxD.lf) := rfl; omega, LsBnd.flat hbd2.2 x hx⟩
  obtain ⟨p, c, rfl, hp⟩ := BoxD.at ha
  obtain ⟨q, d, rfl, hq⟩ := BoxD.at hb
  have HP := Lib.hid hp
  have HQ := Lib.hid hq
  have HSL := Lib.hid hsl
  have HSM := Lib.hid hsm
  clear ha hs hbd hb hs2 hbd2 hp hq hsl hsm
  by_cases hlen : l.length = m.length
  case neg =>
    have HV := Lib.hid (show decide (l = m) = false from decide_eq_false (fun e => hlen (by rw [e])))
    have h4 : ((l.length : Int) == (m.length : Int)) = false := by rw [beq_eq_false_iff_ne]; omega
    have g4 := ne_yes' h4
    go_enter Tryz.func20, Tryz.ntmps20
    go_wp2
    go_ret
    exact ⟨by rw [HV.out]; rfl, Below.refl _ _⟩
  have h4 : ((l.length : Int) == (m.length : Int)) = true := by rw [hlen]; simp
  have g4 := ne_not' h4
  have HL := Lib.hid hlen
  clear hlen
  go_enter Tryz.func20, Tryz.ntmps20
  go_wp2
  clear h4 g4
  go_loopw [5] (fun i wr => ∃ k : Nat, k ≤ l.length ∧ i = .int .i64 k ∧ l.take k = m.take k ∧ Below w.heap.size w wr) (fun i _ => l.length - (intOf i).toNat)
  case atStart => exact ⟨0, by omega, rfl, rfl, Below.refl _ _⟩
  case round =>
    obtain ⟨k, hk, rfl, hall, hbr⟩ := hrel
    have HALL := Lib.hid hall
    clear hall
    by_cases hlt : k < l.length
    case neg =>
      obtain rfl : k = l.length := by omega
      have HV := Lib.hid (show decide (l = m) = true from decide_eq_true (by have := HALL.out; rw [List.take_length, HL.out, List.take_length] at this; exact this))
      go_wp2
      go_ret
      exact ⟨by rw [HV.out]; rfl, hbr⟩
    obtain ⟨b1, o1, rfl, hb1, hc1⟩ := HP.out.resolve_left (by intro h; subst h; simp at hlt)
    obtain ⟨b2, o2, rfl, hb2, hc2⟩ := HQ.out.resolve_left (by intro h; have hlen := HL.out; rw [h] at hlen; simp at hlen; simp [hlen] at hlt)
    obtain ⟨x, hx⟩ : ∃ x, l[k]? = some x := ⟨_, List.getElem?_eq_getElem hlt⟩
    obtain ⟨y, hy⟩ : ∃ y, m[k]? = some y := ⟨_, List.getElem?_eq_getElem (by have := HL.out; omega)⟩
    obtain ⟨r3, hr3, ze0, ze1, ze2, ze3⟩ := hc1 k x hx
    obtain ⟨s3, hs3, zf0, zf1, zf2, zf3⟩ := hc2 k y hy
    obtain ⟨sx1, sx2⟩ := HSL.out x (List.mem_of_getElem? hx)
    obtain ⟨sy1, sy2⟩ := HSM.out y (List.mem_of_getElem? hy)
    have hlt2 : k < m.length := by have := HL.out; omega
    have hbd := hbr.drew
    have hl1 : b1 < wr.drew.heap.size := Nat.lt_of_lt_of_le hb1 hbd.size
    have hl2 : b2 < wr.drew.heap.size := Nat.lt_of_lt_of_le hb2 hbd.size
    have CS := Lib.hid (specSameBox_c x r3 y s3 wr.drew trivial (LfRd.below hbd _ _ hr3) sx1 sx2 (LfRd.below hbd _ _ hs3) sy1 sy2)
    have e0 : wr.drew.cell? ⟨b1, o1 + k * 4, none⟩ = some (sv x.name) := (hbr.cell (p := ⟨b1, o1 + k * 4, none⟩) hb1).trans ze0
    have e1 : wr.drew.cell? ⟨b1, o1 + k * 4 + 1, none⟩ = some (.int .i64 x.validity) := (hbr.cell (p := ⟨b1, o1 + k * 4 + 1, none⟩) hb1).trans ze1
    have e2 : wr.drew.cell? ⟨b1, o1 + k * 4 + 2, none⟩ = some (.int .i64 x.next) := (hbr.cell (p := ⟨b1, o1 + k * 4 + 2, none⟩) hb1).trans ze2
    have e3 : wr.drew.cell? ⟨b1, o1 + k * 4 + 3, none⟩ = some (r3) := (hbr.cell (p := ⟨b1, o1 + k * 4 + 3, none⟩) hb1).trans ze3
    have f0 : wr.drew.cell? ⟨b2, o2 + k * 4, none⟩ = some (sv y.name) := (hbr.cell (p := ⟨b2, o2 + k * 4, none⟩) hb2).trans zf0
    have f1 : wr.drew.cell? ⟨b2, o2 + k * 4 + 1, none⟩ = some (.int .i64 y.validity) := (hbr.cell (p := ⟨b2, o2 + k * 4 + 1, none⟩) hb2).trans zf1
    have f2 : wr.drew.cell? ⟨b2, o2 + k * 4 + 2, none⟩ = some (.int .i64 y.next) := (hbr.cell (p := ⟨b2, o2 + k * 4 + 2, none⟩) hb2).trans zf2
    have f3 : wr.drew.cell? ⟨b2, o2 + k * 4 + 3, none⟩ = some (s3) := (hbr.cell (p := ⟨b2, o2 + k * 4 + 3, none⟩) hb2).trans zf3
    have hno := Lib.hid (fun h : decide (x = y) = false => (decide_eq_false (same_not hx hy (of_decide_eq_false h)) : decide (l = m) = false))
    have hyes := Lib.hid (fun h : decide (x = y) = true => same_take hx (by rw [hy, of_decide_eq_true h]) HALL.out)
    obtain ⟨t, ht⟩ : ∃ t, decide (x = y) = t := ⟨_, rfl⟩
    rw [ht] at CS hno hyes
    obtain ⟨p3, d3, rfl⟩ := LfRd.slice hr3
    obtain ⟨q3, d4, rfl⟩ := LfRd.slice hs3
    clear hc1 hc2 hx hy hr3 hs3 ze0 ze1 ze2 ze3 zf0 zf1 zf2 zf3 sx1 sx2 sy1 sy2 hbr ht
    cases t with
    | false =>
      have HV := Lib.hid (hno.out rfl)
      clear hno hyes HP HQ HL HALL
      go_wp2
      refine ord_start [(0, true), (1, true), (2, true), (3, true), (4, true), (5, true), (6, true), (7, true), (8, false), (9, true)] (fun W => W.cell? ⟨b1, o1 + k * 4, none⟩ = some (sv x.name) ∧ W.cell? ⟨b1, o1 + k * 4 + 1, none⟩ = some (.int .i64 x.validity) ∧ W.cell? ⟨b1, o1 + k * 4 + 2, none⟩ = some (.int .i64 x.next) ∧ W.cell? ⟨b1, o1 + k * 4 + 3, none⟩ = some (.slice p3 x.msgs.length d3) ∧ W.cell? ⟨b2, o2 + k * 4, none⟩ = some (sv y.name) ∧ W.cell? ⟨b2, o2 + k * 4 + 1, none⟩ = some (.int .i64 y.validity) ∧ W.cell? ⟨b2, o2 + k * 4 + 2, none⟩ = some (.int .i64 y.next) ∧ W.cell? ⟨b2, o2 + k * 4 + 3, none⟩ = some (.slice q3 y.msgs.length d4)) (by kernel_rfl) (by kernel_rfl) rfl (by kernel_rfl) ?_
      intro ops' hops
      clear hops
      simp only [List.map_cons, List.map_nil, pickOp_zero, pickOp_succ]
      iterate 8 (refine ord_flo ?_ (fun _ _ _ h => h) rfl ?_ ⟨e0, e1, e2, e3, f0, f1, f2, f3⟩ ?_; rotate_left; focus (intro W hS; obtain ⟨s1, s2, s3, s4, s5, s6, s7, s8⟩ := hS; go_simp; rfl))
      refine ord_ev rfl ?_
      go_simp
      refine CS.out.mono ?_
      rintro e w1 ⟨rfl, k1⟩
      replace e0 := (k1.cell (p := ⟨b1, o1 + k * 4, none⟩) hl1).trans e0
      replace e1 := (k1.cell (p := ⟨b1, o1 + k * 4 + 1, none⟩) hl1).trans e1
      replace e2 := (k1.cell (p := ⟨b1, o1 + k * 4 + 2, none⟩) hl1).trans e2
      replace e3 := (k1.cell (p := ⟨b1, o1 + k * 4 + 3, none⟩) hl1).trans e3
      replace f0 := (k1.cell (p := ⟨b2, o2 + k * 4, none⟩) hl2).trans f0
      replace f1 := (k1.cell (p := ⟨b2, o2 + k * 4 + 1, none⟩) hl2).trans f1
      replace f2 := (k1.cell (p := ⟨b2, o2 + k * 4 + 2, none⟩) hl2).trans f2
      replace f3 := (k1.cell (p := ⟨b2, o2 + k * 4 + 3, none⟩) hl2).trans f3
      replace hbd := hbd.trans (k1.mono hbd.size)
      clear k1 hl1 hl2
      refine ⟨⟨e0, e1, e2, e3, f0, f1, f2, f3⟩, ?_⟩
      iterate 1 (refine ord_flo ?_ (fun _ _ _ h => h) rfl ?_ ⟨e0, e1, e2, e3, f0, f1, f2, f3⟩ ?_; rotate_left; focus (intro W hS; obtain ⟨s1, s2, s3, s4, s5, s6, s7, s8⟩ := hS; go_simp; rfl))
      refine ord_done ?_
      go_simp
      go_wp2
      go_ret
      exact ⟨by rw [HV.out]; rfl, hbd⟩
    | true =>
      have HN := Lib.hid (hyes.out rfl)
      clear hno hyes
      go_wp2
      refine ord_start [(0, true), (1, true), (2, true), (3, true), (4, true), (5, true), (6, true), (7, true), (8, false), (9, true)] (fun W => W.cell? ⟨b1, o1 + k * 4, none⟩ = some (sv x.name) ∧ W.cell? ⟨b1, o1 + k * 4 + 1, none⟩ = some (.int .i64 x.validity) ∧ W.cell? ⟨b1, o1 + k * 4 + 2, none⟩ = some (.int .i64 x.next) ∧ W.cell? ⟨b1, o1 + k * 4 + 3, none⟩ = some (.slice p3 x.msgs.length d3) ∧ W.cell? ⟨b2, o2 + k * 4, none⟩ = some (sv y.name) ∧ W.cell? ⟨b2, o2 + k * 4 + 1, none⟩ = some (.int .i64 y.validity) ∧ W.cell? ⟨b2, o2 + k * 4 + 2, none⟩ = some (.int .i64 y.next) ∧ W.cell? ⟨b2, o2 + k * 4 + 3, none⟩ = some (.slice q3 y.msgs.length d4)) (by kernel_rfl) (by kernel_rfl) rfl (by kernel_rfl) ?_
      intro ops' hops
      clear hops
      simp only [List.map_cons, List.map_nil, pickOp_zero, pickOp_succ]
      iterate 8 (refine ord_flo ?_ (fun _ _ _ h => h) rfl ?_ ⟨e0, e1, e2, e3, f0, f1, f2, f3⟩ ?_; rotate_left; focus (intro W hS; obtain ⟨s1, s2, s3, s4, s5, s6, s7, s8⟩ := hS; go_simp; rfl))
      refine ord_ev rfl ?_
      go_simp
      refine CS.out.mono ?_
      rintro e w1 ⟨rfl, k1⟩
      replace e0 := (k1.cell (p := ⟨b1, o1 + k * 4, none⟩) hl1).trans e0
      replace e1 := (k1.cell (p := ⟨b1, o1 + k * 4 + 1, none⟩) hl1).trans e1
      replace e2 := (k1.cell (p := ⟨b1, o1 + k * 4 + 2, none⟩) hl1).trans e2
      replace e3 := (k1.cell (p := ⟨b1, o1 + k * 4 + 3, none⟩) hl1).trans e3
      replace f0 := (k1.cell (p := ⟨b2, o2 + k * 4, none⟩) hl2).trans f0
      replace f1 := (k1.cell (p := ⟨b2, o2 + k * 4 + 1, none⟩) hl2).trans f1
      replace f2 := (k1.cell (p := ⟨b2, o2 + k * 4 + 2, none⟩) hl2).trans f2
      replace f3 := (k1.cell (p := ⟨b2, o2 + k * 4 + 3, none⟩) hl2).trans f3
      replace hbd := hbd.trans (k1.mono hbd.size)
      clear k1 hl1 hl2
      refine ⟨⟨e0, e1, e2, e3, f0, f1, f2, f3⟩, ?_⟩
      iterate 1 (refine ord_flo ?_ (fun _ _ _ h => h) rfl ?_ ⟨e0, e1, e2, e3, f0, f1, f2, f3⟩ ?_; rotate_left; focus (intro W hS; obtain ⟨s1, s2, s3, s4, s5, s6, s7, s8⟩ := hS; go_simp; rfl))
      refine ord_done ?_
      go_simp
      clear e0 e1 e2 e3 f0 f1 f2 f3
      go_wp2
      go_roundw
      case rel => exact ⟨k + 1, by omega, by go_num, HN.out, hbd⟩
      case measure => simp [intOf]; omega

theorem bx_zero {l : List BoxD} {x : BoxD} (h : l[0]? = some x) : boxStep l 0 = (boxB x && decide (bxWith (l.take 0) x.validity < 0)) := by
  unfold boxStep
  rw [h]
  simp only [Bool.and_true]
theorem bx_succ {l : List BoxD} {j : Nat} {q x : BoxD} (hq : l[j]? = some q) (h : l[j + 1]? = some x) : boxStep l (j + 1) = (boxB x && Op.bytesLess q.name x.name && decide (bxWith (l.take (j + 1)) x.validity < 0)) := by
  unfold boxStep
  rw [h]
  simp only [hq]
theorem boxes_not {l : List BoxD} {k : Nat} (hk : k < l.length) (h : boxStep l k = false) : boxesB l = false := by unfold boxesB; rw [range_not hk h]; rfl
theorem boxes_yes {l : List BoxD} (h : (List.range l.length).all (boxStep l) = true) : boxesB l = decide ((l.length : Int) ≤ 4) := by unfold boxesB; rw [h]; rfl
theorem bxWith_rng (l : List BoxD) (v : Int) : ∀ n : Nat, -1 ≤ firstAt (fun b : BoxD => b.validity == v) l n ∧ firstAt (fun b : BoxD => b.validity == v) l n < n + l.length + 1 := by
  induction l with
  | nil => intro n; simp only [firstAt]; omega
  | cons a r ih =>
    intro n
    simp only [firstAt]
    have := ih (n + 1)
    rw [List.length_cons]
    split <;> omega

set_option maxRecDepth 20000 in
set_option maxHeartbeats 6400000 in
theorem specBoxesOk_c : CtrBoxesOk 23 (fun _ => True) := by
  intro l va w _ ha hcap hs hbd
  have hl : l.length ≤ 1048576 := Nat.le_trans (Nat.le_add_right _ _) hs
  have hsl : ∀ x ∈ l, szLs x.lf ≤ 1048576 ∧ LsBnd x.lf := fun x hx => ⟨by have h1 := szLs_mem BoxD.lf hx; have h2 : szLf (boxsLf l) = l.length + szLs (l.flatMap BoxD.lf) := rfl; omega, LsBnd.flat hbd.2 x hx⟩
  have htk : ∀ k, k ≤ l.length → szLf (boxsLf (l.take k)) ≤ 1048576 ∧ LfBnd (boxsLf (l.take k)) := fun k hk => by
    have h1 := szLs_flat_take BoxD.lf l k
    have h2 : szLf (boxsLf l) = l.length + szLs (l.flatMap BoxD.lf) := rfl
    have h3 : szLf (boxsLf (l.take k)) = (l.take k).length + szLs ((l.take k).flatMap BoxD.lf) := rfl
    have h4 : (l.take k).length ≤ l.length := by rw [List.length_take]; omega
    refine ⟨by omega, ⟨by omega, ?_⟩⟩
    have h5 := hbd.2
    rw [← List.take_append_drop k l, List.flatMap_append] at h5
    exact (LsBnd.append.1 h5).1
  obtain ⟨p, c, rfl, hp⟩ := BoxD.at ha
  have hcp : l.length ≤ c := hcap _ _ _ rfl
  clear hcap
  have HA := Lib.hid ha
  have HP := Lib.hid hp
  have HSL := Lib.hid hsl
  have HTK := Lib.hid htk
  clear ha hs hbd hp hsl htk
  go_enter Tryz.func23, Tryz.ntmps23
  go_wp2
  go_loopw [3] (fun i wr => ∃ k : Nat, k ≤ l.length ∧ i = .int .i64 k ∧ (List.range k).all (boxStep l) = true ∧ Below w.heap.size w wr) (fun i _ => l.length - (intOf i).toNat)
  case atStart => exact ⟨0, by omega, rfl, rfl, Below.refl _ _⟩
  case round =>
    obtain ⟨k, hk, rfl, hall, hbr⟩ := hrel
    have HALL := Lib.hid hall
    clear hall
    by_cases hlt : k < l.length
    case neg =>
      obtain rfl : k = l.length := by omega
      have HV := Lib.hid (boxes_yes HALL.out)
      go_wp2
      go_ret
      exact ⟨by rw [HV.out]; rfl, hbr⟩
    obtain ⟨b1, o1, rfl, hb1, hc1⟩ := HP.out.resolve_left (by intro h; subst h; simp at hlt)
    obtain ⟨x, hx⟩ : ∃ x, l[k]? = some x := ⟨_, List.getElem?_eq_getElem hlt⟩
    obtain ⟨r3, hr3, ze0, ze1, ze2, ze3⟩ := hc1 k x hx
    obtain ⟨sx1, sx2⟩ := HSL.out x (List.mem_of_getElem? hx)
    obtain ⟨tk1, tk2⟩ := HTK.out k hk
    have hvx : in64 x.validity := sx2.2.1
    have hbd := hbr.drew
    have hl1 : b1 < wr.drew.heap.size := Nat.lt_of_lt_of_le hb1 hbd.size
    have CO := Lib.hid (specBoxOk_c x r3 wr.drew trivial (LfRd.below hbd _ _ hr3) sx1 sx2)
    have HT : LfRd w (boxsLf (l.take k)) (.slice (some ⟨b1, o1, none⟩) k c) := rd_take BoxD.len HA.out hk
    have CW := Lib.hid (fun W (hb : Below w.heap.size w W) => specBoxWith_c (l.take k) (.slice (some ⟨b1, o1, none⟩) k c) x.validity W trivial (LfRd.below hb _ _ HT) tk1 tk2 hvx)
    have hbw := bxWith_rng (l.take k) x.validity 0
    have e0 : wr.drew.cell? ⟨b1, o1 + k * 4, none⟩ = some (sv x.name) := (hbr.cell (p := ⟨b1, o1 + k * 4, none⟩) hb1).trans ze0
    have e1 : wr.drew.cell? ⟨b1, o1 + k * 4 + 1, none⟩ = some (.int .i64 x.validity) := (hbr.cell (p := ⟨b1, o1 + k * 4 + 1, none⟩) hb1).trans ze1
    have e2 : wr.drew.cell? ⟨b1, o1 + k * 4 + 2, none⟩ = some (.int .i64 x.next) := (hbr.cell (p := ⟨b1, o1 + k * 4 + 2, none⟩) hb1).trans ze2
    have e3 : wr.drew.cell? ⟨b1, o1 + k * 4 + 3, none⟩ = some (r3) := (hbr.cell (p := ⟨b1, o1 + k * 4 + 3, none⟩) hb1).trans ze3
    obtain ⟨p3, d3, rfl⟩ := LfRd.slice hr3
    obtain ⟨t, ht⟩ : ∃ t, boxB x = t := ⟨_, rfl⟩
    rw [ht] at CO
    have HX := Lib.hid hx
    have HCAP := Lib.hid (show True from trivial)
    clear sx1 sx2 tk1 tk2 hvx HT hr3 hbr
    cases k with
    | zero =>
      have HE := Lib.hid (bx_zero HX.out)
      simp only [Nat.zero_mul, Nat.add_zero] at e0 e1 e2 e3
      clear hc1 hx ze0 ze1 ze2 ze3
      obtain ⟨z, hz⟩ : ∃ z, bxWith (l.take 0) x.validity = z := ⟨_, rfl⟩
      rw [hz] at CW
      have HE2 := Lib.hid (show boxStep l 0 = _ from by rw [HE.out, hz, ht])
      rw [show firstAt (fun b : BoxD => b.validity == x.validity) (l.take 0) 0 = z from hz] at hbw
      have hzr : -1 ≤ z ∧ z ≤ 1048577 := by rw [List.length_take] at hbw; omega
      clear hz hbw HE
      cases t with
      | false =>
        have HV := Lib.hid (boxes_not hlt (by rw [HE2.out]; simp))
        clear HE2 HX HALL HP HA HSL HTK
        go_wp2
        refine ord_start ((0, true) :: (1, true) :: (2, true) :: (3, true) :: (4, false) :: (5, true) :: (6, true) :: (7, true) :: (8, true) :: (9, true) :: (10, true) :: (11, true) :: (12, true) :: (13, true) :: (14, true) :: (15, true) :: (16, true) :: (17, true) :: (18, true) :: (19, true) :: (20, true) :: (21, true) :: (22, true) :: (23, true) :: (24, true) :: (25, true) :: (26, true) :: (27, true) :: (28, true) :: (29, true) :: (30, true) :: (31, true) :: (32, true) :: (33, false) :: (34, true) :: (35, true) :: []) (fun W => W.cell? ⟨b1, o1, none⟩ = some (sv x.name) ∧ W.cell? ⟨b1, o1 + 1, none⟩ = some (.int .i64 x.validity) ∧ W.cell? ⟨b1, o1 + 2, none⟩ = some (.int .i64 x.next) ∧ W.cell? ⟨b1, o1 + 3, none⟩ = some (.slice p3 x.msgs.length d3)) (by kernel_rfl) (by kernel_rfl) (by kernel_rfl) (by kernel_rfl) ?_
        intro ops' hops
        simp only [List.map_cons, List.map_nil, pickOp_zero, pickOp_succ]
        iterate 4 (refine ord_flo ?_ (fun _ _ _ h => h) rfl ?_ ⟨e0, e1, e2, e3⟩ ?_; rotate_left; focus (intro W hS; obtain ⟨s1, s2, s3, s4⟩ := hS; go_simp; rfl))
        refine ord_ev (by rw [hops.out]; kernel_rfl) ?_
        go_simp
        refine CO.out.mono ?_
        rintro e w1 ⟨rfl, k1⟩
        replace e0 := (k1.cell (p := ⟨b1, o1, none⟩) hl1).trans e0
        replace e1 := (k1.cell (p := ⟨b1, o1 + 1, none⟩) hl1).trans e1
        replace e2 := (k1.cell (p := ⟨b1, o1 + 2, none⟩) hl1).trans e2
        replace e3 := (k1.cell (p := ⟨b1, o1 + 3, none⟩) hl1).trans e3
        replace hbd := hbd.trans (k1.mono hbd.size)
        replace hl1 := Nat.lt_of_lt_of_le hl1 k1.size
        clear k1
        refine ⟨⟨e0, e1, e2, e3⟩, ?_⟩
        iterate 2 (refine ord_flo ?_ (fun _ _ _ h => h) rfl ?_ ⟨e0, e1, e2, e3⟩ ?_; rotate_left; focus (intro W hS; obtain ⟨s1, s2, s3, s4⟩ := hS; go_simp; rfl))
        iterate 16 (refine ord_not (fun _ _ _ h => h) (by rw [hops.out]; kernel_rfl) ⟨e0, e1, e2, e3⟩ ?_)
        iterate 2 (refine ord_flo ?_ (fun _ _ _ h => h) rfl ?_ ⟨e0, e1, e2, e3⟩ ?_; rotate_left; focus (intro W hS; obtain ⟨s1, s2, s3, s4⟩ := hS; go_simp; rfl))
        iterate 8 (refine ord_not (fun _ _ _ h => h) (by rw [hops.out]; kernel_rfl) ⟨e0, e1, e2, e3⟩ ?_)
        refine ord_evnot ⟨e0, e1, e2, e3⟩ (by rw [hops.out]; kernel_rfl) ?_
        iterate 1 (refine ord_not (fun _ _ _ h => h) (by rw [hops.out]; kernel_rfl) ⟨e0, e1, e2, e3⟩ ?_)
        iterate 1 (refine ord_flo ?_ (fun _ _ _ h => h) rfl ?_ ⟨e0, e1, e2, e3⟩ ?_; rotate_left; focus (intro W hS; obtain ⟨s1, s2, s3, s4⟩ := hS; go_simp; rfl))
        refine ord_done ?_
        go_simp
        go_wp2
        go_ret
        exact ⟨by rw [HV.out]; rfl, hbd⟩
      | true =>
      by_cases h6 : z < 0
      case neg =>
        have h6b : (0 : Int) ≤ z := by omega
        have HV := Lib.hid (boxes_not hlt (by rw [HE2.out]; simp [h6]))
        clear HE2 HX HALL HP HA HSL HTK
        go_wp2
        refine ord_start ((0, true) :: (1, true) :: (2, true) :: (3, true) :: (4, false) :: (5, true) :: (6, true) :: (7, true) :: (8, true) :: (9, true) :: (10, true) :: (11, true) :: (12, true) :: (13, true) :: (14, true) :: (15, true) :: (16, true) :: (17, true) :: (18, true) :: (19, true) :: (20, true) :: (21, true) :: (22, true) :: (23, true) :: (24, true) :: (25, true) :: (26, true) :: (27, true) :: (28, true) :: (29, true) :: (30, true) :: (31, true) :: (32, true) :: (33, false) :: (34, true) :: (35, true) :: []) (fun W => W.cell? ⟨b1, o1, none⟩ = some (sv x.name) ∧ W.cell? ⟨b1, o1 + 1, none⟩ = some (.int .i64 x.validity) ∧ W.cell? ⟨b1, o1 + 2, none⟩ = some (.int .i64 x.next) ∧ W.cell? ⟨b1, o1 + 3, none⟩ = some (.slice p3 x.msgs.length d3)) (by kernel_rfl) (by kernel_rfl) (by kernel_rfl) (by kernel_rfl) ?_
        intro ops' hops
        simp only [List.map_cons, List.map_nil, pickOp_zero, pickOp_succ]
        iterate 4 (refine ord_flo ?_ (fun _ _ _ h => h) rfl ?_ ⟨e0, e1, e2, e3⟩ ?_; rotate_left; focus (intro W hS; obtain ⟨s1, s2, s3, s4⟩ := hS; go_simp; rfl))
        refine ord_ev (by rw [hops.out]; kernel_rfl) ?_
        go_simp
        refine CO.out.mono ?_
        rintro e w1 ⟨rfl, k1⟩
        replace e0 := (k1.cell (p := ⟨b1, o1, none⟩) hl1).trans e0
        replace e1 := (k1.cell (p := ⟨b1, o1 + 1, none⟩) hl1).trans e1
        replace e2 := (k1.cell (p := ⟨b1, o1 + 2, none⟩) hl1).trans e2
        replace e3 := (k1.cell (p := ⟨b1, o1 + 3, none⟩) hl1).trans e3
        replace hbd := hbd.trans (k1.mono hbd.size)
        replace hl1 := Nat.lt_of_lt_of_le hl1 k1.size
        clear k1
        refine ⟨⟨e0, e1, e2, e3⟩, ?_⟩
        iterate 2 (refine ord_flo ?_ (fun _ _ _ h => h) rfl ?_ ⟨e0, e1, e2, e3⟩ ?_; rotate_left; focus (intro W hS; obtain ⟨s1, s2, s3, s4⟩ := hS; go_simp; rfl))
        iterate 3 (refine ord_flo ?_ (fun _ _ _ h => h) (by rw [hops.out]; kernel_rfl) ?_ ⟨e0, e1, e2, e3⟩ ?_; rotate_left; focus (intro W hS; obtain ⟨s1, s2, s3, s4⟩ := hS; go_simp; rfl))
        iterate 12 (refine ord_not (fun _ _ _ h => h) (by rw [hops.out]; kernel_rfl) ⟨e0, e1, e2, e3⟩ ?_)
        iterate 1 (refine ord_flo ?_ (fun _ _ _ h => h) (by rw [hops.out]; kernel_rfl) ?_ ⟨e0, e1, e2, e3⟩ ?_; rotate_left; focus (intro W hS; obtain ⟨s1, s2, s3, s4⟩ := hS; go_simp; rfl))
        iterate 2 (refine ord_flo ?_ (fun _ _ _ h => h) rfl ?_ ⟨e0, e1, e2, e3⟩ ?_; rotate_left; focus (intro W hS; obtain ⟨s1, s2, s3, s4⟩ := hS; go_simp; rfl))
        iterate 2 (refine ord_flo ?_ (fun _ _ _ h => h) (by rw [hops.out]; kernel_rfl) ?_ ⟨e0, e1, e2, e3⟩ ?_; rotate_left; focus (intro W hS; obtain ⟨s1, s2, s3, s4⟩ := hS; go_simp; rfl))
        refine ord_flo (.slice (some ⟨b1, o1, none⟩) 0 c) (fun _ _ _ h => h) (by rw [hops.out]; kernel_rfl) ?_ ⟨e0, e1, e2, e3⟩ ?_
        · intro W hS
          obtain ⟨s1, s2, s3, s4⟩ := hS
          go_simp <;> omega
        iterate 5 (refine ord_flo ?_ (fun _ _ _ h => h) (by rw [hops.out]; kernel_rfl) ?_ ⟨e0, e1, e2, e3⟩ ?_; rotate_left; focus (intro W hS; obtain ⟨s1, s2, s3, s4⟩ := hS; go_simp; rfl))
        refine ord_ev (by rw [hops.out]; kernel_rfl) ?_
        go_simp
        refine (CW.out _ hbd).mono ?_
        rintro e w2 ⟨rfl, k2⟩
        replace e0 := (k2.cell (p := ⟨b1, o1, none⟩) hl1).trans e0
        replace e1 := (k2.cell (p := ⟨b1, o1 + 1, none⟩) hl1).trans e1
        replace e2 := (k2.cell (p := ⟨b1, o1 + 2, none⟩) hl1).trans e2
        replace e3 := (k2.cell (p := ⟨b1, o1 + 3, none⟩) hl1).trans e3
        replace hbd := hbd.trans (k2.mono hbd.size)
        clear k2
        refine ⟨⟨e0, e1, e2, e3⟩, ?_⟩
        iterate 1 (refine ord_flo ?_ (fun _ _ _ h => h) (by rw [hops.out]; kernel_rfl) ?_ ⟨e0, e1, e2, e3⟩ ?_; rotate_left; focus (intro W hS; obtain ⟨s1, s2, s3, s4⟩ := hS; go_simp; rfl))
        iterate 1 (refine ord_flo ?_ (fun _ _ _ h => h) rfl ?_ ⟨e0, e1, e2, e3⟩ ?_; rotate_left; focus (intro W hS; obtain ⟨s1, s2, s3, s4⟩ := hS; go_simp; rfl))
        refine ord_done ?_
        go_simp
        go_wp2
        go_ret
        exact ⟨by rw [HV.out]; rfl, hbd⟩
      have h6b : ¬ ((0 : Int) ≤ z) := by omega
      have HN := Lib.hid (range_step HALL.out (by rw [HE2.out]; simp [h6]))
      clear HE2 HX h6
      go_wp2
      refine ord_start ((0, true) :: (1, true) :: (2, true) :: (3, true) :: (4, false) :: (5, true) :: (6, true) :: (7, true) :: (8, true) :: (9, true) :: (10, true) :: (11, true) :: (12, true) :: (13, true) :: (14, true) :: (15, true) :: (16, true) :: (17, true) :: (18, true) :: (19, true) :: (20, true) :: (21, true) :: (22, true) :: (23, true) :: (24, true) :: (25, true) :: (26, true) :: (27, true) :: (28, true) :: (29, true) :: (30, true) :: (31, true) :: (32, true) :: (33, false) :: (34, true) :: (35, true) :: []) (fun W => W.cell? ⟨b1, o1, none⟩ = some (sv x.name) ∧ W.cell? ⟨b1, o1 + 1, none⟩ = some (.int .i64 x.validity) ∧ W.cell? ⟨b1, o1 + 2, none⟩ = some (.int .i64 x.next) ∧ W.cell? ⟨b1, o1 + 3, none⟩ = some (.slice p3 x.msgs.length d3)) (by kernel_rfl) (by kernel_rfl) (by kernel_rfl) (by kernel_rfl) ?_
      intro ops' hops
      simp only [List.map_cons, List.map_nil, pickOp_zero, pickOp_succ]
      iterate 4 (refine ord_flo ?_ (fun _ _ _ h => h) rfl ?_ ⟨e0, e1, e2, e3⟩ ?_; rotate_left; focus (intro W hS; obtain ⟨s1, s2, s3, s4⟩ := hS; go_simp; rfl))
      refine ord_ev (by rw [hops.out]; kernel_rfl) ?_
      go_simp
      refine CO.out.mono ?_
      rintro e w1 ⟨rfl, k1⟩
      replace e0 := (k1.cell (p := ⟨b1, o1, none⟩) hl1).trans e0
      replace e1 := (k1.cell (p := ⟨b1, o1 + 1, none⟩) hl1).trans e1
      replace e2 := (k1.cell (p := ⟨b1, o1 + 2, none⟩) hl1).trans e2
      replace e3 := (k1.cell (p := ⟨b1, o1 + 3, none⟩) hl1).trans e3
      replace hbd := hbd.trans (k1.mono hbd.size)
      replace hl1 := Nat.lt_of_lt_of_le hl1 k1.size
      clear k1
      refine ⟨⟨e0, e1, e2, e3⟩, ?_⟩
      iterate 2 (refine ord_flo ?_ (fun _ _ _ h => h) rfl ?_ ⟨e0, e1, e2, e3⟩ ?_; rotate_left; focus (intro W hS; obtain ⟨s1, s2, s3, s4⟩ := hS; go_simp; rfl))
      iterate 3 (refine ord_flo ?_ (fun _ _ _ h => h) (by rw [hops.out]; kernel_rfl) ?_ ⟨e0, e1, e2, e3⟩ ?_; rotate_left; focus (intro W hS; obtain ⟨s1, s2, s3, s4⟩ := hS; go_simp; rfl))
      iterate 12 (refine ord_not (fun _ _ _ h => h) (by rw [hops.out]; kernel_rfl) ⟨e0, e1, e2, e3⟩ ?_)
      iterate 1 (refine ord_flo ?_ (fun _ _ _ h => h) (by rw [hops.out]; kernel_rfl) ?_ ⟨e0, e1, e2, e3⟩ ?_; rotate_left; focus (intro W hS; obtain ⟨s1, s2, s3, s4⟩ := hS; go_simp; rfl))
      iterate 2 (refine ord_flo ?_ (fun _ _ _ h => h) rfl ?_ ⟨e0, e1, e2, e3⟩ ?_; rotate_left; focus (intro W hS; obtain ⟨s1, s2, s3, s4⟩ := hS; go_simp; rfl))
      iterate 2 (refine ord_flo ?_ (fun _ _ _ h => h) (by rw [hops.out]; kernel_rfl) ?_ ⟨e0, e1, e2, e3⟩ ?_; rotate_left; focus (intro W hS; obtain ⟨s1, s2, s3, s4⟩ := hS; go_simp; rfl))
      refine ord_flo (.slice (some ⟨b1, o1, none⟩) 0 c) (fun _ _ _ h => h) (by rw [hops.out]; kernel_rfl) ?_ ⟨e0, e1, e2, e3⟩ ?_
      · intro W hS
        obtain ⟨s1, s2, s3, s4⟩ := hS
        go_simp <;> omega
      iterate 5 (refine ord_flo ?_ (fun _ _ _ h => h) (by rw [hops.out]; kernel_rfl) ?_ ⟨e0, e1, e2, e3⟩ ?_; rotate_left; focus (intro W hS; obtain ⟨s1, s2, s3, s4⟩ := hS; go_simp; rfl))
      refine ord_ev (by rw [hops.out]; kernel_rfl) ?_
      go_simp
      refine (CW.out _ hbd).mono ?_
      rintro e w2 ⟨rfl, k2⟩
      replace e0 := (k2.cell (p := ⟨b1, o1, none⟩) hl1).trans e0
      replace e1 := (k2.cell (p := ⟨b1, o1 + 1, none⟩) hl1).trans e1
      replace e2 := (k2.cell (p := ⟨b1, o1 + 2, none⟩) hl1).trans e2
      replace e3 := (k2.cell (p := ⟨b1, o1 + 3, none⟩) hl1).trans e3
      replace hbd := hbd.trans (k2.mono hbd.size)
      clear k2
      refine ⟨⟨e0, e1, e2, e3⟩, ?_⟩
      iterate 1 (refine ord_flo ?_ (fun _ _ _ h => h) (by rw [hops.out]; kernel_rfl) ?_ ⟨e0, e1, e2, e3⟩ ?_; rotate_left; focus (intro W hS; obtain ⟨s1, s2, s3, s4⟩ := hS; go_simp; rfl))
      iterate 1 (refine ord_flo ?_ (fun _ _ _ h => h) rfl ?_ ⟨e0, e1, e2, e3⟩ ?_; rotate_left; focus (intro W hS; obtain ⟨s1, s2, s3, s4⟩ := hS; go_simp; rfl))
      refine ord_done ?_
      go_simp
      clear e0 e1 e2 e3 hl1
      go_wp2
      go_roundw
      case rel => exact ⟨1, by omega, by go_num, HN.out, hbd⟩
      case measure => simp [intOf]; omega
    | succ j =>
      obtain ⟨q, hq⟩ : ∃ q, l[j]? = some q := ⟨_, List.getElem?_eq_getElem (by omega)⟩
      obtain ⟨_, _, zy0, _⟩ := hc1 j q hq
      have y0 : wr.drew.cell? ⟨b1, o1 + j * 4, none⟩ = some (sv q.name) := (hbd.cell (p := ⟨b1, o1 + j * 4, none⟩) hb1).trans zy0
      have HE := Lib.hid (bx_succ hq HX.out)
      have hjc : ((j + 1 : Nat) : Int) = (j : Int) + 1 := by omega
      have hwr : IntKind.i64.wrap ((j : Int) + 1 - 1) = (j : Int) := IntWalk.i64_in _ (by omega) |>.trans (by omega)
      have hwj : IntKind.i64.wrap (j : Int) = (j : Int) := IntWalk.i64_in _ (by omega)
      clear zy0 hq
      clear hc1 hx ze0 ze1 ze2 ze3
      obtain ⟨z, hz⟩ : ∃ z, bxWith (l.take (j + 1)) x.validity = z := ⟨_, rfl⟩
      rw [hz] at CW
      have HE2 := Lib.hid (show boxStep l (j + 1) = _ from by rw [HE.out, hz, ht])
      rw [show firstAt (fun b : BoxD => b.validity == x.validity) (l.take (j + 1)) 0 = z from hz] at hbw
      have hzr : -1 ≤ z ∧ z ≤ 1048577 := by rw [List.length_take] at hbw; omega
      clear hz hbw HE
      cases t with
      | false =>
        have HV := Lib.hid (boxes_not hlt (by rw [HE2.out]; simp))
        clear HE2 HX HALL HP HA HSL HTK
        go_wp2
        refine ord_start ((0, true) :: (1, true) :: (2, true) :: (3, true) :: (4, false) :: (5, true) :: (6, true) :: (7, true) :: (8, true) :: (9, true) :: (10, true) :: (11, true) :: (12, true) :: (13, true) :: (14, true) :: (15, true) :: (16, true) :: (17, true) :: (18, true) :: (19, true) :: (20, true) :: (21, true) :: (22, true) :: (23, true) :: (24, true) :: (25, true) :: (26, true) :: (27, true) :: (28, true) :: (29, true) :: (30, true) :: (31, true) :: (32, true) :: (33, false) :: (34, true) :: (35, true) :: []) (fun W => W.cell? ⟨b1, o1 + (j + 1) * 4, none⟩ = some (sv x.name) ∧ W.cell? ⟨b1, o1 + (j + 1) * 4 + 1, none⟩ = some (.int .i64 x.validity) ∧ W.cell? ⟨b1, o1 + (j + 1) * 4 + 2, none⟩ = some (.int .i64 x.next) ∧ W.cell? ⟨b1, o1 + (j + 1) * 4 + 3, none⟩ = some (.slice p3 x.msgs.length d3) ∧ W.cell? ⟨b1, o1 + j * 4, none⟩ = some (sv q.name)) (by kernel_rfl) (by kernel_rfl) (by kernel_rfl) (by kernel_rfl) ?_
        intro ops' hops
        simp only [List.map_cons, List.map_nil, pickOp_zero, pickOp_succ]
        iterate 4 (refine ord_flo ?_ (fun _ _ _ h => h) rfl ?_ ⟨e0, e1, e2, e3, y0⟩ ?_; rotate_left; focus (intro W hS; obtain ⟨s1, s2, s3, s4, s5⟩ := hS; go_simp; rfl))
        refine ord_ev (by rw [hops.out]; kernel_rfl) ?_
        go_simp
        refine CO.out.mono ?_
        rintro e w1 ⟨rfl, k1⟩
        replace e0 := (k1.cell (p := ⟨b1, o1 + (j + 1) * 4, none⟩) hl1).trans e0
        replace e1 := (k1.cell (p := ⟨b1, o1 + (j + 1) * 4 + 1, none⟩) hl1).trans e1
        replace e2 := (k1.cell (p := ⟨b1, o1 + (j + 1) * 4 + 2, none⟩) hl1).trans e2
        replace e3 := (k1.cell (p := ⟨b1, o1 + (j + 1) * 4 + 3, none⟩) hl1).trans e3
        replace y0 := (k1.cell (p := ⟨b1, o1 + j * 4, none⟩) hl1).trans y0
        replace hbd := hbd.trans (k1.mono hbd.size)
        replace hl1 := Nat.lt_of_lt_of_le hl1 k1.size
        clear k1
        refine ⟨⟨e0, e1, e2, e3, y0⟩, ?_⟩
        iterate 2 (refine ord_flo ?_ (fun _ _ _ h => h) rfl ?_ ⟨e0, e1, e2, e3, y0⟩ ?_; rotate_left; focus (intro W hS; obtain ⟨s1, s2, s3, s4, s5⟩ := hS; go_simp; rfl))
        iterate 16 (refine ord_not (fun _ _ _ h => h) (by rw [hops.out]; kernel_rfl) ⟨e0, e1, e2, e3, y0⟩ ?_)
        iterate 2 (refine ord_flo ?_ (fun _ _ _ h => h) rfl ?_ ⟨e0, e1, e2, e3, y0⟩ ?_; rotate_left; focus (intro W hS; obtain ⟨s1, s2, s3, s4, s5⟩ := hS; go_simp; rfl))
        iterate 8 (refine ord_not (fun _ _ _ h => h) (by rw [hops.out]; kernel_rfl) ⟨e0, e1, e2, e3, y0⟩ ?_)
        refine ord_evnot ⟨e0, e1, e2, e3, y0⟩ (by rw [hops.out]; kernel_rfl) ?_
        iterate 1 (refine ord_not (fun _ _ _ h => h) (by rw [hops.out]; kernel_rfl) ⟨e0, e1, e2, e3, y0⟩ ?_)
        iterate 1 (refine ord_flo ?_ (fun _ _ _ h => h) rfl ?_ ⟨e0, e1, e2, e3, y0⟩ ?_; rotate_left; focus (intro W hS; obtain ⟨s1, s2, s3, s4, s5⟩ := hS; go_simp; rfl))
        refine ord_done ?_
        go_simp
        go_wp2
        go_ret
        exact ⟨by rw [HV.out]; rfl, hbd⟩
      | true =>
      cases h5 : Op.bytesLess q.name x.name with
      | false =>
        have HV := Lib.hid (boxes_not hlt (by rw [HE2.out]; simp [h5]))
        clear HE2 HX HALL HP HA HSL HTK
        go_wp2
        refine ord_start ((0, true) :: (1, true) :: (2, true) :: (3, true) :: (4, false) :: (5, true) :: (6, true) :: (7, true) :: (8, true) :: (9, true) :: (10, true) :: (11, true) :: (12, true) :: (13, true) :: (14, true) :: (15, true) :: (16, true) :: (17, true) :: (18, true) :: (19, true) :: (20, true) :: (21, true) :: (22, true) :: (23, true) :: (24, true) :: (25, true) :: (26, true) :: (27, true) :: (28, true) :: (29, true) :: (30, true) :: (31, true) :: (32, true) :: (33, false) :: (34, true) :: (35, true) :: []) (fun W => W.cell? ⟨b1, o1 + (j + 1) * 4, none⟩ = some (sv x.name) ∧ W.cell? ⟨b1, o1 + (j + 1) * 4 + 1, none⟩ = some (.int .i64 x.validity) ∧ W.cell? ⟨b1, o1 + (j + 1) * 4 + 2, none⟩ = some (.int .i64 x.next) ∧ W.cell? ⟨b1, o1 + (j + 1) * 4 + 3, none⟩ = some (.slice p3 x.msgs.length d3) ∧ W.cell? ⟨b1, o1 + j * 4, none⟩ = some (sv q.name)) (by kernel_rfl) (by kernel_rfl) (by kernel_rfl) (by kernel_rfl) ?_
        intro ops' hops
        simp only [List.map_cons, List.map_nil, pickOp_zero, pickOp_succ]
        iterate 4 (refine ord_flo ?_ (fun _ _ _ h => h) rfl ?_ ⟨e0, e1, e2, e3, y0⟩ ?_; rotate_left; focus (intro W hS; obtain ⟨s1, s2, s3, s4, s5⟩ := hS; go_simp; rfl))
        refine ord_ev (by rw [hops.out]; kernel_rfl) ?_
        go_simp
        refine CO.out.mono ?_
        rintro e w1 ⟨rfl, k1⟩
        replace e0 := (k1.cell (p := ⟨b1, o1 + (j + 1) * 4, none⟩) hl1).trans e0
        replace e1 := (k1.cell (p := ⟨b1, o1 + (j + 1) * 4 + 1, none⟩) hl1).trans e1
        replace e2 := (k1.cell (p := ⟨b1, o1 + (j + 1) * 4 + 2, none⟩) hl1).trans e2
        replace e3 := (k1.cell (p := ⟨b1, o1 + (j + 1) * 4 + 3, none⟩) hl1).trans e3
        replace y0 := (k1.cell (p := ⟨b1, o1 + j * 4, none⟩) hl1).trans y0
        replace hbd := hbd.trans (k1.mono hbd.size)
        replace hl1 := Nat.lt_of_lt_of_le hl1 k1.size
        clear k1
        refine ⟨⟨e0, e1, e2, e3, y0⟩, ?_⟩
        iterate 2 (refine ord_flo ?_ (fun _ _ _ h => h) rfl ?_ ⟨e0, e1, e2, e3, y0⟩ ?_; rotate_left; focus (intro W hS; obtain ⟨s1, s2, s3, s4, s5⟩ := hS; go_simp; rfl))
        iterate 6 (refine ord_flo ?_ (fun _ _ _ h => h) (by rw [hops.out]; kernel_rfl) ?_ ⟨e0, e1, e2, e3, y0⟩ ?_; rotate_left; focus (intro W hS; obtain ⟨s1, s2, s3, s4, s5⟩ := hS; go_simp; rfl))
        refine ord_flo (.pointer (some ⟨b1, o1 + j * 4, none⟩)) (fun _ _ _ h => h) (by rw [hops.out]; kernel_rfl) ?_ ⟨e0, e1, e2, e3, y0⟩ ?_
        · intro W hS
          obtain ⟨s1, s2, s3, s4, s5⟩ := hS
          go_simp; intro h; omega
        iterate 7 (refine ord_flo ?_ (fun _ _ _ h => h) (by rw [hops.out]; kernel_rfl) ?_ ⟨e0, e1, e2, e3, y0⟩ ?_; rotate_left; focus (intro W hS; obtain ⟨s1, s2, s3, s4, s5⟩ := hS; go_simp; rfl))
        refine ord_flo (.bool true) (fun _ _ _ h => h) (by rw [hops.out]; kernel_rfl) ?_ ⟨e0, e1, e2, e3, y0⟩ ?_
        · intro W hS
          obtain ⟨s1, s2, s3, s4, s5⟩ := hS
          go_simp
        iterate 1 (refine ord_flo ?_ (fun _ _ _ h => h) (by rw [hops.out]; kernel_rfl) ?_ ⟨e0, e1, e2, e3, y0⟩ ?_; rotate_left; focus (intro W hS; obtain ⟨s1, s2, s3, s4, s5⟩ := hS; go_simp; rfl))
        iterate 2 (refine ord_flo ?_ (fun _ _ _ h => h) rfl ?_ ⟨e0, e1, e2, e3, y0⟩ ?_; rotate_left; focus (intro W hS; obtain ⟨s1, s2, s3, s4, s5⟩ := hS; go_simp; rfl))
        iterate 8 (refine ord_not (fun _ _ _ h => h) (by rw [hops.out]; kernel_rfl) ⟨e0, e1, e2, e3, y0⟩ ?_)
        refine ord_evnot ⟨e0, e1, e2, e3, y0⟩ (by rw [hops.out]; kernel_rfl) ?_
        iterate 1 (refine ord_not (fun _ _ _ h => h) (by rw [hops.out]; kernel_rfl) ⟨e0, e1, e2, e3, y0⟩ ?_)
        iterate 1 (refine ord_flo ?_ (fun _ _ _ h => h) rfl ?_ ⟨e0, e1, e2, e3, y0⟩ ?_; rotate_left; focus (intro W hS; obtain ⟨s1, s2, s3, s4, s5⟩ := hS; go_simp; rfl))
        refine ord_done ?_
        go_simp
        go_wp2
        go_ret
        exact ⟨by rw [HV.out]; rfl, hbd⟩
      | true =>
      by_cases h6 : z < 0
      case neg =>
        have h6b : (0 : Int) ≤ z := by omega
        have HV := Lib.hid (boxes_not hlt (by rw [HE2.out]; simp [h5, h6]))
        clear HE2 HX HALL HP HA HSL HTK
        go_wp2
        refine ord_start ((0, true) :: (1, true) :: (2, true) :: (3, true) :: (4, false) :: (5, true) :: (6, true) :: (7, true) :: (8, true) :: (9, true) :: (10, true) :: (11, true) :: (12, true) :: (13, true) :: (14, true) :: (15, true) :: (16, true) :: (17, true) :: (18, true) :: (19, true) :: (20, true) :: (21, true) :: (22, true) :: (23, true) :: (24, true) :: (25, true) :: (26, true) :: (27, true) :: (28, true) :: (29, true) :: (30, true) :: (31, true) :: (32, true) :: (33, false) :: (34, true) :: (35, true) :: []) (fun W => W.cell? ⟨b1, o1 + (j + 1) * 4, none⟩ = some (sv x.name) ∧ W.cell? ⟨b1, o1 + (j + 1) * 4 + 1, none⟩ = some (.int .i64 x.validity) ∧ W.cell? ⟨b1, o1 + (j + 1) * 4 + 2, none⟩ = some (.int .i64 x.next) ∧ W.cell? ⟨b1, o1 + (j + 1) * 4 + 3, none⟩ = some (.slice p3 x.msgs.length d3) ∧ W.cell? ⟨b1, o1 + j * 4, none⟩ = some (sv q.name)) (by kernel_rfl) (by kernel_rfl) (by kernel_rfl) (by kernel_rfl) ?_
        intro ops' hops
        simp only [List.map_cons, List.map_nil, pickOp_zero, pickOp_succ]
        iterate 4 (refine ord_flo ?_ (fun _ _ _ h => h) rfl ?_ ⟨e0, e1, e2, e3, y0⟩ ?_; rotate_left; focus (intro W hS; obtain ⟨s1, s2, s3, s4, s5⟩ := hS; go_simp; rfl))
        refine ord_ev (by rw [hops.out]; kernel_rfl) ?_
        go_simp
        refine CO.out.mono ?_
        rintro e w1 ⟨rfl, k1⟩
        replace e0 := (k1.cell (p := ⟨b1, o1 + (j + 1) * 4, none⟩) hl1).trans e0
        replace e1 := (k1.cell (p := ⟨b1, o1 + (j + 1) * 4 + 1, none⟩) hl1).trans e1
        replace e2 := (k1.cell (p := ⟨b1, o1 + (j + 1) * 4 + 2, none⟩) hl1).trans e2
        replace e3 := (k1.cell (p := ⟨b1, o1 + (j + 1) * 4 + 3, none⟩) hl1).trans e3
        replace y0 := (k1.cell (p := ⟨b1, o1 + j * 4, none⟩) hl1).trans y0
        replace hbd := hbd.trans (k1.mono hbd.size)
        replace hl1 := Nat.lt_of_lt_of_le hl1 k1.size
        clear k1
        refine ⟨⟨e0, e1, e2, e3, y0⟩, ?_⟩
        iterate 2 (refine ord_flo ?_ (fun _ _ _ h => h) rfl ?_ ⟨e0, e1, e2, e3, y0⟩ ?_; rotate_left; focus (intro W hS; obtain ⟨s1, s2, s3, s4, s5⟩ := hS; go_simp; rfl))
        iterate 6 (refine ord_flo ?_ (fun _ _ _ h => h) (by rw [hops.out]; kernel_rfl) ?_ ⟨e0, e1, e2, e3, y0⟩ ?_; rotate_left; focus (intro W hS; obtain ⟨s1, s2, s3, s4, s5⟩ := hS; go_simp; rfl))
        refine ord_flo (.pointer (some ⟨b1, o1 + j * 4, none⟩)) (fun _ _ _ h => h) (by rw [hops.out]; kernel_rfl) ?_ ⟨e0, e1, e2, e3, y0⟩ ?_
        · intro W hS
          obtain ⟨s1, s2, s3, s4, s5⟩ := hS
          go_simp; intro h; omega
        iterate 7 (refine ord_flo ?_ (fun _ _ _ h => h) (by rw [hops.out]; kernel_rfl) ?_ ⟨e0, e1, e2, e3, y0⟩ ?_; rotate_left; focus (intro W hS; obtain ⟨s1, s2, s3, s4, s5⟩ := hS; go_simp; rfl))
        refine ord_flo (.bool false) (fun _ _ _ h => h) (by rw [hops.out]; kernel_rfl) ?_ ⟨e0, e1, e2, e3, y0⟩ ?_
        · intro W hS
          obtain ⟨s1, s2, s3, s4, s5⟩ := hS
          go_simp
        iterate 1 (refine ord_flo ?_ (fun _ _ _ h => h) (by rw [hops.out]; kernel_rfl) ?_ ⟨e0, e1, e2, e3, y0⟩ ?_; rotate_left; focus (intro W hS; obtain ⟨s1, s2, s3, s4, s5⟩ := hS; go_simp; rfl))
        iterate 2 (refine ord_flo ?_ (fun _ _ _ h => h) rfl ?_ ⟨e0, e1, e2, e3, y0⟩ ?_; rotate_left; focus (intro W hS; obtain ⟨s1, s2, s3, s4, s5⟩ := hS; go_simp; rfl))
        iterate 2 (refine ord_flo ?_ (fun _ _ _ h => h) (by rw [hops.out]; kernel_rfl) ?_ ⟨e0, e1, e2, e3, y0⟩ ?_; rotate_left; focus (intro W hS; obtain ⟨s1, s2, s3, s4, s5⟩ := hS; go_simp; rfl))
        refine ord_flo (.slice (some ⟨b1, o1, none⟩) (j + 1) c) (fun _ _ _ h => h) (by rw [hops.out]; kernel_rfl) ?_ ⟨e0, e1, e2, e3, y0⟩ ?_
        · intro W hS
          obtain ⟨s1, s2, s3, s4, s5⟩ := hS
          go_simp <;> omega
        iterate 5 (refine ord_flo ?_ (fun _ _ _ h => h) (by rw [hops.out]; kernel_rfl) ?_ ⟨e0, e1, e2, e3, y0⟩ ?_; rotate_left; focus (intro W hS; obtain ⟨s1, s2, s3, s4, s5⟩ := hS; go_simp; rfl))
        refine ord_ev (by rw [hops.out]; kernel_rfl) ?_
        go_simp
        refine (CW.out _ hbd).mono ?_
        rintro e w2 ⟨rfl, k2⟩
        replace e0 := (k2.cell (p := ⟨b1, o1 + (j + 1) * 4, none⟩) hl1).trans e0
        replace e1 := (k2.cell (p := ⟨b1, o1 + (j + 1) * 4 + 1, none⟩) hl1).trans e1
        replace e2 := (k2.cell (p := ⟨b1, o1 + (j + 1) * 4 + 2, none⟩) hl1).trans e2
        replace e3 := (k2.cell (p := ⟨b1, o1 + (j + 1) * 4 + 3, none⟩) hl1).trans e3
        replace y0 := (k2.cell (p := ⟨b1, o1 + j * 4, none⟩) hl1).trans y0
        replace hbd := hbd.trans (k2.mono hbd.size)
        clear k2
        refine ⟨⟨e0, e1, e2, e3, y0⟩, ?_⟩
        iterate 1 (refine ord_flo ?_ (fun _ _ _ h => h) (by rw [hops.out]; kernel_rfl) ?_ ⟨e0, e1, e2, e3, y0⟩ ?_; rotate_left; focus (intro W hS; obtain ⟨s1, s2, s3, s4, s5⟩ := hS; go_simp; rfl))
        iterate 1 (refine ord_flo ?_ (fun _ _ _ h => h) rfl ?_ ⟨e0, e1, e2, e3, y0⟩ ?_; rotate_left; focus (intro W hS; obtain ⟨s1, s2, s3, s4, s5⟩ := hS; go_simp; rfl))
        refine ord_done ?_
        go_simp
        go_wp2
        go_ret
        exact ⟨by rw [HV.out]; rfl, hbd⟩
      have h6b : ¬ ((0 : Int) ≤ z) := by omega
      have HN := Lib.hid (range_step HALL.out (by rw [HE2.out]; simp [h5, h6]))
      clear HE2 HX h6
      go_wp2
      refine ord_start ((0, true) :: (1, true) :: (2, true) :: (3, true) :: (4, false) :: (5, true) :: (6, true) :: (7, true) :: (8, true) :: (9, true) :: (10, true) :: (11, true) :: (12, true) :: (13, true) :: (14, true) :: (15, true) :: (16, true) :: (17, true) :: (18, true) :: (19, true) :: (20, true) :: (21, true) :: (22, true) :: (23, true) :: (24, true) :: (25, true) :: (26, true) :: (27, true) :: (28, true) :: (29, true) :: (30, true) :: (31, true) :: (32, true) :: (33, false) :: (34, true) :: (35, true) :: []) (fun W => W.cell? ⟨b1, o1 + (j + 1) * 4, none⟩ = some (sv x.name) ∧ W.cell? ⟨b1, o1 + (j + 1) * 4 + 1, none⟩ = some (.int .i64 x.validity) ∧ W.cell? ⟨b1, o1 + (j + 1) * 4 + 2, none⟩ = some (.int .i64 x.next) ∧ W.cell? ⟨b1, o1 + (j + 1) * 4 + 3, none⟩ = some (.slice p3 x.msgs.length d3) ∧ W.cell? ⟨b1, o1 + j * 4, none⟩ = some (sv q.name)) (by kernel_rfl) (by kernel_rfl) (by kernel_rfl) (by kernel_rfl) ?_
      intro ops' hops
      simp only [List.map_cons, List.map_nil, pickOp_zero, pickOp_succ]
      iterate 4 (refine ord_flo ?_ (fun _ _ _ h => h) rfl ?_ ⟨e0, e1, e2, e3, y0⟩ ?_; rotate_left; focus (intro W hS; obtain ⟨s1, s2, s3, s4, s5⟩ := hS; go_simp; rfl))
      refine ord_ev (by rw [hops.out]; kernel_rfl) ?_
      go_simp
      refine CO.out.mono ?_
      rintro e w1 ⟨rfl, k1⟩
      replace e0 := (k1.cell (p := ⟨b1, o1 + (j + 1) * 4, none⟩) hl1).trans e0
      replace e1 := (k1.cell (p := ⟨b1, o1 + (j + 1) * 4 + 1, none⟩) hl1).trans e1
      replace e2 := (k1.cell (p := ⟨b1, o1 + (j + 1) * 4 + 2, none⟩) hl1).trans e2
      replace e3 := (k1.cell (p := ⟨b1, o1 + (j + 1) * 4 + 3, none⟩) hl1).trans e3
      replace y0 := (k1.cell (p := ⟨b1, o1 + j * 4, none⟩) hl1).trans y0
      replace hbd := hbd.trans (k1.mono hbd.size)
      replace hl1 := Nat.lt_of_lt_of_le hl1 k1.size
      clear k1
      refine ⟨⟨e0, e1, e2, e3, y0⟩, ?_⟩
      iterate 2 (refine ord_flo ?_ (fun _ _ _ h => h) rfl ?_ ⟨e0, e1, e2, e3, y0⟩ ?_; rotate_left; focus (intro W hS; obtain ⟨s1, s2, s3, s4, s5⟩ := hS; go_simp; rfl))
      iterate 6 (refine ord_flo ?_ (fun _ _ _ h => h) (by rw [hops.out]; kernel_rfl) ?_ ⟨e0, e1, e2, e3, y0⟩ ?_; rotate_left; focus (intro W hS; obtain ⟨s1, s2, s3, s4, s5⟩ := hS; go_simp; rfl))
      refine ord_flo (.pointer (some ⟨b1, o1 + j * 4, none⟩)) (fun _ _ _ h => h) (by rw [hops.out]; kernel_rfl) ?_ ⟨e0, e1, e2, e3, y0⟩ ?_
      · intro W hS
        obtain ⟨s1, s2, s3, s4, s5⟩ := hS
        go_simp; intro h; omega
      iterate 7 (refine ord_flo ?_ (fun _ _ _ h => h) (by rw [hops.out]; kernel_rfl) ?_ ⟨e0, e1, e2, e3, y0⟩ ?_; rotate_left; focus (intro W hS; obtain ⟨s1, s2, s3, s4, s5⟩ := hS; go_simp; rfl))
      refine ord_flo (.bool false) (fun _ _ _ h => h) (by rw [hops.out]; kernel_rfl) ?_ ⟨e0, e1, e2, e3, y0⟩ ?_
      · intro W hS
        obtain ⟨s1, s2, s3, s4, s5⟩ := hS
        go_simp
      iterate 1 (refine ord_flo ?_ (fun _ _ _ h => h) (by rw [hops.out]; kernel_rfl) ?_ ⟨e0, e1, e2, e3, y0⟩ ?_; rotate_left; focus (intro W hS; obtain ⟨s1, s2, s3, s4, s5⟩ := hS; go_simp; rfl))
      iterate 2 (refine ord_flo ?_ (fun _ _ _ h => h) rfl ?_ ⟨e0, e1, e2, e3, y0⟩ ?_; rotate_left; focus (intro W hS; obtain ⟨s1, s2, s3, s4, s5⟩ := hS; go_simp; rfl))
      iterate 2 (refine ord_flo ?_ (fun _ _ _ h => h) (by rw [hops.out]; kernel_rfl) ?_ ⟨e0, e1, e2, e3, y0⟩ ?_; rotate_left; focus (intro W hS; obtain ⟨s1, s2, s3, s4, s5⟩ := hS; go_simp; rfl))
      refine ord_flo (.slice (some ⟨b1, o1, none⟩) (j + 1) c) (fun _ _ _ h => h) (by rw [hops.out]; kernel_rfl) ?_ ⟨e0, e1, e2, e3, y0⟩ ?_
      · intro W hS
        obtain ⟨s1, s2, s3, s4, s5⟩ := hS
        go_simp <;> omega
      iterate 5 (refine ord_flo ?_ (fun _ _ _ h => h) (by rw [hops.out]; kernel_rfl) ?_ ⟨e0, e1, e2, e3, y0⟩ ?_; rotate_left; focus (intro W hS; obtain ⟨s1, s2, s3, s4, s5⟩ := hS; go_simp; rfl))
      refine ord_ev (by rw [hops.out]; kernel_rfl) ?_
      go_simp
      refine (CW.out _ hbd).mono ?_
      rintro e w2 ⟨rfl, k2⟩
      replace e0 := (k2.cell (p := ⟨b1, o1 + (j + 1) * 4, none⟩) hl1).trans e0
      replace e1 := (k2.cell (p := ⟨b1, o1 + (j + 1) * 4 + 1, none⟩) hl1).trans e1
      replace e2 := (k2.cell (p := ⟨b1, o1 + (j + 1) * 4 + 2, none⟩) hl1).trans e2
      replace e3 := (k2.cell (p := ⟨b1, o1 + (j + 1) * 4 + 3, none⟩) hl1).trans e3
      replace y0 := (k2.cell (p := ⟨b1, o1 + j * 4, none⟩) hl1).trans y0
      replace hbd := hbd.trans (k2.mono hbd.size)
      clear k2
      refine ⟨⟨e0, e1, e2, e3, y0⟩, ?_⟩
      iterate 1 (refine ord_flo ?_ (fun _ _ _ h => h) (by rw [hops.out]; kernel_rfl) ?_ ⟨e0, e1, e2, e3, y0⟩ ?_; rotate_left; focus (intro W hS; obtain ⟨s1, s2, s3, s4, s5⟩ := hS; go_simp; rfl))
      iterate 1 (refine ord_flo ?_ (fun _ _ _ h => h) rfl ?_ ⟨e0, e1, e2, e3, y0⟩ ?_; rotate_left; focus (intro W hS; obtain ⟨s1, s2, s3, s4, s5⟩ := hS; go_simp; rfl))
      refine ord_done ?_
      go_simp
      clear e0 e1 e2 e3 y0 hl1
      go_wp2
      go_roundw
      case rel => exact ⟨j + 1 + 1, by omega, by go_num, HN.out, hbd⟩
      case measure => simp [intOf]; omega

end Go.Proofs.YtbfgdbpfecffcaaGreatDoor
