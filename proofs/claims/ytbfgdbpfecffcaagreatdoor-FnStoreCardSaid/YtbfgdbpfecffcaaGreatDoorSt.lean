/-
  St: BoxG (what the claim needs of them).
-/
import Derived.Test.YtbfgdbpfecffcaaGreatDoorRows
import Derived.WalkKit
import Derived.WalkSpells
import Derived.WalkLawsBesides
import Derived.Laws.IdiomStrings
import Derived.Lib.Hide
import Derived.Deep.AppendLies
import Derived.OrdersHeld
import Derived.Lib.ItoaNum
import Derived.Lib.ItoaMem
import Derived.Lib.AppendStr
import Derived.Lib.ItoaLen
import Derived.Lib.Strings
import Derived.Lib.Bytealg
import Derived.Lib.OthersKept
import Derived.Laws.RangeAny
import Derived.Laws.BitsAllLaws
import Derived.Laws.BitsLemmas
import Derived.IntWalk
import Derived.Handy
import Derived.Lib.Join
import Derived.Deep.Strs
import Derived.Test.YtbfgdbpfecffcaaGreatDoorProg
import Derived.Test.YtbfgdbpfecffcaaGreatDoorSb
import Derived.Test.YtbfgdbpfecffcaaGreatDoorSc
import Derived.Test.YtbfgdbpfecffcaaGreatDoorSd
import Derived.Test.YtbfgdbpfecffcaaGreatDoorSe
import Derived.Test.YtbfgdbpfecffcaaGreatDoorSf
import Derived.Test.YtbfgdbpfecffcaaGreatDoorSh

namespace Go.Proofs.YtbfgdbpfecffcaaGreatDoor
open Go.RowKit

theorem msgs_small {x : BoxD} (hs : szLs x.lf ≤ 1048576) : x.name.length ≤ 1048576 ∧ x.msgs.length ≤ 1048576 ∧ ∀ m ∈ x.msgs, m.text.length ≤ 1048576 := by
  have h1 := BoxD.sz x
  have h2 : szLf (msgsLf x.msgs) = x.msgs.length + szLs (x.msgs.flatMap MsgD.lf) := rfl
  refine ⟨by omega, by omega, fun m hm => ?_⟩
  have h3 := szLs_mem MsgD.lf hm
  rw [MsgD.sz] at h3
  omega

theorem idOk_any (n : Int) (w : World) :
    Calls Tryz.prog 74 #[.int .i64 n] w fun e w' => e = .returned (.bool (num9 n)) ∧ w = w' := by
  have hg := Lib.hid (show num9 n = (decide (1 ≤ n) && decide (n ≤ 999999999)) from rfl)
  go_enter Tryz.func74, Tryz.ntmps74
  cases h1 : decide (1 ≤ n) with
  | true =>
    have h1 : 1 ≤ n := of_decide_eq_true h1
    cases h2 : decide (n ≤ 999999999) with
    | true =>
      have h2 : n ≤ 999999999 := of_decide_eq_true h2
      go_wp2
      go_ret
      exact ⟨by rw [hg.out]; simp [h1, h2], rfl⟩
    | false =>
      have h2 : ¬ n ≤ 999999999 := of_decide_eq_false h2
      go_wp2
      go_ret
      exact ⟨by rw [hg.out]; simp; omega, rfl⟩
  | false =>
    have h1 : ¬ 1 ≤ n := of_decide_eq_false h1
    go_wp2
    go_ret
    exact ⟨by rw [hg.out]; simp; omega, rfl⟩

theorem flagsOk9_any (n : Int) (w : World) :
    Calls Tryz.prog 117 #[.int .i64 n] w fun e w' => e = .returned (.bool (flB n)) ∧ w = w' := by
  have hg := Lib.hid (show flB n = (decide (0 ≤ n) && decide (n ≤ 31)) from rfl)
  go_enter Tryz.func117, Tryz.ntmps117
  cases h1 : decide (0 ≤ n) with
  | true =>
    have h1 : 0 ≤ n := of_decide_eq_true h1
    cases h2 : decide (n ≤ 31) with
    | true =>
      have h2 : n ≤ 31 := of_decide_eq_true h2
      go_wp2
      go_ret
      exact ⟨by rw [hg.out]; simp [h1, h2], rfl⟩
    | false =>
      have h2 : ¬ n ≤ 31 := of_decide_eq_false h2
      go_wp2
      go_ret
      exact ⟨by rw [hg.out]; simp; omega, rfl⟩
  | false =>
    have h1 : ¬ 0 ≤ n := of_decide_eq_false h1
    go_wp2
    go_ret
    exact ⟨by rw [hg.out]; simp; omega, rfl⟩

/-- The last Uid ahead of place k. -/
def lastU (b : BoxD) : Nat → Int
  | 0 => 0
  | j + 1 => ((b.msgs[j]?).map (·.uid)).getD 0
theorem lastU_succ {b : BoxD} {k : Nat} {m : MsgD} (h : b.msgs[k]? = some m) : lastU b (k + 1) = m.uid := by simp only [lastU, h]; rfl
theorem msg_last {b : BoxD} {k : Nat} {m : MsgD} (hall : (List.range k).all (msgStep b) = true) (hm : b.msgs[k]? = some m) :
    msgStep b k = (decide (lastU b k < m.uid) && decide (m.uid < b.next) && flB m.flags && decide ((m.text.length : Int) ≤ 40)) := by
  cases k with
  | zero =>
    unfold msgStep
    rw [hm]
    have e1 : decide (1 ≤ m.uid) = decide (lastU b 0 < m.uid) := by rw [decide_eq_decide]; simp only [lastU]; omega
    have e2 : decide (m.uid ≤ b.next - 1) = decide (m.uid < b.next) := by rw [decide_eq_decide]; omega
    simp only [e1, e2, Bool.and_true]
  | succ j =>
    obtain ⟨q, hq⟩ : ∃ q, b.msgs[j]? = some q := ⟨_, List.getElem?_eq_getElem (by have := (List.getElem?_eq_some_iff.1 hm).1; omega)⟩
    have h1 := range_at hall (Nat.lt_succ_self j)
    have hq1 : 1 ≤ q.uid := by
      unfold msgStep at h1
      rw [hq] at h1
      simp only [Bool.and_eq_true, decide_eq_true_eq] at h1
      exact h1.1.1.1.1
    rw [lastU_succ hq]
    unfold msgStep
    rw [hm]
    simp only [hq]
    have e2 : decide (m.uid ≤ b.next - 1) = decide (m.uid < b.next) := by rw [decide_eq_decide]; omega
    have e3 : (decide (1 ≤ m.uid) && decide (m.uid < b.next) && decide (q.uid < m.uid)) = (decide (q.uid < m.uid) && decide (m.uid < b.next)) := by
      rw [Bool.eq_iff_iff]
      simp only [Bool.and_eq_true, decide_eq_true_eq]
      omega
    rw [e2, e3]
def msgsB (b : BoxD) : Bool := (List.range b.msgs.length).all (msgStep b) && decide ((b.msgs.length : Int) ≤ 6)
theorem boxB_parts (b : BoxD) : boxB b = (nameB b.name && num9 b.validity && num9 b.next && msgsB b) := by
  unfold boxB msgsB
  cases nameB b.name <;> cases num9 b.validity <;> cases num9 b.next <;> cases (List.range b.msgs.length).all (msgStep b) <;> cases decide ((b.msgs.length : Int) ≤ 6) <;> rfl
theorem msgsB_no {b : BoxD} {k : Nat} (hk : k < b.msgs.length) (h : msgStep b k = false) : msgsB b = false := by unfold msgsB; rw [range_not hk h]; rfl
theorem msgsB_yes {b : BoxD} (h : (List.range b.msgs.length).all (msgStep b) = true) : msgsB b = decide ((b.msgs.length : Int) ≤ 6) := by unfold msgsB; rw [h]; rfl

set_option maxRecDepth 20000 in
set_option maxHeartbeats 3200000 in
theorem msgsOk_any (x : BoxD) (r : Value) (w : World) (hr : LfRd w (msgsLf x.msgs) r) (hs : szLs x.lf ≤ 1048576) :
    Calls Tryz.prog 109 #[r, .int .i64 x.next] w fun e w' => e = .returned (.bool (msgsB x)) ∧ Below w.heap.size w w' := by
  obtain ⟨_, hl, hxl⟩ := msgs_small hs
  obtain ⟨p, c, rfl, hp⟩ := MsgD.at hr
  have HP := Lib.hid hp
  have HX := Lib.hid hxl
  clear hp hr hs hxl
  go_enter Tryz.func109, Tryz.ntmps109
  go_wp2
  go_loopw [5, 7, 10] (fun u _ i wr => ∃ k : Nat, k ≤ x.msgs.length ∧ i = .int .i64 k ∧ u = .int .i64 (lastU x k) ∧ (List.range k).all (msgStep x) = true ∧ Below w.heap.size w wr) (fun _ _ i _ => x.msgs.length - (intOf i).toNat)
  case atStart => exact ⟨0, by omega, rfl, rfl, rfl, Below.refl _ _⟩
  case round =>
    obtain ⟨k, hk, rfl, rfl, hall, hbr⟩ := hrel
    have HALL := Lib.hid hall
    clear hall
    by_cases hlt : k < x.msgs.length
    case neg =>
      obtain rfl : k = x.msgs.length := by omega
      have HV := Lib.hid (msgsB_yes HALL.out)
      cases h6 : decide ((x.msgs.length : Int) ≤ 6) with
      | true =>
        have h6 : (x.msgs.length : Int) ≤ 6 := of_decide_eq_true h6
        go_wp2
        go_ret
        exact ⟨by rw [HV.out]; simp [h6], hbr⟩
      | false =>
        have h6 : ¬ (x.msgs.length : Int) ≤ 6 := of_decide_eq_false h6
        go_wp2
        go_ret
        exact ⟨by rw [HV.out]; simp [h6], hbr⟩
    obtain ⟨b, off, rfl, hb1, hc⟩ := HP.out.resolve_left (by intro h; rw [h] at hlt; simp at hlt)
    obtain ⟨m, hm⟩ : ∃ m, x.msgs[k]? = some m := ⟨_, List.getElem?_eq_getElem hlt⟩
    obtain ⟨x0, x1, x2⟩ := hc k m hm
    have e0 : wr.cell? ⟨b, off + k * 3, none⟩ = some (.int .i64 m.uid) := (hbr.cell (p := ⟨b, off + k * 3, none⟩) hb1).trans x0
    have e1 : wr.cell? ⟨b, off + k * 3 + 1, none⟩ = some (.int .i64 m.flags) := (hbr.cell (p := ⟨b, off + k * 3 + 1, none⟩) hb1).trans x1
    have e2 : wr.cell? ⟨b, off + k * 3 + 2, none⟩ = some (sv m.text) := (hbr.cell (p := ⟨b, off + k * 3 + 2, none⟩) hb1).trans x2
    have htx : m.text.length ≤ 1048576 := HX.out m (List.mem_of_getElem? hm)
    have HB := Lib.hid (fun o : Obj => (hbr.alloc hbr.size o : Below w.heap.size w (wr.alloc o)))
    have HE := Lib.hid (msg_last HALL.out hm)
    have HLS := Lib.hid (lastU_succ hm)
    have HR := Lib.hid (fun h : msgStep x k = true => range_step HALL.out h)
    have HNO := Lib.hid (fun h : msgStep x k = false => msgsB_no hlt h)
    have CF := fun W => flagsOk9_any m.flags W
    clear hc x0 x1 x2 hbr HX HP hm HALL
    generalize lastU x k = L at *
    cases h1 : decide (L < m.uid) with
    | false =>
      have HV := Lib.hid (HNO.out (HE.out.trans (by simp [h1])))
      have g1 : m.uid ≤ L := by have := of_decide_eq_false h1; omega
      clear HE HR HNO CF h1
      go_wp2
      go_ret
      exact ⟨by rw [HV.out]; rfl, HB.out _⟩
    | true =>
    cases h2 : decide (m.uid < x.next) with
    | false =>
      have HV := Lib.hid (HNO.out (HE.out.trans (by simp [h2])))
      have g1 : ¬ m.uid ≤ L := by have := of_decide_eq_true h1; omega
      have g2 : x.next ≤ m.uid := by have := of_decide_eq_false h2; omega
      clear HE HR HNO CF h1 h2
      go_wp2
      go_ret
      exact ⟨by rw [HV.out]; rfl, HB.out _⟩
    | true =>
    have g1 : ¬ m.uid ≤ L := by have := of_decide_eq_true h1; omega
    have g2 : ¬ x.next ≤ m.uid := by have := of_decide_eq_true h2; omega
    cases h3 : flB m.flags with
    | false =>
      simp only [h3] at CF
      have C := Lib.hid CF
      have HV := Lib.hid (HNO.out (HE.out.trans (by simp [h3])))
      clear HE HR HNO CF h1 h2 h3
      go_wp2_with fail
      refine (C.out _).mono ?_
      rintro e w' ⟨rfl, rfl⟩
      go_wp2
      go_ret
      exact ⟨by rw [HV.out]; rfl, HB.out _⟩
    | true =>
    simp only [h3] at CF
    have C := Lib.hid CF
    cases h4 : decide ((m.text.length : Int) ≤ 40) with
    | false =>
      have HV := Lib.hid (HNO.out (HE.out.trans (by simp [h4])))
      have g4 : (40 : Int) < (m.text.length : Int) := by have := of_decide_eq_false h4; omega
      clear HE HR HNO CF h1 h2 h3 h4
      go_wp2_with fail
      refine (C.out _).mono ?_
      rintro e w' ⟨rfl, rfl⟩
      go_wp2
      go_ret
      exact ⟨by rw [HV.out]; rfl, HB.out _⟩
    | true =>
      have HN := Lib.hid (HR.out (HE.out.trans (by simp [h1, h2, h3, h4])))
      have g4 : ¬ (40 : Int) < (m.text.length : Int) := by have := of_decide_eq_true h4; omega
      clear HE HR HNO CF h1 h2 h3 h4
      go_wp2_with fail
      refine (C.out _).mono ?_
      rintro e w' ⟨rfl, rfl⟩
      go_wp2
      go_roundw
      case rel => exact ⟨k + 1, by omega, by go_num, by rw [HLS.out], HN.out, HB.out _⟩
      case measure => simp [intOf]; omega

set_option maxRecDepth 20000 in
set_option maxHeartbeats 3200000 in
theorem implBoxOk_c {G : World → Prop} : CtrBoxOk 69 G := by
  intro x r w _ hr hs hbd
  obtain ⟨hnl, hl, _⟩ := msgs_small hs
  have CN := fun (W : World) => implNameOk_any ⟨x.name.toArray⟩ W (by unfold maxLen; show x.name.toArray.size ≤ _; simp; omega)
  simp only at CN
  have CV := fun W => idOk_any x.validity W
  have CX := fun W => idOk_any x.next W
  obtain ⟨p, c, rfl⟩ := LfRd.slice hr
  have CM := fun W (g : Below w.heap.size w W) => msgsOk_any x (.slice p x.msgs.length c) W (LfRd.below g _ _ hr) hs
  have hbA : Below w.heap.size w (w.alloc (.cells #[sv x.name, .int .i64 x.validity, .int .i64 x.next, .slice p x.msgs.length c] 38)) := (Below.refl _ _).alloc (Nat.le_refl _) _
  have hA := heap_alloc_new w (.cells #[sv x.name, .int .i64 x.validity, .int .i64 x.next, .slice p x.msgs.length c] 38)
  have HZ := Lib.hid (show w.heap.size < (w.alloc (.cells #[sv x.name, .int .i64 x.validity, .int .i64 x.next, .slice p x.msgs.length c] 38)).heap.size by simp)
  have HV := Lib.hid (boxB_parts x)
  clear hr hs hbd
  obtain ⟨W, hW⟩ : ∃ W, w.alloc (.cells #[sv x.name, .int .i64 x.validity, .int .i64 x.next, .slice p x.msgs.length c] 38) = W := ⟨_, rfl⟩
  rw [hW] at hbA hA HZ
  have HA := Lib.hid hA
  clear hA
  cases h1 : nameB x.name with
  | false =>
    simp only [h1] at CN
    have C1 := Lib.hid CN
    have C2 := Lib.hid CV
    have C3 := Lib.hid CX
    have C4 := Lib.hid CM
    clear CN CV CX CM
    go_enter Tryz.func69, Tryz.ntmps69
    have c0 := (Lib.cell_of_heap HA.out 0).trans (show _ = some (sv x.name) from rfl)
    go_wp2_with fail
    refine (C1.out _).mono ?_
    rintro e w1 ⟨rfl, b1⟩
    have hb1 := hbA.trans (b1.mono hbA.size)
    have HA1 := (b1.block w.heap.size HZ.out).trans HA.out
    have a1 := (Lib.cell_of_heap HA1 1).trans (show _ = some (.int .i64 x.validity) from rfl)
    have a2 := (Lib.cell_of_heap HA1 2).trans (show _ = some (.int .i64 x.next) from rfl)
    have a3 := (Lib.cell_of_heap HA1 3).trans (show _ = some (.slice p x.msgs.length c) from rfl)
    clear b1 HA1 hW c0
    go_wp2
    go_ret
    exact ⟨by rw [HV.out, h1]; rfl, hb1⟩
  | true =>
  simp only [h1] at CN
  cases h2 : num9 x.validity with
  | false =>
    simp only [h2] at CV
    have C1 := Lib.hid CN
    have C2 := Lib.hid CV
    have C3 := Lib.hid CX
    have C4 := Lib.hid CM
    clear CN CV CX CM
    go_enter Tryz.func69, Tryz.ntmps69
    have c0 := (Lib.cell_of_heap HA.out 0).trans (show _ = some (sv x.name) from rfl)
    go_wp2_with fail
    refine (C1.out _).mono ?_
    rintro e w1 ⟨rfl, b1⟩
    have hb1 := hbA.trans (b1.mono hbA.size)
    have HA1 := (b1.block w.heap.size HZ.out).trans HA.out
    have a1 := (Lib.cell_of_heap HA1 1).trans (show _ = some (.int .i64 x.validity) from rfl)
    have a2 := (Lib.cell_of_heap HA1 2).trans (show _ = some (.int .i64 x.next) from rfl)
    have a3 := (Lib.cell_of_heap HA1 3).trans (show _ = some (.slice p x.msgs.length c) from rfl)
    clear b1 HA1 hW c0
    go_wp2_with fail
    refine (C2.out _).mono ?_
    rintro e w2 ⟨rfl, rfl⟩
    go_wp2
    go_ret
    exact ⟨by rw [HV.out, h1, h2]; rfl, hb1⟩
  | true =>
  simp only [h2] at CV
  cases h3 : num9 x.next with
  | false =>
    simp only [h3] at CX
    have C1 := Lib.hid CN
    have C2 := Lib.hid CV
    have C3 := Lib.hid CX
    have C4 := Lib.hid CM
    clear CN CV CX CM
    go_enter Tryz.func69, Tryz.ntmps69
    have c0 := (Lib.cell_of_heap HA.out 0).trans (show _ = some (sv x.name) from rfl)
    go_wp2_with fail
    refine (C1.out _).mono ?_
    rintro e w1 ⟨rfl, b1⟩
    have hb1 := hbA.trans (b1.mono hbA.size)
    have HA1 := (b1.block w.heap.size HZ.out).trans HA.out
    have a1 := (Lib.cell_of_heap HA1 1).trans (show _ = some (.int .i64 x.validity) from rfl)
    have a2 := (Lib.cell_of_heap HA1 2).trans (show _ = some (.int .i64 x.next) from rfl)
    have a3 := (Lib.cell_of_heap HA1 3).trans (show _ = some (.slice p x.msgs.length c) from rfl)
    clear b1 HA1 hW c0
    go_wp2_with fail
    refine (C2.out _).mono ?_
    rintro e w2 ⟨rfl, rfl⟩
    go_wp2_with fail
    refine (C3.out _).mono ?_
    rintro e w3 ⟨rfl, rfl⟩
    go_wp2
    go_ret
    exact ⟨by rw [HV.out, h1, h2, h3]; rfl, hb1⟩
  | true =>
  simp only [h3] at CX
  have C1 := Lib.hid CN
  have C2 := Lib.hid CV
  have C3 := Lib.hid CX
  have C4 := Lib.hid CM
  clear CN CV CX CM
  go_enter Tryz.func69, Tryz.ntmps69
  have c0 := (Lib.cell_of_heap HA.out 0).trans (show _ = some (sv x.name) from rfl)
  go_wp2_with fail
  refine (C1.out _).mono ?_
  rintro e w1 ⟨rfl, b1⟩
  have hb1 := hbA.trans (b1.mono hbA.size)
  have HA1 := (b1.block w.heap.size HZ.out).trans HA.out
  have a1 := (Lib.cell_of_heap HA1 1).trans (show _ = some (.int .i64 x.validity) from rfl)
  have a2 := (Lib.cell_of_heap HA1 2).trans (show _ = some (.int .i64 x.next) from rfl)
  have a3 := (Lib.cell_of_heap HA1 3).trans (show _ = some (.slice p x.msgs.length c) from rfl)
  clear b1 HA1 hW c0
  go_wp2_with fail
  refine (C2.out _).mono ?_
  rintro e w2 ⟨rfl, rfl⟩
  go_wp2_with fail
  refine (C3.out _).mono ?_
  rintro e w3 ⟨rfl, rfl⟩
  go_wp2_with fail
  refine (C4.out _ hb1).mono ?_
  rintro e w4 ⟨rfl, b4⟩
  have hb4 := hb1.trans (b4.mono hb1.size)
  clear b4
  go_wp2
  go_ret
  exact ⟨by rw [HV.out, h1, h2, h3]; rfl, hb4⟩

set_option maxHeartbeats 1600000 in
theorem placeFn_any (m : MsgD) (u : Int) (a : Nat) (w : World) (h0 : w.cell? ⟨a, 0, none⟩ = some (.int .i64 u)) (z0 : a < w.heap.size) :
    Calls Tryz.prog 173 #[.agg #[.int .i64 m.uid, .int .i64 m.flags, sv m.text], .pointer (some ⟨a, 0, none⟩)] w fun e w' => e = .returned (.bool (m.uid == u)) ∧ Below w.heap.size w w' := by
  have hb1 : Below w.heap.size w (w.alloc (.cells #[.int .i64 m.uid, .int .i64 m.flags, sv m.text] 87)) := (Below.refl _ _).alloc (Nat.le_refl _) _
  have g0 : (w.alloc (.cells #[.int .i64 m.uid, .int .i64 m.flags, sv m.text] 87)).cell? ⟨a, 0, none⟩ = some (.int .i64 u) := (hb1.cell (p := ⟨a, 0, none⟩) z0).trans h0
  clear h0
  go_enter Tryz.func173, Tryz.ntmps173
  go_wp2
  go_ret
  exact ⟨rfl, hb1⟩
set_option maxHeartbeats 1600000 in
theorem msgIndex_any (u : Int) (a : Nat) (v : Value) (l : List MsgD) (w : World) (hr : LfRd w (msgsLf l) v) (hl : l.length ≤ 1048576) (h0 : w.cell? ⟨a, 0, none⟩ = some (.int .i64 u)) (z0 : a < w.heap.size) :
    Calls Tryz.prog 172 #[v, .func (.func 173) #[] #[.pointer (some ⟨a, 0, none⟩)]] w fun e w' => e = .returned (.int .i64 (firstAt (fun m : MsgD => m.uid == u) l 0)) ∧ Below w.heap.size w w' := by
  have eg : ∀ args w, (callFunc 173 args).run Tryz.prog w = .ok (.enter 173 args) w := fun _ _ => by kernel_rfl
  obtain ⟨p, c, rfl, hp⟩ := MsgD.at hr
  have HP := Lib.hid hp
  have h1 : firstAt (fun m : MsgD => m.uid == u) (l.drop 0) 0 = firstAt (fun m : MsgD => m.uid == u) l 0 := by rw [List.drop_zero]
  generalize firstAt (fun m : MsgD => m.uid == u) l 0 = R at *
  have H1 := Lib.hid h1
  clear hp hr h1
  go_enter Tryz.func172, Tryz.ntmps172
  go_wp2
  go_loopw [5, 8] (fun _ i wr => ∃ k : Nat, k ≤ l.length ∧ i = .int .i64 k ∧ firstAt (fun m : MsgD => m.uid == u) (l.drop k) k = R ∧ Below w.heap.size w wr) (fun _ i _ => l.length - (intOf i).toNat)
  case atStart => exact ⟨0, by omega, rfl, H1.out, Below.refl _ _⟩
  case round =>
    obtain ⟨k, hk, rfl, hst, hbr⟩ := hrel
    have HST := Lib.hid hst
    clear hst
    by_cases hlt : k < l.length
    · obtain ⟨b, off, rfl, hb1, hc⟩ := HP.out.resolve_left (by intro h; subst h; simp at hlt)
      obtain ⟨m, hm⟩ : ∃ m, l[k]? = some m := ⟨_, List.getElem?_eq_getElem hlt⟩
      obtain ⟨x0, x1, x2⟩ := hc k m hm
      have e0 : wr.cell? ⟨b, off + k * 3, none⟩ = some (.int .i64 m.uid) := (hbr.cell (p := ⟨b, off + k * 3, none⟩) hb1).trans x0
      have e1 : wr.cell? ⟨b, off + k * 3 + 1, none⟩ = some (.int .i64 m.flags) := (hbr.cell (p := ⟨b, off + k * 3 + 1, none⟩) hb1).trans x1
      have e2 : wr.cell? ⟨b, off + k * 3 + 2, none⟩ = some (sv m.text) := (hbr.cell (p := ⟨b, off + k * 3 + 2, none⟩) hb1).trans x2
      have C := placeFn_any m u a wr ((hbr.cell (p := ⟨a, 0, none⟩) z0).trans h0) (Nat.lt_of_lt_of_le z0 hbr.size)
      have hstep := HST.out ▸ firstAt_step (p := fun m : MsgD => m.uid == u) hm
      clear hc x0 x1 x2 hm HST
      cases hq : (m.uid == u) with
      | true =>
        have HV := Lib.hid (show R = (k : Int) by rw [hstep]; simp only [hq, if_true])
        rw [hq] at C
        have CC := Lib.hid C
        clear hstep C hq
        go_wp2_with fail
        refine (CC.out).mono ?_
        rintro e w1 ⟨rfl, b1⟩
        have hb2 := hbr.trans (b1.mono hbr.size)
        clear b1
        go_wp2
        go_ret
        exact ⟨by rw [HV.out]; rfl, hb2⟩
      | false =>
        have HN := Lib.hid (show firstAt (fun m : MsgD => m.uid == u) (l.drop (k + 1)) (k + 1) = R by rw [hstep]; simp [hq])
        rw [hq] at C
        have CC := Lib.hid C
        clear hstep C hq
        go_wp2_with fail
        refine (CC.out).mono ?_
        rintro e w1 ⟨rfl, b1⟩
        have hb2 := hbr.trans (b1.mono hbr.size)
        clear b1 hbr e0 e1 e2 CC
        go_wp2
        go_roundw
        case rel => exact ⟨k + 1, by omega, by go_num, HN.out, hb2⟩
        case measure => simp [intOf]; omega
    · obtain rfl : k = l.length := by omega
      have HV := Lib.hid (show R = -1 by rw [← HST.out]; exact firstAt_end l)
      go_wp2
      go_ret
      exact ⟨by rw [HV.out]; rfl, hbr⟩
set_option maxHeartbeats 1600000 in
theorem implPlaceOf_c {G : World → Prop} : CtrPlaceOf 156 G := by
  intro x r u w _ hr hs _ hu
  obtain ⟨_, hl, _⟩ := msgs_small hs
  obtain ⟨p, c, rfl⟩ := LfRd.slice hr
  have hb2 : Below w.heap.size w ((w.alloc (.cells #[sv x.name, .int .i64 x.validity, .int .i64 x.next, .slice p x.msgs.length c] 38)).alloc (.cells #[.int .i64 u] 3)) := ((Below.refl _ _).alloc (Nat.le_refl _) _).alloc (by simp) _
  have C := msgIndex_any u (w.heap.size + 1) (.slice p x.msgs.length c) x.msgs ((w.alloc (.cells #[sv x.name, .int .i64 x.validity, .int .i64 x.next, .slice p x.msgs.length c] 38)).alloc (.cells #[.int .i64 u] 3)) (LfRd.below hb2 _ _ hr) hl (by have := Lib.cell_of_heap (heap_alloc_new (w.alloc (.cells #[sv x.name, .int .i64 x.validity, .int .i64 x.next, .slice p x.msgs.length c] 38)) (.cells #[.int .i64 u] 3)) 0; rw [World.size_alloc] at this; exact this.trans rfl) (by simp)
  have CC := Lib.hid C
  clear C hr hs hu
  go_enter Tryz.func156, Tryz.ntmps156
  go_wp2_with fail
  refine (CC.out).mono ?_
  rintro e w1 ⟨rfl, b1⟩
  have hb3 := hb2.trans (b1.mono hb2.size)
  clear b1
  go_wp2
  go_ret
  exact ⟨rfl, hb3⟩

end Go.Proofs.YtbfgdbpfecffcaaGreatDoor
