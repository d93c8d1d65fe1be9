/-
  Uh: BoxC (what the claim needs of them).
-/
import Derived.Test.YtbfgdbpfecffcaaRows
import Derived.WalkKit
import Derived.WalkSpells
import Derived.WalkLawsBesides
import Derived.Laws.IdiomStrings
import Derived.Lib.Hide
import Derived.Deep.AppendLies
import Derived.OrdersHeld
import Derived.Lib.ItoaNum
import Derived.Lib.ItoaMem
import Derived.Lib.AppendStr
import Derived.Lib.ItoaLen
import Derived.Lib.Strings
import Derived.Lib.Bytealg
import Derived.Lib.OthersKept
import Derived.Laws.RangeAny
import Derived.Laws.BitsAllLaws
import Derived.Laws.BitsLemmas
import Derived.IntWalk
import Derived.Handy
import Derived.Lib.Join
import Derived.Deep.Strs
import Derived.Test.YtbfgdbpfecffcaaProg
import Derived.Laws.Tables
import Derived.Test.YtbfgdbpfecffcaaUa
import Derived.Test.YtbfgdbpfecffcaaUb
import Derived.Test.YtbfgdbpfecffcaaUc
import Derived.Test.YtbfgdbpfecffcaaUd
import Derived.Test.YtbfgdbpfecffcaaUe

namespace Go.Proofs.Ytbfgdbpfecffcaa
open Go.RowKit

set_option maxRecDepth 20000 in
set_option maxHeartbeats 6400000 in
theorem specSameBox_c : CtrSameBox 38 (fun _ => True) := by
  intro x r y s w _ hr hs _ hq hs2 _
  have hl : x.msgs.length ≤ 1048576 := by
    have h1 := BoxD.sz x
    have h2 : szLf (msgsLf x.msgs) = x.msgs.length + szLs (x.msgs.flatMap MsgD.lf) := rfl
    omega
  obtain ⟨p, c, rfl, hp⟩ := MsgD.at hr
  obtain ⟨q, d, rfl, hqq⟩ := MsgD.at hq
  have HP := Lib.hid hp
  have HQ := Lib.hid hqq
  have hbA : Below w.heap.size w ((w.alloc (.cells #[sv x.name, .int .i64 x.validity, .int .i64 x.next, .slice p x.msgs.length c] 61)).alloc (.cells #[sv y.name, .int .i64 y.validity, .int .i64 y.next, .slice q y.msgs.length d] 61)) := ((Below.refl _ _).alloc (Nat.le_refl _) _).alloc (by simp) _
  have hA : ((w.alloc (.cells #[sv x.name, .int .i64 x.validity, .int .i64 x.next, .slice p x.msgs.length c] 61)).alloc (.cells #[sv y.name, .int .i64 y.validity, .int .i64 y.next, .slice q y.msgs.length d] 61)).heap[w.heap.size]? = some (.cells #[sv x.name, .int .i64 x.validity, .int .i64 x.next, .slice p x.msgs.length c] 61 (0, 0)) := (Below.heap_alloc _ _ _ (by simp)).trans (heap_alloc_new w _)
  have hB : ((w.alloc (.cells #[sv x.name, .int .i64 x.validity, .int .i64 x.next, .slice p x.msgs.length c] 61)).alloc (.cells #[sv y.name, .int .i64 y.validity, .int .i64 y.next, .slice q y.msgs.length d] 61)).heap[w.heap.size + 1]? = some (.cells #[sv y.name, .int .i64 y.validity, .int .i64 y.next, .slice q y.msgs.length d] 61 (0, 0)) := by
    have h1 := heap_alloc_new (w.alloc (.cells #[sv x.name, .int .i64 x.validity, .int .i64 x.next, .slice p x.msgs.length c] 61)) (.cells #[sv y.name, .int .i64 y.validity, .int .i64 y.next, .slice q y.msgs.length d] 61)
    rw [World.size_alloc] at h1
    exact h1
  generalize hW : ((w.alloc (.cells #[sv x.name, .int .i64 x.validity, .int .i64 x.next, .slice p x.msgs.length c] 61)).alloc (.cells #[sv y.name, .int .i64 y.validity, .int .i64 y.next, .slice q y.msgs.length d] 61)) = W at *
  have HA := Lib.hid hA
  have HB := Lib.hid hB
  have a0 := (Lib.cell_of_heap hA 0).trans (show _ = some (sv x.name) from rfl)
  have a1 := (Lib.cell_of_heap hA 1).trans (show _ = some (.int .i64 x.validity) from rfl)
  have a2 := (Lib.cell_of_heap hA 2).trans (show _ = some (.int .i64 x.next) from rfl)
  have a3 := (Lib.cell_of_heap hA 3).trans (show _ = some (.slice p x.msgs.length c) from rfl)
  have b0 := (Lib.cell_of_heap hB 0).trans (show _ = some (sv y.name) from rfl)
  have b1 := (Lib.cell_of_heap hB 1).trans (show _ = some (.int .i64 y.validity) from rfl)
  have b2 := (Lib.cell_of_heap hB 2).trans (show _ = some (.int .i64 y.next) from rfl)
  have b3 := (Lib.cell_of_heap hB 3).trans (show _ = some (.slice q y.msgs.length d) from rfl)
  clear hr hs hp hA hB hq hs2 hqq
  cases h1 : (x.name == y.name) with
  | false =>
    have g1 := ne_strY h1
    have HV := Lib.hid (show decide (x = y) = false from decide_eq_false (fun e => by rw [e] at h1; simp at h1))
    go_enter Try.func38, Try.ntmps38
    go_wp2
    go_ret
    exact ⟨by rw [HV.out]; rfl, hbA⟩
  | true =>
  have g1 := ne_strN h1
  cases h2 : (x.validity == y.validity) with
  | false =>
    have g2 := ne_yes' h2
    have HV := Lib.hid (show decide (x = y) = false from decide_eq_false (fun e => by rw [e] at h2; simp at h2))
    go_enter Try.func38, Try.ntmps38
    go_wp2
    go_ret
    exact ⟨by rw [HV.out]; rfl, hbA⟩
  | true =>
  have g2 := ne_not' h2
  cases h3 : (x.next == y.next) with
  | false =>
    have g3 := ne_yes' h3
    have HV := Lib.hid (show decide (x = y) = false from decide_eq_false (fun e => by rw [e] at h3; simp at h3))
    go_enter Try.func38, Try.ntmps38
    go_wp2
    go_ret
    exact ⟨by rw [HV.out]; rfl, hbA⟩
  | true =>
  have g3 := ne_not' h3
  by_cases hlen : x.msgs.length = y.msgs.length
  case neg =>
    have h4 : ((x.msgs.length : Int) == (y.msgs.length : Int)) = false := by rw [beq_eq_false_iff_ne]; omega
    have g4 := ne_yes' h4
    have HV := Lib.hid (show decide (x = y) = false from decide_eq_false (fun e => by rw [e] at hlen; simp at hlen))
    go_enter Try.func38, Try.ntmps38
    go_wp2
    go_ret
    exact ⟨by rw [HV.out]; rfl, hbA⟩
  have h4 : ((x.msgs.length : Int) == (y.msgs.length : Int)) = true := by rw [hlen]; simp
  have g4 := ne_not' h4
  have HL := Lib.hid hlen
  have HE := Lib.hid (And.intro h1 (And.intro h2 h3))
  clear hlen
  go_enter Try.func38, Try.ntmps38
  go_wp2
  clear hW h1 h2 h3 g1 g2 g3 h4 g4 a0 a1 a2 b0 b1 b2
  go_loopw [5] (fun i wr => ∃ k : Nat, k ≤ x.msgs.length ∧ i = .int .i64 k ∧ x.msgs.take k = y.msgs.take k ∧ Below W.heap.size W wr) (fun i _ => x.msgs.length - (intOf i).toNat)
  case atStart => exact ⟨0, by omega, rfl, rfl, Below.refl _ _⟩
  case round =>
    obtain ⟨k, hk, rfl, hall, hbr⟩ := hrel
    have HALL := Lib.hid hall
    have hA1 := (hbr.block w.heap.size (Array.getElem?_eq_some_iff.1 HA.out).1).trans HA.out
    have hB1 := (hbr.block (w.heap.size + 1) (Array.getElem?_eq_some_iff.1 HB.out).1).trans HB.out
    have r3 : wr.cell? ⟨w.heap.size, 3, none⟩ = some (.slice p x.msgs.length c) := (Lib.cell_of_heap hA1 3).trans rfl
    clear hall a3 b3
    by_cases hlt : k < x.msgs.length
    case neg =>
      obtain rfl : k = x.msgs.length := by omega
      have HV := Lib.hid (show decide (x = y) = true from decide_eq_true (by
        have h5 := HALL.out
        rw [List.take_length, HL.out, List.take_length] at h5
        obtain ⟨e1, e2, e3⟩ := HE.out
        cases x; cases y; simp only [beq_iff_eq] at e1 e2 e3 h5; simp only [e1, e2, e3, h5]))
      have hbf := hbA.trans (hbr.mono hbA.size)
      clear hA1 hB1
      go_wp2
      go_ret
      exact ⟨by rw [HV.out]; rfl, hbf⟩
    obtain ⟨b1, o1, rfl, hb1, hc1⟩ := HP.out.resolve_left (by intro h; rw [h] at hlt; simp at hlt)
    obtain ⟨b2, o2, rfl, hb2, hc2⟩ := HQ.out.resolve_left (by intro h; have := HL.out; rw [h] at this; simp at this; rw [this] at hlt; simp at hlt)
    obtain ⟨m, hm⟩ : ∃ m, x.msgs[k]? = some m := ⟨_, List.getElem?_eq_getElem hlt⟩
    obtain ⟨n, hn⟩ : ∃ n, y.msgs[k]? = some n := ⟨_, List.getElem?_eq_getElem (by have := HL.out; omega)⟩
    obtain ⟨x0, x1, x2⟩ := hc1 k m hm
    obtain ⟨y0, y1, y2⟩ := hc2 k n hn
    have hbw := hbA.trans (hbr.mono hbA.size)
    have e0 : wr.drew.cell? ⟨b1, o1 + k * 3, none⟩ = some (.int .i64 m.uid) := (hbw.cell (p := ⟨b1, o1 + k * 3, none⟩) hb1).trans x0
    have e1 : wr.drew.cell? ⟨b1, o1 + k * 3 + 1, none⟩ = some (.int .i64 m.flags) := (hbw.cell (p := ⟨b1, o1 + k * 3 + 1, none⟩) hb1).trans x1
    have e2 : wr.drew.cell? ⟨b1, o1 + k * 3 + 2, none⟩ = some (sv m.text) := (hbw.cell (p := ⟨b1, o1 + k * 3 + 2, none⟩) hb1).trans x2
    have f0 : wr.drew.cell? ⟨b2, o2 + k * 3, none⟩ = some (.int .i64 n.uid) := (hbw.cell (p := ⟨b2, o2 + k * 3, none⟩) hb2).trans y0
    have f1 : wr.drew.cell? ⟨b2, o2 + k * 3 + 1, none⟩ = some (.int .i64 n.flags) := (hbw.cell (p := ⟨b2, o2 + k * 3 + 1, none⟩) hb2).trans y1
    have f2 : wr.drew.cell? ⟨b2, o2 + k * 3 + 2, none⟩ = some (sv n.text) := (hbw.cell (p := ⟨b2, o2 + k * 3 + 2, none⟩) hb2).trans y2
    have r3d : wr.drew.cell? ⟨w.heap.size, 3, none⟩ = some (.slice (some ⟨b1, o1, none⟩) x.msgs.length c) := r3
    have q3d : wr.drew.cell? ⟨w.heap.size + 1, 3, none⟩ = some (.slice (some ⟨b2, o2, none⟩) y.msgs.length d) := (Lib.cell_of_heap hB1 3).trans rfl
    have hlt2 : k < y.msgs.length := by have := HL.out; omega
    have hno := Lib.hid (fun h : m ≠ n => (decide_eq_false (fun e => same_not hm hn h (by rw [e])) : decide (x = y) = false))
    have hyes := Lib.hid (fun h : m = n => same_take hm (by rw [hn, h]) HALL.out)
    have hbd : Below W.heap.size W wr.drew := hbr.drew
    have hbf := hbA.trans (hbd.mono hbA.size)
    clear hc1 hc2 hm hn x0 x1 x2 y0 y1 y2 hA1 hB1 hbr hbw
    cases h1 : (m.uid == n.uid) with
    | false =>
      have HV := Lib.hid (hno.out (by intro e; rw [e] at h1; simp at h1))
      clear hno hyes HP HQ HL HALL HE
      go_wp2
      refine ord_start [(0, true), (1, true), (2, true), (3, true), (4, true), (5, true), (6, true), (7, true), (8, true), (9, true), (10, true)] (fun W => W.cell? ⟨b1, o1 + k * 3, none⟩ = some (.int .i64 m.uid) ∧ W.cell? ⟨b1, o1 + k * 3 + 1, none⟩ = some (.int .i64 m.flags) ∧ W.cell? ⟨b1, o1 + k * 3 + 2, none⟩ = some (sv m.text) ∧ W.cell? ⟨b2, o2 + k * 3, none⟩ = some (.int .i64 n.uid) ∧ W.cell? ⟨b2, o2 + k * 3 + 1, none⟩ = some (.int .i64 n.flags) ∧ W.cell? ⟨b2, o2 + k * 3 + 2, none⟩ = some (sv n.text) ∧ W.cell? ⟨w.heap.size, 3, none⟩ = some (.slice (some ⟨b1, o1, none⟩) x.msgs.length c) ∧ W.cell? ⟨w.heap.size + 1, 3, none⟩ = some (.slice (some ⟨b2, o2, none⟩) y.msgs.length d)) (by kernel_rfl) (by kernel_rfl) rfl (by kernel_rfl) ?_
      intro ops' hops
      clear hops
      simp only [List.map_cons, List.map_nil, pickOp_zero, pickOp_succ]
      iterate 11 (refine ord_flo ?_ (fun _ _ _ h => h) rfl ?_ ⟨e0, e1, e2, f0, f1, f2, r3d, q3d⟩ ?_; rotate_left; focus (intro W hS; obtain ⟨s1, s2, s3, s4, s5, s6, s7, s8⟩ := hS; go_simp; rfl))
      refine ord_done ?_
      go_simp
      go_wp2
      go_ret
      exact ⟨by rw [HV.out]; rfl, hbf⟩
    | true =>
    cases h2 : (m.flags == n.flags) with
    | false =>
      have HV := Lib.hid (hno.out (by intro e; rw [e] at h2; simp at h2))
      clear hno hyes HP HQ HL HALL HE
      go_wp2
      refine ord_start [(0, true), (1, true), (2, true), (3, true), (4, true), (5, true), (6, true), (7, true), (8, true), (9, true), (10, true)] (fun W => W.cell? ⟨b1, o1 + k * 3, none⟩ = some (.int .i64 m.uid) ∧ W.cell? ⟨b1, o1 + k * 3 + 1, none⟩ = some (.int .i64 m.flags) ∧ W.cell? ⟨b1, o1 + k * 3 + 2, none⟩ = some (sv m.text) ∧ W.cell? ⟨b2, o2 + k * 3, none⟩ = some (.int .i64 n.uid) ∧ W.cell? ⟨b2, o2 + k * 3 + 1, none⟩ = some (.int .i64 n.flags) ∧ W.cell? ⟨b2, o2 + k * 3 + 2, none⟩ = some (sv n.text) ∧ W.cell? ⟨w.heap.size, 3, none⟩ = some (.slice (some ⟨b1, o1, none⟩) x.msgs.length c) ∧ W.cell? ⟨w.heap.size + 1, 3, none⟩ = some (.slice (some ⟨b2, o2, none⟩) y.msgs.length d)) (by kernel_rfl) (by kernel_rfl) rfl (by kernel_rfl) ?_
      intro ops' hops
      clear hops
      simp only [List.map_cons, List.map_nil, pickOp_zero, pickOp_succ]
      iterate 11 (refine ord_flo ?_ (fun _ _ _ h => h) rfl ?_ ⟨e0, e1, e2, f0, f1, f2, r3d, q3d⟩ ?_; rotate_left; focus (intro W hS; obtain ⟨s1, s2, s3, s4, s5, s6, s7, s8⟩ := hS; go_simp; rfl))
      refine ord_done ?_
      go_simp
      go_wp2
      go_ret
      exact ⟨by rw [HV.out]; rfl, hbf⟩
    | true =>
    cases h3 : (m.text == n.text) with
    | false =>
      have HV := Lib.hid (hno.out (by intro e; rw [e] at h3; simp at h3))
      clear hno hyes HP HQ HL HALL HE
      go_wp2
      refine ord_start [(0, true), (1, true), (2, true), (3, true), (4, true), (5, true), (6, true), (7, true), (8, true), (9, true), (10, true)] (fun W => W.cell? ⟨b1, o1 + k * 3, none⟩ = some (.int .i64 m.uid) ∧ W.cell? ⟨b1, o1 + k * 3 + 1, none⟩ = some (.int .i64 m.flags) ∧ W.cell? ⟨b1, o1 + k * 3 + 2, none⟩ = some (sv m.text) ∧ W.cell? ⟨b2, o2 + k * 3, none⟩ = some (.int .i64 n.uid) ∧ W.cell? ⟨b2, o2 + k * 3 + 1, none⟩ = some (.int .i64 n.flags) ∧ W.cell? ⟨b2, o2 + k * 3 + 2, none⟩ = some (sv n.text) ∧ W.cell? ⟨w.heap.size, 3, none⟩ = some (.slice (some ⟨b1, o1, none⟩) x.msgs.length c) ∧ W.cell? ⟨w.heap.size + 1, 3, none⟩ = some (.slice (some ⟨b2, o2, none⟩) y.msgs.length d)) (by kernel_rfl) (by kernel_rfl) rfl (by kernel_rfl) ?_
      intro ops' hops
      clear hops
      simp only [List.map_cons, List.map_nil, pickOp_zero, pickOp_succ]
      iterate 11 (refine ord_flo ?_ (fun _ _ _ h => h) rfl ?_ ⟨e0, e1, e2, f0, f1, f2, r3d, q3d⟩ ?_; rotate_left; focus (intro W hS; obtain ⟨s1, s2, s3, s4, s5, s6, s7, s8⟩ := hS; go_simp; rfl))
      refine ord_done ?_
      go_simp
      go_wp2
      go_ret
      exact ⟨by rw [HV.out]; rfl, hbf⟩
    | true =>
    have HN := Lib.hid (hyes.out (by cases m; cases n; simp only [beq_iff_eq] at h1 h2 h3; rw [h1, h2, h3]))
    clear hno hyes
    go_wp2
    refine ord_start [(0, true), (1, true), (2, true), (3, true), (4, true), (5, true), (6, true), (7, true), (8, true), (9, true), (10, true)] (fun W => W.cell? ⟨b1, o1 + k * 3, none⟩ = some (.int .i64 m.uid) ∧ W.cell? ⟨b1, o1 + k * 3 + 1, none⟩ = some (.int .i64 m.flags) ∧ W.cell? ⟨b1, o1 + k * 3 + 2, none⟩ = some (sv m.text) ∧ W.cell? ⟨b2, o2 + k * 3, none⟩ = some (.int .i64 n.uid) ∧ W.cell? ⟨b2, o2 + k * 3 + 1, none⟩ = some (.int .i64 n.flags) ∧ W.cell? ⟨b2, o2 + k * 3 + 2, none⟩ = some (sv n.text) ∧ W.cell? ⟨w.heap.size, 3, none⟩ = some (.slice (some ⟨b1, o1, none⟩) x.msgs.length c) ∧ W.cell? ⟨w.heap.size + 1, 3, none⟩ = some (.slice (some ⟨b2, o2, none⟩) y.msgs.length d)) (by kernel_rfl) (by kernel_rfl) rfl (by kernel_rfl) ?_
    intro ops' hops
    clear hops
    simp only [List.map_cons, List.map_nil, pickOp_zero, pickOp_succ]
    iterate 11 (refine ord_flo ?_ (fun _ _ _ h => h) rfl ?_ ⟨e0, e1, e2, f0, f1, f2, r3d, q3d⟩ ?_; rotate_left; focus (intro W hS; obtain ⟨s1, s2, s3, s4, s5, s6, s7, s8⟩ := hS; go_simp; rfl))
    refine ord_done ?_
    go_simp
    go_wp2
    go_roundw
    case rel => exact ⟨k + 1, by omega, by go_num, HN.out, hbd⟩
    case measure => simp [intOf]; omega

set_option maxRecDepth 20000 in
set_option maxHeartbeats 6400000 in
theorem specSameBoxes_c : CtrSameBoxes 27 (fun _ => True) := by
  intro l va m vb w _ ha hs hbd hb hs2 hbd2
  have hl : l.length ≤ 1048576 := Nat.le_trans (Nat.le_add_right _ _) hs
  have hsl : ∀ x ∈ l, szLs x.lf ≤ 1048576 ∧ LsBnd x.lf := fun x hx => ⟨by have h1 := szLs_mem BoxD.lf hx; have h2 : szLf (boxsLf l) = l.length + szLs (l.flatMap BoxD.lf) := rfl; omega, LsBnd.flat hbd.2 x hx⟩
  have hsm : ∀ x ∈ m, szLs x.lf ≤ 1048576 ∧ LsBnd x.lf := fun x hx => ⟨by have h1 := szLs_mem BoxD.lf hx; have h2 : szLf (boxsLf m) = m.length + szLs (m.flatMap BoxD.lf) := rfl; omega, LsBnd.flat hbd2.2 x hx⟩
  obtain ⟨p, c, rfl, hp⟩ := BoxD.at ha
  obtain ⟨q, d, rfl, hq⟩ := BoxD.at hb
  have HP := Lib.hid hp
  have HQ := Lib.hid hq
  have HSL := Lib.hid hsl
  have HSM := Lib.hid hsm
  clear ha hs hbd hb hs2 hbd2 hp hq hsl hsm
  by_cases hlen : l.length = m.length
  case neg =>
    have HV := Lib.hid (show decide (l = m) = false from decide_eq_false (fun e => hlen (by rw [e])))
    have h4 : ((l.length : Int) == (m.length : Int)) = false := by rw [beq_eq_false_iff_ne]; omega
    have g4 := ne_yes' h4
    go_enter Try.func27, Try.ntmps27
    go_wp2
    go_ret
    exact ⟨by rw [HV.out]; rfl, Below.refl _ _⟩
  have h4 : ((l.length : Int) == (m.length : Int)) = true := by rw [hlen]; simp
  have g4 := ne_not' h4
  have HL := Lib.hid hlen
  clear hlen
  go_enter Try.func27, Try.ntmps27
  go_wp2
  clear h4 g4
  go_loopw [5] (fun i wr => ∃ k : Nat, k ≤ l.length ∧ i = .int .i64 k ∧ l.take k = m.take k ∧ Below w.heap.size w wr) (fun i _ => l.length - (intOf i).toNat)
  case atStart => exact ⟨0, by omega, rfl, rfl, Below.refl _ _⟩
  case round =>
    obtain ⟨k, hk, rfl, hall, hbr⟩ := hrel
    have HALL := Lib.hid hall
    clear hall
    by_cases hlt : k < l.length
    case neg =>
      obtain rfl : k = l.length := by omega
      have HV := Lib.hid (show decide (l = m) = true from decide_eq_true (by have := HALL.out; rw [List.take_length, HL.out, List.take_length] at this; exact this))
      go_wp2
      go_ret
      exact ⟨by rw [HV.out]; rfl, hbr⟩
    obtain ⟨b1, o1, rfl, hb1, hc1⟩ := HP.out.resolve_left (by intro h; subst h; simp at hlt)
    obtain ⟨b2, o2, rfl, hb2, hc2⟩ := HQ.out.resolve_left (by intro h; have hlen := HL.out; rw [h] at hlen; simp at hlen; simp [hlen] at hlt)
    obtain ⟨x, hx⟩ : ∃ x, l[k]? = some x := ⟨_, List.getElem?_eq_getElem hlt⟩
    obtain ⟨y, hy⟩ : ∃ y, m[k]? = some y := ⟨_, List.getElem?_eq_getElem (by have := HL.out; omega)⟩
    obtain ⟨r3, hr3, ze0, ze1, ze2, ze3⟩ := hc1 k x hx
    obtain ⟨s3, hs3, zf0, zf1, zf2, zf3⟩ := hc2 k y hy
    obtain ⟨sx1, sx2⟩ := HSL.out x (List.mem_of_getElem? hx)
    obtain ⟨sy1, sy2⟩ := HSM.out y (List.mem_of_getElem? hy)
    have hlt2 : k < m.length := by have := HL.out; omega
    have hbd := hbr.drew
    have hl1 : b1 < wr.drew.heap.size := Nat.lt_of_lt_of_le hb1 hbd.size
    have hl2 : b2 < wr.drew.heap.size := Nat.lt_of_lt_of_le hb2 hbd.size
    have CS := Lib.hid (specSameBox_c x r3 y s3 wr.drew trivial (LfRd.below hbd _ _ hr3) sx1 sx2 (LfRd.below hbd _ _ hs3) sy1 sy2)
    have e0 : wr.drew.cell? ⟨b1, o1 + k * 4, none⟩ = some (sv x.name) := (hbr.cell (p := ⟨b1, o1 + k * 4, none⟩) hb1).trans ze0
    have e1 : wr.drew.cell? ⟨b1, o1 + k * 4 + 1, none⟩ = some (.int .i64 x.validity) := (hbr.cell (p := ⟨b1, o1 + k * 4 + 1, none⟩) hb1).trans ze1
    have e2 : wr.drew.cell? ⟨b1, o1 + k * 4 + 2, none⟩ = some (.int .i64 x.next) := (hbr.cell (p := ⟨b1, o1 + k * 4 + 2, none⟩) hb1).trans ze2
    have e3 : wr.drew.cell? ⟨b1, o1 + k * 4 + 3, none⟩ = some (r3) := (hbr.cell (p := ⟨b1, o1 + k * 4 + 3, none⟩) hb1).trans ze3
    have f0 : wr.drew.cell? ⟨b2, o2 + k * 4, none⟩ = some (sv y.name) := (hbr.cell (p := ⟨b2, o2 + k * 4, none⟩) hb2).trans zf0
    have f1 : wr.drew.cell? ⟨b2, o2 + k * 4 + 1, none⟩ = some (.int .i64 y.validity) := (hbr.cell (p := ⟨b2, o2 + k * 4 + 1, none⟩) hb2).trans zf1
    have f2 : wr.drew.cell? ⟨b2, o2 + k * 4 + 2, none⟩ = some (.int .i64 y.next) := (hbr.cell (p := ⟨b2, o2 + k * 4 + 2, none⟩) hb2).trans zf2
    have f3 : wr.drew.cell? ⟨b2, o2 + k * 4 + 3, none⟩ = some (s3) := (hbr.cell (p := ⟨b2, o2 + k * 4 + 3, none⟩) hb2).trans zf3
    have hno := Lib.hid (fun h : decide (x = y) = false => (decide_eq_false (same_not hx hy (of_decide_eq_false h)) : decide (l = m) = false))
    have hyes := Lib.hid (fun h : decide (x = y) = true => same_take hx (by rw [hy, of_decide_eq_true h]) HALL.out)
    obtain ⟨t, ht⟩ : ∃ t, decide (x = y) = t := ⟨_, rfl⟩
    rw [ht] at CS hno hyes
    obtain ⟨p3, d3, rfl⟩ := LfRd.slice hr3
    obtain ⟨q3, d4, rfl⟩ := LfRd.slice hs3
    clear hc1 hc2 hx hy hr3 hs3 ze0 ze1 ze2 ze3 zf0 zf1 zf2 zf3 sx1 sx2 sy1 sy2 hbr ht
    cases t with
    | false =>
      have HV := Lib.hid (hno.out rfl)
      clear hno hyes HP HQ HL HALL
      go_wp2
      refine ord_start [(0, true), (1, true), (2, true), (3, true), (4, true), (5, true), (6, true), (7, true), (8, false), (9, true)] (fun W => W.cell? ⟨b1, o1 + k * 4, none⟩ = some (sv x.name) ∧ W.cell? ⟨b1, o1 + k * 4 + 1, none⟩ = some (.int .i64 x.validity) ∧ W.cell? ⟨b1, o1 + k * 4 + 2, none⟩ = some (.int .i64 x.next) ∧ W.cell? ⟨b1, o1 + k * 4 + 3, none⟩ = some (.slice p3 x.msgs.length d3) ∧ W.cell? ⟨b2, o2 + k * 4, none⟩ = some (sv y.name) ∧ W.cell? ⟨b2, o2 + k * 4 + 1, none⟩ = some (.int .i64 y.validity) ∧ W.cell? ⟨b2, o2 + k * 4 + 2, none⟩ = some (.int .i64 y.next) ∧ W.cell? ⟨b2, o2 + k * 4 + 3, none⟩ = some (.slice q3 y.msgs.length d4)) (by kernel_rfl) (by kernel_rfl) rfl (by kernel_rfl) ?_
      intro ops' hops
      clear hops
      simp only [List.map_cons, List.map_nil, pickOp_zero, pickOp_succ]
      iterate 8 (refine ord_flo ?_ (fun _ _ _ h => h) rfl ?_ ⟨e0, e1, e2, e3, f0, f1, f2, f3⟩ ?_; rotate_left; focus (intro W hS; obtain ⟨s1, s2, s3, s4, s5, s6, s7, s8⟩ := hS; go_simp; rfl))
      refine ord_ev rfl ?_
      go_simp
      refine CS.out.mono ?_
      rintro e w1 ⟨rfl, k1⟩
      replace e0 := (k1.cell (p := ⟨b1, o1 + k * 4, none⟩) hl1).trans e0
      replace e1 := (k1.cell (p := ⟨b1, o1 + k * 4 + 1, none⟩) hl1).trans e1
      replace e2 := (k1.cell (p := ⟨b1, o1 + k * 4 + 2, none⟩) hl1).trans e2
      replace e3 := (k1.cell (p := ⟨b1, o1 + k * 4 + 3, none⟩) hl1).trans e3
      replace f0 := (k1.cell (p := ⟨b2, o2 + k * 4, none⟩) hl2).trans f0
      replace f1 := (k1.cell (p := ⟨b2, o2 + k * 4 + 1, none⟩) hl2).trans f1
      replace f2 := (k1.cell (p := ⟨b2, o2 + k * 4 + 2, none⟩) hl2).trans f2
      replace f3 := (k1.cell (p := ⟨b2, o2 + k * 4 + 3, none⟩) hl2).trans f3
      replace hbd := hbd.trans (k1.mono hbd.size)
      clear k1 hl1 hl2
      refine ⟨⟨e0, e1, e2, e3, f0, f1, f2, f3⟩, ?_⟩
      iterate 1 (refine ord_flo ?_ (fun _ _ _ h => h) rfl ?_ ⟨e0, e1, e2, e3, f0, f1, f2, f3⟩ ?_; rotate_left; focus (intro W hS; obtain ⟨s1, s2, s3, s4, s5, s6, s7, s8⟩ := hS; go_simp; rfl))
      refine ord_done ?_
      go_simp
      go_wp2
      go_ret
      exact ⟨by rw [HV.out]; rfl, hbd⟩
    | true =>
      have HN := Lib.hid (hyes.out rfl)
      clear hno hyes
      go_wp2
      refine ord_start [(0, true), (1, true), (2, true), (3, true), (4, true), (5, true), (6, true), (7, true), (8, false), (9, true)] (fun W => W.cell? ⟨b1, o1 + k * 4, none⟩ = some (sv x.name) ∧ W.cell? ⟨b1, o1 + k * 4 + 1, none⟩ = some (.int .i64 x.validity) ∧ W.cell? ⟨b1, o1 + k * 4 + 2, none⟩ = some (.int .i64 x.next) ∧ W.cell? ⟨b1, o1 + k * 4 + 3, none⟩ = some (.slice p3 x.msgs.length d3) ∧ W.cell? ⟨b2, o2 + k * 4, none⟩ = some (sv y.name) ∧ W.cell? ⟨b2, o2 + k * 4 + 1, none⟩ = some (.int .i64 y.validity) ∧ W.cell? ⟨b2, o2 + k * 4 + 2, none⟩ = some (.int .i64 y.next) ∧ W.cell? ⟨b2, o2 + k * 4 + 3, none⟩ = some (.slice q3 y.msgs.length d4)) (by kernel_rfl) (by kernel_rfl) rfl (by kernel_rfl) ?_
      intro ops' hops
      clear hops
      simp only [List.map_cons, List.map_nil, pickOp_zero, pickOp_succ]
      iterate 8 (refine ord_flo ?_ (fun _ _ _ h => h) rfl ?_ ⟨e0, e1, e2, e3, f0, f1, f2, f3⟩ ?_; rotate_left; focus (intro W hS; obtain ⟨s1, s2, s3, s4, s5, s6, s7, s8⟩ := hS; go_simp; rfl))
      refine ord_ev rfl ?_
      go_simp
      refine CS.out.mono ?_
      rintro e w1 ⟨rfl, k1⟩
      replace e0 := (k1.cell (p := ⟨b1, o1 + k * 4, none⟩) hl1).trans e0
      replace e1 := (k1.cell (p := ⟨b1, o1 + k * 4 + 1, none⟩) hl1).trans e1
      replace e2 := (k1.cell (p := ⟨b1, o1 + k * 4 + 2, none⟩) hl1).trans e2
      replace e3 := (k1.cell (p := ⟨b1, o1 + k * 4 + 3, none⟩) hl1).trans e3
      replace f0 := (k1.cell (p := ⟨b2, o2 + k * 4, none⟩) hl2).trans f0
      replace f1 := (k1.cell (p := ⟨b2, o2 + k * 4 + 1, none⟩) hl2).trans f1
      replace f2 := (k1.cell (p := ⟨b2, o2 + k * 4 + 2, none⟩) hl2).trans f2
      replace f3 := (k1.cell (p := ⟨b2, o2 + k * 4 + 3, none⟩) hl2).trans f3
      replace hbd := hbd.trans (k1.mono hbd.size)
      clear k1 hl1 hl2
      refine ⟨⟨e0, e1, e2, e3, f0, f1, f2, f3⟩, ?_⟩
      iterate 1 (refine ord_flo ?_ (fun _ _ _ h => h) rfl ?_ ⟨e0, e1, e2, e3, f0, f1, f2, f3⟩ ?_; rotate_left; focus (intro W hS; obtain ⟨s1, s2, s3, s4, s5, s6, s7, s8⟩ := hS; go_simp; rfl))
      refine ord_done ?_
      go_simp
      clear e0 e1 e2 e3 f0 f1 f2 f3
      go_wp2
      go_roundw
      case rel => exact ⟨k + 1, by omega, by go_num, HN.out, hbd⟩
      case measure => simp [intOf]; omega

end Go.Proofs.Ytbfgdbpfecffcaa
