/-
  Ur: StoU (what the claim needs of them).
-/
import Derived.Deep.DeepCutAuto
import Derived.Handy
import Derived.Test.YtbfgdbpfecffcaaRows
import Derived.WalkKit
import Derived.WalkSpells
import Derived.WalkLawsBesides
import Derived.Laws.IdiomStrings
import Derived.Lib.Hide
import Derived.Deep.AppendLies
import Derived.OrdersHeld
import Derived.Lib.ItoaNum
import Derived.Lib.ItoaMem
import Derived.Lib.AppendStr
import Derived.Lib.ItoaLen
import Derived.Lib.Strings
import Derived.Lib.Bytealg
import Derived.Lib.OthersKept
import Derived.Laws.RangeAny
import Derived.Laws.BitsAllLaws
import Derived.Laws.BitsLemmas
import Derived.IntWalk
import Derived.Lib.Join
import Derived.Deep.Strs
import Derived.Test.YtbfgdbpfecffcaaProg
import Derived.Laws.Tables
import Derived.Deep.Cut
import Derived.Test.YtbfgdbpfecffcaaUa
import Derived.Test.YtbfgdbpfecffcaaUb
import Derived.Test.YtbfgdbpfecffcaaUc
import Derived.Test.YtbfgdbpfecffcaaUd
import Derived.Test.YtbfgdbpfecffcaaUe
import Derived.Test.YtbfgdbpfecffcaaUh
import Derived.Test.YtbfgdbpfecffcaaUk
import Derived.Test.YtbfgdbpfecffcaaUl
import Derived.Test.YtbfgdbpfecffcaaUm
import Derived.Test.YtbfgdbpfecffcaaUn
import Derived.Test.YtbfgdbpfecffcaaUq

namespace Go.Proofs.Ytbfgdbpfecffcaa
open Go.RowKit

theorem sto_parts {x : StoD} (hs : szLs x.lf ≤ 1048576) (hbd : LsBnd x.lf) : (szLf (boxsLf x.boxes) ≤ 1048576 ∧ LfBnd (boxsLf x.boxes)) ∧ x.log.length ≤ 1048576 := by
  have h := sto_smallS hs hbd
  rw [StoD.sz] at hs
  exact ⟨⟨by omega, hbd.1⟩, h⟩
theorem sto_ne {x y : StoD} (h : ¬ (x.boxes = y.boxes ∧ x.log = y.log ∧ x.given = y.given)) : decide (x = y) = false := decide_eq_false (fun e => h (by rw [e]; exact ⟨rfl, rfl, rfl⟩))
theorem sto_eq {x y : StoD} (h1 : x.boxes = y.boxes) (h2 : x.log = y.log) (h3 : x.given = y.given) : decide (x = y) = true := decide_eq_true (by cases x; cases y; simp only at h1 h2 h3; rw [h1, h2, h3])

set_option maxRecDepth 20000 in
set_option maxHeartbeats 6400000 in
theorem comEqual_any (a b : Value) (l m : List ComD) (w : World) (ha : LfRd w (commitsLf l) a) (hb : LfRd w (commitsLf m) b) (hl : l.length ≤ 1048576) :
    Calls Try.prog 29 #[a, b] w fun e w' => e = .returned (.bool (decide (l = m))) ∧ Below w.heap.size w w' := by
  obtain ⟨p, c1, rfl, hp⟩ := ComD.at ha
  obtain ⟨q, c2, rfl, hq⟩ := ComD.at hb
  clear ha hb
  have HP := Lib.hid hp
  have HQ := Lib.hid hq
  clear hp hq
  by_cases hlen : l.length = m.length
  · rw [← hlen]
    have HL := Lib.hid hlen
    clear hlen
    go_enter Try.func29, Try.ntmps29
    go_wp2
    go_loopw [5, 13] (fun u i wr => ∃ k : Nat, k ≤ l.length ∧ i = .int .i64 k ∧ l.take k = m.take k ∧ Below w.heap.size w wr) (fun u i _ => l.length - (intOf i).toNat)
    case atStart => exact ⟨0, by omega, rfl, rfl, Below.refl _ _⟩
    case round =>
      obtain ⟨k, hk, rfl, hall, hbr⟩ := hrel
      have Hall := Lib.hid hall
      clear hall
      by_cases hlt : k < l.length
      · obtain ⟨b1, o1, rfl, hb1, hc1⟩ := HP.out.resolve_left (by intro h; subst h; simp at hlt)
        obtain ⟨b2, o2, rfl, hb2, hc2⟩ := HQ.out.resolve_left (by intro h; have hlen := HL.out; rw [h] at hlen; simp at hlen; simp [hlen] at hlt)
        obtain ⟨x, hx⟩ : ∃ x, l[k]? = some x := ⟨_, List.getElem?_eq_getElem hlt⟩
        obtain ⟨y, hy⟩ : ∃ y, m[k]? = some y := ⟨_, List.getElem?_eq_getElem (by have := HL.out; omega)⟩
        obtain ⟨x0, x1, x2, x3, x4, x5⟩ := hc1 k x hx
        obtain ⟨y0, y1, y2, y3, y4, y5⟩ := hc2 k y hy
        have e0 : wr.drew.cell? ⟨b1, o1 + k * 6, none⟩ = some (.int .i64 x.kind) := (hbr.cell (p := ⟨b1, o1 + k * 6, none⟩) hb1).trans x0
        have e1 : wr.drew.cell? ⟨b1, o1 + k * 6 + 1, none⟩ = some (.int .i64 x.validity) := (hbr.cell (p := ⟨b1, o1 + k * 6 + 1, none⟩) hb1).trans x1
        have e2 : wr.drew.cell? ⟨b1, o1 + k * 6 + 2, none⟩ = some (.int .i64 x.uid) := (hbr.cell (p := ⟨b1, o1 + k * 6 + 2, none⟩) hb1).trans x2
        have e3 : wr.drew.cell? ⟨b1, o1 + k * 6 + 3, none⟩ = some (.int .i64 x.flags) := (hbr.cell (p := ⟨b1, o1 + k * 6 + 3, none⟩) hb1).trans x3
        have e4 : wr.drew.cell? ⟨b1, o1 + k * 6 + 4, none⟩ = some (sv x.name) := (hbr.cell (p := ⟨b1, o1 + k * 6 + 4, none⟩) hb1).trans x4
        have e5 : wr.drew.cell? ⟨b1, o1 + k * 6 + 5, none⟩ = some (sv x.text) := (hbr.cell (p := ⟨b1, o1 + k * 6 + 5, none⟩) hb1).trans x5
        have f0 : wr.drew.cell? ⟨b2, o2 + k * 6, none⟩ = some (.int .i64 y.kind) := (hbr.cell (p := ⟨b2, o2 + k * 6, none⟩) hb2).trans y0
        have f1 : wr.drew.cell? ⟨b2, o2 + k * 6 + 1, none⟩ = some (.int .i64 y.validity) := (hbr.cell (p := ⟨b2, o2 + k * 6 + 1, none⟩) hb2).trans y1
        have f2 : wr.drew.cell? ⟨b2, o2 + k * 6 + 2, none⟩ = some (.int .i64 y.uid) := (hbr.cell (p := ⟨b2, o2 + k * 6 + 2, none⟩) hb2).trans y2
        have f3 : wr.drew.cell? ⟨b2, o2 + k * 6 + 3, none⟩ = some (.int .i64 y.flags) := (hbr.cell (p := ⟨b2, o2 + k * 6 + 3, none⟩) hb2).trans y3
        have f4 : wr.drew.cell? ⟨b2, o2 + k * 6 + 4, none⟩ = some (sv y.name) := (hbr.cell (p := ⟨b2, o2 + k * 6 + 4, none⟩) hb2).trans y4
        have f5 : wr.drew.cell? ⟨b2, o2 + k * 6 + 5, none⟩ = some (sv y.text) := (hbr.cell (p := ⟨b2, o2 + k * 6 + 5, none⟩) hb2).trans y5
        have hno := Lib.hid (fun h : x ≠ y => (decide_eq_false (same_not hx hy h) : decide (l = m) = false))
        have hyes := Lib.hid (fun h : x = y => same_take hx (by rw [hy, h]) Hall.out)
        clear hc1 hc2 hx hy Hall x0 x1 x2 x3 x4 x5 y0 y1 y2 y3 y4 y5 HP HQ
        cases h0 : (x.kind == y.kind) with
        | false =>
          have HV := Lib.hid (hno.out (by intro e; rw [e] at h0; simp at h0))
          clear hno hyes
          go_wp2
          refine ord_start [(0, true), (1, true), (2, true), (3, true), (4, true), (5, true), (6, true), (7, true), (8, true)] (fun W => W.cell? ⟨b1, o1 + k * 6, none⟩ = some (.int .i64 x.kind) ∧ W.cell? ⟨b1, o1 + k * 6 + 1, none⟩ = some (.int .i64 x.validity) ∧ W.cell? ⟨b1, o1 + k * 6 + 2, none⟩ = some (.int .i64 x.uid) ∧ W.cell? ⟨b1, o1 + k * 6 + 3, none⟩ = some (.int .i64 x.flags) ∧ W.cell? ⟨b1, o1 + k * 6 + 4, none⟩ = some (sv x.name) ∧ W.cell? ⟨b1, o1 + k * 6 + 5, none⟩ = some (sv x.text) ∧ W.cell? ⟨b2, o2 + k * 6, none⟩ = some (.int .i64 y.kind) ∧ W.cell? ⟨b2, o2 + k * 6 + 1, none⟩ = some (.int .i64 y.validity) ∧ W.cell? ⟨b2, o2 + k * 6 + 2, none⟩ = some (.int .i64 y.uid) ∧ W.cell? ⟨b2, o2 + k * 6 + 3, none⟩ = some (.int .i64 y.flags) ∧ W.cell? ⟨b2, o2 + k * 6 + 4, none⟩ = some (sv y.name) ∧ W.cell? ⟨b2, o2 + k * 6 + 5, none⟩ = some (sv y.text)) (by kernel_rfl) (by kernel_rfl) rfl (by kernel_rfl) ?_
          intro ops' hops
          clear hops
          simp only [List.map_cons, List.map_nil, pickOp_zero, pickOp_succ]
          iterate 9 (refine ord_flo ?_ (fun _ _ _ h => h) rfl ?_ ⟨e0, e1, e2, e3, e4, e5, f0, f1, f2, f3, f4, f5⟩ ?_; rotate_left; focus (intro W hS; obtain ⟨s0, s1, s2, s3, s4, s5, s6, s7, s8, s9, s10, s11⟩ := hS; go_simp; rfl))
          refine ord_done ?_
          go_simp
          clear e0 e1 e2 e3 e4 e5 f0 f1 f2 f3 f4 f5
          go_wp2
          go_ret
          exact ⟨by rw [HV.out]; rfl, hbr.drew⟩
        | true =>
          cases h1 : (x.validity == y.validity) with
          | false =>
            have HV := Lib.hid (hno.out (by intro e; rw [e] at h1; simp at h1))
            clear hno hyes
            go_wp2
            refine ord_start [(0, true), (1, true), (2, true), (3, true), (4, true), (5, true), (6, true), (7, true), (8, true)] (fun W => W.cell? ⟨b1, o1 + k * 6, none⟩ = some (.int .i64 x.kind) ∧ W.cell? ⟨b1, o1 + k * 6 + 1, none⟩ = some (.int .i64 x.validity) ∧ W.cell? ⟨b1, o1 + k * 6 + 2, none⟩ = some (.int .i64 x.uid) ∧ W.cell? ⟨b1, o1 + k * 6 + 3, none⟩ = some (.int .i64 x.flags) ∧ W.cell? ⟨b1, o1 + k * 6 + 4, none⟩ = some (sv x.name) ∧ W.cell? ⟨b1, o1 + k * 6 + 5, none⟩ = some (sv x.text) ∧ W.cell? ⟨b2, o2 + k * 6, none⟩ = some (.int .i64 y.kind) ∧ W.cell? ⟨b2, o2 + k * 6 + 1, none⟩ = some (.int .i64 y.validity) ∧ W.cell? ⟨b2, o2 + k * 6 + 2, none⟩ = some (.int .i64 y.uid) ∧ W.cell? ⟨b2, o2 + k * 6 + 3, none⟩ = some (.int .i64 y.flags) ∧ W.cell? ⟨b2, o2 + k * 6 + 4, none⟩ = some (sv y.name) ∧ W.cell? ⟨b2, o2 + k * 6 + 5, none⟩ = some (sv y.text)) (by kernel_rfl) (by kernel_rfl) rfl (by kernel_rfl) ?_
            intro ops' hops
            clear hops
            simp only [List.map_cons, List.map_nil, pickOp_zero, pickOp_succ]
            iterate 9 (refine ord_flo ?_ (fun _ _ _ h => h) rfl ?_ ⟨e0, e1, e2, e3, e4, e5, f0, f1, f2, f3, f4, f5⟩ ?_; rotate_left; focus (intro W hS; obtain ⟨s0, s1, s2, s3, s4, s5, s6, s7, s8, s9, s10, s11⟩ := hS; go_simp; rfl))
            refine ord_done ?_
            go_simp
            clear e0 e1 e2 e3 e4 e5 f0 f1 f2 f3 f4 f5
            go_wp2
            go_ret
            exact ⟨by rw [HV.out]; rfl, hbr.drew⟩
          | true =>
            cases h2 : (x.uid == y.uid) with
            | false =>
              have HV := Lib.hid (hno.out (by intro e; rw [e] at h2; simp at h2))
              clear hno hyes
              go_wp2
              refine ord_start [(0, true), (1, true), (2, true), (3, true), (4, true), (5, true), (6, true), (7, true), (8, true)] (fun W => W.cell? ⟨b1, o1 + k * 6, none⟩ = some (.int .i64 x.kind) ∧ W.cell? ⟨b1, o1 + k * 6 + 1, none⟩ = some (.int .i64 x.validity) ∧ W.cell? ⟨b1, o1 + k * 6 + 2, none⟩ = some (.int .i64 x.uid) ∧ W.cell? ⟨b1, o1 + k * 6 + 3, none⟩ = some (.int .i64 x.flags) ∧ W.cell? ⟨b1, o1 + k * 6 + 4, none⟩ = some (sv x.name) ∧ W.cell? ⟨b1, o1 + k * 6 + 5, none⟩ = some (sv x.text) ∧ W.cell? ⟨b2, o2 + k * 6, none⟩ = some (.int .i64 y.kind) ∧ W.cell? ⟨b2, o2 + k * 6 + 1, none⟩ = some (.int .i64 y.validity) ∧ W.cell? ⟨b2, o2 + k * 6 + 2, none⟩ = some (.int .i64 y.uid) ∧ W.cell? ⟨b2, o2 + k * 6 + 3, none⟩ = some (.int .i64 y.flags) ∧ W.cell? ⟨b2, o2 + k * 6 + 4, none⟩ = some (sv y.name) ∧ W.cell? ⟨b2, o2 + k * 6 + 5, none⟩ = some (sv y.text)) (by kernel_rfl) (by kernel_rfl) rfl (by kernel_rfl) ?_
              intro ops' hops
              clear hops
              simp only [List.map_cons, List.map_nil, pickOp_zero, pickOp_succ]
              iterate 9 (refine ord_flo ?_ (fun _ _ _ h => h) rfl ?_ ⟨e0, e1, e2, e3, e4, e5, f0, f1, f2, f3, f4, f5⟩ ?_; rotate_left; focus (intro W hS; obtain ⟨s0, s1, s2, s3, s4, s5, s6, s7, s8, s9, s10, s11⟩ := hS; go_simp; rfl))
              refine ord_done ?_
              go_simp
              clear e0 e1 e2 e3 e4 e5 f0 f1 f2 f3 f4 f5
              go_wp2
              go_ret
              exact ⟨by rw [HV.out]; rfl, hbr.drew⟩
            | true =>
              cases h3 : (x.flags == y.flags) with
              | false =>
                have HV := Lib.hid (hno.out (by intro e; rw [e] at h3; simp at h3))
                clear hno hyes
                go_wp2
                refine ord_start [(0, true), (1, true), (2, true), (3, true), (4, true), (5, true), (6, true), (7, true), (8, true)] (fun W => W.cell? ⟨b1, o1 + k * 6, none⟩ = some (.int .i64 x.kind) ∧ W.cell? ⟨b1, o1 + k * 6 + 1, none⟩ = some (.int .i64 x.validity) ∧ W.cell? ⟨b1, o1 + k * 6 + 2, none⟩ = some (.int .i64 x.uid) ∧ W.cell? ⟨b1, o1 + k * 6 + 3, none⟩ = some (.int .i64 x.flags) ∧ W.cell? ⟨b1, o1 + k * 6 + 4, none⟩ = some (sv x.name) ∧ W.cell? ⟨b1, o1 + k * 6 + 5, none⟩ = some (sv x.text) ∧ W.cell? ⟨b2, o2 + k * 6, none⟩ = some (.int .i64 y.kind) ∧ W.cell? ⟨b2, o2 + k * 6 + 1, none⟩ = some (.int .i64 y.validity) ∧ W.cell? ⟨b2, o2 + k * 6 + 2, none⟩ = some (.int .i64 y.uid) ∧ W.cell? ⟨b2, o2 + k * 6 + 3, none⟩ = some (.int .i64 y.flags) ∧ W.cell? ⟨b2, o2 + k * 6 + 4, none⟩ = some (sv y.name) ∧ W.cell? ⟨b2, o2 + k * 6 + 5, none⟩ = some (sv y.text)) (by kernel_rfl) (by kernel_rfl) rfl (by kernel_rfl) ?_
                intro ops' hops
                clear hops
                simp only [List.map_cons, List.map_nil, pickOp_zero, pickOp_succ]
                iterate 9 (refine ord_flo ?_ (fun _ _ _ h => h) rfl ?_ ⟨e0, e1, e2, e3, e4, e5, f0, f1, f2, f3, f4, f5⟩ ?_; rotate_left; focus (intro W hS; obtain ⟨s0, s1, s2, s3, s4, s5, s6, s7, s8, s9, s10, s11⟩ := hS; go_simp; rfl))
                refine ord_done ?_
                go_simp
                clear e0 e1 e2 e3 e4 e5 f0 f1 f2 f3 f4 f5
                go_wp2
                go_ret
                exact ⟨by rw [HV.out]; rfl, hbr.drew⟩
              | true =>
                cases h4 : (x.name == y.name) with
                | false =>
                  have HV := Lib.hid (hno.out (by intro e; rw [e] at h4; simp at h4))
                  clear hno hyes
                  go_wp2
                  refine ord_start [(0, true), (1, true), (2, true), (3, true), (4, true), (5, true), (6, true), (7, true), (8, true)] (fun W => W.cell? ⟨b1, o1 + k * 6, none⟩ = some (.int .i64 x.kind) ∧ W.cell? ⟨b1, o1 + k * 6 + 1, none⟩ = some (.int .i64 x.validity) ∧ W.cell? ⟨b1, o1 + k * 6 + 2, none⟩ = some (.int .i64 x.uid) ∧ W.cell? ⟨b1, o1 + k * 6 + 3, none⟩ = some (.int .i64 x.flags) ∧ W.cell? ⟨b1, o1 + k * 6 + 4, none⟩ = some (sv x.name) ∧ W.cell? ⟨b1, o1 + k * 6 + 5, none⟩ = some (sv x.text) ∧ W.cell? ⟨b2, o2 + k * 6, none⟩ = some (.int .i64 y.kind) ∧ W.cell? ⟨b2, o2 + k * 6 + 1, none⟩ = some (.int .i64 y.validity) ∧ W.cell? ⟨b2, o2 + k * 6 + 2, none⟩ = some (.int .i64 y.uid) ∧ W.cell? ⟨b2, o2 + k * 6 + 3, none⟩ = some (.int .i64 y.flags) ∧ W.cell? ⟨b2, o2 + k * 6 + 4, none⟩ = some (sv y.name) ∧ W.cell? ⟨b2, o2 + k * 6 + 5, none⟩ = some (sv y.text)) (by kernel_rfl) (by kernel_rfl) rfl (by kernel_rfl) ?_
                  intro ops' hops
                  clear hops
                  simp only [List.map_cons, List.map_nil, pickOp_zero, pickOp_succ]
                  iterate 9 (refine ord_flo ?_ (fun _ _ _ h => h) rfl ?_ ⟨e0, e1, e2, e3, e4, e5, f0, f1, f2, f3, f4, f5⟩ ?_; rotate_left; focus (intro W hS; obtain ⟨s0, s1, s2, s3, s4, s5, s6, s7, s8, s9, s10, s11⟩ := hS; go_simp; rfl))
                  refine ord_done ?_
                  go_simp
                  clear e0 e1 e2 e3 e4 e5 f0 f1 f2 f3 f4 f5
                  go_wp2
                  go_ret
                  exact ⟨by rw [HV.out]; rfl, hbr.drew⟩
                | true =>
                  cases h5 : (x.text == y.text) with
                  | false =>
                    have HV := Lib.hid (hno.out (by intro e; rw [e] at h5; simp at h5))
                    clear hno hyes
                    go_wp2
                    refine ord_start [(0, true), (1, true), (2, true), (3, true), (4, true), (5, true), (6, true), (7, true), (8, true)] (fun W => W.cell? ⟨b1, o1 + k * 6, none⟩ = some (.int .i64 x.kind) ∧ W.cell? ⟨b1, o1 + k * 6 + 1, none⟩ = some (.int .i64 x.validity) ∧ W.cell? ⟨b1, o1 + k * 6 + 2, none⟩ = some (.int .i64 x.uid) ∧ W.cell? ⟨b1, o1 + k * 6 + 3, none⟩ = some (.int .i64 x.flags) ∧ W.cell? ⟨b1, o1 + k * 6 + 4, none⟩ = some (sv x.name) ∧ W.cell? ⟨b1, o1 + k * 6 + 5, none⟩ = some (sv x.text) ∧ W.cell? ⟨b2, o2 + k * 6, none⟩ = some (.int .i64 y.kind) ∧ W.cell? ⟨b2, o2 + k * 6 + 1, none⟩ = some (.int .i64 y.validity) ∧ W.cell? ⟨b2, o2 + k * 6 + 2, none⟩ = some (.int .i64 y.uid) ∧ W.cell? ⟨b2, o2 + k * 6 + 3, none⟩ = some (.int .i64 y.flags) ∧ W.cell? ⟨b2, o2 + k * 6 + 4, none⟩ = some (sv y.name) ∧ W.cell? ⟨b2, o2 + k * 6 + 5, none⟩ = some (sv y.text)) (by kernel_rfl) (by kernel_rfl) rfl (by kernel_rfl) ?_
                    intro ops' hops
                    clear hops
                    simp only [List.map_cons, List.map_nil, pickOp_zero, pickOp_succ]
                    iterate 9 (refine ord_flo ?_ (fun _ _ _ h => h) rfl ?_ ⟨e0, e1, e2, e3, e4, e5, f0, f1, f2, f3, f4, f5⟩ ?_; rotate_left; focus (intro W hS; obtain ⟨s0, s1, s2, s3, s4, s5, s6, s7, s8, s9, s10, s11⟩ := hS; go_simp; rfl))
                    refine ord_done ?_
                    go_simp
                    clear e0 e1 e2 e3 e4 e5 f0 f1 f2 f3 f4 f5
                    go_wp2
                    go_ret
                    exact ⟨by rw [HV.out]; rfl, hbr.drew⟩
                  | true =>
                    have HN := Lib.hid (hyes.out (by cases x; cases y; simp only [beq_iff_eq] at h0 h1 h2 h3 h4 h5; rw [h0, h1, h2, h3, h4, h5]))
                    clear hno hyes
                    go_wp2
                    refine ord_start [(0, true), (1, true), (2, true), (3, true), (4, true), (5, true), (6, true), (7, true), (8, true)] (fun W => W.cell? ⟨b1, o1 + k * 6, none⟩ = some (.int .i64 x.kind) ∧ W.cell? ⟨b1, o1 + k * 6 + 1, none⟩ = some (.int .i64 x.validity) ∧ W.cell? ⟨b1, o1 + k * 6 + 2, none⟩ = some (.int .i64 x.uid) ∧ W.cell? ⟨b1, o1 + k * 6 + 3, none⟩ = some (.int .i64 x.flags) ∧ W.cell? ⟨b1, o1 + k * 6 + 4, none⟩ = some (sv x.name) ∧ W.cell? ⟨b1, o1 + k * 6 + 5, none⟩ = some (sv x.text) ∧ W.cell? ⟨b2, o2 + k * 6, none⟩ = some (.int .i64 y.kind) ∧ W.cell? ⟨b2, o2 + k * 6 + 1, none⟩ = some (.int .i64 y.validity) ∧ W.cell? ⟨b2, o2 + k * 6 + 2, none⟩ = some (.int .i64 y.uid) ∧ W.cell? ⟨b2, o2 + k * 6 + 3, none⟩ = some (.int .i64 y.flags) ∧ W.cell? ⟨b2, o2 + k * 6 + 4, none⟩ = some (sv y.name) ∧ W.cell? ⟨b2, o2 + k * 6 + 5, none⟩ = some (sv y.text)) (by kernel_rfl) (by kernel_rfl) rfl (by kernel_rfl) ?_
                    intro ops' hops
                    clear hops
                    simp only [List.map_cons, List.map_nil, pickOp_zero, pickOp_succ]
                    iterate 9 (refine ord_flo ?_ (fun _ _ _ h => h) rfl ?_ ⟨e0, e1, e2, e3, e4, e5, f0, f1, f2, f3, f4, f5⟩ ?_; rotate_left; focus (intro W hS; obtain ⟨s0, s1, s2, s3, s4, s5, s6, s7, s8, s9, s10, s11⟩ := hS; go_simp; rfl))
                    refine ord_done ?_
                    go_simp
                    clear e0 e1 e2 e3 e4 e5 f0 f1 f2 f3 f4 f5
                    go_wp2
                    go_roundw
                    case rel => exact ⟨k + 1, by omega, by go_num, HN.out, hbr.drew⟩
                    case measure => simp [intOf]; omega
      · obtain rfl : k = l.length := by omega
        have HV := Lib.hid (show decide (l = m) = true from decide_eq_true (by have := Hall.out; rw [List.take_length, HL.out, List.take_length] at this; exact this))
        clear HL
        go_wp2
        go_ret
        exact ⟨by rw [HV.out]; rfl, hbr⟩
  · have HV := Lib.hid (show decide (l = m) = false from decide_eq_false (fun e => hlen (by rw [e])))
    have hne : ((l.length : Int) == (m.length : Int)) = false := by rw [beq_eq_false_iff_ne]; omega
    have hnn := ne_yes' hne
    clear hlen
    go_enter Try.func29, Try.ntmps29
    go_wp2
    go_ret
    exact ⟨by rw [HV.out]; rfl, Below.refl _ _⟩

set_option maxRecDepth 20000 in
set_option maxHeartbeats 6400000 in
theorem implSameStore_c {G : World → Prop} : CtrSameStore 15 G := by
  intro x_A r0 r1 x_B s0 s1 w _ hr0 _ hr1 _ hs hbd hr2 _ hr3 _ hs2 hbd2
  obtain ⟨⟨z1, z2⟩, z3⟩ := sto_parts hs hbd
  obtain ⟨⟨z4, z5⟩, z6⟩ := sto_parts hs2 hbd2
  have CB := Lib.hid (fun W (g : Below w.heap.size w W) => implSameBoxes_c (G := fun _ => True) x_A.boxes r0 x_B.boxes s0 W trivial (LfRd.below g _ _ hr0) z1 z2 (LfRd.below g _ _ hr2) z4 z5)
  have CE := Lib.hid (fun W (g : Below w.heap.size w W) => comEqual_any r1 s1 x_A.log x_B.log W (LfRd.below g _ _ hr1) (LfRd.below g _ _ hr3) z3)
  obtain ⟨p0, c0, rfl⟩ := LfRd.slice hr0
  obtain ⟨p1, c1, rfl, hp⟩ := ComD.at hr1
  obtain ⟨q0, d0, rfl⟩ := LfRd.slice hr2
  obtain ⟨q1, d1, rfl, hq⟩ := ComD.at hr3
  have HP := Lib.hid hp
  have HQ := Lib.hid hq
  have hb2 : Below w.heap.size w ((w.alloc (.cells #[.slice p0 x_A.boxes.length c0, .slice p1 x_A.log.length c1, .int .i64 x_A.given] 32)).alloc (.cells #[.slice q0 x_B.boxes.length d0, .slice q1 x_B.log.length d1, .int .i64 x_B.given] 32)) := ((Below.refl _ _).alloc (Nat.le_refl _) _).alloc (by simp) _
  have n1 := (Below.heap_alloc (w.alloc (.cells #[.slice p0 x_A.boxes.length c0, .slice p1 x_A.log.length c1, .int .i64 x_A.given] 32)) (.cells #[.slice q0 x_B.boxes.length d0, .slice q1 x_B.log.length d1, .int .i64 x_B.given] 32) w.heap.size (by simp)).trans (heap_alloc_new w (.cells #[.slice p0 x_A.boxes.length c0, .slice p1 x_A.log.length c1, .int .i64 x_A.given] 32))
  have n2 := heap_alloc_new (w.alloc (.cells #[.slice p0 x_A.boxes.length c0, .slice p1 x_A.log.length c1, .int .i64 x_A.given] 32)) (.cells #[.slice q0 x_B.boxes.length d0, .slice q1 x_B.log.length d1, .int .i64 x_B.given] 32)
  rw [World.size_alloc] at n2
  obtain ⟨X, hX⟩ : ∃ X, (w.alloc (.cells #[.slice p0 x_A.boxes.length c0, .slice p1 x_A.log.length c1, .int .i64 x_A.given] 32)).alloc (.cells #[.slice q0 x_B.boxes.length d0, .slice q1 x_B.log.length d1, .int .i64 x_B.given] 32) = X := ⟨_, rfl⟩
  rw [hX] at hb2 n1 n2
  have HB := Lib.hid (fun W (g : Below X.heap.size X W) => hb2.trans (g.mono hb2.size))
  have HNA := Lib.hid (fun W (g : Below X.heap.size X W) => blk_3s ((g.block w.heap.size (Array.getElem?_eq_some_iff.1 n1).1).trans n1))
  have HNB := Lib.hid (fun W (g : Below X.heap.size X W) => blk_3s ((g.block (w.heap.size + 1) (Array.getElem?_eq_some_iff.1 n2).1).trans n2))
  obtain ⟨a0, a1, a2⟩ := HNA.out X (Below.refl _ _)
  obtain ⟨b0, b1, b2⟩ := HNB.out X (Below.refl _ _)
  clear hr0 hr1 hr2 hr3 hs hbd hs2 hbd2 hb2 n1 n2 hp hq z1 z2 z4 z5 HP HQ
  go_enter Try.func15, Try.ntmps15
  go_wp2_with fail
  refine (CB.out _ (HB.out _ (Below.refl _ _))).mono ?_
  rintro e w2 ⟨rfl, k2⟩
  have H2 := Lib.hid k2
  clear a0 a1 a2 b0 b1 b2 k2 CB
  obtain ⟨a0, a1, a2⟩ := HNA.out w2 H2.out
  obtain ⟨b0, b1, b2⟩ := HNB.out w2 H2.out
  by_cases e1 : x_A.boxes = x_B.boxes
  case neg =>
    have HV := Lib.hid (sto_ne (fun h => e1 h.1))
    rw [decide_eq_false e1]
    clear e1
    go_wp2
    go_ret
    exact ⟨by rw [HV.out]; rfl, HB.out _ H2.out⟩
  rw [decide_eq_true e1]
  have E1 := Lib.hid e1
  clear e1
  go_wp2_with fail
  refine (CE.out _ (HB.out _ H2.out)).mono ?_
  rintro e w3 ⟨rfl, k3⟩
  have H3 := Lib.hid (H2.out.trans (k3.mono H2.out.size))
  clear a0 a1 a2 b0 b1 b2 k3 CE
  obtain ⟨a0, a1, a2⟩ := HNA.out w3 H3.out
  obtain ⟨b0, b1, b2⟩ := HNB.out w3 H3.out
  by_cases e2 : x_A.log = x_B.log
  case neg =>
    have HV := Lib.hid (sto_ne (fun h => e2 h.2.1))
    rw [decide_eq_false e2]
    clear e2
    go_wp2
    go_ret
    exact ⟨by rw [HV.out]; rfl, HB.out _ H3.out⟩
  rw [decide_eq_true e2]
  have E2 := Lib.hid e2
  clear e2
  cases e3 : (x_A.given == x_B.given) with
  | false =>
    have HV := Lib.hid (sto_ne (x := x_A) (y := x_B) (fun h => by rw [h.2.2] at e3; simp at e3))
    go_wp2
    go_ret
    exact ⟨by rw [HV.out] <;> rfl, HB.out _ H3.out⟩
  | true =>
    have HV := Lib.hid (sto_eq E1.out E2.out (by simpa using e3))
    go_wp2
    go_ret
    exact ⟨by rw [HV.out] <;> rfl, HB.out _ H3.out⟩

set_option maxRecDepth 20000 in
set_option maxHeartbeats 6400000 in
theorem specSameStore_c : CtrSameStore 14 (fun _ => True) := by
  intro x_A r0 r1 x_B s0 s1 w _ hr0 _ hr1 _ hs hbd hr2 _ hr3 _ hs2 hbd2
  obtain ⟨⟨z1, z2⟩, z3⟩ := sto_parts hs hbd
  obtain ⟨⟨z4, z5⟩, z6⟩ := sto_parts hs2 hbd2
  have CB := Lib.hid (fun W (g : Below w.heap.size w W) => specSameBoxes_c x_A.boxes r0 x_B.boxes s0 W trivial (LfRd.below g _ _ hr0) z1 z2 (LfRd.below g _ _ hr2) z4 z5)
  obtain ⟨p0, c0, rfl⟩ := LfRd.slice hr0
  obtain ⟨p1, c1, rfl, hp⟩ := ComD.at hr1
  obtain ⟨q0, d0, rfl⟩ := LfRd.slice hr2
  obtain ⟨q1, d1, rfl, hq⟩ := ComD.at hr3
  have HP := Lib.hid hp
  have HQ := Lib.hid hq
  have hb2 : Below w.heap.size w ((w.alloc (.cells #[.slice p0 x_A.boxes.length c0, .slice p1 x_A.log.length c1, .int .i64 x_A.given] 32)).alloc (.cells #[.slice q0 x_B.boxes.length d0, .slice q1 x_B.log.length d1, .int .i64 x_B.given] 32)) := ((Below.refl _ _).alloc (Nat.le_refl _) _).alloc (by simp) _
  have n1 := (Below.heap_alloc (w.alloc (.cells #[.slice p0 x_A.boxes.length c0, .slice p1 x_A.log.length c1, .int .i64 x_A.given] 32)) (.cells #[.slice q0 x_B.boxes.length d0, .slice q1 x_B.log.length d1, .int .i64 x_B.given] 32) w.heap.size (by simp)).trans (heap_alloc_new w (.cells #[.slice p0 x_A.boxes.length c0, .slice p1 x_A.log.length c1, .int .i64 x_A.given] 32))
  have n2 := heap_alloc_new (w.alloc (.cells #[.slice p0 x_A.boxes.length c0, .slice p1 x_A.log.length c1, .int .i64 x_A.given] 32)) (.cells #[.slice q0 x_B.boxes.length d0, .slice q1 x_B.log.length d1, .int .i64 x_B.given] 32)
  rw [World.size_alloc] at n2
  obtain ⟨X, hX⟩ : ∃ X, (w.alloc (.cells #[.slice p0 x_A.boxes.length c0, .slice p1 x_A.log.length c1, .int .i64 x_A.given] 32)).alloc (.cells #[.slice q0 x_B.boxes.length d0, .slice q1 x_B.log.length d1, .int .i64 x_B.given] 32) = X := ⟨_, rfl⟩
  rw [hX] at hb2 n1 n2
  have HB := Lib.hid (fun W (g : Below X.heap.size X W) => hb2.trans (g.mono hb2.size))
  have HNA := Lib.hid (fun W (g : Below X.heap.size X W) => blk_3s ((g.block w.heap.size (Array.getElem?_eq_some_iff.1 n1).1).trans n1))
  have HNB := Lib.hid (fun W (g : Below X.heap.size X W) => blk_3s ((g.block (w.heap.size + 1) (Array.getElem?_eq_some_iff.1 n2).1).trans n2))
  obtain ⟨a0, a1, a2⟩ := HNA.out X (Below.refl _ _)
  obtain ⟨b0, b1, b2⟩ := HNB.out X (Below.refl _ _)
  clear hr0 hr1 hr2 hr3 hs hbd hs2 hbd2 hb2 n1 n2 hp hq z1 z2 z4 z5
  cases e3 : (x_A.given == x_B.given) with
  | false =>
    have g3 := ne_yes' e3
    have HV := Lib.hid (sto_ne (x := x_A) (y := x_B) (fun h => by rw [h.2.2] at e3; simp at e3))
    go_enter Try.func14, Try.ntmps14
    go_wp2
    go_ret
    exact ⟨by rw [HV.out] <;> rfl, HB.out _ (Below.refl _ _)⟩
  | true =>
  have g3 := ne_not' e3
  have E3 := Lib.hid (show x_A.given = x_B.given by simpa using e3)
  by_cases hlen : x_A.log.length = x_B.log.length
  case neg =>
    have h4 : ((x_A.log.length : Int) == (x_B.log.length : Int)) = false := by rw [beq_eq_false_iff_ne]; omega
    have g4 := ne_yes' h4
    have HV := Lib.hid (sto_ne (x := x_A) (y := x_B) (fun h => hlen (by rw [h.2.1])))
    clear hlen
    go_enter Try.func14, Try.ntmps14
    go_wp2
    go_ret
    exact ⟨by rw [HV.out] <;> rfl, HB.out _ (Below.refl _ _)⟩
  have h4 : ((x_A.log.length : Int) == (x_B.log.length : Int)) = true := by rw [hlen]; simp
  have g4 := ne_not' h4
  have HL := Lib.hid hlen
  clear hlen
  go_enter Try.func14, Try.ntmps14
  go_wp2_with fail
  refine (CB.out _ (HB.out _ (Below.refl _ _))).mono ?_
  rintro e w2 ⟨rfl, k2⟩
  have H2 := Lib.hid k2
  clear a0 a1 a2 b0 b1 b2 k2 CB e3 g3 h4 g4 hX
  by_cases e1 : x_A.boxes = x_B.boxes
  case neg =>
    have HV := Lib.hid (sto_ne (fun h => e1 h.1))
    rw [decide_eq_false e1]
    clear e1
    go_wp2
    go_ret
    exact ⟨by rw [HV.out]; rfl, HB.out _ H2.out⟩
  rw [decide_eq_true e1]
  have E1 := Lib.hid e1
  clear e1
  go_wp2
  go_loopw [5] (fun i wr => ∃ k : Nat, k ≤ x_A.log.length ∧ i = .int .i64 k ∧ x_A.log.take k = x_B.log.take k ∧ Below X.heap.size X wr) (fun i _ => x_A.log.length - (intOf i).toNat)
  case atStart => exact ⟨0, by omega, rfl, rfl, H2.out⟩
  case round =>
    obtain ⟨k, hk, rfl, hall, hbr⟩ := hrel
    have Hall := Lib.hid hall
    clear hall
    obtain ⟨a0, a1, a2⟩ := HNA.out wr hbr
    by_cases hlt : k < x_A.log.length
    case neg =>
      obtain rfl : k = x_A.log.length := by omega
      have HV := Lib.hid (sto_eq E1.out (by have := Hall.out; rw [List.take_length, HL.out, List.take_length] at this; exact this) E3.out)
      clear a0 a2
      go_wp2
      go_ret
      exact ⟨by rw [HV.out] <;> rfl, HB.out _ hbr⟩
    obtain ⟨b1, o1, rfl, hb1, hc1⟩ := HP.out.resolve_left (by intro h; rw [h] at hlt; simp at hlt)
    obtain ⟨b2, o2, rfl, hb2, hc2⟩ := HQ.out.resolve_left (by intro h; have hlen := HL.out; rw [h] at hlen; simp at hlen; rw [hlen] at hlt; simp at hlt)
    obtain ⟨x, hx⟩ : ∃ x, x_A.log[k]? = some x := ⟨_, List.getElem?_eq_getElem hlt⟩
    obtain ⟨y, hy⟩ : ∃ y, x_B.log[k]? = some y := ⟨_, List.getElem?_eq_getElem (by have := HL.out; omega)⟩
    obtain ⟨x0, x1, x2, x3, x4, x5⟩ := hc1 k x hx
    obtain ⟨y0, y1, y2, y3, y4, y5⟩ := hc2 k y hy
    have hbd := hbr.drew
    have hbw := HB.out _ hbd
    have e0 : wr.drew.cell? ⟨b1, o1 + k * 6, none⟩ = some (.int .i64 x.kind) := (hbw.cell (p := ⟨b1, o1 + k * 6, none⟩) hb1).trans x0
    have e1 : wr.drew.cell? ⟨b1, o1 + k * 6 + 1, none⟩ = some (.int .i64 x.validity) := (hbw.cell (p := ⟨b1, o1 + k * 6 + 1, none⟩) hb1).trans x1
    have e2 : wr.drew.cell? ⟨b1, o1 + k * 6 + 2, none⟩ = some (.int .i64 x.uid) := (hbw.cell (p := ⟨b1, o1 + k * 6 + 2, none⟩) hb1).trans x2
    have e3 : wr.drew.cell? ⟨b1, o1 + k * 6 + 3, none⟩ = some (.int .i64 x.flags) := (hbw.cell (p := ⟨b1, o1 + k * 6 + 3, none⟩) hb1).trans x3
    have e4 : wr.drew.cell? ⟨b1, o1 + k * 6 + 4, none⟩ = some (sv x.name) := (hbw.cell (p := ⟨b1, o1 + k * 6 + 4, none⟩) hb1).trans x4
    have e5 : wr.drew.cell? ⟨b1, o1 + k * 6 + 5, none⟩ = some (sv x.text) := (hbw.cell (p := ⟨b1, o1 + k * 6 + 5, none⟩) hb1).trans x5
    have f0 : wr.drew.cell? ⟨b2, o2 + k * 6, none⟩ = some (.int .i64 y.kind) := (hbw.cell (p := ⟨b2, o2 + k * 6, none⟩) hb2).trans y0
    have f1 : wr.drew.cell? ⟨b2, o2 + k * 6 + 1, none⟩ = some (.int .i64 y.validity) := (hbw.cell (p := ⟨b2, o2 + k * 6 + 1, none⟩) hb2).trans y1
    have f2 : wr.drew.cell? ⟨b2, o2 + k * 6 + 2, none⟩ = some (.int .i64 y.uid) := (hbw.cell (p := ⟨b2, o2 + k * 6 + 2, none⟩) hb2).trans y2
    have f3 : wr.drew.cell? ⟨b2, o2 + k * 6 + 3, none⟩ = some (.int .i64 y.flags) := (hbw.cell (p := ⟨b2, o2 + k * 6 + 3, none⟩) hb2).trans y3
    have f4 : wr.drew.cell? ⟨b2, o2 + k * 6 + 4, none⟩ = some (sv y.name) := (hbw.cell (p := ⟨b2, o2 + k * 6 + 4, none⟩) hb2).trans y4
    have f5 : wr.drew.cell? ⟨b2, o2 + k * 6 + 5, none⟩ = some (sv y.text) := (hbw.cell (p := ⟨b2, o2 + k * 6 + 5, none⟩) hb2).trans y5
    have r3d := (HNA.out wr.drew hbd).2.1
    have q3d := (HNB.out wr.drew hbd).2.1
    have hlt2 : k < x_B.log.length := by have := HL.out; omega
    have hno := Lib.hid (fun h : x ≠ y => sto_ne (x := x_A) (y := x_B) (fun e => same_not hx hy h e.2.1))
    have hyes := Lib.hid (fun h : x = y => same_take hx (by rw [hy, h]) Hall.out)
    have HBD := Lib.hid hbd
    have HBW := Lib.hid hbw
    clear hc1 hc2 hx hy Hall x0 x1 x2 x3 x4 x5 y0 y1 y2 y3 y4 y5 HP HQ hbr hbd hbw
    cases h0 : (x.kind == y.kind) with
    | false =>
      have HV := Lib.hid (hno.out (by intro e; rw [e] at h0; simp at h0))
      clear hno hyes
      go_wp2
      clear a0 a1 a2
      refine ord_start [(0, true), (1, true), (2, true), (3, true), (4, true), (5, true), (6, true), (7, true), (8, true), (9, true), (10, true)] (fun W => W.cell? ⟨b1, o1 + k * 6, none⟩ = some (.int .i64 x.kind) ∧ W.cell? ⟨b1, o1 + k * 6 + 1, none⟩ = some (.int .i64 x.validity) ∧ W.cell? ⟨b1, o1 + k * 6 + 2, none⟩ = some (.int .i64 x.uid) ∧ W.cell? ⟨b1, o1 + k * 6 + 3, none⟩ = some (.int .i64 x.flags) ∧ W.cell? ⟨b1, o1 + k * 6 + 4, none⟩ = some (sv x.name) ∧ W.cell? ⟨b1, o1 + k * 6 + 5, none⟩ = some (sv x.text) ∧ W.cell? ⟨b2, o2 + k * 6, none⟩ = some (.int .i64 y.kind) ∧ W.cell? ⟨b2, o2 + k * 6 + 1, none⟩ = some (.int .i64 y.validity) ∧ W.cell? ⟨b2, o2 + k * 6 + 2, none⟩ = some (.int .i64 y.uid) ∧ W.cell? ⟨b2, o2 + k * 6 + 3, none⟩ = some (.int .i64 y.flags) ∧ W.cell? ⟨b2, o2 + k * 6 + 4, none⟩ = some (sv y.name) ∧ W.cell? ⟨b2, o2 + k * 6 + 5, none⟩ = some (sv y.text) ∧ W.cell? ⟨w.heap.size, 1, none⟩ = some (.slice (some ⟨b1, o1, none⟩) x_A.log.length c1) ∧ W.cell? ⟨w.heap.size + 1, 1, none⟩ = some (.slice (some ⟨b2, o2, none⟩) x_B.log.length d1)) (by kernel_rfl) (by kernel_rfl) rfl (by kernel_rfl) ?_
      intro ops' hops
      clear hops
      simp only [List.map_cons, List.map_nil, pickOp_zero, pickOp_succ]
      iterate 11 (refine ord_flo ?_ (fun _ _ _ h => h) rfl ?_ ⟨e0, e1, e2, e3, e4, e5, f0, f1, f2, f3, f4, f5, r3d, q3d⟩ ?_; rotate_left; focus (intro W hS; obtain ⟨s0, s1, s2, s3, s4, s5, s6, s7, s8, s9, s10, s11, s12, s13⟩ := hS; go_simp; rfl))
      refine ord_done ?_
      go_simp
      clear e0 e1 e2 e3 e4 e5 f0 f1 f2 f3 f4 f5 r3d q3d
      go_wp2
      go_ret
      exact ⟨by rw [HV.out]; rfl, HBW.out⟩
    | true =>
      cases h1 : (x.validity == y.validity) with
      | false =>
        have HV := Lib.hid (hno.out (by intro e; rw [e] at h1; simp at h1))
        clear hno hyes
        go_wp2
        clear a0 a1 a2
        refine ord_start [(0, true), (1, true), (2, true), (3, true), (4, true), (5, true), (6, true), (7, true), (8, true), (9, true), (10, true)] (fun W => W.cell? ⟨b1, o1 + k * 6, none⟩ = some (.int .i64 x.kind) ∧ W.cell? ⟨b1, o1 + k * 6 + 1, none⟩ = some (.int .i64 x.validity) ∧ W.cell? ⟨b1, o1 + k * 6 + 2, none⟩ = some (.int .i64 x.uid) ∧ W.cell? ⟨b1, o1 + k * 6 + 3, none⟩ = some (.int .i64 x.flags) ∧ W.cell? ⟨b1, o1 + k * 6 + 4, none⟩ = some (sv x.name) ∧ W.cell? ⟨b1, o1 + k * 6 + 5, none⟩ = some (sv x.text) ∧ W.cell? ⟨b2, o2 + k * 6, none⟩ = some (.int .i64 y.kind) ∧ W.cell? ⟨b2, o2 + k * 6 + 1, none⟩ = some (.int .i64 y.validity) ∧ W.cell? ⟨b2, o2 + k * 6 + 2, none⟩ = some (.int .i64 y.uid) ∧ W.cell? ⟨b2, o2 + k * 6 + 3, none⟩ = some (.int .i64 y.flags) ∧ W.cell? ⟨b2, o2 + k * 6 + 4, none⟩ = some (sv y.name) ∧ W.cell? ⟨b2, o2 + k * 6 + 5, none⟩ = some (sv y.text) ∧ W.cell? ⟨w.heap.size, 1, none⟩ = some (.slice (some ⟨b1, o1, none⟩) x_A.log.length c1) ∧ W.cell? ⟨w.heap.size + 1, 1, none⟩ = some (.slice (some ⟨b2, o2, none⟩) x_B.log.length d1)) (by kernel_rfl) (by kernel_rfl) rfl (by kernel_rfl) ?_
        intro ops' hops
        clear hops
        simp only [List.map_cons, List.map_nil, pickOp_zero, pickOp_succ]
        iterate 11 (refine ord_flo ?_ (fun _ _ _ h => h) rfl ?_ ⟨e0, e1, e2, e3, e4, e5, f0, f1, f2, f3, f4, f5, r3d, q3d⟩ ?_; rotate_left; focus (intro W hS; obtain ⟨s0, s1, s2, s3, s4, s5, s6, s7, s8, s9, s10, s11, s12, s13⟩ := hS; go_simp; rfl))
        refine ord_done ?_
        go_simp
        clear e0 e1 e2 e3 e4 e5 f0 f1 f2 f3 f4 f5 r3d q3d
        go_wp2
        go_ret
        exact ⟨by rw [HV.out]; rfl, HBW.out⟩
      | true =>
        cases h2 : (x.uid == y.uid) with
        | false =>
          have HV := Lib.hid (hno.out (by intro e; rw [e] at h2; simp at h2))
          clear hno hyes
          go_wp2
          clear a0 a1 a2
          refine ord_start [(0, true), (1, true), (2, true), (3, true), (4, true), (5, true), (6, true), (7, true), (8, true), (9, true), (10, true)] (fun W => W.cell? ⟨b1, o1 + k * 6, none⟩ = some (.int .i64 x.kind) ∧ W.cell? ⟨b1, o1 + k * 6 + 1, none⟩ = some (.int .i64 x.validity) ∧ W.cell? ⟨b1, o1 + k * 6 + 2, none⟩ = some (.int .i64 x.uid) ∧ W.cell? ⟨b1, o1 + k * 6 + 3, none⟩ = some (.int .i64 x.flags) ∧ W.cell? ⟨b1, o1 + k * 6 + 4, none⟩ = some (sv x.name) ∧ W.cell? ⟨b1, o1 + k * 6 + 5, none⟩ = some (sv x.text) ∧ W.cell? ⟨b2, o2 + k * 6, none⟩ = some (.int .i64 y.kind) ∧ W.cell? ⟨b2, o2 + k * 6 + 1, none⟩ = some (.int .i64 y.validity) ∧ W.cell? ⟨b2, o2 + k * 6 + 2, none⟩ = some (.int .i64 y.uid) ∧ W.cell? ⟨b2, o2 + k * 6 + 3, none⟩ = some (.int .i64 y.flags) ∧ W.cell? ⟨b2, o2 + k * 6 + 4, none⟩ = some (sv y.name) ∧ W.cell? ⟨b2, o2 + k * 6 + 5, none⟩ = some (sv y.text) ∧ W.cell? ⟨w.heap.size, 1, none⟩ = some (.slice (some ⟨b1, o1, none⟩) x_A.log.length c1) ∧ W.cell? ⟨w.heap.size + 1, 1, none⟩ = some (.slice (some ⟨b2, o2, none⟩) x_B.log.length d1)) (by kernel_rfl) (by kernel_rfl) rfl (by kernel_rfl) ?_
          intro ops' hops
          clear hops
          simp only [List.map_cons, List.map_nil, pickOp_zero, pickOp_succ]
          iterate 11 (refine ord_flo ?_ (fun _ _ _ h => h) rfl ?_ ⟨e0, e1, e2, e3, e4, e5, f0, f1, f2, f3, f4, f5, r3d, q3d⟩ ?_; rotate_left; focus (intro W hS; obtain ⟨s0, s1, s2, s3, s4, s5, s6, s7, s8, s9, s10, s11, s12, s13⟩ := hS; go_simp; rfl))
          refine ord_done ?_
          go_simp
          clear e0 e1 e2 e3 e4 e5 f0 f1 f2 f3 f4 f5 r3d q3d
          go_wp2
          go_ret
          exact ⟨by rw [HV.out]; rfl, HBW.out⟩
        | true =>
          cases h3 : (x.flags == y.flags) with
          | false =>
            have HV := Lib.hid (hno.out (by intro e; rw [e] at h3; simp at h3))
            clear hno hyes
            go_wp2
            clear a0 a1 a2
            refine ord_start [(0, true), (1, true), (2, true), (3, true), (4, true), (5, true), (6, true), (7, true), (8, true), (9, true), (10, true)] (fun W => W.cell? ⟨b1, o1 + k * 6, none⟩ = some (.int .i64 x.kind) ∧ W.cell? ⟨b1, o1 + k * 6 + 1, none⟩ = some (.int .i64 x.validity) ∧ W.cell? ⟨b1, o1 + k * 6 + 2, none⟩ = some (.int .i64 x.uid) ∧ W.cell? ⟨b1, o1 + k * 6 + 3, none⟩ = some (.int .i64 x.flags) ∧ W.cell? ⟨b1, o1 + k * 6 + 4, none⟩ = some (sv x.name) ∧ W.cell? ⟨b1, o1 + k * 6 + 5, none⟩ = some (sv x.text) ∧ W.cell? ⟨b2, o2 + k * 6, none⟩ = some (.int .i64 y.kind) ∧ W.cell? ⟨b2, o2 + k * 6 + 1, none⟩ = some (.int .i64 y.validity) ∧ W.cell? ⟨b2, o2 + k * 6 + 2, none⟩ = some (.int .i64 y.uid) ∧ W.cell? ⟨b2, o2 + k * 6 + 3, none⟩ = some (.int .i64 y.flags) ∧ W.cell? ⟨b2, o2 + k * 6 + 4, none⟩ = some (sv y.name) ∧ W.cell? ⟨b2, o2 + k * 6 + 5, none⟩ = some (sv y.text) ∧ W.cell? ⟨w.heap.size, 1, none⟩ = some (.slice (some ⟨b1, o1, none⟩) x_A.log.length c1) ∧ W.cell? ⟨w.heap.size + 1, 1, none⟩ = some (.slice (some ⟨b2, o2, none⟩) x_B.log.length d1)) (by kernel_rfl) (by kernel_rfl) rfl (by kernel_rfl) ?_
            intro ops' hops
            clear hops
            simp only [List.map_cons, List.map_nil, pickOp_zero, pickOp_succ]
            iterate 11 (refine ord_flo ?_ (fun _ _ _ h => h) rfl ?_ ⟨e0, e1, e2, e3, e4, e5, f0, f1, f2, f3, f4, f5, r3d, q3d⟩ ?_; rotate_left; focus (intro W hS; obtain ⟨s0, s1, s2, s3, s4, s5, s6, s7, s8, s9, s10, s11, s12, s13⟩ := hS; go_simp; rfl))
            refine ord_done ?_
            go_simp
            clear e0 e1 e2 e3 e4 e5 f0 f1 f2 f3 f4 f5 r3d q3d
            go_wp2
            go_ret
            exact ⟨by rw [HV.out]; rfl, HBW.out⟩
          | true =>
            cases h4 : (x.name == y.name) with
            | false =>
              have HV := Lib.hid (hno.out (by intro e; rw [e] at h4; simp at h4))
              clear hno hyes
              go_wp2
              clear a0 a1 a2
              refine ord_start [(0, true), (1, true), (2, true), (3, true), (4, true), (5, true), (6, true), (7, true), (8, true), (9, true), (10, true)] (fun W => W.cell? ⟨b1, o1 + k * 6, none⟩ = some (.int .i64 x.kind) ∧ W.cell? ⟨b1, o1 + k * 6 + 1, none⟩ = some (.int .i64 x.validity) ∧ W.cell? ⟨b1, o1 + k * 6 + 2, none⟩ = some (.int .i64 x.uid) ∧ W.cell? ⟨b1, o1 + k * 6 + 3, none⟩ = some (.int .i64 x.flags) ∧ W.cell? ⟨b1, o1 + k * 6 + 4, none⟩ = some (sv x.name) ∧ W.cell? ⟨b1, o1 + k * 6 + 5, none⟩ = some (sv x.text) ∧ W.cell? ⟨b2, o2 + k * 6, none⟩ = some (.int .i64 y.kind) ∧ W.cell? ⟨b2, o2 + k * 6 + 1, none⟩ = some (.int .i64 y.validity) ∧ W.cell? ⟨b2, o2 + k * 6 + 2, none⟩ = some (.int .i64 y.uid) ∧ W.cell? ⟨b2, o2 + k * 6 + 3, none⟩ = some (.int .i64 y.flags) ∧ W.cell? ⟨b2, o2 + k * 6 + 4, none⟩ = some (sv y.name) ∧ W.cell? ⟨b2, o2 + k * 6 + 5, none⟩ = some (sv y.text) ∧ W.cell? ⟨w.heap.size, 1, none⟩ = some (.slice (some ⟨b1, o1, none⟩) x_A.log.length c1) ∧ W.cell? ⟨w.heap.size + 1, 1, none⟩ = some (.slice (some ⟨b2, o2, none⟩) x_B.log.length d1)) (by kernel_rfl) (by kernel_rfl) rfl (by kernel_rfl) ?_
              intro ops' hops
              clear hops
              simp only [List.map_cons, List.map_nil, pickOp_zero, pickOp_succ]
              iterate 11 (refine ord_flo ?_ (fun _ _ _ h => h) rfl ?_ ⟨e0, e1, e2, e3, e4, e5, f0, f1, f2, f3, f4, f5, r3d, q3d⟩ ?_; rotate_left; focus (intro W hS; obtain ⟨s0, s1, s2, s3, s4, s5, s6, s7, s8, s9, s10, s11, s12, s13⟩ := hS; go_simp; rfl))
              refine ord_done ?_
              go_simp
              clear e0 e1 e2 e3 e4 e5 f0 f1 f2 f3 f4 f5 r3d q3d
              go_wp2
              go_ret
              exact ⟨by rw [HV.out]; rfl, HBW.out⟩
            | true =>
              cases h5 : (x.text == y.text) with
              | false =>
                have HV := Lib.hid (hno.out (by intro e; rw [e] at h5; simp at h5))
                clear hno hyes
                go_wp2
                clear a0 a1 a2
                refine ord_start [(0, true), (1, true), (2, true), (3, true), (4, true), (5, true), (6, true), (7, true), (8, true), (9, true), (10, true)] (fun W => W.cell? ⟨b1, o1 + k * 6, none⟩ = some (.int .i64 x.kind) ∧ W.cell? ⟨b1, o1 + k * 6 + 1, none⟩ = some (.int .i64 x.validity) ∧ W.cell? ⟨b1, o1 + k * 6 + 2, none⟩ = some (.int .i64 x.uid) ∧ W.cell? ⟨b1, o1 + k * 6 + 3, none⟩ = some (.int .i64 x.flags) ∧ W.cell? ⟨b1, o1 + k * 6 + 4, none⟩ = some (sv x.name) ∧ W.cell? ⟨b1, o1 + k * 6 + 5, none⟩ = some (sv x.text) ∧ W.cell? ⟨b2, o2 + k * 6, none⟩ = some (.int .i64 y.kind) ∧ W.cell? ⟨b2, o2 + k * 6 + 1, none⟩ = some (.int .i64 y.validity) ∧ W.cell? ⟨b2, o2 + k * 6 + 2, none⟩ = some (.int .i64 y.uid) ∧ W.cell? ⟨b2, o2 + k * 6 + 3, none⟩ = some (.int .i64 y.flags) ∧ W.cell? ⟨b2, o2 + k * 6 + 4, none⟩ = some (sv y.name) ∧ W.cell? ⟨b2, o2 + k * 6 + 5, none⟩ = some (sv y.text) ∧ W.cell? ⟨w.heap.size, 1, none⟩ = some (.slice (some ⟨b1, o1, none⟩) x_A.log.length c1) ∧ W.cell? ⟨w.heap.size + 1, 1, none⟩ = some (.slice (some ⟨b2, o2, none⟩) x_B.log.length d1)) (by kernel_rfl) (by kernel_rfl) rfl (by kernel_rfl) ?_
                intro ops' hops
                clear hops
                simp only [List.map_cons, List.map_nil, pickOp_zero, pickOp_succ]
                iterate 11 (refine ord_flo ?_ (fun _ _ _ h => h) rfl ?_ ⟨e0, e1, e2, e3, e4, e5, f0, f1, f2, f3, f4, f5, r3d, q3d⟩ ?_; rotate_left; focus (intro W hS; obtain ⟨s0, s1, s2, s3, s4, s5, s6, s7, s8, s9, s10, s11, s12, s13⟩ := hS; go_simp; rfl))
                refine ord_done ?_
                go_simp
                clear e0 e1 e2 e3 e4 e5 f0 f1 f2 f3 f4 f5 r3d q3d
                go_wp2
                go_ret
                exact ⟨by rw [HV.out]; rfl, HBW.out⟩
              | true =>
                have HN := Lib.hid (hyes.out (by cases x; cases y; simp only [beq_iff_eq] at h0 h1 h2 h3 h4 h5; rw [h0, h1, h2, h3, h4, h5]))
                clear hno hyes
                go_wp2
                clear a0 a1 a2
                refine ord_start [(0, true), (1, true), (2, true), (3, true), (4, true), (5, true), (6, true), (7, true), (8, true), (9, true), (10, true)] (fun W => W.cell? ⟨b1, o1 + k * 6, none⟩ = some (.int .i64 x.kind) ∧ W.cell? ⟨b1, o1 + k * 6 + 1, none⟩ = some (.int .i64 x.validity) ∧ W.cell? ⟨b1, o1 + k * 6 + 2, none⟩ = some (.int .i64 x.uid) ∧ W.cell? ⟨b1, o1 + k * 6 + 3, none⟩ = some (.int .i64 x.flags) ∧ W.cell? ⟨b1, o1 + k * 6 + 4, none⟩ = some (sv x.name) ∧ W.cell? ⟨b1, o1 + k * 6 + 5, none⟩ = some (sv x.text) ∧ W.cell? ⟨b2, o2 + k * 6, none⟩ = some (.int .i64 y.kind) ∧ W.cell? ⟨b2, o2 + k * 6 + 1, none⟩ = some (.int .i64 y.validity) ∧ W.cell? ⟨b2, o2 + k * 6 + 2, none⟩ = some (.int .i64 y.uid) ∧ W.cell? ⟨b2, o2 + k * 6 + 3, none⟩ = some (.int .i64 y.flags) ∧ W.cell? ⟨b2, o2 + k * 6 + 4, none⟩ = some (sv y.name) ∧ W.cell? ⟨b2, o2 + k * 6 + 5, none⟩ = some (sv y.text) ∧ W.cell? ⟨w.heap.size, 1, none⟩ = some (.slice (some ⟨b1, o1, none⟩) x_A.log.length c1) ∧ W.cell? ⟨w.heap.size + 1, 1, none⟩ = some (.slice (some ⟨b2, o2, none⟩) x_B.log.length d1)) (by kernel_rfl) (by kernel_rfl) rfl (by kernel_rfl) ?_
                intro ops' hops
                clear hops
                simp only [List.map_cons, List.map_nil, pickOp_zero, pickOp_succ]
                iterate 11 (refine ord_flo ?_ (fun _ _ _ h => h) rfl ?_ ⟨e0, e1, e2, e3, e4, e5, f0, f1, f2, f3, f4, f5, r3d, q3d⟩ ?_; rotate_left; focus (intro W hS; obtain ⟨s0, s1, s2, s3, s4, s5, s6, s7, s8, s9, s10, s11, s12, s13⟩ := hS; go_simp; rfl))
                refine ord_done ?_
                go_simp
                clear e0 e1 e2 e3 e4 e5 f0 f1 f2 f3 f4 f5 r3d q3d
                go_wp2
                go_roundw
                case rel => exact ⟨k + 1, by omega, by go_num, HN.out, HBD.out⟩
                case measure => simp [intOf]; omega

end Go.Proofs.Ytbfgdbpfecffcaa
