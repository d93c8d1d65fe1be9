/-
  Tg: StoK (what the claim needs of them).
-/
import Derived.Deep.DeepCutAuto
import Derived.Handy
import Derived.Test.YtbfgdbpfecffcaaGreatDoorRows
import Derived.WalkKit
import Derived.WalkSpells
import Derived.WalkLawsBesides
import Derived.Laws.IdiomStrings
import Derived.Lib.Hide
import Derived.Deep.AppendLies
import Derived.OrdersHeld
import Derived.Lib.ItoaNum
import Derived.Lib.ItoaMem
import Derived.Lib.AppendStr
import Derived.Lib.ItoaLen
import Derived.Lib.Strings
import Derived.Lib.Bytealg
import Derived.Lib.OthersKept
import Derived.Laws.RangeAny
import Derived.Laws.BitsAllLaws
import Derived.Laws.BitsLemmas
import Derived.IntWalk
import Derived.Lib.Join
import Derived.Deep.Strs
import Derived.Test.YtbfgdbpfecffcaaGreatDoorProg
import Derived.Laws.Tables
import Derived.Deep.LoopGhost
import Derived.Test.YtbfgdbpfecffcaaGreatDoorSb
import Derived.Test.YtbfgdbpfecffcaaGreatDoorSc
import Derived.Test.YtbfgdbpfecffcaaGreatDoorSd
import Derived.Test.YtbfgdbpfecffcaaGreatDoorSe
import Derived.Test.YtbfgdbpfecffcaaGreatDoorSf
import Derived.Test.YtbfgdbpfecffcaaGreatDoorSi
import Derived.Test.YtbfgdbpfecffcaaGreatDoorSm
import Derived.Test.YtbfgdbpfecffcaaGreatDoorSq
import Derived.Test.YtbfgdbpfecffcaaGreatDoorSr
import Derived.Test.YtbfgdbpfecffcaaGreatDoorTb
import Derived.Test.YtbfgdbpfecffcaaGreatDoorTc
import Derived.Test.YtbfgdbpfecffcaaGreatDoorTd
import Derived.Test.YtbfgdbpfecffcaaGreatDoorTe

namespace Go.Proofs.YtbfgdbpfecffcaaGreatDoor
open Go.RowKit

def madeAt (lg : List ComD) (a : ComD) (k : Nat) : Bool := (List.range k).all fun j => match lg[j]? with
  | none => true
  | some b => !(a.kind == 1 && b.kind == 1 && a.validity == b.validity)
theorem madeStep_at {lg : List ComD} {i : Nat} {a : ComD} (h : lg[i]? = some a) : madeStep lg i = madeAt lg a i := by unfold madeStep madeAt; rw [h]; rfl
theorem madeAt_step {lg : List ComD} {a b : ComD} {k : Nat} (h : madeAt lg a k = true) (hb : lg[k]? = some b) (hc : (a.kind == 1 && b.kind == 1 && a.validity == b.validity) = false) : madeAt lg a (k + 1) = true := by
  unfold madeAt at h ⊢
  rw [List.range_succ, List.all_append, h]
  simp only [List.all_cons, List.all_nil, Bool.and_true, hb, hc, Bool.not_false]
theorem made_hit {lg : List ComD} {a b : ComD} {i k : Nat} (ha : lg[i]? = some a) (hb : lg[k]? = some b) (hk : k < i) (hc : (a.kind == 1 && b.kind == 1 && a.validity == b.validity) = true) : madeB lg = false := by
  unfold madeB
  rw [List.all_eq_false]
  refine ⟨i, List.mem_range.2 (List.getElem?_eq_some_iff.1 ha).1, ?_⟩
  rw [madeStep_at ha]
  unfold madeAt
  rw [Bool.not_eq_true, List.all_eq_false]
  refine ⟨k, List.mem_range.2 hk, ?_⟩
  rw [hb]
  simp only [hc]
  simp
theorem made_next {lg : List ComD} {a : ComD} {i : Nat} (h : (List.range i).all (madeStep lg) = true) (ha : lg[i]? = some a) (hm : madeAt lg a i = true) : (List.range (i + 1)).all (madeStep lg) = true := by
  rw [List.range_succ, List.all_append, h]
  simp only [List.all_cons, List.all_nil, Bool.and_true, madeStep_at ha, hm]
theorem store_n1 {x : StoD} (h : ¬ (x.log.length : Int) ≤ 300) : storeB x = false := by unfold storeB; rw [decide_eq_false h]; rfl
theorem store_n2 {x : StoD} (h : (decide (0 ≤ x.given) && decide (x.given ≤ 999999999)) = false) : storeB x = false := by unfold storeB; rw [h]; simp
theorem store_n3 {x : StoD} (h : madeB x.log = false) : storeB x = false := by unfold storeB; rw [h]; simp
theorem store_eq {x : StoD} (h1 : (x.log.length : Int) ≤ 300) (h2 : (decide (0 ≤ x.given) && decide (x.given ≤ 999999999)) = true) (h3 : madeB x.log = true) : storeB x = (((allL [] x.log).2 && givenB x.given x.log) && decide ((allL [] x.log).1 = x.boxes)) := by unfold storeB; rw [decide_eq_true h1, h2, h3]; simp
theorem given_take {g : Int} {lg : List ComD} {k : Nat} {a : ComD} (ha : lg[k]? = some a) : givenB g (lg.take (k + 1)) = (givenB g (lg.take k) && (a.kind != 1 || decide (a.validity ≤ g))) := by
  unfold givenB
  rw [List.take_add_one, ha, List.all_append]
  simp
theorem all_right0 (lg : List ComD) : boxesB (allL [] lg).1 = true := all_right _ rfl

set_option maxRecDepth 20000 in
set_option maxHeartbeats 6400000 in
theorem l11Made_any (l : List ComD) (v : Value) (w : World) (hr : LfRd w (commitsLf l) v) (hl : l.length ≤ 1048576) :
    Calls Tryz.prog 87 #[v] w fun e w' => e = .returned (.bool (madeB l)) ∧ Below w.heap.size w w' := by
  obtain ⟨p, c, rfl, hp⟩ := ComD.at hr
  have HP := Lib.hid hp
  clear hp hr
  go_enter Tryz.func87, Tryz.ntmps87
  go_wp2
  go_loopg [3] l.length (fun gi i wr => ∃ k : Nat, k ≤ l.length ∧ gi = l.length - k ∧ i = .int .i64 k ∧ (List.range k).all (madeStep l) = true ∧ Below w.heap.size w wr)
  case atStart => exact ⟨0, Nat.zero_le _, rfl, rfl, rfl, Below.refl _ _⟩
  case round =>
    obtain ⟨i, hi, rfl, rfl, hall, hbr⟩ := hrel
    have HALL := Lib.hid hall
    clear hall
    by_cases hlt : i < l.length
    case neg =>
      obtain rfl : i = l.length := by omega
      have HV := Lib.hid (show madeB l = true from HALL.out)
      go_wp2
      go_ret
      exact ⟨by rw [HV.out]; rfl, hbr⟩
    obtain ⟨b, off, rfl, hb1, hc⟩ := HP.out.resolve_left (by intro h; subst h; simp at hlt)
    obtain ⟨a, ha⟩ : ∃ a, l[i]? = some a := ⟨_, List.getElem?_eq_getElem hlt⟩
    have HC := Lib.hid hc
    have HA := Lib.hid ha
    clear hc ha
    go_wp2
    go_loopg [4] i (fun gj j wx => ∃ k : Nat, k ≤ i ∧ gj = i - k ∧ j = .int .i64 k ∧ madeAt l a k = true ∧ Below w.heap.size w wx)
    case atStart => exact ⟨0, Nat.zero_le _, rfl, rfl, rfl, hbr⟩
    case round =>
      obtain ⟨k, hk, rfl, rfl, hm, hbx⟩ := hrel
      have HM := Lib.hid hm
      clear hm hbr
      by_cases hki : k < i
      case neg =>
        obtain rfl : k = i := by omega
        have HN := Lib.hid (made_next HALL.out HA.out HM.out)
        go_wp2
        go_roundg (l.length - (k + 1))
        case rel => exact ⟨k + 1, by omega, rfl, by go_num, HN.out, hbx⟩
        case measure => omega
      obtain ⟨y, hy⟩ : ∃ y, l[k]? = some y := ⟨_, List.getElem?_eq_getElem (by omega)⟩
      obtain ⟨x0, x1, -⟩ := HC.out i a HA.out
      obtain ⟨z0, z1, -⟩ := HC.out k y hy
      have hbd := hbx.drew
      have e0 : wr.drew.cell? ⟨b, off + i * 6, none⟩ = some (.int .i64 a.kind) := (hbd.cell (p := ⟨b, off + i * 6, none⟩) hb1).trans x0
      have e1 : wr.drew.cell? ⟨b, off + i * 6 + 1, none⟩ = some (.int .i64 a.validity) := (hbd.cell (p := ⟨b, off + i * 6 + 1, none⟩) hb1).trans x1
      have f0 : wr.drew.cell? ⟨b, off + k * 6, none⟩ = some (.int .i64 y.kind) := (hbd.cell (p := ⟨b, off + k * 6, none⟩) hb1).trans z0
      have f1 : wr.drew.cell? ⟨b, off + k * 6 + 1, none⟩ = some (.int .i64 y.validity) := (hbd.cell (p := ⟨b, off + k * 6 + 1, none⟩) hb1).trans z1
      have HY := Lib.hid hy
      have HBD := Lib.hid hbd
      clear x0 x1 z0 z1 hy hbx hbd
      go_wp2
      cases t1 : (a.kind == 1) with
      | false =>
        have HCC := Lib.hid (show (a.kind == 1 && y.kind == 1 && a.validity == y.validity) = false by rw [t1]; rfl)
        refine ord_start [(0, true), (1, true), (2, true), (3, true), (4, true), (5, true), (6, true), (7, true), (8, true), (9, true), (10, true), (11, true), (12, true), (13, true), (14, true), (15, true), (16, true), (17, true), (18, true), (19, true), (20, true), (21, true), (22, true), (23, true), (24, true), (25, true), (26, true)] (fun W => W.cell? ⟨b, off + i * 6, none⟩ = some (.int .i64 a.kind) ∧ W.cell? ⟨b, off + i * 6 + 1, none⟩ = some (.int .i64 a.validity) ∧ W.cell? ⟨b, off + k * 6, none⟩ = some (.int .i64 y.kind) ∧ W.cell? ⟨b, off + k * 6 + 1, none⟩ = some (.int .i64 y.validity)) (by kernel_rfl) (by kernel_rfl) rfl (by kernel_rfl) ?_
        intro ops' hops
        simp only [List.map_cons, List.map_nil, pickOp_zero, pickOp_succ]
        iterate 2 (refine ord_flo ?_ (fun _ _ _ h => h) rfl ?_ ⟨e0, e1, f0, f1⟩ ?_; rotate_left; focus (intro W hS; obtain ⟨s0, s1, s2, s3⟩ := hS; go_simp; rfl))
        refine ord_flo (.pointer (some ⟨b, off + i * 6, none⟩)) (fun _ _ _ h => h) (by rw [hops.out]; kernel_rfl) ?_ ⟨e0, e1, f0, f1⟩ ?_
        · intro W hS
          obtain ⟨s0, s1, s2, s3⟩ := hS
          go_simp <;> omega
        iterate 4 (refine ord_flo ?_ (fun _ _ _ h => h) rfl ?_ ⟨e0, e1, f0, f1⟩ ?_; rotate_left; focus (intro W hS; obtain ⟨s0, s1, s2, s3⟩ := hS; go_simp; rfl))
        iterate 6 (refine ord_not (fun _ _ _ h => h) (by rw [hops.out]; kernel_rfl) ⟨e0, e1, f0, f1⟩ ?_)
        iterate 2 (refine ord_flo ?_ (fun _ _ _ h => h) rfl ?_ ⟨e0, e1, f0, f1⟩ ?_; rotate_left; focus (intro W hS; obtain ⟨s0, s1, s2, s3⟩ := hS; go_simp; rfl))
        iterate 11 (refine ord_not (fun _ _ _ h => h) (by rw [hops.out]; kernel_rfl) ⟨e0, e1, f0, f1⟩ ?_)
        iterate 1 (refine ord_flo ?_ (fun _ _ _ h => h) rfl ?_ ⟨e0, e1, f0, f1⟩ ?_; rotate_left; focus (intro W hS; obtain ⟨s0, s1, s2, s3⟩ := hS; go_simp; rfl))
        refine ord_done ?_
        go_simp
        clear e0 e1 f0 f1
        have HN := Lib.hid (madeAt_step HM.out HY.out HCC.out)
        go_wp2
        go_roundg (i - (k + 1))
        case rel => exact ⟨k + 1, by omega, rfl, by go_num, HN.out, HBD.out⟩
        case measure => omega
      | true =>
        cases t2 : (y.kind == 1) with
        | false =>
          have HCC := Lib.hid (show (a.kind == 1 && y.kind == 1 && a.validity == y.validity) = false by rw [t1, t2]; rfl)
          refine ord_start [(0, true), (1, true), (2, true), (3, true), (4, true), (5, true), (6, true), (7, true), (8, true), (9, true), (10, true), (11, true), (12, true), (13, true), (14, true), (15, true), (16, true), (17, true), (18, true), (19, true), (20, true), (21, true), (22, true), (23, true), (24, true), (25, true), (26, true)] (fun W => W.cell? ⟨b, off + i * 6, none⟩ = some (.int .i64 a.kind) ∧ W.cell? ⟨b, off + i * 6 + 1, none⟩ = some (.int .i64 a.validity) ∧ W.cell? ⟨b, off + k * 6, none⟩ = some (.int .i64 y.kind) ∧ W.cell? ⟨b, off + k * 6 + 1, none⟩ = some (.int .i64 y.validity)) (by kernel_rfl) (by kernel_rfl) rfl (by kernel_rfl) ?_
          intro ops' hops
          simp only [List.map_cons, List.map_nil, pickOp_zero, pickOp_succ]
          iterate 2 (refine ord_flo ?_ (fun _ _ _ h => h) rfl ?_ ⟨e0, e1, f0, f1⟩ ?_; rotate_left; focus (intro W hS; obtain ⟨s0, s1, s2, s3⟩ := hS; go_simp; rfl))
          refine ord_flo (.pointer (some ⟨b, off + i * 6, none⟩)) (fun _ _ _ h => h) (by rw [hops.out]; kernel_rfl) ?_ ⟨e0, e1, f0, f1⟩ ?_
          · intro W hS
            obtain ⟨s0, s1, s2, s3⟩ := hS
            go_simp <;> omega
          iterate 4 (refine ord_flo ?_ (fun _ _ _ h => h) rfl ?_ ⟨e0, e1, f0, f1⟩ ?_; rotate_left; focus (intro W hS; obtain ⟨s0, s1, s2, s3⟩ := hS; go_simp; rfl))
          iterate 2 (refine ord_flo ?_ (fun _ _ _ h => h) (by rw [hops.out]; kernel_rfl) ?_ ⟨e0, e1, f0, f1⟩ ?_; rotate_left; focus (intro W hS; obtain ⟨s0, s1, s2, s3⟩ := hS; go_simp; rfl))
          refine ord_flo (.pointer (some ⟨b, off + k * 6, none⟩)) (fun _ _ _ h => h) (by rw [hops.out]; kernel_rfl) ?_ ⟨e0, e1, f0, f1⟩ ?_
          · intro W hS
            obtain ⟨s0, s1, s2, s3⟩ := hS
            go_simp <;> omega
          iterate 3 (refine ord_flo ?_ (fun _ _ _ h => h) (by rw [hops.out]; kernel_rfl) ?_ ⟨e0, e1, f0, f1⟩ ?_; rotate_left; focus (intro W hS; obtain ⟨s0, s1, s2, s3⟩ := hS; go_simp; rfl))
          iterate 2 (refine ord_flo ?_ (fun _ _ _ h => h) rfl ?_ ⟨e0, e1, f0, f1⟩ ?_; rotate_left; focus (intro W hS; obtain ⟨s0, s1, s2, s3⟩ := hS; go_simp; rfl))
          iterate 11 (refine ord_not (fun _ _ _ h => h) (by rw [hops.out]; kernel_rfl) ⟨e0, e1, f0, f1⟩ ?_)
          iterate 1 (refine ord_flo ?_ (fun _ _ _ h => h) rfl ?_ ⟨e0, e1, f0, f1⟩ ?_; rotate_left; focus (intro W hS; obtain ⟨s0, s1, s2, s3⟩ := hS; go_simp; rfl))
          refine ord_done ?_
          go_simp
          clear e0 e1 f0 f1
          have HN := Lib.hid (madeAt_step HM.out HY.out HCC.out)
          go_wp2
          go_roundg (i - (k + 1))
          case rel => exact ⟨k + 1, by omega, rfl, by go_num, HN.out, HBD.out⟩
          case measure => omega
        | true =>
          cases t3 : (a.validity == y.validity) with
          | false =>
            have HCC := Lib.hid (show (a.kind == 1 && y.kind == 1 && a.validity == y.validity) = false by rw [t1, t2, t3]; rfl)
            refine ord_start [(0, true), (1, true), (2, true), (3, true), (4, true), (5, true), (6, true), (7, true), (8, true), (9, true), (10, true), (11, true), (12, true), (13, true), (14, true), (15, true), (16, true), (17, true), (18, true), (19, true), (20, true), (21, true), (22, true), (23, true), (24, true), (25, true), (26, true)] (fun W => W.cell? ⟨b, off + i * 6, none⟩ = some (.int .i64 a.kind) ∧ W.cell? ⟨b, off + i * 6 + 1, none⟩ = some (.int .i64 a.validity) ∧ W.cell? ⟨b, off + k * 6, none⟩ = some (.int .i64 y.kind) ∧ W.cell? ⟨b, off + k * 6 + 1, none⟩ = some (.int .i64 y.validity)) (by kernel_rfl) (by kernel_rfl) rfl (by kernel_rfl) ?_
            intro ops' hops
            simp only [List.map_cons, List.map_nil, pickOp_zero, pickOp_succ]
            iterate 2 (refine ord_flo ?_ (fun _ _ _ h => h) rfl ?_ ⟨e0, e1, f0, f1⟩ ?_; rotate_left; focus (intro W hS; obtain ⟨s0, s1, s2, s3⟩ := hS; go_simp; rfl))
            refine ord_flo (.pointer (some ⟨b, off + i * 6, none⟩)) (fun _ _ _ h => h) (by rw [hops.out]; kernel_rfl) ?_ ⟨e0, e1, f0, f1⟩ ?_
            · intro W hS
              obtain ⟨s0, s1, s2, s3⟩ := hS
              go_simp <;> omega
            iterate 4 (refine ord_flo ?_ (fun _ _ _ h => h) rfl ?_ ⟨e0, e1, f0, f1⟩ ?_; rotate_left; focus (intro W hS; obtain ⟨s0, s1, s2, s3⟩ := hS; go_simp; rfl))
            iterate 2 (refine ord_flo ?_ (fun _ _ _ h => h) (by rw [hops.out]; kernel_rfl) ?_ ⟨e0, e1, f0, f1⟩ ?_; rotate_left; focus (intro W hS; obtain ⟨s0, s1, s2, s3⟩ := hS; go_simp; rfl))
            refine ord_flo (.pointer (some ⟨b, off + k * 6, none⟩)) (fun _ _ _ h => h) (by rw [hops.out]; kernel_rfl) ?_ ⟨e0, e1, f0, f1⟩ ?_
            · intro W hS
              obtain ⟨s0, s1, s2, s3⟩ := hS
              go_simp <;> omega
            iterate 3 (refine ord_flo ?_ (fun _ _ _ h => h) (by rw [hops.out]; kernel_rfl) ?_ ⟨e0, e1, f0, f1⟩ ?_; rotate_left; focus (intro W hS; obtain ⟨s0, s1, s2, s3⟩ := hS; go_simp; rfl))
            iterate 2 (refine ord_flo ?_ (fun _ _ _ h => h) rfl ?_ ⟨e0, e1, f0, f1⟩ ?_; rotate_left; focus (intro W hS; obtain ⟨s0, s1, s2, s3⟩ := hS; go_simp; rfl))
            iterate 2 (refine ord_flo ?_ (fun _ _ _ h => h) (by rw [hops.out]; kernel_rfl) ?_ ⟨e0, e1, f0, f1⟩ ?_; rotate_left; focus (intro W hS; obtain ⟨s0, s1, s2, s3⟩ := hS; go_simp; rfl))
            refine ord_flo (.pointer (some ⟨b, off + i * 6, none⟩)) (fun _ _ _ h => h) (by rw [hops.out]; kernel_rfl) ?_ ⟨e0, e1, f0, f1⟩ ?_
            · intro W hS
              obtain ⟨s0, s1, s2, s3⟩ := hS
              go_simp <;> omega
            iterate 4 (refine ord_flo ?_ (fun _ _ _ h => h) (by rw [hops.out]; kernel_rfl) ?_ ⟨e0, e1, f0, f1⟩ ?_; rotate_left; focus (intro W hS; obtain ⟨s0, s1, s2, s3⟩ := hS; go_simp; rfl))
            refine ord_flo (.pointer (some ⟨b, off + k * 6, none⟩)) (fun _ _ _ h => h) (by rw [hops.out]; kernel_rfl) ?_ ⟨e0, e1, f0, f1⟩ ?_
            · intro W hS
              obtain ⟨s0, s1, s2, s3⟩ := hS
              go_simp <;> omega
            iterate 3 (refine ord_flo ?_ (fun _ _ _ h => h) (by rw [hops.out]; kernel_rfl) ?_ ⟨e0, e1, f0, f1⟩ ?_; rotate_left; focus (intro W hS; obtain ⟨s0, s1, s2, s3⟩ := hS; go_simp; rfl))
            iterate 1 (refine ord_flo ?_ (fun _ _ _ h => h) rfl ?_ ⟨e0, e1, f0, f1⟩ ?_; rotate_left; focus (intro W hS; obtain ⟨s0, s1, s2, s3⟩ := hS; go_simp; rfl))
            refine ord_done ?_
            go_simp
            clear e0 e1 f0 f1
            have HN := Lib.hid (madeAt_step HM.out HY.out HCC.out)
            go_wp2
            go_roundg (i - (k + 1))
            case rel => exact ⟨k + 1, by omega, rfl, by go_num, HN.out, HBD.out⟩
            case measure => omega
          | true =>
            refine ord_start [(0, true), (1, true), (2, true), (3, true), (4, true), (5, true), (6, true), (7, true), (8, true), (9, true), (10, true), (11, true), (12, true), (13, true), (14, true), (15, true), (16, true), (17, true), (18, true), (19, true), (20, true), (21, true), (22, true), (23, true), (24, true), (25, true), (26, true)] (fun W => W.cell? ⟨b, off + i * 6, none⟩ = some (.int .i64 a.kind) ∧ W.cell? ⟨b, off + i * 6 + 1, none⟩ = some (.int .i64 a.validity) ∧ W.cell? ⟨b, off + k * 6, none⟩ = some (.int .i64 y.kind) ∧ W.cell? ⟨b, off + k * 6 + 1, none⟩ = some (.int .i64 y.validity)) (by kernel_rfl) (by kernel_rfl) rfl (by kernel_rfl) ?_
            intro ops' hops
            simp only [List.map_cons, List.map_nil, pickOp_zero, pickOp_succ]
            iterate 2 (refine ord_flo ?_ (fun _ _ _ h => h) rfl ?_ ⟨e0, e1, f0, f1⟩ ?_; rotate_left; focus (intro W hS; obtain ⟨s0, s1, s2, s3⟩ := hS; go_simp; rfl))
            refine ord_flo (.pointer (some ⟨b, off + i * 6, none⟩)) (fun _ _ _ h => h) (by rw [hops.out]; kernel_rfl) ?_ ⟨e0, e1, f0, f1⟩ ?_
            · intro W hS
              obtain ⟨s0, s1, s2, s3⟩ := hS
              go_simp <;> omega
            iterate 4 (refine ord_flo ?_ (fun _ _ _ h => h) rfl ?_ ⟨e0, e1, f0, f1⟩ ?_; rotate_left; focus (intro W hS; obtain ⟨s0, s1, s2, s3⟩ := hS; go_simp; rfl))
            iterate 2 (refine ord_flo ?_ (fun _ _ _ h => h) (by rw [hops.out]; kernel_rfl) ?_ ⟨e0, e1, f0, f1⟩ ?_; rotate_left; focus (intro W hS; obtain ⟨s0, s1, s2, s3⟩ := hS; go_simp; rfl))
            refine ord_flo (.pointer (some ⟨b, off + k * 6, none⟩)) (fun _ _ _ h => h) (by rw [hops.out]; kernel_rfl) ?_ ⟨e0, e1, f0, f1⟩ ?_
            · intro W hS
              obtain ⟨s0, s1, s2, s3⟩ := hS
              go_simp <;> omega
            iterate 3 (refine ord_flo ?_ (fun _ _ _ h => h) (by rw [hops.out]; kernel_rfl) ?_ ⟨e0, e1, f0, f1⟩ ?_; rotate_left; focus (intro W hS; obtain ⟨s0, s1, s2, s3⟩ := hS; go_simp; rfl))
            iterate 2 (refine ord_flo ?_ (fun _ _ _ h => h) rfl ?_ ⟨e0, e1, f0, f1⟩ ?_; rotate_left; focus (intro W hS; obtain ⟨s0, s1, s2, s3⟩ := hS; go_simp; rfl))
            iterate 2 (refine ord_flo ?_ (fun _ _ _ h => h) (by rw [hops.out]; kernel_rfl) ?_ ⟨e0, e1, f0, f1⟩ ?_; rotate_left; focus (intro W hS; obtain ⟨s0, s1, s2, s3⟩ := hS; go_simp; rfl))
            refine ord_flo (.pointer (some ⟨b, off + i * 6, none⟩)) (fun _ _ _ h => h) (by rw [hops.out]; kernel_rfl) ?_ ⟨e0, e1, f0, f1⟩ ?_
            · intro W hS
              obtain ⟨s0, s1, s2, s3⟩ := hS
              go_simp <;> omega
            iterate 4 (refine ord_flo ?_ (fun _ _ _ h => h) (by rw [hops.out]; kernel_rfl) ?_ ⟨e0, e1, f0, f1⟩ ?_; rotate_left; focus (intro W hS; obtain ⟨s0, s1, s2, s3⟩ := hS; go_simp; rfl))
            refine ord_flo (.pointer (some ⟨b, off + k * 6, none⟩)) (fun _ _ _ h => h) (by rw [hops.out]; kernel_rfl) ?_ ⟨e0, e1, f0, f1⟩ ?_
            · intro W hS
              obtain ⟨s0, s1, s2, s3⟩ := hS
              go_simp <;> omega
            iterate 3 (refine ord_flo ?_ (fun _ _ _ h => h) (by rw [hops.out]; kernel_rfl) ?_ ⟨e0, e1, f0, f1⟩ ?_; rotate_left; focus (intro W hS; obtain ⟨s0, s1, s2, s3⟩ := hS; go_simp; rfl))
            iterate 1 (refine ord_flo ?_ (fun _ _ _ h => h) rfl ?_ ⟨e0, e1, f0, f1⟩ ?_; rotate_left; focus (intro W hS; obtain ⟨s0, s1, s2, s3⟩ := hS; go_simp; rfl))
            refine ord_done ?_
            go_simp
            clear e0 e1 f0 f1
            have HV := Lib.hid (made_hit HA.out HY.out hki (by rw [t1, t2, t3]; rfl))
            go_wp2
            go_ret
            exact ⟨by rw [HV.out]; rfl, HBD.out⟩

set_option maxRecDepth 20000 in
set_option maxHeartbeats 6400000 in
theorem specStoreOk_c : CtrStoreOk 33 (fun _ => True) := by
  intro x r0 r1 w _ hr0 hcap0 hr1 hcap hs hbd
  obtain ⟨⟨hs0, hbd0⟩, ⟨hs1, hbd1⟩, hgv⟩ := sto_small hs hbd
  obtain ⟨hlg, _⟩ := coms_small hs1 hbd1
  have CI := Lib.hid (fun W => l1In_any x.given 0 999999999 W)
  have CM := Lib.hid (fun W (g : Below w.heap.size w W) => l11Made_any x.log r1 W (LfRd.below g _ _ hr1) hlg)
  have CA := Lib.hid (fun W (g : Below w.heap.size w W) => specAppliedAll_c [] (.slice none 0 0) x.log r1 W trivial (boxs_nil W) cap_nil (by decide) ⟨by decide, trivial⟩ (LfRd.below g _ _ hr1) hcap hs1 hbd1)
  have CS := Lib.hid (fun (W : World) (z : Value) (g : Below w.heap.size w W) (h : LfRd W (boxsLf (allL [] x.log).1) z) => specSameBoxes_c (allL [] x.log).1 z x.boxes r0 W trivial h (right_small (all_right0 x.log)).1 (right_small (all_right0 x.log)).2 (LfRd.below g _ _ hr0) hs0 hbd0)
  obtain ⟨p0, c0, rfl⟩ := LfRd.slice hr0
  obtain ⟨p1, c1, rfl, hp⟩ := ComD.at hr1
  have HP := Lib.hid hp
  have hb1 : Below w.heap.size w (w.alloc (.cells #[.slice p0 x.boxes.length c0, .slice p1 x.log.length c1, .int .i64 x.given] 46)) := (Below.refl _ _).alloc (Nat.le_refl _) _
  have n1 := heap_alloc_new w (.cells #[.slice p0 x.boxes.length c0, .slice p1 x.log.length c1, .int .i64 x.given] 46)
  obtain ⟨X, hX⟩ : ∃ X, w.alloc (.cells #[.slice p0 x.boxes.length c0, .slice p1 x.log.length c1, .int .i64 x.given] 46) = X := ⟨_, rfl⟩
  rw [hX] at hb1 n1
  have HB := Lib.hid (fun W (g : Below X.heap.size X W) => hb1.trans (g.mono hb1.size))
  have HN := Lib.hid (fun W (g : Below X.heap.size X W) => (blk_3c ((g.block w.heap.size (Array.getElem?_eq_some_iff.1 n1).1).trans n1)).1)
  obtain ⟨a0, a1, a2⟩ := HN.out X (Below.refl _ _)
  clear hr0 hcap0 hr1 hcap hs hbd hs0 hbd0 hs1 hbd1 hb1 n1 hp
  by_cases hl3 : (x.log.length : Int) ≤ 300
  case neg =>
    have HV := Lib.hid (store_n1 hl3)
    have hgt : (300 : Int) < (x.log.length : Int) := by omega
    clear hl3
    go_enter Tryz.func33, Tryz.ntmps33
    go_wp2
    go_ret
    exact ⟨by rw [HV.out]; rfl, HB.out _ (Below.refl _ _)⟩
  have hgt : ¬ (300 : Int) < (x.log.length : Int) := by omega
  have HL3 := Lib.hid hl3
  clear hl3
  cases hg : (decide (0 ≤ x.given) && decide (x.given ≤ 999999999)) with
  | false =>
    have HV := Lib.hid (store_n2 hg)
    rw [hg] at CI
    clear hg
    go_enter Tryz.func33, Tryz.ntmps33
    go_wp2_with fail
    refine (CI.out _).mono ?_
    rintro e w2 ⟨rfl, rfl⟩
    go_wp2
    go_ret
    exact ⟨by rw [HV.out]; rfl, HB.out _ (Below.refl _ _)⟩
  | true =>
  have HG := Lib.hid hg
  rw [hg] at CI
  clear hg
  go_enter Tryz.func33, Tryz.ntmps33
  go_wp2_with fail
  refine (CI.out _).mono ?_
  rintro e w2 ⟨rfl, rfl⟩
  go_wp2_with fail
  refine (CM.out _ (HB.out _ (Below.refl _ _))).mono ?_
  rintro e w3 ⟨rfl, b3⟩
  have HB3 := Lib.hid b3
  clear a0 a1 a2 b3
  obtain ⟨a0, a1, a2⟩ := HN.out w3 HB3.out
  cases hm : madeB x.log with
  | false =>
    have HV := Lib.hid (store_n3 hm)
    clear hm
    go_wp2
    go_ret
    exact ⟨by rw [HV.out]; rfl, HB.out _ HB3.out⟩
  | true =>
  have HE := Lib.hid (store_eq HL3.out HG.out hm)
  clear hm
  go_wp2_with fail
  refine (CA.out _ (HB.out _ HB3.out)).mono ?_
  rintro e w4 ⟨z, f, rfl, hi, -, -, hb4⟩
  obtain ⟨pz, cz, rfl⟩ := LfIn.slice hi
  have HB4 := Lib.hid (HB3.out.trans (hb4.mono HB3.out.size))
  have HZ := Lib.hid (fun W (g : Below w4.heap.size w4 W) => LfRd.below g _ _ (LfIn.rd _ _ _ hi))
  clear a0 a1 a2 hi hb4
  obtain ⟨ok0, hok0⟩ : ∃ t, (allL [] x.log).2 = t := ⟨_, rfl⟩
  rw [hok0] at HE ⊢
  have hzl : (allL [] x.log).1.length ≤ 1048576 := by have := ((boxes_iff _).1 (all_right0 x.log)).1; omega
  go_wp2
  go_loopg [4, 5] x.log.length (fun gi u i wr => ∃ k : Nat, k ≤ x.log.length ∧ gi = x.log.length - k ∧ u = .bool (ok0 && givenB x.given (x.log.take k)) ∧ i = .int .i64 k ∧ Below w4.heap.size w4 wr)
  case atStart => exact ⟨0, Nat.zero_le _, rfl, by rw [List.take_zero]; simp [givenB], rfl, Below.refl _ _⟩
  case round =>
    obtain ⟨k, hk, rfl, rfl, rfl, hbr⟩ := hrel
    have HBR := Lib.hid (HB4.out.trans (hbr.mono HB4.out.size))
    have HZR := Lib.hid hbr
    obtain ⟨a0, a1, a2⟩ := HN.out wr HBR.out
    clear hbr
    by_cases hlt : k < x.log.length
    case neg =>
      obtain rfl : k = x.log.length := by omega
      rw [List.take_length]
      cases hok : (ok0 && givenB x.given x.log) with
      | false =>
        have HV := Lib.hid (show storeB x = false by rw [HE.out, hok]; rfl)
        go_wp2
        go_ret
        exact ⟨by rw [HV.out]; rfl, HB.out _ HBR.out⟩
      | true =>
        have HV := Lib.hid (show storeB x = decide ((allL [] x.log).1 = x.boxes) by rw [HE.out, hok]; rfl)
        go_wp2_with fail
        refine (CS.out _ _ (HB.out _ HBR.out) (HZ.out _ HZR.out)).mono ?_
        rintro e w5 ⟨rfl, hb5⟩
        have HB5 := Lib.hid (HBR.out.trans (hb5.mono HBR.out.size))
        clear hb5
        go_wp2
        go_ret
        exact ⟨by rw [HV.out]; first | rfl | simp, HB.out _ HB5.out⟩
    obtain ⟨b, off, rfl, hb1, hc⟩ := HP.out.resolve_left (by intro h; rw [h] at hlt; simp at hlt)
    obtain ⟨m, hm⟩ : ∃ m, x.log[k]? = some m := ⟨_, List.getElem?_eq_getElem hlt⟩
    obtain ⟨x0, x1, -⟩ := hc k m hm
    have hbd := (HB.out _ HBR.out).drew
    have e0 : wr.drew.cell? ⟨b, off + k * 6, none⟩ = some (.int .i64 m.kind) := (hbd.cell (p := ⟨b, off + k * 6, none⟩) hb1).trans x0
    have e1 : wr.drew.cell? ⟨b, off + k * 6 + 1, none⟩ = some (.int .i64 m.validity) := (hbd.cell (p := ⟨b, off + k * 6 + 1, none⟩) hb1).trans x1
    obtain ⟨d0, d1, d2⟩ := HN.out wr.drew HBR.out.drew
    have HT := Lib.hid (given_take (g := x.given) hm)
    have HZD := Lib.hid HZR.out.drew
    clear hc x0 x1 hm hbd
    go_wp2
    clear a0 a1 a2
    cases hok : (ok0 && givenB x.given (x.log.take k)) with
    | false =>
      refine ord_start [(0, true), (1, true), (2, true), (3, true), (4, true), (5, true), (6, true), (7, true), (8, true), (9, true), (10, true), (11, true), (12, true), (13, true), (14, true), (15, true), (16, true), (17, true), (18, true), (19, true), (20, true), (21, true)] (fun W => W.cell? ⟨w.heap.size, 1, none⟩ = some (.slice (some ⟨b, off, none⟩) x.log.length c1) ∧ W.cell? ⟨w.heap.size, 2, none⟩ = some (.int .i64 x.given) ∧ W.cell? ⟨b, off + k * 6, none⟩ = some (.int .i64 m.kind) ∧ W.cell? ⟨b, off + k * 6 + 1, none⟩ = some (.int .i64 m.validity)) (by kernel_rfl) (by kernel_rfl) rfl (by kernel_rfl) ?_
      intro ops' hops
      simp only [List.map_cons, List.map_nil, pickOp_zero, pickOp_succ]
      iterate 2 (refine ord_flo ?_ (fun _ _ _ h => h) rfl ?_ ⟨d1, d2, e0, e1⟩ ?_; rotate_left; focus (intro W hS; obtain ⟨s0, s1, s2, s3⟩ := hS; go_simp; rfl))
      iterate 18 (refine ord_not (fun _ _ _ h => h) (by rw [hops.out]; kernel_rfl) ⟨d1, d2, e0, e1⟩ ?_)
      iterate 2 (refine ord_flo ?_ (fun _ _ _ h => h) rfl ?_ ⟨d1, d2, e0, e1⟩ ?_; rotate_left; focus (intro W hS; obtain ⟨s0, s1, s2, s3⟩ := hS; go_simp; rfl))
      refine ord_done ?_
      go_simp
      clear d0 d1 d2 e0 e1
      go_wp2
      go_roundg (x.log.length - (k + 1))
      case rel => exact ⟨k + 1, by omega, rfl, by rw [HT.out]; rw [← Bool.and_assoc, hok]; rfl, by go_num, HZD.out⟩
      case measure => omega
    | true =>
      cases t1 : (m.kind == 1) with
      | false =>
        have t1n := ne_yes t1
        refine ord_start [(0, true), (1, true), (2, true), (3, true), (4, true), (5, true), (6, true), (7, true), (8, true), (9, true), (10, true), (11, true), (12, true), (13, true), (14, true), (15, true), (16, true), (17, true), (18, true), (19, true), (20, true), (21, true)] (fun W => W.cell? ⟨w.heap.size, 1, none⟩ = some (.slice (some ⟨b, off, none⟩) x.log.length c1) ∧ W.cell? ⟨w.heap.size, 2, none⟩ = some (.int .i64 x.given) ∧ W.cell? ⟨b, off + k * 6, none⟩ = some (.int .i64 m.kind) ∧ W.cell? ⟨b, off + k * 6 + 1, none⟩ = some (.int .i64 m.validity)) (by kernel_rfl) (by kernel_rfl) rfl (by kernel_rfl) ?_
        intro ops' hops
        simp only [List.map_cons, List.map_nil, pickOp_zero, pickOp_succ]
        iterate 2 (refine ord_flo ?_ (fun _ _ _ h => h) rfl ?_ ⟨d1, d2, e0, e1⟩ ?_; rotate_left; focus (intro W hS; obtain ⟨s0, s1, s2, s3⟩ := hS; go_simp; rfl))
        iterate 3 (refine ord_flo ?_ (fun _ _ _ h => h) (by rw [hops.out]; kernel_rfl) ?_ ⟨d1, d2, e0, e1⟩ ?_; rotate_left; focus (intro W hS; obtain ⟨s0, s1, s2, s3⟩ := hS; go_simp; rfl))
        refine ord_flo (.pointer (some ⟨b, off + k * 6, none⟩)) (fun _ _ _ h => h) (by rw [hops.out]; kernel_rfl) ?_ ⟨d1, d2, e0, e1⟩ ?_
        · intro W hS
          obtain ⟨s0, s1, s2, s3⟩ := hS
          go_simp <;> omega
        iterate 4 (refine ord_flo ?_ (fun _ _ _ h => h) (by rw [hops.out]; kernel_rfl) ?_ ⟨d1, d2, e0, e1⟩ ?_; rotate_left; focus (intro W hS; obtain ⟨s0, s1, s2, s3⟩ := hS; go_simp; rfl))
        iterate 9 (refine ord_not (fun _ _ _ h => h) (by rw [hops.out]; kernel_rfl) ⟨d1, d2, e0, e1⟩ ?_)
        iterate 1 (refine ord_flo ?_ (fun _ _ _ h => h) (by rw [hops.out]; kernel_rfl) ?_ ⟨d1, d2, e0, e1⟩ ?_; rotate_left; focus (intro W hS; obtain ⟨s0, s1, s2, s3⟩ := hS; go_simp; rfl))
        iterate 2 (refine ord_flo ?_ (fun _ _ _ h => h) rfl ?_ ⟨d1, d2, e0, e1⟩ ?_; rotate_left; focus (intro W hS; obtain ⟨s0, s1, s2, s3⟩ := hS; go_simp; rfl))
        refine ord_done ?_
        go_simp
        clear d0 d1 d2 e0 e1
        go_wp2
        go_roundg (x.log.length - (k + 1))
        case rel => exact ⟨k + 1, by omega, rfl, by rw [HT.out]; rw [← Bool.and_assoc, hok]; simp only [bne, t1]; rfl, by go_num, HZD.out⟩
        case measure => omega
      | true =>
        by_cases hv : m.validity ≤ x.given
        · have hvd := decide_eq_true hv
          have t1n := ne_not t1
          refine ord_start [(0, true), (1, true), (2, true), (3, true), (4, true), (5, true), (6, true), (7, true), (8, true), (9, true), (10, true), (11, true), (12, true), (13, true), (14, true), (15, true), (16, true), (17, true), (18, true), (19, true), (20, true), (21, true)] (fun W => W.cell? ⟨w.heap.size, 1, none⟩ = some (.slice (some ⟨b, off, none⟩) x.log.length c1) ∧ W.cell? ⟨w.heap.size, 2, none⟩ = some (.int .i64 x.given) ∧ W.cell? ⟨b, off + k * 6, none⟩ = some (.int .i64 m.kind) ∧ W.cell? ⟨b, off + k * 6 + 1, none⟩ = some (.int .i64 m.validity)) (by kernel_rfl) (by kernel_rfl) rfl (by kernel_rfl) ?_
          intro ops' hops
          simp only [List.map_cons, List.map_nil, pickOp_zero, pickOp_succ]
          iterate 2 (refine ord_flo ?_ (fun _ _ _ h => h) rfl ?_ ⟨d1, d2, e0, e1⟩ ?_; rotate_left; focus (intro W hS; obtain ⟨s0, s1, s2, s3⟩ := hS; go_simp; rfl))
          iterate 3 (refine ord_flo ?_ (fun _ _ _ h => h) (by rw [hops.out]; kernel_rfl) ?_ ⟨d1, d2, e0, e1⟩ ?_; rotate_left; focus (intro W hS; obtain ⟨s0, s1, s2, s3⟩ := hS; go_simp; rfl))
          refine ord_flo (.pointer (some ⟨b, off + k * 6, none⟩)) (fun _ _ _ h => h) (by rw [hops.out]; kernel_rfl) ?_ ⟨d1, d2, e0, e1⟩ ?_
          · intro W hS
            obtain ⟨s0, s1, s2, s3⟩ := hS
            go_simp <;> omega
          iterate 7 (refine ord_flo ?_ (fun _ _ _ h => h) (by rw [hops.out]; kernel_rfl) ?_ ⟨d1, d2, e0, e1⟩ ?_; rotate_left; focus (intro W hS; obtain ⟨s0, s1, s2, s3⟩ := hS; go_simp; rfl))
          refine ord_flo (.pointer (some ⟨b, off + k * 6, none⟩)) (fun _ _ _ h => h) (by rw [hops.out]; kernel_rfl) ?_ ⟨d1, d2, e0, e1⟩ ?_
          · intro W hS
            obtain ⟨s0, s1, s2, s3⟩ := hS
            go_simp <;> omega
          iterate 6 (refine ord_flo ?_ (fun _ _ _ h => h) (by rw [hops.out]; kernel_rfl) ?_ ⟨d1, d2, e0, e1⟩ ?_; rotate_left; focus (intro W hS; obtain ⟨s0, s1, s2, s3⟩ := hS; go_simp; rfl))
          iterate 2 (refine ord_flo ?_ (fun _ _ _ h => h) rfl ?_ ⟨d1, d2, e0, e1⟩ ?_; rotate_left; focus (intro W hS; obtain ⟨s0, s1, s2, s3⟩ := hS; go_simp; rfl))
          refine ord_done ?_
          go_simp
          clear d0 d1 d2 e0 e1
          go_wp2
          go_roundg (x.log.length - (k + 1))
          case rel => exact ⟨k + 1, by omega, rfl, by rw [HT.out]; rw [← Bool.and_assoc, hok, hvd]; simp only [bne, t1]; rfl, by go_num, HZD.out⟩
          case measure => omega
        · have hvd := decide_eq_false hv
          have t1n := ne_not t1
          refine ord_start [(0, true), (1, true), (2, true), (3, true), (4, true), (5, true), (6, true), (7, true), (8, true), (9, true), (10, true), (11, true), (12, true), (13, true), (14, true), (15, true), (16, true), (17, true), (18, true), (19, true), (20, true), (21, true)] (fun W => W.cell? ⟨w.heap.size, 1, none⟩ = some (.slice (some ⟨b, off, none⟩) x.log.length c1) ∧ W.cell? ⟨w.heap.size, 2, none⟩ = some (.int .i64 x.given) ∧ W.cell? ⟨b, off + k * 6, none⟩ = some (.int .i64 m.kind) ∧ W.cell? ⟨b, off + k * 6 + 1, none⟩ = some (.int .i64 m.validity)) (by kernel_rfl) (by kernel_rfl) rfl (by kernel_rfl) ?_
          intro ops' hops
          simp only [List.map_cons, List.map_nil, pickOp_zero, pickOp_succ]
          iterate 2 (refine ord_flo ?_ (fun _ _ _ h => h) rfl ?_ ⟨d1, d2, e0, e1⟩ ?_; rotate_left; focus (intro W hS; obtain ⟨s0, s1, s2, s3⟩ := hS; go_simp; rfl))
          iterate 3 (refine ord_flo ?_ (fun _ _ _ h => h) (by rw [hops.out]; kernel_rfl) ?_ ⟨d1, d2, e0, e1⟩ ?_; rotate_left; focus (intro W hS; obtain ⟨s0, s1, s2, s3⟩ := hS; go_simp; rfl))
          refine ord_flo (.pointer (some ⟨b, off + k * 6, none⟩)) (fun _ _ _ h => h) (by rw [hops.out]; kernel_rfl) ?_ ⟨d1, d2, e0, e1⟩ ?_
          · intro W hS
            obtain ⟨s0, s1, s2, s3⟩ := hS
            go_simp <;> omega
          iterate 7 (refine ord_flo ?_ (fun _ _ _ h => h) (by rw [hops.out]; kernel_rfl) ?_ ⟨d1, d2, e0, e1⟩ ?_; rotate_left; focus (intro W hS; obtain ⟨s0, s1, s2, s3⟩ := hS; go_simp; rfl))
          refine ord_flo (.pointer (some ⟨b, off + k * 6, none⟩)) (fun _ _ _ h => h) (by rw [hops.out]; kernel_rfl) ?_ ⟨d1, d2, e0, e1⟩ ?_
          · intro W hS
            obtain ⟨s0, s1, s2, s3⟩ := hS
            go_simp <;> omega
          iterate 6 (refine ord_flo ?_ (fun _ _ _ h => h) (by rw [hops.out]; kernel_rfl) ?_ ⟨d1, d2, e0, e1⟩ ?_; rotate_left; focus (intro W hS; obtain ⟨s0, s1, s2, s3⟩ := hS; go_simp; rfl))
          iterate 2 (refine ord_flo ?_ (fun _ _ _ h => h) rfl ?_ ⟨d1, d2, e0, e1⟩ ?_; rotate_left; focus (intro W hS; obtain ⟨s0, s1, s2, s3⟩ := hS; go_simp; rfl))
          refine ord_done ?_
          go_simp
          clear d0 d1 d2 e0 e1
          go_wp2
          go_roundg (x.log.length - (k + 1))
          case rel => exact ⟨k + 1, by omega, rfl, by rw [HT.out]; rw [← Bool.and_assoc, hok, hvd]; simp only [bne, t1]; rfl, by go_num, HZD.out⟩
          case measure => omega

end Go.Proofs.YtbfgdbpfecffcaaGreatDoor
