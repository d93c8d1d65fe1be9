/-
  Uq: StoS (what the claim needs of them).
-/
import Derived.Deep.DeepCutAuto
import Derived.Handy
import Derived.Test.YtbfgdbpfecffcaaRows
import Derived.WalkKit
import Derived.WalkSpells
import Derived.WalkLawsBesides
import Derived.Laws.IdiomStrings
import Derived.Lib.Hide
import Derived.Deep.AppendLies
import Derived.OrdersHeld
import Derived.Lib.ItoaNum
import Derived.Lib.ItoaMem
import Derived.Lib.AppendStr
import Derived.Lib.ItoaLen
import Derived.Lib.Strings
import Derived.Lib.Bytealg
import Derived.Lib.OthersKept
import Derived.Laws.RangeAny
import Derived.Laws.BitsAllLaws
import Derived.Laws.BitsLemmas
import Derived.IntWalk
import Derived.Lib.Join
import Derived.Deep.Strs
import Derived.Test.YtbfgdbpfecffcaaProg
import Derived.Laws.Tables
import Derived.Deep.Cut
import Derived.Test.YtbfgdbpfecffcaaUa
import Derived.Test.YtbfgdbpfecffcaaUb
import Derived.Test.YtbfgdbpfecffcaaUc
import Derived.Test.YtbfgdbpfecffcaaUd
import Derived.Test.YtbfgdbpfecffcaaUk
import Derived.Test.YtbfgdbpfecffcaaUm
import Derived.Test.YtbfgdbpfecffcaaUn
import Derived.Test.YtbfgdbpfecffcaaUo

namespace Go.Proofs.Ytbfgdbpfecffcaa
open Go.RowKit

theorem ofAt_hit {v : Int} {lg : List ComD} {k : Nat} {m : ComD} (h : lg[k]? = some m) (hc : m.validity = v ∧ 4 ≤ m.kind ∧ m.kind ≤ 6) : ofAt v (lg.drop k) k = (k : Int) :: ofAt v (lg.drop (k + 1)) (k + 1) := by
  rw [drop_ofAt h, if_pos hc]
  rfl
theorem ofAt_miss {v : Int} {lg : List ComD} {k : Nat} {m : ComD} (h : lg[k]? = some m) (hc : ¬ (m.validity = v ∧ 4 ≤ m.kind ∧ m.kind ≤ 6)) : ofAt v (lg.drop k) k = ofAt v (lg.drop (k + 1)) (k + 1) := by
  rw [drop_ofAt h, if_neg hc]
  rfl
theorem ofAt_end (v : Int) {lg : List ComD} {k : Nat} (h : lg.length ≤ k) : ofAt v (lg.drop k) k = [] := by
  rw [List.drop_eq_nil_of_le h]
  rfl
theorem sto_smallS {x : StoD} (hs : szLs x.lf ≤ 1048576) (hbd : LsBnd x.lf) : x.log.length ≤ 1048576 := by
  rw [StoD.sz] at hs
  exact (coms_small (by omega) hbd.2.1).1
theorem ofL_small {x : StoD} (v i : Int) (hs : szLs x.lf ≤ 1048576) : szLf (intsLf (ofL x v i)) ≤ 1000000000 := by
  rw [szLf_ints]
  have h1 := ofAt_len v (x.log.drop i.toNat) i.toNat
  rw [StoD.sz] at hs
  have h2 : szLf (commitsLf x.log) = x.log.length + szLs (x.log.flatMap ComD.lf) := rfl
  rw [List.length_drop] at h1
  unfold ofL
  omega
theorem blk_3s {w : World} {b : Nat} {x0 x1 x2 : Value} {e : TypeId} (h : w.heap[b]? = some (.cells #[x0, x1, x2] e (0, 0))) : w.cell? ⟨b, 0, none⟩ = some x0 ∧ w.cell? ⟨b, 1, none⟩ = some x1 ∧ w.cell? ⟨b, 2, none⟩ = some x2 := ⟨(Lib.cell_of_heap h 0).trans rfl, (Lib.cell_of_heap h 1).trans rfl, (Lib.cell_of_heap h 2).trans rfl⟩

set_option maxRecDepth 20000 in
set_option maxHeartbeats 3200000 in
theorem specCommitsOf_c : CtrCommitsOf 6 (fun _ => True) := by
  intro x r0 r1 v i w _ hr0 _ hr1 _ hs hbd hv hi
  have hlg := sto_smallS hs hbd
  obtain ⟨p0, c0, rfl⟩ := LfRd.slice hr0
  obtain ⟨p1, c1, rfl, hp⟩ := ComD.at hr1
  have HP := Lib.hid hp
  have CX := Lib.hid (fun W => l1Max_any 0 i W)
  have hj : maxI 0 i = ((i.toNat : Nat) : Int) := by unfold maxI; split <;> omega
  rw [hj] at CX
  obtain ⟨LL, hLL⟩ : ∃ LL, ofL x v i = LL := ⟨_, rfl⟩
  have HE := Lib.hid (show ofAt v (x.log.drop i.toNat) i.toNat = LL from hLL)
  rw [hLL]
  clear hLL
  have hji : i.toNat ≤ 9223372036854775807 := by have := hi.2; omega
  generalize i.toNat = j at *
  have hb1 : Below w.heap.size w (w.alloc (.cells #[.slice p0 x.boxes.length c0, .slice p1 x.log.length c1, .int .i64 x.given] 32)) := (Below.refl _ _).alloc (Nat.le_refl _) _
  have n1 := heap_alloc_new w (.cells #[.slice p0 x.boxes.length c0, .slice p1 x.log.length c1, .int .i64 x.given] 32)
  obtain ⟨X, hX⟩ : ∃ X, w.alloc (.cells #[.slice p0 x.boxes.length c0, .slice p1 x.log.length c1, .int .i64 x.given] 32) = X := ⟨_, rfl⟩
  rw [hX] at hb1 n1
  have HB := Lib.hid (fun W (g : Below X.heap.size X W) => hb1.trans (g.mono hb1.size))
  have HN := Lib.hid (fun W (g : Below X.heap.size X W) => blk_3s ((g.block w.heap.size (Array.getElem?_eq_some_iff.1 n1).1).trans n1))
  have hXw := hb1.size
  have hoA : (X.alloc (.cells #[] 3)).ownsRow X.heap.size 3 1 (.slice (some ⟨X.heap.size, 0, none⟩) 0 0) 0 [] := World.ownsRow_made X #[] 0 (Nat.le_refl _) (by unfold maxLen; omega) (by simp)
  have HST := Lib.hid (And.intro hoA ((Below.refl X.heap.size X).alloc (Nat.le_refl _) (.cells #[] 3)))
  clear hp hr0 hr1 hs hbd hb1 n1 hi hv hj hoA
  go_enter Try.func6, Try.ntmps6
  go_wp2_with fail
  refine (CX.out _).mono ?_
  rintro e w2 ⟨rfl, rfl⟩
  clear CX
  go_wp2
  clear hX
  go_loopw [7, 8] (fun u i wr => ∃ (k : Nat) (l : List Int), (j ≤ k ∧ (k ≤ x.log.length ∨ k = j)) ∧ i = .int .i64 k ∧ l.length ≤ k - j ∧ l ++ ofAt v (x.log.drop k) k = LL ∧ wr.ownsRow X.heap.size 3 1 u l.length (l.map iv) ∧ Below X.heap.size X wr) (fun _ i _ => x.log.length - (intOf i).toNat)
  case atStart => exact ⟨j, [], ⟨Nat.le_refl _, .inr rfl⟩, rfl, by simp, by rw [List.nil_append, HE.out], HST.out.1, HST.out.2⟩
  case round =>
    obtain ⟨k, l, hk, rfl, hll, heq, hown, hbr⟩ := hrel
    have HEQ := Lib.hid heq
    have hbr0 := hbr.size
    obtain ⟨a0, a1, a2⟩ := HN.out wr hbr
    clear HST heq
    by_cases hlt : k < x.log.length
    case neg =>
      have HV := Lib.hid (show l = LL by rw [← HEQ.out, ofAt_end v (by omega), List.append_nil])
      have HT := Lib.hid (tree_ints (l := l) (B := X.heap.size) hown)
      have HBF := Lib.hid (HB.out _ hbr)
      obtain ⟨pu, cu, rfl, -⟩ := own9_form hown
      clear hown hbr
      have hnlt : ¬ (k : Int) < (x.log.length : Int) := by omega
      go_wp2
      go_ret
      exact ⟨_, rfl, _, HV.out ▸ HT.out.is, HT.out.nodup, fun q hq => Nat.le_trans hXw (HT.out.low q hq), HBF.out⟩
    obtain ⟨b, off, rfl, hb1, hc⟩ := HP.out.resolve_left (by intro h; rw [h] at hlt; simp at hlt)
    obtain ⟨m, hm⟩ : ∃ m, x.log[k]? = some m := ⟨_, List.getElem?_eq_getElem hlt⟩
    obtain ⟨x0, x1, -⟩ := hc k m hm
    have hbw := HB.out _ hbr
    have e0 : wr.cell? ⟨b, off + k * 6, none⟩ = some (.int .i64 m.kind) := (hbw.cell (p := ⟨b, off + k * 6, none⟩) hb1).trans x0
    have e1 : wr.cell? ⟨b, off + k * 6 + 1, none⟩ = some (.int .i64 m.validity) := (hbw.cell (p := ⟨b, off + k * 6 + 1, none⟩) hb1).trans x1
    have HM := Lib.hid hm
    have HC := Lib.hid (fun W => l1In_any m.kind 4 6 W)
    have hwk : IntKind.i64.wrap ((k : Int) + 1) = (k : Int) + 1 := IntWalk.i64_in _ (by omega)
    clear hc x0 x1 hm hbw
    cases t1 : (m.validity == v) with
    | false =>
      have HN2 := Lib.hid (ofAt_miss (v := v) HM.out (fun h => by rw [h.1] at t1; simp at t1))
      go_wp2
      go_roundw
      case rel => exact ⟨k + 1, l, ⟨by omega, by omega⟩, by go_num, by omega, by rw [← HN2.out]; exact HEQ.out, hown, hbr⟩
      case measure => simp [intOf]; omega
    | true =>
      have hmv : m.validity = v := by simpa using t1
      have HMV := Lib.hid hmv
      clear hmv
      go_wp2_with fail
      refine (HC.out _).mono ?_
      rintro e w3 ⟨rfl, rfl⟩
      cases t2 : (decide ((4 : Int) ≤ m.kind) && decide (m.kind ≤ 6)) with
      | false =>
        have HN2 := Lib.hid (ofAt_miss (v := v) HM.out (fun h => by rw [decide_eq_true h.2.1, decide_eq_true h.2.2] at t2; cases t2))
        clear t2
        go_wp2
        go_roundw
        case rel => exact ⟨k + 1, l, ⟨by omega, by omega⟩, by go_num, by omega, by rw [← HN2.out]; exact HEQ.out, hown, hbr⟩
        case measure => simp [intOf]; omega
      | true =>
        have HN2 := Lib.hid (ofAt_hit (v := v) HM.out (by rw [Bool.and_eq_true, decide_eq_true_eq, decide_eq_true_eq] at t2; exact ⟨HMV.out, t2⟩))
        clear t2
        go_wp2_with (at_builtin; refine wpList_app1 Try.el_int rfl (.tmp 36) (.tmp 38) rfl X _ u7 l.length _ rfl hown hbr hbr0 #[.int .i64 k] (.inr rfl) 1 1 rfl rfl (by simp [Value.oneCell']) (by omega) (by omega) (by omega) ?_)
        intro g cap w4 hown4 hb4 _ _ _
        have HR4 := Lib.hid (And.intro hown4 hb4)
        clear hown4 hb4 hown hbr e0 e1 a0 a1 a2
        go_wp2
        go_roundw
        case rel => exact ⟨k + 1, l ++ [(k : Int)], ⟨by omega, by omega⟩, by go_num, by simp; omega, by rw [List.append_assoc, List.singleton_append, ← HN2.out]; exact HEQ.out, by rw [List.map_append, List.length_append]; simpa using HR4.out.1, HR4.out.2⟩
        case measure => simp [intOf]; omega

set_option maxHeartbeats 1600000 in
theorem isAbout_any (n : Int) (w : World) :
    Calls Try.prog 22 #[.int .i64 n] w fun e w' => e = .returned (.bool (decide ((4 : Int) ≤ n) && decide (n ≤ 6))) ∧ w = w' := by
  by_cases h4 : n = 4
  case pos =>
    subst h4
    go_enter Try.func22, Try.ntmps22
    go_wp2
    go_ret
    exact ⟨rfl, rfl⟩
  by_cases h5 : n = 5
  case pos =>
    subst h5
    go_enter Try.func22, Try.ntmps22
    go_wp2
    go_ret
    exact ⟨rfl, rfl⟩
  by_cases h6 : n = 6
  case pos =>
    subst h6
    go_enter Try.func22, Try.ntmps22
    go_wp2
    go_ret
    exact ⟨rfl, rfl⟩
  have HV := Lib.hid (show (decide ((4 : Int) ≤ n) && decide (n ≤ 6)) = false by
    by_cases h : (4 : Int) ≤ n
    · rw [decide_eq_false (show ¬ n ≤ 6 by omega), Bool.and_false]
    · rw [decide_eq_false h]; rfl)
  have t4 : (n == 4) = false := by rw [beq_eq_false_iff_ne]; exact h4
  have t5 : (n == 5) = false := by rw [beq_eq_false_iff_ne]; exact h5
  have t6 : (n == 6) = false := by rw [beq_eq_false_iff_ne]; exact h6
  clear h4 h5 h6
  go_enter Try.func22, Try.ntmps22
  go_wp2
  go_ret
  exact ⟨by rw [HV.out] <;> rfl, rfl⟩

set_option maxRecDepth 20000 in
set_option maxHeartbeats 3200000 in
theorem implCommitsOf_c {G : World → Prop} : CtrCommitsOf 8 G := by
  intro x r0 r1 v i w _ hr0 _ hr1 _ hs hbd hv hi
  have hlg := sto_smallS hs hbd
  obtain ⟨p0, c0, rfl⟩ := LfRd.slice hr0
  obtain ⟨p1, c1, rfl, hp⟩ := ComD.at hr1
  have HP := Lib.hid hp
  have hj : max i 0 = ((i.toNat : Nat) : Int) := by omega
  obtain ⟨LL, hLL⟩ : ∃ LL, ofL x v i = LL := ⟨_, rfl⟩
  have HE := Lib.hid (show ofAt v (x.log.drop i.toNat) i.toNat = LL from hLL)
  rw [hLL]
  clear hLL
  have hji : i.toNat ≤ 9223372036854775807 := by have := hi.2; omega
  generalize i.toNat = j at *
  have hb1 : Below w.heap.size w (w.alloc (.cells #[.slice p0 x.boxes.length c0, .slice p1 x.log.length c1, .int .i64 x.given] 32)) := (Below.refl _ _).alloc (Nat.le_refl _) _
  have n1 := heap_alloc_new w (.cells #[.slice p0 x.boxes.length c0, .slice p1 x.log.length c1, .int .i64 x.given] 32)
  obtain ⟨X, hX⟩ : ∃ X, w.alloc (.cells #[.slice p0 x.boxes.length c0, .slice p1 x.log.length c1, .int .i64 x.given] 32) = X := ⟨_, rfl⟩
  rw [hX] at hb1 n1
  have HB := Lib.hid (fun W (g : Below X.heap.size X W) => hb1.trans (g.mono hb1.size))
  have HN := Lib.hid (fun W (g : Below X.heap.size X W) => blk_3s ((g.block w.heap.size (Array.getElem?_eq_some_iff.1 n1).1).trans n1))
  have hXw := hb1.size
  have HST := Lib.hid (And.intro (World.ownsRow_nil X X.heap.size 3 1) (Below.refl X.heap.size X))
  have HJ := Lib.hid hj
  clear hp hr0 hr1 hs hbd hb1 n1 hi hv hj
  go_enter Try.func8, Try.ntmps8
  go_upto_region 2 with fail
  go_cut [8] (fun u wx => u = .int .i64 j ∧ X = wx)
  case first =>
    rcases Int.lt_or_le i 0 with h | h
    · go_wp2_with fail
      all_goals (go_meet; exact ⟨by have := HJ.out; first | (congr 1; omega) | omega, rfl⟩)
    · go_wp2_with fail
      all_goals (go_meet; exact ⟨by have := HJ.out; first | (congr 1; omega) | omega, rfl⟩)
  case rest =>
  obtain ⟨rfl, hwc⟩ := hcut
  subst hwc
  go_wp2
  clear hX
  go_loopw [7, 8] (fun u i wr => ∃ (k : Nat) (l : List Int), (j ≤ k ∧ (k ≤ x.log.length ∨ k = j)) ∧ i = .int .i64 k ∧ l.length ≤ k - j ∧ l ++ ofAt v (x.log.drop k) k = LL ∧ wr.ownsRow X.heap.size 3 1 u l.length (l.map iv) ∧ Below X.heap.size X wr) (fun _ i _ => x.log.length - (intOf i).toNat)
  case atStart => exact ⟨j, [], ⟨Nat.le_refl _, .inr rfl⟩, rfl, by simp, by rw [List.nil_append, HE.out], HST.out.1, HST.out.2⟩
  case round =>
    obtain ⟨k, l, hk, rfl, hll, heq, hown, hbr⟩ := hrel
    have HEQ := Lib.hid heq
    have hbr0 := hbr.size
    obtain ⟨a0, a1, a2⟩ := HN.out wr hbr
    clear HST heq
    by_cases hlt : k < x.log.length
    case neg =>
      have HV := Lib.hid (show l = LL by rw [← HEQ.out, ofAt_end v (by omega), List.append_nil])
      have HT := Lib.hid (tree_ints (l := l) (B := X.heap.size) hown)
      have HBF := Lib.hid (HB.out _ hbr)
      obtain ⟨pu, cu, rfl, -⟩ := own9_form hown
      clear hown hbr
      have hnlt : ¬ (k : Int) < (x.log.length : Int) := by omega
      go_wp2
      go_ret
      exact ⟨_, rfl, _, HV.out ▸ HT.out.is, HT.out.nodup, fun q hq => Nat.le_trans hXw (HT.out.low q hq), HBF.out⟩
    obtain ⟨b, off, rfl, hb1, hc⟩ := HP.out.resolve_left (by intro h; rw [h] at hlt; simp at hlt)
    obtain ⟨m, hm⟩ : ∃ m, x.log[k]? = some m := ⟨_, List.getElem?_eq_getElem hlt⟩
    obtain ⟨x0, x1, -⟩ := hc k m hm
    have hbw := HB.out _ hbr
    have e0 : wr.cell? ⟨b, off + k * 6, none⟩ = some (.int .i64 m.kind) := (hbw.cell (p := ⟨b, off + k * 6, none⟩) hb1).trans x0
    have e1 : wr.cell? ⟨b, off + k * 6 + 1, none⟩ = some (.int .i64 m.validity) := (hbw.cell (p := ⟨b, off + k * 6 + 1, none⟩) hb1).trans x1
    have HM := Lib.hid hm
    have HC := Lib.hid (fun W => isAbout_any m.kind W)
    have hwk : IntKind.i64.wrap ((k : Int) + 1) = (k : Int) + 1 := IntWalk.i64_in _ (by omega)
    clear hc x0 x1 hm hbw
    cases t1 : (m.validity == v) with
    | false =>
      have HN2 := Lib.hid (ofAt_miss (v := v) HM.out (fun h => by rw [h.1] at t1; simp at t1))
      go_wp2
      go_roundw
      case rel => exact ⟨k + 1, l, ⟨by omega, by omega⟩, by go_num, by omega, by rw [← HN2.out]; exact HEQ.out, hown, hbr⟩
      case measure => simp [intOf]; omega
    | true =>
      have hmv : m.validity = v := by simpa using t1
      have HMV := Lib.hid hmv
      clear hmv
      go_wp2_with fail
      refine (HC.out _).mono ?_
      rintro e w3 ⟨rfl, rfl⟩
      cases t2 : (decide ((4 : Int) ≤ m.kind) && decide (m.kind ≤ 6)) with
      | false =>
        have HN2 := Lib.hid (ofAt_miss (v := v) HM.out (fun h => by rw [decide_eq_true h.2.1, decide_eq_true h.2.2] at t2; cases t2))
        clear t2
        go_wp2
        go_roundw
        case rel => exact ⟨k + 1, l, ⟨by omega, by omega⟩, by go_num, by omega, by rw [← HN2.out]; exact HEQ.out, hown, hbr⟩
        case measure => simp [intOf]; omega
      | true =>
        have HN2 := Lib.hid (ofAt_hit (v := v) HM.out (by rw [Bool.and_eq_true, decide_eq_true_eq, decide_eq_true_eq] at t2; exact ⟨HMV.out, t2⟩))
        clear t2
        go_wp2_with (at_builtin; refine wpList_app1 Try.el_int rfl (.tmp 35) (.tmp 37) rfl X _ u7 l.length _ rfl hown hbr hbr0 #[.int .i64 k] (.inr rfl) 1 1 rfl rfl (by simp [Value.oneCell']) (by omega) (by omega) (by omega) ?_)
        intro g cap w4 hown4 hb4 _ _ _
        have HR4 := Lib.hid (And.intro hown4 hb4)
        clear hown4 hb4 hown hbr e0 e1 a0 a1 a2
        go_wp2
        go_roundw
        case rel => exact ⟨k + 1, l ++ [(k : Int)], ⟨by omega, by omega⟩, by go_num, by simp; omega, by rw [List.append_assoc, List.singleton_append, ← HN2.out]; exact HEQ.out, by rw [List.map_append, List.length_append]; simpa using HR4.out.1, HR4.out.2⟩
        case measure => simp [intOf]; omega

end Go.Proofs.Ytbfgdbpfecffcaa
