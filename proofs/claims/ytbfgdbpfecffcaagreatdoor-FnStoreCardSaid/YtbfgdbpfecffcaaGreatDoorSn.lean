/-
  Sn: ComH (what the claim needs of them).
-/
import Derived.Handy
import Derived.Test.YtbfgdbpfecffcaaGreatDoorRows
import Derived.WalkKit
import Derived.WalkSpells
import Derived.WalkLawsBesides
import Derived.Laws.IdiomStrings
import Derived.Lib.Hide
import Derived.Deep.AppendLies
import Derived.OrdersHeld
import Derived.Lib.ItoaNum
import Derived.Lib.ItoaMem
import Derived.Lib.AppendStr
import Derived.Lib.ItoaLen
import Derived.Lib.Strings
import Derived.Lib.Bytealg
import Derived.Lib.OthersKept
import Derived.Laws.RangeAny
import Derived.Laws.BitsAllLaws
import Derived.Laws.BitsLemmas
import Derived.IntWalk
import Derived.Lib.Join
import Derived.Deep.Strs
import Derived.Test.YtbfgdbpfecffcaaGreatDoorProg
import Derived.Test.YtbfgdbpfecffcaaGreatDoorSb
import Derived.Test.YtbfgdbpfecffcaaGreatDoorSc
import Derived.Test.YtbfgdbpfecffcaaGreatDoorSd
import Derived.Test.YtbfgdbpfecffcaaGreatDoorSe
import Derived.Test.YtbfgdbpfecffcaaGreatDoorSf
import Derived.Test.YtbfgdbpfecffcaaGreatDoorSl
import Derived.Test.YtbfgdbpfecffcaaGreatDoorSm

namespace Go.Proofs.YtbfgdbpfecffcaaGreatDoor
open Go.RowKit

theorem tw_take {α : Type} (p : α → Bool) : ∀ l : List α, l.take (l.takeWhile p).length = l.takeWhile p
  | [] => rfl
  | x :: l => by cases h : p x <;> simp [h, tw_take p l]
theorem tw_drop {α : Type} (p : α → Bool) : ∀ l : List α, l.drop (l.takeWhile p).length = l.dropWhile p
  | [] => rfl
  | x :: l => by cases h : p x <;> simp [h, tw_drop p l]
theorem tw_lo {α : Type} (p : α → Bool) : ∀ (l : List α) (i : Nat) (y : α), i < (l.takeWhile p).length → l[i]? = some y → p y = true
  | [], i, y, h, _ => by simp at h
  | x :: l, i, y, h, hy => by
    cases hx : p x with
    | false => simp [hx] at h
    | true =>
      simp only [List.takeWhile_cons, hx, if_true, List.length_cons] at h
      match i, hy with
      | 0, hy => cases hy; exact hx
      | i + 1, hy => exact tw_lo p l i y (by omega) hy
theorem tw_hi {α : Type} (p : α → Bool) : ∀ (l : List α) (y : α), l[(l.takeWhile p).length]? = some y → p y = false
  | [], y, h => by simp at h
  | x :: l, y, h => by
    cases hx : p x with
    | false => simp only [List.takeWhile_cons, hx] at h; cases h; exact hx
    | true =>
      simp only [List.takeWhile_cons, hx, if_true, List.length_cons, List.getElem?_cons_succ] at h
      exact tw_hi p l y h
theorem tw_le {α : Type} (p : α → Bool) : ∀ l : List α, (l.takeWhile p).length ≤ l.length
  | [] => Nat.le_refl _
  | x :: l => by
    cases hx : p x with
    | false => simp [hx]
    | true => simp [hx, tw_le p l]
def layAt (ps : List BP) (q : BP) : Nat := (ps.takeWhile fun y => Op.bytesLess y.box.name q.box.name).length
def layP (ps : List BP) (q : BP) : List BP := ps.take (layAt ps q) ++ q :: ps.drop (layAt ps q)
theorem layP_box (ps : List BP) (q : BP) : (layP ps q).map BP.box = layL (ps.map BP.box) q.box := by
  unfold layP layAt layL
  rw [tw_take, tw_drop, List.map_append, List.map_cons, List.takeWhile_map, List.dropWhile_map]
  rfl
theorem layP_len (ps : List BP) (q : BP) : (layP ps q).length = ps.length + 1 := by
  unfold layP
  have := tw_le (fun y => Op.bytesLess y.box.name q.box.name) ps
  rw [List.length_append, List.length_cons, List.length_take, List.length_drop]
  unfold layAt
  omega
theorem rd_takeP {W : World} {p : Option Addr} {c k : Nat} {ps : List BP} (h : Rd 4 encP W (.slice p ps.length c) ps) (hk : k ≤ ps.length) (c' : Nat) : Rd 4 encP W (.slice p k c') (ps.take k) := by
  obtain ⟨p1, cap, hv, hc⟩ := h.ex
  injection hv with hp _ _
  subst hp
  rcases hc with rfl | ⟨b, off, rfl, _⟩
  · obtain rfl : k = 0 := by simpa using hk
    exact ⟨_, _, rfl, .inl rfl⟩
  · exact Rd.takeS h hk c'
theorem add9 (b o j : Nat) : (⟨b, o, none⟩ : Addr).add j = ⟨b, o + j, none⟩ := by unfold Addr.add; split <;> simp_all
theorem rd_dropP {W : World} {p : Option Addr} {c k : Nat} {ps : List BP} (h : Rd 4 encP W (.slice p ps.length c) ps) (hk : k ≤ ps.length) (hc : ps.length ≤ c) : Rd 4 encP W (.slice (if c = k then p else Option.map (fun x => x.add (k * 4)) p) (ps.length - k) (c - k)) (ps.drop k) := by
  by_cases hck : ps.length = k
  · have hn : ps.drop k = [] := List.drop_eq_nil_of_le (by omega)
    rw [hn, show ps.length - k = 0 by omega]
    exact ⟨_, _, rfl, .inl rfl⟩
  · rw [if_neg (by omega)]
    obtain ⟨p1, cap, hv, hc⟩ := h.ex
    injection hv with hp _ _
    subst hp
    rcases hc with rfl | ⟨b, off, rfl, _⟩
    · have h1 : k ≤ 0 := hk
      have h2 : ¬ 0 = k := hck
      omega
    · show Rd 4 encP W (.slice (some ((⟨b, off, none⟩ : Addr).add (k * 4))) (ps.length - k) (c - k)) (ps.drop k)
      rw [add9]
      exact Rd.dropS h (c - k)
theorem rd_one {W : World} {b : Nat} (q : BP) (h : W.heap[b]? = some (.cells #[sv q.box.name, .int .i64 q.box.validity, .int .i64 q.box.next, .slice q.pt q.box.msgs.length q.cp] 38 (0, 0))) : Rd 4 encP W (.slice (some ⟨b, 0, none⟩) 1 1) [q] := by
  obtain ⟨⟨c0, c1, c2, c3⟩, _⟩ := blk_4c h
  refine ⟨_, _, rfl, .inr ⟨b, 0, rfl, (Array.getElem?_eq_some_iff.1 h).1, fun i y hi j u hu => ?_⟩⟩
  match i, hi with
  | 0, hi =>
    cases hi
    match j, hu with
    | 0, hu => cases hu; exact c0
    | 1, hu => cases hu; exact c1
    | 2, hu => cases hu; exact c2
    | 3, hu => cases hu; exact c3
    | j + 4, hu => simp [encP] at hu
  | i + 1, hi => simp at hi

set_option maxRecDepth 20000 in
set_option maxHeartbeats 6400000 in
theorem l10Lay_any (v : Value) (ps : List BP) (q : BP) (w : World) (hr : Rd 4 encP w v ps) (hcap : CapLe v) (hl : ps.length ≤ 1048576) :
    Calls Tryz.prog 66 #[v, .agg #[sv q.box.name, .int .i64 q.box.validity, .int .i64 q.box.next, .slice q.pt q.box.msgs.length q.cp]] w fun e w' => ∃ v', e = .returned v' ∧ w'.ownsRow w.heap.size 38 4 v' (layP ps q).length ((layP ps q).flatMap encP) ∧ Below w.heap.size w w' := by
  obtain ⟨p, c, rfl, hc⟩ := hr.ex
  have hcl := hcap _ _ _ rfl
  obtain ⟨T, hT⟩ : ∃ T, layAt ps q = T := ⟨_, rfl⟩
  have hTl : T ≤ ps.length := by rw [← hT]; exact tw_le _ ps
  have HLO := Lib.hid (show ∀ i y, i < T → ps[i]? = some y → Op.bytesLess y.box.name q.box.name = true by rw [← hT]; exact tw_lo _ ps)
  have HHI := Lib.hid (show ∀ y, ps[T]? = some y → Op.bytesLess y.box.name q.box.name = false by rw [← hT]; exact tw_hi _ ps)
  have HV := Lib.hid (show layP ps q = ps.take T ++ q :: ps.drop T by unfold layP; rw [hT])
  have HR := Lib.hid hr
  have HC := Lib.hid hc
  have HL := Lib.hid hl
  have hbA : Below w.heap.size w (w.alloc (.cells #[sv q.box.name, .int .i64 q.box.validity, .int .i64 q.box.next, .slice q.pt q.box.msgs.length q.cp] 38)) := (Below.refl _ _).alloc (Nat.le_refl _) _
  have hA := heap_alloc_new w (.cells #[sv q.box.name, .int .i64 q.box.validity, .int .i64 q.box.next, .slice q.pt q.box.msgs.length q.cp] 38)
  have hz0 : (w.alloc (.cells #[sv q.box.name, .int .i64 q.box.validity, .int .i64 q.box.next, .slice q.pt q.box.msgs.length q.cp] 38)).heap.size = w.heap.size + 1 := by simp
  obtain ⟨W0, hW0⟩ : ∃ W0, w.alloc (.cells #[sv q.box.name, .int .i64 q.box.validity, .int .i64 q.box.next, .slice q.pt q.box.msgs.length q.cp] 38) = W0 := ⟨_, rfl⟩
  rw [hW0] at hbA hA hz0
  have HZ := Lib.hid hz0
  have HB := Lib.hid (fun W (g : Below W0.heap.size W0 W) => hbA.trans (g.mono hbA.size))
  have HA := Lib.hid (fun W (g : Below W0.heap.size W0 W) => (g.block w.heap.size (by omega)).trans hA)
  clear hbA hA hz0 hr hc hcap hT
  go_enter Tryz.func66, Tryz.ntmps66
  go_wp2_with fail
  go_loopw [5] (fun i wr => ∃ k : Nat, k ≤ T ∧ i = .int .i64 k ∧ Below W0.heap.size W0 wr) (fun i _ => T - (intOf i).toNat)
  case atStart => exact ⟨0, by omega, rfl, Below.refl _ _⟩
  case round =>
    obtain ⟨k, hk, rfl, hbr⟩ := hrel
    by_cases hkT : k < T
    case pos =>
      have hlt : k < ps.length := by omega
      have gd := hbr.drew
      obtain ⟨b, off, rfl, hb1, hc⟩ := HC.out.resolve_left (by intro h; subst h; simp at hlt)
      obtain ⟨y, hy⟩ : ∃ y, ps[k]? = some y := ⟨_, List.getElem?_eq_getElem hlt⟩
      have e0 : wr.drew.cell? ⟨b, off + k * 4, none⟩ = some (sv y.box.name) := ((HB.out _ gd).cell (p := ⟨b, off + k * 4, none⟩) hb1).trans (hc k y hy 0 _ rfl)
      have f0 := (Lib.cell_of_heap (HA.out _ gd) 0).trans (show _ = some (sv q.box.name) from rfl)
      have hq : Op.bytesLess y.box.name q.box.name = true := HLO.out k y hkT hy
      clear hc hy HC
      go_wp2
      refine ord_start [(0, true), (1, true), (2, true), (3, true), (4, true), (5, true), (6, true), (7, true), (8, true), (9, true), (10, true), (11, true), (12, true), (13, true)] (fun W => W.cell? ⟨b, off + k * 4, none⟩ = some (sv y.box.name) ∧ W.cell? ⟨w.heap.size, 0, none⟩ = some (sv q.box.name)) (by kernel_rfl) (by kernel_rfl) rfl (by kernel_rfl) ?_
      intro ops' hops
      simp only [List.map_cons, List.map_nil, pickOp_zero, pickOp_succ]
      iterate 3 (refine ord_flo ?_ (fun _ _ _ h => h) rfl ?_ ⟨e0, f0⟩ ?_; rotate_left; focus (intro W hS; obtain ⟨s1, s2⟩ := hS; go_simp; rfl))
      refine ord_flo (.bool true) (fun _ _ _ h => h) (by rw [hops.out]; kernel_rfl) ?_ ⟨e0, f0⟩ ?_
      · intro W hS
        obtain ⟨s1, s2⟩ := hS
        go_simp <;> omega
      iterate 1 (refine ord_flo ?_ (fun _ _ _ h => h) rfl ?_ ⟨e0, f0⟩ ?_; rotate_left; focus (intro W hS; obtain ⟨s1, s2⟩ := hS; go_simp; rfl))
      iterate 2 (refine ord_flo ?_ (fun _ _ _ h => h) (by rw [hops.out]; kernel_rfl) ?_ ⟨e0, f0⟩ ?_; rotate_left; focus (intro W hS; obtain ⟨s1, s2⟩ := hS; go_simp; rfl))
      refine ord_flo (.pointer (some ⟨b, off + k * 4, none⟩)) (fun _ _ _ h => h) (by rw [hops.out]; kernel_rfl) ?_ ⟨e0, f0⟩ ?_
      · intro W hS
        obtain ⟨s1, s2⟩ := hS
        go_simp; try (intro h; omega)
      iterate 4 (refine ord_flo ?_ (fun _ _ _ h => h) (by rw [hops.out]; kernel_rfl) ?_ ⟨e0, f0⟩ ?_; rotate_left; focus (intro W hS; obtain ⟨s1, s2⟩ := hS; go_simp; rfl))
      refine ord_flo (.bool true) (fun _ _ _ h => h) (by rw [hops.out]; kernel_rfl) ?_ ⟨e0, f0⟩ ?_
      · intro W hS
        obtain ⟨s1, s2⟩ := hS
        go_simp
      iterate 1 (refine ord_flo ?_ (fun _ _ _ h => h) rfl ?_ ⟨e0, f0⟩ ?_; rotate_left; focus (intro W hS; obtain ⟨s1, s2⟩ := hS; go_simp; rfl))
      refine ord_done ?_
      go_simp
      go_wp2
      go_roundw
      case rel => exact ⟨k + 1, by omega, by go_num, gd⟩
      case measure => simp [intOf]; omega
    case neg =>
      obtain rfl : k = T := by omega
      by_cases hlt : k < ps.length
      case pos =>
        have gd := hbr.drew
        obtain ⟨b, off, rfl, hb1, hc⟩ := HC.out.resolve_left (by intro h; subst h; simp at hlt)
        obtain ⟨y, hy⟩ : ∃ y, ps[k]? = some y := ⟨_, List.getElem?_eq_getElem hlt⟩
        have e0 : wr.drew.cell? ⟨b, off + k * 4, none⟩ = some (sv y.box.name) := ((HB.out _ gd).cell (p := ⟨b, off + k * 4, none⟩) hb1).trans (hc k y hy 0 _ rfl)
        have f0 := (Lib.cell_of_heap (HA.out _ gd) 0).trans (show _ = some (sv q.box.name) from rfl)
        have hq : Op.bytesLess y.box.name q.box.name = false := HHI.out y hy
        clear hc hy
        go_wp2
        refine ord_start [(0, true), (1, true), (2, true), (3, true), (4, true), (5, true), (6, true), (7, true), (8, true), (9, true), (10, true), (11, true), (12, true), (13, true)] (fun W => W.cell? ⟨b, off + k * 4, none⟩ = some (sv y.box.name) ∧ W.cell? ⟨w.heap.size, 0, none⟩ = some (sv q.box.name)) (by kernel_rfl) (by kernel_rfl) rfl (by kernel_rfl) ?_
        intro ops' hops
        simp only [List.map_cons, List.map_nil, pickOp_zero, pickOp_succ]
        iterate 3 (refine ord_flo ?_ (fun _ _ _ h => h) rfl ?_ ⟨e0, f0⟩ ?_; rotate_left; focus (intro W hS; obtain ⟨s1, s2⟩ := hS; go_simp; rfl))
        refine ord_flo (.bool true) (fun _ _ _ h => h) (by rw [hops.out]; kernel_rfl) ?_ ⟨e0, f0⟩ ?_
        · intro W hS
          obtain ⟨s1, s2⟩ := hS
          go_simp <;> omega
        iterate 1 (refine ord_flo ?_ (fun _ _ _ h => h) rfl ?_ ⟨e0, f0⟩ ?_; rotate_left; focus (intro W hS; obtain ⟨s1, s2⟩ := hS; go_simp; rfl))
        iterate 2 (refine ord_flo ?_ (fun _ _ _ h => h) (by rw [hops.out]; kernel_rfl) ?_ ⟨e0, f0⟩ ?_; rotate_left; focus (intro W hS; obtain ⟨s1, s2⟩ := hS; go_simp; rfl))
        refine ord_flo (.pointer (some ⟨b, off + k * 4, none⟩)) (fun _ _ _ h => h) (by rw [hops.out]; kernel_rfl) ?_ ⟨e0, f0⟩ ?_
        · intro W hS
          obtain ⟨s1, s2⟩ := hS
          go_simp; try (intro h; omega)
        iterate 4 (refine ord_flo ?_ (fun _ _ _ h => h) (by rw [hops.out]; kernel_rfl) ?_ ⟨e0, f0⟩ ?_; rotate_left; focus (intro W hS; obtain ⟨s1, s2⟩ := hS; go_simp; rfl))
        refine ord_flo (.bool false) (fun _ _ _ h => h) (by rw [hops.out]; kernel_rfl) ?_ ⟨e0, f0⟩ ?_
        · intro W hS
          obtain ⟨s1, s2⟩ := hS
          go_simp
        iterate 1 (refine ord_flo ?_ (fun _ _ _ h => h) rfl ?_ ⟨e0, f0⟩ ?_; rotate_left; focus (intro W hS; obtain ⟨s1, s2⟩ := hS; go_simp; rfl))
        refine ord_done ?_
        go_simp
        go_wp2
        have ge := gd.drew
        have HS := Lib.hid (show ∀ W, Below (wr.drew.drew).heap.size wr.drew.drew W → W.cell? ⟨w.heap.size, 0, none⟩ = some (sv q.box.name) ∧ W.cell? ⟨w.heap.size, 1, none⟩ = some (.int .i64 q.box.validity) ∧ W.cell? ⟨w.heap.size, 2, none⟩ = some (.int .i64 q.box.next) ∧ W.cell? ⟨w.heap.size, 3, none⟩ = some (.slice q.pt q.box.msgs.length q.cp) from fun W g => (blk_4c (HA.out W (ge.trans (g.mono ge.size)))).1)
        have hw := HB.out _ ge
        have R1 := Lib.hid (rd_takeP (HR.out.below hw) hTl c)
        have R2 := Lib.hid (rd_dropP (HR.out.below hw) hTl hcl)
        have hw1 := hw.size
        have HW := Lib.hid hw
        clear HC HA HZ HR ge hw gd hbr HLO HHI
        refine ordT_start (OTree.flo 1 (.flo 2 (.flo 3 (.flo 5 (.fork 0 (.fork 4 (.ev 6 (.ev 7 (.flo 8 .nil))) 6 (.ev 4 (.ev 7 (.flo 8 .nil)))) 6 (.ev 0 (.ev 4 (.ev 7 (.flo 8 .nil))))))))) (fun W => W.cell? ⟨w.heap.size, 0, none⟩ = some (sv q.box.name) ∧ W.cell? ⟨w.heap.size, 1, none⟩ = some (.int .i64 q.box.validity) ∧ W.cell? ⟨w.heap.size, 2, none⟩ = some (.int .i64 q.box.next) ∧ W.cell? ⟨w.heap.size, 3, none⟩ = some (.slice q.pt q.box.msgs.length q.cp)) (by kernel_rfl) (by kernel_rfl) rfl (by kernel_rfl) ?_
        intro ops1 hops1
        generalize wr.drew.drew = X0 at *
        have g0 := get_of hops1 0
        have g1 := get_of hops1 1
        have g2 := get_of hops1 2
        have g3 := get_of hops1 3
        have g4 := get_of hops1 4
        have g5 := get_of hops1 5
        have g6 := get_of hops1 6
        have g7 := get_of hops1 7
        have g8 := get_of hops1 8
        simp only [List.getElem?_toArray, List.getElem?_cons_zero, List.getElem?_cons_succ] at g0 g1 g2 g3 g4 g5 g6 g7 g8
        clear hops1
        have HN := Lib.hid (HS.out _ (Below.refl _ _))
        refine ordT_flo _ g1 ?_ (fun _ _ _ h => h) rfl ?_ HN.out ?_; rotate_left; focus (intro W hS; go_simp; rfl)
        refine ordT_flo _ g2 ?_ (fun _ _ _ h => h) rfl ?_ HN.out ?_; rotate_left; focus (intro W hS; go_simp; rfl)
        refine ordT_flo _ g3 (.slice (some ⟨b, off, none⟩) k c) (fun _ _ _ h => h) rfl ?_ HN.out ?_
        · intro W hS
          go_simp <;> omega
        refine ordT_flo _ g5 ?_ (fun _ _ _ h => h) rfl ?_ HN.out ?_; rotate_left; focus (intro W hS; obtain ⟨s0, s1, s2, s3⟩ := hS; go_simp; rfl)
        refine ordT_fork _ _ g0 g6 rfl rfl ?_ ?_
        · go_simp
          have b1 : Below X0.heap.size X0 (X0.alloc (.cells #[] 38)) := (Below.refl _ _).alloc (Nat.le_refl _) _
          have o1 : (X0.alloc (.cells #[] 38)).ownsRow X0.heap.size 38 4 (.slice (some ⟨X0.heap.size, 0, none⟩) 0 0) 0 [] := World.ownsRow_made X0 #[] 0 (Nat.le_refl _) (by unfold maxLen; omega) (by simp)
          refine ⟨HS.out _ b1, ?_⟩
          refine ordT_fork _ _ g4 g6 rfl rfl ?_ ?_
          · refine wp_appR Tryz.el_box encP_len encP_one (.tmp 23) (.tmp 26) rfl X0 (.slice (some ⟨X0.heap.size, 0, none⟩) 0 0) 0 [] rfl o1 b1 (b1).size _ (ps.take k) rfl (R1.out.below b1) (by simp; omega) (by simp; omega) ?_
            intro v1 w1 ho1 hb1 hg1
            refine ⟨HS.out _ hb1, ?_⟩
            refine ordT_ev _ g6 rfl ?_
            go_simp
            have b2 := hb1.alloc hb1.size (.cells #[sv q.box.name, .int .i64 q.box.validity, .int .i64 q.box.next, .slice q.pt q.box.msgs.length q.cp] 38)
            refine ⟨HS.out _ b2, ?_⟩
            have l2 := rd_one q (heap_alloc_new w1 (.cells #[sv q.box.name, .int .i64 q.box.validity, .int .i64 q.box.next, .slice q.pt q.box.msgs.length q.cp] 38))
            refine ordT_ev _ g7 rfl ?_
            refine wp_appR Tryz.el_box encP_len encP_one (.tmp 27) (.tmp 29) rfl X0 v1 _ _ rfl (ho1.alloc _) b2 (b2).size _ [q] rfl l2 (by simp; omega) (by simp; omega) ?_
            intro v2 w2 ho2 hb3 _
            refine ⟨HS.out _ hb3, ?_⟩
            refine ordT_flo _ g8 ?_ (fun _ _ _ h => h) rfl ?_ (HS.out _ hb3) ?_; rotate_left; focus (intro W hS; go_simp; rfl)
            refine ordT_done ?_
            have HO2 := Lib.hid ho2
            have HB3 := Lib.hid hb3
            have R3 := R2.out.below hb3
            clear ho1 hb1 hg1 ho2 hb3 g0 g1 g2 g3 g4 g5 g6 g7 g8 HS HN R1
            by_cases hck : c = k
            case pos =>
              exact absurd hck (by omega)
            case neg =>
              rw [if_neg hck, Option.map_some, add9] at R3
              have HR3 := Lib.hid R3
              clear R3
              go_wp2_with (at_builtin; refine wpList_app9 rfl Tryz.el_box encP_len encP_one (.tmp 31) (.tmp 34) rfl X0 v2 _ _ rfl HO2.out HB3.out HB3.out.size _ (ps.drop k) rfl HR3.out (by simp; omega) (by simp; omega) ?_)
              intro v3 w3 ho3 hb4 _
              have HF := Lib.hid (show w3.ownsRow w.heap.size 38 4 v3 (layP ps q).length ((layP ps q).flatMap encP) ∧ Below w.heap.size w w3 from ⟨by
                have h1 := own9_lower ho3 hw1
                have h2 : k + 1 + (ps.length - k) = ps.length + 1 := by omega
                rw [h2] at h1
                rw [layP_len, HV.out]
                simpa using h1, HW.out.trans (hb4.mono hw1)⟩)
              clear ho3 hb4
              go_wp2
              go_ret
              exact ⟨_, rfl, HF.out.1, HF.out.2⟩
          · go_simp
            have b2 := b1.alloc b1.size (.cells #[sv q.box.name, .int .i64 q.box.validity, .int .i64 q.box.next, .slice q.pt q.box.msgs.length q.cp] 38)
            refine ⟨HS.out _ b2, ?_⟩
            have l2 := heap_alloc_new (X0.alloc (.cells #[] 38)) (.cells #[sv q.box.name, .int .i64 q.box.validity, .int .i64 q.box.next, .slice q.pt q.box.msgs.length q.cp] 38)
            rw [World.size_alloc] at l2
            refine ordT_ev _ g4 rfl ?_
            refine wp_appR Tryz.el_box encP_len encP_one (.tmp 23) (.tmp 26) rfl X0 (.slice (some ⟨X0.heap.size, 0, none⟩) 0 0) 0 [] rfl (o1.alloc _) b2 (b2).size _ (ps.take k) rfl (R1.out.below b2) (by simp; omega) (by simp; omega) ?_
            intro v1 w1 ho1 hb1 hg1
            refine ⟨HS.out _ hb1, ?_⟩
            have l3 := rd_one q ((hg1.block _ (Array.getElem?_eq_some_iff.1 l2).1 (by intro e; injection e with e; dsimp only at e; omega)).trans l2)
            refine ordT_ev _ g7 rfl ?_
            refine wp_appR Tryz.el_box encP_len encP_one (.tmp 27) (.tmp 29) rfl X0 v1 _ _ rfl ho1 hb1 (hb1).size _ [q] rfl l3 (by simp; omega) (by simp; omega) ?_
            intro v2 w2 ho2 hb3 _
            refine ⟨HS.out _ hb3, ?_⟩
            refine ordT_flo _ g8 ?_ (fun _ _ _ h => h) rfl ?_ (HS.out _ hb3) ?_; rotate_left; focus (intro W hS; go_simp; rfl)
            refine ordT_done ?_
            have HO2 := Lib.hid ho2
            have HB3 := Lib.hid hb3
            have R3 := R2.out.below hb3
            clear ho1 hb1 hg1 ho2 hb3 g0 g1 g2 g3 g4 g5 g6 g7 g8 HS HN R1
            by_cases hck : c = k
            case pos =>
              exact absurd hck (by omega)
            case neg =>
              rw [if_neg hck, Option.map_some, add9] at R3
              have HR3 := Lib.hid R3
              clear R3
              go_wp2_with (at_builtin; refine wpList_app9 rfl Tryz.el_box encP_len encP_one (.tmp 31) (.tmp 34) rfl X0 v2 _ _ rfl HO2.out HB3.out HB3.out.size _ (ps.drop k) rfl HR3.out (by simp; omega) (by simp; omega) ?_)
              intro v3 w3 ho3 hb4 _
              have HF := Lib.hid (show w3.ownsRow w.heap.size 38 4 v3 (layP ps q).length ((layP ps q).flatMap encP) ∧ Below w.heap.size w w3 from ⟨by
                have h1 := own9_lower ho3 hw1
                have h2 : k + 1 + (ps.length - k) = ps.length + 1 := by omega
                rw [h2] at h1
                rw [layP_len, HV.out]
                simpa using h1, HW.out.trans (hb4.mono hw1)⟩)
              clear ho3 hb4
              go_wp2
              go_ret
              exact ⟨_, rfl, HF.out.1, HF.out.2⟩
        · go_simp
          have b1 : Below X0.heap.size X0 (X0.alloc (.cells #[sv q.box.name, .int .i64 q.box.validity, .int .i64 q.box.next, .slice q.pt q.box.msgs.length q.cp] 38)) := (Below.refl _ _).alloc (Nat.le_refl _) _
          have l1 := heap_alloc_new X0 (.cells #[sv q.box.name, .int .i64 q.box.validity, .int .i64 q.box.next, .slice q.pt q.box.msgs.length q.cp] 38)
          refine ⟨HS.out _ b1, ?_⟩
          refine ordT_ev _ g0 rfl ?_
          go_simp
          have b2 := b1.alloc b1.size (.cells #[] 38)
          have o1 : ((X0.alloc (.cells #[sv q.box.name, .int .i64 q.box.validity, .int .i64 q.box.next, .slice q.pt q.box.msgs.length q.cp] 38)).alloc (.cells #[] 38)).ownsRow X0.heap.size 38 4 (.slice (some ⟨X0.heap.size + 1, 0, none⟩) 0 0) 0 [] := by
            have := World.ownsRow_made (base := X0.heap.size) (e := 38) (size := 4) (X0.alloc (.cells #[sv q.box.name, .int .i64 q.box.validity, .int .i64 q.box.next, .slice q.pt q.box.msgs.length q.cp] 38)) #[] 0 (by simp) (by unfold maxLen; omega) (by simp)
            simpa using this
          have l2 := (Below.heap_alloc (X0.alloc (.cells #[sv q.box.name, .int .i64 q.box.validity, .int .i64 q.box.next, .slice q.pt q.box.msgs.length q.cp] 38)) (.cells #[] 38) _ (by simp)).trans l1
          refine ⟨HS.out _ b2, ?_⟩
          refine ordT_ev _ g4 rfl ?_
          refine wp_appR Tryz.el_box encP_len encP_one (.tmp 23) (.tmp 26) rfl X0 (.slice (some ⟨X0.heap.size + 1, 0, none⟩) 0 0) 0 [] rfl o1 b2 (b2).size _ (ps.take k) rfl (R1.out.below b2) (by simp; omega) (by simp; omega) ?_
          intro v1 w1 ho1 hb1 hg1
          refine ⟨HS.out _ hb1, ?_⟩
          have l3 := rd_one q ((hg1.block _ (Array.getElem?_eq_some_iff.1 l2).1 (by intro e; injection e with e; dsimp only at e; omega)).trans l2)
          refine ordT_ev _ g7 rfl ?_
          refine wp_appR Tryz.el_box encP_len encP_one (.tmp 27) (.tmp 29) rfl X0 v1 _ _ rfl ho1 hb1 (hb1).size _ [q] rfl l3 (by simp; omega) (by simp; omega) ?_
          intro v2 w2 ho2 hb3 _
          refine ⟨HS.out _ hb3, ?_⟩
          refine ordT_flo _ g8 ?_ (fun _ _ _ h => h) rfl ?_ (HS.out _ hb3) ?_; rotate_left; focus (intro W hS; go_simp; rfl)
          refine ordT_done ?_
          have HO2 := Lib.hid ho2
          have HB3 := Lib.hid hb3
          have R3 := R2.out.below hb3
          clear ho1 hb1 hg1 ho2 hb3 g0 g1 g2 g3 g4 g5 g6 g7 g8 HS HN R1
          by_cases hck : c = k
          case pos =>
            exact absurd hck (by omega)
          case neg =>
            rw [if_neg hck, Option.map_some, add9] at R3
            have HR3 := Lib.hid R3
            clear R3
            go_wp2_with (at_builtin; refine wpList_app9 rfl Tryz.el_box encP_len encP_one (.tmp 31) (.tmp 34) rfl X0 v2 _ _ rfl HO2.out HB3.out HB3.out.size _ (ps.drop k) rfl HR3.out (by simp; omega) (by simp; omega) ?_)
            intro v3 w3 ho3 hb4 _
            have HF := Lib.hid (show w3.ownsRow w.heap.size 38 4 v3 (layP ps q).length ((layP ps q).flatMap encP) ∧ Below w.heap.size w w3 from ⟨by
              have h1 := own9_lower ho3 hw1
              have h2 : k + 1 + (ps.length - k) = ps.length + 1 := by omega
              rw [h2] at h1
              rw [layP_len, HV.out]
              simpa using h1, HW.out.trans (hb4.mono hw1)⟩)
            clear ho3 hb4
            go_wp2
            go_ret
            exact ⟨_, rfl, HF.out.1, HF.out.2⟩
      case neg =>
        have gd := hbr.drew
        go_wp2
        refine ord_start [(0, true), (1, true), (2, true), (3, true), (4, true), (5, true), (6, true), (7, true), (8, true), (9, true), (10, true), (11, true), (12, true), (13, true)] (fun _ => True) (by kernel_rfl) (by kernel_rfl) rfl (by kernel_rfl) ?_
        intro ops' hops
        simp only [List.map_cons, List.map_nil, pickOp_zero, pickOp_succ]
        iterate 3 (refine ord_flo ?_ (fun _ _ _ h => h) rfl ?_ trivial ?_; rotate_left; focus (intro _ _; go_simp; rfl))
        refine ord_flo (.bool false) (fun _ _ _ h => h) (by rw [hops.out]; kernel_rfl) ?_ trivial ?_
        · intro W hS
          go_simp <;> omega
        iterate 1 (refine ord_flo ?_ (fun _ _ _ h => h) rfl ?_ trivial ?_; rotate_left; focus (intro _ _; go_simp; rfl))
        iterate 8 (refine ord_not (fun _ _ _ h => h) (by rw [hops.out]; kernel_rfl) trivial ?_)
        iterate 1 (refine ord_flo ?_ (fun _ _ _ h => h) rfl ?_ trivial ?_; rotate_left; focus (intro _ _; go_simp; rfl))
        refine ord_done ?_
        go_simp
        go_wp2
        have ge := gd.drew
        have HS := Lib.hid (show ∀ W, Below (wr.drew.drew).heap.size wr.drew.drew W → W.cell? ⟨w.heap.size, 0, none⟩ = some (sv q.box.name) ∧ W.cell? ⟨w.heap.size, 1, none⟩ = some (.int .i64 q.box.validity) ∧ W.cell? ⟨w.heap.size, 2, none⟩ = some (.int .i64 q.box.next) ∧ W.cell? ⟨w.heap.size, 3, none⟩ = some (.slice q.pt q.box.msgs.length q.cp) from fun W g => (blk_4c (HA.out W (ge.trans (g.mono ge.size)))).1)
        have hw := HB.out _ ge
        have R1 := Lib.hid (rd_takeP (HR.out.below hw) hTl c)
        have R2 := Lib.hid (rd_dropP (HR.out.below hw) hTl hcl)
        have hw1 := hw.size
        have HW := Lib.hid hw
        clear HC HA HZ HR ge hw gd hbr HLO HHI
        refine ordT_start (OTree.flo 1 (.flo 2 (.flo 3 (.flo 5 (.fork 0 (.fork 4 (.ev 6 (.ev 7 (.flo 8 .nil))) 6 (.ev 4 (.ev 7 (.flo 8 .nil)))) 6 (.ev 0 (.ev 4 (.ev 7 (.flo 8 .nil))))))))) (fun W => W.cell? ⟨w.heap.size, 0, none⟩ = some (sv q.box.name) ∧ W.cell? ⟨w.heap.size, 1, none⟩ = some (.int .i64 q.box.validity) ∧ W.cell? ⟨w.heap.size, 2, none⟩ = some (.int .i64 q.box.next) ∧ W.cell? ⟨w.heap.size, 3, none⟩ = some (.slice q.pt q.box.msgs.length q.cp)) (by kernel_rfl) (by kernel_rfl) rfl (by kernel_rfl) ?_
        intro ops1 hops1
        generalize wr.drew.drew = X0 at *
        have g0 := get_of hops1 0
        have g1 := get_of hops1 1
        have g2 := get_of hops1 2
        have g3 := get_of hops1 3
        have g4 := get_of hops1 4
        have g5 := get_of hops1 5
        have g6 := get_of hops1 6
        have g7 := get_of hops1 7
        have g8 := get_of hops1 8
        simp only [List.getElem?_toArray, List.getElem?_cons_zero, List.getElem?_cons_succ] at g0 g1 g2 g3 g4 g5 g6 g7 g8
        clear hops1
        have HN := Lib.hid (HS.out _ (Below.refl _ _))
        refine ordT_flo _ g1 ?_ (fun _ _ _ h => h) rfl ?_ HN.out ?_; rotate_left; focus (intro W hS; go_simp; rfl)
        refine ordT_flo _ g2 ?_ (fun _ _ _ h => h) rfl ?_ HN.out ?_; rotate_left; focus (intro W hS; go_simp; rfl)
        refine ordT_flo _ g3 (.slice p k c) (fun _ _ _ h => h) rfl ?_ HN.out ?_
        · intro W hS
          go_simp <;> omega
        refine ordT_flo _ g5 ?_ (fun _ _ _ h => h) rfl ?_ HN.out ?_; rotate_left; focus (intro W hS; obtain ⟨s0, s1, s2, s3⟩ := hS; go_simp; rfl)
        refine ordT_fork _ _ g0 g6 rfl rfl ?_ ?_
        · go_simp
          have b1 : Below X0.heap.size X0 (X0.alloc (.cells #[] 38)) := (Below.refl _ _).alloc (Nat.le_refl _) _
          have o1 : (X0.alloc (.cells #[] 38)).ownsRow X0.heap.size 38 4 (.slice (some ⟨X0.heap.size, 0, none⟩) 0 0) 0 [] := World.ownsRow_made X0 #[] 0 (Nat.le_refl _) (by unfold maxLen; omega) (by simp)
          refine ⟨HS.out _ b1, ?_⟩
          refine ordT_fork _ _ g4 g6 rfl rfl ?_ ?_
          · refine wp_appR Tryz.el_box encP_len encP_one (.tmp 23) (.tmp 26) rfl X0 (.slice (some ⟨X0.heap.size, 0, none⟩) 0 0) 0 [] rfl o1 b1 (b1).size _ (ps.take k) rfl (R1.out.below b1) (by simp; omega) (by simp; omega) ?_
            intro v1 w1 ho1 hb1 hg1
            refine ⟨HS.out _ hb1, ?_⟩
            refine ordT_ev _ g6 rfl ?_
            go_simp
            have b2 := hb1.alloc hb1.size (.cells #[sv q.box.name, .int .i64 q.box.validity, .int .i64 q.box.next, .slice q.pt q.box.msgs.length q.cp] 38)
            refine ⟨HS.out _ b2, ?_⟩
            have l2 := rd_one q (heap_alloc_new w1 (.cells #[sv q.box.name, .int .i64 q.box.validity, .int .i64 q.box.next, .slice q.pt q.box.msgs.length q.cp] 38))
            refine ordT_ev _ g7 rfl ?_
            refine wp_appR Tryz.el_box encP_len encP_one (.tmp 27) (.tmp 29) rfl X0 v1 _ _ rfl (ho1.alloc _) b2 (b2).size _ [q] rfl l2 (by simp; omega) (by simp; omega) ?_
            intro v2 w2 ho2 hb3 _
            refine ⟨HS.out _ hb3, ?_⟩
            refine ordT_flo _ g8 ?_ (fun _ _ _ h => h) rfl ?_ (HS.out _ hb3) ?_; rotate_left; focus (intro W hS; go_simp; rfl)
            refine ordT_done ?_
            have HO2 := Lib.hid ho2
            have HB3 := Lib.hid hb3
            have R3 := R2.out.below hb3
            clear ho1 hb1 hg1 ho2 hb3 g0 g1 g2 g3 g4 g5 g6 g7 g8 HS HN R1
            by_cases hck : c = k
            case pos =>
              rw [if_pos hck] at R3
              have HR3 := Lib.hid R3
              clear R3
              have hkl : ps.length = k := by omega
              have HR4 := Lib.hid (show Rd 4 encP w2 (.slice p (ps.length - k) 0) (ps.drop k) from ⟨p, 0, by rw [List.length_drop], .inl (List.drop_eq_nil_of_le (by omega))⟩)
              clear hkl
              go_wp2_with (at_builtin; refine wpList_app9 rfl Tryz.el_box encP_len encP_one (.tmp 31) (.tmp 34) rfl X0 v2 _ _ rfl HO2.out HB3.out HB3.out.size _ (ps.drop k) rfl HR4.out (by simp; omega) (by simp; omega) ?_)
              intro v3 w3 ho3 hb4 _
              have HF := Lib.hid (show w3.ownsRow w.heap.size 38 4 v3 (layP ps q).length ((layP ps q).flatMap encP) ∧ Below w.heap.size w w3 from ⟨by
                have h1 := own9_lower ho3 hw1
                have h2 : k + 1 + (ps.length - k) = ps.length + 1 := by omega
                rw [h2] at h1
                rw [layP_len, HV.out]
                simpa using h1, HW.out.trans (hb4.mono hw1)⟩)
              clear ho3 hb4
              go_wp2
              go_ret
              exact ⟨_, rfl, HF.out.1, HF.out.2⟩
            case neg =>
              rw [if_neg hck] at R3
              have HR3 := Lib.hid R3
              clear R3
              go_wp2_with (at_builtin; refine wpList_app9 rfl Tryz.el_box encP_len encP_one (.tmp 31) (.tmp 34) rfl X0 v2 _ _ rfl HO2.out HB3.out HB3.out.size _ (ps.drop k) rfl HR3.out (by simp; omega) (by simp; omega) ?_)
              intro v3 w3 ho3 hb4 _
              have HF := Lib.hid (show w3.ownsRow w.heap.size 38 4 v3 (layP ps q).length ((layP ps q).flatMap encP) ∧ Below w.heap.size w w3 from ⟨by
                have h1 := own9_lower ho3 hw1
                have h2 : k + 1 + (ps.length - k) = ps.length + 1 := by omega
                rw [h2] at h1
                rw [layP_len, HV.out]
                simpa using h1, HW.out.trans (hb4.mono hw1)⟩)
              clear ho3 hb4
              go_wp2
              go_ret
              exact ⟨_, rfl, HF.out.1, HF.out.2⟩
          · go_simp
            have b2 := b1.alloc b1.size (.cells #[sv q.box.name, .int .i64 q.box.validity, .int .i64 q.box.next, .slice q.pt q.box.msgs.length q.cp] 38)
            refine ⟨HS.out _ b2, ?_⟩
            have l2 := heap_alloc_new (X0.alloc (.cells #[] 38)) (.cells #[sv q.box.name, .int .i64 q.box.validity, .int .i64 q.box.next, .slice q.pt q.box.msgs.length q.cp] 38)
            rw [World.size_alloc] at l2
            refine ordT_ev _ g4 rfl ?_
            refine wp_appR Tryz.el_box encP_len encP_one (.tmp 23) (.tmp 26) rfl X0 (.slice (some ⟨X0.heap.size, 0, none⟩) 0 0) 0 [] rfl (o1.alloc _) b2 (b2).size _ (ps.take k) rfl (R1.out.below b2) (by simp; omega) (by simp; omega) ?_
            intro v1 w1 ho1 hb1 hg1
            refine ⟨HS.out _ hb1, ?_⟩
            have l3 := rd_one q ((hg1.block _ (Array.getElem?_eq_some_iff.1 l2).1 (by intro e; injection e with e; dsimp only at e; omega)).trans l2)
            refine ordT_ev _ g7 rfl ?_
            refine wp_appR Tryz.el_box encP_len encP_one (.tmp 27) (.tmp 29) rfl X0 v1 _ _ rfl ho1 hb1 (hb1).size _ [q] rfl l3 (by simp; omega) (by simp; omega) ?_
            intro v2 w2 ho2 hb3 _
            refine ⟨HS.out _ hb3, ?_⟩
            refine ordT_flo _ g8 ?_ (fun _ _ _ h => h) rfl ?_ (HS.out _ hb3) ?_; rotate_left; focus (intro W hS; go_simp; rfl)
            refine ordT_done ?_
            have HO2 := Lib.hid ho2
            have HB3 := Lib.hid hb3
            have R3 := R2.out.below hb3
            clear ho1 hb1 hg1 ho2 hb3 g0 g1 g2 g3 g4 g5 g6 g7 g8 HS HN R1
            by_cases hck : c = k
            case pos =>
              rw [if_pos hck] at R3
              have HR3 := Lib.hid R3
              clear R3
              have hkl : ps.length = k := by omega
              have HR4 := Lib.hid (show Rd 4 encP w2 (.slice p (ps.length - k) 0) (ps.drop k) from ⟨p, 0, by rw [List.length_drop], .inl (List.drop_eq_nil_of_le (by omega))⟩)
              clear hkl
              go_wp2_with (at_builtin; refine wpList_app9 rfl Tryz.el_box encP_len encP_one (.tmp 31) (.tmp 34) rfl X0 v2 _ _ rfl HO2.out HB3.out HB3.out.size _ (ps.drop k) rfl HR4.out (by simp; omega) (by simp; omega) ?_)
              intro v3 w3 ho3 hb4 _
              have HF := Lib.hid (show w3.ownsRow w.heap.size 38 4 v3 (layP ps q).length ((layP ps q).flatMap encP) ∧ Below w.heap.size w w3 from ⟨by
                have h1 := own9_lower ho3 hw1
                have h2 : k + 1 + (ps.length - k) = ps.length + 1 := by omega
                rw [h2] at h1
                rw [layP_len, HV.out]
                simpa using h1, HW.out.trans (hb4.mono hw1)⟩)
              clear ho3 hb4
              go_wp2
              go_ret
              exact ⟨_, rfl, HF.out.1, HF.out.2⟩
            case neg =>
              rw [if_neg hck] at R3
              have HR3 := Lib.hid R3
              clear R3
              go_wp2_with (at_builtin; refine wpList_app9 rfl Tryz.el_box encP_len encP_one (.tmp 31) (.tmp 34) rfl X0 v2 _ _ rfl HO2.out HB3.out HB3.out.size _ (ps.drop k) rfl HR3.out (by simp; omega) (by simp; omega) ?_)
              intro v3 w3 ho3 hb4 _
              have HF := Lib.hid (show w3.ownsRow w.heap.size 38 4 v3 (layP ps q).length ((layP ps q).flatMap encP) ∧ Below w.heap.size w w3 from ⟨by
                have h1 := own9_lower ho3 hw1
                have h2 : k + 1 + (ps.length - k) = ps.length + 1 := by omega
                rw [h2] at h1
                rw [layP_len, HV.out]
                simpa using h1, HW.out.trans (hb4.mono hw1)⟩)
              clear ho3 hb4
              go_wp2
              go_ret
              exact ⟨_, rfl, HF.out.1, HF.out.2⟩
        · go_simp
          have b1 : Below X0.heap.size X0 (X0.alloc (.cells #[sv q.box.name, .int .i64 q.box.validity, .int .i64 q.box.next, .slice q.pt q.box.msgs.length q.cp] 38)) := (Below.refl _ _).alloc (Nat.le_refl _) _
          have l1 := heap_alloc_new X0 (.cells #[sv q.box.name, .int .i64 q.box.validity, .int .i64 q.box.next, .slice q.pt q.box.msgs.length q.cp] 38)
          refine ⟨HS.out _ b1, ?_⟩
          refine ordT_ev _ g0 rfl ?_
          go_simp
          have b2 := b1.alloc b1.size (.cells #[] 38)
          have o1 : ((X0.alloc (.cells #[sv q.box.name, .int .i64 q.box.validity, .int .i64 q.box.next, .slice q.pt q.box.msgs.length q.cp] 38)).alloc (.cells #[] 38)).ownsRow X0.heap.size 38 4 (.slice (some ⟨X0.heap.size + 1, 0, none⟩) 0 0) 0 [] := by
            have := World.ownsRow_made (base := X0.heap.size) (e := 38) (size := 4) (X0.alloc (.cells #[sv q.box.name, .int .i64 q.box.validity, .int .i64 q.box.next, .slice q.pt q.box.msgs.length q.cp] 38)) #[] 0 (by simp) (by unfold maxLen; omega) (by simp)
            simpa using this
          have l2 := (Below.heap_alloc (X0.alloc (.cells #[sv q.box.name, .int .i64 q.box.validity, .int .i64 q.box.next, .slice q.pt q.box.msgs.length q.cp] 38)) (.cells #[] 38) _ (by simp)).trans l1
          refine ⟨HS.out _ b2, ?_⟩
          refine ordT_ev _ g4 rfl ?_
          refine wp_appR Tryz.el_box encP_len encP_one (.tmp 23) (.tmp 26) rfl X0 (.slice (some ⟨X0.heap.size + 1, 0, none⟩) 0 0) 0 [] rfl o1 b2 (b2).size _ (ps.take k) rfl (R1.out.below b2) (by simp; omega) (by simp; omega) ?_
          intro v1 w1 ho1 hb1 hg1
          refine ⟨HS.out _ hb1, ?_⟩
          have l3 := rd_one q ((hg1.block _ (Array.getElem?_eq_some_iff.1 l2).1 (by intro e; injection e with e; dsimp only at e; omega)).trans l2)
          refine ordT_ev _ g7 rfl ?_
          refine wp_appR Tryz.el_box encP_len encP_one (.tmp 27) (.tmp 29) rfl X0 v1 _ _ rfl ho1 hb1 (hb1).size _ [q] rfl l3 (by simp; omega) (by simp; omega) ?_
          intro v2 w2 ho2 hb3 _
          refine ⟨HS.out _ hb3, ?_⟩
          refine ordT_flo _ g8 ?_ (fun _ _ _ h => h) rfl ?_ (HS.out _ hb3) ?_; rotate_left; focus (intro W hS; go_simp; rfl)
          refine ordT_done ?_
          have HO2 := Lib.hid ho2
          have HB3 := Lib.hid hb3
          have R3 := R2.out.below hb3
          clear ho1 hb1 hg1 ho2 hb3 g0 g1 g2 g3 g4 g5 g6 g7 g8 HS HN R1
          by_cases hck : c = k
          case pos =>
            rw [if_pos hck] at R3
            have HR3 := Lib.hid R3
            clear R3
            have hkl : ps.length = k := by omega
            have HR4 := Lib.hid (show Rd 4 encP w2 (.slice p (ps.length - k) 0) (ps.drop k) from ⟨p, 0, by rw [List.length_drop], .inl (List.drop_eq_nil_of_le (by omega))⟩)
            clear hkl
            go_wp2_with (at_builtin; refine wpList_app9 rfl Tryz.el_box encP_len encP_one (.tmp 31) (.tmp 34) rfl X0 v2 _ _ rfl HO2.out HB3.out HB3.out.size _ (ps.drop k) rfl HR4.out (by simp; omega) (by simp; omega) ?_)
            intro v3 w3 ho3 hb4 _
            have HF := Lib.hid (show w3.ownsRow w.heap.size 38 4 v3 (layP ps q).length ((layP ps q).flatMap encP) ∧ Below w.heap.size w w3 from ⟨by
              have h1 := own9_lower ho3 hw1
              have h2 : k + 1 + (ps.length - k) = ps.length + 1 := by omega
              rw [h2] at h1
              rw [layP_len, HV.out]
              simpa using h1, HW.out.trans (hb4.mono hw1)⟩)
            clear ho3 hb4
            go_wp2
            go_ret
            exact ⟨_, rfl, HF.out.1, HF.out.2⟩
          case neg =>
            rw [if_neg hck] at R3
            have HR3 := Lib.hid R3
            clear R3
            go_wp2_with (at_builtin; refine wpList_app9 rfl Tryz.el_box encP_len encP_one (.tmp 31) (.tmp 34) rfl X0 v2 _ _ rfl HO2.out HB3.out HB3.out.size _ (ps.drop k) rfl HR3.out (by simp; omega) (by simp; omega) ?_)
            intro v3 w3 ho3 hb4 _
            have HF := Lib.hid (show w3.ownsRow w.heap.size 38 4 v3 (layP ps q).length ((layP ps q).flatMap encP) ∧ Below w.heap.size w w3 from ⟨by
              have h1 := own9_lower ho3 hw1
              have h2 : k + 1 + (ps.length - k) = ps.length + 1 := by omega
              rw [h2] at h1
              rw [layP_len, HV.out]
              simpa using h1, HW.out.trans (hb4.mono hw1)⟩)
            clear ho3 hb4
            go_wp2
            go_ret
            exact ⟨_, rfl, HF.out.1, HF.out.2⟩

end Go.Proofs.YtbfgdbpfecffcaaGreatDoor
