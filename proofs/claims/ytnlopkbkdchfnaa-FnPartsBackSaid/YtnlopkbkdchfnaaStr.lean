/-
  The laws' own helpers on slices of strings: equality, marks.
-/
import Derived.Test.YtnlopkbkdchfnaaSlc
import Derived.Test.YtnlopkbkdchfnaaNumE
namespace Go.Proofs.Ytnlopkbkdchfnaa
open Go.RowKit
open Go.Lib (decDigits itoa)

set_option maxHeartbeats 400000 in
theorem eqStringS_same (a b : Value) (l : List (List UInt8)) (w : World) (ha : Rd1 sv w a l) (hb : Rd1 sv w b l) (hl : l.length ≤ 140737488355328) :
    Calls Try.prog 26 #[a, b] w fun e w' => e = .returned (.bool true) ∧ Below w.heap.size w w' := by
  obtain ⟨p, c1, rfl, hp⟩ := ha.ex
  obtain ⟨q, c2, rfl, hq⟩ := hb.ex
  clear ha hb
  have HP := Lib.hid hp
  have HQ := Lib.hid hq
  clear hp hq
  go_enter Try.func26, Try.ntmps26
  go_wp2
  go_loopw [5] (fun i wr => ∃ k : Nat, k ≤ l.length ∧ i = .int .i64 k ∧ Below w.heap.size w wr) (fun i _ => l.length - (intOf i).toNat)
  case atStart => exact ⟨0, by omega, rfl, Below.refl _ _⟩
  case round =>
    obtain ⟨k, hk, rfl, hbr⟩ := hrel
    by_cases hlt : k < l.length
    · obtain ⟨b1, o1, rfl, hb1, hc1⟩ := HP.out.resolve_left (by intro h; subst h; simp at hlt)
      obtain ⟨b2, o2, rfl, hb2, hc2⟩ := HQ.out.resolve_left (by intro h; subst h; simp at hlt)
      obtain ⟨x, hx⟩ : ∃ x, l[k]? = some x := ⟨_, List.getElem?_eq_getElem hlt⟩
      have e1 : wr.cell? ⟨b1, o1 + k, none⟩ = some (sv x) := (hbr.cell (p := ⟨b1, o1 + k, none⟩) hb1).trans (hc1 k x hx)
      have e2 : wr.cell? ⟨b2, o2 + k, none⟩ = some (sv x) := (hbr.cell (p := ⟨b2, o2 + k, none⟩) hb2).trans (hc2 k x hx)
      clear hc1 hc2 hx HP HQ
      go_wp2
      refine ord_start [(0, true), (1, true), (2, true), (3, true), (4, true), (5, true), (6, true), (7, true), (8, true)] (fun W => W.cell? ⟨b1, o1 + k, none⟩ = some (sv x) ∧ W.cell? ⟨b2, o2 + k, none⟩ = some (sv x)) (by kernel_rfl) (by kernel_rfl) rfl (by kernel_rfl) ?_
      intro ops' hops
      clear hops
      simp only [List.map_cons, List.map_nil, pickOp_zero, pickOp_succ]
      iterate 9 (refine ord_flo ?_ (fun _ _ _ h => h) rfl ?_ ⟨e1, e2⟩ ?_; rotate_left; focus (intro W hS; obtain ⟨s1, s2⟩ := hS; go_simp; rfl))
      refine ord_done ?_
      go_simp
      go_wp2
      go_roundw
      case rel => exact ⟨k + 1, by omega, by go_num, hbr.drew⟩
      case measure => simp [intOf]; omega
    · obtain rfl : k = l.length := by omega
      go_wp2
      go_ret
      exact ⟨rfl, hbr⟩

/-- The law's mark number k. -/
def markB (k : Nat) : List UInt8 := if k = 0 then [109, 48] else 109 :: decDigits k

set_option maxHeartbeats 400000 in
theorem markText_any (n : Nat) (w : World) (hn : n ≤ 9223372036854775807) :
    Calls Try.prog 47 #[.int .i64 n] w fun e w' => e = .returned (sv (markB n)) ∧ Below w.heap.size w w' := by
  by_cases h0 : n = 0
  · subst h0
    go_enter Try.func47, Try.ntmps47
    go_wp2
    go_ret
    exact ⟨rfl, Below.refl _ _⟩
  · have HM := Lib.hid (show markB n = 109 :: decDigits n from if_neg h0)
    have hl0 : ¬ (n : Int) ≤ 0 := by omega
    go_enter Try.func47, Try.ntmps47
    go_wp2
    go_loopw [0, 3] (fun x out wr => ∃ (m : Nat) (l : List UInt8), m ≤ n ∧ x = .int .i64 m ∧ out = sv l ∧ (m = 0 → l = decDigits n) ∧ (0 < m → decDigits m ++ l = decDigits n) ∧ Below w.heap.size w wr) (fun x _ _ => (intOf x).toNat)
    case atStart => exact ⟨n, [], by omega, rfl, rfl, by omega, by simp, Below.refl _ _⟩
    case round =>
      obtain ⟨m, l, hm, rfl, rfl, hz, hp, hbr⟩ := hrel
      have Hz := Lib.hid hz
      have Hp := Lib.hid hp
      clear hz hp hl0
      have hbr0 := hbr.size
      by_cases hm0 : m = 0
      · have hl := Lib.hid (Hz.out hm0)
        have hl1 : ¬ (0 : Int) < (m : Int) := by omega
        have hlen : l.length ≤ 21 := by rw [hl.out]; exact decDigits_length_le n hn
        clear hm0
        go_wp2
        go_ret
        refine ⟨?_, hbr⟩
        rw [HM.out, ← hl.out]
        rfl
      · have hl1 : (0 : Int) < (m : Int) := by omega
        have ht : ((m : Int)).tmod 10 = ((m % 10 : Nat) : Int) := by rw [Int.tmod_eq_emod_of_nonneg (by omega)]; omega
        have hq : ((m : Int)).tdiv 10 = ((m / 10 : Nat) : Int) := by rw [Int.tdiv_eq_ediv_of_nonneg (by omega)]; omega
        have ht0 : m % 10 < 10 := by omega
        have hcv := fun W g hc => conv_back1 (P := Try.prog) 22 9 5 Try.underlying22 Try.underlying5 Try.underlying9 (48 + (m : Int) % 10) (by omega) (by omega) 1 W g hc
        have hst := Lib.hid (dec_step hm0 (Hp.out (by omega)))
        have hlen : l.length ≤ 21 := by
          have := decDigits_length_le n hn
          rw [← Hp.out (by omega), List.length_append] at this
          omega
        have he8 : (48 : UInt8) + UInt8.ofNat (m % 10) = UInt8.ofNat (48 + m % 10) := by
          apply UInt8.toNat_inj.1
          simp
        have He8 := Lib.hid he8
        clear he8
        go_wp2
        go_roundw
        case rel =>
          refine ⟨m / 10, _ :: l, by omega, by go_num, ?_, hst.out.1, hst.out.2, hbr.alloc hbr0 _⟩
          rw [← He8.out]
          rfl
        case measure => simp [intOf]; omega

/-- The marks from number k on, as many as n. -/
def marks (k n : Nat) : List (List UInt8) := (List.range n).map fun i => markB (k + i)
theorem marks_length (k n : Nat) : (marks k n).length = n := by simp [marks]
theorem marks_at (k n i : Nat) (h : i < n) : (marks k n)[i]? = some (markB (k + i)) := by simp [marks, h]
/-- The first j elements marked. -/
def marked (l : List (List UInt8)) (k j : Nat) : List (List UInt8) := marks k j ++ l.drop j
theorem marked_zero (l : List (List UInt8)) (k : Nat) : marked l k 0 = l := by simp [marked, marks]
theorem marked_all (l : List (List UInt8)) (k : Nat) : marked l k l.length = marks k l.length := by simp [marked]
theorem marked_length (l : List (List UInt8)) (k j : Nat) (h : j ≤ l.length) : (marked l k j).length = l.length := by simp [marked, marks_length]; omega
theorem marked_set (l : List (List UInt8)) (k j : Nat) (h : j < l.length) : (marked l k j).set j (markB (k + j)) = marked l k (j + 1) := by
  unfold marked
  rw [List.set_append_right _ _ (by rw [marks_length]; omega), marks_length, Nat.sub_self, List.drop_eq_getElem_cons h, List.set_cons_zero]
  have : marks k (j + 1) = marks k j ++ [markB (k + j)] := by simp [marks, List.range_succ]
  rw [this, List.append_assoc]
  rfl

set_option maxHeartbeats 400000 in
theorem markStringS_any (v : Value) (l : List (List UInt8)) (kk : Int) (k B : Nat) (hkk : kk = (k : Int)) (w : World) (hown : w.ownsRow B 9 1 v l.length (l.map sv)) (hk : k ≤ 1000000000000) (hl : l.length ≤ 1000000000000) :
    Calls Try.prog 27 #[v, .int .i64 kk] w fun e w' => e = .returned (.int .i64 (k + l.length : Nat)) ∧ w'.ownsRow B 9 1 v l.length ((marks k l.length).map sv) ∧ w.grownBy w' v.ownBlock := by
  subst hkk
  have hex : ∃ p c, v = .slice p l.length c ∧ (0 < l.length → ∃ g, p = some ⟨g, 0, none⟩) := by
    rcases h : hown.2 with ⟨hv, h0⟩ | ⟨g, cap, cur, hv, _⟩
    · exact ⟨none, 0, by rw [hv, h0], fun h => by omega⟩
    · exact ⟨_, cap, hv, fun _ => ⟨g, rfl⟩⟩
  obtain ⟨p, c, rfl, hp⟩ := hex
  have HP := Lib.hid hp
  clear hp
  go_enter Try.func27, Try.ntmps27
  go_wp2
  go_loopw [1, 5] (fun kk i wr => ∃ j : Nat, j ≤ l.length ∧ i = .int .i64 j ∧ kk = .int .i64 (k + j : Nat) ∧ wr.ownsRow B 9 1 (.slice p l.length c) l.length ((marked l k j).map sv) ∧ w.grownBy wr (Value.ownBlock (.slice p l.length c))) (fun _ i _ => l.length - (intOf i).toNat)
  case atStart => exact ⟨0, by omega, rfl, rfl, by rw [marked_zero]; exact hown, World.grownBy.refl _ _⟩
  case round =>
    obtain ⟨j, hj, rfl, rfl, hor, hgr⟩ := hrel
    clear hown
    by_cases hlt : j < l.length
    · obtain ⟨g, rfl⟩ := HP.out (by omega)
      have hml : ((marked l k j).map sv).length = l.length := by rw [List.length_map, marked_length l k j hj]
      have Hml := Lib.hid hml
      clear hml HP
      go_wp2_with fail
      refine (markText_any (k + j) _ (by omega)).mono ?_
      rintro e w1 ⟨rfl, hb1⟩
      have ho1 := ownsRow_below hor hb1
      have hc1 : ∃ u, w1.cell? ⟨g, j, none⟩ = some u := by
        have := ho1.cellAt j (by omega)
        rw [this]
        exact ⟨_, List.getElem?_eq_getElem (by rw [Hml.out]; omega)⟩
      obtain ⟨u, hu⟩ := hc1
      have hf1 := ho1.frozenAt j
      go_wp2
      go_roundw
      case rel =>
        refine ⟨j + 1, by omega, by go_num, by go_num, ?_, ?_⟩
        · have := ho1.stored j (sv (markB (k + j)))
          rw [← List.map_set, marked_set l k j hlt] at this
          exact this.1
        · have := ho1.stored j (sv (markB (k + j)))
          exact grown_grown (grown_below hgr hb1) this.2
      case measure => simp [intOf]; omega
    · obtain rfl : j = l.length := by omega
      rw [marked_all] at hor
      go_wp2
      go_ret
      exact ⟨rfl, hor, hgr⟩

set_option maxHeartbeats 400000 in
theorem heldStringS_any (v : Value) (kk : Int) (n k : Nat) (hkk : kk = (k : Int)) (w : World) (hr : Rd1 sv w v (marks k n)) (hk : k ≤ 1000000000000) (hl : n ≤ 1000000000000) :
    Calls Try.prog 28 #[v, .int .i64 kk] w fun e w' => e = .returned (.int .i64 (k + n : Nat)) ∧ Below w.heap.size w w' := by
  subst hkk
  obtain ⟨p, c, hv, hp⟩ := hr.ex
  rw [marks_length] at hv
  subst hv
  have HP := Lib.hid hp
  clear hp hr
  go_enter Try.func28, Try.ntmps28
  go_wp2
  go_loopw [1, 5] (fun kk i wr => ∃ j : Nat, j ≤ n ∧ i = .int .i64 j ∧ kk = .int .i64 (k + j : Nat) ∧ Below w.heap.size w wr) (fun _ i _ => n - (intOf i).toNat)
  case atStart => exact ⟨0, by omega, rfl, rfl, Below.refl _ _⟩
  case round =>
    obtain ⟨j, hj, rfl, rfl, hbr⟩ := hrel
    have hbr0 := hbr.size
    by_cases hlt : j < n
    · obtain ⟨b, o, rfl, hb1, hc1⟩ := HP.out.resolve_left (by intro h; have := congrArg List.length h; rw [marks_length] at this; simp at this; omega)
      have e0 : w.cell? ⟨b, o + j, none⟩ = some (sv (markB (k + j))) := hc1 j _ (marks_at k n j hlt)
      have e1 : wr.cell? ⟨b, o + j, none⟩ = some (sv (markB (k + j))) := (hbr.cell (p := ⟨b, o + j, none⟩) hb1).trans e0
      clear hc1 HP
      go_wp2
      refine ord_start [(0, true), (1, true), (2, true), (3, true), (4, true), (5, false), (6, true)] (fun W => W.cell? ⟨b, o + j, none⟩ = some (sv (markB (k + j)))) (by kernel_rfl) (by kernel_rfl) rfl (by kernel_rfl) ?_
      intro ops' hops
      clear hops
      simp only [List.map_cons, List.map_nil, pickOp_zero, pickOp_succ]
      iterate 5 (refine ord_flo ?_ (fun _ _ _ h => h) rfl ?_ e1 ?_; rotate_left; focus (intro W hS; obtain s1 := hS; go_simp; rfl))
      refine ord_ev rfl ?_
      go_simp
      refine (markText_any (k + j) _ (by omega)).mono ?_
      rintro e w1 ⟨rfl, hb2⟩
      have e2 : w1.cell? ⟨b, o + j, none⟩ = some (sv (markB (k + j))) := (hb2.cell (p := ⟨b, o + j, none⟩) (by show b < wr.heap.size; omega)).trans e1
      refine ⟨e2, ?_⟩
      iterate 1 (refine ord_flo ?_ (fun _ _ _ h => h) rfl ?_ e2 ?_; rotate_left; focus (intro W hS; obtain s1 := hS; go_simp; rfl))
      refine ord_done ?_
      go_simp
      go_wp2
      go_roundw
      case rel => exact ⟨j + 1, by omega, by go_num, by go_num, hbr.drew.trans (Below.mono hb2 (by show w.heap.size ≤ wr.heap.size; omega))⟩
      case measure => simp [intOf]; omega
    · obtain rfl : j = n := by omega
      go_wp2
      go_ret
      exact ⟨rfl, hbr⟩

end Go.Proofs.Ytnlopkbkdchfnaa
