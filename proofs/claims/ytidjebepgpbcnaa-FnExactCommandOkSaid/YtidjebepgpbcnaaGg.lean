/-
  Gg: SetA, SetB, SetC, SetD.
-/
import Derived.Test.YtidjebepgpbcnaaGa
import Derived.Test.YtidjebepgpbcnaaGc
import Derived.Handy
import Derived.IntWalk

/-
  Chapter 4: spans; the model's SetOk, Members, MembersOf.
-/
namespace Go.Proofs.Ytidjebepgpbcnaa
open Go.RowKit

structure Spn where
  low : Int
  high : Int

abbrev spnv (s : Spn) : Value := .agg #[.int .i64 s.low, .int .i64 s.high]
def spnc (s : Spn) : List Value := [.int .i64 s.low, .int .i64 s.high]
def numB (n : Int) : Bool := decide (0 ≤ n) && decide (n ≤ 999999999)
def spnB (s : Spn) : Bool := numB s.low && numB s.high
def setB (l : List Spn) : Bool := l.all spnB && (decide (1 ≤ l.length) && decide (l.length ≤ 5))
def minI (a b : Int) : Int := if a < b then a else b
def maxI (a b : Int) : Int := if b < a then a else b
def endI (x last : Int) : Int := if x = 0 then last else x
def inSpn (x last : Int) (s : Spn) : Bool := decide (minI (endI s.low last) (endI s.high last) ≤ x) && decide (x ≤ maxI (endI s.low last) (endI s.high last))
def inB (l : List Spn) (x last : Int) : Bool := l.any (inSpn x last)
/-- The numbers from 1 on, as many as k. -/
def upTo (k : Nat) : List Int := (List.range k).map fun (i : Nat) => (i : Int) + 1
def membersL (l : List Spn) (n : Int) : List Int := (upTo (minI n 999).toNat).filter fun x => inB l x (minI n 999)
def lastId : List Int → Int
  | [] => 0
  | a :: r => (a :: r).foldl maxI a
def membersOfL (l : List Spn) (ids : List Int) : List Int := ids.filter fun x => inB l x (lastId ids)
theorem upTo_succ (k : Nat) : upTo (k + 1) = upTo k ++ [(k : Int) + 1] := by simp [upTo, List.range_succ]
theorem all_not_at {α : Type} {p : α → Bool} {l : List α} {k : Nat} {x : α} (h : l[k]? = some x) (hp : p x = false) : l.all p = false := by
  rw [Bool.eq_false_iff]
  intro hc
  rw [List.all_eq_true] at hc
  rw [hc x (List.mem_of_getElem? h)] at hp
  cases hp
theorem any_at {α : Type} {p : α → Bool} {l : List α} {k : Nat} {x : α} (h : l[k]? = some x) (hp : p x = true) : l.any p = true := List.any_eq_true.2 ⟨x, List.mem_of_getElem? h, hp⟩
theorem take_at {α : Type} {l : List α} {k : Nat} {x : α} (h : l[k]? = some x) : l.take (k + 1) = l.take k ++ [x] := by
  obtain ⟨h1, h2⟩ := List.getElem?_eq_some_iff.1 h
  rw [List.take_succ_eq_append_getElem h1, h2]
/-- Element k of a slice of pairs. -/
theorem Rd.pair {w : World} {b off k : Nat} {l : List Spn} {x : Spn} (hc : ∀ i x, l[i]? = some x → ∀ j u, (spnc x)[j]? = some u → w.cell? ⟨b, off + i * 2 + j, none⟩ = some u) (h : l[k]? = some x) :
    w.cell? ⟨b, off + k * 2, none⟩ = some (.int .i64 x.low) ∧ w.cell? ⟨b, off + k * 2 + 1, none⟩ = some (.int .i64 x.high) := ⟨hc k x h 0 _ rfl, hc k x h 1 _ rfl⟩

set_option maxHeartbeats 800000 in
theorem specSetOk_any (v : Value) (l : List Spn) (w : World) (hr : Rd 2 spnc w v l) (hl : l.length ≤ 140737488355328) :
    Calls Try.prog 26 #[v] w fun e w' => e = .returned (.bool (setB l)) ∧ w = w' := by
  obtain ⟨p, c, rfl, hp⟩ := hr.ex
  have HP := Lib.hid hp
  clear hp hr
  go_enter Try.func26, Try.ntmps26
  go_wp2
  go_loop [3] (fun i => ∃ k : Nat, k ≤ l.length ∧ i = .int .i64 k ∧ (l.take k).all spnB = true) (fun i => l.length - (intOf i).toNat)
  case atStart => exact ⟨0, by omega, rfl, rfl⟩
  case round =>
    obtain ⟨k, hk, rfl, hall⟩ := hrel
    have Hall := Lib.hid hall
    clear hall
    by_cases hlt : k < l.length
    · obtain ⟨b, off, rfl, hb1, hcell⟩ := HP.out.resolve_left (by intro h; subst h; simp at hlt)
      obtain ⟨x, hx⟩ : ∃ x, l[k]? = some x := ⟨_, List.getElem?_eq_getElem hlt⟩
      obtain ⟨e1, e2⟩ := Rd.pair hcell hx
      have c1 := fun W => l1In_any x.low 0 999999999 W
      have c2 := fun W => l1In_any x.high 0 999999999 W
      cases h1 : numB x.low with
      | false =>
        have HV := Lib.hid (show setB l = false by unfold setB; rw [all_not_at hx (by unfold spnB; rw [h1]; rfl)]; rfl)
        unfold numB at h1
        rw [h1] at c1
        have C1 := Lib.hid c1
        clear c1 c2 h1 hx hcell HP
        go_wp2_with fail
        refine (C1.out _).mono ?_
        rintro e w' ⟨rfl, rfl⟩
        go_wp2
        go_ret
        exact ⟨by rw [HV.out]; rfl, rfl⟩
      | true =>
        have h1' := h1
        unfold numB at h1'
        rw [h1'] at c1
        have C1 := Lib.hid c1
        cases h2 : numB x.high with
        | false =>
          have HV := Lib.hid (show setB l = false by unfold setB; rw [all_not_at hx (by unfold spnB; rw [h2]; simp)]; rfl)
          unfold numB at h2
          rw [h2] at c2
          have C2 := Lib.hid c2
          clear c1 c2 h1 h1' h2 hx hcell HP
          go_wp2_with fail
          refine (C1.out _).mono ?_
          rintro e w' ⟨rfl, rfl⟩
          go_wp2_with fail
          refine (C2.out _).mono ?_
          rintro e w' ⟨rfl, rfl⟩
          go_wp2
          go_ret
          exact ⟨by rw [HV.out]; rfl, rfl⟩
        | true =>
          have HA := Lib.hid (show (l.take (k + 1)).all spnB = true by rw [take_at hx, List.all_append, Hall.out]; simp [spnB, h1, h2])
          unfold numB at h2
          rw [h2] at c2
          have C2 := Lib.hid c2
          clear c1 c2 h1 h1' h2 hx hcell HP
          go_wp2_with fail
          refine (C1.out _).mono ?_
          rintro e w' ⟨rfl, rfl⟩
          go_wp2_with fail
          refine (C2.out _).mono ?_
          rintro e w' ⟨rfl, rfl⟩
          go_wp2
          go_round
          case rel => exact ⟨k + 1, by omega, by go_num, HA.out⟩
          case measure => simp [intOf]; omega
    · obtain rfl : k = l.length := by omega
      rw [List.take_length] at Hall
      have HV := Lib.hid (show setB l = (decide ((1 : Int) ≤ (l.length : Int)) && decide ((l.length : Int) ≤ 5)) by
        unfold setB
        rw [Hall.out]
        have e1 : (1 ≤ l.length) = ((1 : Int) ≤ (l.length : Int)) := by rw [eq_iff_iff]; omega
        have e2 : (l.length ≤ 5) = ((l.length : Int) ≤ 5) := by rw [eq_iff_iff]; omega
        simp only [e1, e2, Bool.true_and])
      have C1 := Lib.hid (fun W => l1In_any (l.length : Int) 1 5 W)
      go_wp2_with fail
      refine (C1.out _).mono ?_
      rintro e w' ⟨rfl, rfl⟩
      go_wp2
      go_ret
      exact ⟨by rw [HV.out]; rfl, rfl⟩

end Go.Proofs.Ytidjebepgpbcnaa

/-
  Chapter 4's walks: the model's Members and MembersOf.
-/
namespace Go.Proofs.Ytidjebepgpbcnaa
open Go.RowKit

theorem upTo_mem {k : Nat} {x : Int} (h : x ∈ upTo k) : 1 ≤ x ∧ x ≤ k := by
  simp only [upTo, List.mem_map, List.mem_range] at h
  obtain ⟨i, hi, rfl⟩ := h
  omega
theorem filter_upTo_yes {p : Int → Bool} {k : Nat} (h : p ((k : Int) + 1) = true) : (upTo (k + 1)).filter p = (upTo k).filter p ++ [(k : Int) + 1] := by rw [upTo_succ, List.filter_append]; simp [h]
theorem filter_upTo_no {p : Int → Bool} {k : Nat} (h : p ((k : Int) + 1) = false) : (upTo (k + 1)).filter p = (upTo k).filter p := by rw [upTo_succ, List.filter_append]; simp [h]
theorem filter_upTo_le (p : Int → Bool) (k : Nat) : ((upTo k).filter p).length ≤ k := by have := List.length_filter_le p (upTo k); simpa [upTo] using this

theorem foldl_snoc (a : Int) (l : List Int) (x : Int) : (l ++ [x]).foldl maxI a = maxI (l.foldl maxI a) x := by simp
theorem filter_snoc_yes {p : Int → Bool} {l : List Int} {x : Int} (h : p x = true) : (l ++ [x]).filter p = l.filter p ++ [x] := by rw [List.filter_append]; simp [h]
theorem filter_snoc_no {p : Int → Bool} {l : List Int} {x : Int} (h : p x = false) : (l ++ [x]).filter p = l.filter p := by rw [List.filter_append]; simp [h]

end Go.Proofs.Ytidjebepgpbcnaa

/-
  Chapter 4: the laws' own helpers on spans and numbers: copy, equality, marks.
-/
namespace Go.Proofs.Ytidjebepgpbcnaa
open Go.RowKit

theorem toSpan_any (t : Spn) (w : World) :
    Calls Try.prog 41 #[spnv t] w fun e w' => e = .returned (spnv t) ∧ Below w.heap.size w w' := by
  go_enter Try.func41, Try.ntmps41
  go_wp2
  go_returns
  exact ⟨rfl, (((Below.refl _ _).alloc (Nat.le_refl _) _).alloc (by simp) _).alloc (by simp; omega) _⟩

theorem eqSpan_same (t : Spn) (w : World) :
    Calls Try.prog 48 #[spnv t, spnv t] w fun e w' => e = .returned (.bool true) ∧ Below w.heap.size w w' := by
  go_enter Try.func48, Try.ntmps48
  go_wp2
  go_ret
  exact ⟨rfl, ((Below.refl _ _).alloc (Nat.le_refl _) _).alloc (by simp) _⟩

set_option maxHeartbeats 800000 in
theorem eqSpanS_same (a b : Value) (l : List Spn) (w : World) (ha : Rd 2 spnc w a l) (hb : Rd 2 spnc w b l) (hl : l.length ≤ 140737488355328) :
    Calls Try.prog 32 #[a, b] w fun e w' => e = .returned (.bool true) ∧ Below w.heap.size w w' := by
  obtain ⟨p, c1, rfl, hp⟩ := ha.ex
  obtain ⟨q, c2, rfl, hq⟩ := hb.ex
  clear ha hb
  have HP := Lib.hid hp
  have HQ := Lib.hid hq
  clear hp hq
  go_enter Try.func32, Try.ntmps32
  go_wp2
  go_loopw [5] (fun i wr => ∃ k : Nat, k ≤ l.length ∧ i = .int .i64 k ∧ Below w.heap.size w wr) (fun i _ => l.length - (intOf i).toNat)
  case atStart => exact ⟨0, by omega, rfl, Below.refl _ _⟩
  case round =>
    obtain ⟨k, hk, rfl, hbr⟩ := hrel
    have hbr0 := hbr.size
    by_cases hlt : k < l.length
    · obtain ⟨b1, o1, rfl, hb1, hc1⟩ := HP.out.resolve_left (by intro h; subst h; simp at hlt)
      obtain ⟨b2, o2, rfl, hb2, hc2⟩ := HQ.out.resolve_left (by intro h; subst h; simp at hlt)
      obtain ⟨x, hx⟩ : ∃ x, l[k]? = some x := ⟨_, List.getElem?_eq_getElem hlt⟩
      have e1 : wr.cell? ⟨b1, o1 + k * 2, none⟩ = some (.int .i64 x.low) := (hbr.cell (p := ⟨b1, o1 + k * 2, none⟩) hb1).trans (hc1 k x hx 0 _ rfl)
      have e2 : wr.cell? ⟨b1, o1 + k * 2 + 1, none⟩ = some (.int .i64 x.high) := (hbr.cell (p := ⟨b1, o1 + k * 2 + 1, none⟩) hb1).trans (hc1 k x hx 1 _ rfl)
      have e3 : wr.cell? ⟨b2, o2 + k * 2, none⟩ = some (.int .i64 x.low) := (hbr.cell (p := ⟨b2, o2 + k * 2, none⟩) hb2).trans (hc2 k x hx 0 _ rfl)
      have e4 : wr.cell? ⟨b2, o2 + k * 2 + 1, none⟩ = some (.int .i64 x.high) := (hbr.cell (p := ⟨b2, o2 + k * 2 + 1, none⟩) hb2).trans (hc2 k x hx 1 _ rfl)
      clear hc1 hc2 hx HP HQ
      go_wp2
      refine ord_start [(0, true), (1, true), (2, true), (3, true), (4, true), (5, true), (6, true), (7, true), (8, false), (9, true)] (fun W => W.cell? ⟨b1, o1 + k * 2, none⟩ = some (.int .i64 x.low) ∧ W.cell? ⟨b1, o1 + k * 2 + 1, none⟩ = some (.int .i64 x.high) ∧ W.cell? ⟨b2, o2 + k * 2, none⟩ = some (.int .i64 x.low) ∧ W.cell? ⟨b2, o2 + k * 2 + 1, none⟩ = some (.int .i64 x.high)) (by kernel_rfl) (by kernel_rfl) rfl (by kernel_rfl) ?_
      intro ops' hops
      clear hops
      simp only [List.map_cons, List.map_nil, pickOp_zero, pickOp_succ]
      iterate 8 (refine ord_flo ?_ (fun _ _ _ h => h) rfl ?_ ⟨e1, e2, e3, e4⟩ ?_; rotate_left; focus (intro W hS; obtain ⟨s1, s2, s3, s4⟩ := hS; go_simp; rfl))
      refine ord_ev rfl ?_
      go_simp
      refine (eqSpan_same x _).mono ?_
      rintro e w2 ⟨rfl, bb⟩
      have hb2' := hbr.drew.trans (bb.mono (by show w.heap.size ≤ wr.heap.size; omega))
      have f1 := (bb.cell (p := ⟨b1, o1 + k * 2, none⟩) (by show b1 < wr.heap.size; omega)).trans e1
      have f2 := (bb.cell (p := ⟨b1, o1 + k * 2 + 1, none⟩) (by show b1 < wr.heap.size; omega)).trans e2
      have f3 := (bb.cell (p := ⟨b2, o2 + k * 2, none⟩) (by show b2 < wr.heap.size; omega)).trans e3
      have f4 := (bb.cell (p := ⟨b2, o2 + k * 2 + 1, none⟩) (by show b2 < wr.heap.size; omega)).trans e4
      refine ⟨⟨f1, f2, f3, f4⟩, ?_⟩
      iterate 1 (refine ord_flo ?_ (fun _ _ _ h => h) rfl ?_ ⟨f1, f2, f3, f4⟩ ?_; rotate_left; focus (intro W hS; obtain ⟨s1, s2, s3, s4⟩ := hS; go_simp; rfl))
      refine ord_done ?_
      go_simp
      clear e1 e2 e3 e4 f1 f2 f3 f4 bb hbr hbr0
      go_wp2
      go_roundw
      case rel => exact ⟨k + 1, by omega, by go_num, hb2'⟩
      case measure => simp [intOf]; omega
    · obtain rfl : k = l.length := by omega
      go_wp2
      go_ret
      exact ⟨rfl, hbr⟩

/-- make([]Token, n). -/
theorem wpList_spans {w : World} {ops : Array Oper} {rest : List Oper} {o : Oper} {a : Act} {Q : Exit → Act → World → Prop}
    (hgd : o.guard = none) (l c : Operand) (ho : o.op = Op.makeSlice 31 l c) (B : Nat) (W : World) (hb : Below B W w) (hB : B ≤ w.heap.size) (kl kc : IntKind) (n : Nat) (hl : a.eval l = .int kl (n : Int)) (hc : a.eval c = .int kc (n : Int)) (b2 : 16 * n ≤ 281474976710656)
    (h : ∀ w' xs, w'.ownsRow B 57 2 (.slice (some ⟨w.heap.size, 0, none⟩) n n) n xs → Below B W w' → w.heap.size < w'.heap.size → wpList Try.prog ops Q rest (a.put o.dst (.slice (some ⟨w.heap.size, 0, none⟩) n n)) w') : wpList Try.prog ops Q (o :: rest) a w := by
  obtain ⟨i, h1, h2, h3, h4⟩ := info_parts (show (Try.prog.info? 57).map (fun i => (i.zero, i.size, i.bytes)) = some (some (.agg #[.int .i64 0, .int .i64 0]), 2, 16) from by kernel_rfl)
  refine wpList_make_full w hgd l c _ ho B 57 i _ 2 Try.underlying31 h1 h2 h3 kl kc (n : Int) (n : Int) n hl hc rfl rfl (by rw [h4]; exact b2) (by unfold maxLen; omega) hB ?_
  intro w' k1 k2
  exact h w' _ k1 (hb.grown k2 hB (fun k hk => by cases hk)) ((k1.lt w.heap.size rfl).2)

set_option maxHeartbeats 800000 in
theorem toSpanS_any (v : Value) (l : List Spn) (w : World) (hr : Rd 2 spnc w v l) (hl : l.length ≤ 10000000) :
    Calls Try.prog 29 #[v] w fun e w' => ∃ g, e = .returned (.slice (some ⟨g, 0, none⟩) l.length l.length) ∧ w'.ownsRow w.heap.size 57 2 (.slice (some ⟨g, 0, none⟩) l.length l.length) l.length (l.flatMap spnc) ∧ Below w.heap.size w w' := by
  obtain ⟨p, c, rfl, hp⟩ := hr.ex
  have HP := Lib.hid hp
  clear hp hr
  go_enter Try.func29, Try.ntmps29
  go_wp2_with (refine wpList_spans rfl _ _ rfl w.heap.size w (Below.refl _ _) (Nat.le_refl _) _ _ l.length rfl rfl (by omega) ?_)
  intro w1 xs hown1 hb1 hz1
  go_wp2
  go_loopw [4] (fun i wr => ∃ (j : Nat) (rest : List Value), j ≤ l.length ∧ i = .int .i64 j ∧ wr.ownsRow w.heap.size 57 2 (.slice (some ⟨w.heap.size, 0, none⟩) l.length l.length) l.length ((l.take j).flatMap spnc ++ rest) ∧ Below w.heap.size w wr) (fun i _ => l.length - (intOf i).toNat)
  case atStart => exact ⟨0, xs, by omega, rfl, hown1, hb1⟩
  case round =>
    obtain ⟨j, rest, hj, rfl, hown, hbr⟩ := hrel
    have hbr0 := hbr.size
    clear hown1 hb1 hz1
    by_cases hlt : j < l.length
    · obtain ⟨b, o, rfl, hb1, hc1⟩ := HP.out.resolve_left (by intro h; subst h; simp at hlt)
      obtain ⟨x, hx⟩ : ∃ x, l[j]? = some x := ⟨_, List.getElem?_eq_getElem hlt⟩
      have e1 : wr.cell? ⟨b, o + j * 2, none⟩ = some (.int .i64 x.low) := (hbr.cell (p := ⟨b, o + j * 2, none⟩) hb1).trans (hc1 j x hx 0 _ rfl)
      have e2 : wr.cell? ⟨b, o + j * 2 + 1, none⟩ = some (.int .i64 x.high) := (hbr.cell (p := ⟨b, o + j * 2 + 1, none⟩) hb1).trans (hc1 j x hx 1 _ rfl)
      have HT := Lib.hid (take_at hx)
      clear hc1 hx HP
      go_wp2_with fail
      refine (toSpan_any x _).mono ?_
      rintro e w2 ⟨rfl, b2⟩
      have hown2 := ownsRow_below hown b2
      have hb2 := hbr.trans (b2.mono hbr0)
      obtain ⟨⟨u0, hu0⟩, ⟨u1, hu1⟩, hf0, hf1⟩ := own_cells2 hown2 hlt
      have HO := Lib.hid (own_two hown2 (by rw [flat_len2 (enc := spnc) (fun _ => rfl), List.length_take]; omega) hlt (.int .i64 x.low) (.int .i64 x.high))
      clear hbr b2 hown e1 e2 hown2
      go_wp2
      go_roundw
      case rel =>
        obtain ⟨rest', h⟩ := HO.out
        refine ⟨j + 1, rest', by omega, by go_num, ?_, (hb2.setCell (Nat.le_refl _) _).setCell (Nat.le_refl _) _⟩
        rw [HT.out, List.flatMap_append]
        simpa [spnc] using h
      case measure => simp [intOf]; omega
    · obtain rfl : j = l.length := by omega
      have hrest : rest = [] := by
        have := hown.1
        rw [List.take_length, List.length_append, flat_len2 (enc := spnc) (fun _ => rfl)] at this
        exact List.eq_nil_of_length_eq_zero (by omega)
      subst hrest
      rw [List.take_length, List.append_nil] at hown
      go_wp2
      go_ret
      exact ⟨w.heap.size, rfl, hown, hbr⟩

def lenR (left n : Nat) : Int := if n ≤ left then ((left - n : Nat) : Int) else -1
theorem szSpanS_any (v : Value) (l : List Spn) (left : Nat) (w : World) (hr : Rd 2 spnc w v l) (hl : l.length ≤ 9223372036854775807) (hL : left ≤ 1000000000000) :
    Calls Try.prog 20 #[v, .int .i64 left] w fun e w' => e = .returned (.int .i64 (lenR left l.length)) ∧ w = w' := by
  obtain ⟨p, c, rfl, _⟩ := hr.ex
  clear hr
  by_cases h : l.length ≤ left
  · have hR := Lib.hid (show lenR left l.length = (left : Int) - (l.length : Int) by unfold lenR; rw [if_pos h]; omega)
    have h1 : ¬ (left : Int) - (l.length : Int) < 0 := by omega
    go_enter Try.func20, Try.ntmps20
    go_wp2
    go_ret
    exact ⟨by rw [hR.out]; rfl, rfl⟩
  · have hR := Lib.hid (show lenR left l.length = -1 from if_neg h)
    have h1 : (left : Int) - (l.length : Int) < 0 := by omega
    go_enter Try.func20, Try.ntmps20
    go_wp2
    go_ret
    exact ⟨by rw [hR.out]; rfl, rfl⟩

/-- The numbers k, k + 1 .., as many as n. -/
def imarks (k n : Nat) : List Int := (List.range n).map fun (i : Nat) => ((k + i : Nat) : Int)
theorem imarks_length (k n : Nat) : (imarks k n).length = n := by simp [imarks]
theorem imarks_succ (k n : Nat) : imarks k (n + 1) = imarks k n ++ [((k + n : Nat) : Int)] := by simp [imarks, List.range_succ]
theorem imarks_at (k n i : Nat) (h : i < n) : (imarks k n)[i]? = some ((k + i : Nat) : Int) := by simp [imarks, h]
/-- One cell of an owned row is set, those ahead of it are done. -/
theorem own_one {w : World} {B g n c j : Nat} {e : TypeId} {A rest : List Value} (h : w.ownsRow B e 1 (.slice (some ⟨g, 0, none⟩) n c) n (A ++ rest)) (hA : A.length = j) (hj : j < n) (x : Value) :
    (∃ rest', (w.setCell ⟨g, j, none⟩ x).ownsRow B e 1 (.slice (some ⟨g, 0, none⟩) n c) n ((A ++ [x]) ++ rest')) ∧ (∃ u, w.cell? ⟨g, j, none⟩ = some u) ∧ w.frozen? ⟨g, j, none⟩ = false := by
  have hl : (A ++ rest).length = n := by have := h.1; simpa using this
  have hl0 := hl
  rw [List.length_append, hA] at hl
  refine ⟨?_, ⟨(A ++ rest)[j]'(by omega), by rw [h.cellAt j (by omega)]; exact List.getElem?_eq_getElem _⟩, h.frozenAt _⟩
  cases rest with
  | nil => simp at hl; omega
  | cons r0 r =>
    have h1 := (h.stored j x).1
    rw [List.set_append_right _ _ (by omega), hA, Nat.sub_self, List.set_cons_zero] at h1
    exact ⟨r, by simpa using h1⟩

/-- The marks that the law lays into n spans from number k on. -/
def smarks (k n : Nat) : List Spn := (List.range n).map fun (i : Nat) => ⟨((k + 2 * i : Nat) : Int), ((k + 2 * i + 1 : Nat) : Int)⟩
theorem smarks_length (k n : Nat) : (smarks k n).length = n := by simp [smarks]
theorem smarks_succ (k n : Nat) : smarks k (n + 1) = smarks k n ++ [⟨((k + 2 * n : Nat) : Int), ((k + 2 * n + 1 : Nat) : Int)⟩] := by simp [smarks, List.range_succ]
theorem smarks_at (k n i : Nat) (h : i < n) : (smarks k n)[i]? = some ⟨((k + 2 * i : Nat) : Int), ((k + 2 * i + 1 : Nat) : Int)⟩ := by simp [smarks, h]

end Go.Proofs.Ytidjebepgpbcnaa

/-
  Chapter 4: the laws' helpers: sameInts, times, at0, heldSpanS.
-/
namespace Go.Proofs.Ytidjebepgpbcnaa
open Go.RowKit

theorem count_take {l : List Int} {k : Nat} {y : Int} (h : l[k]? = some y) (x : Int) : (l.take (k + 1)).count x = (l.take k).count x + (if (y == x) = true then 1 else 0) := by
  rw [take_at h, List.count_append, List.count_singleton]

end Go.Proofs.Ytidjebepgpbcnaa

