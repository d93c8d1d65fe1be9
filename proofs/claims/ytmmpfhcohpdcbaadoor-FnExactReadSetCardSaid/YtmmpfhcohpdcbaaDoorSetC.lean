/-
  Chapter 4: the laws' own helpers on spans and numbers: copy, equality, marks.
-/
import Derived.Test.YtmmpfhcohpdcbaaDoorSetB
import Derived.Handy
import Derived.IntWalk
namespace Go.Proofs.YtmmpfhcohpdcbaaDoor
open Go.RowKit

theorem toSpan_any (t : Spn) (w : World) :
    Calls Tryd.prog 17 #[spnv t] w fun e w' => e = .returned (spnv t) ∧ Below w.heap.size w w' := by
  go_enter Tryd.func17, Tryd.ntmps17
  go_wp2
  go_returns
  exact ⟨rfl, (((Below.refl _ _).alloc (Nat.le_refl _) _).alloc (by simp) _).alloc (by simp; omega) _⟩

theorem eqSpan_same (t : Spn) (w : World) :
    Calls Tryd.prog 21 #[spnv t, spnv t] w fun e w' => e = .returned (.bool true) ∧ Below w.heap.size w w' := by
  go_enter Tryd.func21, Tryd.ntmps21
  go_wp2
  go_ret
  exact ⟨rfl, ((Below.refl _ _).alloc (Nat.le_refl _) _).alloc (by simp) _⟩

set_option maxHeartbeats 800000 in
theorem eqSpanS_same (a b : Value) (l : List Spn) (w : World) (ha : Rd 2 spnc w a l) (hb : Rd 2 spnc w b l) (hl : l.length ≤ 140737488355328) :
    Calls Tryd.prog 9 #[a, b] w fun e w' => e = .returned (.bool true) ∧ Below w.heap.size w w' := by
  obtain ⟨p, c1, rfl, hp⟩ := ha.ex
  obtain ⟨q, c2, rfl, hq⟩ := hb.ex
  clear ha hb
  have HP := Lib.hid hp
  have HQ := Lib.hid hq
  clear hp hq
  go_enter Tryd.func9, Tryd.ntmps9
  go_wp2
  go_loopw [5] (fun i wr => ∃ k : Nat, k ≤ l.length ∧ i = .int .i64 k ∧ Below w.heap.size w wr) (fun i _ => l.length - (intOf i).toNat)
  case atStart => exact ⟨0, by omega, rfl, Below.refl _ _⟩
  case round =>
    obtain ⟨k, hk, rfl, hbr⟩ := hrel
    have hbr0 := hbr.size
    by_cases hlt : k < l.length
    · obtain ⟨b1, o1, rfl, hb1, hc1⟩ := HP.out.resolve_left (by intro h; subst h; simp at hlt)
      obtain ⟨b2, o2, rfl, hb2, hc2⟩ := HQ.out.resolve_left (by intro h; subst h; simp at hlt)
      obtain ⟨x, hx⟩ : ∃ x, l[k]? = some x := ⟨_, List.getElem?_eq_getElem hlt⟩
      have e1 : wr.cell? ⟨b1, o1 + k * 2, none⟩ = some (.int .i64 x.low) := (hbr.cell (p := ⟨b1, o1 + k * 2, none⟩) hb1).trans (hc1 k x hx 0 _ rfl)
      have e2 : wr.cell? ⟨b1, o1 + k * 2 + 1, none⟩ = some (.int .i64 x.high) := (hbr.cell (p := ⟨b1, o1 + k * 2 + 1, none⟩) hb1).trans (hc1 k x hx 1 _ rfl)
      have e3 : wr.cell? ⟨b2, o2 + k * 2, none⟩ = some (.int .i64 x.low) := (hbr.cell (p := ⟨b2, o2 + k * 2, none⟩) hb2).trans (hc2 k x hx 0 _ rfl)
      have e4 : wr.cell? ⟨b2, o2 + k * 2 + 1, none⟩ = some (.int .i64 x.high) := (hbr.cell (p := ⟨b2, o2 + k * 2 + 1, none⟩) hb2).trans (hc2 k x hx 1 _ rfl)
      clear hc1 hc2 hx HP HQ
      go_wp2
      refine ord_start [(0, true), (1, true), (2, true), (3, true), (4, true), (5, true), (6, true), (7, true), (8, false), (9, true)] (fun W => W.cell? ⟨b1, o1 + k * 2, none⟩ = some (.int .i64 x.low) ∧ W.cell? ⟨b1, o1 + k * 2 + 1, none⟩ = some (.int .i64 x.high) ∧ W.cell? ⟨b2, o2 + k * 2, none⟩ = some (.int .i64 x.low) ∧ W.cell? ⟨b2, o2 + k * 2 + 1, none⟩ = some (.int .i64 x.high)) (by kernel_rfl) (by kernel_rfl) rfl (by kernel_rfl) ?_
      intro ops' hops
      clear hops
      simp only [List.map_cons, List.map_nil, pickOp_zero, pickOp_succ]
      iterate 8 (refine ord_flo ?_ (fun _ _ _ h => h) rfl ?_ ⟨e1, e2, e3, e4⟩ ?_; rotate_left; focus (intro W hS; obtain ⟨s1, s2, s3, s4⟩ := hS; go_simp; rfl))
      refine ord_ev rfl ?_
      go_simp
      refine (eqSpan_same x _).mono ?_
      rintro e w2 ⟨rfl, bb⟩
      have hb2' := hbr.drew.trans (bb.mono (by show w.heap.size ≤ wr.heap.size; omega))
      have f1 := (bb.cell (p := ⟨b1, o1 + k * 2, none⟩) (by show b1 < wr.heap.size; omega)).trans e1
      have f2 := (bb.cell (p := ⟨b1, o1 + k * 2 + 1, none⟩) (by show b1 < wr.heap.size; omega)).trans e2
      have f3 := (bb.cell (p := ⟨b2, o2 + k * 2, none⟩) (by show b2 < wr.heap.size; omega)).trans e3
      have f4 := (bb.cell (p := ⟨b2, o2 + k * 2 + 1, none⟩) (by show b2 < wr.heap.size; omega)).trans e4
      refine ⟨⟨f1, f2, f3, f4⟩, ?_⟩
      iterate 1 (refine ord_flo ?_ (fun _ _ _ h => h) rfl ?_ ⟨f1, f2, f3, f4⟩ ?_; rotate_left; focus (intro W hS; obtain ⟨s1, s2, s3, s4⟩ := hS; go_simp; rfl))
      refine ord_done ?_
      go_simp
      clear e1 e2 e3 e4 f1 f2 f3 f4 bb hbr hbr0
      go_wp2
      go_roundw
      case rel => exact ⟨k + 1, by omega, by go_num, hb2'⟩
      case measure => simp [intOf]; omega
    · obtain rfl : k = l.length := by omega
      go_wp2
      go_ret
      exact ⟨rfl, hbr⟩

/-- make([]Token, n). -/
theorem wpList_spans {w : World} {ops : Array Oper} {rest : List Oper} {o : Oper} {a : Act} {Q : Exit → Act → World → Prop}
    (hgd : o.guard = none) (l c : Operand) (ho : o.op = Op.makeSlice 25 l c) (B : Nat) (W : World) (hb : Below B W w) (hB : B ≤ w.heap.size) (kl kc : IntKind) (n : Nat) (hl : a.eval l = .int kl (n : Int)) (hc : a.eval c = .int kc (n : Int)) (b2 : 16 * n ≤ 281474976710656)
    (h : ∀ w' xs, w'.ownsRow B 37 2 (.slice (some ⟨w.heap.size, 0, none⟩) n n) n xs → Below B W w' → w.heap.size < w'.heap.size → wpList Tryd.prog ops Q rest (a.put o.dst (.slice (some ⟨w.heap.size, 0, none⟩) n n)) w') : wpList Tryd.prog ops Q (o :: rest) a w := by
  obtain ⟨i, h1, h2, h3, h4⟩ := info_parts (show (Tryd.prog.info? 37).map (fun i => (i.zero, i.size, i.bytes)) = some (some (.agg #[.int .i64 0, .int .i64 0]), 2, 16) from by kernel_rfl)
  refine wpList_make_full w hgd l c _ ho B 37 i _ 2 Tryd.underlying25 h1 h2 h3 kl kc (n : Int) (n : Int) n hl hc rfl rfl (by rw [h4]; exact b2) (by unfold maxLen; omega) hB ?_
  intro w' k1 k2
  exact h w' _ k1 (hb.grown k2 hB (fun k hk => by cases hk)) ((k1.lt w.heap.size rfl).2)

set_option maxHeartbeats 800000 in
theorem toSpanS_any (v : Value) (l : List Spn) (w : World) (hr : Rd 2 spnc w v l) (hl : l.length ≤ 10000000) :
    Calls Tryd.prog 7 #[v] w fun e w' => ∃ g, e = .returned (.slice (some ⟨g, 0, none⟩) l.length l.length) ∧ w'.ownsRow w.heap.size 37 2 (.slice (some ⟨g, 0, none⟩) l.length l.length) l.length (l.flatMap spnc) ∧ Below w.heap.size w w' := by
  obtain ⟨p, c, rfl, hp⟩ := hr.ex
  have HP := Lib.hid hp
  clear hp hr
  go_enter Tryd.func7, Tryd.ntmps7
  go_wp2_with (refine wpList_spans rfl _ _ rfl w.heap.size w (Below.refl _ _) (Nat.le_refl _) _ _ l.length rfl rfl (by omega) ?_)
  intro w1 xs hown1 hb1 hz1
  go_wp2
  go_loopw [4] (fun i wr => ∃ (j : Nat) (rest : List Value), j ≤ l.length ∧ i = .int .i64 j ∧ wr.ownsRow w.heap.size 37 2 (.slice (some ⟨w.heap.size, 0, none⟩) l.length l.length) l.length ((l.take j).flatMap spnc ++ rest) ∧ Below w.heap.size w wr) (fun i _ => l.length - (intOf i).toNat)
  case atStart => exact ⟨0, xs, by omega, rfl, hown1, hb1⟩
  case round =>
    obtain ⟨j, rest, hj, rfl, hown, hbr⟩ := hrel
    have hbr0 := hbr.size
    clear hown1 hb1 hz1
    by_cases hlt : j < l.length
    · obtain ⟨b, o, rfl, hb1, hc1⟩ := HP.out.resolve_left (by intro h; subst h; simp at hlt)
      obtain ⟨x, hx⟩ : ∃ x, l[j]? = some x := ⟨_, List.getElem?_eq_getElem hlt⟩
      have e1 : wr.cell? ⟨b, o + j * 2, none⟩ = some (.int .i64 x.low) := (hbr.cell (p := ⟨b, o + j * 2, none⟩) hb1).trans (hc1 j x hx 0 _ rfl)
      have e2 : wr.cell? ⟨b, o + j * 2 + 1, none⟩ = some (.int .i64 x.high) := (hbr.cell (p := ⟨b, o + j * 2 + 1, none⟩) hb1).trans (hc1 j x hx 1 _ rfl)
      have HT := Lib.hid (take_at hx)
      clear hc1 hx HP
      go_wp2_with fail
      refine (toSpan_any x _).mono ?_
      rintro e w2 ⟨rfl, b2⟩
      have hown2 := ownsRow_below hown b2
      have hb2 := hbr.trans (b2.mono hbr0)
      obtain ⟨⟨u0, hu0⟩, ⟨u1, hu1⟩, hf0, hf1⟩ := own_cells2 hown2 hlt
      have HO := Lib.hid (own_two hown2 (by rw [flat_len2 (enc := spnc) (fun _ => rfl), List.length_take]; omega) hlt (.int .i64 x.low) (.int .i64 x.high))
      clear hbr b2 hown e1 e2 hown2
      go_wp2
      go_roundw
      case rel =>
        obtain ⟨rest', h⟩ := HO.out
        refine ⟨j + 1, rest', by omega, by go_num, ?_, (hb2.setCell (Nat.le_refl _) _).setCell (Nat.le_refl _) _⟩
        rw [HT.out, List.flatMap_append]
        simpa [spnc] using h
      case measure => simp [intOf]; omega
    · obtain rfl : j = l.length := by omega
      have hrest : rest = [] := by
        have := hown.1
        rw [List.take_length, List.length_append, flat_len2 (enc := spnc) (fun _ => rfl)] at this
        exact List.eq_nil_of_length_eq_zero (by omega)
      subst hrest
      rw [List.take_length, List.append_nil] at hown
      go_wp2
      go_ret
      exact ⟨w.heap.size, rfl, hown, hbr⟩

def lenR (left n : Nat) : Int := if n ≤ left then ((left - n : Nat) : Int) else -1
theorem szSpanS_any (v : Value) (l : List Spn) (left : Nat) (w : World) (hr : Rd 2 spnc w v l) (hl : l.length ≤ 9223372036854775807) (hL : left ≤ 1000000000000) :
    Calls Tryd.prog 5 #[v, .int .i64 left] w fun e w' => e = .returned (.int .i64 (lenR left l.length)) ∧ w = w' := by
  obtain ⟨p, c, rfl, _⟩ := hr.ex
  clear hr
  by_cases h : l.length ≤ left
  · have hR := Lib.hid (show lenR left l.length = (left : Int) - (l.length : Int) by unfold lenR; rw [if_pos h]; omega)
    have h1 : ¬ (left : Int) - (l.length : Int) < 0 := by omega
    go_enter Tryd.func5, Tryd.ntmps5
    go_wp2
    go_ret
    exact ⟨by rw [hR.out]; rfl, rfl⟩
  · have hR := Lib.hid (show lenR left l.length = -1 from if_neg h)
    have h1 : (left : Int) - (l.length : Int) < 0 := by omega
    go_enter Tryd.func5, Tryd.ntmps5
    go_wp2
    go_ret
    exact ⟨by rw [hR.out]; rfl, rfl⟩

/-- The numbers k, k + 1 .., as many as n. -/
def imarks (k n : Nat) : List Int := (List.range n).map fun (i : Nat) => ((k + i : Nat) : Int)
theorem imarks_length (k n : Nat) : (imarks k n).length = n := by simp [imarks]
theorem imarks_succ (k n : Nat) : imarks k (n + 1) = imarks k n ++ [((k + n : Nat) : Int)] := by simp [imarks, List.range_succ]
theorem imarks_at (k n i : Nat) (h : i < n) : (imarks k n)[i]? = some ((k + i : Nat) : Int) := by simp [imarks, h]
/-- One cell of an owned row is set, those ahead of it are done. -/
theorem own_one {w : World} {B g n c j : Nat} {e : TypeId} {A rest : List Value} (h : w.ownsRow B e 1 (.slice (some ⟨g, 0, none⟩) n c) n (A ++ rest)) (hA : A.length = j) (hj : j < n) (x : Value) :
    (∃ rest', (w.setCell ⟨g, j, none⟩ x).ownsRow B e 1 (.slice (some ⟨g, 0, none⟩) n c) n ((A ++ [x]) ++ rest')) ∧ (∃ u, w.cell? ⟨g, j, none⟩ = some u) ∧ w.frozen? ⟨g, j, none⟩ = false := by
  have hl : (A ++ rest).length = n := by have := h.1; simpa using this
  have hl0 := hl
  rw [List.length_append, hA] at hl
  refine ⟨?_, ⟨(A ++ rest)[j]'(by omega), by rw [h.cellAt j (by omega)]; exact List.getElem?_eq_getElem _⟩, h.frozenAt _⟩
  cases rest with
  | nil => simp at hl; omega
  | cons r0 r =>
    have h1 := (h.stored j x).1
    rw [List.set_append_right _ _ (by omega), hA, Nat.sub_self, List.set_cons_zero] at h1
    exact ⟨r, by simpa using h1⟩

/-- The marks that the law lays into n spans from number k on. -/
def smarks (k n : Nat) : List Spn := (List.range n).map fun (i : Nat) => ⟨((k + 2 * i : Nat) : Int), ((k + 2 * i + 1 : Nat) : Int)⟩
theorem smarks_length (k n : Nat) : (smarks k n).length = n := by simp [smarks]
theorem smarks_succ (k n : Nat) : smarks k (n + 1) = smarks k n ++ [⟨((k + 2 * n : Nat) : Int), ((k + 2 * n + 1 : Nat) : Int)⟩] := by simp [smarks, List.range_succ]
theorem smarks_at (k n i : Nat) (h : i < n) : (smarks k n)[i]? = some ⟨((k + 2 * i : Nat) : Int), ((k + 2 * i + 1 : Nat) : Int)⟩ := by simp [smarks, h]

set_option maxHeartbeats 1600000 in
theorem markSpanS_any (v : Value) (n : Nat) (xs : List Value) (kk : Int) (k B : Nat) (hkk : kk = (k : Int)) (w : World) (hown : w.ownsRow B 37 2 v n xs) (hk : k ≤ 1000000000000) (hl : n ≤ 1000000000000) :
    Calls Tryd.prog 12 #[v, .int .i64 kk] w fun e w' => e = .returned (.int .i64 (k + 2 * n : Nat)) ∧ w'.ownsRow B 37 2 v n ((smarks k n).flatMap spnc) ∧ w.grownBy w' v.ownBlock := by
  subst hkk
  have hex : ∃ p c, v = .slice p n c ∧ (0 < n → ∃ g, p = some ⟨g, 0, none⟩) := by
    rcases h : hown.2 with ⟨hv, h0⟩ | ⟨g, cap, cur, hv, _⟩
    · exact ⟨none, 0, by rw [hv, h0], fun h => by omega⟩
    · exact ⟨_, cap, hv, fun _ => ⟨g, rfl⟩⟩
  obtain ⟨p, c, rfl, hp⟩ := hex
  have HP := Lib.hid hp
  clear hp
  go_enter Tryd.func12, Tryd.ntmps12
  go_wp2
  go_loopw [1, 5] (fun kk i wr => ∃ (j : Nat) (rest : List Value), j ≤ n ∧ i = .int .i64 j ∧ kk = .int .i64 (k + 2 * j : Nat) ∧ wr.ownsRow B 37 2 (.slice p n c) n ((smarks k j).flatMap spnc ++ rest) ∧ w.grownBy wr (Value.ownBlock (.slice p n c))) (fun _ i _ => n - (intOf i).toNat)
  case atStart => exact ⟨0, xs, by omega, rfl, rfl, hown, World.grownBy.refl _ _⟩
  case round =>
    obtain ⟨j, rest, hj, rfl, rfl, hor, hgr⟩ := hrel
    clear hown
    by_cases hlt : j < n
    · obtain ⟨g, rfl⟩ := HP.out (by omega)
      have hqb : k + 2 * j ≤ 3000000000000 := by omega
      generalize hq : k + 2 * j = q at *
      have HQ := Lib.hid hq
      obtain ⟨⟨u0, hu0⟩, ⟨u1, hu1⟩, hf0, hf1⟩ := own_cells2 hor hlt
      have hA : ((smarks k j).flatMap spnc).length = j * 2 := by rw [flat_len2 (enc := spnc) (fun _ => rfl), smarks_length]
      have HO := Lib.hid (own_two hor hA hlt (.int .i64 (q : Int)) (.int .i64 ((q : Int) + 1)))
      have h1 := hor.stored (j * 2) (.int .i64 (q : Int))
      have HG := Lib.hid (grown_grown hgr (grown_grown h1.2 (h1.1.stored (j * 2 + 1) (.int .i64 ((q : Int) + 1))).2))
      have hcell1 : (wr.setCell ⟨g, j * 2, none⟩ (.int .i64 (q : Int))).cell? ⟨g, j * 2 + 1, none⟩ = some u1 := (World.cell?_setCell_other wr _ _ _ (by intro e; injection e with _ e2; omega)).trans hu1
      clear hA hor hgr HP hq h1
      go_wp2
      go_roundw
      case rel =>
        obtain ⟨r, h⟩ := HO.out
        refine ⟨j + 1, r, by omega, by go_num, ?_, ?_, HG.out⟩
        · have := HQ.out
          congr 1
          omega
        · rw [smarks_succ, HQ.out, List.flatMap_append]
          simpa [spnc] using h
      case measure => simp [intOf]; omega
    · obtain rfl : j = n := by omega
      have hrest : rest = [] := by
        have := hor.1
        rw [List.length_append, flat_len2 (enc := spnc) (fun _ => rfl), smarks_length] at this
        exact List.eq_nil_of_length_eq_zero (by omega)
      subst hrest
      rw [List.append_nil] at hor
      go_wp2
      go_ret
      exact ⟨rfl, hor, hgr⟩

end Go.Proofs.YtmmpfhcohpdcbaaDoor
