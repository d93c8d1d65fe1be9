/-
  The laws' own helpers on tokens: size, copy, equality, marks.
-/
import Derived.Test.YtldfakcjimaaaaaDoorLexF
import Derived.Test.YtldfakcjimaaaaaDoorStr
namespace Go.Proofs.YtldfakcjimaaaaaDoor
open Go.RowKit

/-- How much a list of tokens weighs: one a token, and its bytes. -/
def tkw (l : List Tok) : Nat := (l.map fun t => t.text.length).foldr (· + ·) 0
theorem tkw_snoc (l : List Tok) (x : Tok) : tkw (l ++ [x]) = tkw l + x.text.length := by
  induction l with
  | nil => simp [tkw]
  | cons a l ih => simp only [tkw, List.cons_append, List.map_cons, List.foldr_cons] at ih ⊢; omega
theorem tkw_take (l : List Tok) (k : Nat) : tkw (l.take k) ≤ tkw l := by
  induction l generalizing k with
  | nil => simp
  | cons a l ih =>
    cases k with
    | zero => simp [tkw]
    | succ k => have := ih k; simp only [tkw, List.take_succ_cons, List.map_cons, List.foldr_cons] at this ⊢; omega
theorem tkw_mem (l : List Tok) (t : Tok) (h : t ∈ l) : t.text.length ≤ tkw l := by
  induction l with
  | nil => cases h
  | cons a l ih =>
    simp only [tkw, List.map_cons, List.foldr_cons] at ih ⊢
    rcases List.mem_cons.1 h with rfl | h
    · omega
    · have := ih h; omega
def tkR (left : Nat) (n : Nat) : Int := if n ≤ left then ((left - n : Nat) : Int) else -1
theorem tkR_yes {left n : Nat} (h : n ≤ left) : tkR left n = ((left - n : Nat) : Int) := if_pos h
theorem tkR_no {left n : Nat} (h : ¬ n ≤ left) : tkR left n = -1 := if_neg h

theorem szToken_any (t : Tok) (left : Nat) (w : World) (hx : t.text.length ≤ 9223372036854775807) (hL : left ≤ 1000000000000) :
    Calls Tryd.prog 15 #[tokv t, .int .i64 left] w fun e w' => e = .returned (.int .i64 (tkR left t.text.length)) ∧ Below w.heap.size w w' := by
  have hz : (ByteArray.mk t.text.toArray).size = t.text.length := by show t.text.toArray.size = _; simp
  by_cases h : t.text.length ≤ left
  · have hR := Lib.hid (tkR_yes h)
    have h1 : ¬ (left : Int) - (t.text.length : Int) < 0 := by omega
    have hcast := Lib.hid (show ((left - t.text.length : Nat) : Int) = (left : Int) - (t.text.length : Int) by omega)
    go_enter Tryd.func15, Tryd.ntmps15
    go_wp2
    go_ret
    exact ⟨by rw [hR.out, hcast.out]; rfl, (Below.refl _ _).alloc (Nat.le_refl _) _⟩
  · have hR := Lib.hid (tkR_no h)
    have h1 : (left : Int) - (t.text.length : Int) < 0 := by omega
    go_enter Tryd.func15, Tryd.ntmps15
    go_wp2
    go_ret
    exact ⟨by rw [hR.out]; rfl, (Below.refl _ _).alloc (Nat.le_refl _) _⟩

theorem toToken_any (t : Tok) (w : World) :
    Calls Tryd.prog 17 #[tokv t] w fun e w' => e = .returned (tokv t) ∧ Below w.heap.size w w' := by
  go_enter Tryd.func17, Tryd.ntmps17
  go_wp2
  go_returns
  exact ⟨rfl, (((Below.refl _ _).alloc (Nat.le_refl _) _).alloc (by simp) _).alloc (by simp; omega) _⟩

theorem eqToken_same (t : Tok) (w : World) :
    Calls Tryd.prog 39 #[tokv t, tokv t] w fun e w' => e = .returned (.bool true) ∧ Below w.heap.size w w' := by
  go_enter Tryd.func39, Tryd.ntmps39
  go_wp2
  go_ret
  exact ⟨rfl, ((Below.refl _ _).alloc (Nat.le_refl _) _).alloc (by simp) _⟩

set_option maxHeartbeats 800000 in
theorem eqTokenS_same (a b : Value) (l : List Tok) (w : World) (ha : Rd 2 tokc w a l) (hb : Rd 2 tokc w b l) (hl : l.length ≤ 140737488355328) :
    Calls Tryd.prog 21 #[a, b] w fun e w' => e = .returned (.bool true) ∧ Below w.heap.size w w' := by
  obtain ⟨p, c1, rfl, hp⟩ := ha.ex
  obtain ⟨q, c2, rfl, hq⟩ := hb.ex
  clear ha hb
  have HP := Lib.hid hp
  have HQ := Lib.hid hq
  clear hp hq
  go_enter Tryd.func21, Tryd.ntmps21
  go_wp2
  go_loopw [5] (fun i wr => ∃ k : Nat, k ≤ l.length ∧ i = .int .i64 k ∧ Below w.heap.size w wr) (fun i _ => l.length - (intOf i).toNat)
  case atStart => exact ⟨0, by omega, rfl, Below.refl _ _⟩
  case round =>
    obtain ⟨k, hk, rfl, hbr⟩ := hrel
    have hbr0 := hbr.size
    by_cases hlt : k < l.length
    · obtain ⟨b1, o1, rfl, hb1, hc1⟩ := HP.out.resolve_left (by intro h; subst h; simp at hlt)
      obtain ⟨b2, o2, rfl, hb2, hc2⟩ := HQ.out.resolve_left (by intro h; subst h; simp at hlt)
      obtain ⟨x, hx⟩ : ∃ x, l[k]? = some x := ⟨_, List.getElem?_eq_getElem hlt⟩
      have e1 : wr.cell? ⟨b1, o1 + k * 2, none⟩ = some (.int .i64 x.kind) := (hbr.cell (p := ⟨b1, o1 + k * 2, none⟩) hb1).trans (hc1 k x hx 0 _ rfl)
      have e2 : wr.cell? ⟨b1, o1 + k * 2 + 1, none⟩ = some (sv x.text) := (hbr.cell (p := ⟨b1, o1 + k * 2 + 1, none⟩) hb1).trans (hc1 k x hx 1 _ rfl)
      have e3 : wr.cell? ⟨b2, o2 + k * 2, none⟩ = some (.int .i64 x.kind) := (hbr.cell (p := ⟨b2, o2 + k * 2, none⟩) hb2).trans (hc2 k x hx 0 _ rfl)
      have e4 : wr.cell? ⟨b2, o2 + k * 2 + 1, none⟩ = some (sv x.text) := (hbr.cell (p := ⟨b2, o2 + k * 2 + 1, none⟩) hb2).trans (hc2 k x hx 1 _ rfl)
      clear hc1 hc2 hx HP HQ
      go_wp2
      refine ord_start [(0, true), (1, true), (2, true), (3, true), (4, true), (5, true), (6, true), (7, true), (8, false), (9, true)] (fun W => W.cell? ⟨b1, o1 + k * 2, none⟩ = some (.int .i64 x.kind) ∧ W.cell? ⟨b1, o1 + k * 2 + 1, none⟩ = some (sv x.text) ∧ W.cell? ⟨b2, o2 + k * 2, none⟩ = some (.int .i64 x.kind) ∧ W.cell? ⟨b2, o2 + k * 2 + 1, none⟩ = some (sv x.text)) (by kernel_rfl) (by kernel_rfl) rfl (by kernel_rfl) ?_
      intro ops' hops
      clear hops
      simp only [List.map_cons, List.map_nil, pickOp_zero, pickOp_succ]
      iterate 8 (refine ord_flo ?_ (fun _ _ _ h => h) rfl ?_ ⟨e1, e2, e3, e4⟩ ?_; rotate_left; focus (intro W hS; obtain ⟨s1, s2, s3, s4⟩ := hS; go_simp; rfl))
      refine ord_ev rfl ?_
      go_simp
      refine (eqToken_same x _).mono ?_
      rintro e w2 ⟨rfl, bb⟩
      have hb2' := hbr.drew.trans (bb.mono (by show w.heap.size ≤ wr.heap.size; omega))
      have f1 := (bb.cell (p := ⟨b1, o1 + k * 2, none⟩) (by show b1 < wr.heap.size; omega)).trans e1
      have f2 := (bb.cell (p := ⟨b1, o1 + k * 2 + 1, none⟩) (by show b1 < wr.heap.size; omega)).trans e2
      have f3 := (bb.cell (p := ⟨b2, o2 + k * 2, none⟩) (by show b2 < wr.heap.size; omega)).trans e3
      have f4 := (bb.cell (p := ⟨b2, o2 + k * 2 + 1, none⟩) (by show b2 < wr.heap.size; omega)).trans e4
      refine ⟨⟨f1, f2, f3, f4⟩, ?_⟩
      iterate 1 (refine ord_flo ?_ (fun _ _ _ h => h) rfl ?_ ⟨f1, f2, f3, f4⟩ ?_; rotate_left; focus (intro W hS; obtain ⟨s1, s2, s3, s4⟩ := hS; go_simp; rfl))
      refine ord_done ?_
      go_simp
      clear e1 e2 e3 e4 f1 f2 f3 f4 bb hbr hbr0
      go_wp2
      go_roundw
      case rel => exact ⟨k + 1, by omega, by go_num, hb2'⟩
      case measure => simp [intOf]; omega
    · obtain rfl : k = l.length := by omega
      go_wp2
      go_ret
      exact ⟨rfl, hbr⟩

set_option maxHeartbeats 800000 in
theorem szTokenS_any (v : Value) (l : List Tok) (left : Nat) (w : World) (hr : Rd 2 tokc w v l) (hl : l.length ≤ 9223372036854775807) (hx : ∀ t ∈ l, t.text.length ≤ 9223372036854775807) (hL : left ≤ 1000000000000) :
    Calls Tryd.prog 19 #[v, .int .i64 left] w fun e w' => e = .returned (.int .i64 (tkR left (l.length + tkw l))) ∧ Below w.heap.size w w' := by
  obtain ⟨p, c, rfl, hp⟩ := hr.ex
  have HP := Lib.hid hp
  have HX := Lib.hid hx
  clear hp hr hx
  by_cases hbig : l.length ≤ left
  · have h1 : ¬ (left : Int) - (l.length : Int) < 0 := by omega
    go_enter Tryd.func19, Tryd.ntmps19
    go_wp2
    go_loopw [1, 4, 5] (fun lf r i wr => ∃ j : Nat, j ≤ l.length ∧ i = .int .i64 j ∧ lf = .int .i64 ((left - (l.length + tkw (l.take j)) : Nat) : Int) ∧ l.length + tkw (l.take j) ≤ left ∧ r = .int .i64 0 ∧ Below w.heap.size w wr) (fun _ _ i _ => l.length - (intOf i).toNat)
    case atStart => exact ⟨0, by omega, rfl, by simp [tkw]; omega, by simp [tkw]; omega, rfl, Below.refl _ _⟩
    case round =>
      obtain ⟨j, hj, rfl, rfl, hle, rfl, hbr⟩ := hrel
      have hbr0 := hbr.size
      by_cases hlt : j < l.length
      · obtain ⟨b, o, rfl, hb1, hc1⟩ := HP.out.resolve_left (by intro h; subst h; simp at hlt)
        obtain ⟨x, hx⟩ : ∃ x, l[j]? = some x := ⟨_, List.getElem?_eq_getElem hlt⟩
        have e1 : wr.cell? ⟨b, o + j * 2, none⟩ = some (.int .i64 x.kind) := (hbr.cell (p := ⟨b, o + j * 2, none⟩) hb1).trans (hc1 j x hx 0 _ rfl)
        have e2 : wr.cell? ⟨b, o + j * 2 + 1, none⟩ = some (sv x.text) := (hbr.cell (p := ⟨b, o + j * 2 + 1, none⟩) hb1).trans (hc1 j x hx 1 _ rfl)
        have c1 := fun W => szToken_any x (left - (l.length + tkw (l.take j))) W (HX.out x (List.mem_of_getElem? hx)) (by omega)
        have HT := Lib.hid (show tkw (l.take (j + 1)) = tkw (l.take j) + x.text.length by rw [take_tok hx, tkw_snoc])
        have hle2 := tkw_take l (j + 1)
        rw [HT.out] at hle2
        clear hc1 hx HP HX h1
        by_cases hok : l.length + tkw (l.take j) + x.text.length ≤ left
        · have h2 := tkR_yes (left := left - (l.length + tkw (l.take j))) (n := x.text.length) (by omega)
          rw [h2] at c1
          have C1 := Lib.hid c1
          have h3 : ¬ ((left - (l.length + tkw (l.take j)) - x.text.length : Nat) : Int) < 0 := by omega
          clear c1 h2
          go_wp2_with fail
          refine (C1.out _).mono ?_
          rintro e w2 ⟨rfl, b2⟩
          have hb2 := hbr.trans (b2.mono hbr0)
          clear hbr b2 e1 e2
          go_wp2
          go_roundw
          case rel =>
            refine ⟨j + 1, by omega, by go_num, ?_, by rw [HT.out]; omega, rfl, hb2⟩
            rw [HT.out]
            congr 1
            omega
          case measure => simp [intOf]; omega
        · have h2 := tkR_no (left := left - (l.length + tkw (l.take j))) (n := x.text.length) (by omega)
          rw [h2] at c1
          have C1 := Lib.hid c1
          have hno := Lib.hid (tkR_no (left := left) (n := l.length + tkw l) (by omega))
          clear c1 h2
          go_wp2_with fail
          refine (C1.out _).mono ?_
          rintro e w2 ⟨rfl, b2⟩
          have hb2 := hbr.trans (b2.mono hbr0)
          go_wp2
          go_ret
          exact ⟨by rw [hno.out]; rfl, hb2⟩
      · obtain rfl : j = l.length := by omega
        rw [List.take_length] at hle ⊢
        go_wp2
        go_ret
        refine ⟨?_, hbr⟩
        rw [tkR_yes hle]
        rfl
  · have h1 : (left : Int) - (l.length : Int) < 0 := by omega
    have hno := Lib.hid (tkR_no (left := left) (n := l.length + tkw l) (by omega))
    go_enter Tryd.func19, Tryd.ntmps19
    go_wp2
    go_ret
    exact ⟨by rw [hno.out]; rfl, Below.refl _ _⟩

theorem flat_len (l : List Tok) : (l.flatMap tokc).length = l.length * 2 := by
  induction l with
  | nil => rfl
  | cons a l ih => rw [List.flatMap_cons, List.length_append, ih]; simp [tokc]; omega

/-- make([]Token, n). -/
theorem wpList_toks {w : World} {ops : Array Oper} {rest : List Oper} {o : Oper} {a : Act} {Q : Exit → Act → World → Prop}
    (hgd : o.guard = none) (l c : Operand) (ho : o.op = Op.makeSlice 24 l c) (B : Nat) (W : World) (hb : Below B W w) (hB : B ≤ w.heap.size) (kl kc : IntKind) (n : Nat) (hl : a.eval l = .int kl (n : Int)) (hc : a.eval c = .int kc (n : Int)) (b2 : 24 * n ≤ 281474976710656)
    (h : ∀ w' xs, w'.ownsRow B 35 2 (.slice (some ⟨w.heap.size, 0, none⟩) n n) n xs → Below B W w' → w.heap.size < w'.heap.size → wpList Tryd.prog ops Q rest (a.put o.dst (.slice (some ⟨w.heap.size, 0, none⟩) n n)) w') : wpList Tryd.prog ops Q (o :: rest) a w := by
  obtain ⟨i, h1, h2, h3, h4⟩ := info_parts (show (Tryd.prog.info? 35).map (fun i => (i.zero, i.size, i.bytes)) = some (some (.agg #[.int .i64 0, .string ⟨#[]⟩]), 2, 24) from by kernel_rfl)
  refine wpList_make_full w hgd l c _ ho B 35 i _ 2 Tryd.underlying24 h1 h2 h3 kl kc (n : Int) (n : Int) n hl hc rfl rfl (by rw [h4]; exact b2) (by unfold maxLen; omega) hB ?_
  intro w' k1 k2
  exact h w' _ k1 (hb.grown k2 hB (fun k hk => by cases hk)) ((k1.lt w.heap.size rfl).2)

set_option maxHeartbeats 800000 in
theorem toTokenS_any (v : Value) (l : List Tok) (w : World) (hr : Rd 2 tokc w v l) (hl : l.length ≤ 10000000) :
    Calls Tryd.prog 20 #[v] w fun e w' => ∃ g, e = .returned (.slice (some ⟨g, 0, none⟩) l.length l.length) ∧ w'.ownsRow w.heap.size 35 2 (.slice (some ⟨g, 0, none⟩) l.length l.length) l.length (l.flatMap tokc) ∧ Below w.heap.size w w' := by
  obtain ⟨p, c, rfl, hp⟩ := hr.ex
  have HP := Lib.hid hp
  clear hp hr
  go_enter Tryd.func20, Tryd.ntmps20
  go_wp2_with (refine wpList_toks rfl _ _ rfl w.heap.size w (Below.refl _ _) (Nat.le_refl _) _ _ l.length rfl rfl (by omega) ?_)
  intro w1 xs hown1 hb1 hz1
  go_wp2
  go_loopw [4] (fun i wr => ∃ (j : Nat) (rest : List Value), j ≤ l.length ∧ i = .int .i64 j ∧ wr.ownsRow w.heap.size 35 2 (.slice (some ⟨w.heap.size, 0, none⟩) l.length l.length) l.length ((l.take j).flatMap tokc ++ rest) ∧ Below w.heap.size w wr) (fun i _ => l.length - (intOf i).toNat)
  case atStart => exact ⟨0, xs, by omega, rfl, hown1, hb1⟩
  case round =>
    obtain ⟨j, rest, hj, rfl, hown, hbr⟩ := hrel
    have hbr0 := hbr.size
    clear hown1 hb1 hz1
    by_cases hlt : j < l.length
    · obtain ⟨b, o, rfl, hb1, hc1⟩ := HP.out.resolve_left (by intro h; subst h; simp at hlt)
      obtain ⟨x, hx⟩ : ∃ x, l[j]? = some x := ⟨_, List.getElem?_eq_getElem hlt⟩
      have e1 : wr.cell? ⟨b, o + j * 2, none⟩ = some (.int .i64 x.kind) := (hbr.cell (p := ⟨b, o + j * 2, none⟩) hb1).trans (hc1 j x hx 0 _ rfl)
      have e2 : wr.cell? ⟨b, o + j * 2 + 1, none⟩ = some (sv x.text) := (hbr.cell (p := ⟨b, o + j * 2 + 1, none⟩) hb1).trans (hc1 j x hx 1 _ rfl)
      have HT := Lib.hid (take_tok hx)
      clear hc1 hx HP
      go_wp2_with fail
      refine (toToken_any x _).mono ?_
      rintro e w2 ⟨rfl, b2⟩
      have hown2 := ownsRow_below hown b2
      have hb2 := hbr.trans (b2.mono hbr0)
      obtain ⟨⟨u0, hu0⟩, ⟨u1, hu1⟩, hf0, hf1⟩ := own_cells2 hown2 hlt
      have HO := Lib.hid (own_two hown2 (by rw [flat_len, List.length_take]; omega) hlt (.int .i64 x.kind) (sv x.text))
      clear hbr b2 hown e1 e2 hown2
      go_wp2
      go_roundw
      case rel =>
        obtain ⟨rest', h⟩ := HO.out
        refine ⟨j + 1, rest', by omega, by go_num, ?_, (hb2.setCell (Nat.le_refl _) _).setCell (Nat.le_refl _) _⟩
        rw [HT.out, List.flatMap_append]
        simpa [tokc] using h
      case measure => simp [intOf]; omega
    · obtain rfl : j = l.length := by omega
      have hrest : rest = [] := by
        have := hown.1
        rw [List.take_length, List.length_append, flat_len] at this
        exact List.eq_nil_of_length_eq_zero (by omega)
      subst hrest
      rw [List.take_length, List.append_nil] at hown
      go_wp2
      go_ret
      exact ⟨w.heap.size, rfl, hown, hbr⟩

/-- The marks that the law lays into n tokens from number k on. -/
def tmarks (k n : Nat) : List Tok := (List.range n).map fun i => ⟨((k + 2 * i : Nat) : Int), markB (k + 2 * i + 1)⟩
theorem tmarks_length (k n : Nat) : (tmarks k n).length = n := by simp [tmarks]
theorem tmarks_succ (k n : Nat) : tmarks k (n + 1) = tmarks k n ++ [⟨((k + 2 * n : Nat) : Int), markB (k + 2 * n + 1)⟩] := by simp [tmarks, List.range_succ]
theorem tmarks_at (k n i : Nat) (h : i < n) : (tmarks k n)[i]? = some ⟨((k + 2 * i : Nat) : Int), markB (k + 2 * i + 1)⟩ := by simp [tmarks, h]

end Go.Proofs.YtldfakcjimaaaaaDoor
