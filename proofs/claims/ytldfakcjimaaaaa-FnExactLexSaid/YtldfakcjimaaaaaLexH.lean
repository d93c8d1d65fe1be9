/-
  The laws' own helpers on tokens: size, copy, equality, marks.
-/
import Derived.Test.YtldfakcjimaaaaaLexF
import Derived.Test.YtldfakcjimaaaaaStr
namespace Go.Proofs.Ytldfakcjimaaaaa
open Go.RowKit

/-- How much a list of tokens weighs: one a token, and its bytes. -/
def tkw (l : List Tok) : Nat := (l.map fun t => t.text.length).foldr (· + ·) 0
theorem tkw_snoc (l : List Tok) (x : Tok) : tkw (l ++ [x]) = tkw l + x.text.length := by
  induction l with
  | nil => simp [tkw]
  | cons a l ih => simp only [tkw, List.cons_append, List.map_cons, List.foldr_cons] at ih ⊢; omega
theorem tkw_take (l : List Tok) (k : Nat) : tkw (l.take k) ≤ tkw l := by
  induction l generalizing k with
  | nil => simp
  | cons a l ih =>
    cases k with
    | zero => simp [tkw]
    | succ k => have := ih k; simp only [tkw, List.take_succ_cons, List.map_cons, List.foldr_cons] at this ⊢; omega
theorem tkw_mem (l : List Tok) (t : Tok) (h : t ∈ l) : t.text.length ≤ tkw l := by
  induction l with
  | nil => cases h
  | cons a l ih =>
    simp only [tkw, List.map_cons, List.foldr_cons] at ih ⊢
    rcases List.mem_cons.1 h with rfl | h
    · omega
    · have := ih h; omega
def tkR (left : Nat) (n : Nat) : Int := if n ≤ left then ((left - n : Nat) : Int) else -1
theorem tkR_yes {left n : Nat} (h : n ≤ left) : tkR left n = ((left - n : Nat) : Int) := if_pos h
theorem tkR_no {left n : Nat} (h : ¬ n ≤ left) : tkR left n = -1 := if_neg h

theorem eqToken_same (t : Tok) (w : World) :
    Calls Try.prog 16 #[tokv t, tokv t] w fun e w' => e = .returned (.bool true) ∧ Below w.heap.size w w' := by
  go_enter Try.func16, Try.ntmps16
  go_wp2
  go_ret
  exact ⟨rfl, ((Below.refl _ _).alloc (Nat.le_refl _) _).alloc (by simp) _⟩

set_option maxHeartbeats 800000 in
theorem eqTokenS_same (a b : Value) (l : List Tok) (w : World) (ha : Rd 2 tokc w a l) (hb : Rd 2 tokc w b l) (hl : l.length ≤ 140737488355328) :
    Calls Try.prog 7 #[a, b] w fun e w' => e = .returned (.bool true) ∧ Below w.heap.size w w' := by
  obtain ⟨p, c1, rfl, hp⟩ := ha.ex
  obtain ⟨q, c2, rfl, hq⟩ := hb.ex
  clear ha hb
  have HP := Lib.hid hp
  have HQ := Lib.hid hq
  clear hp hq
  go_enter Try.func7, Try.ntmps7
  go_wp2
  go_loopw [5] (fun i wr => ∃ k : Nat, k ≤ l.length ∧ i = .int .i64 k ∧ Below w.heap.size w wr) (fun i _ => l.length - (intOf i).toNat)
  case atStart => exact ⟨0, by omega, rfl, Below.refl _ _⟩
  case round =>
    obtain ⟨k, hk, rfl, hbr⟩ := hrel
    have hbr0 := hbr.size
    by_cases hlt : k < l.length
    · obtain ⟨b1, o1, rfl, hb1, hc1⟩ := HP.out.resolve_left (by intro h; subst h; simp at hlt)
      obtain ⟨b2, o2, rfl, hb2, hc2⟩ := HQ.out.resolve_left (by intro h; subst h; simp at hlt)
      obtain ⟨x, hx⟩ : ∃ x, l[k]? = some x := ⟨_, List.getElem?_eq_getElem hlt⟩
      have e1 : wr.cell? ⟨b1, o1 + k * 2, none⟩ = some (.int .i64 x.kind) := (hbr.cell (p := ⟨b1, o1 + k * 2, none⟩) hb1).trans (hc1 k x hx 0 _ rfl)
      have e2 : wr.cell? ⟨b1, o1 + k * 2 + 1, none⟩ = some (sv x.text) := (hbr.cell (p := ⟨b1, o1 + k * 2 + 1, none⟩) hb1).trans (hc1 k x hx 1 _ rfl)
      have e3 : wr.cell? ⟨b2, o2 + k * 2, none⟩ = some (.int .i64 x.kind) := (hbr.cell (p := ⟨b2, o2 + k * 2, none⟩) hb2).trans (hc2 k x hx 0 _ rfl)
      have e4 : wr.cell? ⟨b2, o2 + k * 2 + 1, none⟩ = some (sv x.text) := (hbr.cell (p := ⟨b2, o2 + k * 2 + 1, none⟩) hb2).trans (hc2 k x hx 1 _ rfl)
      clear hc1 hc2 hx HP HQ
      go_wp2
      refine ord_start [(0, true), (1, true), (2, true), (3, true), (4, true), (5, true), (6, true), (7, true), (8, false), (9, true)] (fun W => W.cell? ⟨b1, o1 + k * 2, none⟩ = some (.int .i64 x.kind) ∧ W.cell? ⟨b1, o1 + k * 2 + 1, none⟩ = some (sv x.text) ∧ W.cell? ⟨b2, o2 + k * 2, none⟩ = some (.int .i64 x.kind) ∧ W.cell? ⟨b2, o2 + k * 2 + 1, none⟩ = some (sv x.text)) (by kernel_rfl) (by kernel_rfl) rfl (by kernel_rfl) ?_
      intro ops' hops
      clear hops
      simp only [List.map_cons, List.map_nil, pickOp_zero, pickOp_succ]
      iterate 8 (refine ord_flo ?_ (fun _ _ _ h => h) rfl ?_ ⟨e1, e2, e3, e4⟩ ?_; rotate_left; focus (intro W hS; obtain ⟨s1, s2, s3, s4⟩ := hS; go_simp; rfl))
      refine ord_ev rfl ?_
      go_simp
      refine (eqToken_same x _).mono ?_
      rintro e w2 ⟨rfl, bb⟩
      have hb2' := hbr.drew.trans (bb.mono (by show w.heap.size ≤ wr.heap.size; omega))
      have f1 := (bb.cell (p := ⟨b1, o1 + k * 2, none⟩) (by show b1 < wr.heap.size; omega)).trans e1
      have f2 := (bb.cell (p := ⟨b1, o1 + k * 2 + 1, none⟩) (by show b1 < wr.heap.size; omega)).trans e2
      have f3 := (bb.cell (p := ⟨b2, o2 + k * 2, none⟩) (by show b2 < wr.heap.size; omega)).trans e3
      have f4 := (bb.cell (p := ⟨b2, o2 + k * 2 + 1, none⟩) (by show b2 < wr.heap.size; omega)).trans e4
      refine ⟨⟨f1, f2, f3, f4⟩, ?_⟩
      iterate 1 (refine ord_flo ?_ (fun _ _ _ h => h) rfl ?_ ⟨f1, f2, f3, f4⟩ ?_; rotate_left; focus (intro W hS; obtain ⟨s1, s2, s3, s4⟩ := hS; go_simp; rfl))
      refine ord_done ?_
      go_simp
      clear e1 e2 e3 e4 f1 f2 f3 f4 bb hbr hbr0
      go_wp2
      go_roundw
      case rel => exact ⟨k + 1, by omega, by go_num, hb2'⟩
      case measure => simp [intOf]; omega
    · obtain rfl : k = l.length := by omega
      go_wp2
      go_ret
      exact ⟨rfl, hbr⟩

theorem flat_len (l : List Tok) : (l.flatMap tokc).length = l.length * 2 := by
  induction l with
  | nil => rfl
  | cons a l ih => rw [List.flatMap_cons, List.length_append, ih]; simp [tokc]; omega

/-- make([]Token, n). -/
theorem wpList_toks {w : World} {ops : Array Oper} {rest : List Oper} {o : Oper} {a : Act} {Q : Exit → Act → World → Prop}
    (hgd : o.guard = none) (l c : Operand) (ho : o.op = Op.makeSlice 22 l c) (B : Nat) (W : World) (hb : Below B W w) (hB : B ≤ w.heap.size) (kl kc : IntKind) (n : Nat) (hl : a.eval l = .int kl (n : Int)) (hc : a.eval c = .int kc (n : Int)) (b2 : 24 * n ≤ 281474976710656)
    (h : ∀ w' xs, w'.ownsRow B 30 2 (.slice (some ⟨w.heap.size, 0, none⟩) n n) n xs → Below B W w' → w.heap.size < w'.heap.size → wpList Try.prog ops Q rest (a.put o.dst (.slice (some ⟨w.heap.size, 0, none⟩) n n)) w') : wpList Try.prog ops Q (o :: rest) a w := by
  obtain ⟨i, h1, h2, h3, h4⟩ := info_parts (show (Try.prog.info? 30).map (fun i => (i.zero, i.size, i.bytes)) = some (some (.agg #[.int .i64 0, .string ⟨#[]⟩]), 2, 24) from by kernel_rfl)
  refine wpList_make_full w hgd l c _ ho B 30 i _ 2 Try.underlying22 h1 h2 h3 kl kc (n : Int) (n : Int) n hl hc rfl rfl (by rw [h4]; exact b2) (by unfold maxLen; omega) hB ?_
  intro w' k1 k2
  exact h w' _ k1 (hb.grown k2 hB (fun k hk => by cases hk)) ((k1.lt w.heap.size rfl).2)

/-- The marks that the law lays into n tokens from number k on. -/
def tmarks (k n : Nat) : List Tok := (List.range n).map fun i => ⟨((k + 2 * i : Nat) : Int), markB (k + 2 * i + 1)⟩
theorem tmarks_length (k n : Nat) : (tmarks k n).length = n := by simp [tmarks]
theorem tmarks_succ (k n : Nat) : tmarks k (n + 1) = tmarks k n ++ [⟨((k + 2 * n : Nat) : Int), markB (k + 2 * n + 1)⟩] := by simp [tmarks, List.range_succ]
theorem tmarks_at (k n i : Nat) (h : i < n) : (tmarks k n)[i]? = some ⟨((k + 2 * i : Nat) : Int), markB (k + 2 * i + 1)⟩ := by simp [tmarks, h]

set_option maxHeartbeats 1600000 in
theorem markTokenS_any (v : Value) (n : Nat) (xs : List Value) (kk : Int) (k B : Nat) (hkk : kk = (k : Int)) (w : World) (hown : w.ownsRow B 30 2 v n xs) (hk : k ≤ 1000000000000) (hl : n ≤ 1000000000000) :
    Calls Try.prog 8 #[v, .int .i64 kk] w fun e w' => e = .returned (.int .i64 (k + 2 * n : Nat)) ∧ w'.ownsRow B 30 2 v n ((tmarks k n).flatMap tokc) ∧ w.grownBy w' v.ownBlock := by
  subst hkk
  have hex : ∃ p c, v = .slice p n c ∧ (0 < n → ∃ g, p = some ⟨g, 0, none⟩) := by
    rcases h : hown.2 with ⟨hv, h0⟩ | ⟨g, cap, cur, hv, _⟩
    · exact ⟨none, 0, by rw [hv, h0], fun h => by omega⟩
    · exact ⟨_, cap, hv, fun _ => ⟨g, rfl⟩⟩
  obtain ⟨p, c, rfl, hp⟩ := hex
  have HP := Lib.hid hp
  clear hp
  go_enter Try.func8, Try.ntmps8
  go_wp2
  go_loopw [1, 5] (fun kk i wr => ∃ (j : Nat) (rest : List Value), j ≤ n ∧ i = .int .i64 j ∧ kk = .int .i64 (k + 2 * j : Nat) ∧ wr.ownsRow B 30 2 (.slice p n c) n ((tmarks k j).flatMap tokc ++ rest) ∧ w.grownBy wr (Value.ownBlock (.slice p n c))) (fun _ i _ => n - (intOf i).toNat)
  case atStart => exact ⟨0, xs, by omega, rfl, rfl, hown, World.grownBy.refl _ _⟩
  case round =>
    obtain ⟨j, rest, hj, rfl, rfl, hor, hgr⟩ := hrel
    clear hown
    by_cases hlt : j < n
    · obtain ⟨g, rfl⟩ := HP.out (by omega)
      have hqb : k + 2 * j ≤ 3000000000000 := by omega
      generalize hq : k + 2 * j = q at *
      have HQ := Lib.hid hq
      obtain ⟨⟨u0, hu0⟩, ⟨u1, hu1⟩, hf0, hf1⟩ := own_cells2 hor hlt
      have hglt := (hor.lt g rfl).2
      have hset := hor.stored (j * 2) (.int .i64 (q : Int))
      have hcell1 : (wr.setCell ⟨g, j * 2, none⟩ (.int .i64 (q : Int))).cell? ⟨g, j * 2 + 1, none⟩ = some u1 := (World.cell?_setCell_other wr _ _ _ (by intro e; injection e with _ e2; omega)).trans hu1
      have hA : ((tmarks k j).flatMap tokc).length = j * 2 := by rw [flat_len, tmarks_length]
      have hl2 : ((tmarks k j).flatMap tokc ++ rest).length = n * 2 := hor.1
      have HA := Lib.hid hA
      have HL2 := Lib.hid hl2
      have HO := Lib.hid hor
      have HS := Lib.hid hset
      have HG := Lib.hid hgr
      clear hA hset hor hgr HP hq hl2
      go_wp2_with fail
      refine (markText_any (q + 1) _ (by omega)).mono ?_
      rintro e w2 ⟨rfl, b2⟩
      have hs2 := (ownsRow_below HS.out.1 b2)
      have hc2 := (b2.cell (p := ⟨g, j * 2 + 1, none⟩) (by show g < _; simpa using hglt)).trans hcell1
      have hf2 := hs2.frozenAt (j * 2 + 1)
      have HS3 := Lib.hid (hs2.stored (j * 2 + 1) (sv (markB (q + 1))))
      have HG2 := Lib.hid (grown_below (grown_grown HG.out HS.out.2) b2)
      clear hs2 b2 HS HG hcell1 hu0 hu1 hf0 hf1
      go_wp2
      go_roundw
      case rel =>
        obtain ⟨r0, r1, r, hr⟩ : ∃ r0 r1 r, rest = r0 :: r1 :: r := by
          have := HL2.out
          rw [List.length_append, HA.out] at this
          match rest, this with
          | [], hl => simp at hl; omega
          | [_], hl => simp at hl; omega
          | r0 :: r1 :: r, _ => exact ⟨r0, r1, r, rfl⟩
        have hA := HA.out
        have e1 : (((tmarks k j).flatMap tokc ++ rest).set (j * 2) (.int .i64 (q : Int))).set (j * 2 + 1) (sv (markB (q + 1))) = ((tmarks k (j + 1)).flatMap tokc) ++ r := by
          subst hr
          rw [List.set_append_right _ _ (by omega), hA, Nat.sub_self, List.set_cons_zero, List.set_append_right _ _ (by omega), hA, show j * 2 + 1 - j * 2 = 1 by omega, tmarks_succ, HQ.out]
          simp [tokc]
        have h3 := HS3.out
        rw [e1] at h3
        refine ⟨j + 1, r, by omega, by go_num, ?_, h3.1, grown_grown HG2.out h3.2⟩
        have := HQ.out
        congr 1
        omega
      case measure => simp [intOf]; omega
    · obtain rfl : j = n := by omega
      have hrest : rest = [] := by
        have := hor.1
        rw [List.length_append, flat_len, tmarks_length] at this
        exact List.eq_nil_of_length_eq_zero (by omega)
      subst hrest
      rw [List.append_nil] at hor
      go_wp2
      go_ret
      exact ⟨rfl, hor, hgr⟩

set_option maxHeartbeats 1600000 in
theorem heldTokenS_any (v : Value) (kk : Int) (n k : Nat) (hkk : kk = (k : Int)) (w : World) (hr : Rd 2 tokc w v (tmarks k n)) (hk : k ≤ 1000000000000) (hl : n ≤ 1000000000000) :
    Calls Try.prog 9 #[v, .int .i64 kk] w fun e w' => e = .returned (.int .i64 (k + 2 * n : Nat)) ∧ Below w.heap.size w w' := by
  subst hkk
  obtain ⟨p, c, hv, hp⟩ := hr.ex
  rw [tmarks_length] at hv
  subst hv
  have HP := Lib.hid hp
  clear hp hr
  go_enter Try.func9, Try.ntmps9
  go_wp2
  go_loopw [1, 5] (fun kk i wr => ∃ j : Nat, j ≤ n ∧ i = .int .i64 j ∧ kk = .int .i64 (k + 2 * j : Nat) ∧ Below w.heap.size w wr) (fun _ i _ => n - (intOf i).toNat)
  case atStart => exact ⟨0, by omega, rfl, rfl, Below.refl _ _⟩
  case round =>
    obtain ⟨j, hj, rfl, rfl, hbr⟩ := hrel
    have hbr0 := hbr.size
    by_cases hlt : j < n
    · obtain ⟨b, o, rfl, hb1, hc1⟩ := HP.out.resolve_left (by intro h; have := congrArg List.length h; rw [tmarks_length] at this; simp at this; omega)
      have hqb : k + 2 * j ≤ 3000000000000 := by omega
      have e1 : wr.cell? ⟨b, o + j * 2, none⟩ = some (.int .i64 ((k + 2 * j : Nat) : Int)) := (hbr.cell (p := ⟨b, o + j * 2, none⟩) hb1).trans (hc1 j _ (tmarks_at k n j hlt) 0 _ rfl)
      have e2 : wr.cell? ⟨b, o + j * 2 + 1, none⟩ = some (sv (markB (k + 2 * j + 1))) := (hbr.cell (p := ⟨b, o + j * 2 + 1, none⟩) hb1).trans (hc1 j _ (tmarks_at k n j hlt) 1 _ rfl)
      generalize hq : k + 2 * j = q at *
      have HQ := Lib.hid hq
      have hwr : IntKind.i64.wrap ((q : Int) + 1) = (q : Int) + 1 := IntWalk.i64_in _ (by omega)
      clear hc1 HP hq
      go_wp2
      refine ord_start [(0, true), (1, true), (2, true), (3, true), (4, true), (5, true), (6, false), (7, true)] (fun W => W.cell? ⟨b, o + j * 2 + 1, none⟩ = some (sv (markB (q + 1)))) (by kernel_rfl) (by kernel_rfl) rfl (by kernel_rfl) ?_
      intro ops' hops
      clear hops
      simp only [List.map_cons, List.map_nil, pickOp_zero, pickOp_succ]
      iterate 6 (refine ord_flo ?_ (fun _ _ _ h => h) rfl ?_ e2 ?_; rotate_left; focus (intro W hS; obtain s1 := hS; go_simp; rfl))
      refine ord_ev rfl ?_
      go_simp
      refine (markText_any (q + 1) _ (by omega)).mono ?_
      rintro e w1 ⟨rfl, hb2⟩
      have e3 : w1.cell? ⟨b, o + j * 2 + 1, none⟩ = some (sv (markB (q + 1))) := (hb2.cell (p := ⟨b, o + j * 2 + 1, none⟩) (by show b < wr.heap.size; omega)).trans e2
      refine ⟨e3, ?_⟩
      iterate 1 (refine ord_flo ?_ (fun _ _ _ h => h) rfl ?_ e3 ?_; rotate_left; focus (intro W hS; obtain s1 := hS; go_simp; rfl))
      refine ord_done ?_
      go_simp
      have hbf := hbr.drew.trans (Below.mono hb2 (by show w.heap.size ≤ wr.heap.size; omega))
      clear e1 e2 e3 hb2 hbr hbr0 hwr
      go_wp2
      go_roundw
      case rel =>
        refine ⟨j + 1, by omega, by go_num, ?_, hbf⟩
        have := HQ.out
        congr 1
        omega
      case measure => simp [intOf]; omega
    · obtain rfl : j = n := by omega
      go_wp2
      go_ret
      exact ⟨rfl, hbr⟩

end Go.Proofs.Ytldfakcjimaaaaa
