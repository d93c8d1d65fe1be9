/-
  Chapter 3's walks: LineOf, by the model.
-/
import Derived.Test.YtldfakcjimaaaaaDoorLexA
import Derived.Test.YtldfakcjimaaaaaDoorAppS
import Derived.IntWalk
namespace Go.Proofs.YtldfakcjimaaaaaDoor
open Go.RowKit

def tokc (t : Tok) : List Value := [.int .i64 t.kind, sv t.text]
def sepL : Option Tok → Tok → List UInt8
  | none, _ => []
  | some a, t => if gapB a t = true then [32] else []
def lineFrom : Option Tok → List Tok → List UInt8
  | _, [] => []
  | p, t :: r => sepL p t ++ tokText t ++ lineFrom (some t) r
def okLine (l : List Tok) : Bool := l.all fun t => !(tokText t).isEmpty
def lineL (l : List Tok) : List UInt8 := if okLine l = true then lineFrom none l else []
def lastOr (p : Option Tok) : List Tok → Option Tok
  | [] => p
  | t :: r => lastOr (some t) r
theorem lineFrom_snoc : ∀ (l : List Tok) (p : Option Tok) (t : Tok), lineFrom p (l ++ [t]) = lineFrom p l ++ (sepL (lastOr p l) t ++ tokText t)
  | [], p, t => by simp [lineFrom, lastOr]
  | x :: l, p, t => by simp [lineFrom, lastOr, lineFrom_snoc l (some x) t]
theorem lastOr_snoc : ∀ (l : List Tok) (p : Option Tok) (t : Tok), lastOr p (l ++ [t]) = some t
  | [], _, _ => rfl
  | x :: l, _, t => lastOr_snoc l (some x) t
theorem tokText_le (t : Tok) : (tokText t).length ≤ 100 := by
  unfold tokText
  split
  · split
    · rename_i h; unfold atomB at h; simp only [Bool.and_eq_true, decide_eq_true_eq] at h; omega
    · simp
  split
  · split
    · exact litL_le _
    · have := quoteL_le t.text; omega
  split
  · split <;> simp
  split
  · split <;> simp
  · simp
theorem sepL_yes {a t : Tok} (h : gapB a t = true) : sepL (some a) t = [32] := by show (if gapB a t = true then _ else _) = _; rw [if_pos h]
theorem sepL_no {a t : Tok} (h : gapB a t = false) : sepL (some a) t = [] := by show (if gapB a t = true then _ else _) = _; rw [h]; rfl
theorem sepL_le (p : Option Tok) (t : Tok) : (sepL p t).length ≤ 1 := by
  unfold sepL; split
  · simp
  · split <;> simp
theorem take_tok {l : List Tok} {k : Nat} {t : Tok} (h : l[k]? = some t) : l.take (k + 1) = l.take k ++ [t] := by
  obtain ⟨h1, h2⟩ := List.getElem?_eq_some_iff.1 h
  rw [List.take_succ_eq_append_getElem h1, h2]
theorem line_bad {l : List Tok} {k : Nat} {t : Tok} (h : l[k]? = some t) (he : tokText t = []) : lineL l = [] := by
  unfold lineL okLine
  rw [if_neg]
  intro hc
  rw [List.all_eq_true] at hc
  have := hc t (List.mem_of_getElem? h)
  rw [he] at this
  cases this

/-- The loop's knowledge: acc is the line of the first k, none of them is empty. -/
def LnSt (l : List Tok) (k : Nat) (acc : List UInt8) : Prop := acc = lineFrom none (l.take k) ∧ okLine (l.take k) = true ∧ acc.length ≤ 101 * k
theorem LnSt.step {l : List Tok} {k : Nat} {acc : List UInt8} {t : Tok} (h : LnSt l k acc) (ht : l[k]? = some t) (he : ¬ tokText t = []) (hp : lastOr none (l.take k) = (if k = 0 then none else l[k - 1]?)) :
    LnSt l (k + 1) (acc ++ sepL (if k = 0 then none else l[k - 1]?) t ++ tokText t) := by
  obtain ⟨h1, h2, h3⟩ := h
  refine ⟨?_, ?_, ?_⟩
  · rw [take_tok ht, lineFrom_snoc, hp, h1, List.append_assoc]
  · rw [take_tok ht]
    unfold okLine at *
    rw [List.all_append, h2]
    cases hh : tokText t with
    | nil => exact absurd hh he
    | cons a r => simp [hh]
  · have := tokText_le t
    have := sepL_le (if k = 0 then none else l[k - 1]?) t
    simp only [List.length_append]; omega
theorem last_take (l : List Tok) (k : Nat) (hk : k ≤ l.length) : lastOr none (l.take k) = (if k = 0 then none else l[k - 1]?) := by
  cases k with
  | zero => simp [lastOr]
  | succ j =>
    have hj : l[j]? = some (l[j]'(by omega)) := List.getElem?_eq_getElem (by omega)
    rw [take_tok hj, lastOr_snoc, if_neg (by omega), Nat.add_sub_cancel, hj]

set_option maxHeartbeats 1600000 in
theorem specLineOf_any (v : Value) (l : List Tok) (w : World) (hr : Rd 2 tokc w v l) (hl : l.length ≤ 1048576) (hx : ∀ t ∈ l, t.text.length ≤ 1048576) :
    Calls Tryd.prog 10 #[v] w fun e w' => e = .returned (sv (lineL l)) ∧ Below w.heap.size w w' := by
  obtain ⟨p, c, rfl, hp⟩ := hr.ex
  have HP := Lib.hid hp
  have HX := Lib.hid hx
  clear hp hr hx
  go_enter Tryd.func10, Tryd.ntmps10
  go_wp2
  go_loopw [3, 4] (fun v i wr => ∃ (k n : Nat) (acc : List UInt8), k ≤ l.length ∧ i = .int .i64 k ∧ n = acc.length ∧ LnSt l k acc ∧ wr.ownsRow w.heap.size 5 1 v n (acc.map bv) ∧ Below w.heap.size w wr) (fun _ i _ => l.length - (intOf i).toNat)
  case atStart => exact ⟨0, 0, [], by omega, rfl, rfl, ⟨rfl, rfl, by simp⟩, by simpa using World.ownsRow_made w #[] 0 (Nat.le_refl _) (by unfold maxLen; omega) rfl, (Below.refl _ _).alloc (Nat.le_refl _) _⟩
  case round =>
    obtain ⟨k, n, acc, hk, rfl, hn, hst, hown, hbr⟩ := hrel
    have hbr0 := hbr.size
    have hnl : n ≤ 101 * 1048576 := by have := hst.2.2; omega
    have HN := Lib.hid hn
    have HS := Lib.hid hst
    clear hn hst
    by_cases hlt : k < l.length
    · obtain ⟨b, off, rfl, hb1, hcell⟩ := HP.out.resolve_left (by intro h; subst h; simp at hlt)
      obtain ⟨t, ht⟩ : ∃ t, l[k]? = some t := ⟨_, List.getElem?_eq_getElem hlt⟩
      have e1 : wr.cell? ⟨b, off + k * 2, none⟩ = some (.int .i64 t.kind) := (hbr.cell (p := ⟨b, off + k * 2, none⟩) hb1).trans (hcell k t ht 0 _ rfl)
      have e2 : wr.cell? ⟨b, off + k * 2 + 1, none⟩ = some (sv t.text) := (hbr.cell (p := ⟨b, off + k * 2 + 1, none⟩) hb1).trans (hcell k t ht 1 _ rfl)
      have HC := Lib.hid hcell
      have hlast := last_take l k hk
      have HT := Lib.hid ht
      have c1 := fun W => specTokenText_any t W (HX.out t (List.mem_of_getElem? ht))
      have hle := tokText_le t
      clear hcell HP ht
      by_cases he : tokText t = []
      · have HV := Lib.hid (line_bad HT.out he)
        rw [he] at c1
        have C1 := Lib.hid c1
        clear c1 he hown hlast
        go_wp2_with fail
        refine (C1.out _).mono ?_
        rintro e w1 ⟨rfl, b1⟩
        have hb := hbr.trans (b1.mono hbr0)
        go_wp2
        go_ret
        exact ⟨by rw [HV.out]; rfl, hb⟩
      · have HST := Lib.hid (HS.out.step HT.out he hlast)
        have C1 := Lib.hid c1
        have hqe : (tokText t).isEmpty = false := by cases hh : tokText t with | nil => exact absurd hh he | cons a r => rfl
        clear c1 he hlast
        generalize tokText t = tt at *
        go_wp2_with fail
        refine (C1.out _).mono ?_
        rintro e w1 ⟨rfl, b1⟩
        have hb := hbr.trans (b1.mono hbr0)
        have hz := hb.size
        have hown1 := ownsRow_below hown b1
        have f1 := (b1.cell (p := ⟨b, off + k * 2, none⟩) (by show b < wr.heap.size; omega)).trans e1
        have f2 := (b1.cell (p := ⟨b, off + k * 2 + 1, none⟩) (by show b < wr.heap.size; omega)).trans e2
        clear e1 e2 hown b1 C1 hbr hbr0
        by_cases hk0 : k = 0
        · subst hk0
          clear f1 f2
          go_wp2
          refine ord_start [(0, true), (1, true), (2, true), (3, true), (4, true), (5, true), (6, true), (7, true), (8, true), (9, true), (10, true), (11, true), (12, false), (13, true)] (fun _ => True) (by kernel_rfl) (by kernel_rfl) rfl (by kernel_rfl) ?_
          intro ops' hops
          simp only [List.map_cons, List.map_nil, pickOp_zero, pickOp_succ]
          iterate 3 (refine ord_flo ?_ (fun _ _ _ h => h) rfl ?_ trivial ?_; rotate_left; focus (intro _ _; go_simp; rfl))
          iterate 9 (refine ord_not (fun _ _ _ h => h) (by rw [hops.out]; kernel_rfl) trivial ?_)
          refine ord_evnot trivial (by rw [hops.out]; kernel_rfl) ?_
          iterate 1 (refine ord_flo ?_ (fun _ _ _ h => h) rfl ?_ trivial ?_; rotate_left; focus (intro _ _; go_simp; rfl))
          refine ord_done ?_
          go_simp
          have HN2 := HN.out
          go_wp2_with (at_builtin; refine wpList_appS rfl (.tmp 37) (.tmp 38) rfl w u3 n acc rfl hown1.drew hb.drew hz tt rfl (by omega) ?_)
          intro v' w2 hown2 hb2 _
          clear hown1 hb HN2
          go_wp2
          go_roundw
          case rel => exact ⟨1, n + tt.length, acc ++ tt, by omega, by go_num, by rw [HN.out]; simp, by simpa [sepL] using HST.out, by rw [HN.out, List.map_append]; exact hown2, hb2⟩
          case measure => simp [intOf]; omega
        · obtain ⟨j, rfl⟩ : ∃ j, k = j + 1 := ⟨k - 1, by omega⟩
          obtain ⟨t0, ht0⟩ : ∃ t0, l[j]? = some t0 := ⟨_, List.getElem?_eq_getElem (by omega)⟩
          have g1 : w1.cell? ⟨b, off + j * 2, none⟩ = some (.int .i64 t0.kind) := (hb.cell (p := ⟨b, off + j * 2, none⟩) hb1).trans (HC.out j t0 ht0 0 _ rfl)
          have g2 : w1.cell? ⟨b, off + j * 2 + 1, none⟩ = some (sv t0.text) := (hb.cell (p := ⟨b, off + j * 2 + 1, none⟩) hb1).trans (HC.out j t0 ht0 1 _ rfl)
          have HST2 := Lib.hid (show LnSt l (j + 1 + 1) (acc ++ sepL (some t0) t ++ tt) by have := HST.out; rw [if_neg (by omega), Nat.add_sub_cancel, ht0] at this; exact this)
          have hjc : ((j + 1 : Nat) : Int) = (j : Int) + 1 := by omega
          have hwr : IntKind.i64.wrap (j : Int) = (j : Int) := IntWalk.i64_in _ (by omega)
          clear ht0 HST HC hk0
          go_wp2
          refine ord_start [(0, true), (1, true), (2, true), (3, true), (4, true), (5, true), (6, true), (7, true), (8, true), (9, true), (10, true), (11, true), (12, false), (13, true)] (fun W => W.cell? ⟨b, off + j * 2, none⟩ = some (.int .i64 t0.kind) ∧ W.cell? ⟨b, off + j * 2 + 1, none⟩ = some (sv t0.text) ∧ W.cell? ⟨b, off + (j + 1) * 2, none⟩ = some (.int .i64 t.kind) ∧ W.cell? ⟨b, off + (j + 1) * 2 + 1, none⟩ = some (sv t.text)) (by kernel_rfl) (by kernel_rfl) rfl (by kernel_rfl) ?_
          intro ops' hops
          simp only [List.map_cons, List.map_nil, pickOp_zero, pickOp_succ]
          iterate 3 (refine ord_flo ?_ (fun _ _ _ h => h) rfl ?_ ⟨g1, g2, f1, f2⟩ ?_; rotate_left; focus (intro W hS; obtain ⟨s1, s2, s3, s4⟩ := hS; go_simp; rfl))
          iterate 3 (refine ord_flo ?_ (fun _ _ _ h => h) (by rw [hops.out]; kernel_rfl) ?_ ⟨g1, g2, f1, f2⟩ ?_; rotate_left; focus (intro W hS; obtain ⟨s1, s2, s3, s4⟩ := hS; go_simp; rfl))
          refine ord_flo (.pointer (some ⟨b, off + j * 2, none⟩)) (fun _ _ _ h => h) (by rw [hops.out]; kernel_rfl) ?_ ⟨g1, g2, f1, f2⟩ ?_
          · intro W hS
            go_simp
            intro h
            omega
          iterate 3 (refine ord_flo ?_ (fun _ _ _ h => h) (by rw [hops.out]; kernel_rfl) ?_ ⟨g1, g2, f1, f2⟩ ?_; rotate_left; focus (intro W hS; obtain ⟨s1, s2, s3, s4⟩ := hS; go_simp; rfl))
          refine ord_flo (.pointer (some ⟨b, off + (j + 1) * 2, none⟩)) (fun _ _ _ h => h) (by rw [hops.out]; kernel_rfl) ?_ ⟨g1, g2, f1, f2⟩ ?_
          · intro W hS
            go_simp
            intro h
            omega
          iterate 1 (refine ord_flo ?_ (fun _ _ _ h => h) (by rw [hops.out]; kernel_rfl) ?_ ⟨g1, g2, f1, f2⟩ ?_; rotate_left; focus (intro W hS; obtain ⟨s1, s2, s3, s4⟩ := hS; go_simp; rfl))
          refine ord_ev (by rw [hops.out]; kernel_rfl) ?_
          go_simp
          refine (l3Gap_any t0 t _).mono ?_
          rintro e w2 ⟨rfl, b2⟩
          have b2' : Below w1.heap.size w1 w2 := (Below.refl _ w1).drew.trans b2
          have i1 := (b2'.cell (p := ⟨b, off + j * 2, none⟩) (by show b < w1.heap.size; omega)).trans g1
          have i2 := (b2'.cell (p := ⟨b, off + j * 2 + 1, none⟩) (by show b < w1.heap.size; omega)).trans g2
          have i3 := (b2'.cell (p := ⟨b, off + (j + 1) * 2, none⟩) (by show b < w1.heap.size; omega)).trans f1
          have i4 := (b2'.cell (p := ⟨b, off + (j + 1) * 2 + 1, none⟩) (by show b < w1.heap.size; omega)).trans f2
          refine ⟨⟨i1, i2, i3, i4⟩, ?_⟩
          have hown2 := ownsRow_below hown1 b2'
          have hb2 := hb.trans (b2'.mono hz)
          have hz2 := hb2.size
          clear g1 g2 f1 f2 b2 b2' hown1 hb hz
          iterate 1 (refine ord_flo ?_ (fun _ _ _ h => h) rfl ?_ ⟨i1, i2, i3, i4⟩ ?_; rotate_left; focus (intro W hS; obtain ⟨s1, s2, s3, s4⟩ := hS; go_simp; rfl))
          refine ord_done ?_
          go_simp
          clear i1 i2 i3 i4 hwr
          cases hgap : gapB t0 t with
          | true =>
            have HST3 := Lib.hid (show LnSt l (j + 1 + 1) (acc ++ [32] ++ tt) by have := HST2.out; rw [sepL_yes hgap] at this; exact this)
            clear HST2 hgap
            go_wp2_with (at_builtin; refine wpList_app1 Tryd.el_u8 rfl (.tmp 34) (.tmp 35) rfl w w2 u3 n _ rfl hown2 hb2 hz2 _ (.inr rfl) 1 1 rfl rfl (by simp [Value.oneCell']) (by omega) (by omega) (by omega) ?_)
            intro g cap w3 hown3 hb3 _ _ _
            have hz3 := hb3.size
            have hown4 : w3.ownsRow w.heap.size 5 1 (.slice (some ⟨g, 0, none⟩) (n + 1) cap) (n + 1) ((acc ++ [32]).map bv) := by rw [List.map_append]; exact hown3
            clear hown2 hb2 hz2 hown3
            go_wp2_with (at_builtin; refine wpList_appS rfl (.tmp 37) (.tmp 38) rfl w _ (n + 1) (acc ++ [32]) rfl hown4 hb3 hz3 tt rfl (by omega) ?_)
            intro v' w4 hown5 hb4 _
            clear hown4 hb3 hz3
            go_wp2
            go_roundw
            case rel => exact ⟨j + 1 + 1, n + 1 + tt.length, acc ++ [32] ++ tt, by omega, by go_num, by rw [HN.out]; simp; omega, HST3.out, by simpa using hown5, hb4⟩
            case measure => simp [intOf]; omega
          | false =>
            have HST3 := Lib.hid (show LnSt l (j + 1 + 1) (acc ++ tt) by have := HST2.out; rw [sepL_no hgap] at this; simpa using this)
            clear HST2 hgap
            go_wp2_with (at_builtin; refine wpList_appS rfl (.tmp 37) (.tmp 38) rfl w u3 n acc rfl hown2 hb2 hz2 tt rfl (by omega) ?_)
            intro v' w4 hown5 hb4 _
            clear hown2 hb2 hz2
            go_wp2
            go_roundw
            case rel => exact ⟨j + 1 + 1, n + tt.length, acc ++ tt, by omega, by go_num, by rw [HN.out]; simp, HST3.out, by simpa using hown5, hb4⟩
            case measure => simp [intOf]; omega
    · obtain rfl : k = l.length := by omega
      have hV : lineL l = acc := by
        have h1 := HS.out.1
        have h2 := HS.out.2.1
        rw [List.take_length] at h1 h2
        unfold lineL
        rw [if_pos h2, ← h1]
      have HV := Lib.hid hV
      have hback := conv_own (P := Tryd.prog) 22 9 5 hown HN.out.symm Tryd.underlying22 Tryd.underlying5 Tryd.underlying9
      clear hV hown
      go_wp2
      go_ret
      exact ⟨by rw [HV.out]; rfl, hbr⟩

end Go.Proofs.YtldfakcjimaaaaaDoor
