/-
  Chapter 3's draws of lines, and sameTokens.
-/
import Derived.Test.YtldfakcjimaaaaaDoorLexE
namespace Go.Proofs.YtldfakcjimaaaaaDoor
open Go.RowKit

def LineDrawn (w : World) (e : Ending) (w' : World) : Prop := ∃ (v : Value) (n : Nat) (l : List Tok), e = .returned v ∧ n = l.length ∧ n ≤ 7 ∧ (∀ t ∈ l, t.text.length ≤ 50) ∧ w'.ownsRow w.heap.size 35 2 v n (l.flatMap tokc) ∧ Below w.heap.size w w'

set_option maxHeartbeats 1600000 in
theorem DrawLineOf_any (v : Value) (code : List UInt8) (w : World) (hr : Rd1 bv w v code) (hl : code.length ≤ 1048576) :
    Calls Tryd.prog 8 #[v] w fun e w' => LineDrawn w e w' := by
  have HR := Lib.hid hr
  clear hr
  go_enter Tryd.func8, Tryd.ntmps8
  go_wp2_with fail
  refine (l1New_any v code _ HR.out hl).mono ?_
  rintro e w1 ⟨g, rfl, hg, hc1, hb1⟩
  have hz1 := hb1.size
  go_wp2_with fail
  refine (l3List_any g code _ hc1).mono ?_
  rintro e w2 ⟨v2, n, l, rfl, hn, hn6, htl, ho2, hc2, hg2⟩
  have hb2 := below_cur hb1 hg2 hb1.size hg
  have hz2 := hb2.size
  have hlt1 := hc1.lt
  have hne2 : ∀ j, v2.ownBlock = some j → g < j := fun j hj => by have := (ho2.lt j hj).1; omega
  go_wp2_with fail
  refine (l1Once_any g code _ 5 (by omega) _ hc2 (by omega) (by omega)).mono ?_
  rintro e w3 ⟨b, rfl, hc3, hg3⟩
  have hb3 := below_cur hb2 hg3 hb2.size hg
  have hz3 := hb3.size
  have ho3 := ho2.kept hg3 (by
    by_cases hv1 : v2.ownBlock = none
    · exact .inl hv1
    · right; intro e; have := hne2 g e; omega)
  have ho3' : w3.ownsRow w.heap.size 35 2 v2 n (l.flatMap tokc) := ⟨ho3.1, by
    rcases ho3.2 with h | ⟨g', cap, cur, h1, h2, h3⟩
    · exact .inl h
    · exact .inr ⟨g', cap, cur, h1, by omega, h3⟩⟩
  have HN := Lib.hid hn
  have HT := Lib.hid htl
  clear hc1 hb1 hg2 hb2 hg3 ho2 hc2 hn htl ho3 hz1
  cases b with
  | true =>
    go_wp2_with fail
    refine (l3Bent_any g code _ hc3).mono ?_
    rintro e w4 ⟨t, rfl, htl, hc4, hg4⟩
    have hb4 := below_cur hb3 hg4 hb3.size hg
    have hz4 := hb4.size
    have ho4 := ho3'.kept hg4 (by
      by_cases hv1 : v2.ownBlock = none
      · exact .inl hv1
      · right; intro e; have := hne2 g e; omega)
    clear hb3 hg4 ho3' hc3 hc4
    go_wp2_with (at_builtin; refine wpList_app1 Tryd.el_tok rfl (.tmp 11) (.tmp 14) rfl w w4 v2 n _ rfl ho4 hb4 hz4 #[.int .i64 t.kind, sv t.text] (.inr rfl) 1 1 rfl rfl (by simp [Value.oneCell']) (by omega) (by omega) (by omega) ?_)
    intro g2 cap w5 ho5 hb5 _ _ _
    clear ho4 hb4
    go_wp2
    go_ret
    refine ⟨_, n + 1, l ++ [t], rfl, by rw [HN.out]; simp, by omega, ?_, by rw [List.flatMap_append]; simpa [tokc] using ho5, hb5⟩
    intro y hy
    rcases List.mem_append.1 hy with hy | hy
    · exact HT.out y hy
    · simp only [List.mem_singleton] at hy; subst hy; exact htl
  | false =>
    go_wp2
    go_ret
    exact ⟨_, n, l, rfl, HN.out, by omega, HT.out, ho3', hb3⟩

theorem line_le (l : List Tok) (n : Nat) (h : l.length ≤ n) : (lineL l).length ≤ 101 * n := by
  have key : ∀ (l : List Tok) (p : Option Tok), (lineFrom p l).length ≤ 101 * l.length := by
    intro l
    induction l with
    | nil => intro p; simp [lineFrom]
    | cons t r ih =>
      intro p
      have h1 := sepL_le p t
      have h2 := tokText_le t
      have h3 := ih (some t)
      simp only [lineFrom, List.length_append, List.length_cons]
      omega
  unfold lineL
  split
  · have := key l none; omega
  · simp

set_option maxHeartbeats 1600000 in
theorem DrawLex_any (v : Value) (code : List UInt8) (w : World) (hr : Rd1 bv w v code) (hl : code.length ≤ 1048576) :
    Calls Tryd.prog 13 #[v] w fun e w' => TextPost 4000 w e w' := by
  have HR := Lib.hid hr
  clear hr
  go_enter Tryd.func13, Tryd.ntmps13
  go_wp2_with fail
  refine (l1New_any v code _ HR.out hl).mono ?_
  rintro e w1 ⟨g, rfl, hg, hc1, hb1⟩
  go_wp2_with fail
  refine (l3List_any g code _ hc1).mono ?_
  rintro e w2 ⟨v2, n, l, rfl, hn, hn6, htl, ho2, hc2, hg2⟩
  have hb2 := below_cur hb1 hg2 hb1.size hg
  have hrd := Rd.of_own (enc := tokc) (fun _ => rfl) hn.symm ho2
  have hll := line_le l 6 (by omega)
  have C1 := Lib.hid (specLineOf_any v2 l w2 hrd (by omega) (fun t ht => by have := htl t ht; omega))
  clear hrd htl ho2 hc1 hb1 hg2
  go_wp2_with fail
  refine (C1.out).mono ?_
  rintro e w3 ⟨rfl, b3⟩
  have hb3 := hb2.trans (b3.mono hb2.size)
  have hc3 := hc2.below b3
  have hz3 := hb3.size
  have hlt3 := hc3.lt
  clear hb2 b3 hc2 C1 hn
  generalize lineL l = q at *
  go_wp2_with fail
  refine (l1Turned_any g code _ q [[32], [40], [41], [34], [123, 50, 125, 13, 10, 97, 98], [123, 52, 49, 125, 13, 10], [123, 49, 125, 13, 10], [120], [92], [10]] _ (hc3.below ((Below.refl _ _).alloc (Nat.le_refl _) _)) (Rd1_lit (b := w3.heap.size) _ (heap_alloc_new w3 _) rfl rfl) (Apart_new hlt3) (by simp) (by simp) 1000 (by omega) (by omega) (by simp)).mono ?_
  rintro e w4 ⟨u, rfl, hul, hc4, hg4⟩
  have hfin := below_cur (hb3.alloc hz3 _) hg4 (by simp; omega) hg
  clear hc4 hg4 hb3 hc3
  go_wp2
  go_ret
  exact ⟨u, rfl, by omega, hfin⟩

set_option maxHeartbeats 800000 in
theorem sameTokens_same (a b : Value) (l : List Tok) (w : World) (ha : Rd 2 tokc w a l) (hb : Rd 2 tokc w b l) (hl : l.length ≤ 140737488355328) :
    Calls Tryd.prog 12 #[a, b] w fun e w' => e = .returned (.bool true) ∧ Below w.heap.size w w' := by
  obtain ⟨p, c1, rfl, hp⟩ := ha.ex
  obtain ⟨q, c2, rfl, hq⟩ := hb.ex
  clear ha hb
  have HP := Lib.hid hp
  have HQ := Lib.hid hq
  clear hp hq
  go_enter Tryd.func12, Tryd.ntmps12
  go_wp2
  go_loopw [5] (fun i wr => ∃ k : Nat, k ≤ l.length ∧ i = .int .i64 k ∧ Below w.heap.size w wr) (fun i _ => l.length - (intOf i).toNat)
  case atStart => exact ⟨0, by omega, rfl, Below.refl _ _⟩
  case round =>
    obtain ⟨k, hk, rfl, hbr⟩ := hrel
    by_cases hlt : k < l.length
    · obtain ⟨b1, o1, rfl, hb1, hc1⟩ := HP.out.resolve_left (by intro h; subst h; simp at hlt)
      obtain ⟨b2, o2, rfl, hb2, hc2⟩ := HQ.out.resolve_left (by intro h; subst h; simp at hlt)
      obtain ⟨x, hx⟩ : ∃ x, l[k]? = some x := ⟨_, List.getElem?_eq_getElem hlt⟩
      have e1 : wr.cell? ⟨b1, o1 + k * 2, none⟩ = some (.int .i64 x.kind) := (hbr.cell (p := ⟨b1, o1 + k * 2, none⟩) hb1).trans (hc1 k x hx 0 _ rfl)
      have e2 : wr.cell? ⟨b1, o1 + k * 2 + 1, none⟩ = some (sv x.text) := (hbr.cell (p := ⟨b1, o1 + k * 2 + 1, none⟩) hb1).trans (hc1 k x hx 1 _ rfl)
      have e3 : wr.cell? ⟨b2, o2 + k * 2, none⟩ = some (.int .i64 x.kind) := (hbr.cell (p := ⟨b2, o2 + k * 2, none⟩) hb2).trans (hc2 k x hx 0 _ rfl)
      have e4 : wr.cell? ⟨b2, o2 + k * 2 + 1, none⟩ = some (sv x.text) := (hbr.cell (p := ⟨b2, o2 + k * 2 + 1, none⟩) hb2).trans (hc2 k x hx 1 _ rfl)
      clear hc1 hc2 hx HP HQ
      go_wp2
      refine ord_start [(0, true), (1, true), (2, true), (3, true), (4, true), (5, true), (6, true), (7, true), (8, true)] (fun W => W.cell? ⟨b1, o1 + k * 2, none⟩ = some (.int .i64 x.kind) ∧ W.cell? ⟨b1, o1 + k * 2 + 1, none⟩ = some (sv x.text) ∧ W.cell? ⟨b2, o2 + k * 2, none⟩ = some (.int .i64 x.kind) ∧ W.cell? ⟨b2, o2 + k * 2 + 1, none⟩ = some (sv x.text)) (by kernel_rfl) (by kernel_rfl) rfl (by kernel_rfl) ?_
      intro ops' hops
      clear hops
      simp only [List.map_cons, List.map_nil, pickOp_zero, pickOp_succ]
      iterate 9 (refine ord_flo ?_ (fun _ _ _ h => h) rfl ?_ ⟨e1, e2, e3, e4⟩ ?_; rotate_left; focus (intro W hS; obtain ⟨s1, s2, s3, s4⟩ := hS; go_simp; rfl))
      refine ord_done ?_
      go_simp
      go_wp2
      go_roundw
      case rel => exact ⟨k + 1, by omega, by go_num, hbr.drew⟩
      case measure => simp [intOf]; omega
    · obtain rfl : k = l.length := by omega
      go_wp2
      go_ret
      exact ⟨rfl, hbr⟩

end Go.Proofs.YtldfakcjimaaaaaDoor
