/-
  Ul: BoxG BoxK (what the claim needs of them).
-/
import Derived.Test.YtbfgdbpfecffcaaRows
import Derived.WalkKit
import Derived.WalkSpells
import Derived.WalkLawsBesides
import Derived.Laws.IdiomStrings
import Derived.Lib.Hide
import Derived.Deep.AppendLies
import Derived.OrdersHeld
import Derived.Lib.ItoaNum
import Derived.Lib.ItoaMem
import Derived.Lib.AppendStr
import Derived.Lib.ItoaLen
import Derived.Lib.Strings
import Derived.Lib.Bytealg
import Derived.Lib.OthersKept
import Derived.Laws.RangeAny
import Derived.Laws.BitsAllLaws
import Derived.Laws.BitsLemmas
import Derived.IntWalk
import Derived.Handy
import Derived.Lib.Join
import Derived.Deep.Strs
import Derived.Test.YtbfgdbpfecffcaaProg
import Derived.Test.YtbfgdbpfecffcaaUa
import Derived.Test.YtbfgdbpfecffcaaUb
import Derived.Test.YtbfgdbpfecffcaaUc
import Derived.Test.YtbfgdbpfecffcaaUd
import Derived.Test.YtbfgdbpfecffcaaUe

namespace Go.Proofs.Ytbfgdbpfecffcaa
open Go.RowKit

theorem msgs_small {x : BoxD} (hs : szLs x.lf ≤ 1048576) : x.name.length ≤ 1048576 ∧ x.msgs.length ≤ 1048576 ∧ ∀ m ∈ x.msgs, m.text.length ≤ 1048576 := by
  have h1 := BoxD.sz x
  have h2 : szLf (msgsLf x.msgs) = x.msgs.length + szLs (x.msgs.flatMap MsgD.lf) := rfl
  refine ⟨by omega, by omega, fun m hm => ?_⟩
  have h3 := szLs_mem MsgD.lf hm
  rw [MsgD.sz] at h3
  omega

end Go.Proofs.Ytbfgdbpfecffcaa

namespace Go.Proofs.Ytbfgdbpfecffcaa
open Go.RowKit

set_option maxHeartbeats 3200000 in
theorem msgEqual_any (a b : Value) (l m : List MsgD) (w : World) (ha : LfRd w (msgsLf l) a) (hb : LfRd w (msgsLf m) b) (hl : l.length ≤ 1048576) :
    Calls Try.prog 44 #[a, b] w fun e w' => e = .returned (.bool (decide (l = m))) ∧ Below w.heap.size w w' := by
  obtain ⟨p, c1, rfl, hp⟩ := MsgD.at ha
  obtain ⟨q, c2, rfl, hq⟩ := MsgD.at hb
  clear ha hb
  have HP := Lib.hid hp
  have HQ := Lib.hid hq
  clear hp hq
  by_cases hlen : l.length = m.length
  · rw [← hlen]
    have HL := Lib.hid hlen
    clear hlen
    go_enter Try.func44, Try.ntmps44
    go_wp2
    go_loopw [5, 13] (fun u i wr => ∃ k : Nat, k ≤ l.length ∧ i = .int .i64 k ∧ l.take k = m.take k ∧ Below w.heap.size w wr) (fun u i _ => l.length - (intOf i).toNat)
    case atStart => exact ⟨0, by omega, rfl, rfl, Below.refl _ _⟩
    case round =>
      obtain ⟨k, hk, rfl, hall, hbr⟩ := hrel
      have Hall := Lib.hid hall
      clear hall
      by_cases hlt : k < l.length
      · obtain ⟨b1, o1, rfl, hb1, hc1⟩ := HP.out.resolve_left (by intro h; subst h; simp at hlt)
        obtain ⟨b2, o2, rfl, hb2, hc2⟩ := HQ.out.resolve_left (by intro h; have hlen := HL.out; rw [h] at hlen; simp at hlen; simp [hlen] at hlt)
        obtain ⟨x, hx⟩ : ∃ x, l[k]? = some x := ⟨_, List.getElem?_eq_getElem hlt⟩
        obtain ⟨y, hy⟩ : ∃ y, m[k]? = some y := ⟨_, List.getElem?_eq_getElem (by have := HL.out; omega)⟩
        obtain ⟨x0, x1, x2⟩ := hc1 k x hx
        obtain ⟨y0, y1, y2⟩ := hc2 k y hy
        have e0 : wr.drew.cell? ⟨b1, o1 + k * 3, none⟩ = some (.int .i64 x.uid) := (hbr.cell (p := ⟨b1, o1 + k * 3, none⟩) hb1).trans x0
        have e1 : wr.drew.cell? ⟨b1, o1 + k * 3 + 1, none⟩ = some (.int .i64 x.flags) := (hbr.cell (p := ⟨b1, o1 + k * 3 + 1, none⟩) hb1).trans x1
        have e2 : wr.drew.cell? ⟨b1, o1 + k * 3 + 2, none⟩ = some (sv x.text) := (hbr.cell (p := ⟨b1, o1 + k * 3 + 2, none⟩) hb1).trans x2
        have f0 : wr.drew.cell? ⟨b2, o2 + k * 3, none⟩ = some (.int .i64 y.uid) := (hbr.cell (p := ⟨b2, o2 + k * 3, none⟩) hb2).trans y0
        have f1 : wr.drew.cell? ⟨b2, o2 + k * 3 + 1, none⟩ = some (.int .i64 y.flags) := (hbr.cell (p := ⟨b2, o2 + k * 3 + 1, none⟩) hb2).trans y1
        have f2 : wr.drew.cell? ⟨b2, o2 + k * 3 + 2, none⟩ = some (sv y.text) := (hbr.cell (p := ⟨b2, o2 + k * 3 + 2, none⟩) hb2).trans y2
        have hno := Lib.hid (fun h : x ≠ y => (decide_eq_false (same_not hx hy h) : decide (l = m) = false))
        have hyes := Lib.hid (fun h : x = y => same_take hx (by rw [hy, h]) Hall.out)
        clear hc1 hc2 hx hy Hall x0 x1 x2 y0 y1 y2
        cases h0 : (x.uid == y.uid) with
        | false =>
          have HV := Lib.hid (hno.out (by intro e; rw [e] at h0; simp at h0))
          clear hno hyes HP HQ HL
          go_wp2
          refine ord_start [(0, true), (1, true), (2, true), (3, true), (4, true), (5, true), (6, true), (7, true), (8, true)] (fun W => W.cell? ⟨b1, o1 + k * 3, none⟩ = some (.int .i64 x.uid) ∧ W.cell? ⟨b1, o1 + k * 3 + 1, none⟩ = some (.int .i64 x.flags) ∧ W.cell? ⟨b1, o1 + k * 3 + 2, none⟩ = some (sv x.text) ∧ W.cell? ⟨b2, o2 + k * 3, none⟩ = some (.int .i64 y.uid) ∧ W.cell? ⟨b2, o2 + k * 3 + 1, none⟩ = some (.int .i64 y.flags) ∧ W.cell? ⟨b2, o2 + k * 3 + 2, none⟩ = some (sv y.text)) (by kernel_rfl) (by kernel_rfl) rfl (by kernel_rfl) ?_
          intro ops' hops
          clear hops
          simp only [List.map_cons, List.map_nil, pickOp_zero, pickOp_succ]
          iterate 9 (refine ord_flo ?_ (fun _ _ _ h => h) rfl ?_ ⟨e0, e1, e2, f0, f1, f2⟩ ?_; rotate_left; focus (intro W hS; obtain ⟨s1, s2, s3, s4, s5, s6⟩ := hS; go_simp; rfl))
          refine ord_done ?_
          go_simp
          go_wp2
          go_ret
          exact ⟨by rw [HV.out]; rfl, hbr.drew⟩
        | true =>
          cases h1 : (x.flags == y.flags) with
          | false =>
            have HV := Lib.hid (hno.out (by intro e; rw [e] at h1; simp at h1))
            clear hno hyes HP HQ HL
            go_wp2
            refine ord_start [(0, true), (1, true), (2, true), (3, true), (4, true), (5, true), (6, true), (7, true), (8, true)] (fun W => W.cell? ⟨b1, o1 + k * 3, none⟩ = some (.int .i64 x.uid) ∧ W.cell? ⟨b1, o1 + k * 3 + 1, none⟩ = some (.int .i64 x.flags) ∧ W.cell? ⟨b1, o1 + k * 3 + 2, none⟩ = some (sv x.text) ∧ W.cell? ⟨b2, o2 + k * 3, none⟩ = some (.int .i64 y.uid) ∧ W.cell? ⟨b2, o2 + k * 3 + 1, none⟩ = some (.int .i64 y.flags) ∧ W.cell? ⟨b2, o2 + k * 3 + 2, none⟩ = some (sv y.text)) (by kernel_rfl) (by kernel_rfl) rfl (by kernel_rfl) ?_
            intro ops' hops
            clear hops
            simp only [List.map_cons, List.map_nil, pickOp_zero, pickOp_succ]
            iterate 9 (refine ord_flo ?_ (fun _ _ _ h => h) rfl ?_ ⟨e0, e1, e2, f0, f1, f2⟩ ?_; rotate_left; focus (intro W hS; obtain ⟨s1, s2, s3, s4, s5, s6⟩ := hS; go_simp; rfl))
            refine ord_done ?_
            go_simp
            go_wp2
            go_ret
            exact ⟨by rw [HV.out]; rfl, hbr.drew⟩
          | true =>
            cases h2 : (x.text == y.text) with
            | false =>
              have HV := Lib.hid (hno.out (by intro e; rw [e] at h2; simp at h2))
              clear hno hyes HP HQ HL
              go_wp2
              refine ord_start [(0, true), (1, true), (2, true), (3, true), (4, true), (5, true), (6, true), (7, true), (8, true)] (fun W => W.cell? ⟨b1, o1 + k * 3, none⟩ = some (.int .i64 x.uid) ∧ W.cell? ⟨b1, o1 + k * 3 + 1, none⟩ = some (.int .i64 x.flags) ∧ W.cell? ⟨b1, o1 + k * 3 + 2, none⟩ = some (sv x.text) ∧ W.cell? ⟨b2, o2 + k * 3, none⟩ = some (.int .i64 y.uid) ∧ W.cell? ⟨b2, o2 + k * 3 + 1, none⟩ = some (.int .i64 y.flags) ∧ W.cell? ⟨b2, o2 + k * 3 + 2, none⟩ = some (sv y.text)) (by kernel_rfl) (by kernel_rfl) rfl (by kernel_rfl) ?_
              intro ops' hops
              clear hops
              simp only [List.map_cons, List.map_nil, pickOp_zero, pickOp_succ]
              iterate 9 (refine ord_flo ?_ (fun _ _ _ h => h) rfl ?_ ⟨e0, e1, e2, f0, f1, f2⟩ ?_; rotate_left; focus (intro W hS; obtain ⟨s1, s2, s3, s4, s5, s6⟩ := hS; go_simp; rfl))
              refine ord_done ?_
              go_simp
              go_wp2
              go_ret
              exact ⟨by rw [HV.out]; rfl, hbr.drew⟩
            | true =>
              have HN := Lib.hid (hyes.out (by cases x; cases y; simp only [beq_iff_eq] at h0 h1 h2; rw [h0, h1, h2]))
              clear hno hyes
              go_wp2
              refine ord_start [(0, true), (1, true), (2, true), (3, true), (4, true), (5, true), (6, true), (7, true), (8, true)] (fun W => W.cell? ⟨b1, o1 + k * 3, none⟩ = some (.int .i64 x.uid) ∧ W.cell? ⟨b1, o1 + k * 3 + 1, none⟩ = some (.int .i64 x.flags) ∧ W.cell? ⟨b1, o1 + k * 3 + 2, none⟩ = some (sv x.text) ∧ W.cell? ⟨b2, o2 + k * 3, none⟩ = some (.int .i64 y.uid) ∧ W.cell? ⟨b2, o2 + k * 3 + 1, none⟩ = some (.int .i64 y.flags) ∧ W.cell? ⟨b2, o2 + k * 3 + 2, none⟩ = some (sv y.text)) (by kernel_rfl) (by kernel_rfl) rfl (by kernel_rfl) ?_
              intro ops' hops
              clear hops
              simp only [List.map_cons, List.map_nil, pickOp_zero, pickOp_succ]
              iterate 9 (refine ord_flo ?_ (fun _ _ _ h => h) rfl ?_ ⟨e0, e1, e2, f0, f1, f2⟩ ?_; rotate_left; focus (intro W hS; obtain ⟨s1, s2, s3, s4, s5, s6⟩ := hS; go_simp; rfl))
              refine ord_done ?_
              go_simp
              go_wp2
              go_roundw
              case rel => exact ⟨k + 1, by omega, by go_num, HN.out, hbr.drew⟩
              case measure => simp [intOf]; omega
      · obtain rfl : k = l.length := by omega
        have HV := Lib.hid (show decide (l = m) = true from decide_eq_true (by have := Hall.out; rw [List.take_length, HL.out, List.take_length] at this; exact this))
        clear HL
        go_wp2
        go_ret
        exact ⟨by rw [HV.out]; rfl, hbr⟩
  · have HV := Lib.hid (show decide (l = m) = false from decide_eq_false (fun e => hlen (by rw [e])))
    have hne : ((l.length : Int) == (m.length : Int)) = false := by rw [beq_eq_false_iff_ne]; omega
    have hnn := ne_yes' hne
    clear hlen
    go_enter Try.func44, Try.ntmps44
    go_wp2
    go_ret
    exact ⟨by rw [HV.out]; rfl, Below.refl _ _⟩

set_option maxHeartbeats 3200000 in
theorem implSameBox_c {G : World → Prop} : CtrSameBox 40 G := by
  intro x r y s w _ ha hs _ hb _ _
  obtain ⟨_, hl, _⟩ := msgs_small hs
  have cs := fun W (h : Below w.heap.size w W) => msgEqual_any r s x.msgs y.msgs W (LfRd.below h _ _ ha) (LfRd.below h _ _ hb) hl
  obtain ⟨p, c, rfl⟩ := LfRd.slice ha
  obtain ⟨q, d, rfl⟩ := LfRd.slice hb
  have hb1 : Below w.heap.size w ((w.alloc (.cells #[sv x.name, .int .i64 x.validity, .int .i64 x.next, .slice p x.msgs.length c] 61)).alloc (.cells #[sv y.name, .int .i64 y.validity, .int .i64 y.next, .slice q y.msgs.length d] 61)) := ((Below.refl _ _).alloc (Nat.le_refl _) _).alloc (by simp) _
  have HNE := Lib.hid (fun h : x ≠ y => (decide_eq_false h : decide (x = y) = false))
  have CS := Lib.hid cs
  clear ha hb hs cs hl
  cases h_name : (x.name == y.name) with
  | false =>
    have HV := Lib.hid (HNE.out (by intro e; rw [e] at h_name; simp at h_name))
    go_enter Try.func40, Try.ntmps40
    go_wp2
    go_ret
    exact ⟨by rw [HV.out]; rfl, hb1⟩
  | true =>
    cases h_validity : (x.validity == y.validity) with
    | false =>
      have HV := Lib.hid (HNE.out (by intro e; rw [e] at h_validity; simp at h_validity))
      go_enter Try.func40, Try.ntmps40
      go_wp2
      go_ret
      exact ⟨by rw [HV.out]; rfl, hb1⟩
    | true =>
      cases h_next : (x.next == y.next) with
      | false =>
        have HV := Lib.hid (HNE.out (by intro e; rw [e] at h_next; simp at h_next))
        go_enter Try.func40, Try.ntmps40
        go_wp2
        go_ret
        exact ⟨by rw [HV.out]; rfl, hb1⟩
      | true =>
        have HV := Lib.hid (show decide (x = y) = decide (x.msgs = y.msgs) by
          rw [decide_eq_decide]
          constructor
          · intro e; rw [e]
          · intro e; cases x; cases y; simp only [beq_iff_eq] at h_name h_validity h_next e; rw [h_name, h_validity, h_next, e])
        go_enter Try.func40, Try.ntmps40
        go_wp2_with fail
        refine (CS.out _ hb1).mono ?_
        rintro e w1 ⟨rfl, b1⟩
        have hb2 := hb1.trans (b1.mono hb1.size)
        clear b1 hb1 CS
        go_wp2
        go_ret
        exact ⟨by rw [HV.out]; rfl, hb2⟩

set_option maxRecDepth 20000 in
set_option maxHeartbeats 3200000 in
theorem boxEqualFunc_any (a b : Value) (l m : List BoxD) (w : World) (ha : LfRd w (boxsLf l) a) (hs : szLf (boxsLf l) ≤ 1048576) (hbd : LfBnd (boxsLf l)) (hb : LfRd w (boxsLf m) b) (hs2 : szLf (boxsLf m) ≤ 1048576) (hbd2 : LfBnd (boxsLf m)) :
    Calls Try.prog 39 #[a, b, .func (.func 40) #[] #[]] w fun e w' => e = .returned (.bool (decide (l = m))) ∧ Below w.heap.size w w' := by
  have hl : l.length ≤ 1048576 := Nat.le_trans (Nat.le_add_right _ _) hs
  have hsl : ∀ x ∈ l, szLs x.lf ≤ 1048576 ∧ LsBnd x.lf := fun x hx => ⟨by have h1 := szLs_mem BoxD.lf hx; have h2 : szLf (boxsLf l) = l.length + szLs (l.flatMap BoxD.lf) := rfl; omega, LsBnd.flat hbd.2 x hx⟩
  have hsm : ∀ x ∈ m, szLs x.lf ≤ 1048576 ∧ LsBnd x.lf := fun x hx => ⟨by have h1 := szLs_mem BoxD.lf hx; have h2 : szLf (boxsLf m) = m.length + szLs (m.flatMap BoxD.lf) := rfl; omega, LsBnd.flat hbd2.2 x hx⟩
  obtain ⟨p, c1, rfl, hp⟩ := BoxD.at ha
  obtain ⟨q, c2, rfl, hq⟩ := BoxD.at hb
  have HP := Lib.hid hp
  have HQ := Lib.hid hq
  have HSL := Lib.hid hsl
  have HSM := Lib.hid hsm
  clear hp hq ha hb hs hs2 hbd hbd2 hsl hsm
  by_cases hlen : l.length = m.length
  · rw [← hlen]
    have HL := Lib.hid hlen
    clear hlen
    go_enter Try.func39, Try.ntmps39
    go_wp2
    go_loopw [7, 8, 9, 17] (fun u7 u8 u9 i wr => ∃ k : Nat, k ≤ l.length ∧ i = .int .i64 k ∧ l.take k = m.take k ∧ Below w.heap.size w wr) (fun u7 u8 u9 i _ => l.length - (intOf i).toNat)
    case atStart => exact ⟨0, by omega, rfl, rfl, Below.refl _ _⟩
    case round =>
      obtain ⟨k, hk, rfl, hall, hbr⟩ := hrel
      have Hall := Lib.hid hall
      clear hall
      by_cases hlt : k < l.length
      · obtain ⟨b1, o1, rfl, hb1, hc1⟩ := HP.out.resolve_left (by intro h; subst h; simp at hlt)
        obtain ⟨b2, o2, rfl, hb2, hc2⟩ := HQ.out.resolve_left (by intro h; have hlen := HL.out; rw [h] at hlen; simp at hlen; simp [hlen] at hlt)
        obtain ⟨x, hx⟩ : ∃ x, l[k]? = some x := ⟨_, List.getElem?_eq_getElem hlt⟩
        obtain ⟨y, hy⟩ : ∃ y, m[k]? = some y := ⟨_, List.getElem?_eq_getElem (by have := HL.out; omega)⟩
        obtain ⟨r3, n1, x0, x1, x2, x3⟩ := hc1 k x hx
        obtain ⟨s3, n2, y0, y1, y2, y3⟩ := hc2 k y hy
        obtain ⟨sx1, sx2⟩ := HSL.out x (List.mem_of_getElem? hx)
        obtain ⟨sy1, sy2⟩ := HSM.out y (List.mem_of_getElem? hy)
        obtain ⟨p1, d1, rfl⟩ := LfRd.slice n1
        obtain ⟨p2, d2, rfl⟩ := LfRd.slice n2
        have e0 : wr.cell? ⟨b1, o1 + k * 4, none⟩ = some (sv x.name) := (hbr.cell (p := ⟨b1, o1 + k * 4, none⟩) hb1).trans x0
        have e1 : wr.cell? ⟨b1, o1 + k * 4 + 1, none⟩ = some (.int .i64 x.validity) := (hbr.cell (p := ⟨b1, o1 + k * 4 + 1, none⟩) hb1).trans x1
        have e2 : wr.cell? ⟨b1, o1 + k * 4 + 2, none⟩ = some (.int .i64 x.next) := (hbr.cell (p := ⟨b1, o1 + k * 4 + 2, none⟩) hb1).trans x2
        have e3 : wr.cell? ⟨b1, o1 + k * 4 + 3, none⟩ = some (.slice p1 x.msgs.length d1) := (hbr.cell (p := ⟨b1, o1 + k * 4 + 3, none⟩) hb1).trans x3
        have f0 : ∀ o : Obj, (wr.alloc o).cell? ⟨b2, o2 + k * 4, none⟩ = some (sv y.name) := fun o => ((hbr.alloc hbr.size o).cell (p := ⟨b2, o2 + k * 4, none⟩) hb2).trans y0
        have f1 : ∀ o : Obj, (wr.alloc o).cell? ⟨b2, o2 + k * 4 + 1, none⟩ = some (.int .i64 y.validity) := fun o => ((hbr.alloc hbr.size o).cell (p := ⟨b2, o2 + k * 4 + 1, none⟩) hb2).trans y1
        have f2 : ∀ o : Obj, (wr.alloc o).cell? ⟨b2, o2 + k * 4 + 2, none⟩ = some (.int .i64 y.next) := fun o => ((hbr.alloc hbr.size o).cell (p := ⟨b2, o2 + k * 4 + 2, none⟩) hb2).trans y2
        have f3 : ∀ o : Obj, (wr.alloc o).cell? ⟨b2, o2 + k * 4 + 3, none⟩ = some (.slice p2 y.msgs.length d2) := fun o => ((hbr.alloc hbr.size o).cell (p := ⟨b2, o2 + k * 4 + 3, none⟩) hb2).trans y3
        have C := Lib.hid (fun W (h : Below w.heap.size w W) => implSameBox_c (G := fun _ => True) x (.slice p1 x.msgs.length d1) y (.slice p2 y.msgs.length d2) W trivial (LfRd.below h _ _ n1) sx1 sx2 (LfRd.below h _ _ n2) sy1 sy2)
        have HB3 := Lib.hid (fun o o' : Obj => ((hbr.alloc hbr.size o).alloc (by have := hbr.size; simp; omega) o' : Below w.heap.size w ((wr.alloc o).alloc o')))
        clear hc1 hc2 x0 x1 x2 x3 y0 y1 y2 y3 n1 n2 sx1 sx2 sy1 sy2
        cases h1 : decide (x = y) with
        | false =>
          rw [h1] at C
          have HV := Lib.hid (show decide (l = m) = false from decide_eq_false (same_not hx hy (of_decide_eq_false h1)))
          clear hx hy HP HQ HL Hall h1
          go_wp2_with fail
          refine (C.out _ (HB3.out _ _)).mono ?_
          rintro e w1 ⟨rfl, b1'⟩
          have hb4 := (HB3.out _ _).trans (b1'.mono (HB3.out _ _).size)
          clear b1' C HB3 e0 e1 e2 e3 f0 f1 f2 f3
          go_wp2
          go_ret
          exact ⟨by rw [HV.out]; rfl, hb4⟩
        | true =>
          rw [h1] at C
          have HN := Lib.hid (same_take hx (by rw [hy, of_decide_eq_true h1]) Hall.out)
          clear hx hy Hall h1
          go_wp2_with fail
          refine (C.out _ (HB3.out _ _)).mono ?_
          rintro e w1 ⟨rfl, b1'⟩
          have hb4 := (HB3.out _ _).trans (b1'.mono (HB3.out _ _).size)
          clear b1' C HB3 e0 e1 e2 e3 f0 f1 f2 f3 hbr
          go_wp2
          go_roundw
          case rel => exact ⟨k + 1, by omega, by go_num, HN.out, hb4⟩
          case measure => simp [intOf]; omega
      · obtain rfl : k = l.length := by omega
        have HV := Lib.hid (show decide (l = m) = true from decide_eq_true (by have := Hall.out; rw [List.take_length, HL.out, List.take_length] at this; exact this))
        clear HL
        go_wp2
        go_ret
        exact ⟨by rw [HV.out]; rfl, hbr⟩
  · have HV := Lib.hid (show decide (l = m) = false from decide_eq_false (fun e => hlen (by rw [e])))
    have hne : ((l.length : Int) == (m.length : Int)) = false := by rw [beq_eq_false_iff_ne]; omega
    have hnn := ne_yes' hne
    clear hlen
    go_enter Try.func39, Try.ntmps39
    go_wp2
    go_ret
    exact ⟨by rw [HV.out]; rfl, Below.refl _ _⟩

set_option maxHeartbeats 800000 in
theorem implSameBoxes_c {G : World → Prop} : CtrSameBoxes 28 G := by
  intro l va m vb w _ ha hs hbd hb hs2 hbd2
  have C := Lib.hid (boxEqualFunc_any va vb l m w ha hs hbd hb hs2 hbd2)
  obtain ⟨p, c, rfl⟩ := LfRd.slice ha
  obtain ⟨q, d, rfl⟩ := LfRd.slice hb
  clear ha hs hbd hb hs2 hbd2
  go_enter Try.func28, Try.ntmps28
  go_wp2_with fail
  refine (C.out).mono ?_
  rintro e w1 ⟨rfl, b1⟩
  go_wp2
  go_ret
  exact ⟨rfl, b1⟩

end Go.Proofs.Ytbfgdbpfecffcaa
