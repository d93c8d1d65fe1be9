/-
  Chapter 9: what is drawn, and the law of boxes found by what they bear (made by tools/gen_boxp.py).
-/
import Derived.Deep.LoopGhost
import Derived.Test.YtboinphhpfggnaaBoxN
import Derived.Test.YtboinphhpfggnaaBoxC
import Derived.Test.YtboinphhpfggnaaBoxG
import Derived.Test.YtboinphhpfggnaaBoxI
import Derived.Test.YtboinphhpfggnaaBoxJ
import Derived.Test.YtboinphhpfggnaaBoxK
namespace Go.Proofs.Ytboinphhpfggnaa
open Go.RowKit

theorem msgs_sz {q : Nat} : ∀ {l : List MsgD}, l.length ≤ q → (∀ m ∈ l, MsgSm m) → szLs (l.flatMap MsgD.lf) ≤ 40 * l.length ∧ LsBnd (l.flatMap MsgD.lf)
  | [], _, _ => ⟨by simp [szLs], trivial⟩
  | m :: l, hl, h => by
    obtain ⟨h1, h2⟩ := msgs_sz (q := q) (l := l) (by simp at hl; omega) (fun x hx => h x (List.mem_cons_of_mem _ hx))
    obtain ⟨a, b, c⟩ := h m (List.mem_cons_self ..)
    rw [List.flatMap_cons]
    refine ⟨?_, LsBnd.append.2 ⟨⟨a, b, by show m.text.length ≤ _; omega, trivial⟩, h2⟩⟩
    rw [szLs_append, MsgD.sz, List.length_cons]
    omega
theorem box_sz {x : BoxD} (h : BoxQ 6 x) : szLs x.lf ≤ 300 ∧ LsBnd x.lf := by
  obtain ⟨h1, h2, h3, h4, h5⟩ := h
  obtain ⟨m1, m2⟩ := msgs_sz h4 h5
  have h6 : szLf (msgsLf x.msgs) = x.msgs.length + szLs (x.msgs.flatMap MsgD.lf) := rfl
  refine ⟨?_, by show x.name.length ≤ _; omega, h2, h3, ⟨by omega, m2⟩, trivial⟩
  rw [BoxD.sz]
  omega
theorem boxes_sz : ∀ {l : List BoxD}, l.length ≤ 1000 → (∀ x ∈ l, BoxQ 6 x) → szLs (l.flatMap BoxD.lf) ≤ 300 * l.length ∧ LsBnd (l.flatMap BoxD.lf)
  | [], _, _ => ⟨by simp [szLs], trivial⟩
  | x :: l, hl, h => by
    obtain ⟨h1, h2⟩ := boxes_sz (l := l) (by simp at hl; omega) (fun y hy => h y (List.mem_cons_of_mem _ hy))
    obtain ⟨a, b⟩ := box_sz (h x (List.mem_cons_self ..))
    rw [List.flatMap_cons]
    refine ⟨?_, LsBnd.append.2 ⟨b, h2⟩⟩
    rw [szLs_append, List.length_cons]
    omega
theorem boxes_fine {l : List BoxD} (hl : l.length ≤ 5) (h : ∀ x ∈ l, BoxQ 6 x) : szLf (boxsLf l) ≤ 1048576 ∧ LfBnd (boxsLf l) := by
  obtain ⟨h1, h2⟩ := boxes_sz (by omega) h
  have h6 : szLf (boxsLf l) = l.length + szLs (l.flatMap BoxD.lf) := rfl
  exact ⟨by omega, by omega, h2⟩

def DrawBoxesPost (w : World) (e : Ending) (w' : World) : Prop := ∃ (l : List BoxD) (v : Value), e = .returned v ∧ l.length ≤ 5 ∧ (∀ x ∈ l, BoxQ 6 x) ∧ LfRd w' (boxsLf l) v ∧ CapLe v ∧ Below w.heap.size w w'
theorem DrawBoxesOk_any (v : Value) (code : List UInt8) (w : World) (hr : Rd1 bv w v code) (hl : code.length ≤ 1048576) :
    Calls Try.prog 13 #[v] w fun e w' => DrawBoxesPost w e w' := by
  have HR := Lib.hid hr
  clear hr
  go_enter Try.func13, Try.ntmps13
  go_wp2_with fail
  refine (l1New_any v code _ HR.out hl).mono ?_
  rintro e w1 ⟨g, rfl, hg, hc1, hb1⟩
  go_wp2_with fail
  refine (l9Bent_any g code _ hc1).mono ?_
  rintro e w2 ⟨l, v2, fp, rfl, h5, hsm, hin, _, hc2, hg2⟩
  have hb2 := below_cur hb1 hg2 hb1.size hg
  have hrd := LfIn.rd _ _ _ hin
  have hcp := CapLe.of_in hin
  clear hc1 hg2 hb1 hin hc2
  obtain ⟨p, c, rfl⟩ := LfRd.slice hrd
  have HRD := Lib.hid hrd
  clear hrd
  go_wp2
  go_ret
  exact ⟨l, _, rfl, h5, hsm, HRD.out, hcp, hb2⟩

set_option maxRecDepth 20000 in
set_option maxHeartbeats 6400000 in
theorem FnBoxes_any (v : Value) (code : List UInt8) (w : World) (hr : Rd1 bv w v code) :
    Calls Try.prog 3 #[v] w fun e w' => e = .returned (.bool true) ∧ Below w.heap.size w w' := by
  have HR := Lib.hid hr
  have HB := Lib.hid (big_any v code w hr)
  clear hr
  by_cases hbig : code.length ≤ 1048576
  case neg =>
    have hq : (1048576 : Int) < (code.length : Int) := by omega
    go_enter Try.func3, Try.ntmps3
    go_wp2_with fail
    refine (HB.out).mono ?_
    rintro e w' ⟨rfl, rfl⟩
    go_wp2
    go_ret
    exact ⟨rfl, Below.refl _ _⟩
  have hq : ¬ (1048576 : Int) < (code.length : Int) := by omega
  go_enter Try.func3, Try.ntmps3
  go_wp2_with fail
  refine (HB.out).mono ?_
  rintro e w' ⟨rfl, rfl⟩
  clear HB
  go_wp2_with fail
  refine (DrawBoxesOk_any v code _ HR.out hbig).mono ?_
  rintro e w1 ⟨l, v1, rfl, h5, hsm, hrd, hcp, b1⟩
  obtain ⟨hs, hbd⟩ := boxes_fine h5 hsm
  have T : (fun _ : World => True) = fun _ => True := rfl
  have CI := Lib.hid (fun W (g : Below w1.heap.size w1 W) => implBoxesOk_c (G := fun _ => True) l v1 W trivial (LfRd.below g _ _ hrd) hcp hs hbd)
  have CS := Lib.hid (fun W (g : Below w1.heap.size w1 W) => specBoxesOk_c l v1 W trivial (LfRd.below g _ _ hrd) hcp hs hbd)
  have CN := Lib.hid (fun W (g : Below w1.heap.size w1 W) (s : List UInt8) hsl => implBoxNamed_c (G := fun _ => True) l v1 s W trivial (LfRd.below g _ _ hrd) hs hbd hsl)
  have CW := Lib.hid (fun W (g : Below w1.heap.size w1 W) (n : Int) hn => implBoxWith_c (G := fun _ => True) l v1 n W trivial (LfRd.below g _ _ hrd) hs hbd hn)
  have CE := Lib.hid (fun W (g : Below w1.heap.size w1 W) => implSameBoxes_c (G := fun _ => True) l v1 l v1 W trivial (LfRd.below g _ _ hrd) hs hbd (LfRd.below g _ _ hrd) hs hbd)
  have HSM := Lib.hid hsm
  obtain ⟨p, c, rfl, hp⟩ := BoxD.at hrd
  have HP := Lib.hid hp
  clear HR hrd hcp hs hbd hsm hp T
  go_wp2_with fail
  refine (CI.out _ (Below.refl _ _)).mono ?_
  rintro e w2 ⟨rfl, b2⟩
  go_wp2_with fail
  refine (CS.out _ b2).mono ?_
  rintro e w3 ⟨rfl, b3⟩
  have hb0 := b2.trans (b3.mono b2.size)
  clear b2 b3 CI
  obtain ⟨t, ht⟩ : ∃ t, boxesB l = t := ⟨_, rfl⟩
  have HT := Lib.hid ht
  simp only [ht] at CS
  rw [ht]
  clear ht
  have htt : (t != t) = false := by cases t <;> rfl
  go_wp2
  go_loopg [4, 5, 6] l.length (fun gk i _ _ wr => ∃ k : Nat, k ≤ l.length ∧ gk = l.length - k ∧ i = .int .i64 k ∧ Below w1.heap.size w1 wr)
  case atStart => exact ⟨0, Nat.zero_le _, rfl, rfl, hb0⟩
  case round =>
    obtain ⟨k, hk, rfl, rfl, hbr⟩ := hrel
    clear hb0 htt
    by_cases hlt : k < l.length
    case neg =>
      obtain rfl : k = l.length := by omega
      have E := Lib.hid ((CE.out wr hbr).mono (R' := fun e w' => e = .returned (.bool true) ∧ Below wr.heap.size wr w') fun e w' h => by simpa using h)
      clear CE CS CN CW HP
      go_wp2_with fail
      refine (E.out).mono ?_
      rintro e w4 ⟨rfl, b4⟩
      have hb4 := b1.trans ((hbr.trans (b4.mono hbr.size)).mono b1.size)
      clear b4 hbr b1
      go_wp2
      go_ret
      exact ⟨rfl, hb4⟩
    cases t with
    | false =>
      go_wp2_with fail
      refine (CS.out _ hbr).mono ?_
      rintro e w4 ⟨rfl, b4⟩
      have hbr4 := hbr.trans (b4.mono hbr.size)
      have E := Lib.hid ((CE.out w4 hbr4).mono (R' := fun e w' => e = .returned (.bool true) ∧ Below w4.heap.size w4 w') fun e w' h => by simpa using h)
      clear CE CS CN CW HP b4 hbr
      go_wp2_with fail
      refine (E.out).mono ?_
      rintro e w5 ⟨rfl, b5⟩
      have hb5 := b1.trans ((hbr4.trans (b5.mono hbr4.size)).mono b1.size)
      clear b5 hbr4 b1
      go_wp2
      go_ret
      exact ⟨rfl, hb5⟩
    | true =>
    go_wp2_with fail
    refine (CS.out _ hbr).mono ?_
    rintro e w4 ⟨rfl, b4⟩
    have hbr4 := hbr.trans (b4.mono hbr.size)
    clear b4 hbr
    obtain ⟨b, off, rfl, hb1, hc⟩ := HP.out.resolve_left (by intro h; subst h; simp at hlt)
    obtain ⟨x, hx⟩ : ∃ x, l[k]? = some x := ⟨_, List.getElem?_eq_getElem hlt⟩
    obtain ⟨r3, hr3, x0, x1, x2, x3⟩ := hc k x hx
    obtain ⟨p3, d3, rfl⟩ := LfRd.slice hr3
    have hxm := List.mem_of_getElem? hx
    obtain ⟨sx1, sx2⟩ := box_sz (HSM.out x hxm)
    have hnl : x.name.length ≤ 1048576 := by have := (HSM.out x hxm).1; omega
    have CBO := Lib.hid (fun W (g : Below w1.heap.size w1 W) => implBoxOk_c (G := fun _ => True) x (.slice p3 x.msgs.length d3) W trivial (LfRd.below g _ _ hr3) (by omega) sx2)
    have CUI := Lib.hid (fun W (g : Below w1.heap.size w1 W) => implUidsOf_c (G := fun _ => True) x (.slice p3 x.msgs.length d3) W trivial (LfRd.below g _ _ hr3) (by omega) sx2)
    have CPO := Lib.hid (fun W (g : Below w1.heap.size w1 W) (u : Int) hu => implPlaceOf_c (G := fun _ => True) x (.slice p3 x.msgs.length d3) u W trivial (LfRd.below g _ _ hr3) (by omega) sx2 hu)
    have DN := Lib.hid (fun W (g : Below w1.heap.size w1 W) => CN.out W g x.name hnl)
    have DW := Lib.hid (fun W (g : Below w1.heap.size w1 W) => CW.out W g x.validity (HSM.out x hxm).2.1)
    rw [boxes_named HT.out hx] at DN
    rw [boxes_with HT.out hx] at DW
    have hbxx : boxB x = true := (boxes_each HT.out).2 x hxm
    rw [hbxx] at CBO
    have HBX := Lib.hid hbxx
    have HMS := Lib.hid (HSM.out x hxm).2.2.2
    have hE := Lib.hid (fun W (g : Below w1.heap.size w1 W) => (⟨(g.cell (p := ⟨b, off + k * 4, none⟩) hb1).trans x0, (g.cell (p := ⟨b, off + k * 4 + 1, none⟩) hb1).trans x1, (g.cell (p := ⟨b, off + k * 4 + 2, none⟩) hb1).trans x2, (g.cell (p := ⟨b, off + k * 4 + 3, none⟩) hb1).trans x3⟩ : W.cell? ⟨b, off + k * 4, none⟩ = some (sv x.name) ∧ W.cell? ⟨b, off + k * 4 + 1, none⟩ = some (.int .i64 x.validity) ∧ W.cell? ⟨b, off + k * 4 + 2, none⟩ = some (.int .i64 x.next) ∧ W.cell? ⟨b, off + k * 4 + 3, none⟩ = some (.slice p3 x.msgs.length d3)))
    have hkk : ((k : Int) != (k : Int)) = false := by simp
    clear hc hr3 x0 x1 x2 x3 sx1 sx2 hnl hxm hbxx CN CW hx
    obtain ⟨e0, _, _, _⟩ := hE.out w4 hbr4
    go_wp2_with fail
    refine (DN.out _ hbr4).mono ?_
    rintro e w5 ⟨rfl, b5⟩
    have hbr5 := hbr4.trans (b5.mono hbr4.size)
    clear b5 hbr4 e0
    obtain ⟨_, e1, _, _⟩ := hE.out w5 hbr5
    go_wp2_with fail
    refine (DW.out _ hbr5).mono ?_
    rintro e w6 ⟨rfl, b6⟩
    have hbr6 := hbr5.trans (b6.mono hbr5.size)
    clear b6 hbr5 e1
    obtain ⟨e0, e1, e2, e3⟩ := hE.out w6 hbr6
    go_wp2_with fail
    refine (CBO.out _ hbr6).mono ?_
    rintro e w7 ⟨rfl, b7⟩
    have hbr7 := hbr6.trans (b7.mono hbr6.size)
    clear b7 hbr6 e0 e1 e2 e3
    obtain ⟨e0, e1, e2, e3⟩ := hE.out w7 hbr7
    go_wp2_with fail
    refine (CUI.out _ hbr7).mono ?_
    rintro e w8 ⟨z0, f0, rfl, hz, _, _, b8⟩
    have hbr8 := hbr7.trans (b8.mono hbr7.size)
    clear b8 hbr7 e0 e1 e2 e3 hkk
    obtain ⟨pu, cu, rfl, hu⟩ := (ints_rd.1 (LfIn.rd _ _ _ hz)).ex
    have hul : (bxUids x).length = x.msgs.length := by unfold bxUids; rw [List.length_map]
    rw [hul]
    have HU := Lib.hid hu
    have HUL := Lib.hid hul
    clear hz hu hul
    have hml : x.msgs.length ≤ 6 := HMS.out.1
    go_wp2
    go_loopg [6] x.msgs.length (fun gj j wr => ∃ kk : Nat, kk ≤ x.msgs.length ∧ gj = x.msgs.length - kk ∧ j = .int .i64 kk ∧ Below w8.heap.size w8 wr)
    case atStart => exact ⟨0, Nat.zero_le _, rfl, rfl, Below.refl _ _⟩
    case round =>
      obtain ⟨kk, hkl, rfl, rfl, hbi⟩ := hrel
      by_cases hlt2 : kk < x.msgs.length
      case neg =>
        obtain rfl : kk = x.msgs.length := by omega
        have hb9 := hbr8.trans (hbi.mono hbr8.size)
        clear hbi hbr8 HU hE CPO
        go_wp2
        go_roundg (l.length - (k + 1))
        case measure => omega
        case rel => exact ⟨k + 1, by omega, rfl, by go_num, hb9⟩
      case pos =>
        obtain ⟨m, hm⟩ : ∃ m, x.msgs[kk]? = some m := ⟨_, List.getElem?_eq_getElem hlt2⟩
        obtain ⟨gu, ou, rfl, hgu, hcu⟩ := HU.out.resolve_left (by intro h; have := HUL.out; rw [h] at this; simp at this; omega)
        have eu0 := hcu kk m.uid (by unfold bxUids; rw [List.getElem?_map, hm]; rfl)
        have hbd0 := hbr8.trans (hbi.mono hbr8.size)
        have hbd := hbd0.drew
        obtain ⟨e0, e1, e2, e3⟩ := hE.out _ hbd
        have eu : wr.drew.cell? ⟨gu, ou + kk, none⟩ = some (.int .i64 m.uid) := (hbi.drew.cell (p := ⟨gu, ou + kk, none⟩) hgu).trans eu0
        have hl1 : b < wr.drew.heap.size := Nat.lt_of_lt_of_le hb1 hbd.size
        have hl2 : gu < wr.drew.heap.size := Nat.lt_of_lt_of_le hgu hbi.size
        have hmb := (box_parts HBX.out).2.2.2.2 kk m hm
        have hmu : in64 m.uid := (HMS.out.2 m (List.mem_of_getElem? hm)).1
        have CPL := Lib.hid (fun W (g : Below w1.heap.size w1 W) => CPO.out W g m.uid hmu)
        rw [box_place HBX.out hm] at CPL
        have hge : ¬ x.next ≤ m.uid := by omega
        have hkk : ((kk : Int) != (kk : Int)) = false := by simp
        have HW8 := Lib.hid (show w8.heap.size ≤ wr.drew.heap.size from hbi.size)
        have HBI := Lib.hid hbi.drew
        clear hcu eu0 hbd0 hmb hmu HU hm hbi
        go_wp2
        refine ord_start [(0, true), (1, true), (2, true), (3, true), (4, true), (5, true), (6, true), (7, true), (9, true), (8, false), (10, true), (11, true), (12, true), (13, true), (14, true), (15, true), (16, true), (17, true), (18, true), (19, true), (20, true), (21, true), (22, true)] (fun W => W.cell? ⟨b, off + k * 4, none⟩ = some (sv x.name) ∧ W.cell? ⟨b, off + k * 4 + 1, none⟩ = some (.int .i64 x.validity) ∧ W.cell? ⟨b, off + k * 4 + 2, none⟩ = some (.int .i64 x.next) ∧ W.cell? ⟨b, off + k * 4 + 3, none⟩ = some (.slice p3 x.msgs.length d3) ∧ W.cell? ⟨gu, ou + kk, none⟩ = some (.int .i64 m.uid)) (by kernel_rfl) (by kernel_rfl) rfl (by kernel_rfl) ?_
        intro ops' hops
        simp only [List.map_cons, List.map_nil, pickOp_zero, pickOp_succ]
        iterate 2 (refine ord_flo ?_ (fun _ _ _ h => h) rfl ?_ ⟨e0, e1, e2, e3, eu⟩ ?_; rotate_left; focus (intro W hS; obtain ⟨s1, s2, s3, s4, s5⟩ := hS; go_simp; rfl))
        refine ord_flo (.pointer (some ⟨b, off + k * 4, none⟩)) (fun _ _ _ h => h) (by rw [hops.out]; kernel_rfl) ?_ ⟨e0, e1, e2, e3, eu⟩ ?_
        · intro W hS
          obtain ⟨s1, s2, s3, s4, s5⟩ := hS
          go_simp <;> omega
        iterate 3 (refine ord_flo ?_ (fun _ _ _ h => h) rfl ?_ ⟨e0, e1, e2, e3, eu⟩ ?_; rotate_left; focus (intro W hS; obtain ⟨s1, s2, s3, s4, s5⟩ := hS; go_simp; rfl))
        refine ord_flo (.pointer (some ⟨gu, ou + kk, none⟩)) (fun _ _ _ h => h) (by rw [hops.out]; kernel_rfl) ?_ ⟨e0, e1, e2, e3, eu⟩ ?_
        · intro W hS
          obtain ⟨s1, s2, s3, s4, s5⟩ := hS
          go_simp <;> omega
        iterate 2 (refine ord_flo ?_ (fun _ _ _ h => h) rfl ?_ ⟨e0, e1, e2, e3, eu⟩ ?_; rotate_left; focus (intro W hS; obtain ⟨s1, s2, s3, s4, s5⟩ := hS; go_simp; rfl))
        refine ord_ev (by rw [hops.out]; kernel_rfl) ?_
        go_simp
        refine (CPL.out _ hbd).mono ?_
        rintro e w7 ⟨rfl, k7⟩
        replace e0 := (k7.cell (p := ⟨b, off + k * 4, none⟩) hl1).trans e0
        replace e1 := (k7.cell (p := ⟨b, off + k * 4 + 1, none⟩) hl1).trans e1
        replace e2 := (k7.cell (p := ⟨b, off + k * 4 + 2, none⟩) hl1).trans e2
        replace e3 := (k7.cell (p := ⟨b, off + k * 4 + 3, none⟩) hl1).trans e3
        replace eu := (k7.cell (p := ⟨gu, ou + kk, none⟩) hl2).trans eu
        replace hbd := hbd.trans (k7.mono hbd.size)
        have hb7 := HBI.out.trans (k7.mono HBI.out.size)
        clear k7
        refine ⟨⟨e0, e1, e2, e3, eu⟩, ?_⟩
        iterate 2 (refine ord_flo ?_ (fun _ _ _ h => h) rfl ?_ ⟨e0, e1, e2, e3, eu⟩ ?_; rotate_left; focus (intro W hS; obtain ⟨s1, s2, s3, s4, s5⟩ := hS; go_simp; rfl))
        iterate 2 (refine ord_flo ?_ (fun _ _ _ h => h) (by rw [hops.out]; kernel_rfl) ?_ ⟨e0, e1, e2, e3, eu⟩ ?_; rotate_left; focus (intro W hS; obtain ⟨s1, s2, s3, s4, s5⟩ := hS; go_simp; rfl))
        refine ord_flo (.pointer (some ⟨gu, ou + kk, none⟩)) (fun _ _ _ h => h) (by rw [hops.out]; kernel_rfl) ?_ ⟨e0, e1, e2, e3, eu⟩ ?_
        · intro W hS
          obtain ⟨s1, s2, s3, s4, s5⟩ := hS
          go_simp <;> omega
        iterate 3 (refine ord_flo ?_ (fun _ _ _ h => h) (by rw [hops.out]; kernel_rfl) ?_ ⟨e0, e1, e2, e3, eu⟩ ?_; rotate_left; focus (intro W hS; obtain ⟨s1, s2, s3, s4, s5⟩ := hS; go_simp; rfl))
        refine ord_flo (.pointer (some ⟨b, off + k * 4, none⟩)) (fun _ _ _ h => h) (by rw [hops.out]; kernel_rfl) ?_ ⟨e0, e1, e2, e3, eu⟩ ?_
        · intro W hS
          obtain ⟨s1, s2, s3, s4, s5⟩ := hS
          go_simp <;> omega
        iterate 3 (refine ord_flo ?_ (fun _ _ _ h => h) (by rw [hops.out]; kernel_rfl) ?_ ⟨e0, e1, e2, e3, eu⟩ ?_; rotate_left; focus (intro W hS; obtain ⟨s1, s2, s3, s4, s5⟩ := hS; go_simp; rfl))
        iterate 1 (refine ord_flo ?_ (fun _ _ _ h => h) rfl ?_ ⟨e0, e1, e2, e3, eu⟩ ?_; rotate_left; focus (intro W hS; obtain ⟨s1, s2, s3, s4, s5⟩ := hS; go_simp; rfl))
        refine ord_done ?_
        go_simp
        clear e0 e1 e2 e3 eu
        go_wp2
        go_roundg (x.msgs.length - (kk + 1))
        case measure => omega
        case rel => exact ⟨kk + 1, by omega, rfl, by go_num, hb7⟩
end Go.Proofs.Ytboinphhpfggnaa
