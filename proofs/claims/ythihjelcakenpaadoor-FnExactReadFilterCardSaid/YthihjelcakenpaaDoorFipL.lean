/-
  Chapter 6, the program: one scope is read (scopeFrom, walked).
-/
import Derived.Test.YthihjelcakenpaaDoorFipI
import Derived.Deep.CutBlock
namespace Go.Proofs.YthihjelcakenpaaDoor
open Go.RowKit

set_option maxRecDepth 20000 in
set_option maxHeartbeats 12800000 in
theorem scopeFrom_any : ScContr := by
  intro v l w0 w hr hw hcp hl hx hF
  have hr0 := hr
  replace hr := hr.below hw
  have HW := Lib.hid hw
  clear hw
  obtain ⟨p, c, rfl, hp⟩ := hr.ex
  have hc : l.length ≤ c := hcp _ _ _ rfl
  have HR := Lib.hid hr0
  have HX := Lib.hid hx
  have HF := Lib.hid hF
  have hbr0 : Below w.heap.size w (w.alloc (.cells #[.int .i64 0, .slice none 0 0, .int .i64 0] 55)) := (Below.refl _ _).alloc (Nat.le_refl _) _
  have hblk : (w.alloc (.cells #[.int .i64 0, .slice none 0 0, .int .i64 0] 55)).heap[w.heap.size]? = some (.cells #[.int .i64 0, .slice none 0 0, .int .i64 0] 55 (0, 0)) := heap_alloc_new w _
  have HBK := Lib.hid hblk
  have hz0 : (w.alloc (.cells #[.int .i64 0, .slice none 0 0, .int .i64 0] 55)).heap.size = w.heap.size + 1 := by simp
  have HZ0 := Lib.hid hz0
  have HBR := Lib.hid hbr0
  have HZB := Lib.hid (fun a b c => ((hbr0.setCell (p := ⟨w.heap.size, 0, none⟩) (Nat.le_refl _) a).setCell (p := ⟨w.heap.size, 1, none⟩) (Nat.le_refl _) b).setCell (p := ⟨w.heap.size, 2, none⟩) (Nat.le_refl _) c)
  clear hr hr0 hcp hx hF hz0
  obtain ⟨⟨r0, r1, r2⟩, ⟨f0, f1, f2⟩, s0, s1, s2⟩ := blk_3s hblk
  clear hblk
  by_cases hsh : l.length < 2
  · rw [scopeI_short hsh]
    have hshi : (l.length : Int) < 2 := by omega
    clear hp
    go_enter Tryd.func32, Tryd.ntmps32
    go_wp2
    exact bodyPost_ret (v := .tuple #[.agg #[.int .i64 0, .slice none 0 0, .int .i64 0], .slice none 0 0, .bool false]) (by simp [results, Tryd.results32, go_sem]) rfl (ScPost.none_ ⟨rfl, HBR.out⟩)
  match l, hsh with
  | [], h => exact absurd (by simp) h
  | [_], h => exact absurd (by simp) h
  | a :: t :: r, _ =>
    obtain ⟨b, off, rfl, hb, hcell⟩ := hp.resolve_left (by simp)
    have ha0 : w.cell? ⟨b, off, none⟩ = some (.int .i64 a.kind) := hcell 0 a rfl 0 _ rfl
    have ha1 : w.cell? ⟨b, off + 1, none⟩ = some (sv a.text) := hcell 0 a rfl 1 _ rfl
    have ht0 : w.cell? ⟨b, off + 2, none⟩ = some (.int .i64 t.kind) := hcell 1 t rfl 0 _ rfl
    have ht1 : w.cell? ⟨b, off + 2 + 1, none⟩ = some (sv t.text) := hcell 1 t rfl 1 _ rfl
    have a0 := (hbr0.cell (p := ⟨b, off, none⟩) hb).trans ha0
    have a1 := (hbr0.cell (p := ⟨b, off + 1, none⟩) hb).trans ha1
    have t0 := ((hbr0.drew).cell (p := ⟨b, off + 2, none⟩) hb).trans ht0
    have t1 := ((hbr0.drew).cell (p := ⟨b, off + 2 + 1, none⟩) hb).trans ht1
    have HT0 := Lib.hid ht0
    have HT1 := Lib.hid ht1
    clear hcell hp ha0 ha1 ht0 ht1
    have hlen : (a :: t :: r).length = r.length + 2 := rfl
    rw [hlen] at hl hc HR
    rw [hlen]
    clear hlen
    by_cases hop : a.kind = 3 ∧ a.text = []
    · have HOP := Lib.hid hop
      have HSC := Lib.hid (scopeI_two (a := a) (t := t) (r := r) hop)
      rw [hop.1] at a0
      rw [hop.2] at a1
      have HD := Lib.hid (show Rd 2 tokc w0 (.slice (if c = 2 then some (⟨b, off, none⟩ : Addr) else Option.map (fun x : Addr => x.add (2 * 2)) (some (⟨b, off, none⟩ : Addr))) (r.length + 2 - 2) (c - 2)) r ∧ CapOk (.slice (if c = 2 then some (⟨b, off, none⟩ : Addr) else Option.map (fun x : Addr => x.add (2 * 2)) (some (⟨b, off, none⟩ : Addr))) (r.length + 2 - 2) (c - 2)) from rd_drop (l := a :: t :: r) (k := 2) (show Rd 2 tokc w0 (.slice (some ⟨b, off, none⟩) (a :: t :: r).length c) (a :: t :: r) from HR.out) hc (by show 2 ≤ r.length + 2; omega))
      have htx := HX.out t (by simp)
      have CK := Lib.hid (fun W => kindNamed_any t W htx)
      have HKB := Lib.hid (kindN_bd t)
      clear hop htx
      generalize scopeI (a :: t :: r) = U at *
      go_enter Tryd.func32, Tryd.ntmps32
      go_wp2
      clear a0 a1 r0 r1 r2 f0 f1 f2 s0 s1 s2
      have hlt1 : (1 : Int) < (r.length : Int) + 2 := by omega
      refine ordT_start (OTree.flo 0 (.flo 1 (.flo 2 (.flo 5 (.flo 6 (.fork 3 (.flo 4 (.ev 7 (.ev 8 (.flo 9 (.flo 10 .nil))))) 7 (.ev 3 (.flo 4 (.ev 8 (.flo 9 (.flo 10 .nil))))))))))) (fun W => W.cell? ⟨b, off + 2, none⟩ = some (.int .i64 t.kind) ∧ W.cell? ⟨b, off + 2 + 1, none⟩ = some (sv t.text)) (by kernel_rfl) (by kernel_rfl) rfl (by kernel_rfl) ?_
      intro ops' hops
      have HBD := Lib.hid hbr0.drew
      have HBKD := Lib.hid (show (w.alloc (.cells #[.int .i64 0, .slice none 0 0, .int .i64 0] 55)).drew.heap[w.heap.size]? = some (.cells #[.int .i64 0, .slice none 0 0, .int .i64 0] 55 (0, 0)) from HBK.out)
      have HZD := Lib.hid (show w.heap.size < (w.alloc (.cells #[.int .i64 0, .slice none 0 0, .int .i64 0] 55)).drew.heap.size by show w.heap.size < (w.alloc _).heap.size; rw [HZ0.out]; omega)
      generalize (w.alloc (.cells #[.int .i64 0, .slice none 0 0, .int .i64 0] 55)).drew = W0 at *
      have g0 := get_of hops 0
      have g1 := get_of hops 1
      have g2 := get_of hops 2
      have g3 := get_of hops 3
      have g4 := get_of hops 4
      have g5 := get_of hops 5
      have g6 := get_of hops 6
      have g7 := get_of hops 7
      have g8 := get_of hops 8
      have g9 := get_of hops 9
      have g10 := get_of hops 10
      clear hops hbr0 HZ0 HBK HZB
      refine ordT_flo _ g0 ?_ (fun _ _ _ h => h) rfl ?_ ⟨t0, t1⟩ ?_; rotate_left; focus (intro _ _; go_simp; rfl)
      refine ordT_flo _ g1 ?_ (fun _ _ _ h => h) rfl ?_ ⟨t0, t1⟩ ?_; rotate_left; focus (intro _ _; go_simp; rfl)
      refine ordT_flo _ g2 ?_ (fun _ _ _ h => h) rfl ?_ ⟨t0, t1⟩ ?_; rotate_left; focus (intro W hS; obtain ⟨y0, y1⟩ := hS; go_simp; rfl)
      refine ordT_flo _ g5 ?_ (fun _ _ _ h => h) rfl ?_ ⟨t0, t1⟩ ?_; rotate_left; focus (intro _ _; go_simp; rfl)
      refine ordT_flo _ g6 (.slice (if c = 2 then some (⟨b, off, none⟩ : Addr) else Option.map (fun x : Addr => x.add (2 * 2)) (some (⟨b, off, none⟩ : Addr))) (r.length + 2 - 2) (c - 2)) (fun _ _ _ h => h) rfl ?_ ⟨t0, t1⟩ ?_
      · intro W hS
        go_simp
        try (intro h; omega)
      generalize (Value.slice (if c = 2 then some (⟨b, off, none⟩ : Addr) else Option.map (fun x : Addr => x.add (2 * 2)) (some (⟨b, off, none⟩ : Addr))) (r.length + 2 - 2) (c - 2)) = v6 at *
      have HTT := Lib.hid (fun W (h : Below w.heap.size w W) => (⟨(h.cell (p := ⟨b, off + 2, none⟩) hb).trans HT0.out, (h.cell (p := ⟨b, off + 2 + 1, none⟩) hb).trans HT1.out⟩ : W.cell? ⟨b, off + 2, none⟩ = some (.int .i64 t.kind) ∧ W.cell? ⟨b, off + 2 + 1, none⟩ = some (sv t.text)))
      clear t0 t1
      refine ordT_fork _ _ g3 g7 rfl rfl ?wa ?wb
      case' wa =>
        go_simp
        refine (CK.out _).mono ?_
        rintro e w4 ⟨rfl, b4⟩
        have hb4 := HBD.out.trans (b4.mono HBD.out.size)
        have hk4 := (b4.block w.heap.size HZD.out).trans HBKD.out
        have hz4 := Nat.lt_of_lt_of_le HZD.out b4.size
        clear b4
        refine ⟨HTT.out _ hb4, ?_⟩
        refine ordT_flo _ g4 ?_ (fun _ _ _ h => h) rfl ?_ (HTT.out _ hb4) ?_; rotate_left; focus (intro _ _; go_simp; rfl)
        refine ordT_ev _ g7 rfl ?_
        go_simp
        refine ⟨HTT.out _ (hb4.alloc hb4.size _), ?_⟩
        refine ordT_ev _ g8 rfl ?_
        go_simp
        have HS := Lib.hid (show ScF w w4.heap.size (kindN t) (.slice none 0 0) [] 0 (w4.alloc (.cells #[.int .i64 (kindN t), .slice none 0 0, .int .i64 0] 55)) from
          ⟨heap_alloc_new w4 _, (Below.heap_alloc w4 _ _ hz4).trans hk4, World.ownsRow_nil _ _ _ _, hb4.alloc hb4.size _, hz4, fun k hk => by simp [Value.ownBlock] at hk⟩)
        refine ⟨HTT.out _ HS.out.below, ?_⟩
        refine ordT_flo _ g9 ?_ (fun _ _ _ h => h) rfl ?_ (HTT.out _ HS.out.below) ?_; rotate_left; focus (intro _ _; go_simp; rfl)
        refine ordT_flo _ g10 ?_ (fun _ _ _ h => h) rfl ?_ (HTT.out _ HS.out.below) ?_; rotate_left; focus (intro _ _; go_simp; rfl)
        refine ordT_done ?_
        clear g0 g1 g2 g3 g4 g5 g6 g7 g8 g9 g10 hb4 hk4 hz4 HTT
        generalize (w4.alloc (.cells #[.int .i64 (kindN t), .slice none 0 0, .int .i64 0] 55)) = X at *
        generalize w4.heap.size = sB at *
      case' wb =>
        go_simp
        have hba := HBD.out.alloc HBD.out.size (.cells #[.int .i64 0, .slice none 0 0, .int .i64 0] 55)
        refine ⟨HTT.out _ hba, ?_⟩
        refine ordT_ev _ g3 rfl ?_
        go_simp
        refine (CK.out _).mono ?_
        rintro e w4 ⟨rfl, b4⟩
        have hb4 := hba.trans (b4.mono hba.size)
        have hk4 := (b4.block w.heap.size (by have := HZD.out; simp; omega)).trans ((Below.heap_alloc W0 _ _ HZD.out).trans HBKD.out)
        have hs4 := (b4.block W0.heap.size (by simp)).trans (heap_alloc_new W0 (.cells #[.int .i64 0, .slice none 0 0, .int .i64 0] 55))
        clear b4
        refine ⟨HTT.out _ hb4, ?_⟩
        refine ordT_flo _ g4 ?_ (fun _ _ _ h => h) rfl ?_ (HTT.out _ hb4) ?_; rotate_left; focus (intro _ _; go_simp; rfl)
        obtain ⟨⟨r0, r1, r2⟩, ⟨f0, f1, f2⟩, s0, s1, s2⟩ := blk_3s hs4
        have HS := Lib.hid (show ScF w W0.heap.size (kindN t) (.slice none 0 0) [] 0 (((w4.setCell ⟨W0.heap.size, 0, none⟩ (.int .i64 (kindN t))).setCell ⟨W0.heap.size, 1, none⟩ (.slice none 0 0)).setCell ⟨W0.heap.size, 2, none⟩ (.int .i64 0)) from
          ⟨by rw [set_heap (set_heap (set_heap hs4))]; rfl, (set_other (by have := HZD.out; omega)).trans ((set_other (by have := HZD.out; omega)).trans ((set_other (by have := HZD.out; omega)).trans hk4)), World.ownsRow_nil _ _ _ _,
            ((hb4.setCell (p := ⟨W0.heap.size, 0, none⟩) (by have := HZD.out; show w.heap.size ≤ W0.heap.size; omega) _).setCell (p := ⟨W0.heap.size, 1, none⟩) (by have := HZD.out; show w.heap.size ≤ W0.heap.size; omega) _).setCell (p := ⟨W0.heap.size, 2, none⟩) (by have := HZD.out; show w.heap.size ≤ W0.heap.size; omega) _, HZD.out, fun k hk => by simp [Value.ownBlock] at hk⟩)
        refine ordT_ev _ g8 rfl ?_
        go_simp
        refine ⟨⟨(HTT.out _ HS.out.below).1, (HTT.out _ hb4).2⟩, ?_⟩
        refine ordT_flo _ g9 ?_ (fun _ _ _ h => h) rfl ?_ (HTT.out _ HS.out.below) ?_; rotate_left; focus (intro _ _; go_simp; rfl)
        refine ordT_flo _ g10 ?_ (fun _ _ _ h => h) rfl ?_ (HTT.out _ HS.out.below) ?_; rotate_left; focus (intro _ _; go_simp; rfl)
        refine ordT_done ?_
        clear g0 g1 g2 g3 g4 g5 g6 g7 g8 g9 g10 hb4 hk4 hs4 HTT r0 r1 r2 f0 f1 f2 s0 s1 s2
        generalize (((w4.setCell ⟨W0.heap.size, 0, none⟩ (.int .i64 (kindN t))).setCell ⟨W0.heap.size, 1, none⟩ (.slice none 0 0)).setCell ⟨W0.heap.size, 2, none⟩ (.int .i64 0)) = X at *
        generalize W0.heap.size = sB at *
        clear hba
      all_goals
        generalize hkd : kindN t = kd at *
        have hkb := HKB.out
        have HKD := Lib.hid hkd
        clear hkd CK HBD HBKD HZD
        obtain ⟨q0, q1, q2⟩ := HS.out.cells
        have CR := Lib.hid (fun W => reachV_any kd (.slice none 0 0) 0 W ⟨_, _, _, rfl⟩ hkb.1 hkb.2)
        go_wp2_with fail
        refine (CR.out _).mono ?_
        rintro e w5 ⟨rfl, b5⟩
        have HS5 := Lib.hid (HS.out.call b5)
        clear q0 q1 q2 b5 CR HS
        go_upto_block 0 with fail
        go_cut [6, 7] (fun u6 u7 wx => GrS (nmP kd r) w0 w sB kd u6 u7 wx)
        case first =>
          have h5 : kd = 0 ∨ kd = 1 ∨ kd = 2 ∨ kd = 3 ∨ kd = 4 := by omega
          rcases h5 with rfl | rfl | rfl | rfl | rfl
          · have a3 := asN3
            have a4 := asN4
            rw [show reachV 0 (.slice none 0 0) = .nilIface from rfl]
            go_wp2_with fail
            go_meet
            exact ⟨_, rfl, HD.out.1, HD.out.2, HS5.out⟩
          · have a3 := as13
            have a4 := as14
            rw [show reachV 1 (.slice none 0 0) = .iface 118 (.agg #[]) from rfl]
            go_wp2_with fail
            go_meet
            exact ⟨_, rfl, HD.out.1, HD.out.2, HS5.out⟩
          · have a3 := as23
            have a4 := as24
            rw [show reachV 2 (.slice none 0 0) = .iface 119 (.agg #[]) from rfl]
            go_wp2_with fail
            go_meet
            exact ⟨_, rfl, HD.out.1, HD.out.2, HS5.out⟩
          · have a3 := as33
            have a4 := as34
            rw [show reachV 3 (.slice none 0 0) = .iface 99 (.agg #[.slice none 0 0]) from rfl]
            have hC := groupFrom_any v6 r w0 w5 HD.out.1 (HW.out.trans (HS5.out.below.mono HW.out.size)) HD.out.2 (by omega)
            cases hat : atomsP r with
            | none =>
              rw [hat] at hC
              have C := Lib.hid hC
              have HV := Lib.hid (show nmP 3 r = none from hat)
              clear hC hat
              go_wp2_with fail
              refine (C.out).mono ?_
              rintro e w6 ⟨rfl, b6⟩
              have HS6 := Lib.hid (HS5.out.call b6)
              obtain ⟨q0, q1, q2⟩ := HS6.out.cells
              have q3 := HS6.out.free 1
              clear b6 C
              go_wp2_with fail
              go_meet
              rw [HV.out]
              exact ⟨rfl, HS6.out.clrN⟩
            | some q =>
              obtain ⟨nm, r3⟩ := q
              rw [hat] at hC
              have C := Lib.hid hC
              have HV := Lib.hid (show nmP 3 r = some (nm, r3) from hat)
              clear hC hat
              go_wp2_with fail
              refine (C.out).mono ?_
              rintro e w6 ⟨vn, vr, rfl, on, rr, cr, b6⟩
              have HS6 := Lib.hid (HS5.out.call b6)
              obtain ⟨q0, q1, q2⟩ := HS6.out.cells
              have q3 := HS6.out.free 1
              have HN := Lib.hid (HS6.out.setN on HS5.out.slt)
              obtain ⟨pn, cn, rfl⟩ := own_sl on
              have HRR := Lib.hid rr
              have HCR := Lib.hid cr
              clear b6 C on rr cr
              go_wp2_with fail
              go_meet
              rw [HV.out]
              exact ⟨_, rfl, HRR.out, HCR.out, HN.out⟩
          · have a3 := as43
            have a4 := as44
            rw [show reachV 4 (.slice none 0 0) = .iface 102 (.agg #[.slice none 0 0]) from rfl]
            have hC := groupFrom_any v6 r w0 w5 HD.out.1 (HW.out.trans (HS5.out.below.mono HW.out.size)) HD.out.2 (by omega)
            cases hat : atomsP r with
            | none =>
              rw [hat] at hC
              have C := Lib.hid hC
              have HV := Lib.hid (show nmP 4 r = none from hat)
              clear hC hat
              go_wp2_with fail
              refine (C.out).mono ?_
              rintro e w6 ⟨rfl, b6⟩
              have HS6 := Lib.hid (HS5.out.call b6)
              obtain ⟨q0, q1, q2⟩ := HS6.out.cells
              have q3 := HS6.out.free 1
              clear b6 C
              go_wp2_with fail
              go_meet
              rw [HV.out]
              exact ⟨rfl, HS6.out.clrN⟩
            | some q =>
              obtain ⟨nm, r3⟩ := q
              rw [hat] at hC
              have C := Lib.hid hC
              have HV := Lib.hid (show nmP 4 r = some (nm, r3) from hat)
              clear hC hat
              go_wp2_with fail
              refine (C.out).mono ?_
              rintro e w6 ⟨vn, vr, rfl, on, rr, cr, b6⟩
              have HS6 := Lib.hid (HS5.out.call b6)
              obtain ⟨q0, q1, q2⟩ := HS6.out.cells
              have q3 := HS6.out.free 1
              have HN := Lib.hid (HS6.out.setN on HS5.out.slt)
              obtain ⟨pn, cn, rfl⟩ := own_sl on
              have HRR := Lib.hid rr
              have HCR := Lib.hid cr
              clear b6 C on rr cr
              go_wp2_with fail
              go_meet
              rw [HV.out]
              exact ⟨_, rfl, HRR.out, HCR.out, HN.out⟩
        case rest =>
          have hg := hcut
          clear hcut HS5
          cases hnm : nmP kd r with
          | none =>
            rw [hnm] at hg
            obtain ⟨rfl, hs⟩ := hg
            have HV := Lib.hid (show U = none by rw [HSC.out, hnm]; rfl)
            have HS6 := Lib.hid hs
            obtain ⟨⟨r0, r1, r2⟩, ⟨f0, f1, f2⟩, s0, s1, s2⟩ := blk_3s hs.blkr
            clear hs hnm
            go_wp2
            exact bodyPost_ret (v := .tuple #[.agg #[.int .i64 0, .slice none 0 0, .int .i64 0], .slice none 0 0, .bool false]) (by simp [results, Tryd.results32, go_sem, s0, s1, s2]) rfl (by rw [HV.out]; exact ScPost.none_ ⟨rfl, HS6.out.zero _ _ _⟩)
          | some q =>
            obtain ⟨nm, r3⟩ := q
            rw [hnm] at hg
            obtain ⟨vn, rfl, rr, cr, hs⟩ := hg
            have HNM := Lib.hid (show U = (atomsP r3).bind fun q3 => (takeP 4 q3.2).bind fun q4 => some (⟨kd, nm, eN q3.1⟩, q4.2) by rw [HSC.out, hnm]; rfl)
            have HS6 := Lib.hid hs
            have hr3 : r3.length ≤ r.length ∧ ∀ u ∈ r3, u ∈ r := by
              unfold nmP at hnm
              split at hnm
              · exact ⟨Nat.le_of_lt (atomsP_lt hnm), (atomsP_in hnm).2.2⟩
              · injection hnm with hnm; injection hnm with _ hnm; rw [← hnm]; exact ⟨Nat.le_refl _, fun u h => h⟩
            have HR3 := Lib.hid hr3.2
            have hr3l := hr3.1
            obtain ⟨p3, c3, rfl, _⟩ := rr.ex
            have hC := groupFrom_any (.slice p3 r3.length c3) r3 w0 wc rr (HW.out.trans (hs.below.mono HW.out.size)) cr (by omega)
            clear hs hnm hr3 rr cr
            cases hat : atomsP r3 with
            | none =>
              rw [hat] at hC
              have C := Lib.hid hC
              have HV := Lib.hid (show U = none by rw [HNM.out, hat]; rfl)
              clear hC hat
              go_wp2_with fail
              refine (C.out).mono ?_
              rintro e w6 ⟨rfl, b6⟩
              have HS7 := Lib.hid (HS6.out.call b6)
              obtain ⟨⟨r0, r1, r2⟩, ⟨f0, f1, f2⟩, s0, s1, s2⟩ := blk_3s HS7.out.blkr
              clear b6 C
              go_wp2
              exact bodyPost_ret (v := .tuple #[.agg #[.int .i64 0, .slice none 0 0, .int .i64 0], .slice none 0 0, .bool false]) (by simp [results, Tryd.results32, go_sem, s0, s1, s2]) rfl (by rw [HV.out]; exact ScPost.none_ ⟨rfl, HS7.out.zero _ _ _⟩)
            | some q =>
              obtain ⟨ws, r4⟩ := q
              rw [hat] at hC
              have C := Lib.hid hC
              have HU := Lib.hid (show U = (takeP 4 r4).bind fun q4 => some (⟨kd, nm, eN ws⟩, q4.2) by rw [HNM.out, hat]; rfl)
              have hws := atomsP_in hat
              have HWS := Lib.hid hws.2.1
              have hwl := hws.1
              have hr4 := atomsP_lt hat
              clear hC hat hws
              go_wp2_with fail
              refine (C.out).mono ?_
              rintro e w6 ⟨vw, vr, rfl, ow, rr, cr, b6⟩
              have HS7 := Lib.hid (HS6.out.call b6)
              have HOW := Lib.hid (Rd1.of_own (enc := sv) ow)
              have hcr := cr
              obtain ⟨p4, c4, rfl, hp4⟩ := rr.ex
              have hc4 : r4.length ≤ c4 := hcr _ _ _ rfl
              have HRR := Lib.hid rr
              clear b6 C ow rr cr hcr
              cases r4 with
              | nil =>
                have HV := Lib.hid (show U = none by rw [HU.out]; rfl)
                obtain ⟨⟨r0, r1, r2⟩, ⟨f0, f1, f2⟩, s0, s1, s2⟩ := blk_3s HS7.out.blkr
                clear hp4
                go_wp2
                exact bodyPost_ret (v := .tuple #[.agg #[.int .i64 0, .slice none 0 0, .int .i64 0], .slice none 0 0, .bool false]) (by simp [results, Tryd.results32, go_sem, s0, s1, s2]) rfl (by rw [HV.out]; exact ScPost.none_ ⟨rfl, HS7.out.zero _ _ _⟩)
              | cons z r5 =>
                obtain ⟨b4, o4, rfl, hb4, hcell⟩ := hp4.resolve_left (by simp)
                have hbw := HW.out.trans (HS7.out.below.mono HW.out.size)
                have z0 : w6.cell? ⟨b4, o4, none⟩ = some (.int .i64 z.kind) := (hbw.cell (p := ⟨b4, o4, none⟩) hb4).trans (hcell 0 z rfl 0 _ rfl)
                have z1 : w6.cell? ⟨b4, o4 + 1, none⟩ = some (sv z.text) := (hbw.cell (p := ⟨b4, o4 + 1, none⟩) hb4).trans (hcell 0 z rfl 1 _ rfl)
                have hln : (z :: r5).length = r5.length + 1 := rfl
                rw [hln] at hc4 HRR hr4
                rw [hln]
                clear hln hcell hp4
                by_cases hcl : z.kind = 4 ∧ z.text = []
                · have HV := Lib.hid (show U = some (⟨kd, nm, eN ws⟩, r5) by
                    rw [HU.out]
                    have e3 : takeP 4 (z :: r5) = some (z.text, r5) := by simp [takeP, hcl.1, hcl.2]
                    rw [e3]; rfl)
                  rw [hcl.1] at z0
                  rw [hcl.2] at z1
                  have HD5 := Lib.hid (show Rd 2 tokc w0 (.slice (if c4 = 1 then some (⟨b4, o4, none⟩ : Addr) else Option.map (fun x : Addr => x.add (1 * 2)) (some (⟨b4, o4, none⟩ : Addr))) (r5.length + 1 - 1) (c4 - 1)) r5 ∧ CapOk (.slice (if c4 = 1 then some (⟨b4, o4, none⟩ : Addr) else Option.map (fun x : Addr => x.add (1 * 2)) (some (⟨b4, o4, none⟩ : Addr))) (r5.length + 1 - 1) (c4 - 1)) from rd_drop (l := z :: r5) (k := 1) (show Rd 2 tokc w0 (.slice (some ⟨b4, o4, none⟩) (z :: r5).length c4) (z :: r5) from HRR.out) hc4 (by show 1 ≤ r5.length + 1; omega))
                  have CE := Lib.hid (eventsNamed_any vw ws w6 HOW.out (by omega) (fun y hy => by obtain ⟨u, hu, e⟩ := HWS.out y hy; rw [e]; exact HX.out u (by simp [HR3.out u hu])) (HF.out.below HS7.out.below))
                  clear hcl
                  go_wp2_with fail
                  refine (CE.out).mono ?_
                  rintro e w7 ⟨rfl, b7⟩
                  have HS8 := Lib.hid (HS7.out.call b7)
                  obtain ⟨q0, q1, q2⟩ := HS8.out.cells
                  have q3 := HS8.out.free 2
                  have HS9 := Lib.hid (HS8.out.setE (eN ws))
                  obtain ⟨pn, cn, rfl⟩ := own_sl HS9.out.nam
                  clear b7 CE z0 z1
                  go_upto_region 13 with fail
                  clear q0 q1 q2 q3
                  generalize (w7.setCell ⟨sB, 2, none⟩ (.int .i64 (eN ws))) = Y at *
                  obtain ⟨q0, q1, q2⟩ := HS9.out.cells
                  obtain ⟨⟨r0, r1, r2⟩, ⟨f0, f1, f2⟩, s0, s1, s2⟩ := blk_3s HS9.out.blkr
                  refine ord_start [(0, true), (1, true), (2, true), (3, false), (4, true), (5, true)] (fun W => W.cell? ⟨sB, 0, none⟩ = some (.int .i64 kd) ∧ W.cell? ⟨sB, 1, none⟩ = some (.slice pn nm.length cn) ∧ W.cell? ⟨sB, 2, none⟩ = some (.int .i64 (eN ws))) (by kernel_rfl) (by kernel_rfl) rfl (by kernel_rfl) ?_
                  intro ops' hops
                  clear hops
                  simp only [List.map_cons, List.map_nil, pickOp_zero, pickOp_succ]
                  iterate 2 (refine ord_flo ?_ (fun _ _ _ h => h) rfl ?_ ⟨q0, q1, q2⟩ ?_; rotate_left; focus (intro W hS; obtain ⟨y0, y1, y2⟩ := hS; go_simp; rfl))
                  refine ord_flo (.slice (if c4 = 1 then some (⟨b4, o4, none⟩ : Addr) else Option.map (fun x : Addr => x.add (1 * 2)) (some (⟨b4, o4, none⟩ : Addr))) (r5.length + 1 - 1) (c4 - 1)) (fun _ _ _ h => h) rfl ?_ ⟨q0, q1, q2⟩ ?_
                  · intro W hS
                    go_simp
                    try (intro h; omega)
                  generalize (Value.slice (if c4 = 1 then some (⟨b4, o4, none⟩ : Addr) else Option.map (fun x : Addr => x.add (1 * 2)) (some (⟨b4, o4, none⟩ : Addr))) (r5.length + 1 - 1) (c4 - 1)) = v9 at *
                  have HZ := Lib.hid (blk_three (W := ((Y.setCell ⟨w.heap.size, 0, none⟩ (.int .i64 kd)).setCell ⟨w.heap.size, 1, none⟩ (.slice pn nm.length cn)).setCell ⟨w.heap.size, 2, none⟩ (.int .i64 (eN ws))) ((set_other (by have := HS9.out.lt; omega)).trans ((set_other (by have := HS9.out.lt; omega)).trans ((set_other (by have := HS9.out.lt; omega)).trans HS9.out.blks))))
                  refine ord_ev rfl ?_
                  go_simp
                  have HS1 := Lib.hid (fun (W : World) (j : Nat) (v : Value) (i : Nat) => (World.cell?_setCell_other W ⟨w.heap.size, j, none⟩ ⟨sB, i, none⟩ v (by have := HS9.out.lt; intro e; injection e with e _; omega)))
                  refine ⟨by first | exact HZ.out | (simp only [HS1.out]; exact ⟨q0, q1, q2⟩), ?_⟩
                  iterate 2 (refine ord_flo ?_ (fun _ _ _ h => h) rfl ?_ HZ.out ?_; rotate_left; focus (intro _ _; go_simp; rfl))
                  refine ord_done ?_
                  go_simp
                  go_wp2
                  exact bodyPost_ret (v := .tuple #[.agg #[.int .i64 kd, .slice pn nm.length cn, .int .i64 (eN ws)], v9, .bool true]) (by simp [results, Tryd.results32, go_sem, s0, s1, s2]) rfl (by rw [HV.out]; exact ScPost.some_ ⟨_, _, rfl, by first | exact HS9.out.res.1 | exact HS9.out.res.1.drew, HD5.out.1, HD5.out.2, by first | exact HS9.out.res.2 | exact HS9.out.res.2.drew⟩)
                · have HV := Lib.hid (show U = none by
                    rw [HU.out]
                    have e3 : takeP 4 (z :: r5) = none := by simp only [takeP]; rw [if_neg (by intro e; exact hcl ⟨e.1, by simpa using e.2⟩)]
                    rw [e3]; rfl)
                  obtain ⟨⟨r0, r1, r2⟩, ⟨f0, f1, f2⟩, s0, s1, s2⟩ := blk_3s HS7.out.blkr
                  cases g3 : (z.kind == 4) with
                  | false =>
                    clear hcl
                    go_wp2
                    exact bodyPost_ret (v := .tuple #[.agg #[.int .i64 0, .slice none 0 0, .int .i64 0], .slice none 0 0, .bool false]) (by simp [results, Tryd.results32, go_sem, s0, s1, s2]) rfl (by rw [HV.out]; exact ScPost.none_ ⟨rfl, HS7.out.zero _ _ _⟩)
                  | true =>
                    have g5 : (z.text == ([] : List UInt8)) = false := by rw [beq_eq_false_iff_ne]; exact fun h => hcl ⟨beq_iff_eq.1 g3, h⟩
                    rw [beq_iff_eq.1 g3] at z0
                    clear hcl g3
                    go_wp2
                    exact bodyPost_ret (v := .tuple #[.agg #[.int .i64 0, .slice none 0 0, .int .i64 0], .slice none 0 0, .bool false]) (by simp [results, Tryd.results32, go_sem, s0, s1, s2]) rfl (by rw [HV.out]; exact ScPost.none_ ⟨rfl, HS7.out.zero _ _ _⟩)
    · have HV := Lib.hid (scopeI_open (r := t :: r) hop)
      rw [HV.out]
      cases g3 : (a.kind == 3) with
      | false =>
        clear hop
        go_enter Tryd.func32, Tryd.ntmps32
        go_wp2
        exact bodyPost_ret (v := .tuple #[.agg #[.int .i64 0, .slice none 0 0, .int .i64 0], .slice none 0 0, .bool false]) (by simp [results, Tryd.results32, go_sem]) rfl (ScPost.none_ ⟨rfl, HBR.out⟩)
      | true =>
        have g5 : (a.text == ([] : List UInt8)) = false := by rw [beq_eq_false_iff_ne]; exact fun h => hop ⟨beq_iff_eq.1 g3, h⟩
        rw [beq_iff_eq.1 g3] at a0
        clear hop g3
        go_enter Tryd.func32, Tryd.ntmps32
        go_wp2
        exact bodyPost_ret (v := .tuple #[.agg #[.int .i64 0, .slice none 0 0, .int .i64 0], .slice none 0 0, .bool false]) (by simp [results, Tryd.results32, go_sem]) rfl (ScPost.none_ ⟨rfl, HBR.out⟩)

end Go.Proofs.YthihjelcakenpaaDoor
