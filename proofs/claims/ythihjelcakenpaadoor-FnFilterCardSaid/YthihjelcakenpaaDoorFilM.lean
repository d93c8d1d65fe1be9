/-
  Chapter 6: the model's FilterTokens.
-/
import Derived.Test.YthihjelcakenpaaDoorFilL
namespace Go.Proofs.YthihjelcakenpaaDoor
open Go.RowKit

set_option maxRecDepth 20000 in
set_option maxHeartbeats 6400000 in
theorem specFilterTokens_any (f : Flt) (vs : Value) (w : World) (hr : LfRd w (scpsLf f.scopes) vs) (hl : f.scopes.length ≤ 140737488355328) (hx : ∀ s ∈ f.scopes, s.names.length ≤ 140737488355328 ∧ ∀ x ∈ s.names, x.length ≤ 140737488355328) :
    Calls Tryd.prog 14 #[.agg #[.bool f.on, vs]] w fun e w' => ∃ v, e = .returned v ∧ w'.ownsRow w.heap.size 52 2 v (fTks f).length ((fTks f).flatMap tokc) ∧ Below w.heap.size w w' := by
  obtain ⟨on, l⟩ := f
  simp only at *
  obtain ⟨p, c, rfl, _⟩ := scps_at hr
  have HR := Lib.hid hr
  have hb1 : Below w.heap.size w (w.alloc (.cells #[.bool on, .slice p l.length c] 26)) := (Below.refl _ _).alloc (Nat.le_refl _) _
  have hA : (w.alloc (.cells #[.bool on, .slice p l.length c] 26)).heap[w.heap.size]? = some (.cells #[.bool on, .slice p l.length c] 26 (0, 0)) := heap_alloc_new w _
  have hz1 : (w.alloc (.cells #[.bool on, .slice p l.length c] 26)).heap.size = w.heap.size + 1 := by simp
  obtain ⟨W0, hW0⟩ : ∃ W0, w.alloc (.cells #[.bool on, .slice p l.length c] 26) = W0 := ⟨_, rfl⟩
  have CO := Lib.hid (fun W h => specFilterOk_any ⟨on, l⟩ (.slice p l.length c) W h hl hx)
  have HW0 := Lib.hid hW0
  have HB1 := Lib.hid (hW0 ▸ hb1)
  have HA := Lib.hid (hW0 ▸ hA)
  have HZ1 := Lib.hid (hW0 ▸ hz1)
  clear hr hx hb1 hA hz1 hW0
  go_enter Tryd.func14, Tryd.ntmps14
  go_wp2_with fail
  rw [HW0.out]
  have hbA : Below W0.heap.size W0 (W0.alloc (.cells #[] 52)) := (Below.refl _ _).alloc (Nat.le_refl _) _
  have HO0 := Lib.hid (show (W0.alloc (.cells #[] 52)).ownsRow W0.heap.size 52 2 (.slice (some ⟨w.heap.size + 1, 0, none⟩) 0 0) 0 [] by rw [← HZ1.out]; exact World.ownsRow_made W0 #[] 0 (Nat.le_refl _) (by unfold maxLen; omega) rfl)
  have hzA : W0.heap.size ≤ (W0.alloc (.cells #[] 52)).heap.size := by simp
  refine (CO.out _ (LfRd.below (HB1.out.trans (hbA.mono (by rw [HZ1.out]; omega))) _ _ HR.out)).mono ?_
  rintro e w1 ⟨rfl, b1⟩
  have o1 := ownsRow_below HO0.out b1
  have hb1 := hbA.trans (b1.mono hzA)
  clear b1 hbA hzA CO
  have hfc : w.heap.size < W0.heap.size := by rw [HZ1.out]; omega
  have hq : ∀ W, Below W0.heap.size W0 W → W.cell? ⟨w.heap.size, 0, none⟩ = some (.bool on) ∧ W.cell? ⟨w.heap.size, 1, none⟩ = some (.slice p l.length c) := fun W hb =>
    ⟨(Lib.cell_of_heap ((hb.block w.heap.size hfc).trans HA.out) 0).trans rfl, (Lib.cell_of_heap ((hb.block w.heap.size hfc).trans HA.out) 1).trans rfl⟩
  have HQ := Lib.hid hq
  obtain ⟨q0, q1⟩ := hq w1 hb1
  have hz1 := hb1.size
  clear hq hfc
  cases hok : filterB ⟨on, l⟩ with
  | false =>
    have HV := Lib.hid (show fTks ⟨on, l⟩ = [] by unfold fTks; rw [hok]; rfl)
    clear hok q0 q1
    go_wp2
    go_ret
    exact ⟨_, rfl, by rw [HV.out]; exact own_lower o1 (by rw [HZ1.out]; omega), HB1.out.trans (hb1.mono (by rw [HZ1.out]; omega))⟩
  | true =>
    have HFT := Lib.hid (show fTks ⟨on, l⟩ = if on = true then atT [115, 101, 116] :: l.flatMap scTks else [atT [110, 111, 110, 101]] by unfold fTks; rw [hok]; rfl)
    obtain ⟨hf1, hf2⟩ := filter_parts hok
    have HF1 := Lib.hid hf1
    clear hok hf1
    simp only at hf2
    cases on with
    | false =>
      have C1 := Lib.hid (fun W => l6Atom_any [110, 111, 110, 101] W)
      go_wp2_with fail
      refine (C1.out _).mono ?_
      rintro e w2 ⟨rfl, b2⟩
      have o2 := ownsRow_below o1 b2
      have hb2 := hb1.trans (b2.mono hz1)
      have hz2 := hb2.size
      clear o1 hb1 b2 q0 q1 C1
      go_wp2_with (at_builtin; refine wpList_app1 Tryd.el_tok rfl (.tmp 16) (.tmp 18) rfl W0 w2 _ 0 _ rfl o2 hb2 hz2 #[.int .i64 1, sv [110, 111, 110, 101]] (.inr rfl) 1 1 rfl rfl (by simp [Value.oneCell']) (by omega) (by omega) (by omega) ?_)
      intro g cap w3 o3 hb3 _ _ _
      clear o2 hb2
      go_wp2
      go_ret
      exact ⟨_, rfl, by rw [HFT.out]; exact own_lower o3 (by rw [HZ1.out]; omega), HB1.out.trans (hb3.mono (by rw [HZ1.out]; omega))⟩
    | true =>
      have C1 := Lib.hid (fun W => l6Atom_any [115, 101, 116] W)
      go_wp2_with fail
      refine (C1.out _).mono ?_
      rintro e w2 ⟨rfl, b2⟩
      have o2 := ownsRow_below o1 b2
      have hb2 := hb1.trans (b2.mono hz1)
      have hz2 := hb2.size
      clear o1 hb1 b2 q0 q1 C1
      go_wp2_with (at_builtin; refine wpList_app1 Tryd.el_tok rfl (.tmp 20) (.tmp 22) rfl W0 w2 _ 0 _ rfl o2 hb2 hz2 #[.int .i64 1, sv [115, 101, 116]] (.inr rfl) 1 1 rfl rfl (by simp [Value.oneCell']) (by omega) (by omega) (by omega) ?_)
      intro g cap w3 o3 hb3 _ _ _
      have HO3 := Lib.hid (show w3.ownsRow W0.heap.size 52 2 (.slice (some ⟨g, 0, none⟩) 1 cap) (atT [115, 101, 116] :: (l.take 0).flatMap scTks).length ((atT [115, 101, 116] :: (l.take 0).flatMap scTks).flatMap tokc) from o3)
      clear o2 hb2 o3 hz1 hz2
      generalize (Value.slice (some ⟨g, 0, none⟩) 1 cap) = u3 at *
      go_wp2
      go_loopg [3, 4] l.length (fun gk u i wr => ∃ k : Nat, k ≤ l.length ∧ gk = l.length - k ∧ i = .int .i64 k ∧ wr.ownsRow W0.heap.size 52 2 u (atT [115, 101, 116] :: (l.take k).flatMap scTks).length ((atT [115, 101, 116] :: (l.take k).flatMap scTks).flatMap tokc) ∧ Below W0.heap.size W0 wr)
      case atStart => exact ⟨0, Nat.zero_le _, rfl, rfl, HO3.out, hb3⟩
      case round =>
        obtain ⟨k, hk, rfl, rfl, hown, hbr⟩ := hrel
        obtain ⟨q0, q1⟩ := HQ.out wr hbr
        have hz := hbr.size
        clear hb3 HO3
        by_cases hlt : k < l.length
        · obtain ⟨p', c', hv, hp⟩ := scps_at HR.out
          injection hv with e1 _ e2
          subst e1 e2
          obtain ⟨b, off, rfl, hb, hcell⟩ := hp.resolve_left (by intro h; subst h; simp at hlt)
          obtain ⟨s, hs⟩ : ∃ s, l[k]? = some s := ⟨_, List.getElem?_eq_getElem hlt⟩
          obtain ⟨vn, n1, x0, x1, x2⟩ := hcell k s hs
          have hbw := HB1.out.trans (hbr.mono (by rw [HZ1.out]; omega))
          have hsok := HF1.out s (List.mem_of_getElem? hs)
          obtain ⟨hk1, hk4, he1, he15, hn3⟩ := scope_parts hsok
          have e0 : wr.cell? ⟨b, off + k * 3, none⟩ = some (.int .i64 s.kind) := (hbw.cell (p := ⟨b, off + k * 3, none⟩) hb).trans x0
          have e1 : wr.cell? ⟨b, off + k * 3 + 1, none⟩ = some vn := (hbw.cell (p := ⟨b, off + k * 3 + 1, none⟩) hb).trans x1
          have e2 : wr.cell? ⟨b, off + k * 3 + 2, none⟩ = some (.int .i64 s.events) := (hbw.cell (p := ⟨b, off + k * 3 + 2, none⟩) hb).trans x2
          have HT := Lib.hid (show (l.take (k + 1)).flatMap scTks = (l.take k).flatMap scTks ++ scTks s by rw [take_sc hs]; simp)
          have HTL := Lib.hid (scTks_take HF1.out k)
          have N1 := Lib.hid (n1.below HB1.out)
          obtain ⟨pn, cn, rfl, _⟩ := n1.ex
          obtain ⟨kd, nm, ev⟩ := s
          simp only at hk1 hk4 he1 he15 hn3 e0 e1 e2 N1
          obtain ⟨q, rfl⟩ : ∃ q : Nat, kd = (q : Int) := ⟨kd.toNat, by omega⟩
          obtain ⟨sw, hsw⟩ : ∃ sw, scWords[q]? = some sw := ⟨_, List.getElem?_eq_getElem (show q < 5 by omega)⟩
          have HSW := Lib.hid hsw
          have TK0 := Lib.hid (show TkB W0 wr.heap.size #[.int .i64 (q : Int), .slice pn nm.length cn, .int .i64 ev] u3 (atT [115, 101, 116] :: (l.take k).flatMap scTks) (wr.alloc (.cells #[.int .i64 (q : Int), .slice pn nm.length cn, .int .i64 ev] 55)) from
            ⟨hown.alloc _, hbr.alloc hz _, heap_alloc_new wr _⟩)
          have HCZ := Lib.hid (show (wr.alloc (.cells #[.int .i64 (q : Int), .slice pn nm.length cn, .int .i64 ev] 55)).heap.size = wr.heap.size + 1 by simp)
          clear hcell hs n1 x0 x1 x2 hp hown hsok hsw
          have HTZ := Lib.hid (show (atT [115, 101, 116] :: (l.take k).flatMap scTks).length ≤ 50 by have := HTL.out; simp only [List.length_cons]; omega)
          generalize hT0 : (atT [115, 101, 116] :: (l.take k).flatMap scTks) = T0 at *
          have HT0 := Lib.hid hT0
          clear hT0 HTL
          go_wp2_with fail
          clear e0 e1 e2 q0 q1
          have HCZ2 := Lib.hid (show wr.heap.size < (wr.alloc (.cells #[.int .i64 (q : Int), .slice pn nm.length cn, .int .i64 ev] 55)).heap.size by rw [HCZ.out]; omega)
          generalize (wr.alloc (.cells #[.int .i64 (q : Int), .slice pn nm.length cn, .int .i64 ev] 55)) = X at *
          generalize wr.heap.size = cB at *
          have d0 : X.drew.cell? ⟨cB, 0, none⟩ = some (.int .i64 (q : Int)) := (Lib.cell_of_heap TK0.out.blk 0).trans rfl
          refine ord_start [(0, true), (3, true), (4, true), (1, false), (2, false), (5, true), (6, false), (7, false), (8, false), (9, false), (10, true)] (fun W => W.cell? ⟨cB, 0, none⟩ = some (.int .i64 (q : Int))) (by kernel_rfl) (by kernel_rfl) rfl (by kernel_rfl) ?_
          intro ops' hops
          clear hops
          simp only [List.map_cons, List.map_nil, pickOp_zero, pickOp_succ]
          iterate 3 (refine ord_flo ?_ (fun _ _ _ h => h) rfl ?_ d0 ?_; rotate_left; focus (intro _ _; go_simp; rfl))
          refine ord_ev rfl ?_
          go_simp
          refine (l6Open_any _).mono ?_
          rintro e w4 ⟨rfl, b4⟩
          have TK4 := Lib.hid (TK0.out.drew.call b4)
          have d4 : w4.cell? ⟨cB, 0, none⟩ = some (.int .i64 (q : Int)) := (Lib.cell_of_heap TK4.out.blk 0).trans rfl
          refine ⟨d4, ?_⟩
          clear d0 b4
          refine ord_ev rfl ?_
          go_simp
          refine (l6Words_any _).mono ?_
          rintro e w5 ⟨rfl, hw5, hz5, b5⟩
          have TK5 := Lib.hid (TK4.out.call b5)
          have d5 : w5.cell? ⟨cB, 0, none⟩ = some (.int .i64 (q : Int)) := (Lib.cell_of_heap TK5.out.blk 0).trans rfl
          have g5 : w5.cell? ⟨w4.heap.size, q, none⟩ = some (sv sw) := hw5 q sw HSW.out
          refine ⟨d5, ?_⟩
          clear d4 b5 hw5
          refine ord_flo (.pointer (some ⟨w4.heap.size, q, none⟩)) (fun _ _ _ h => h) rfl ?_ d5 ?_
          · intro W hS
            go_simp
            try (intro h; omega)
          refine ord_ev rfl ?_
          go_simp
          refine ord_ev rfl ?_
          go_simp
          refine (l6Atom_any _ _).mono ?_
          rintro e w6 ⟨rfl, b6⟩
          have TK6 := Lib.hid (TK5.out.call b6)
          have d6 : w6.cell? ⟨cB, 0, none⟩ = some (.int .i64 (q : Int)) := (Lib.cell_of_heap TK6.out.blk 0).trans rfl
          refine ⟨d6, ?_⟩
          clear d5 b6 g5
          have d7 : (w6.alloc (.cells #[.int .i64 3, sv [], .int .i64 1, sv sw] 52)).cell? ⟨cB, 0, none⟩ = some (.int .i64 (q : Int)) := (Lib.cell_of_heap (TK6.out.call ((Below.refl _ _).alloc (Nat.le_refl _) (.cells #[.int .i64 3, sv [], .int .i64 1, sv sw] 52))).blk 0).trans rfl
          refine ord_ev rfl ?_
          go_simp
          refine ord_ev rfl ?_
          refine wp_tks TK6.out [opT3, atT sw] 2 (.tmp 36) (.tmp 44) rfl rfl _ (.inr rfl) rfl rfl rfl (by omega) (by have := HTZ.out; omega) ?_
          intro u9 w9 TK9'
          have TK9 := Lib.hid TK9'
          have d9 : w9.cell? ⟨cB, 0, none⟩ = some (.int .i64 (q : Int)) := (Lib.cell_of_heap TK9'.blk 0).trans rfl
          refine ⟨d9, ?_⟩
          clear d7 d6 TK9'
          iterate 1 (refine ord_flo ?_ (fun _ _ _ h => h) rfl ?_ d9 ?_; rotate_left; focus (intro _ _; go_simp; rfl))
          refine ord_done ?_
          go_simp
          go_upto_if 48 with fail
          go_cut [3] (fun u wx => TkB W0 cB #[.int .i64 (q : Int), .slice pn nm.length cn, .int .i64 ev] u (T0 ++ [opT3, atT sw] ++ nmTks ⟨(q : Int), nm, ev⟩) wx)
          case first =>
            by_cases h3 : (3 : Int) ≤ (q : Int)
            · have HN := Lib.hid (show nmTks ⟨(q : Int), nm, ev⟩ = opT3 :: (nm.map atT ++ [clT4]) from if_pos h3)
              clear d9
              go_wp2_with fail
              refine (l6Open_any _).mono ?_
              rintro e wa ⟨rfl, ba⟩
              have TKa := Lib.hid (TK9.out.call ba)
              clear ba
              go_wp2_with (at_builtin; refine wpList_tks rfl TKa.out [opT3] 1 (.tmp 49) (.tmp 51) rfl rfl _ (.inr rfl) rfl rfl rfl (by omega) (by have := HTZ.out; simp only [List.length_append, List.length_cons, List.length_nil]; omega) ?_)
              intro ub wb TKb'
              have TKb := Lib.hid (show TkB W0 cB #[.int .i64 (q : Int), .slice pn nm.length cn, .int .i64 ev] ub (T0 ++ [opT3, atT sw] ++ [opT3] ++ (nm.take 0).map atT) wb by simpa using TKb')
              clear TKb'
              go_wp2
              go_loopg [3, 6] nm.length (fun gj u i wx => ∃ j : Nat, j ≤ nm.length ∧ gj = nm.length - j ∧ i = .int .i64 j ∧ TkB W0 cB #[.int .i64 (q : Int), .slice pn nm.length cn, .int .i64 ev] u (T0 ++ [opT3, atT sw] ++ [opT3] ++ (nm.take j).map atT) wx)
              case atStart => exact ⟨0, Nat.zero_le _, rfl, rfl, TKb.out⟩
              case round =>
                obtain ⟨j, hj, rfl, rfl, TKc'⟩ := hrel
                have TKc := Lib.hid TKc'
                have r1 : wr.cell? ⟨cB, 1, none⟩ = some (.slice pn nm.length cn) := (Lib.cell_of_heap TKc.out.blk 1).trans rfl
                clear TKc' TKa TKb
                by_cases hjl : j < nm.length
                · obtain ⟨x, hx⟩ : ∃ x, nm[j]? = some x := ⟨_, List.getElem?_eq_getElem hjl⟩
                  obtain ⟨pz, cz, hv, hp⟩ := (N1.out.below TKc.out.below).ex
                  injection hv with ev1 _ ev2
                  subst ev1 ev2
                  obtain ⟨b2, o2, rfl, hb2, hcell⟩ := hp.resolve_left (by intro h; subst h; simp at hjl)
                  have r2 : wr.cell? ⟨b2, o2 + j, none⟩ = some (sv x) := hcell j x hx
                  have HX := Lib.hid (show (nm.take (j + 1)).map atT = (nm.take j).map atT ++ [atT x] by rw [List.take_succ_eq_append_getElem hjl, List.map_append]; rw [List.getElem?_eq_getElem hjl] at hx; injection hx with hx; rw [hx]; rfl)
                  clear hcell hx hp
                  go_wp2_with fail
                  refine (l6Atom_any x _).mono ?_
                  rintro e wd ⟨rfl, bd⟩
                  have TKd := Lib.hid (TKc.out.call bd)
                  clear bd r1 r2 TKc
                  go_wp2_with (at_builtin; refine wpList_tks rfl TKd.out [atT x] 1 (.tmp 60) (.tmp 67) rfl rfl _ (.inr rfl) rfl rfl rfl (by omega) (by have := HTZ.out; simp only [List.length_append, List.length_cons, List.length_nil, List.length_map, List.length_take]; omega) ?_)
                  intro ue we TKe'
                  have TKe := Lib.hid TKe'
                  clear TKe' TKd
                  go_wp2
                  go_roundg (nm.length - (j + 1))
                  case measure => omega
                  case rel => exact ⟨j + 1, by omega, rfl, by go_num, by rw [HX.out]; simpa using TKe.out⟩
                · obtain rfl : j = nm.length := by omega
                  rw [List.take_length] at TKc
                  go_wp2_with fail
                  refine (l6Close_any _).mono ?_
                  rintro e wd ⟨rfl, bd⟩
                  have TKd := Lib.hid (TKc.out.call bd)
                  clear bd r1 TKc
                  go_wp2_with (at_builtin; refine wpList_tks rfl TKd.out [clT4] 1 (.tmp 69) (.tmp 71) rfl rfl _ (.inr rfl) rfl rfl rfl (by omega) (by have := HTZ.out; simp only [List.length_append, List.length_cons, List.length_nil, List.length_map]; omega) ?_)
                  intro ue we TKe'
                  have TKe := Lib.hid TKe'
                  clear TKe' TKd
                  go_wp2_with fail
                  go_meet
                  rw [HN.out]
                  simpa using TKe.out
            · have HN := Lib.hid (show nmTks ⟨(q : Int), nm, ev⟩ = [] from if_neg h3)
              go_wp2_with fail
              go_meet
              rw [HN.out, List.append_nil]
              exact TK9.out
          case rest =>
            have HTL1 := Lib.hid (show (T0 ++ [opT3, atT sw] ++ nmTks ⟨(q : Int), nm, ev⟩).length ≤ 60 by
              have h1 := HTZ.out
              have h2 : (nmTks ⟨(q : Int), nm, ev⟩).length ≤ 5 := by unfold nmTks; split <;> simp <;> omega
              simp only [List.length_append, List.length_cons, List.length_nil]
              omega)
            have HTE := Lib.hid (show scTks ⟨(q : Int), nm, ev⟩ = [opT3, atT sw] ++ nmTks ⟨(q : Int), nm, ev⟩ ++ [opT3] ++ evTks ev 4 ++ [clT4, clT4] by
              unfold scTks
              simp only
              rw [show ((q : Int)).toNat = q from rfl, List.getD_eq_getElem?_getD, HSW.out]
              simp)
            have TK9 := Lib.hid hcut
            clear hcut d9
            generalize hT1 : T0 ++ [opT3, atT sw] ++ nmTks ⟨(q : Int), nm, ev⟩ = T1 at *
            have HT1 := Lib.hid hT1
            clear hT1
            go_wp2_with fail
            refine (l6Open_any _).mono ?_
            rintro e wa ⟨rfl, ba⟩
            have TKa := Lib.hid (TK9.out.call ba)
            clear ba
            go_wp2_with (at_builtin; refine wpList_tks rfl TKa.out [opT3] 1 (.tmp 73) (.tmp 75) rfl rfl _ (.inr rfl) rfl rfl rfl (by omega) (by have := HTL1.out; omega) ?_)
            intro ub wb TKb'
            have TKb := Lib.hid (show TkB W0 cB #[.int .i64 (q : Int), .slice pn nm.length cn, .int .i64 ev] ub (T1 ++ [opT3] ++ evTks ev 0) wb by simpa [evTks] using TKb')
            clear TKb' TKa TK9
            go_wp2
            go_loopg [3, 7] 4 (fun gj u i wx => ∃ j : Nat, j ≤ 4 ∧ gj = 4 - j ∧ i = .int .i64 j ∧ TkB W0 cB #[.int .i64 (q : Int), .slice pn nm.length cn, .int .i64 ev] u (T1 ++ [opT3] ++ evTks ev j) wx)
            case atStart => exact ⟨0, Nat.zero_le _, rfl, rfl, TKb.out⟩
            case round =>
              obtain ⟨j, hj, rfl, rfl, TKc'⟩ := hrel
              have TKc := Lib.hid TKc'
              have r1 : wr.cell? ⟨cB, 2, none⟩ = some (.int .i64 ev) := (Lib.cell_of_heap TKc.out.blk 2).trans rfl
              clear TKc' TKb
              have hj5 : j = 0 ∨ j = 1 ∨ j = 2 ∨ j = 3 ∨ j = 4 := by omega
              rcases hj5 with rfl | rfl | rfl | rfl | rfl
              · have HE : evB ev 0 = (bits .and .i64 ev 1 == 1) := by simp [evB]
                have HS := Lib.hid (show evTks ev (0 + 1) = evTks ev 0 ++ evTk ev 0 by unfold evTks; rw [List.range_succ, List.flatMap_append]; simp)
                cases hev : evB ev 0 with
                | true =>
                  have HK := Lib.hid (show evTk ev 0 = [atT [110, 101, 119]] by unfold evTk; rw [hev]; rfl)
                  rw [hev] at HE
                  have HE2 := HE.symm
                  clear HE hev
                  go_wp2_with fail
                  refine (l6Events_any _).mono ?_
                  rintro e wd ⟨rfl, hwE, hzE, bd⟩
                  have r2 : wd.cell? ⟨wr.heap.size, 0, none⟩ = some (sv [110, 101, 119]) := hwE 0 _ rfl
                  have TKd := Lib.hid (TKc.out.call bd)
                  clear bd r1 TKc hwE
                  go_wp2_with fail
                  refine (l6Atom_any _ _).mono ?_
                  rintro e we ⟨rfl, be⟩
                  have TKe := Lib.hid (TKd.out.call be)
                  clear be r2 TKd
                  go_wp2_with (at_builtin; refine wpList_tks rfl TKe.out [atT [110, 101, 119]] 1 (.tmp 88) (.tmp 94) rfl rfl _ (.inr rfl) rfl rfl rfl (by omega) (by have := HTL1.out; have := evTks_len ev 0; simp only [List.length_append, List.length_cons, List.length_nil]; omega) ?_)
                  intro uf wf TKf'
                  have TKf := Lib.hid TKf'
                  clear TKf' TKe
                  go_wp2
                  go_roundg (4 - (0 + 1))
                  case measure => omega
                  case rel => exact ⟨0 + 1, by omega, rfl, by go_num, by rw [HS.out, HK.out]; simpa using TKf.out⟩
                | false =>
                  have HK := Lib.hid (show evTk ev 0 = [] by unfold evTk; rw [hev]; rfl)
                  rw [hev] at HE
                  have HE2 := HE.symm
                  clear HE hev
                  go_wp2
                  go_roundg (4 - (0 + 1))
                  case measure => omega
                  case rel => exact ⟨0 + 1, by omega, rfl, by go_num, by rw [HS.out, HK.out, List.append_nil]; exact TKc.out⟩
              · have HE : evB ev 1 = (bits .and .i64 (ev / 2) 1 == 1) := by simp [evB]
                have HS := Lib.hid (show evTks ev (1 + 1) = evTks ev 1 ++ evTk ev 1 by unfold evTks; rw [List.range_succ, List.flatMap_append]; simp)
                cases hev : evB ev 1 with
                | true =>
                  have HK := Lib.hid (show evTk ev 1 = [atT [103, 111, 110, 101]] by unfold evTk; rw [hev]; rfl)
                  rw [hev] at HE
                  have HE2 := HE.symm
                  clear HE hev
                  go_wp2_with fail
                  refine (l6Events_any _).mono ?_
                  rintro e wd ⟨rfl, hwE, hzE, bd⟩
                  have r2 : wd.cell? ⟨wr.heap.size, 1, none⟩ = some (sv [103, 111, 110, 101]) := hwE 1 _ rfl
                  have TKd := Lib.hid (TKc.out.call bd)
                  clear bd r1 TKc hwE
                  go_wp2_with fail
                  refine (l6Atom_any _ _).mono ?_
                  rintro e we ⟨rfl, be⟩
                  have TKe := Lib.hid (TKd.out.call be)
                  clear be r2 TKd
                  go_wp2_with (at_builtin; refine wpList_tks rfl TKe.out [atT [103, 111, 110, 101]] 1 (.tmp 88) (.tmp 94) rfl rfl _ (.inr rfl) rfl rfl rfl (by omega) (by have := HTL1.out; have := evTks_len ev 1; simp only [List.length_append, List.length_cons, List.length_nil]; omega) ?_)
                  intro uf wf TKf'
                  have TKf := Lib.hid TKf'
                  clear TKf' TKe
                  go_wp2
                  go_roundg (4 - (1 + 1))
                  case measure => omega
                  case rel => exact ⟨1 + 1, by omega, rfl, by go_num, by rw [HS.out, HK.out]; simpa using TKf.out⟩
                | false =>
                  have HK := Lib.hid (show evTk ev 1 = [] by unfold evTk; rw [hev]; rfl)
                  rw [hev] at HE
                  have HE2 := HE.symm
                  clear HE hev
                  go_wp2
                  go_roundg (4 - (1 + 1))
                  case measure => omega
                  case rel => exact ⟨1 + 1, by omega, rfl, by go_num, by rw [HS.out, HK.out, List.append_nil]; exact TKc.out⟩
              · have HE : evB ev 2 = (bits .and .i64 (ev / 4) 1 == 1) := by simp [evB]
                have HS := Lib.hid (show evTks ev (2 + 1) = evTks ev 2 ++ evTk ev 2 by unfold evTks; rw [List.range_succ, List.flatMap_append]; simp)
                cases hev : evB ev 2 with
                | true =>
                  have HK := Lib.hid (show evTk ev 2 = [atT [102, 108, 97, 103, 115]] by unfold evTk; rw [hev]; rfl)
                  rw [hev] at HE
                  have HE2 := HE.symm
                  clear HE hev
                  go_wp2_with fail
                  refine (l6Events_any _).mono ?_
                  rintro e wd ⟨rfl, hwE, hzE, bd⟩
                  have r2 : wd.cell? ⟨wr.heap.size, 2, none⟩ = some (sv [102, 108, 97, 103, 115]) := hwE 2 _ rfl
                  have TKd := Lib.hid (TKc.out.call bd)
                  clear bd r1 TKc hwE
                  go_wp2_with fail
                  refine (l6Atom_any _ _).mono ?_
                  rintro e we ⟨rfl, be⟩
                  have TKe := Lib.hid (TKd.out.call be)
                  clear be r2 TKd
                  go_wp2_with (at_builtin; refine wpList_tks rfl TKe.out [atT [102, 108, 97, 103, 115]] 1 (.tmp 88) (.tmp 94) rfl rfl _ (.inr rfl) rfl rfl rfl (by omega) (by have := HTL1.out; have := evTks_len ev 2; simp only [List.length_append, List.length_cons, List.length_nil]; omega) ?_)
                  intro uf wf TKf'
                  have TKf := Lib.hid TKf'
                  clear TKf' TKe
                  go_wp2
                  go_roundg (4 - (2 + 1))
                  case measure => omega
                  case rel => exact ⟨2 + 1, by omega, rfl, by go_num, by rw [HS.out, HK.out]; simpa using TKf.out⟩
                | false =>
                  have HK := Lib.hid (show evTk ev 2 = [] by unfold evTk; rw [hev]; rfl)
                  rw [hev] at HE
                  have HE2 := HE.symm
                  clear HE hev
                  go_wp2
                  go_roundg (4 - (2 + 1))
                  case measure => omega
                  case rel => exact ⟨2 + 1, by omega, rfl, by go_num, by rw [HS.out, HK.out, List.append_nil]; exact TKc.out⟩
              · have HE : evB ev 3 = (bits .and .i64 (ev / 8) 1 == 1) := by simp [evB]
                have HS := Lib.hid (show evTks ev (3 + 1) = evTks ev 3 ++ evTk ev 3 by unfold evTks; rw [List.range_succ, List.flatMap_append]; simp)
                cases hev : evB ev 3 with
                | true =>
                  have HK := Lib.hid (show evTk ev 3 = [atT [110, 97, 109, 101, 115]] by unfold evTk; rw [hev]; rfl)
                  rw [hev] at HE
                  have HE2 := HE.symm
                  clear HE hev
                  go_wp2_with fail
                  refine (l6Events_any _).mono ?_
                  rintro e wd ⟨rfl, hwE, hzE, bd⟩
                  have r2 : wd.cell? ⟨wr.heap.size, 3, none⟩ = some (sv [110, 97, 109, 101, 115]) := hwE 3 _ rfl
                  have TKd := Lib.hid (TKc.out.call bd)
                  clear bd r1 TKc hwE
                  go_wp2_with fail
                  refine (l6Atom_any _ _).mono ?_
                  rintro e we ⟨rfl, be⟩
                  have TKe := Lib.hid (TKd.out.call be)
                  clear be r2 TKd
                  go_wp2_with (at_builtin; refine wpList_tks rfl TKe.out [atT [110, 97, 109, 101, 115]] 1 (.tmp 88) (.tmp 94) rfl rfl _ (.inr rfl) rfl rfl rfl (by omega) (by have := HTL1.out; have := evTks_len ev 3; simp only [List.length_append, List.length_cons, List.length_nil]; omega) ?_)
                  intro uf wf TKf'
                  have TKf := Lib.hid TKf'
                  clear TKf' TKe
                  go_wp2
                  go_roundg (4 - (3 + 1))
                  case measure => omega
                  case rel => exact ⟨3 + 1, by omega, rfl, by go_num, by rw [HS.out, HK.out]; simpa using TKf.out⟩
                | false =>
                  have HK := Lib.hid (show evTk ev 3 = [] by unfold evTk; rw [hev]; rfl)
                  rw [hev] at HE
                  have HE2 := HE.symm
                  clear HE hev
                  go_wp2
                  go_roundg (4 - (3 + 1))
                  case measure => omega
                  case rel => exact ⟨3 + 1, by omega, rfl, by go_num, by rw [HS.out, HK.out, List.append_nil]; exact TKc.out⟩
              · go_wp2_with fail
                refine (l6Close_any _).mono ?_
                rintro e wd ⟨rfl, bd⟩
                have TKd := Lib.hid (TKc.out.call bd)
                clear bd r1 TKc
                go_wp2_with fail
                refine (l6Close_any _).mono ?_
                rintro e we ⟨rfl, be⟩
                have TKe := Lib.hid (TKd.out.call be)
                clear be TKd
                go_wp2_with (at_builtin; refine wpList_tks rfl TKe.out [clT4, clT4] 2 (.tmp 96) (.tmp 99) rfl rfl _ (.inr rfl) rfl rfl rfl (by omega) (by have := HTL1.out; have := evTks_len ev 4; simp only [List.length_append, List.length_cons, List.length_nil]; omega) ?_)
                intro uf wf TKf'
                have TKf := Lib.hid TKf'
                clear TKf' TKe
                have HFIN := Lib.hid (show (atT [115, 101, 116] :: (l.take (k + 1)).flatMap scTks) = T1 ++ [opT3] ++ evTks ev 4 ++ [clT4, clT4] by
                  rw [HT.out, ← HT1.out, ← HT0.out, HTE.out]
                  simp)
                go_wp2
                go_roundg (l.length - (k + 1))
                case measure => omega
                case rel => exact ⟨k + 1, by omega, rfl, by go_num, by rw [HFIN.out]; have h := TKf.out.own; simp only [List.append_assoc, List.singleton_append] at h ⊢; exact h, TKf.out.below⟩
        · obtain rfl : k = l.length := by omega
          rw [List.take_length] at hown
          go_wp2
          go_ret
          exact ⟨_, rfl, by rw [HFT.out, if_pos trivial]; exact own_lower hown (by rw [HZ1.out]; omega), HB1.out.trans (hbr.mono (by rw [HZ1.out]; omega))⟩

end Go.Proofs.YthihjelcakenpaaDoor
