/-
  Chapter 6, the program: ReadFilter, whole.
-/
import Derived.Test.YthihjelcakenpaaDoorFipJ
namespace Go.Proofs.YthihjelcakenpaaDoor
open Go.RowKit

theorem two_setF {w W : World} (hb : Below w.heap.size w W) (a b : Value) : Below w.heap.size w ((W.setCell ⟨w.heap.size, 0, none⟩ a).setCell ⟨w.heap.size, 1, none⟩ b) :=
  (hb.setCell (p := ⟨w.heap.size, 0, none⟩) (Nat.le_refl _) a).setCell (p := ⟨w.heap.size, 1, none⟩) (Nat.le_refl _) b

set_option maxRecDepth 20000 in
set_option maxHeartbeats 12800000 in
theorem implReadFilter_of (SF : ScContr) : ImplReadFilter Ew := by
  intro v l w hF hr hcp hl hx
  obtain ⟨p, c, rfl, hp⟩ := hr.ex
  have hc : l.length ≤ c := hcp _ _ _ rfl
  have HR := Lib.hid hr
  have HX := Lib.hid hx
  have HF := Lib.hid hF
  have hbr0 : Below w.heap.size w (w.alloc (.cells #[.bool false, .slice none 0 0] 26)) := (Below.refl _ _).alloc (Nat.le_refl _) _
  have hblk : (w.alloc (.cells #[.bool false, .slice none 0 0] 26)).heap[w.heap.size]? = some (.cells #[.bool false, .slice none 0 0] 26 (0, 0)) := heap_alloc_new w _
  have HBK := Lib.hid hblk
  have hz0 : (w.alloc (.cells #[.bool false, .slice none 0 0] 26)).heap.size = w.heap.size + 1 := by simp
  have HZ0 := Lib.hid hz0
  have HB0 := Lib.hid hbr0
  clear hr hcp hx hF hz0
  cases l with
  | nil =>
    obtain ⟨c0, c1, f0, f1, _, _⟩ := blk_two6 hblk
    clear hblk hp
    go_enter Tryd.func9, Tryd.ntmps9
    go_wp2
    exact bodyPost_ret (v := .tuple #[.agg #[.bool false, .slice none 0 0], .bool false]) (by simp [results, Tryd.results9, go_sem]) rfl (flt_none rfl rfl HB0.out)
  | cons t r =>
    obtain ⟨b, off, rfl, hb, hcell⟩ := hp.resolve_left (by simp)
    have ht0 : w.cell? ⟨b, off, none⟩ = some (.int .i64 t.kind) := hcell 0 t rfl 0 _ rfl
    have ht1 : w.cell? ⟨b, off + 1, none⟩ = some (sv t.text) := hcell 0 t rfl 1 _ rfl
    have htx := HX.out t (by simp)
    have cn := fun W => isKeyword_any t [110, 111, 110, 101] W htx (by decide)
    have cs := fun W => isKeyword_any t [115, 101, 116] W htx (by decide)
    rw [upper_none] at cn
    rw [upper_set] at cs
    have HT := Lib.hid (fun W (h : Below w.heap.size w W) => (⟨(h.cell (p := ⟨b, off, none⟩) hb).trans ht0, (h.cell (p := ⟨b, off + 1, none⟩) hb).trans ht1⟩ : W.cell? ⟨b, off, none⟩ = some (.int .i64 t.kind) ∧ W.cell? ⟨b, off + 1, none⟩ = some (sv t.text)))
    have HK0 := Lib.hid (fun W (h : Below (w.heap.size + 1) (w.alloc (.cells #[.bool false, .slice none 0 0] 26)) W) => (h.block w.heap.size (by omega)).trans HBK.out)
    clear hp hcell ht0 ht1 htx hblk
    have hlen : (t :: r).length = r.length + 1 := rfl
    rw [hlen] at hl hc HR
    rw [hlen]
    clear hlen
    obtain ⟨t0, t1⟩ := HT.out _ HB0.out
    cases hS : (t.kind == 1 && upper t.text == setW) with
    | false =>
      rw [hS] at cs
      have CS := Lib.hid cs
      have HB1 := Lib.hid (fun h => readI_bad (r := r) hS h)
      clear cs hS
      by_cases hr0 : r = []
      · subst hr0
        cases hN : (t.kind == 1 && upper t.text == noneW) with
        | true =>
          rw [hN] at cn
          have CN := Lib.hid cn
          have HV := Lib.hid (show readF [t] = some ⟨false, []⟩ by rw [Bool.and_eq_true, beq_iff_eq, beq_iff_eq] at hN; exact readI_none hN.1 hN.2)
          clear cn hN
          go_enter Tryd.func9, Tryd.ntmps9
          go_wp2_with fail
          refine (CN.out _).mono ?_
          rintro e w1 ⟨rfl, b1⟩
          have hb1 := HB0.out.trans (b1.mono HB0.out.size)
          obtain ⟨c0, c1, f0, f1, s0, s1⟩ := blk_two6 (HK0.out w1 (b1.mono (by rw [HZ0.out]; omega)))
          clear b1 t0 t1
          go_wp2
          exact bodyPost_ret (v := .tuple #[.agg #[.bool false, .slice none 0 0], .bool true]) (by simp [results, Tryd.results9, go_sem, s0, s1]) rfl ⟨.slice none 0 0, [], by rw [HV.out]; rfl, by rw [HV.out]; exact tree_nil _ _, two_setF hb1 _ _⟩
        | false =>
          rw [hN] at cn
          have CN := Lib.hid cn
          have HV := Lib.hid (HB1.out (fun _ => hN))
          clear cn hN
          go_enter Tryd.func9, Tryd.ntmps9
          go_wp2_with fail
          refine (CN.out _).mono ?_
          rintro e w1 ⟨rfl, b1⟩
          have hb1 := HB0.out.trans (b1.mono HB0.out.size)
          have hk1 := b1.mono (Nat.le_of_eq HZ0.out.symm)
          clear t0 t1
          obtain ⟨t0, t1⟩ := HT.out _ hb1
          go_wp2_with fail
          refine (CS.out _).mono ?_
          rintro e w2 ⟨rfl, b2⟩
          have hb2 := hb1.trans (b2.mono hb1.size)
          obtain ⟨c0, c1, f0, f1, s0, s1⟩ := blk_two6 (HK0.out w2 (hk1.trans (b2.mono (by have := b1.size; rw [HZ0.out] at this; exact this))))
          clear b1 b2 t0 t1 hk1
          go_wp2
          exact bodyPost_ret (v := .tuple #[.agg #[.bool false, .slice none 0 0], .bool false]) (by simp [results, Tryd.results9, go_sem, s0, s1]) rfl (flt_none HV.out rfl (two_setF hb2 _ _))
      · have hrl : 1 ≤ r.length := by cases r with | nil => exact absurd rfl hr0 | cons _ _ => simp
        have hn1 : ((r.length : Int) + 1 == 1) = false := by rw [beq_eq_false_iff_ne]; omega
        have HV := Lib.hid (HB1.out (fun h => absurd h hr0))
        clear cn
        go_enter Tryd.func9, Tryd.ntmps9
        go_wp2_with fail
        refine (CS.out _).mono ?_
        rintro e w2 ⟨rfl, b2⟩
        have hb2 := HB0.out.trans (b2.mono HB0.out.size)
        obtain ⟨c0, c1, f0, f1, s0, s1⟩ := blk_two6 (HK0.out w2 (b2.mono (Nat.le_of_eq HZ0.out.symm)))
        clear b2 t0 t1
        go_wp2
        exact bodyPost_ret (v := .tuple #[.agg #[.bool false, .slice none 0 0], .bool false]) (by simp [results, Tryd.results9, go_sem, s0, s1]) rfl (flt_none HV.out rfl (two_setF hb2 _ _))
    | true =>
      have hS2 := hS
      rw [Bool.and_eq_true, beq_iff_eq, beq_iff_eq] at hS2
      have hN : (t.kind == 1 && upper t.text == noneW) = false := by rw [hS2.2]; simp [setW, noneW]
      rw [hN] at cn
      rw [hS] at cs
      have CN := Lib.hid cn
      have CS := Lib.hid cs
      have HRF := Lib.hid (readI_set (r := r) hS2.1 hS2.2)
      clear cn cs hN hS hS2
      by_cases hr0 : r = []
      · subst hr0
        have HV := Lib.hid (show readF [t] = none from HRF.out)
        have CF := Lib.hid (fun W => implFilterOk_any ⟨true, []⟩ (.slice none 0 0) W trivial (tree_nil W 0).rd (by simp) (by simp) (by simp))
        rw [show filterB ⟨true, []⟩ = false from rfl] at CF
        simp only at CF
        have hcc : c = 1 ∨ ¬ c = 1 := Classical.em _
        go_enter Tryd.func9, Tryd.ntmps9
        go_wp2_with fail
        refine (CN.out _).mono ?_
        rintro e w1 ⟨rfl, b1⟩
        have hb1 := HB0.out.trans (b1.mono HB0.out.size)
        have hk1 := b1.mono (Nat.le_of_eq HZ0.out.symm)
        clear t0 t1
        obtain ⟨t0, t1⟩ := HT.out _ hb1
        go_wp2_with fail
        refine (CS.out _).mono ?_
        rintro e w2 ⟨rfl, b2⟩
        have hb2 := hb1.trans (b2.mono hb1.size)
        have hk2 := hk1.trans (b2.mono (by have := b1.size; rw [HZ0.out] at this; exact this))
        have hb3 := hb2.alloc hb2.size (.cells #[.bool true, .slice none 0 0] 26)
        have hk3 := hk2.alloc (by have := hk2.size; rw [HZ0.out] at this; exact this) (.cells #[.bool true, .slice none 0 0] 26)
        have hz3 := hb3.size
        have HK3 := Lib.hid (HK0.out _ hk3)
        have HZ3 := Lib.hid (show w.heap.size + 1 ≤ w2.heap.size by have := hk2.size; rw [HZ0.out] at this; exact this)
        clear b1 b2 t0 t1 hk1 hk2 hk3 hb1
        rcases hcc with hc1 | hc1
        all_goals
          (try subst hc1)
          go_wp2
          refine wp_loop_rounds 1 ?_
          rw [rounds_succ]
          go_wp2_with fail
          refine (CF.out _).mono ?_
          rintro e w4 ⟨rfl, b4⟩
          have hb4 := hb3.trans (b4.mono hz3)
          obtain ⟨c0, c1, f0, f1, s0, s1⟩ := blk_two6 ((b4.block w.heap.size (by have := HZ3.out; simp; omega)).trans HK3.out)
          clear b4 hb3
          go_wp2
          exact bodyPost_ret (v := .tuple #[.agg #[.bool false, .slice none 0 0], .bool false]) (by simp [results, Tryd.results9, go_sem, s0, s1]) rfl (flt_none HV.out rfl (two_setF hb4 _ _))
      · have hrl : 1 ≤ r.length := by cases r with | nil => exact absurd rfl hr0 | cons _ _ => simp
        have hn1 : ((r.length : Int) + 1 == 1) = false := by rw [beq_eq_false_iff_ne]; omega
        have hc1 : ¬ c = 1 := by omega
        have HTL := Lib.hid (show Rd 2 tokc w (.slice (some ⟨b, off + 2, none⟩) r.length (c - 1)) r ∧ CapOk (.slice (some ⟨b, off + 2, none⟩) r.length (c - 1)) by
          have := rd_drop (l := t :: r) (k := 1) (show Rd 2 tokc w (.slice (some ⟨b, off, none⟩) (t :: r).length c) (t :: r) from HR.out) hc (by show 1 ≤ r.length + 1; omega)
          rw [if_neg hc1] at this
          simpa [Addr.add_lit] using this)
        go_enter Tryd.func9, Tryd.ntmps9
        go_wp2_with fail
        refine (CS.out _).mono ?_
        rintro e w2 ⟨rfl, b2⟩
        have hb2 := HB0.out.trans (b2.mono HB0.out.size)
        have hk2 := b2.mono (Nat.le_of_eq HZ0.out.symm)
        have hz2 : w.heap.size + 1 ≤ w2.heap.size := by have := hk2.size; rw [HZ0.out] at this; exact this
        have RF0 := Lib.hid (show RfM w w2.heap.size (w2.heap.size + 1) (.slice none 0 0) [] [] (w2.alloc (.cells #[.bool true, .slice none 0 0] 26)) from
          ⟨heap_alloc_new w2 _, (Below.heap_alloc w2 _ _ (by omega)).trans (HK0.out _ hk2), tree_nil _ _, hb2.alloc hb2.size _, by omega, by omega, by simp⟩)
        clear b2 t0 t1 hk2 CN CS
        go_wp2
        generalize (w2.alloc (.cells #[.bool true, .slice none 0 0] 26)) = X at *
        generalize w2.heap.size = cf at *
        go_loopg [5, 6, 7, 8] r.length (fun gk u5 u6 u7 u8 wr => ∃ (r' : List Tok) (scs : List Scp) (vsc : Value) (fp : List Nat), gk = r'.length ∧ Rd 2 tokc w u5 r' ∧ CapOk u5 ∧ RfM w cf (cf + 1) vsc scs fp wr ∧ FarI r scs r' ∧ ∀ s ∈ scs, ScG s)
        case atStart => exact ⟨r, [], .slice none 0 0, [], rfl, HTL.out.1, HTL.out.2, RF0.out, FarI.start r, by simp⟩
        case round =>
          obtain ⟨r', scs, vsc, fp, rfl, hrd, hcap, hrf, hfar, hsg⟩ := hrel
          have RF := Lib.hid hrf
          have FA := Lib.hid hfar
          have HG := Lib.hid hsg
          have HRD := Lib.hid hrd
          have HCP := Lib.hid hcap
          obtain ⟨pr, cr, rfl, _⟩ := hrd.ex
          clear hrf hfar hsg hrd hcap RF0 HTL
          have hz := RF.out.below.size
          by_cases hne : r' = []
          · subst hne
            have HV0 := Lib.hid (HRF.out.trans (by rw [FA.out.done]; rfl : _ = finF ⟨true, scs⟩))
            have hsl : scs.length ≤ r.length := by have := FA.out.1; simp at this; omega
            have CF := Lib.hid (fun W h => implFilterOk_any ⟨true, scs⟩ vsc W trivial h (by show scs.length ≤ 1048576; omega) (fun s hs => ⟨(HG.out s hs).1, (HG.out s hs).2.1⟩) (fun s hs => by have := (HG.out s hs).2.2; unfold in64; omega))
            simp only at CF
            obtain ⟨q0, q1⟩ := blk_pair RF.out.blkf
            obtain ⟨psc, csc, rfl, _⟩ := scps_at RF.out.tree.rd
            go_wp2_with fail
            refine (CF.out _ RF.out.tree.rd).mono ?_
            rintro e w3 ⟨rfl, b3⟩
            have RF3 := Lib.hid (RF.out.call b3)
            clear q0 q1 b3 CF
            obtain ⟨q0, q1⟩ := blk_pair RF3.out.blkf
            obtain ⟨c0, c1, f0, f1, s0, s1⟩ := blk_two6 RF3.out.blkr
            cases hok : filterB ⟨true, scs⟩ with
            | false =>
              have HV := Lib.hid (show readF (t :: r) = none by rw [HV0.out]; unfold finF; rw [hok]; rfl)
              go_wp2
              exact bodyPost_ret (v := .tuple #[.agg #[.bool false, .slice none 0 0], .bool false]) (by simp [results, Tryd.results9, go_sem, s0, s1]) rfl (flt_none HV.out rfl (two_setF RF3.out.below _ _))
            | true =>
              have HV := Lib.hid (show readF (t :: r) = some ⟨true, scs⟩ by rw [HV0.out]; unfold finF; rw [hok]; rfl)
              have HTR := Lib.hid (show Tree ((w3.setCell ⟨w.heap.size, 0, none⟩ (.bool true)).setCell ⟨w.heap.size, 1, none⟩ (.slice psc scs.length csc)) w.heap.size (scpsLf scs) (.slice psc scs.length csc) fp by
                have hlow : ∀ k ∈ fp, w.heap.size < k := fun k hk => by have h1 := RF3.out.tree.low k hk; have h2 := RF3.out.o1; omega
                refine ⟨LfIn.frame _ _ _ (fun k hk => ?_) RF3.out.tree.is, RF3.out.tree.nodup, fun k hk => Nat.le_of_lt (hlow k hk)⟩
                have := hlow k hk
                exact (set_other (by omega)).trans (set_other (by omega)))
              go_wp2
              exact bodyPost_ret (v := .tuple #[.agg #[.bool true, .slice psc scs.length csc], .bool true]) (by simp [results, Tryd.results9, go_sem, s0, s1]) rfl ⟨.slice psc scs.length csc, fp, by rw [HV.out]; rfl, by rw [HV.out]; exact HTR.out, two_setF RF3.out.below _ _⟩
          · have hpos : 0 < (r'.length : Int) := by have : r'.length ≠ 0 := fun h => hne (List.eq_nil_of_length_eq_zero h); omega
            have hrl' : r'.length ≤ r.length := by have := FA.out.1; omega
            have hC := SF (.slice pr r'.length cr) r' w wr HRD.out RF.out.below HCP.out (by omega) (fun u hu => HX.out u (List.mem_cons_of_mem _ (FA.out.2.1 u hu))) (HF.out.below RF.out.below)
            cases hsc : scopeI r' with
            | none =>
              have HV := Lib.hid (show readF (t :: r) = none by rw [HRF.out, FA.out.bad hne hsc]; rfl)
              rw [hsc] at hC
              have C := Lib.hid hC
              clear hC hsc
              go_wp2_with fail
              refine (C.out).mono ?_
              rintro e w3 ⟨rfl, b3⟩
              have RF3 := Lib.hid ((RF.out.call b3).call ((Below.refl _ _).alloc (Nat.le_refl _) (.cells #[.int .i64 0, .slice none 0 0, .int .i64 0] 55)))
              clear b3 C
              obtain ⟨c0, c1, f0, f1, s0, s1⟩ := blk_two6 RF3.out.blkr
              go_wp2
              exact bodyPost_ret (v := .tuple #[.agg #[.bool false, .slice none 0 0], .bool false]) (by simp [results, Tryd.results9, go_sem, s0, s1]) rfl (flt_none HV.out rfl (two_setF RF3.out.below _ _))
            | some q =>
              obtain ⟨s, r''⟩ := q
              have HFA := Lib.hid (FA.out.step hsc)
              obtain ⟨i1, i2, i3, i4, i5, i6, i7⟩ := scopeI_in hsc
              have HLT := Lib.hid (scopeI_lt hsc)
              have HGS := Lib.hid (show ∀ s' ∈ scs ++ [s], ScG s' from fun s' hs' => by
                rcases List.mem_append.1 hs' with h | h
                · exact HG.out s' h
                · rw [List.mem_singleton.1 h]
                  exact ⟨by omega, fun y hy => by obtain ⟨u, hu, e⟩ := i2 y hy; rw [e]; exact HX.out u (List.mem_cons_of_mem _ (FA.out.2.1 u hu)), i4, i5, i6, i7⟩)
              rw [hsc] at hC
              have C := Lib.hid hC
              obtain ⟨kd, nm, ev⟩ := s
              clear hC hsc i1 i2 i3 i4 i5 i6 i7 FA HG
              go_wp2_with fail
              refine (C.out).mono ?_
              rintro e w3 ⟨vn, vr, rfl, on, rr, cr', b3⟩
              obtain ⟨pn, cn, rfl⟩ := own_sl on
              have RF3 := Lib.hid (RF.out.call b3)
              have hzr := RF.out.o4
              have HN := Lib.hid (show ∀ k, (Value.slice pn nm.length cn).ownBlock = some k → cf + 1 ≤ k ∧ k ∉ fp from fun k hk => ⟨by have := (on.lt k hk).1; omega, fun hm => by have h1 := (on.lt k hk).1; have h2 := RF.out.tree.lt k hm; omega⟩)
              have RFa := Lib.hid (RF3.out.call ((Below.refl _ _).alloc (Nat.le_refl _) (.cells #[.int .i64 kd, .slice pn nm.length cn, .int .i64 ev] 55)))
              have ONa := Lib.hid (own_base (on.alloc (.cells #[.int .i64 kd, .slice pn nm.length cn, .int .i64 ev] 55)))
              have RRa := Lib.hid rr
              have HCR := Lib.hid cr'
              have HSZ := Lib.hid (show (w3.alloc (.cells #[.int .i64 kd, .slice pn nm.length cn, .int .i64 ev] 55)).heap.size = w3.heap.size + 1 by simp)
              clear on rr b3 cr' C RF3
              obtain ⟨psc, csc, rfl, _⟩ := scps_at RFa.out.tree.rd
              obtain ⟨xs, fq, ho, hxx, hf⟩ := RFa.out.row
              have HAP := Lib.hid (fun W' gn capn => RFa.out.app (W' := W') (kd := kd) (ev := ev) ONa.out HN.out hxx hf (gn := gn) (capn := capn))
              obtain ⟨q0, q1⟩ := blk_pair RFa.out.blkf
              have HO := Lib.hid ho
              have hlo := RFa.out.o4
              have hsl : scs.length ≤ r.length := by have := HFA.out.1; simp at this; omega
              clear ho hxx hf
              go_wp2_with (at_builtin; refine wpList_app1 Tryd.el_scp rfl (.tmp 46) (.tmp 48) rfl _ _ (.slice psc scs.length csc) scs.length xs rfl HO.out (Below.refl _ _) hlo #[.int .i64 kd, .slice pn nm.length cn, .int .i64 ev] (.inr rfl) 1 1 (by rw [HSZ.out]; rfl) rfl (by simp [Value.oneCell']) (by omega) (by omega) (by omega) ?_)
              intro gn capn w5 o5 b5 g5 hor _
              obtain ⟨fp', rf', hcf'⟩ := HAP.out w5 gn capn o5 g5 (by rw [HSZ.out]; exact hor)
              have RF' := Lib.hid rf'
              have y1 : w5.cell? ⟨cf, 1, none⟩ = some (.slice psc scs.length csc) := (Lib.cell_of_heap hcf' 1).trans rfl
              have y2 : w5.frozen? ⟨cf, 1, none⟩ = false := Lib.frozen_of_heap hcf' 1
              clear o5 b5 g5 hor rf' hcf' q0 q1 HO hlo
              go_wp2
              go_roundg r''.length
              case measure => exact HLT.out
              case rel => exact ⟨r'', scs ++ [⟨kd, nm, ev⟩], _, fp', rfl, RRa.out, HCR.out, RF'.out, HFA.out, HGS.out⟩

end Go.Proofs.YthihjelcakenpaaDoor
