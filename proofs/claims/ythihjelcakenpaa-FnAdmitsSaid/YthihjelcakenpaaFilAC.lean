/-
  The law FnAdmits, out of what the program's Admits and Covers answer.
-/
import Derived.Test.YthihjelcakenpaaFilAA
import Derived.Test.YthihjelcakenpaaFilH
import Derived.Test.YthihjelcakenpaaFilN
import Derived.Deep.DeepCutAuto
namespace Go.Proofs.Ythihjelcakenpaa
open Go.RowKit

theorem admPicked : ∀ x ∈ ([1, 2, 4, 8, 15, 0, 16, -1] : List Int), -9223372036854775808 ≤ x ∧ x ≤ 9223372036854775807 := by decide
theorem admText : ∀ x ∈ ([[], [105, 110, 98, 111, 120], [97]] : List (List UInt8)), x.length ≤ 5 := by decide
/-- What Admits is asked. -/
def AdmDrawn (w : World) (e : Ending) (w' : World) : Prop :=
  ∃ (f : Flt) (vs : Value) (fp : List Nat) (sel nm : List UInt8) (en : Int), e = .returned (.tuple #[.agg #[.bool f.on, vs], sv sel, sv nm, .int .i64 en]) ∧ f.scopes.length ≤ 4 ∧ (∀ s ∈ f.scopes, ScB 3 s) ∧ Tree w' w.heap.size (scpsLf f.scopes) vs fp ∧ sel.length ≤ 5 ∧ nm.length ≤ 41 ∧ in64 en ∧ Below w.heap.size w w'

set_option maxHeartbeats 3200000 in
theorem DrawAdmits_any (v : Value) (code : List UInt8) (w : World) (hr : Rd1 bv w v code) (hl : code.length ≤ 1048576) :
    Calls Try.prog 10 #[v] w fun e w' => AdmDrawn w e w' := by
  have HR := Lib.hid (hr.below (w' := w.alloc (.cells #[.bool false, .slice none 0 0] 26)) ((Below.refl _ _).alloc (Nat.le_refl _) _))
  have HB := Lib.hid (show Below w.heap.size w (w.alloc (.cells #[.bool false, .slice none 0 0] 26)) from (Below.refl _ _).alloc (Nat.le_refl _) _)
  have HX := Lib.hid (heap_alloc_new w (.cells #[.bool false, .slice none 0 0] 26))
  have HZ := Lib.hid (show (w.alloc (.cells #[.bool false, .slice none 0 0] 26)).heap.size = w.heap.size + 1 by simp)
  clear hr
  go_enter Try.func10, Try.ntmps10
  go_wp2_with fail
  refine (l1New_any v code _ HR.out hl).mono ?_
  rintro e w1 ⟨g, rfl, hg, hc1, hb1⟩
  have hz1 := hb1.size
  rw [HZ.out] at hg hb1 hz1
  go_wp2_with fail
  refine (l6Bent_any g code _ hc1).mono ?_
  rintro e w2 ⟨⟨on, scs⟩, vs, fp, rfl, hsl, hsb, htr, hc2, hg2⟩
  have hb2 := below_cur hb1 hg2 hz1 hg
  have hlt2 := hc2.lt
  simp only at hsl hsb htr ⊢
  obtain ⟨psc, csc, rfl, _⟩ := scps_at htr.rd
  have hgz := hg2.size
  have hlt1 := hc1.lt
  clear hc1 hg2 hb1
  go_wp2_with fail
  refine (l1Pick_any g code _ [[], [105, 110, 98, 111, 120], [97]] _ (hc2.below ((Below.refl _ _).alloc (Nat.le_refl _) _)) (Rd1_lit (b := w2.heap.size) _ (heap_alloc_new w2 _) rfl rfl) (Apart_new hlt2) (by simp) (by simp)).mono ?_
  rintro e w3 ⟨sel, rfl, hsel, hc3, hg3⟩
  have hsl5 := admText sel hsel
  have z2 := Nat.le_trans hz1 hgz
  have hbA := hb2.alloc z2 (.cells #[.string ⟨#[]⟩, .string ⟨#[105, 110, 98, 111, 120]⟩, .string ⟨#[97]⟩] 9)
  have hb3 := below_cur hbA hg3 (by simp; omega) hg
  have z3 : w.heap.size + 1 ≤ w3.heap.size := by have := hg3.size; simp at this; omega
  have htA : Tree (w2.alloc (.cells #[.string ⟨#[]⟩, .string ⟨#[105, 110, 98, 111, 120]⟩, .string ⟨#[97]⟩] 9)) w1.heap.size (scpsLf scs) (.slice psc scs.length csc) fp := htr.below ((Below.refl _ _).alloc (Nat.le_refl _) _)
  have hgl : ∀ k ∈ fp, k ∉ [g] := fun k hk hm => by have h1 := htr.low k hk; have h2 : k = g := (by simpa using hm); omega
  have ht3 := htA.apart (fq := [g]) (by have := GrownIn.of_row hg3; simpa using this) hgl
  clear htr htA hbA hb2 hg3 hc2 hsel
  go_wp2_with fail
  refine (l2Name_any g code _ hc3).mono ?_
  rintro e w4 ⟨nm, rfl, hnm, hc4, hg4⟩
  have hb4 := below_cur hb3 hg4 z3 hg
  have z4 := Nat.le_trans z3 hg4.size
  have ht4 := ht3.apart (fq := [g]) (by have := GrownIn.of_row hg4; simpa using this) hgl
  have hlt4 := hc4.lt
  clear ht3 hb3 hg4 hc3
  go_wp2_with fail
  refine (l1PickInt_any g code _ [1, 2, 4, 8, 15, 0, 16, -1] _ (hc4.below ((Below.refl _ _).alloc (Nat.le_refl _) _)) (Rd1_lit (b := w4.heap.size) _ (heap_alloc_new w4 _) rfl rfl) (Apart_new hlt4) (by simp) (by simp)).mono ?_
  rintro e w5 ⟨en, rfl, hen, hc5, hg5⟩
  have hen64 := admPicked en hen
  have hbA := hb4.alloc z4 (.cells #[.int .i64 1, .int .i64 2, .int .i64 4, .int .i64 8, .int .i64 15, .int .i64 0, .int .i64 16, .int .i64 (-1)] 3)
  have hb5 := below_cur hbA hg5 (by simp; omega) hg
  have htA : Tree (w4.alloc (.cells #[.int .i64 1, .int .i64 2, .int .i64 4, .int .i64 8, .int .i64 15, .int .i64 0, .int .i64 16, .int .i64 (-1)] 3)) w1.heap.size (scpsLf scs) (.slice psc scs.length csc) fp := ht4.below ((Below.refl _ _).alloc (Nat.le_refl _) _)
  have ht5 := htA.apart (fq := [g]) (by have := GrownIn.of_row hg5; simpa using this) hgl
  have hR := ((hb5.block w.heap.size (by omega))).trans HX.out
  have hbb : Below w.heap.size w w5 := HB.out.trans (hb5.mono (by omega))
  obtain ⟨r0, r1, f0, f1, s0, s1⟩ := blk_two6 hR
  have hne : ∀ k ∈ fp, k ≠ w.heap.size := fun k hk => by have := ht5.low k hk; omega
  clear htA hbA hb4 hb5 hg5 hc4 hc5 hen hR HB HX ht4 HR
  go_wp2
  exact bodyPost_ret (v := .tuple #[.agg #[.bool on, .slice psc scs.length csc], sv sel, sv nm, .int .i64 en]) (by simp [results, Try.results10, go_sem, s0, s1]) rfl
    ⟨⟨on, scs⟩, _, fp, sel, nm, en, rfl, hsl, hsb, ⟨LfIn.frame _ _ _ (fun k hk => (set_other (hne k hk)).trans (set_other (hne k hk))) ht5.is, ht5.nodup, fun k hk => by have := ht5.low k hk; omega⟩, hsl5, hnm, hen64, (hbb.setCell (Nat.le_refl _) _).setCell (Nat.le_refl _) _⟩

set_option maxRecDepth 20000 in
set_option maxHeartbeats 6400000 in
theorem FnAdmits_of {G : World → Prop} (hK : Keeps G) (IA : ImplAdmits G) (IC : ImplCovers G) (v : Value) (code : List UInt8) (w : World) (hG : G w) (hr : Rd1 bv w v code) :
    Calls Try.prog 3 #[v] w fun e w' => e = .returned (.bool true) ∧ Below w.heap.size w w' := by
  have HR := Lib.hid hr
  have HB := Lib.hid (big_any v code w hr)
  clear hr
  by_cases hbig : code.length ≤ 1048576
  · have hq : ¬ (1048576 : Int) < (code.length : Int) := by omega
    have HIA := Lib.hid IA
    have HIC := Lib.hid IC
    clear IA IC
    go_enter Try.func3, Try.ntmps3
    go_wp2_with fail
    refine (HB.out).mono ?_
    rintro e w' ⟨rfl, rfl⟩
    go_wp2_with fail
    refine (DrawAdmits_any v code _ HR.out hbig).mono ?_
    rintro e w1 ⟨⟨on, scs⟩, vs, fp, sel, nm, en, rfl, hsl, hsb, htr, hs5, hn41, hen, b1⟩
    simp only at hsl hsb htr ⊢
    have HF1 := Lib.hid htr.rd
    obtain ⟨pf, cf, rfl, hcells⟩ := scps_at htr.rd
    have hsm : ∀ s ∈ scs, s.names.length ≤ 1048576 ∧ ∀ x ∈ s.names, x.length ≤ 1048576 := fun s hs => ⟨by have := (hsb s hs).1; omega, fun x hx => by have := (hsb s hs).2.1 x hx; omega⟩
    have hsi : ∀ s ∈ scs, in64 s.kind ∧ in64 s.events := fun s hs => (hsb s hs).2.2
    have CA := Lib.hid (fun W (hg : G W) (h : LfRd W (scpsLf scs) (.slice pf scs.length cf)) => HIA.out ⟨on, scs⟩ (.slice pf scs.length cf) sel nm en W hg h (by simp only; omega) hsm hsi (by omega) (by omega) hen)
    have CS := Lib.hid (fun W (h : LfRd W (scpsLf scs) (.slice pf scs.length cf)) => specAdmits_any ⟨on, scs⟩ (.slice pf scs.length cf) sel nm en W h (by simp only; omega) (fun s hs => ⟨by have := (hsm s hs).1; omega, (hsm s hs).2⟩) (by omega))
    have CC := Lib.hid (fun s (hs : s ∈ scs) u W (hg : G W) (h : Rd1 sv W u s.names) => HIC.out s u sel nm W hg h (hsm s hs).1 (hsm s hs).2 (hsi s hs).1 (hsi s hs).2 (by omega) (by omega))
    have HP := Lib.hid hcells
    have hz1 := b1.size
    have hX0 : (w1.alloc (.cells #[.bool on, .slice pf scs.length cf] 26)).heap[w1.heap.size]? = some (.cells #[.bool on, .slice pf scs.length cf] 26 (0, 0)) := heap_alloc_new w1 _
    have hbX : Below w1.heap.size w1 (w1.alloc (.cells #[.bool on, .slice pf scs.length cf] 26)) := (Below.refl _ _).alloc (Nat.le_refl _) _
    have hzX : (w1.alloc (.cells #[.bool on, .slice pf scs.length cf] 26)).heap.size = w1.heap.size + 1 := by simp
    have HA := Lib.hid hX0
    have hval : admitsB ⟨on, scs⟩ sel nm en = (on && scs.any (admitB sel nm en)) := rfl
    rw [hval] at CA CS
    clear hsb hsm hsi htr hcells HIA HIC hX0 hval HR HB
    go_upto_region 4 with fail
    generalize (w1.alloc (.cells #[.bool on, .slice pf scs.length cf] 26)) = X at *
    have HFX := Lib.hid (HF1.out.below hbX)
    have hb2 := b1.trans (hbX.mono b1.size)
    obtain ⟨b3, hb3⟩ : ∃ b3, w1.heap.size = b3 := ⟨_, rfl⟩
    rw [hb3] at hbX hzX HA hz1 HP ⊢
    have HB3 := Lib.hid hb3
    clear hb3
    obtain ⟨a0, a1⟩ := blk_pair HA.out
    go_wp2_with fail
    clear a0 a1
    refine (CA.out _ (hK _ _ hG hb2) HFX.out).mono ?_
    rintro e w2 ⟨rfl, b4⟩
    have hz2 : b3 + 1 ≤ w2.heap.size := by have := b4.size; omega
    have HA2 := Lib.hid ((b4.block b3 (by omega)).trans HA.out)
    have HF2 := Lib.hid (HFX.out.below b4)
    have hb4 := hb2.trans (b4.mono hb2.size)
    have hbq2 := hbX.trans (b4.mono (by omega))
    clear HA HFX hb2 b4 hbX
    obtain ⟨a0, a1⟩ := blk_pair HA2.out
    go_wp2_with fail
    clear a0 a1
    refine (CS.out _ HF2.out).mono ?_
    rintro e w3 ⟨rfl, b5⟩
    have hz3 := Nat.le_trans hz2 b5.size
    have HA3 := Lib.hid ((b5.block b3 (by omega)).trans HA2.out)
    have HF3 := Lib.hid (HF2.out.below b5)
    have hb5 := hb4.trans (b5.mono hb4.size)
    have hbq3 := hbq2.trans (b5.mono (by omega))
    have hneq : ((on && scs.any (admitB sel nm en)) != (on && scs.any (admitB sel nm en))) = false := by simp
    clear HA2 HF2 hb4 b5 hz2 CA CS hbq2
    go_wp2
    clear hneq
    go_loopw [8, 9] (fun m i wr => ∃ k : Nat, k ≤ scs.length ∧ i = .int .i64 k ∧ m = .bool (on && (scs.take k).any (admitB sel nm en)) ∧ Below w3.heap.size w3 wr) (fun _ i _ => scs.length - (intOf i).toNat)
    case atStart => exact ⟨0, by omega, rfl, by simp, Below.refl _ _⟩
    case round =>
      obtain ⟨k, hk, rfl, rfl, hbr⟩ := hrel
      have hzr := hbr.size
      obtain ⟨q0, q1⟩ := blk_pair ((hbr.block b3 (by omega)).trans HA3.out)
      by_cases hlt : k < scs.length
      · have hlt2 : (k : Int) < (scs.length : Int) := by omega
        obtain ⟨s, hs⟩ : ∃ s, scs[k]? = some s := ⟨_, List.getElem?_eq_getElem hlt⟩
        have hstep : (scs.take (k + 1)).any (admitB sel nm en) = ((scs.take k).any (admitB sel nm en) || admitB sel nm en s) := by
          rw [take_at hs, List.any_append]
          simp
        have HST := Lib.hid hstep
        clear hstep
        cases hm : (on && (scs.take k).any (admitB sel nm en)) with
        | true =>
          have HM := Lib.hid hm
          have HN := Lib.hid (show (on && (scs.take (k + 1)).any (admitB sel nm en)) = true by
            rw [HST.out]
            rw [Bool.and_eq_true] at hm
            simp [hm.1, hm.2])
          clear hm HST hs
          go_wp2
          go_roundw
          case rel => exact ⟨k + 1, by omega, by go_num, by rw [HN.out], hbr⟩
          case measure => simp [intOf]; omega
        | false =>
          have HM := Lib.hid hm
          clear hm
          cases on with
          | false =>
            clear HST hs
            go_wp2
            go_roundw
            case rel => exact ⟨k + 1, by omega, by go_num, by simp, hbr⟩
            case measure => simp [intOf]; omega
          | true =>
            have hall : (scs.take k).any (admitB sel nm en) = false := by have := HM.out; simpa using this
            have HALL := Lib.hid hall
            clear hall HM
            obtain ⟨b, off, rfl, hb, hcell⟩ := HP.out.resolve_left (by intro h; subst h; simp at hlt)
            obtain ⟨v1, n1, x0, x1, x2⟩ := hcell k s hs
            have hbw : Below b3 w1 wr := hbq3.trans (hbr.mono (by omega))
            have e0 : wr.cell? ⟨b, off + k * 3, none⟩ = some (.int .i64 s.kind) := (hbw.cell (p := ⟨b, off + k * 3, none⟩) hb).trans x0
            have e1 : wr.cell? ⟨b, off + k * 3 + 1, none⟩ = some v1 := (hbw.cell (p := ⟨b, off + k * 3 + 1, none⟩) hb).trans x1
            have e2 : wr.cell? ⟨b, off + k * 3 + 2, none⟩ = some (.int .i64 s.events) := (hbw.cell (p := ⟨b, off + k * 3 + 2, none⟩) hb).trans x2
            have hbww := hb5.trans (hbr.mono hb5.size)
            have c4 := CC.out s (List.mem_of_getElem? hs) v1 wr (hK _ _ hG hbww) (n1.below (by rw [HB3.out]; exact hbw))
            have HS := Lib.hid hs
            clear hcell x0 x1 x2 n1 hs hbww
            cases h3 : (bits .and .i64 s.events en == 0) with
            | true =>
              have HN := Lib.hid (show (scs.take (k + 1)).any (admitB sel nm en) = false by rw [HST.out, HALL.out]; simp [admitB, h3])
              have h3n := ne_not' h3
              clear c4
              go_wp2
              go_roundw
              case rel => exact ⟨k + 1, by omega, by go_num, by rw [HN.out]; rfl, hbr⟩
              case measure => simp [intOf]; omega
            | false =>
              have h3n := ne_yes' h3
              have hcv : (scs.take (k + 1)).any (admitB sel nm en) = coversB s sel nm := by rw [HST.out, HALL.out]; simp [admitB, h3]
              cases hc : coversB s sel nm <;> rw [hc] at hcv c4
              all_goals
                have HN := Lib.hid hcv
                have C4 := Lib.hid c4
                clear c4 hcv hc
                go_wp2_with fail
                refine (C4.out).mono ?_
                rintro e w4 ⟨rfl, b6⟩
                have hbr2 := hbr.trans (b6.mono hzr)
                clear b6 C4 e0 e1 e2 q0 q1
                go_wp2
                refine ⟨?_, ?_⟩
                · repeat apply Exists.intro
                  refine ⟨?_, rfl⟩
                  exact ⟨k + 1, by omega, by go_num, by rw [HN.out]; rfl, hbr2⟩
                · simp [intOf]
                  omega
      · obtain rfl : k = scs.length := by omega
        have hbww := hb5.trans (hbr.mono hb5.size)
        rw [List.take_length] at *
        go_wp2
        go_ret
        exact ⟨by simp, hbww⟩
  · have hq : (1048576 : Int) < (code.length : Int) := by omega
    go_enter Try.func3, Try.ntmps3
    go_wp2_with fail
    refine (HB.out).mono ?_
    rintro e w' ⟨rfl, rfl⟩
    go_wp2
    go_ret
    exact ⟨rfl, Below.refl _ _⟩

end Go.Proofs.Ythihjelcakenpaa
