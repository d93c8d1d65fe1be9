/-
  The law FnFilter, out of what the program's FilterTokens, ReadFilter and SameFilter answer.
-/
import Derived.Test.YthihjelcakenpaaDoorFilAA
import Derived.Test.YthihjelcakenpaaDoorFilO
import Derived.Test.YthihjelcakenpaaDoorFilV
import Derived.Test.YthihjelcakenpaaDoorFilW
import Derived.Test.YthihjelcakenpaaDoorGf
import Derived.Test.YthihjelcakenpaaDoorGc
import Derived.Deep.DeepCutAuto
namespace Go.Proofs.YthihjelcakenpaaDoor
open Go.RowKit

theorem readF_fTks (f : Flt) (w : World) (e : Ending) (w' : World) : FltPost (readF (fTks f)) w e w' = FltPost2 (if filterB f = true then f else ⟨false, []⟩) (filterB f) w e w' := by
  cases h : filterB f with
  | true => rw [readF_wrote h]; rfl
  | false => rw [readF_none h]; rfl
theorem readF_two (l : List Tok) : ∃ (f : Flt) (ok : Bool), f.scopes.length ≤ 3 ∧ (∀ s ∈ f.scopes, s.names.length ≤ 3) ∧ (ok = true → filterB f = true) ∧ ∀ w e w', FltPost (readF l) w e w' = FltPost2 f ok w e w' := by
  obtain ⟨h1, h2⟩ := readF_small l
  refine ⟨(readF l).getD ⟨false, []⟩, (readF l).isSome, h1, h2, ?_, fun _ _ _ => rfl⟩
  cases hU : readF l with
  | none => intro h; simp at h
  | some f => intro _; exact readF_some hU
theorem namesB_each {l : List (List UInt8)} (h : namesB l = true) : ∀ x ∈ l, nameB x = true := by
  intro x hx
  obtain ⟨i, hi, hix⟩ := List.getElem_of_mem hx
  have hg : l[i]? = some x := by rw [List.getElem?_eq_getElem hi, hix]
  unfold namesB at h
  have hs := List.all_eq_true.1 h i (by simpa using hi)
  cases i with
  | zero => rw [step_zero hg] at hs; exact hs
  | succ j =>
    rw [step_succ (y := l[j]'(by omega)) (List.getElem?_eq_getElem (by omega)) hg, Bool.and_eq_true] at hs
    exact hs.1
theorem filterB_names {f : Flt} (h : filterB f = true) : ∀ s ∈ f.scopes, ∀ x ∈ s.names, x.length ≤ 12 := by
  intro s hs x hx
  have h1 := (filter_parts h).1 s hs
  unfold scopeB at h1
  simp only [Bool.and_eq_true, decide_eq_true_eq] at h1
  have h2 := h1.2
  split at h2
  · rw [decide_eq_true_eq] at h2
    rw [List.eq_nil_of_length_eq_zero h2] at hx
    cases hx
  · simp only [Bool.and_eq_true] at h2
    exact nameB_len (namesB_each h2.1 x hx)

set_option maxRecDepth 20000 in
set_option maxHeartbeats 6400000 in
theorem FnFilter_of {G : World → Prop} (hK : Keeps G) (IT : ImplFilterTokens G) (IX : ImplReadFilter G) (IS : ImplSameFilter G) (v : Value) (code : List UInt8) (w : World) (hG : G w) (hr : Rd1 bv w v code) :
    Calls Tryd.prog 3 #[v] w fun e w' => e = .returned (.bool true) ∧ Below w.heap.size w w' := by
  have HR := Lib.hid hr
  have HB := Lib.hid (big_any v code w hr)
  clear hr
  by_cases hbig : code.length ≤ 1048576
  · have hq : ¬ (1048576 : Int) < (code.length : Int) := by omega
    have HIT := Lib.hid IT
    have HIX := Lib.hid IX
    have HIS := Lib.hid IS
    clear IT IX IS
    go_enter Tryd.func3, Tryd.ntmps3
    go_wp2_with fail
    refine (HB.out).mono ?_
    rintro e w' ⟨rfl, rfl⟩
    go_wp2_with fail
    refine (DrawFilterTokens_any v code _ HR.out hbig).mono ?_
    rintro e w1 ⟨f, vs, fp, rfl, hsl, hsb, htr, b1⟩
    have hz1 := b1.size
    have HF1 := Lib.hid htr.rd
    obtain ⟨pf, cf, rfl, _⟩ := scps_at htr.rd
    have hln := fTks_len f
    have htx := fTks_text (f := f) (n := 41) (by omega) (fun s hs => (hsb s hs).2.1)
    have hsm : ∀ s ∈ f.scopes, s.names.length ≤ 1048576 ∧ ∀ x ∈ s.names, x.length ≤ 1048576 := fun s hs => ⟨by have := (hsb s hs).1; omega, fun x hx => by have := (hsb s hs).2.1 x hx; omega⟩
    have hsi : ∀ s ∈ f.scopes, in64 s.kind ∧ in64 s.events := fun s hs => (hsb s hs).2.2
    -- the contracts, in what they say of f
    have CT := Lib.hid (fun u W (hg : G W) (h : LfRd W (scpsLf f.scopes) u) => HIT.out f u W hg h (by omega) hsm hsi)
    have CTS := Lib.hid (fun u W (h : LfRd W (scpsLf f.scopes) u) => specFilterTokens_any f u W h (by omega) (fun s hs => ⟨by have := (hsm s hs).1; omega, fun x hx => by have := (hsm s hs).2 x hx; omega⟩))
    have CO := Lib.hid (fun u W (h : LfRd W (scpsLf f.scopes) u) => specFilterOk_any f u W h (by omega) (fun s hs => ⟨by have := (hsm s hs).1; omega, fun x hx => by have := (hsm s hs).2 x hx; omega⟩))
    have cx := fun u W (hg : G W) (h : Rd 2 tokc W u (fTks f)) (hc : CapOk u) => HIX.out u (fTks f) W hg h hc (by omega) (fun t ht => by have := htx t ht; omega)
    simp only [readF_fTks] at cx
    have CX := Lib.hid cx
    have CSS := Lib.hid (fun u v W (h1 : LfRd W (scpsLf f.scopes) u) (h2 : LfRd W (scpsLf f.scopes) v) => specSameFilter_any f f u v W h1 h2 (by omega) (fun s hs => by have := (hsm s hs).1; omega))
    have CSI := Lib.hid (fun u v W (hg : G W) (h1 : LfRd W (scpsLf f.scopes) u) (h2 : LfRd W (scpsLf f.scopes) v) => HIS.out f f u v W hg h1 h2 (by omega) (by omega) hsm hsm hsi hsi)
    have CST := Lib.hid (fun u v W (h1 : Rd 2 tokc W u (fTks f)) (h2 : Rd 2 tokc W v (fTks f)) => sameTokens_same u v (fTks f) W h1 h2 (by omega))
    have hg1 : filterB f = true → (if filterB f = true then f else ⟨false, []⟩) = f := fun h => if_pos h
    generalize (if filterB f = true then f else (⟨false, []⟩ : Flt)) = gg at *
    generalize filterB f = ok1 at *
    generalize fTks f = L at *
    obtain ⟨on, scs⟩ := f
    simp only [decide_true] at *
    clear hsb hsm hsi htx cx htr HIT HIS
    have hX0 : (w1.alloc (.cells #[.bool on, .slice pf scs.length cf] 26)).heap[w1.heap.size]? = some (.cells #[.bool on, .slice pf scs.length cf] 26 (0, 0)) := heap_alloc_new w1 _
    have hbX : Below w1.heap.size w1 (w1.alloc (.cells #[.bool on, .slice pf scs.length cf] 26)) := (Below.refl _ _).alloc (Nat.le_refl _) _
    have hzX : (w1.alloc (.cells #[.bool on, .slice pf scs.length cf] 26)).heap.size = w1.heap.size + 1 := by simp
    have HFX := Lib.hid (HF1.out.below hbX)
    have hb2 := b1.trans (hbX.mono b1.size)
    obtain ⟨a0, a1⟩ := blk_pair hX0
    have HA := Lib.hid hX0
    clear hX0 HF1 b1 hbX
    go_wp2_with fail
    generalize (w1.alloc (.cells #[.bool on, .slice pf scs.length cf] 26)) = X at *
    obtain ⟨b3, hb3⟩ : ∃ b3, w1.heap.size = b3 := ⟨_, rfl⟩
    rw [hb3] at hzX HA hz1 ⊢
    clear hb3 a0 a1
    refine (CT.out _ _ (hK _ _ hG hb2) HFX.out).mono ?_
    rintro e w2 ⟨v4, rfl, o4, b4⟩
    have hz2 : b3 + 1 ≤ w2.heap.size := by have := b4.size; omega
    have HA2 := Lib.hid ((b4.block b3 (by omega)).trans HA.out)
    have HF2 := Lib.hid (HFX.out.below b4)
    have hb4 := hb2.trans (b4.mono hb2.size)
    have HL2 := Lib.hid (Rd.of_own (enc := tokc) (fun _ => rfl) rfl o4)
    have HC2 := Lib.hid (CapOk.of_own o4)
    clear HA HFX hb2 b4 o4 hzX
    go_wp2_with fail
    refine (CX.out _ _ (hK _ _ hG hb4) HL2.out HC2.out).mono ?_
    rintro e w3 ⟨vg, fq, rfl, htg, b5⟩
    have HG3 := Lib.hid htg.rd
    obtain ⟨pg, cg, rfl, _⟩ := scps_at htg.rd
    have hz3 := Nat.le_trans hz2 b5.size
    have HA3 := Lib.hid ((b5.block b3 (by omega)).trans HA2.out)
    have HF3 := Lib.hid (HF2.out.below b5)
    have HL3 := Lib.hid (HL2.out.below b5)
    have hb5 := hb4.trans (b5.mono hb4.size)
    clear HA2 HF2 HL2 hb4 b5 htg hz2
    have hX0 : (w3.alloc (.cells #[.bool gg.on, .slice pg gg.scopes.length cg] 26)).heap[w3.heap.size]? = some (.cells #[.bool gg.on, .slice pg gg.scopes.length cg] 26 (0, 0)) := heap_alloc_new w3 _
    have hbX : Below w3.heap.size w3 (w3.alloc (.cells #[.bool gg.on, .slice pg gg.scopes.length cg] 26)) := (Below.refl _ _).alloc (Nat.le_refl _) _
    have hzX : (w3.alloc (.cells #[.bool gg.on, .slice pg gg.scopes.length cg] 26)).heap.size = w3.heap.size + 1 := by simp
    have HB3 := Lib.hid hX0
    go_upto_region 6 with fail
    generalize (w3.alloc (.cells #[.bool gg.on, .slice pg gg.scopes.length cg] 26)) = X3 at *
    have HA4 := Lib.hid ((hbX.block b3 (by omega)).trans HA3.out)
    have HF4 := Lib.hid (HF3.out.below hbX)
    have HL4 := Lib.hid (HL3.out.below hbX)
    have HG4 := Lib.hid (HG3.out.below hbX)
    have hb6 := hb5.trans (hbX.mono hb5.size)
    obtain ⟨b5, hb5e⟩ : ∃ b5, w3.heap.size = b5 := ⟨_, rfl⟩
    rw [hb5e] at hzX HB3 hz3 ⊢
    clear hb5e HA3 HF3 HL3 HG3 hb5 hbX hX0
    go_wp2_with fail
    refine (DrawReadFilter_any v code _ (HR.out.below hb6) hbig).mono ?_
    rintro e w4 ⟨v7, l, rfl, hrl, hcl, hll, hlt, b7⟩
    have HCL := Lib.hid hcl
    clear hcl
    have hz4 : b5 + 1 ≤ w4.heap.size := by have := b7.size; omega
    have HA5 := Lib.hid ((b7.block b3 (by omega)).trans HA4.out)
    have HB5 := Lib.hid ((b7.block b5 (by omega)).trans HB3.out)
    have HF5 := Lib.hid (HF4.out.below b7)
    have HL5 := Lib.hid (HL4.out.below b7)
    have HG5 := Lib.hid (HG4.out.below b7)
    have hb7 := hb6.trans (b7.mono hb6.size)
    obtain ⟨h, ok2, hh3, hhn, hok2, hP⟩ := readF_two l
    have c8 := fun u W (hg : G W) (h : Rd 2 tokc W u l) (hc : CapOk u) => HIX.out u l W hg h hc (by omega) (fun t ht => by have := hlt t ht; omega)
    have c9 := fun u W (h : Rd 2 tokc W u l) => specReadFilter_any u l W h (by omega) (fun t ht => by have := hlt t ht; omega)
    simp only [hP] at c8 c9
    have C8 := Lib.hid c8
    have C9 := Lib.hid c9
    have HOK := Lib.hid hok2
    have COH := Lib.hid (fun (hb : filterB h = true) u W (hr : LfRd W (scpsLf h.scopes) u) => specFilterOk_any h u W hr (by omega) (fun s hs => ⟨by have := hhn s hs; omega, fun x hx => by have := filterB_names hb s hs x hx; omega⟩))
    have HRL := Lib.hid hrl
    clear HA4 HB3 HF4 HL4 HG4 hb6 b7 c8 c9 hP hok2 HIX hhn hlt hrl hzX
    go_wp2_with fail
    refine (C8.out _ _ (hK _ _ hG hb7) HRL.out HCL.out).mono ?_
    rintro e w5 ⟨vh, fr, rfl, hth, b8⟩
    have HH5 := Lib.hid hth.rd
    obtain ⟨ph, ch, rfl, _⟩ := scps_at hth.rd
    have hz5 := Nat.le_trans hz4 b8.size
    have HA6 := Lib.hid ((b8.block b3 (by omega)).trans HA5.out)
    have HB6 := Lib.hid ((b8.block b5 (by omega)).trans HB5.out)
    have HF6 := Lib.hid (HF5.out.below b8)
    have HL6 := Lib.hid (HL5.out.below b8)
    have HG6 := Lib.hid (HG5.out.below b8)
    have HRL6 := Lib.hid (HRL.out.below b8)
    have hb8 := hb7.trans (b8.mono hb7.size)
    clear HA5 HB5 HF5 HL5 HG5 HRL hb7 b8 hth hz4
    have hX0 : (w5.alloc (.cells #[.bool h.on, .slice ph h.scopes.length ch] 26)).heap[w5.heap.size]? = some (.cells #[.bool h.on, .slice ph h.scopes.length ch] 26 (0, 0)) := heap_alloc_new w5 _
    have hbX : Below w5.heap.size w5 (w5.alloc (.cells #[.bool h.on, .slice ph h.scopes.length ch] 26)) := (Below.refl _ _).alloc (Nat.le_refl _) _
    have hzX : (w5.alloc (.cells #[.bool h.on, .slice ph h.scopes.length ch] 26)).heap.size = w5.heap.size + 1 := by simp
    have HC5 := Lib.hid hX0
    go_upto_region 8 with fail
    generalize (w5.alloc (.cells #[.bool h.on, .slice ph h.scopes.length ch] 26)) = X5 at *
    have HA7 := Lib.hid ((hbX.block b3 (by omega)).trans HA6.out)
    have HB7 := Lib.hid ((hbX.block b5 (by omega)).trans HB6.out)
    have HF7 := Lib.hid (HF6.out.below hbX)
    have HL7 := Lib.hid (HL6.out.below hbX)
    have HG7 := Lib.hid (HG6.out.below hbX)
    have HH7 := Lib.hid (HH5.out.below hbX)
    have HRL7 := Lib.hid (HRL6.out.below hbX)
    have hb9 := hb8.trans (hbX.mono hb8.size)
    obtain ⟨b8, hb8e⟩ : ∃ b8, w5.heap.size = b8 := ⟨_, rfl⟩
    rw [hb8e] at hzX HC5 hz5 ⊢
    clear hb8e HA6 HB6 HF6 HL6 HG6 HH5 HRL6 hb8 hbX hX0
    go_wp2_with fail
    refine (C9.out _ _ HRL7.out).mono ?_
    rintro e w6 ⟨vh2, fr2, rfl, hth2, b10⟩
    obtain ⟨ph2, ch2, rfl, _⟩ := scps_at hth2.rd
    have hz6 : b8 + 1 ≤ w6.heap.size := by have := b10.size; omega
    have hbX : Below w6.heap.size w6 (w6.alloc (.cells #[.bool h.on, .slice ph2 h.scopes.length ch2] 26)) := (Below.refl _ _).alloc (Nat.le_refl _) _
    have hbY := b10.trans (hbX.mono b10.size)
    go_upto_region 9 with fail
    generalize (w6.alloc (.cells #[.bool h.on, .slice ph2 h.scopes.length ch2] 26)) = X6 at *
    have HA8 := Lib.hid ((hbY.block b3 (by omega)).trans HA7.out)
    have HB8 := Lib.hid ((hbY.block b5 (by omega)).trans HB7.out)
    have HC8 := Lib.hid ((hbY.block b8 (by omega)).trans HC5.out)
    have HF8 := Lib.hid (HF7.out.below hbY)
    have HL8 := Lib.hid (HL7.out.below hbY)
    have HG8 := Lib.hid (HG7.out.below hbY)
    have HH8 := Lib.hid (HH7.out.below hbY)
    have hb10 := hb9.trans (hbY.mono hb9.size)
    have hz8 : b8 + 1 ≤ X6.heap.size := by have := hbY.size; omega
    clear HA7 HB7 HC5 HF7 HL7 HG7 HH7 HRL7 hb9 hbX hbY b10 hth2 C9 C8 HR HB CX
    have hne2 : (ok2 != ok2) = false := by cases ok2 <;> rfl
    cases ok2
    case' true =>
      have hb := HOK.out rfl
      have COh := COH.out hb
      rw [hb] at COh
      obtain ⟨d0, d1⟩ := blk_pair HC8.out
      go_wp2_with fail
      refine (COh _ _ HH8.out).mono ?_
      rintro e W9 ⟨rfl, b11⟩
      clear d0 d1 COh hb
      have HA9 := Lib.hid ((b11.block b3 (by omega)).trans HA8.out)
      have HB9 := Lib.hid ((b11.block b5 (by omega)).trans HB8.out)
      have HF9 := Lib.hid (HF8.out.below b11)
      have HL9 := Lib.hid (HL8.out.below b11)
      have HG9 := Lib.hid (HG8.out.below b11)
      have hb9 := hb10.trans (b11.mono hb10.size)
      have hz9 := Nat.le_trans hz8 b11.size
      clear b11
      go_upto_region 11 with fail
    case' false =>
      have hbr := Below.refl X6.heap.size X6
      have HA9 := Lib.hid ((hbr.block b3 (by omega)).trans HA8.out)
      have HB9 := Lib.hid ((hbr.block b5 (by omega)).trans HB8.out)
      have HF9 := Lib.hid (HF8.out.below hbr)
      have HL9 := Lib.hid (HL8.out.below hbr)
      have HG9 := Lib.hid (HG8.out.below hbr)
      have hb9 := hb10
      have hz9 := hz8
      clear hbr
      go_upto_region 11 with fail
    all_goals
      clear HA8 HB8 HC8 HF8 HL8 HG8 HH8 HOK COH hb10
      obtain ⟨a0, a1⟩ := blk_pair HA9.out
      go_wp2_with fail
      clear a0 a1
      refine (CTS.out _ _ HF9.out).mono ?_
      rintro e wa ⟨va, rfl, oa, ba⟩
      have HAa := Lib.hid ((ba.block b3 (by omega)).trans HA9.out)
      have HBa := Lib.hid ((ba.block b5 (by omega)).trans HB9.out)
      have HFa := Lib.hid (HF9.out.below ba)
      have HLa := Lib.hid (HL9.out.below ba)
      have HGa := Lib.hid (HG9.out.below ba)
      have hba := hb9.trans (ba.mono hb9.size)
      have hza := Nat.le_trans hz9 ba.size
      have HMa := Lib.hid (Rd.of_own (enc := tokc) (fun _ => rfl) rfl oa)
      clear HA9 HB9 HF9 HL9 HG9 ba oa hb9 hz9
      go_wp2_with fail
      refine (CST.out _ _ _ HLa.out HMa.out).mono ?_
      rintro e wb ⟨rfl, bb⟩
      have HAb := Lib.hid ((bb.block b3 (by omega)).trans HAa.out)
      have HBb := Lib.hid ((bb.block b5 (by omega)).trans HBa.out)
      have HFb := Lib.hid (HFa.out.below bb)
      have HLb := Lib.hid (HLa.out.below bb)
      have HGb := Lib.hid (HGa.out.below bb)
      have hbb := hba.trans (bb.mono hba.size)
      have hzb := Nat.le_trans hza bb.size
      clear HAa HBa HFa HLa HGa bb hba hza HMa
      obtain ⟨a0, a1⟩ := blk_pair HAb.out
      go_wp2_with fail
      clear a0 a1
      refine (CO.out _ _ HFb.out).mono ?_
      rintro e wc ⟨rfl, bc⟩
      have HAc := Lib.hid ((bc.block b3 (by omega)).trans HAb.out)
      have HBc := Lib.hid ((bc.block b5 (by omega)).trans HBb.out)
      have HFc := Lib.hid (HFb.out.below bc)
      have HLc := Lib.hid (HLb.out.below bc)
      have HGc := Lib.hid (HGb.out.below bc)
      have hbc := hbb.trans (bc.mono hbb.size)
      have hzc := Nat.le_trans hzb bc.size
      clear HAb HBb HFb HLb HGb bc hbb hzb
      cases ok1 with
      | true =>
        obtain rfl := hg1 rfl
        simp only at HBc HGc
        obtain ⟨a0, a1⟩ := blk_pair HAc.out
        obtain ⟨c0, c1⟩ := blk_pair HBc.out
        go_wp2_with fail
        clear a0 a1 c0 c1
        refine (CSS.out _ _ _ HFc.out HGc.out).mono ?_
        rintro e wd ⟨rfl, bd⟩
        have HAd := Lib.hid ((bd.block b3 (by omega)).trans HAc.out)
        have HBd := Lib.hid ((bd.block b5 (by omega)).trans HBc.out)
        have HFd := Lib.hid (HFc.out.below bd)
        have HLd := Lib.hid (HLc.out.below bd)
        have HGd := Lib.hid (HGc.out.below bd)
        have hbd := hbc.trans (bd.mono hbc.size)
        clear HAc HBc HFc HLc HGc bd hbc
        obtain ⟨a0, a1⟩ := blk_pair HAd.out
        obtain ⟨c0, c1⟩ := blk_pair HBd.out
        go_wp2_with fail
        clear a0 a1 c0 c1
        refine (CSI.out _ _ _ (hK _ _ hG hbd) HFd.out HGd.out).mono ?_
        rintro e we ⟨rfl, be⟩
        have hbe := hbd.trans (be.mono hbd.size)
        clear HAd HBd HFd HLd HGd be hbd
        go_wp2
        go_ret
        exact ⟨rfl, hbe⟩
      | false =>
        clear HAc HBc HFc HLc HGc
        go_wp2
        go_ret
        exact ⟨rfl, hbc⟩
  · have hq : (1048576 : Int) < (code.length : Int) := by omega
    go_enter Tryd.func3, Tryd.ntmps3
    go_wp2_with fail
    refine (HB.out).mono ?_
    rintro e w' ⟨rfl, rfl⟩
    go_wp2
    go_ret
    exact ⟨rfl, Below.refl _ _⟩

end Go.Proofs.YthihjelcakenpaaDoor
