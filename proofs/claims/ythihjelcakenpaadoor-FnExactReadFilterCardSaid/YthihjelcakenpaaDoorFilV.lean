/-
  Chapter 6: the exact law of ReadFilter, out of what the program's function answers.
-/
import Derived.Test.YthihjelcakenpaaDoorFilU
import Derived.Test.YthihjelcakenpaaDoorFilN
import Derived.Test.YthihjelcakenpaaDoorGf
namespace Go.Proofs.YthihjelcakenpaaDoor
open Go.RowKit

def ImplReadFilter (G : World → Prop) : Prop := ∀ (v : Value) (l : List Tok) (W : World), G W → Rd 2 tokc W v l → CapOk v → l.length ≤ 1048576 → (∀ t ∈ l, t.text.length ≤ 1048576) →
  Calls Tryd.prog 9 #[v] W fun e w' => FltPost (readF l) W e w'

theorem mkEnd_small : ∀ (l : List Scp) (k : Nat), (∀ s ∈ l, s.names.length ≤ 3) → mkEnd l k ≤ k + 5 * l.length
  | [], k, _ => by simp [mkEnd]
  | s :: r, k, h => by
    have h1 := mkEnd_small r (k + 2 + s.names.length) (fun t ht => h t (by simp [ht]))
    have h2 := h s (by simp)
    simp only [mkEnd, List.length_cons]
    omega
theorem readF_some {l : List Tok} {f : Flt} (h : readF l = some f) : filterB f = true := by
  unfold readF at h
  obtain ⟨q, _, h⟩ := Option.bind_eq_some_iff.1 h
  have fin : ∀ g, finF g = some f → filterB f = true := by
    intro g hg
    unfold finF at hg
    split at hg
    · rename_i hb; injection hg with hg; rw [← hg]; exact hb
    · cases hg
  split at h
  · obtain ⟨ss, _, h⟩ := Option.bind_eq_some_iff.1 h
    exact fin _ h
  · split at h
    · split at h
      · exact fin _ h
      · cases h
    · cases h
/-- What is read, and whether: the filter is a small one. -/
theorem readF_small (l : List Tok) : ((readF l).getD ⟨false, []⟩).scopes.length ≤ 3 ∧ ∀ s ∈ ((readF l).getD ⟨false, []⟩).scopes, s.names.length ≤ 3 := by
  cases h : readF l with
  | none => simp
  | some f =>
    obtain ⟨h1, h2⟩ := filter_parts (readF_some h)
    exact ⟨h2, fun s hs => (scope_parts (h1 s hs)).2.2.2.2⟩

def FltPost2 (f : Flt) (ok : Bool) (w : World) (e : Ending) (w' : World) : Prop :=
  ∃ v fp, e = .returned (.tuple #[.agg #[.bool f.on, v], .bool ok]) ∧ Tree w' w.heap.size (scpsLf f.scopes) v fp ∧ Below w.heap.size w w'

set_option maxRecDepth 20000 in
set_option maxHeartbeats 6400000 in
theorem FnExactReadFilter_of {G : World → Prop} (hK : Keeps G) (IX : ImplReadFilter G) (v : Value) (l : List Tok) (w : World) (hG : G w) (hr : Rd 2 tokc w v l) (hl : l.length ≤ 9223372036854775807) (hx : ∀ t ∈ l, t.text.length ≤ 9223372036854775807) :
    Calls Tryd.prog 5 #[v] w fun e w' => e = .returned (.bool true) ∧ Below w.heap.size w w' := by
  have c1 := fun W (h : Rd 2 tokc W v l) => szTokenS_any v l 1048576 W h hl hx (by omega)
  have HR := Lib.hid hr
  clear hr
  by_cases hok : l.length + tkw l ≤ 1048576
  · rw [tkR_yes hok] at c1
    have C1 := Lib.hid c1
    have hsmall : ∀ t ∈ l, t.text.length ≤ 1048576 := fun t ht => by have := tkw_mem l t ht; omega
    have CT := Lib.hid (fun W (h : Rd 2 tokc W v l) => toTokenS_any v l W h (by omega))
    have CS := Lib.hid (show ∀ u W (h : Rd 2 tokc W u l), Calls Tryd.prog 11 #[u] W fun e w' => FltPost2 ((readF l).getD ⟨false, []⟩) (readF l).isSome W e w' from fun u W h => specReadFilter_any u l W h (by omega) hsmall)
    have CI := Lib.hid (show ∀ u W (hg : G W) (h : Rd 2 tokc W u l) (hc : CapOk u), Calls Tryd.prog 9 #[u] W fun e w' => FltPost2 ((readF l).getD ⟨false, []⟩) (readF l).isSome W e w' from fun u W hg h hc => IX u l W hg h hc (by omega) hsmall)
    obtain ⟨hs1, hs2⟩ := readF_small l
    have hmk := mkEnd_small ((readF l).getD ⟨false, []⟩).scopes 1 hs2
    have hnn : ¬ ((1048576 - (l.length + tkw l) : Nat) : Int) < 0 := by omega
    have hlen : l.length ≤ 1048576 := by omega
    have HI := Lib.hid hs2
    clear c1 IX hsmall hx hs2
    generalize (readF l).isSome = ok at *
    generalize (readF l).getD ⟨false, []⟩ = F at *
    obtain ⟨on, scs⟩ := F
    simp only at hs1 hmk
    have CE := Lib.hid (fun u v W (h : LfRd W (scpsLf scs) u) (h2 : LfRd W (scpsLf scs) v) => eqFilter_same ⟨on, scs⟩ u v W h h2 (by simp only; omega) (fun s hs => by have := HI.out s hs; omega))
    have CET := Lib.hid (fun u v W (h : Rd 2 tokc W u l) (h2 : Rd 2 tokc W v l) => eqTokenS_same u v l W h h2 (by omega))
    have hne : (ok != ok) = false := by simp
    go_enter Tryd.func5, Tryd.ntmps5
    go_wp2_with fail
    refine (C1.out _ HR.out).mono ?_
    rintro e w1 ⟨rfl, b1⟩
    go_wp2_with fail
    refine (CT.out _ (HR.out.below b1)).mono ?_
    rintro e w2 ⟨g2, rfl, o2, b2⟩
    have hb2 := b1.trans (b2.mono b1.size)
    have S2 := Lib.hid (CS.out _ _ (Rd.of_own (fun _ => rfl) rfl o2))
    clear b1 b2 o2
    go_wp2_with fail
    refine (S2.out).mono ?_
    rintro e w3 ⟨vS, fS, rfl, tS, b3⟩
    have hb3 := hb2.trans (b3.mono hb2.size)
    have TS3 := Lib.hid tS
    have h03 : w.heap.size ≤ w3.heap.size := hb3.size
    obtain ⟨pS, cS, rfl, _⟩ := scps_at tS.rd
    clear b3 tS S2 hb2
    have hbX : Below w3.heap.size w3 (w3.alloc (.cells #[.bool on, .slice pS scs.length cS] 26)) := (Below.refl _ _).alloc (Nat.le_refl _) _
    have HC4 := Lib.hid (show (w3.alloc (.cells #[.bool on, .slice pS scs.length cS] 26)).heap[w3.heap.size]? = some (.cells #[.bool on, .slice pS scs.length cS] 26 (0, 0)) from heap_alloc_new w3 _)
    have hzX : (w3.alloc (.cells #[.bool on, .slice pS scs.length cS] 26)).heap.size = w3.heap.size + 1 := by simp
    go_wp2_with fail
    generalize (w3.alloc (.cells #[.bool on, .slice pS scs.length cS] 26)) = X4 at *
    have hb4 := hb3.trans (hbX.mono hb3.size)
    have TS4 := Lib.hid (TS3.out.below hbX)
    refine (CT.out _ (HR.out.below hb4)).mono ?_
    rintro e w5 ⟨g5, rfl, o5, b5⟩
    have hb5 := hb4.trans (b5.mono hb4.size)
    have TS5 := Lib.hid (TS4.out.below b5)
    have HC5 := Lib.hid ((b5.block w3.heap.size (by omega)).trans HC4.out)
    have HL5 := Lib.hid (fun k hk => o5.lt k hk)
    have hz5 := b5.size
    clear b5 hbX hb4 hb3
    go_wp2_with fail
    refine (CI.out _ _ (hK _ _ hG hb5) (Rd.of_own (fun _ => rfl) rfl o5) (CapOk.of_own o5)).mono ?_
    rintro e w6 ⟨vI, fI, rfl, tI, b6⟩
    have hb6 := hb5.trans (b6.mono hb5.size)
    have TS6 := Lib.hid (TS5.out.below b6)
    have HC6 := Lib.hid ((b6.block w3.heap.size (by omega)).trans HC5.out)
    have o6 := ownsRow_below o5 b6
    have TI6 := Lib.hid tI
    have hz6 := b6.size
    obtain ⟨pI, cI, rfl, _⟩ := scps_at tI.rd
    clear b6 tI o5 hb5
    have hbY : Below w6.heap.size w6 (w6.alloc (.cells #[.bool on, .slice pI scs.length cI] 26)) := (Below.refl _ _).alloc (Nat.le_refl _) _
    have HD7 := Lib.hid (show (w6.alloc (.cells #[.bool on, .slice pI scs.length cI] 26)).heap[w6.heap.size]? = some (.cells #[.bool on, .slice pI scs.length cI] 26 (0, 0)) from heap_alloc_new w6 _)
    have hzY : (w6.alloc (.cells #[.bool on, .slice pI scs.length cI] 26)).heap.size = w6.heap.size + 1 := by simp
    have HC7 := Lib.hid ((hbY.block w3.heap.size (by omega)).trans HC6.out)
    obtain ⟨k0, k1⟩ := blk_pair HC7.out
    have k0' : w6.cell? ⟨w3.heap.size, 0, none⟩ = some (.bool on) := (blk_pair HC6.out).1
    have k1' : w6.cell? ⟨w3.heap.size, 1, none⟩ = some (.slice pS scs.length cS) := (blk_pair HC6.out).2
    go_wp2_with fail
    generalize (w6.alloc (.cells #[.bool on, .slice pI scs.length cI] 26)) = Y7 at *
    have hb7 := hb6.trans (hbY.mono hb6.size)
    have TS7 := Lib.hid (TS6.out.below hbY)
    have TI7 := Lib.hid (TI6.out.below hbY)
    have o7 := ownsRow_below o6 hbY
    refine (CE.out _ _ _ TI7.out.rd TS7.out.rd).mono ?_
    rintro e w8 ⟨rfl, b8⟩
    have hb8 := hb7.trans (b8.mono hb7.size)
    have TS8 := Lib.hid (TS7.out.below b8)
    have TI8 := Lib.hid (TI7.out.below b8)
    have HC8 := Lib.hid ((b8.block w3.heap.size (by omega)).trans HC7.out)
    have HD8 := Lib.hid ((b8.block w6.heap.size (by omega)).trans HD7.out)
    have o8 := ownsRow_below o7 b8
    have hz8 := Nat.le_trans (Nat.le_of_eq hzY.symm) b8.size
    clear b8 k0 k1 k0' k1' o6 o7 hbY hb7 hb6
    go_wp2_with fail
    refine (CT.out _ (HR.out.below hb8)).mono ?_
    rintro e w9 ⟨g9, rfl, o9, b9⟩
    have hb9 := hb8.trans (b9.mono hb8.size)
    have TS9 := Lib.hid (TS8.out.below b9)
    have TI9 := Lib.hid (TI8.out.below b9)
    have HC9 := Lib.hid ((b9.block w3.heap.size (by omega)).trans HC8.out)
    have HD9 := Lib.hid ((b9.block w6.heap.size (by omega)).trans HD8.out)
    have o9' := ownsRow_below o8 b9
    have hz9 := b9.size
    have E9 := Lib.hid (CET.out _ _ _ (Rd.of_own (fun _ => rfl) rfl o9') (Rd.of_own (fun _ => rfl) rfl o9))
    clear b9 o8 o9 hb8
    go_wp2_with fail
    refine (E9.out).mono ?_
    rintro e w10 ⟨rfl, b10⟩
    have hb10 := hb9.trans (b10.mono hb9.size)
    have TS10 := Lib.hid (TS9.out.below b10)
    have TI10 := Lib.hid (TI9.out.below b10)
    have HC10 := Lib.hid ((b10.block w3.heap.size (by omega)).trans HC9.out)
    have HD10 := Lib.hid ((b10.block w6.heap.size (by omega)).trans HD9.out)
    have o10 := ownsRow_below o9' b10
    have hz10 := b10.size
    have M10 := Lib.hid (markTokenS_any _ l.length _ 1 1 _ rfl _ o10 (by omega) (by omega))
    clear b10 o9' E9 hb9
    go_wp2_with fail
    refine (M10.out).mono ?_
    rintro e w11 ⟨rfl, _, g11⟩
    have gi11 := GrownIn.of_row g11
    have hx0 : ∀ k ∈ (Value.slice (some ⟨g5, 0, none⟩) l.length l.length).ownBlock.toList, X4.heap.size ≤ k ∧ k < w5.heap.size := fun k hk => HL5.out k (by simpa using hk)
    have hb11 := GrownIn.below hb10 gi11 (by omega) (fun k hk => by have := (hx0 k hk).1; omega)
    have TS11 := Lib.hid (TS10.out.apart gi11 (fun k hk hm => by have h1 := (hx0 k hm).1; have h2 := TS3.out.lt k hk; omega))
    have TI11 := Lib.hid (TI10.out.apart gi11 (fun k hk hm => by have h1 := (hx0 k hm).2; have h2 := TI6.out.low k hk; omega))
    have HC11 := Lib.hid ((gi11.block w3.heap.size (by omega) (fun hm => by have h1 := (hx0 _ hm).1; omega)).trans HC10.out)
    have HD11 := Lib.hid ((gi11.block w6.heap.size (by omega) (fun hm => by have h1 := (hx0 _ hm).2; omega)).trans HD10.out)
    have hz11 := gi11.size
    have hkl : ¬ ((1 + 2 * l.length : Nat) : Int) < 0 := by omega
    have hkl2 : decide (((1 + 2 * l.length : Nat) : Int) < 0) = false := decide_eq_false hkl
    obtain ⟨k0, k1⟩ := blk_pair HC11.out
    obtain ⟨m0, m1⟩ := blk_pair HD11.out
    clear g11 gi11 o10 M10 hb10
    go_wp2_with fail
    refine (CE.out _ _ _ TI11.out.rd TS11.out.rd).mono ?_
    rintro e w12 ⟨rfl, b12⟩
    have hb12 := hb11.trans (b12.mono hb11.size)
    have TS12 := Lib.hid (TS11.out.below b12)
    have TI12 := Lib.hid (TI11.out.below b12)
    have HC12 := Lib.hid ((b12.block w3.heap.size (by omega)).trans HC11.out)
    have HD12 := Lib.hid ((b12.block w6.heap.size (by omega)).trans HD11.out)
    have hz12 := b12.size
    clear b12 k0 k1 m0 m1 hb11
    obtain ⟨m0, m1⟩ := blk_pair HD12.out
    go_wp2_with fail
    refine (markFilter_any on (.slice pI scs.length cI) scs 1 1 rfl fI _ TI12.out.is TI12.out.nodup (by omega) (by omega)).mono ?_
    rintro e w13 ⟨rfl, i13, g13⟩
    have hb13 := GrownIn.below hb12 g13 hb12.size (fun k hk => by have := TI6.out.low k hk; omega)
    have TS13 := Lib.hid (TS12.out.apart g13 (fun k hk hm => by have h1 := TI6.out.low k hm; have h2 := TS3.out.lt k hk; omega))
    have RI13 := Lib.hid (LfIn.rd _ _ _ i13)
    have HC13 := Lib.hid ((g13.block w3.heap.size (by omega) (fun hm => by have := TI6.out.low _ hm; omega)).trans HC12.out)
    have HD13 := Lib.hid ((g13.block w6.heap.size (by omega) (fun hm => by have := TI6.out.lt _ hm; omega)).trans HD12.out)
    have hz13 := g13.size
    have hme : ¬ ((mkEnd scs 1 : Nat) : Int) < 0 := by omega
    have HELD := Lib.hid (fun W (h : LfRd W (scpsLf (mkScps scs 1)) (.slice pI scs.length cI)) => heldFilter_any on (.slice pI scs.length cI) scs 1 1 rfl W h (by omega) (by omega))
    clear g13 i13 m0 m1 hb12
    obtain ⟨m0, m1⟩ := blk_pair HD13.out
    generalize mkEnd scs 1 = KE at *
    go_wp2_with fail
    refine (HELD.out _ RI13.out).mono ?_
    rintro e w14 ⟨rfl, b14⟩
    have hb14 := hb13.trans (b14.mono hb13.size)
    have TS14 := Lib.hid (TS13.out.below b14)
    have RI14 := Lib.hid (LfRd.below b14 _ _ RI13.out)
    have HC14 := Lib.hid ((b14.block w3.heap.size (by omega)).trans HC13.out)
    have HD14 := Lib.hid ((b14.block w6.heap.size (by omega)).trans HD13.out)
    have hz14 := b14.size
    clear b14 m0 m1 hb13
    go_wp2_with fail
    refine (CT.out _ (HR.out.below hb14)).mono ?_
    rintro e w15 ⟨g15, rfl, o15, b15⟩
    have hb15 := hb14.trans (b15.mono hb14.size)
    have TS15 := Lib.hid (TS14.out.below b15)
    have RI15 := Lib.hid (LfRd.below b15 _ _ RI14.out)
    have HC15 := Lib.hid ((b15.block w3.heap.size (by omega)).trans HC14.out)
    have HD15 := Lib.hid ((b15.block w6.heap.size (by omega)).trans HD14.out)
    have hz15 := b15.size
    clear b15 hb14
    go_wp2_with fail
    refine (CI.out _ _ (hK _ _ hG hb15) (Rd.of_own (fun _ => rfl) rfl o15) (CapOk.of_own o15)).mono ?_
    rintro e w16 ⟨vJ, fJ, rfl, tJ, b16⟩
    have hb16 := hb15.trans (b16.mono hb15.size)
    have TS16 := Lib.hid (TS15.out.below b16)
    have RI16 := Lib.hid (LfRd.below b16 _ _ RI15.out)
    have HC16 := Lib.hid ((b16.block w3.heap.size (by omega)).trans HC15.out)
    have HD16 := Lib.hid ((b16.block w6.heap.size (by omega)).trans HD15.out)
    have TJ := Lib.hid tJ
    have hz16 := b16.size
    obtain ⟨pJ, cJ, rfl, _⟩ := scps_at tJ.rd
    clear b16 tJ o15 hb15
    have hbZ : Below w16.heap.size w16 (w16.alloc (.cells #[.bool on, .slice pJ scs.length cJ] 26)) := (Below.refl _ _).alloc (Nat.le_refl _) _
    have hzZ : (w16.alloc (.cells #[.bool on, .slice pJ scs.length cJ] 26)).heap.size = w16.heap.size + 1 := by simp
    have HC17 := Lib.hid ((hbZ.block w3.heap.size (by omega)).trans HC16.out)
    have HD17 := Lib.hid ((hbZ.block w6.heap.size (by omega)).trans HD16.out)
    obtain ⟨k0, k1⟩ := blk_pair HC17.out
    have k0' : w16.cell? ⟨w3.heap.size, 0, none⟩ = some (.bool on) := (blk_pair HC16.out).1
    have k1' : w16.cell? ⟨w3.heap.size, 1, none⟩ = some (.slice pS scs.length cS) := (blk_pair HC16.out).2
    go_wp2_with fail
    generalize (w16.alloc (.cells #[.bool on, .slice pJ scs.length cJ] 26)) = Z17 at *
    have hb17 := hb16.trans (hbZ.mono hb16.size)
    refine (CE.out _ _ _ (TJ.out.below hbZ).rd (TS16.out.below hbZ).rd).mono ?_
    rintro e w18 ⟨rfl, b18⟩
    have hb18 := hb17.trans (b18.mono hb17.size)
    have RI18 := Lib.hid (LfRd.below b18 _ _ (LfRd.below hbZ _ _ RI16.out))
    have HD18 := Lib.hid ((b18.block w6.heap.size (by omega)).trans HD17.out)
    clear b18 k0 k1 k0' k1' hbZ hb17 hb16
    obtain ⟨m0, m1⟩ := blk_pair HD18.out
    go_wp2_with fail
    refine (HELD.out _ RI18.out).mono ?_
    rintro e w19 ⟨rfl, b19⟩
    have hb19 := hb18.trans (b19.mono hb18.size)
    clear b19 m0 m1 C1 CT CS CI CE HELD
    go_wp2
    go_ret
    exact ⟨rfl, hb19⟩
  · rw [tkR_no hok] at c1
    have C1 := Lib.hid c1
    clear c1
    go_enter Tryd.func5, Tryd.ntmps5
    go_wp2_with fail
    refine (C1.out _ HR.out).mono ?_
    rintro e w1 ⟨rfl, b1⟩
    go_wp2
    go_ret
    exact ⟨rfl, b1⟩

end Go.Proofs.YthihjelcakenpaaDoor
