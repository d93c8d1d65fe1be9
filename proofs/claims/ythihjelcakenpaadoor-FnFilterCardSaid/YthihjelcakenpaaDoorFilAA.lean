/-
  Chapter 6's draws: what the laws FnFilter and FnAdmits draw.
-/
import Derived.Test.YthihjelcakenpaaDoorFilZ
import Derived.Test.YthihjelcakenpaaDoorFilM
import Derived.Test.YthihjelcakenpaaDoorFilP
import Derived.Test.YthihjelcakenpaaDoorGa
import Derived.Test.YthihjelcakenpaaDoorSetF
namespace Go.Proofs.YthihjelcakenpaaDoor
open Go.RowKit

theorem scWord_len (i : Nat) : (scWords.getD i []).length ≤ 8 := by
  match i with
  | 0 => decide
  | 1 => decide
  | 2 => decide
  | 3 => decide
  | 4 => decide
  | n + 5 => simp [scWords]
theorem evWord_len (i : Nat) : (evWords.getD i []).length ≤ 5 := by
  match i with
  | 0 => decide
  | 1 => decide
  | 2 => decide
  | 3 => decide
  | n + 4 => simp [evWords]
theorem fTks_text {f : Flt} {n : Nat} (hn : 8 ≤ n) (h : ∀ s ∈ f.scopes, ∀ x ∈ s.names, x.length ≤ n) : ∀ t ∈ fTks f, t.text.length ≤ n := by
  intro t ht
  have he : ∀ ev k, ∀ t ∈ evTks ev k, t.text.length ≤ n := by
    intro ev k t ht
    obtain ⟨i, _, hi⟩ := List.mem_flatMap.1 ht
    unfold evTk at hi
    split at hi
    · rw [List.mem_singleton.1 hi]
      have := evWord_len i
      show (evWords.getD i []).length ≤ n
      omega
    · cases hi
  have hsc : ∀ s ∈ f.scopes, ∀ t ∈ scTks s, t.text.length ≤ n := by
    intro s hs t ht
    unfold scTks at ht
    rcases List.mem_cons.1 ht with rfl | ht
    · exact Nat.zero_le _
    rcases List.mem_cons.1 ht with rfl | ht
    · have := scWord_len s.kind.toNat
      show (scWords.getD s.kind.toNat []).length ≤ n
      omega
    rcases List.mem_append.1 ht with ht | ht
    · unfold nmTks at ht
      split at ht
      · rcases List.mem_cons.1 ht with rfl | ht
        · exact Nat.zero_le _
        rcases List.mem_append.1 ht with ht | ht
        · obtain ⟨x, hx, rfl⟩ := List.mem_map.1 ht
          exact h s hs x hx
        · rw [List.mem_singleton.1 ht]; exact Nat.zero_le _
      · cases ht
    rcases List.mem_cons.1 ht with rfl | ht
    · exact Nat.zero_le _
    rcases List.mem_append.1 ht with ht | ht
    · exact he _ _ t ht
    · rcases List.mem_cons.1 ht with rfl | ht
      · exact Nat.zero_le _
      · rw [List.mem_singleton.1 ht]; exact Nat.zero_le _
  unfold fTks at ht
  split at ht
  · split at ht
    · rcases List.mem_cons.1 ht with rfl | ht
      · show 3 ≤ n; omega
      · obtain ⟨s, hs, ht⟩ := List.mem_flatMap.1 ht
        exact hsc s hs t ht
    · rw [List.mem_singleton.1 ht]; show 4 ≤ n; omega
  · cases ht

/-- A filter that a law draws. -/
def FltMade (w : World) (e : Ending) (w' : World) : Prop :=
  ∃ (f : Flt) (vs : Value) (fp : List Nat), e = .returned (.agg #[.bool f.on, vs]) ∧ f.scopes.length ≤ 4 ∧ (∀ s ∈ f.scopes, ScB 3 s) ∧ Tree w' w.heap.size (scpsLf f.scopes) vs fp ∧ Below w.heap.size w w'

set_option maxHeartbeats 1600000 in
theorem DrawFilterTokens_any (v : Value) (code : List UInt8) (w : World) (hr : Rd1 bv w v code) (hl : code.length ≤ 1048576) :
    Calls Tryd.prog 7 #[v] w fun e w' => FltMade w e w' := by
  have HR := Lib.hid (hr.below (w' := w.alloc (.cells #[.bool false, .slice none 0 0] 26)) ((Below.refl _ _).alloc (Nat.le_refl _) _))
  have HB := Lib.hid (show Below w.heap.size w (w.alloc (.cells #[.bool false, .slice none 0 0] 26)) from (Below.refl _ _).alloc (Nat.le_refl _) _)
  have HX := Lib.hid (heap_alloc_new w (.cells #[.bool false, .slice none 0 0] 26))
  have HZ := Lib.hid (show (w.alloc (.cells #[.bool false, .slice none 0 0] 26)).heap.size = w.heap.size + 1 by simp)
  clear hr
  go_enter Tryd.func7, Tryd.ntmps7
  go_wp2_with fail
  refine (l1New_any v code _ HR.out hl).mono ?_
  rintro e w1 ⟨g, rfl, hg, hc1, hb1⟩
  have hz1 := hb1.size
  rw [HZ.out] at hg hb1 hz1
  go_wp2_with fail
  refine (l6Bent_any g code _ hc1).mono ?_
  rintro e w2 ⟨⟨on, scs⟩, vs, fp, rfl, hsl, hsb, htr, hc2, hg2⟩
  have hb2 := below_cur hb1 hg2 hz1 hg
  have hR := ((hb2.block w.heap.size (by omega))).trans HX.out
  have hbb : Below w.heap.size w w2 := HB.out.trans (hb2.mono (by omega))
  simp only at hsl hsb htr ⊢
  obtain ⟨psc, csc, rfl, _⟩ := scps_at htr.rd
  obtain ⟨r0, r1, f0, f1, s0, s1⟩ := blk_two6 hR
  have hne : ∀ k ∈ fp, k ≠ w.heap.size := fun k hk => by have := htr.low k hk; omega
  clear hc1 hb1 hc2 hg2 hb2 hR HR HB HX
  go_wp2
  exact bodyPost_ret (v := .agg #[.bool on, .slice psc scs.length csc]) (by simp [results, Tryd.results7, go_sem, s0, s1]) rfl
    ⟨⟨on, scs⟩, _, fp, rfl, hsl, hsb, ⟨LfIn.frame _ _ _ (fun k hk => (set_other (hne k hk)).trans (set_other (hne k hk))) htr.is, htr.nodup, fun k hk => by have := htr.low k hk; omega⟩, (hbb.setCell (Nat.le_refl _) _).setCell (Nat.le_refl _) _⟩

/-- Tokens that a law draws. -/
def TksMade (w : World) (e : Ending) (w' : World) : Prop := ∃ (v : Value) (l : List Tok), e = .returned v ∧ Rd 2 tokc w' v l ∧ CapOk v ∧ l.length ≤ 100 ∧ (∀ t ∈ l, t.text.length ≤ 60) ∧ Below w.heap.size w w'

theorem flat_set {l : List Tok} {k : Nat} {t : Tok} (h : l[k]? = some t) (y : List UInt8) : (l.flatMap tokc).set (k * 2 + 1) (sv y) = (l.set k ⟨t.kind, y⟩).flatMap tokc := by
  induction l generalizing k with
  | nil => simp at h
  | cons a l ih =>
    cases k with
    | zero =>
      simp only [List.getElem?_cons_zero, Option.some.injEq] at h
      subst h
      rfl
    | succ k =>
      simp only [List.getElem?_cons_succ] at h
      rw [List.flatMap_cons, List.set_cons_succ, List.flatMap_cons, ← ih h, List.set_append_right _ _ (by simp [tokc]; omega)]
      congr 1
      simp [tokc, show (k + 1) * 2 + 1 - 2 = k * 2 + 1 by omega]

theorem own_cap {W : World} {B c n m : Nat} {e : TypeId} {p : Option Addr} {xs : List Value} (h : W.ownsRow B e m (.slice p n c) n xs) : n ≤ c := by
  rcases h.2 with ⟨hv, h0⟩ | ⟨b, cap, cur, hv, _, _, hcap, _⟩
  · omega
  · injection hv with _ _ hc; omega
theorem own_take {W : World} {B c k m : Nat} {e : TypeId} {p : Option Addr} {α : Type} {enc : α → List Value} {L : List α} (hm : ∀ x, (enc x).length = m) (h : W.ownsRow B e m (.slice p L.length c) L.length (L.flatMap enc)) (hk : k ≤ L.length) : Rd m enc W (.slice p k c) (L.take k) := by
  rcases h.2 with ⟨hv, h0⟩ | ⟨b, cap, cur, hv, _, _, hcap, _⟩
  · injection hv with hp _ hc
    subst hp hc
    obtain rfl : L = [] := List.eq_nil_of_length_eq_zero h0
    obtain rfl : k = 0 := by simp at hk; exact hk
    exact ⟨none, 0, rfl, .inl rfl⟩
  · injection hv with hp _ hc
    subst hp hc
    exact (Rd.of_own hm rfl h).takeS hk c
theorem own_drop {W : World} {B c k m : Nat} {e : TypeId} {p : Option Addr} {α : Type} {enc : α → List Value} {L : List α} (hm : ∀ x, (enc x).length = m) (h : W.ownsRow B e m (.slice p L.length c) L.length (L.flatMap enc)) (_hk : k ≤ L.length) :
    Rd m enc W (.slice (if c = k then p else Option.map (fun x => x.add (k * m)) p) (L.length - k) (c - k)) (L.drop k) := by
  have hcap := own_cap h
  by_cases hc : c = k
  · rw [if_pos hc]
    exact ⟨p, c - k, by rw [List.length_drop], .inl (List.drop_of_length_le (by omega))⟩
  · rw [if_neg hc]
    rcases h.2 with ⟨hv, h0⟩ | ⟨b, cap, cur, hv, _, _, hcap, _⟩
    · injection hv with hp _ hcc
      subst hp hcc
      obtain rfl : L = [] := List.eq_nil_of_length_eq_zero h0
      exact ⟨none, 0 - k, by simp, .inl (by simp)⟩
    · injection hv with hp _ hcc
      subst hp hcc
      simp only [Option.map_some, Addr.add_lit]
      exact (Rd.of_own hm rfl h).dropS (k := k) (c - k)

set_option maxRecDepth 20000 in
set_option maxHeartbeats 6400000 in
theorem DrawReadFilter_any (v : Value) (code : List UInt8) (w : World) (hr : Rd1 bv w v code) (hl : code.length ≤ 1048576) :
    Calls Tryd.prog 10 #[v] w fun e w' => TksMade w e w' := by
  have HR := Lib.hid hr
  clear hr
  go_enter Tryd.func10, Tryd.ntmps10
  go_wp2_with fail
  refine (l1New_any v code _ HR.out hl).mono ?_
  rintro e w1 ⟨g, rfl, hg, hc1, hb1⟩
  go_wp2_with fail
  refine (l6Right_any g code _ hc1).mono ?_
  rintro e w2 ⟨f, vs, fp, rfl, hsl, hsb, htr, hc2, hg2⟩
  have hb2 := below_cur hb1 hg2 hb1.size hg
  have hlt2 := hc2.lt
  have htx := fTks_text (f := f) (n := 41) (by omega) (fun s hs => (hsb s hs).2.1)
  have hln := fTks_len f
  have CT := Lib.hid (specFilterTokens_any f vs w2 htr.rd (by omega) (fun s hs => ⟨by have := (hsb s hs).1; omega, fun x hx => by have := (hsb s hs).2.1 x hx; omega⟩))
  clear hc1 hb1 hg2 htr hsl hsb
  generalize fTks f = L at *
  go_wp2_with fail
  refine (CT.out).mono ?_
  rintro e w3 ⟨v3, rfl, ho3, b3⟩
  have hb3 := hb2.trans (b3.mono hb2.size)
  have hc3 := hc2.below b3
  clear CT hb2 b3 hc2
  have hwL : IntKind.i64.wrap ((L.length : Int) + 1) = (L.length : Int) + 1 := IntWalk.i64_in _ (by omega)
  have hform : ∃ p c, v3 = .slice p L.length c := own_sl ho3
  obtain ⟨p3, c3, rfl⟩ := hform
  go_wp2_with fail
  refine (l1Below_any g code _ (L.length + 1) (by omega) _ hc3 (by omega) (by omega)).mono ?_
  rintro e w4 ⟨k, rfl, hk, hc4, hg4⟩
  have hb4 := below_cur hb3 hg4 hb3.size hg
  have ho4 := own_draw ho3 hlt2 hg4
  clear hb3 hc3 hg4 ho3 hwL
  go_wp2_with fail
  refine (l1Below_any g code _ 6 (by omega) _ hc4 (by omega) (by omega)).mono ?_
  rintro e w5 ⟨y, rfl, hy, hc5, hg5⟩
  have hb5 := below_cur hb4 hg5 hb4.size hg
  have ho5 := own_draw ho4 hlt2 hg5
  clear hb4 hc4 hg5 ho4
  have HT := Lib.hid htx
  have hrd := Rd.of_own (enc := tokc) (fun _ => rfl) rfl ho5
  have hcd := Lib.hid (CapOk.of_own ho5)
  clear htx
  by_cases hy0 : y = 0
  · subst hy0
    have hkle : k ≤ L.length := by omega
    rcases ho5.2 with ⟨hv, h0⟩ | ⟨b, cap, cur, hv, _, _, hcap, _⟩
    · injection hv with hp _ hc
      subst hp hc
      obtain rfl : L = [] := List.eq_nil_of_length_eq_zero h0
      obtain rfl : k = 0 := by simp at hkle; exact hkle
      clear ho5
      go_wp2
      go_ret
      exact ⟨_, [], rfl, Rd.nil, by intro p n c h; injection h with _ h1 h2; omega, by simp, by simp, hb5⟩
    · injection hv with hp _ hc
      subst hp hc
      have hrd2 := fun c' => hrd.takeS hkle c'
      clear hrd ho5
      go_wp2
      go_ret
      exact ⟨_, L.take k, rfl, hrd2 _, by intro p n c h; injection h with _ h1 h2; omega, by rw [List.length_take]; omega, fun t ht => by have := HT.out t (List.mem_of_mem_take ht); omega, hb5⟩
  have hb0 : ((y : Int) == 0) = false := by simp; omega
  by_cases hy1 : y = 1
  · subst hy1
    have hd5 := hc5.drew
    have hod := ho5.drew
    have hbd : Below w.heap.size w w5.drew := hb5.drew
    clear hc5 ho5 hb5 hrd
    go_wp2
    refine ord_start [(1, true), (2, true), (3, true), (5, true), (9, true), (10, true), (11, true), (0, false), (4, false), (6, false), (7, false), (8, false), (12, false), (13, true)] (fun _ => True) (by kernel_rfl) (by kernel_rfl) rfl (by kernel_rfl) ?_
    intro ops' hops
    clear hops
    simp only [List.map_cons, List.map_nil, pickOp_zero, pickOp_succ]
    generalize w5.drew = W0 at *
    iterate 2 (refine ord_flo ?_ (fun _ _ _ h => h) rfl ?_ trivial ?_; rotate_left; focus (intro _ _; go_simp; rfl))
    have hkc := own_cap hod
    refine ord_flo (.slice p3 k c3) (fun _ _ _ h => h) rfl ?_ trivial ?_
    · intro W hS
      go_simp
      intro h
      omega
    iterate 3 (refine ord_flo ?_ (fun _ _ _ h => h) rfl ?_ trivial ?_; rotate_left; focus (intro _ _; go_simp; rfl))
    refine ord_flo (.slice (if c3 = k then p3 else Option.map (fun x => x.add (k * 2)) p3) (L.length - k) (c3 - k)) (fun _ _ _ h => h) rfl ?_ trivial ?_
    · intro W hS
      go_simp
      intro h
      omega
    have HTP := Lib.hid (own_top hod)
    obtain ⟨uD, huD⟩ : ∃ uD, Value.slice (if c3 = k then p3 else Option.map (fun x => x.add (k * 2)) p3) (L.length - k) (c3 - k) = uD := ⟨_, rfl⟩
    have HD := Lib.hid (fun (W : World) (h : W.ownsRow w2.heap.size 52 2 (.slice p3 L.length c3) L.length (L.flatMap tokc)) => own_drop (k := k) (enc := tokc) (fun _ => rfl) h (by omega))
    rw [huD] at HD ⊢
    clear huD
    have hltW := hd5.lt
    have hown0 : (W0.alloc (.cells #[] 52)).ownsRow W0.heap.size 52 2 (.slice (some ⟨W0.heap.size, 0, none⟩) 0 0) 0 [] := World.ownsRow_made W0 #[] 0 (Nat.le_refl _) (by unfold maxLen; omega) (by simp)
    have hbA : Below W0.heap.size W0 (W0.alloc (.cells #[] 52)) := (Below.refl _ _).alloc (Nat.le_refl _) _
    refine ord_ev rfl ?_
    go_simp
    refine ord_ev rfl ?_
    refine wp_appR Tryd.el_tok (enc := tokc) (fun _ => rfl) (by intro x u hu; simp [tokc] at hu; rcases hu with rfl | rfl <;> rfl) (.tmp 25) (.tmp 28) rfl W0 _ 0 [] rfl hown0 hbA hbA.size _ (L.take k) rfl (own_take (enc := tokc) (fun _ => rfl) (hod.alloc _) (by omega)) (by rw [List.length_take]; omega) (by rw [List.length_take]; omega) ?_
    intro v6 w6 ho6 hb6 hg6
    have hc6 := hd5.below hb6
    have hod6 := ownsRow_below hod hb6
    have hbw6 := hbd.trans (hb6.mono hbd.size)
    clear hown0 hbA hg6 hod hd5 hbd
    refine ⟨trivial, ?_⟩
    refine ord_ev rfl ?_
    go_simp
    refine (l3Bent_any g code _ hc6).mono ?_
    rintro e w7 ⟨t, rfl, htl, hc7, hg7⟩
    have hod7 := own_draw hod6 hlt2 hg7
    have ho7 := own_draw ho6 hltW hg7
    have hbw7 := below_cur hbw6 hg7 hbw6.size hg
    have hz7 := Nat.le_trans hb6.size hg7.size
    clear hc6 hc7 hg7 ho6 hod6 hbw6 hb6
    refine ord_ev rfl ?_
    go_simp
    refine ord_ev rfl ?_
    refine wp_app1 Tryd.el_tok (.tmp 29) (.tmp 32) rfl w7 w7 v6 (0 + (L.take k).length) _ rfl ho7 (Below.refl _ _) hz7 #[.int .i64 t.kind, sv t.text] (.inr rfl) 1 1 rfl rfl (by simp [Value.oneCell']) (by omega) (by rw [List.length_take]; omega) (by rw [List.length_take]; omega) ?_
    intro gn cap w8 ho8 hb8 hg8 _ _
    have hbw8 := hbw7.trans (hb8.mono (by have := hbw7.size; omega))
    have hod8 := own_old hod7 HTP.out ho7 (Nat.le_refl _) hg8
    have hz8 := Nat.le_trans hz7 hb8.size
    clear hb8 hg8 hod7 ho7 hbw7 hz7
    refine ⟨trivial, ?_⟩
    refine ord_ev rfl ?_
    refine wp_appR Tryd.el_tok (enc := tokc) (fun _ => rfl) (by intro x u hu; simp [tokc] at hu; rcases hu with rfl | rfl <;> rfl) (.tmp 33) (.tmp 36) rfl w8 _ _ _ rfl ho8 (Below.refl _ _) hz8 _ (L.drop k) rfl (HD.out _ hod8) (by rw [List.length_take, List.length_drop]; omega) (by rw [List.length_take, List.length_drop]; omega) ?_
    intro v9 w9 ho9 hb9 hg9
    have hbw9 := hbw8.trans (hb9.mono (by have := hbw8.size; omega))
    have hn9 : (L.take k ++ [t] ++ L.drop k).length = 0 + (L.take k).length + 1 + (L.drop k).length := by simp only [List.length_append, List.length_singleton]; omega
    have hc9 := Lib.hid (CapOk.of_own ho9)
    have hr9 : Rd 2 tokc w9 v9 (L.take k ++ [t] ++ L.drop k) := Rd.of_own (B := W0.heap.size) (e := 52) (fun _ => rfl) hn9 (by simpa [tokc] using ho9)
    clear ho8 hod8 hbw8 hb9 hg9 ho9
    refine ⟨trivial, ?_⟩
    iterate 1 (refine ord_flo ?_ (fun _ _ _ h => h) rfl ?_ trivial ?_; rotate_left; focus (intro _ _; go_simp; rfl))
    refine ord_done ?_
    go_simp
    go_wp2
    go_ret
    refine ⟨_, _, rfl, hr9, hc9.out, by simp only [List.length_append, List.length_singleton, List.length_take, List.length_drop]; omega, fun y hy => ?_, hbw9⟩
    rcases List.mem_append.1 hy with hy | hy
    · rcases List.mem_append.1 hy with hy | hy
      · have := HT.out y (List.mem_of_mem_take hy); omega
      · rw [List.mem_singleton.1 hy]; omega
    · have := HT.out y (List.mem_of_mem_drop hy); omega
  have hb1 : ((y : Int) == 1) = false := by simp; omega
  by_cases hy2 : y = 2
  · subst hy2
    by_cases hkl : k < L.length
    · have hkl2 : (k : Int) < (L.length : Int) := by omega
      obtain ⟨t, ht⟩ : ∃ t, L[k]? = some t := ⟨_, List.getElem?_eq_getElem hkl⟩
      rcases ho5.2 with ⟨hv, h0⟩ | ⟨b, cap, cur, hv, _, _, hcap, _⟩
      · exact absurd h0 (by omega)
      · injection hv with hp _ hc
        subst hp hc
        have hmem := List.mem_of_getElem? ht
        have htl := HT.out t hmem
        have hin := flat_at (m := 2) tokc L (fun _ => rfl) k t ht 1 (sv t.text) rfl
        have e1 : w5.cell? ⟨b, k * 2 + 1, none⟩ = some (sv t.text) := (ho5.cellAt (k * 2 + 1) (by omega)).trans hin
        have CU := Lib.hid (fun W => specUpper_any ⟨t.text.toArray⟩ W (by unfold maxLen; show t.text.toArray.size ≤ _; simp; omega))
        rw [show (ByteArray.mk t.text.toArray).data.toList = t.text from rfl] at CU
        have HTT := Lib.hid ht
        clear hrd hin ht
        go_wp2_with fail
        refine (CU.out _).mono ?_
        rintro e w6 ⟨rfl, b6⟩
        have ho6 := ownsRow_below ho5 b6
        have hb6 := hb5.trans (b6.mono hb5.size)
        obtain ⟨_, ⟨uu, hu1⟩, _, hf1⟩ := own_cells2 ho6 hkl
        have hst := (ho6.stored (k * 2 + 1) (sv (upper t.text))).1
        rw [flat_set HTT.out] at hst
        have hc7 := Lib.hid (CapOk.of_own hst)
        have hr7 := Rd.of_own (m := 2) (enc := tokc) (fun _ => rfl) (by rw [List.length_set]) hst
        have hzw : w.heap.size ≤ b := by have := (ho5.lt b rfl).1; omega
        have hb7 := hb6.setCell (p := ⟨b, k * 2 + 1, none⟩) hzw (sv (upper t.text))
        clear ho5 ho6 e1 b6 CU hst hc5 hb6 hb5
        go_wp2
        go_ret
        refine ⟨_, _, rfl, hr7, hc7.out, by rw [List.length_set]; omega, fun y hy => ?_, hb7⟩
        rcases List.mem_or_eq_of_mem_set hy with hy | hy
        · have := HT.out y hy; omega
        · rw [hy]; show (upper t.text).length ≤ 60; unfold upper; rw [List.length_map]; omega
    · have hkl2 : ¬ (k : Int) < (L.length : Int) := by omega
      clear ho5
      go_wp2
      go_ret
      exact ⟨_, L, rfl, hrd, hcd.out, by omega, fun t ht => by have := HT.out t ht; omega, hb5⟩
  have hb2 : ((y : Int) == 2) = false := by simp; omega
  clear ho5
  go_wp2
  go_ret
  exact ⟨_, L, rfl, hrd, hcd.out, by omega, fun t ht => by have := HT.out t ht; omega, hb5⟩

end Go.Proofs.YthihjelcakenpaaDoor
