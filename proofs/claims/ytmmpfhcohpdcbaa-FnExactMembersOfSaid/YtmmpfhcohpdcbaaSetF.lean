/-
  Chapter 4: the laws FnMembers and FnMembersOf, out of what the program's functions answer.
-/
import Derived.Test.YtmmpfhcohpdcbaaSetD
import Derived.Test.YtmmpfhcohpdcbaaSetE
import Derived.Test.YtmmpfhcohpdcbaaOrd
import Derived.IntWalk
namespace Go.Proofs.Ytmmpfhcohpdcbaa
open Go.RowKit

def ImplMembers (G : World → Prop) : Prop := ∀ (v : Value) (l : List Spn) (n : Int) (W : World), G W → Rd 2 spnc W v l → l.length ≤ 1048576 → (∀ t ∈ l, rgS t) → in64 n →
  Calls Try.prog 14 #[v, .int .i64 n] W fun e w' => IntsPost (membersL l n) W e w'

def ImplMembersOf (G : World → Prop) : Prop := ∀ (v u : Value) (l : List Spn) (ids : List Int) (W : World), G W → Rd 2 spnc W v l → Rd1 iv W u ids → l.length ≤ 1048576 → ids.length ≤ 1048576 → (∀ t ∈ l, rgS t) → (∀ x ∈ ids, in64 x) →
  Calls Try.prog 21 #[v, u] W fun e w' => IntsPost (membersOfL l ids) W e w'

theorem upTo_sorted (k : Nat) : (upTo k).Pairwise (· < ·) := by
  induction k with
  | zero => exact List.Pairwise.nil
  | succ k ih =>
    rw [upTo_succ, List.pairwise_append]
    refine ⟨ih, List.pairwise_singleton _ _, fun a ha b hb => ?_⟩
    have := (upTo_mem ha).2
    rw [List.mem_singleton.1 hb]
    omega
theorem membersL_sorted (l : List Spn) (n : Int) : (membersL l n).Pairwise (· < ·) := (upTo_sorted _).filter _
theorem membersL_next {l : List Spn} {n x y : Int} {j : Nat} (h1 : (membersL l n)[j]? = some x) (h2 : (membersL l n)[j + 1]? = some y) : x < y := by
  obtain ⟨a1, a2⟩ := List.getElem?_eq_some_iff.1 h1
  obtain ⟨b1, b2⟩ := List.getElem?_eq_some_iff.1 h2
  have := List.pairwise_iff_getElem.1 (membersL_sorted l n) j (j + 1) a1 b1 (by omega)
  rw [a2, b2] at this
  exact this
theorem membersL_len (l : List Spn) (n : Int) : (membersL l n).length ≤ 999 := by
  have h1 := filter_upTo_le (fun x => inB l x (minI n 999)) (minI n 999).toNat
  have h2 : (minI n 999).toNat ≤ 999 := by unfold minI; split <;> omega
  exact Nat.le_trans h1 h2
theorem inB_parts (l : List Spn) (k : Nat) (x m : Int) : inB l x m = (inB (l.take k) x m || inB (l.drop k) x m) := by
  have h : (l.take k ++ l.drop k).any (inSpn x m) = ((l.take k).any (inSpn x m) || (l.drop k).any (inSpn x m)) := List.any_append
  rw [List.take_append_drop] at h
  exact h
theorem membersL_in {l : List Spn} {n x : Int} (k : Nat) (h : x ∈ membersL l n) : x ∈ membersL (l.take k) n ∨ x ∈ membersL (l.drop k) n := by
  unfold membersL at *
  rw [List.mem_filter] at h
  have h2 := h.2
  rw [inB_parts l k, Bool.or_eq_true] at h2
  rcases h2 with h2 | h2
  · exact .inl (List.mem_filter.2 ⟨h.1, h2⟩)
  · exact .inr (List.mem_filter.2 ⟨h.1, h2⟩)
theorem filter_len_mono {α : Type} {p q : α → Bool} (h : ∀ x, p x = true → q x = true) : ∀ (l : List α), (l.filter p).length ≤ (l.filter q).length
  | [] => by simp
  | a :: l => by
    have ih := filter_len_mono h l
    cases hp : p a with
    | true => rw [List.filter_cons_of_pos hp, List.filter_cons_of_pos (h a hp)]; simp; omega
    | false =>
      rw [List.filter_cons_of_neg (by rw [hp]; simp)]
      cases hq : q a with
      | true => rw [List.filter_cons_of_pos hq]; simp; omega
      | false => rw [List.filter_cons_of_neg (by rw [hq]; simp)]; exact ih
theorem membersL_take_le (l : List Spn) (n : Int) (k : Nat) : (membersL (l.take k) n).length ≤ (membersL l n).length :=
  filter_len_mono (fun x hx => by rw [inB_parts l k, hx]; rfl) _
theorem membersL_drop_le (l : List Spn) (n : Int) (k : Nat) : (membersL (l.drop k) n).length ≤ (membersL l n).length :=
  filter_len_mono (fun x hx => by rw [inB_parts l k, hx]; simp) _
theorem count_pos_sum {a b : List Int} {x : Int} (h : x ∈ a ∨ x ∈ b) : 0 < a.count x + b.count x := by
  rcases h with h | h
  · have := List.count_pos_iff.2 h; omega
  · have := List.count_pos_iff.2 h; omega

theorem Rd.takeS {α : Type} {m : Nat} {enc : α → List Value} {w : World} {b off n c k : Nat} {l : List α} (h : Rd m enc w (.slice (some ⟨b, off, none⟩) n c) l) (hk : k ≤ l.length) (c' : Nat) : Rd m enc w (.slice (some ⟨b, off, none⟩) k c') (l.take k) := by
  obtain ⟨p, cap, hv, hc⟩ := h.ex
  injection hv with hp _ _
  subst hp
  refine ⟨_, c', by rw [List.length_take, Nat.min_eq_left hk], ?_⟩
  rcases hc with rfl | ⟨b1, o1, he, hlt, hc⟩
  · exact .inl (by simp)
  · injection he with he
    injection he with e1 e2
    subst e1
    subst e2
    refine .inr ⟨_, _, rfl, hlt, fun i x hx j u hu => hc i x ?_ j u hu⟩
    rw [List.getElem?_take] at hx
    split at hx
    · exact hx
    · cases hx
theorem Rd.dropS {α : Type} {m : Nat} {enc : α → List Value} {w : World} {b off n c k : Nat} {l : List α} (h : Rd m enc w (.slice (some ⟨b, off, none⟩) n c) l) (c' : Nat) : Rd m enc w (.slice (some ⟨b, off + k * m, none⟩) (l.length - k) c') (l.drop k) := by
  obtain ⟨p, cap, hv, hc⟩ := h.ex
  injection hv with hp _ _
  subst hp
  refine ⟨_, c', by rw [List.length_drop], ?_⟩
  rcases hc with rfl | ⟨b1, o1, he, hlt, hc⟩
  · exact .inl (by simp)
  · injection he with he
    injection he with e1 e2
    subst e1
    subst e2
    refine .inr ⟨_, _, rfl, hlt, fun i x hx j u hu => ?_⟩
    rw [List.getElem?_drop] at hx
    have := hc (k + i) x hx j u hu
    rw [show off + k * m + i * m + j = off + (k + i) * m + j by rw [Nat.add_mul]; omega]
    exact this

/-! ### FnMembersOf -/

theorem foldl_upTo (k : Nat) : (upTo (k + 1)).foldl maxI 1 = (k : Int) + 1 := by
  induction k with
  | zero => rfl
  | succ k ih =>
    rw [upTo_succ, foldl_snoc, ih]
    unfold maxI
    split <;> omega
theorem upTo_head (k : Nat) : ∃ r, upTo (k + 1) = 1 :: r := by
  refine ⟨(List.range k).map fun (i : Nat) => ((i + 1 : Nat) : Int) + 1, ?_⟩
  unfold upTo
  rw [List.range_succ_eq_map, List.map_cons, List.map_map]
  rfl
theorem lastId_upTo (k : Nat) : lastId (upTo (k + 1)) = (k : Int) + 1 := by
  have h := foldl_upTo k
  obtain ⟨r, hr⟩ := upTo_head k
  rw [hr] at h ⊢
  exact h
theorem membersOf_upTo (l : List Spn) (k : Nat) (hk : k + 1 ≤ 50) : membersOfL l (upTo (k + 1)) = membersL l ((k : Int) + 1) := by
  unfold membersOfL membersL
  rw [lastId_upTo, show minI ((k : Int) + 1) 999 = (k : Int) + 1 by unfold minI; rw [if_pos (by omega)], show ((k : Int) + 1).toNat = k + 1 by omega]
theorem upTo_len (k : Nat) : (upTo k).length = k := by simp [upTo]
theorem upTo_in64 {k : Nat} (hk : k ≤ 1000) : ∀ x ∈ upTo k, in64 x := fun x hx => by have := upTo_mem hx; exact ⟨by omega, by omega⟩

set_option maxHeartbeats 3200000 in
theorem FnMembersOf_of {G : World → Prop} (hK : Keeps G) (IM : ImplMembers G) (IO : ImplMembersOf G) (v : Value) (code : List UInt8) (w : World) (hG : G w) (hr : Rd1 bv w v code) :
    Calls Try.prog 7 #[v] w fun e w' => e = .returned (.bool true) ∧ Below w.heap.size w w' := by
  have HR := Lib.hid hr
  have HB := Lib.hid (big_any v code w hr)
  have HIM := Lib.hid IM
  have HIO := Lib.hid IO
  clear hr IM IO
  by_cases hbig : code.length ≤ 1048576
  · have hq : ¬ (1048576 : Int) < (code.length : Int) := by omega
    go_enter Try.func7, Try.ntmps7
    go_wp2_with fail
    refine (HB.out).mono ?_
    rintro e w' ⟨rfl, rfl⟩
    go_wp2_with fail
    refine (DrawMembers_any v code _ HR.out hbig).mono ?_
    rintro e w1 ⟨v1, l, x, rfl, hl6, htl, hx, ho1, b1⟩
    have hrd1 := Lib.hid (Rd.of_own (enc := spnc) (fun _ => rfl) rfl ho1)
    have hG1 := hK _ _ hG b1
    have HT := Lib.hid htl
    clear HR HB ho1 htl
    by_cases hr1 : x < 1 ∨ ¬ x < 1 ∧ 50 < x
    · have C1 := Lib.hid (HIO.out v1 (.slice none 0 0) l [] w1 hG1 hrd1.out Rd1.nil (by omega) (by simp) HT.out (by simp))
      clear HIM HIO
      rcases hr1 with h1 | ⟨h1, h2⟩
      all_goals
        go_wp2_with fail
        refine (C1.out).mono ?_
        rintro e w2 ⟨v2, rfl, o2, b2⟩
        obtain ⟨p2, c2, rfl⟩ := own_sl o2
        have hb2 := b1.trans (b2.mono b1.size)
        clear o2 C1
        go_wp2
        go_ret
        exact ⟨rfl, hb2⟩
    · have h1 : ¬ x < 1 := by omega
      have h2 : ¬ 50 < x := by omega
      obtain ⟨N, rfl⟩ : ∃ N : Nat, x = (N : Int) + 1 := ⟨(x - 1).toNat, by omega⟩
      have hN : N + 1 ≤ 50 := by omega
      have hoA : (w1.alloc (.cells #[] 3)).ownsRow w.heap.size 3 1 (.slice (some ⟨w1.heap.size, 0, none⟩) 0 0) 0 ((upTo 0).map iv) := World.ownsRow_made w1 #[] 0 b1.size (by unfold maxLen; omega) (by simp)
      have hbA : Below w1.heap.size w1 (w1.alloc (.cells #[] 3)) := (Below.refl _ _).alloc (Nat.le_refl _) _
      have HOA := Lib.hid hoA
      have HBA := Lib.hid hbA
      have hz1 := b1.size
      clear hoA hbA hr1
      go_wp2
      go_loopw [5, 6] (fun v i wr => ∃ k : Nat, k ≤ N + 1 ∧ i = .int .i64 ((k : Int) + 1) ∧ wr.ownsRow w1.heap.size 3 1 v k ((upTo k).map iv) ∧ Below w1.heap.size w1 wr) (fun _ i _ => N + 2 - (intOf i).toNat)
      case atStart => exact ⟨0, by omega, rfl, World.ownsRow_made w1 #[] 0 (Nat.le_refl _) (by unfold maxLen; omega) (by simp), HBA.out⟩
      case round =>
        obtain ⟨k, hk, rfl, hown, hbr⟩ := hrel
        have hbr0 := hbr.size
        clear HOA HBA
        by_cases hlt : k < N + 1
        · have hle : (k : Int) + 1 ≤ (N : Int) + 1 := by omega
          go_wp2_with (at_builtin; refine wpList_app1 Try.el_int rfl (.tmp 30) (.tmp 32) rfl w1 wr u5 k _ rfl hown hbr hbr0 #[.int .i64 ((k : Int) + 1)] (.inr rfl) 1 1 rfl rfl (by simp [Value.oneCell']) (by omega) (by omega) (by omega) ?_)
          intro g cap w2 hown2 hb2 _ _ _
          clear hown hbr hbr0
          go_wp2
          go_roundw
          case rel => exact ⟨k + 1, by omega, by go_num, by rw [upTo_succ, List.map_append]; exact hown2, hb2⟩
          case measure => simp [intOf]; omega
        · obtain rfl : k = N + 1 := by omega
          have hle : ¬ ((N + 1 : Nat) : Int) + 1 ≤ (N : Int) + 1 := by omega
          have hru : Rd1 iv wr u5 (upTo (N + 1)) := by
            have := Rd1.of_own (enc := iv) (l := upTo (N + 1)) hown
            exact this
          have hGr := hK _ _ hG1 hbr
          have C1 := Lib.hid (HIO.out v1 u5 l (upTo (N + 1)) wr hGr (hrd1.out.below hbr) hru (by omega) (by rw [upTo_len]; omega) HT.out (upTo_in64 (by omega)))
          rw [membersOf_upTo l N hN] at C1
          have hln := membersL_len l ((N : Int) + 1)
          have C2 := Lib.hid (fun W (hg : G W) (h : Rd 2 spnc W v1 l) => HIM.out v1 l ((N : Int) + 1) W hg h (by omega) HT.out hx)
          have C3 := Lib.hid (fun W (h : Rd 2 spnc W v1 l) => specMembers_any v1 l ((N : Int) + 1) W h (by omega))
          have hrr := hrd1.out.below hbr
          have hwr := b1.trans (hbr.mono hz1)
          clear hown hru HIM HIO hrd1 HT b1 hbr hG hG1
          generalize membersL l ((N : Int) + 1) = ms at *
          have HG := Lib.hid hGr
          have HRR := Lib.hid hrr
          clear hGr hrr
          go_wp2_with fail
          refine (C1.out).mono ?_
          rintro e w2 ⟨v2, rfl, o2, b2⟩
          have r2 := Lib.hid (HRR.out.below b2)
          have g2 := Lib.hid (hK _ _ HG.out b2)
          have hb2 := hwr.trans (b2.mono hwr.size)
          clear HRR HG b2 hwr C1
          go_wp2_with fail
          refine (C2.out _ g2.out r2.out).mono ?_
          rintro e w3 ⟨v3, rfl, o3, b3⟩
          have r3 := Lib.hid (r2.out.below b3)
          have g3 := Lib.hid (hK _ _ g2.out b3)
          have hb3 := hb2.trans (b3.mono hb2.size)
          have E3 := Lib.hid (sameInts_same v2 v3 ms w3 (Rd1.of_own (ownsRow_below o2 b3)) (Rd1.of_own o3) (by omega))
          clear r2 g2 b3 hb2 o2 o3
          go_wp2_with fail
          refine (E3.out).mono ?_
          rintro e w4 ⟨rfl, b4⟩
          have r4 := Lib.hid (r3.out.below b4)
          have g4 := Lib.hid (hK _ _ g3.out b4)
          have hb4 := hb3.trans (b4.mono hb3.size)
          clear r3 g3 b4 hb3 E3
          go_wp2_with fail
          refine (C2.out _ g4.out r4.out).mono ?_
          rintro e w5 ⟨v5, rfl, o5, b5⟩
          have r5 := Lib.hid (r4.out.below b5)
          have hb5 := hb4.trans (b5.mono hb4.size)
          clear r4 g4 b5 hb4 C2
          go_wp2_with fail
          refine (C3.out _ r5.out).mono ?_
          rintro e w6 ⟨v6, rfl, o6, b6⟩
          have hb6 := hb5.trans (b6.mono hb5.size)
          have E6 := Lib.hid (sameInts_same v5 v6 ms w6 (Rd1.of_own (ownsRow_below o5 b6)) (Rd1.of_own o6) (by omega))
          clear r5 b6 hb5 o5 o6 C3
          go_wp2_with fail
          refine (E6.out).mono ?_
          rintro e w7 ⟨rfl, b7⟩
          have hb7 := hb6.trans (b7.mono hb6.size)
          clear b7 hb6 E6
          go_wp2
          go_ret
          exact ⟨rfl, hb7⟩
  · have hq : (1048576 : Int) < (code.length : Int) := by omega
    go_enter Try.func7, Try.ntmps7
    go_wp2_with fail
    refine (HB.out).mono ?_
    rintro e w' ⟨rfl, rfl⟩
    go_wp2
    go_ret
    exact ⟨rfl, Below.refl _ _⟩

/-! ### FnMembers -/

set_option maxHeartbeats 6400000 in
theorem FnMembers_of {G : World → Prop} (hK : Keeps G) (IM : ImplMembers G) (v : Value) (code : List UInt8) (w : World) (hG : G w) (hr : Rd1 bv w v code) :
    Calls Try.prog 6 #[v] w fun e w' => e = .returned (.bool true) ∧ Below w.heap.size w w' := by
  have HR := Lib.hid hr
  have HB := Lib.hid (big_any v code w hr)
  have HIM := Lib.hid IM
  clear hr IM
  by_cases hbig : code.length ≤ 1048576
  · have hq : ¬ (1048576 : Int) < (code.length : Int) := by omega
    go_enter Try.func6, Try.ntmps6
    go_wp2_with fail
    refine (HB.out).mono ?_
    rintro e w' ⟨rfl, rfl⟩
    go_wp2_with fail
    refine (DrawMembers_any v code _ HR.out hbig).mono ?_
    rintro e w1 ⟨v1, l, x, rfl, hl6, htl, hx, ho1, b1⟩
    have hrd1 := Lib.hid (Rd.of_own (enc := spnc) (fun _ => rfl) rfl ho1)
    have hG1 := Lib.hid (hK _ _ hG b1)
    have HT := Lib.hid htl
    have CM := Lib.hid (fun (v : Value) (l' : List Spn) W (hg : G W) (h : Rd 2 spnc W v l') (h6 : l'.length ≤ 6) (hm : ∀ t ∈ l', t ∈ l) => HIM.out v l' x W hg h (by omega) (fun t ht => HT.out t (hm t ht)) hx)
    have CS := Lib.hid (fun W (h : Rd 2 spnc W v1 l) => specMembers_any v1 l x W h (by omega))
    have HR1 := Lib.hid (HR.out.below b1)
    have hform : (v1 = .slice none 0 0 ∧ l = []) ∨ ∃ g c, v1 = .slice (some ⟨g, 0, none⟩) l.length c ∧ l.length ≤ c := by
      rcases ho1.2 with ⟨hv, h0⟩ | ⟨g, cap, cur, hv, _, _, hc, _⟩
      · exact .inl ⟨hv, List.eq_nil_of_length_eq_zero h0⟩
      · exact .inr ⟨g, cap, hv, hc⟩
    have HF := Lib.hid hform
    clear HR HB ho1 htl hform HIM
    go_wp2_with fail
    refine (CM.out v1 l _ hG1.out hrd1.out hl6 (fun _ h => h)).mono ?_
    rintro e w2 ⟨v2, rfl, o2, b2⟩
    have r2 := Lib.hid (hrd1.out.below b2)
    have g2 := Lib.hid (hK _ _ hG1.out b2)
    have c2 := Lib.hid (HR1.out.below b2)
    have hb2 := b1.trans (b2.mono b1.size)
    clear hrd1 hG1 HR1 b1 b2
    go_wp2_with fail
    refine (CS.out _ r2.out).mono ?_
    rintro e w3 ⟨v3, rfl, o3, b3⟩
    have r3 := Lib.hid (r2.out.below b3)
    have g3 := Lib.hid (hK _ _ g2.out b3)
    have c3 := Lib.hid (c2.out.below b3)
    have hb3 := hb2.trans (b3.mono hb2.size)
    have o2' := ownsRow_below o2 b3
    have hln := membersL_len l x
    have E3 := Lib.hid (sameInts_same v2 v3 (membersL l x) w3 (Rd1.of_own o2') (Rd1.of_own o3) (by omega))
    clear r2 g2 c2 b3 hb2 o3 o2 CS
    go_wp2_with fail
    refine (E3.out).mono ?_
    rintro e w4 ⟨rfl, b4⟩
    have r4 := Lib.hid (r3.out.below b4)
    have g4 := Lib.hid (hK _ _ g3.out b4)
    have c4 := Lib.hid (c3.out.below b4)
    have hb4 := hb3.trans (b4.mono hb3.size)
    have o4 := Lib.hid (ownsRow_below o2' b4)
    clear r3 g3 c3 b4 hb3 o2' E3
    go_wp2_with fail
    refine (at0_two v code w4 c4.out hbig).mono ?_
    rintro e w4' ⟨⟨n, hn, rfl⟩, rfl⟩
    obtain ⟨kk, hkk⟩ : ∃ kk, n % (l.length + 1) = kk := ⟨_, rfl⟩
    have hkl : kk ≤ l.length := by have := Nat.mod_lt n (show 0 < l.length + 1 by omega); omega
    have hmod : ((n : Int)).tmod ((l.length : Int) + 1) = (kk : Int) := by
      rw [Int.tmod_eq_emod_of_nonneg (by omega), ← hkk]
      exact (Int.natCast_emod n (l.length + 1)).symm
    have hne : (((l.length : Int) + 1) == 0) = false := by simp; omega
    have hm9 := membersL_take_le l x kk
    have hm10 := membersL_drop_le l x kk
    have HA := Lib.hid (fun y (h : y ∈ membersL l x) => count_pos_sum (membersL_in kk h))
    have HNX := Lib.hid (fun j y z (h1 : (membersL l x)[j]? = some y) (h2 : (membersL l x)[j + 1]? = some z) => membersL_next h1 h2)
    clear c4 hkk
    have key : ∀ (u1 u2 : Value), Rd 2 spnc w4 u1 (l.take kk) → Rd 2 spnc w4 u2 (l.drop kk) → True := fun _ _ _ _ => trivial
    clear key
    rcases HF.out with ⟨hv1, hl0⟩ | ⟨g0, cap0, hv1, hcap⟩
    · subst hv1
      subst hl0
      have hk0 : kk = 0 := by rw [List.length_nil] at hkl; omega
      subst hk0
      have hM : membersL [] x = [] := by unfold membersL inB; simp
      have hmod0 : ((n : Int)).tmod 1 = 0 := by simp
      rw [hM] at o4
      obtain ⟨p2, q2, rfl⟩ := own_sl o4.out
      have R5 := Lib.hid (r4.out)
      clear r4 HF HA HNX hm9 hm10 hmod o4
      go_wp2_with fail
      refine (CM.out _ [] _ g4.out R5.out (by simp) (fun t h => h)).mono ?_
      rintro e w5 ⟨v5, rfl, o5, b5⟩
      have g5 := Lib.hid (hK _ _ g4.out b5)
      have R6 := Lib.hid (R5.out.below b5)
      have hb5 := hb4.trans (b5.mono hb4.size)
      clear b5 hb4 g4 R5
      go_wp2_with fail
      refine (CM.out _ [] _ g5.out R6.out (by simp) (fun t h => h)).mono ?_
      rintro e w6 ⟨v6, rfl, o6, b6⟩
      have hb6 := hb5.trans (b6.mono hb5.size)
      rw [hM] at o5 o6
      obtain ⟨p5, q5, rfl⟩ := own_sl o5
      obtain ⟨p6, q6, rfl⟩ := own_sl o6
      clear b6 hb5 g5 R6 CM o5 o6
      go_wp2
      go_loopw [9] (fun i wr => i = .int .i64 0 ∧ Below w.heap.size w wr) (fun _ _ => 0)
      case atStart => exact ⟨rfl, hb6⟩
      case round =>
        obtain ⟨rfl, hbr⟩ := hrel
        go_wp2
        go_ret
        exact ⟨rfl, hbr⟩
    · subst hv1
      have R5 := Lib.hid (r4.out.takeS hkl cap0)
      have R6 := Lib.hid (r4.out.dropS (k := kk) (cap0 - kk))
      rw [Nat.zero_add] at R6
      have hz0 : kk = cap0 → Rd 2 spnc w4 (.slice (some ⟨g0, 0, none⟩) (l.length - kk) 0) (l.drop kk) := fun e => ⟨_, 0, by rw [List.length_drop], .inl (List.drop_of_length_le (by omega))⟩
      have R6b := Lib.hid hz0
      clear r4 HF hz0
      have hkc : kk ≤ cap0 := by omega
      go_wp2_with fail
      refine (CM.out _ (l.take kk) _ g4.out R5.out (by rw [List.length_take]; omega) (fun t h => List.mem_of_mem_take h)).mono ?_
      rintro e w5 ⟨v5, rfl, o5, b5⟩
      have g5 := Lib.hid (hK _ _ g4.out b5)
      have R7 := Lib.hid (R6.out.below b5)
      have R7b := Lib.hid (fun e => (R6b.out e).below b5)
      have o4' := Lib.hid (ownsRow_below o4.out b5)
      have hb5 := hb4.trans (b5.mono hb4.size)
      clear b5 hb4 g4 R5 R6 R6b o4
      go_wp2_with fail
      refine (CM.out _ (l.drop kk) _ g5.out (R7b.out (by omega)) (by rw [List.length_drop]; omega) (fun t h => List.mem_of_mem_drop h)).mono ?_
      rotate_left
      refine (CM.out _ (l.drop kk) _ g5.out R7.out (by rw [List.length_drop]; omega) (fun t h => List.mem_of_mem_drop h)).mono ?_
      all_goals
        rintro e w6 ⟨v6, rfl, o6, b6⟩
        have o2w := ownsRow_below o4'.out b6
        have o5w := ownsRow_below o5 b6
        have hb6 := hb5.trans (b6.mono hb5.size)
        have A2 := Lib.hid (Rd1.of_own (enc := iv) o2w)
        have A5 := Lib.hid (Rd1.of_own (enc := iv) o5w)
        have A6 := Lib.hid (Rd1.of_own (enc := iv) o6)
        obtain ⟨p2, q2, rfl⟩ := own_sl o2w
        obtain ⟨p5, q5, rfl⟩ := own_sl o5w
        obtain ⟨p6, q6, rfl⟩ := own_sl o6
        clear b6 hb5 g5 R7 R7b CM o5 o6 o4' o2w o5w hmod hne hkl hkc hcap
        generalize membersL (l.take kk) x = La at *
        generalize membersL (l.drop kk) x = Lb at *
        generalize membersL l x = M at *
        have hz6 := hb6.size
        go_wp2
        go_loopw [9] (fun i wr => ∃ k : Nat, k ≤ M.length ∧ i = .int .i64 (k : Int) ∧ Below w6.heap.size w6 wr) (fun i _ => M.length - (intOf i).toNat)
        case atStart => exact ⟨0, by omega, rfl, Below.refl _ _⟩
        case round =>
          obtain ⟨k, hk, rfl, hbr⟩ := hrel
          by_cases hlt : k < M.length
          · obtain ⟨P2, Q2, hv2, hc2⟩ := A2.out.ex
            injection hv2 with e1 _ e3
            subst e1
            subst e3
            obtain ⟨gb, o, rfl, hb1, hc1⟩ := hc2.resolve_left (by intro h; rw [h] at hlt; simp at hlt)
            obtain ⟨y, hy⟩ : ∃ y, M[k]? = some y := ⟨_, List.getElem?_eq_getElem hlt⟩
            have f1 : wr.drew.cell? ⟨gb, o + k, none⟩ = some (iv y) := (hbr.cell (p := ⟨gb, o + k, none⟩) hb1).trans (hc1 k y hy)
            have D5 := Lib.hid (times_any _ La y wr.drew (A5.out.below hbr.drew) (by omega))
            have D6 := Lib.hid (times_any _ Lb y wr.drew (A6.out.below hbr.drew) (by omega))
            have hpos := HA.out y (List.mem_of_getElem? hy)
            have hca : La.count y ≤ 999 := Nat.le_trans List.count_le_length (by omega)
            have hcb : Lb.count y ≤ 999 := Nat.le_trans List.count_le_length (by omega)
            generalize La.count y = ca at *
            generalize Lb.count y = cb at *
            have hz : ((ca : Int) + (cb : Int) == 0) = false := by simp; omega
            have hwr : IntKind.i64.wrap ((ca : Int) + (cb : Int)) = (ca : Int) + (cb : Int) := IntWalk.i64_in _ (by omega)
            cases k with
            | zero =>
              rw [Nat.add_zero] at f1
              clear hc1 hc2 HNX hy
              go_wp2
              refine ord_start ((0, true) :: (1, true) :: (2, true) :: (3, true) :: (4, true) :: (5, true) :: (6, true) :: (7, true) :: (8, true) :: (9, true) :: (10, true) :: (11, true) :: (12, true) :: (13, true) :: (14, true) :: (15, true) :: (16, true) :: (17, true) :: (18, true) :: (19, true) :: (21, true) :: (22, true) :: (23, true) :: (24, true) :: (25, true) :: (20, false) :: (26, false) :: (27, true) :: (28, true) :: (29, true) :: []) (fun W => W.cell? ⟨gb, o, none⟩ = some (iv y)) (by kernel_rfl) (by kernel_rfl) (by kernel_rfl) (by kernel_rfl) ?_
              intro ops' hops
              simp only [List.map_cons, List.map_nil, pickOp_zero, pickOp_succ]
              iterate 3 (refine ord_flo ?_ (fun _ _ _ h => h) rfl ?_ f1 ?_; rotate_left; focus (intro W hS; obtain s1 := hS; go_simp; rfl))
              iterate 10 (refine ord_not (fun _ _ _ h => h) (by rw [hops.out]; kernel_rfl) f1 ?_)
              iterate 2 (refine ord_flo ?_ (fun _ _ _ h => h) rfl ?_ f1 ?_; rotate_left; focus (intro W hS; obtain s1 := hS; go_simp; rfl))
              iterate 10 (refine ord_flo ?_ (fun _ _ _ h => h) (by rw [hops.out]; kernel_rfl) ?_ f1 ?_; rotate_left; focus (intro W hS; obtain s1 := hS; go_simp; rfl))
              refine ord_ev (by rw [hops.out]; kernel_rfl) ?_
              go_simp
              refine (D5.out).mono ?_
              rintro e w7 ⟨rfl, rfl⟩
              refine ⟨f1, ?_⟩
              refine ord_ev (by rw [hops.out]; kernel_rfl) ?_
              go_simp
              refine (D6.out).mono ?_
              rintro e w7 ⟨rfl, rfl⟩
              refine ⟨f1, ?_⟩
              iterate 2 (refine ord_flo ?_ (fun _ _ _ h => h) (by rw [hops.out]; kernel_rfl) ?_ f1 ?_; rotate_left; focus (intro W hS; obtain s1 := hS; go_simp; rfl))
              iterate 1 (refine ord_flo ?_ (fun _ _ _ h => h) rfl ?_ f1 ?_; rotate_left; focus (intro W hS; obtain s1 := hS; go_simp; rfl))
              refine ord_done ?_
              go_simp
              clear f1 D5 D6
              go_wp2
              go_roundw
              case rel => exact ⟨1, by omega, by go_num, hbr.drew⟩
              case measure => simp [intOf]; omega
            | succ j =>
              obtain ⟨y0, hy0⟩ : ∃ y0, M[j]? = some y0 := ⟨_, List.getElem?_eq_getElem (by omega)⟩
              have f0 : wr.drew.cell? ⟨gb, o + j, none⟩ = some (iv y0) := (hbr.cell (p := ⟨gb, o + j, none⟩) hb1).trans (hc1 j y0 hy0)
              have hyy := HNX.out j y0 y hy0 hy
              have hge : ¬ y ≤ y0 := by omega
              have hjw : IntKind.i64.wrap (j : Int) = (j : Int) := IntWalk.i64_in _ (by omega)
              have hjc : ((j + 1 : Nat) : Int) = (j : Int) + 1 := by omega
              clear hc1 hc2 HNX hy hy0 hyy
              go_wp2
              refine ord_start ((0, true) :: (1, true) :: (2, true) :: (3, true) :: (4, true) :: (5, true) :: (6, true) :: (7, true) :: (8, true) :: (9, true) :: (10, true) :: (11, true) :: (12, true) :: (13, true) :: (14, true) :: (15, true) :: (16, true) :: (17, true) :: (18, true) :: (19, true) :: (21, true) :: (22, true) :: (23, true) :: (24, true) :: (25, true) :: (20, false) :: (26, false) :: (27, true) :: (28, true) :: (29, true) :: []) (fun W => W.cell? ⟨gb, o + j, none⟩ = some (iv y0) ∧ W.cell? ⟨gb, o + (j + 1), none⟩ = some (iv y)) (by kernel_rfl) (by kernel_rfl) (by kernel_rfl) (by kernel_rfl) ?_
              intro ops' hops
              simp only [List.map_cons, List.map_nil, pickOp_zero, pickOp_succ]
              iterate 3 (refine ord_flo ?_ (fun _ _ _ h => h) rfl ?_ ⟨f0, f1⟩ ?_; rotate_left; focus (intro W hS; obtain ⟨s0, s1⟩ := hS; go_simp; rfl))
              iterate 3 (refine ord_flo ?_ (fun _ _ _ h => h) (by rw [hops.out]; kernel_rfl) ?_ ⟨f0, f1⟩ ?_; rotate_left; focus (intro W hS; obtain ⟨s0, s1⟩ := hS; go_simp; rfl))
              refine ord_flo (.pointer (some ⟨gb, o + j, none⟩)) (fun _ _ _ h => h) (by rw [hops.out]; kernel_rfl) ?_ ⟨f0, f1⟩ ?_
              · intro W hS
                go_simp
                try (intro h; omega)
              iterate 3 (refine ord_flo ?_ (fun _ _ _ h => h) (by rw [hops.out]; kernel_rfl) ?_ ⟨f0, f1⟩ ?_; rotate_left; focus (intro W hS; obtain ⟨s0, s1⟩ := hS; go_simp; rfl))
              refine ord_flo (.pointer (some ⟨gb, o + (j + 1), none⟩)) (fun _ _ _ h => h) (by rw [hops.out]; kernel_rfl) ?_ ⟨f0, f1⟩ ?_
              · intro W hS
                go_simp
                try (intro h; omega)
              iterate 1 (refine ord_flo ?_ (fun _ _ _ h => h) (by rw [hops.out]; kernel_rfl) ?_ ⟨f0, f1⟩ ?_; rotate_left; focus (intro W hS; obtain ⟨s0, s1⟩ := hS; go_simp; rfl))
              refine ord_flo (.bool false) (fun _ _ _ h => h) (by rw [hops.out]; kernel_rfl) ?_ ⟨f0, f1⟩ ?_
              · intro W hS
                go_simp
                try omega
              iterate 2 (refine ord_flo ?_ (fun _ _ _ h => h) rfl ?_ ⟨f0, f1⟩ ?_; rotate_left; focus (intro W hS; obtain ⟨s0, s1⟩ := hS; go_simp; rfl))
              iterate 3 (refine ord_flo ?_ (fun _ _ _ h => h) (by rw [hops.out]; kernel_rfl) ?_ ⟨f0, f1⟩ ?_; rotate_left; focus (intro W hS; obtain ⟨s0, s1⟩ := hS; go_simp; rfl))
              refine ord_flo (.pointer (some ⟨gb, o + (j + 1), none⟩)) (fun _ _ _ h => h) (by rw [hops.out]; kernel_rfl) ?_ ⟨f0, f1⟩ ?_
              · intro W hS
                go_simp
                try (intro h; omega)
              iterate 4 (refine ord_flo ?_ (fun _ _ _ h => h) (by rw [hops.out]; kernel_rfl) ?_ ⟨f0, f1⟩ ?_; rotate_left; focus (intro W hS; obtain ⟨s0, s1⟩ := hS; go_simp; rfl))
              refine ord_flo (.pointer (some ⟨gb, o + (j + 1), none⟩)) (fun _ _ _ h => h) (by rw [hops.out]; kernel_rfl) ?_ ⟨f0, f1⟩ ?_
              · intro W hS
                go_simp
                try (intro h; omega)
              iterate 1 (refine ord_flo ?_ (fun _ _ _ h => h) (by rw [hops.out]; kernel_rfl) ?_ ⟨f0, f1⟩ ?_; rotate_left; focus (intro W hS; obtain ⟨s0, s1⟩ := hS; go_simp; rfl))
              refine ord_ev (by rw [hops.out]; kernel_rfl) ?_
              go_simp
              refine (D5.out).mono ?_
              rintro e w7 ⟨rfl, rfl⟩
              refine ⟨⟨f0, f1⟩, ?_⟩
              refine ord_ev (by rw [hops.out]; kernel_rfl) ?_
              go_simp
              refine (D6.out).mono ?_
              rintro e w7 ⟨rfl, rfl⟩
              refine ⟨⟨f0, f1⟩, ?_⟩
              iterate 2 (refine ord_flo ?_ (fun _ _ _ h => h) (by rw [hops.out]; kernel_rfl) ?_ ⟨f0, f1⟩ ?_; rotate_left; focus (intro W hS; obtain ⟨s0, s1⟩ := hS; go_simp; rfl))
              iterate 1 (refine ord_flo ?_ (fun _ _ _ h => h) rfl ?_ ⟨f0, f1⟩ ?_; rotate_left; focus (intro W hS; obtain ⟨s0, s1⟩ := hS; go_simp; rfl))
              refine ord_done ?_
              go_simp
              clear f0 f1 D5 D6
              go_wp2
              go_roundw
              case rel => exact ⟨j + 2, by omega, by go_num, hbr.drew⟩
              case measure => simp [intOf]; omega
          · obtain rfl : k = M.length := by omega
            have hbw := hb6.trans (hbr.mono hz6)
            clear A2 A5 A6 HA HNX
            go_wp2
            go_ret
            exact ⟨rfl, hbw⟩
  · have hq : (1048576 : Int) < (code.length : Int) := by omega
    go_enter Try.func6, Try.ntmps6
    go_wp2_with fail
    refine (HB.out).mono ?_
    rintro e w' ⟨rfl, rfl⟩
    go_wp2
    go_ret
    exact ⟨rfl, Below.refl _ _⟩

end Go.Proofs.Ytmmpfhcohpdcbaa
