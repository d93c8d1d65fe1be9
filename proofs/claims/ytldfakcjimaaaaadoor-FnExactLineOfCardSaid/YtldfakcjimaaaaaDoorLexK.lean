/-
  Chapter 3's walks: the program's atomFrom, literalFrom, tokenAt.
-/
import Derived.Test.YtldfakcjimaaaaaDoorLexC
import Derived.Test.YtldfakcjimaaaaaDoorMx
import Derived.WalkSmall
namespace Go.Proofs.YtldfakcjimaaaaaDoor
open Go.RowKit

/-! ### What is before and behind the first "}\r\n" -/

theorem idx_eq (b : UInt8) (l sub : List UInt8) : Lib.index (b :: l) sub = if sub.isPrefixOf (b :: l) = true then 0 else if (Lib.index l sub == -1) = true then -1 else Lib.index l sub + 1 := by rw [Lib.index]
theorem idx_step (b : UInt8) (l : List UInt8) (h : ne125 b = true) : Lib.index (b :: l) [125, 13, 10] = if Lib.index l [125, 13, 10] == -1 then -1 else Lib.index l [125, 13, 10] + 1 := by
  have hp : [125, 13, 10].isPrefixOf (b :: l) = false := by
    have hb : ((125 : UInt8) == b) = false := by
      rw [beq_eq_false_iff_ne]
      rintro rfl
      exact absurd h (by decide)
    simp [List.isPrefixOf, hb]
  rw [idx_eq, hp]
  rfl
theorem isd_ne125 {l : List UInt8} (i : Nat) (b : UInt8) (h : l[i]? = some b) (hb : ne125 b = false) : numl l = none := by
  unfold numl
  rw [if_neg]
  rintro ⟨hc, _⟩
  unfold canon at hc
  simp only [Bool.and_eq_true] at hc
  have := List.all_eq_true.1 hc.1.1 b (List.mem_of_getElem? h)
  unfold isd at this
  unfold ne125 at hb
  simp only [Bool.and_eq_true, decide_eq_true_eq, Bool.not_eq_false', ] at this hb
  omega
theorem lit_idx : ∀ (r : List UInt8),
    (Lib.index r [125, 13, 10] = ((r.takeWhile ne125).length : Int) ∧ (r[(r.takeWhile ne125).length + 1]? = some 13 ∧ r[(r.takeWhile ne125).length + 2]? = some 10) ∧ (r.takeWhile ne125).length + 3 ≤ r.length) ∨
    (¬ (r[(r.takeWhile ne125).length + 1]? = some 13 ∧ r[(r.takeWhile ne125).length + 2]? = some 10) ∧ (Lib.index r [125, 13, 10] = -1 ∨ ∃ i : Nat, Lib.index r [125, 13, 10] = (i : Int) ∧ i + 3 ≤ r.length ∧ ∃ j b, j < i ∧ r[j]? = some b ∧ ne125 b = false))
  | [] => .inr ⟨by simp, .inl rfl⟩
  | b :: l => by
    cases hb : ne125 b with
    | true =>
      have hs := idx_step b l hb
      rw [List.takeWhile_cons_of_pos hb]
      simp only [List.length_cons, List.getElem?_cons_succ]
      rcases lit_idx l with ⟨h1, h2, h3⟩ | ⟨h1, h2 | ⟨i, h2, h3, j, c, h4, h5, h6⟩⟩
      · refine .inl ⟨?_, h2, by omega⟩
        rw [hs, h1, if_neg (by simp <;> omega)]
        omega
      · refine .inr ⟨h1, .inl ?_⟩
        rw [hs, h2]; rfl
      · refine .inr ⟨h1, .inr ⟨i + 1, ?_, by omega, j + 1, c, by omega, by simpa using h5, h6⟩⟩
        rw [hs, h2, if_neg (by simp <;> omega)]
        omega
    | false =>
      rw [List.takeWhile_cons_of_neg (by rw [hb]; simp)]
      simp only [List.length_nil, List.getElem?_cons_succ]
      have hb125 : b = 125 := by
        unfold ne125 at hb
        simp only [Bool.not_eq_false', decide_eq_true_eq] at hb
        exact UInt8.toNat_inj.1 hb
      subst hb125
      by_cases hc : l[0]? = some 13 ∧ l[1]? = some 10
      · refine .inl ⟨?_, hc, ?_⟩
        · rw [idx_eq]
          have : [125, 13, 10].isPrefixOf (125 :: l) = true := by
            match l, hc with
            | x :: y :: l, hc =>
              simp only [List.getElem?_cons_zero, List.getElem?_cons_succ, Option.some.injEq] at hc
              rw [hc.1, hc.2]
              simp [List.isPrefixOf]
          rw [this]; rfl
        · match l, hc with
          | x :: y :: l, hc => simp
      · refine .inr ⟨hc, ?_⟩
        have hp : [125, 13, 10].isPrefixOf (125 :: l) = false := by
          cases hh : [125, 13, 10].isPrefixOf (125 :: l) with
          | false => rfl
          | true =>
            obtain ⟨t, ht⟩ := List.isPrefixOf_iff_prefix.1 hh
            rw [← List.cons.inj ht |>.2] at hc
            exact absurd ⟨rfl, rfl⟩ hc
        have hs : Lib.index (125 :: l) [125, 13, 10] = if Lib.index l [125, 13, 10] == -1 then -1 else Lib.index l [125, 13, 10] + 1 := by
          rw [idx_eq, hp]; rfl
        have hge := Lib.index_ge l [125, 13, 10]
        by_cases hm : Lib.index l [125, 13, 10] = -1
        · left; rw [hs, hm]; rfl
        · right
          have hr := Lib.index_room l [125, 13, 10] (by omega)
          refine ⟨(Lib.index l [125, 13, 10]).toNat + 1, ?_, by simp at hr ⊢; omega, 0, 125, by omega, rfl, by decide⟩
          rw [hs, if_neg (by simpa using hm)]
          omega
theorem cut_lit (r : List UInt8) : ∃ (d rest : List UInt8) (f : Bool), Lib.cut r [125, 13, 10] = (d, rest, f) ∧ d.length ≤ r.length ∧ (f = true → d.length + 3 + rest.length = r.length) ∧
    litS r = (if f = true then match numl d with | some n => if n ≤ 40 ∧ n ≤ rest.length then some ((⟨2, rest.take n⟩ : Tok), 1 + d.length + 3 + n) else none | none => none else none) := by
  rcases lit_idx r with ⟨h1, h2, h3⟩ | ⟨h1, h2 | ⟨i, h2, h3, j, c, h4, h5, h6⟩⟩
  · refine ⟨r.takeWhile ne125, r.drop ((r.takeWhile ne125).length + 3), true, ?_, by omega, fun _ => by rw [List.length_drop]; omega, ?_⟩
    · unfold Lib.cut
      rw [h1, if_pos (by omega)]
      have e : r.take (r.takeWhile ne125).length = r.takeWhile ne125 := by
        have := List.takeWhile_append_dropWhile (p := ne125) (l := r)
        conv => lhs; arg 2; rw [← this]
        exact List.take_left
      rw [Int.toNat_natCast, e]; rfl
    · rw [if_pos rfl, litS_num rfl rfl h2.1 h2.2]
      cases numl (r.takeWhile ne125) with
      | none => rfl
      | some n =>
        simp only
        by_cases hn : n ≤ 40 ∧ n ≤ (r.drop ((r.takeWhile ne125).length + 3)).length
        · rw [if_pos hn, if_pos ⟨hn.1, by have := hn.2; rw [List.length_drop] at this; exact this, h3⟩]
        · rw [if_neg hn, if_neg (by intro hh; exact hn ⟨hh.1, by rw [List.length_drop]; exact hh.2.1⟩)]
  · refine ⟨r, [], false, ?_, Nat.le_refl _, (fun h => by cases h), ?_⟩
    · unfold Lib.cut
      rw [h2, if_neg (by omega)]
    · rw [if_neg (by simp), litS_no h1]
  · refine ⟨r.take i, r.drop (i + 3), true, ?_, by rw [List.length_take]; omega, fun _ => by rw [List.length_take, List.length_drop]; omega, ?_⟩
    · unfold Lib.cut
      rw [h2, if_pos (by omega), Int.toNat_natCast]; rfl
    · rw [if_pos rfl, litS_no h1, isd_ne125 j c (by rw [List.getElem?_take, if_pos h4]; exact h5) h6]

/-- A literal's text and the place behind it; or "", -1. -/
def LtPost (o : Option (Tok × Nat)) (p : Nat) (w : World) (e : Ending) (w' : World) : Prop :=
  (match o with | some (t, k) => e = .returned (.tuple #[sv t.text, .int .i64 ((p + k : Nat) : Int)]) | none => e = .returned (.tuple #[.string ⟨#[]⟩, .int .i64 (-1)])) ∧ Below w.heap.size w w'
theorem LtPost.some' {o : Option (Tok × Nat)} {t : Tok} {k p : Nat} {w w' : World} {e : Ending} (h : o = some (t, k)) (he : e = .returned (.tuple #[sv t.text, .int .i64 ((p + k : Nat) : Int)])) (hb : Below w.heap.size w w') : LtPost o p w e w' := by subst h; exact ⟨he, hb⟩
theorem LtPost.none' {o : Option (Tok × Nat)} {p : Nat} {w w' : World} {e : Ending} (h : o = none) (he : e = .returned (.tuple #[.string ⟨#[]⟩, .int .i64 (-1)])) (hb : Below w.heap.size w w') : LtPost o p w e w' := by subst h; exact ⟨he, hb⟩
theorem litS_kind {r : List UInt8} {t : Tok} {k : Nat} (h : litS r = some (t, k)) : t.kind = 2 := by
  obtain ⟨d, rest, f, _, _, _, h4⟩ := cut_lit r
  rw [h4] at h
  split at h
  · split at h
    · split at h
      · injection h with h; injection h with h _; rw [← h]
      · cases h
    · cases h
  · cases h

set_option maxHeartbeats 1600000 in
theorem literalFrom_any (s : ByteArray) (p : Nat) (w : World) (hM : Mx w) (hs : s.size ≤ 1048576) (hp : p < s.size) :
    Calls Tryd.prog 46 #[.string s, .int .i64 p] w fun e w' => LtPost (litS (s.data.toList.drop (p + 1))) p w e w' := by
  obtain ⟨m, hm⟩ := hM
  have hp1 : (p : Int) + 1 ≤ (s.size : Int) := by omega
  have c1 := Tryd.strings_Cut (s.extract (p + 1) s.size) ⟨#[125, 13, 10]⟩ m w (by simp; omega) hm
  have hsub : (s.extract (p + 1) s.size).data.toList = s.data.toList.drop (p + 1) := by rw [Lib.extract_data, List.take_of_length_le]; simp
  rw [hsub, show (ByteArray.mk #[125, 13, 10]).data.toList = [125, 13, 10] from rfl] at c1
  obtain ⟨d, rest, f, hcut, hdl, hrl, hlit⟩ := cut_lit (s.data.toList.drop (p + 1))
  rw [hcut] at c1
  simp only at c1
  rw [List.length_drop, str_len] at hdl hrl
  generalize litS (s.data.toList.drop (p + 1)) = L at *
  have hdz : (ByteArray.mk d.toArray).size ≤ 1048576 := by show d.toArray.size ≤ _; simp; omega
  have c2 := fun W => implNumber_any ⟨d.toArray⟩ W hdz
  rw [show (ByteArray.mk d.toArray).data.toList = d from rfl] at c2
  have C1 := Lib.hid c1
  have hrz : (ByteArray.mk rest.toArray).size = rest.length := by show rest.toArray.size = _; simp
  clear c1 hsub hcut hdz hm
  cases f with
  | false =>
    rw [if_neg (by simp)] at hlit
    have HL := Lib.hid hlit
    obtain ⟨n, b, hnb⟩ := numV_cases d
    rw [hnb] at c2
    have C2 := Lib.hid c2
    clear c2 hlit hrl hnb
    go_enter Tryd.func46, Tryd.ntmps46
    go_wp2_with fail
    refine (C1.out).mono ?_
    rintro e w1 ⟨rfl, k, rfl⟩
    go_wp2_with fail
    refine (C2.out _).mono ?_
    rintro e w2 ⟨rfl, b2⟩
    have hb := (below_drewN (Below.refl w.heap.size w) k).trans b2
    go_wp2
    go_ret2
    exact LtPost.none' HL.out rfl hb
  | true =>
    rw [if_pos rfl] at hlit
    have hrl := hrl rfl
    cases hn : numl d with
    | none =>
      rw [hn] at hlit
      rw [numV_none hn] at c2
      have HL := Lib.hid hlit
      have C2 := Lib.hid c2
      clear c2 hlit hrl hn
      go_enter Tryd.func46, Tryd.ntmps46
      go_wp2_with fail
      refine (C1.out).mono ?_
      rintro e w1 ⟨rfl, k, rfl⟩
      go_wp2_with fail
      refine (C2.out _).mono ?_
      rintro e w2 ⟨rfl, b2⟩
      have hb := (below_drewN (Below.refl w.heap.size w) k).trans b2
      go_wp2
      go_ret2
      exact LtPost.none' HL.out rfl hb
    | some n =>
      rw [hn] at hlit
      simp only at hlit
      rw [numV_some hn] at c2
      have C2 := Lib.hid c2
      clear c2 hn
      by_cases hok : n ≤ 40 ∧ n ≤ rest.length
      · rw [if_pos hok] at hlit
        have HL := Lib.hid hlit
        obtain ⟨q1, q2⟩ := hok
        have g1 : ¬ 40 < (n : Int) := by omega
        have g2 : ¬ (rest.length : Int) < (n : Int) := by omega
        have hx := ext_sv ⟨rest.toArray⟩ 0 n
        rw [show (ByteArray.mk rest.toArray).data.toList = rest from rfl, List.drop_zero, Nat.sub_zero] at hx
        have HX := Lib.hid hx
        have hcast := Lib.hid (show ((p + (1 + d.length + 3 + n) : Nat) : Int) = (s.size : Int) - (rest.length : Int) + (n : Int) by omega)
        clear hlit hx
        go_enter Tryd.func46, Tryd.ntmps46
        go_wp2_with fail
        refine (C1.out).mono ?_
        rintro e w1 ⟨rfl, k, rfl⟩
        go_wp2_with fail
        refine (C2.out _).mono ?_
        rintro e w2 ⟨rfl, b2⟩
        have hb := (below_drewN (Below.refl w.heap.size w) k).trans b2
        go_wp2
        go_ret2
        exact LtPost.some' HL.out (by rw [← HX.out, hcast.out]; rfl) hb
      · rw [if_neg hok] at hlit
        have HL := Lib.hid hlit
        have hor : 40 < (n : Int) ∨ ¬ 40 < (n : Int) ∧ (rest.length : Int) < (n : Int) := by omega
        clear hok hlit hrl
        rcases hor with g1 | ⟨g1, g2⟩
        all_goals
          go_enter Tryd.func46, Tryd.ntmps46
          go_wp2_with fail
          refine (C1.out).mono ?_
          rintro e w1 ⟨rfl, k, rfl⟩
          go_wp2_with fail
          refine (C2.out _).mono ?_
          rintro e w2 ⟨rfl, b2⟩
          have hb := (below_drewN (Below.refl w.heap.size w) k).trans b2
          go_wp2
          go_ret2
          exact LtPost.none' HL.out rfl hb

set_option maxHeartbeats 3200000 in
theorem atomFrom_any (s : ByteArray) (p : Nat) (w : World) (hs : s.size ≤ 1048576) (hp : p < s.size) :
    Calls Tryd.prog 47 #[.string s, .int .i64 p] w fun e w' => TkPost (atomS (s.data.toList.drop p)) p w e w' := by
  have hb0 : Below w.heap.size w (w.alloc (.cells #[.int .i64 0, .string ⟨#[]⟩] 35)) := (Below.refl _ _).alloc (Nat.le_refl _) _
  go_enter Tryd.func47, Tryd.ntmps47
  go_wp2
  go_loop [6] (fun i => ∃ k : Nat, p ≤ k ∧ k ≤ s.size ∧ i = .int .i64 k ∧ ((s.data.toList.drop p).take (k - p)).all atomc = true) (fun i => s.size - (intOf i).toNat)
  case atStart => exact ⟨p, Nat.le_refl _, by omega, rfl, by simp⟩
  case round =>
    obtain ⟨k, hpk, hk, rfl, hall⟩ := hrel
    have hgo : (∃ h : k < s.size, atomc s[k] = true) ∨ (¬ ∃ h : k < s.size, atomc s[k] = true) := Decidable.em _
    rcases hgo with ⟨hlt, h5⟩ | hno
    · have hbn : s[k].toNat < 256 := s[k].toNat_lt
      have c0 := fun W => inAtom_any (s[k].toNat : Int) (by omega) W
      rw [atomR_byte, h5] at c0
      have HA := Lib.hid (run_step s atomc p k hpk hlt hall h5)
      have C0 := Lib.hid c0
      clear c0 hall h5
      go_wp2_with fail
      refine (C0.out _).mono ?_
      rintro e w0 ⟨rfl, rfl⟩
      go_wp2
      go_round
      case rel => exact ⟨k + 1, by omega, by omega, by go_num, HA.out⟩
      case measure => simp [intOf]; omega
    · have he : ∀ h : k < s.size, atomc s[k] = false := fun h => by
        cases hh : atomc s[k] with
        | false => rfl
        | true => exact absurd ⟨h, hh⟩ hno
      have hrun := run_is s atomc p k hpk hall he
      have hl := run_len s p k hpk hk
      have c1 := fun W => implAtomOk_any (s.extract p k) W (by unfold maxLen; simp; omega)
      rw [ext_list] at c1
      cases ha : atomB ((s.data.toList.drop p).take (k - p)) with
      | true =>
        have HV := Lib.hid (show atomS (s.data.toList.drop p) = some (⟨1, (s.data.toList.drop p).take (k - p)⟩, k - p) by rw [atomS_yes hrun ha, hl])
        rw [ha] at c1
        have C1 := Lib.hid c1
        have HX := Lib.hid (ext_sv s p k)
        have hcast := Lib.hid (show ((p + (k - p) : Nat) : Int) = (k : Int) by omega)
        clear hrun hl ha c1 hall hno
        by_cases hlt : k < s.size
        · have hbn : s[k].toNat < 256 := s[k].toNat_lt
          have c0 := fun W => inAtom_any (s[k].toNat : Int) (by omega) W
          rw [atomR_byte, he hlt] at c0
          have C0 := Lib.hid c0
          clear c0 he
          go_wp2_with fail
          refine (C0.out _).mono ?_
          rintro e w0 ⟨rfl, rfl⟩
          go_wp2_with fail
          refine (C1.out _).mono ?_
          rintro e w1 ⟨rfl, b1⟩
          obtain ⟨hc, hf⟩ := new_cells (cs := #[.int .i64 0, .string ⟨#[]⟩]) (e := 35) (by simpa using b1)
          have hc0 := hc 0
          have hc1 := hc 1
          have hf0 := hf 0
          have hf1 := hf 1
          have hb1 := hb0.trans (b1.mono (by simp))
          simp only [List.getElem?_toArray, List.getElem?_cons_zero, List.getElem?_cons_succ] at hc0 hc1
          obtain ⟨hs0, hs1⟩ := two_set hc0 hc1
          clear hc hf b1 hb0
          go_wp2
          exact bodyPost_ret (v := .tuple #[.agg #[.int .i64 1, .string (s.extract p k)], .int .i64 (k : Int)]) (by simp [results, Tryd.results47, go_sem, hs0, hs1]) rfl (TkPost.some' HV.out (by rw [HX.out, hcast.out]) ((hb1.setCell (Nat.le_refl _) _).setCell (Nat.le_refl _) _))
        · clear he
          go_wp2_with fail
          refine (C1.out _).mono ?_
          rintro e w1 ⟨rfl, b1⟩
          obtain ⟨hc, hf⟩ := new_cells (cs := #[.int .i64 0, .string ⟨#[]⟩]) (e := 35) (by simpa using b1)
          have hc0 := hc 0
          have hc1 := hc 1
          have hf0 := hf 0
          have hf1 := hf 1
          have hb1 := hb0.trans (b1.mono (by simp))
          simp only [List.getElem?_toArray, List.getElem?_cons_zero, List.getElem?_cons_succ] at hc0 hc1
          obtain ⟨hs0, hs1⟩ := two_set hc0 hc1
          clear hc hf b1 hb0
          go_wp2
          exact bodyPost_ret (v := .tuple #[.agg #[.int .i64 1, .string (s.extract p k)], .int .i64 (k : Int)]) (by simp [results, Tryd.results47, go_sem, hs0, hs1]) rfl (TkPost.some' HV.out (by rw [HX.out, hcast.out]) ((hb1.setCell (Nat.le_refl _) _).setCell (Nat.le_refl _) _))
      | false =>
        have HV := Lib.hid (show atomS (s.data.toList.drop p) = none by rw [atomS_no hrun ha])
        rw [ha] at c1
        have C1 := Lib.hid c1
        clear hrun hl ha c1 hall hno
        by_cases hlt : k < s.size
        · have hbn : s[k].toNat < 256 := s[k].toNat_lt
          have c0 := fun W => inAtom_any (s[k].toNat : Int) (by omega) W
          rw [atomR_byte, he hlt] at c0
          have C0 := Lib.hid c0
          clear c0 he
          go_wp2_with fail
          refine (C0.out _).mono ?_
          rintro e w0 ⟨rfl, rfl⟩
          go_wp2_with fail
          refine (C1.out _).mono ?_
          rintro e w1 ⟨rfl, b1⟩
          obtain ⟨hc, hf⟩ := new_cells (cs := #[.int .i64 0, .string ⟨#[]⟩]) (e := 35) (by simpa using b1)
          have hc0 := hc 0
          have hc1 := hc 1
          have hf0 := hf 0
          have hf1 := hf 1
          have hb1 := hb0.trans (b1.mono (by simp))
          simp only [List.getElem?_toArray, List.getElem?_cons_zero, List.getElem?_cons_succ] at hc0 hc1
          obtain ⟨hs0, hs1⟩ := two_set hc0 hc1
          clear hc hf b1 hb0
          go_wp2
          exact bodyPost_ret (v := .tuple #[tokv ⟨0, []⟩, .int .i64 (-1)]) (by simp [results, Tryd.results47, go_sem, hs0, hs1]) rfl (TkPost.none' ⟨0, []⟩ HV.out rfl ((hb1.setCell (Nat.le_refl _) _).setCell (Nat.le_refl _) _))
        · clear he
          go_wp2_with fail
          refine (C1.out _).mono ?_
          rintro e w1 ⟨rfl, b1⟩
          obtain ⟨hc, hf⟩ := new_cells (cs := #[.int .i64 0, .string ⟨#[]⟩]) (e := 35) (by simpa using b1)
          have hc0 := hc 0
          have hc1 := hc 1
          have hf0 := hf 0
          have hf1 := hf 1
          have hb1 := hb0.trans (b1.mono (by simp))
          simp only [List.getElem?_toArray, List.getElem?_cons_zero, List.getElem?_cons_succ] at hc0 hc1
          obtain ⟨hs0, hs1⟩ := two_set hc0 hc1
          clear hc hf b1 hb0
          go_wp2
          exact bodyPost_ret (v := .tuple #[tokv ⟨0, []⟩, .int .i64 (-1)]) (by simp [results, Tryd.results47, go_sem, hs0, hs1]) rfl (TkPost.none' ⟨0, []⟩ HV.out rfl ((hb1.setCell (Nat.le_refl _) _).setCell (Nat.le_refl _) _))

set_option maxHeartbeats 3200000 in
theorem tokenAt_any (s : ByteArray) (p : Nat) (w : World) (hM : Mx w) (hs : s.size ≤ 1048576) (hp : p < s.size) :
    Calls Tryd.prog 30 #[.string s, .int .i64 p] w fun e w' => TkPost (tkS (s.data.toList.drop p)) p w e w' := by
  have hbn : s[p].toNat < 256 := s[p].toNat_lt
  have hb0 : Below w.heap.size w (w.alloc (.cells #[.int .i64 0, .string ⟨#[]⟩] 35)) := (Below.refl _ _).alloc (Nat.le_refl _) _
  have hM0 : Mx (w.alloc (.cells #[.int .i64 0, .string ⟨#[]⟩] 35)) := hM.below hb0
  cases h1 : ((s[p].toNat : Int) == 40) with
  | true =>
    have HV := Lib.hid (tk_open s p hp h1)
    go_enter Tryd.func30, Tryd.ntmps30
    go_wp2
    go_returns
    exact TkPost.some' HV.out rfl ((Below.refl _ _).alloc (Nat.le_refl _) _)
  | false =>
    cases h2 : ((s[p].toNat : Int) == 41) with
    | true =>
      have HV := Lib.hid (tk_close s p hp h1 h2)
      go_enter Tryd.func30, Tryd.ntmps30
      go_wp2
      go_returns
      exact TkPost.some' HV.out rfl ((Below.refl _ _).alloc (Nat.le_refl _) _)
    | false =>
      cases h3 : ((s[p].toNat : Int) == 34) with
      | true =>
        obtain ⟨hu, hk2⟩ := tk_quote s p hp h1 h2 h3
        have c1 := fun W => implUnquote_any s (p : Int) W hs
        rw [hu] at c1
        cases ht : tkS (s.data.toList.drop p) with
        | none =>
          rw [ht] at c1
          simp only [Option.map_none, uqV_none] at c1
          have C1 := Lib.hid c1
          clear c1 hu hk2 ht hM hM0
          go_enter Tryd.func30, Tryd.ntmps30
          go_wp2_with fail
          refine (C1.out _).mono ?_
          rintro e w1 ⟨rfl, b1⟩
          obtain ⟨hc, hf⟩ := new_cells (cs := #[.int .i64 0, .string ⟨#[]⟩]) (e := 35) (by simpa using b1)
          have hc0 := hc 0
          have hc1 := hc 1
          have hf0 := hf 0
          have hf1 := hf 1
          have hb1 := hb0.trans (b1.mono (by simp))
          simp only [List.getElem?_toArray, List.getElem?_cons_zero, List.getElem?_cons_succ] at hc0 hc1
          obtain ⟨hs0, hs1⟩ := two_set hc0 hc1
          clear hc hf b1 hb0
          go_wp2
          exact bodyPost_ret (v := .tuple #[tokv ⟨2, []⟩, .int .i64 (-1)]) (by simp [results, Tryd.results30, go_sem, hs0, hs1]) rfl (TkPost.none' ⟨2, []⟩ rfl rfl ((hb1.setCell (Nat.le_refl _) _).setCell (Nat.le_refl _) _))
        | some x =>
          rw [ht] at c1
          obtain ⟨x, k⟩ := x
          obtain ⟨kd, tx⟩ := x
          have hkd : kd = 2 := hk2 _ ht
          subst hkd
          simp only [Option.map_some, uqV_some] at c1
          have C1 := Lib.hid c1
          clear c1 hu hk2 ht hM hM0
          go_enter Tryd.func30, Tryd.ntmps30
          go_wp2_with fail
          refine (C1.out _).mono ?_
          rintro e w1 ⟨rfl, b1⟩
          obtain ⟨hc, hf⟩ := new_cells (cs := #[.int .i64 0, .string ⟨#[]⟩]) (e := 35) (by simpa using b1)
          have hc0 := hc 0
          have hc1 := hc 1
          have hf0 := hf 0
          have hf1 := hf 1
          have hb1 := hb0.trans (b1.mono (by simp))
          simp only [List.getElem?_toArray, List.getElem?_cons_zero, List.getElem?_cons_succ] at hc0 hc1
          obtain ⟨hs0, hs1⟩ := two_set hc0 hc1
          clear hc hf b1 hb0
          go_wp2
          exact bodyPost_ret (v := .tuple #[tokv ⟨2, tx⟩, .int .i64 ((p + k : Nat) : Int)]) (by simp [results, Tryd.results30, go_sem, hs0, hs1]) rfl (TkPost.some' rfl rfl ((hb1.setCell (Nat.le_refl _) _).setCell (Nat.le_refl _) _))
      | false =>
        cases h4 : ((s[p].toNat : Int) == 123) with
        | true =>
          have htk := tk_lit s p hp h1 h2 h3 h4
          have C1 := Lib.hid (literalFrom_any s p _ hM0 hs hp)
          rw [← htk] at C1
          cases ht : tkS (s.data.toList.drop p) with
          | none =>
            rw [ht] at C1
            clear ht htk hM hM0
            go_enter Tryd.func30, Tryd.ntmps30
            go_wp2_with fail
            refine (C1.out).mono ?_
            rintro e w1 ⟨rfl, b1⟩
            obtain ⟨hc, hf⟩ := new_cells (cs := #[.int .i64 0, .string ⟨#[]⟩]) (e := 35) (by simpa using b1)
            have hc0 := hc 0
            have hc1 := hc 1
            have hf0 := hf 0
            have hf1 := hf 1
            have hb1 := hb0.trans (b1.mono (by simp))
            simp only [List.getElem?_toArray, List.getElem?_cons_zero, List.getElem?_cons_succ] at hc0 hc1
            obtain ⟨hs0, hs1⟩ := two_set hc0 hc1
            clear hc hf b1 hb0
            go_wp2
            exact bodyPost_ret (v := .tuple #[tokv ⟨2, []⟩, .int .i64 (-1)]) (by simp [results, Tryd.results30, go_sem, hs0, hs1]) rfl (TkPost.none' ⟨2, []⟩ rfl rfl ((hb1.setCell (Nat.le_refl _) _).setCell (Nat.le_refl _) _))
          | some x =>
            obtain ⟨x, k⟩ := x
            obtain ⟨kd, tx⟩ := x
            have hkd : kd = 2 := litS_kind (htk.symm.trans ht)
            subst hkd
            rw [ht] at C1
            clear ht htk hM hM0
            go_enter Tryd.func30, Tryd.ntmps30
            go_wp2_with fail
            refine (C1.out).mono ?_
            rintro e w1 ⟨rfl, b1⟩
            obtain ⟨hc, hf⟩ := new_cells (cs := #[.int .i64 0, .string ⟨#[]⟩]) (e := 35) (by simpa using b1)
            have hc0 := hc 0
            have hc1 := hc 1
            have hf0 := hf 0
            have hf1 := hf 1
            have hb1 := hb0.trans (b1.mono (by simp))
            simp only [List.getElem?_toArray, List.getElem?_cons_zero, List.getElem?_cons_succ] at hc0 hc1
            obtain ⟨hs0, hs1⟩ := two_set hc0 hc1
            clear hc hf b1 hb0
            go_wp2
            exact bodyPost_ret (v := .tuple #[tokv ⟨2, tx⟩, .int .i64 ((p + k : Nat) : Int)]) (by simp [results, Tryd.results30, go_sem, hs0, hs1]) rfl (TkPost.some' rfl rfl ((hb1.setCell (Nat.le_refl _) _).setCell (Nat.le_refl _) _))
        | false =>
          have htk := tk_atom s p hp h1 h2 h3 h4
          have c1 := fun W => atomFrom_any s p W hs hp
          rw [← htk] at c1
          cases ht : tkS (s.data.toList.drop p) with
          | none =>
            rw [ht] at c1
            have C1 := Lib.hid c1
            clear c1 ht htk hM hM0
            go_enter Tryd.func30, Tryd.ntmps30
            go_wp2_with fail
            refine (C1.out _).mono ?_
            rintro e w1 ⟨⟨t0, rfl⟩, b1⟩
            obtain ⟨hc, hf⟩ := new_cells (cs := #[.int .i64 0, .string ⟨#[]⟩]) (e := 35) (by simpa using b1)
            have hc0 := hc 0
            have hc1 := hc 1
            have hf0 := hf 0
            have hf1 := hf 1
            have hb1 := hb0.trans (b1.mono (by simp))
            simp only [List.getElem?_toArray, List.getElem?_cons_zero, List.getElem?_cons_succ] at hc0 hc1
            obtain ⟨hs0, hs1⟩ := two_set hc0 hc1
            clear hc hf b1 hb0
            go_wp2
            exact bodyPost_ret (v := .tuple #[tokv t0, .int .i64 (-1)]) (by simp [results, Tryd.results30, go_sem, hs0, hs1]) rfl (TkPost.none' t0 rfl rfl ((hb1.setCell (Nat.le_refl _) _).setCell (Nat.le_refl _) _))
          | some x =>
            obtain ⟨t, k⟩ := x
            rw [ht] at c1
            have C1 := Lib.hid c1
            clear c1 ht htk hM hM0
            go_enter Tryd.func30, Tryd.ntmps30
            go_wp2_with fail
            refine (C1.out _).mono ?_
            rintro e w1 ⟨rfl, b1⟩
            obtain ⟨hc, hf⟩ := new_cells (cs := #[.int .i64 0, .string ⟨#[]⟩]) (e := 35) (by simpa using b1)
            have hc0 := hc 0
            have hc1 := hc 1
            have hf0 := hf 0
            have hf1 := hf 1
            have hb1 := hb0.trans (b1.mono (by simp))
            simp only [List.getElem?_toArray, List.getElem?_cons_zero, List.getElem?_cons_succ] at hc0 hc1
            obtain ⟨hs0, hs1⟩ := two_set hc0 hc1
            clear hc hf b1 hb0
            go_wp2
            exact bodyPost_ret (v := .tuple #[tokv t, .int .i64 ((p + k : Nat) : Int)]) (by simp [results, Tryd.results30, go_sem, hs0, hs1]) rfl (TkPost.some' rfl rfl ((hb1.setCell (Nat.le_refl _) _).setCell (Nat.le_refl _) _))

end Go.Proofs.YtldfakcjimaaaaaDoor
