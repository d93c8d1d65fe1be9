/-
  Chapter 3's walks: the model's l3Take.
-/
import Derived.Test.YtldfakcjimaaaaaDoorLexM
import Derived.Handy
namespace Go.Proofs.YtldfakcjimaaaaaDoor
open Go.RowKit

def TkPost (o : Option (Tok × Nat)) (p : Nat) (w : World) (e : Ending) (w' : World) : Prop :=
  (match o with | some (t, k) => e = .returned (.tuple #[tokv t, .int .i64 ((p + k : Nat) : Int)]) | none => ∃ t0 : Tok, e = .returned (.tuple #[tokv t0, .int .i64 (-1)])) ∧ Below w.heap.size w w'
theorem TkPost.some' {o : Option (Tok × Nat)} {t : Tok} {k p : Nat} {w w' : World} {e : Ending} (h : o = some (t, k)) (he : e = .returned (.tuple #[tokv t, .int .i64 ((p + k : Nat) : Int)])) (hb : Below w.heap.size w w') : TkPost o p w e w' := by subst h; exact ⟨he, hb⟩
theorem TkPost.none' {o : Option (Tok × Nat)} (t0 : Tok) {p : Nat} {w w' : World} {e : Ending} (h : o = none) (he : e = .returned (.tuple #[tokv t0, .int .i64 (-1)])) (hb : Below w.heap.size w w') : TkPost o p w e w' := by subst h; exact ⟨⟨t0, he⟩, hb⟩

theorem tkS_cons (b : UInt8) (r : List UInt8) : tkS (b :: r) = (if b.toNat = 40 then some (⟨3, []⟩, 1) else if b.toNat = 41 then some (⟨4, []⟩, 1) else if b.toNat = 34 then (uqAt r 1 []).map fun x => ((⟨2, x.1⟩ : Tok), x.2) else if b.toNat = 123 then litS r else atomS (b :: r)) := rfl
theorem beq_nat {n k : Nat} (h : ((n : Int) == (k : Int)) = true) : n = k := by have := beq_iff_eq.1 h; omega
theorem beq_nat' {n k : Nat} (h : ((n : Int) == (k : Int)) = false) : ¬ n = k := by have := beq_eq_false_iff_ne.1 h; omega
section
variable (s : ByteArray) (p : Nat) (h : p < s.size)
include h
theorem tk_open (h1 : ((s[p].toNat : Int) == 40) = true) : tkS (s.data.toList.drop p) = some (⟨3, []⟩, 1) := by
  rw [drop_str s p h, tkS_cons, if_pos (beq_nat h1)]
theorem tk_close (h1 : ((s[p].toNat : Int) == 40) = false) (h2 : ((s[p].toNat : Int) == 41) = true) : tkS (s.data.toList.drop p) = some (⟨4, []⟩, 1) := by
  rw [drop_str s p h, tkS_cons, if_neg (beq_nat' h1), if_pos (beq_nat h2)]
theorem tk_quote (h1 : ((s[p].toNat : Int) == 40) = false) (h2 : ((s[p].toNat : Int) == 41) = false) (h3 : ((s[p].toNat : Int) == 34) = true) : uqO s.data.toList (p : Int) = (tkS (s.data.toList.drop p)).map (fun x => (x.1.text, p + x.2)) ∧ (∀ x, tkS (s.data.toList.drop p) = some x → x.1.kind = 2) := by
  rw [uqO_at s p h, if_pos (beq_iff_eq.1 h3), drop_str s p h, tkS_cons, if_neg (beq_nat' h1), if_neg (beq_nat' h2), if_pos (beq_nat h3), uqAt_shift _ _ p 1 [] (Nat.le_refl _)]
  cases uqAt (s.data.toList.drop (p + 1)) 1 [] with
  | none => exact ⟨rfl, fun x hx => by cases hx⟩
  | some y => exact ⟨rfl, fun x hx => by injection hx with hx; subst hx; rfl⟩
theorem tk_lit (h1 : ((s[p].toNat : Int) == 40) = false) (h2 : ((s[p].toNat : Int) == 41) = false) (h3 : ((s[p].toNat : Int) == 34) = false) (h4 : ((s[p].toNat : Int) == 123) = true) : tkS (s.data.toList.drop p) = litS (s.data.toList.drop (p + 1)) := by
  rw [drop_str s p h, tkS_cons, if_neg (beq_nat' h1), if_neg (beq_nat' h2), if_neg (beq_nat' h3), if_pos (beq_nat h4)]
theorem tk_atom (h1 : ((s[p].toNat : Int) == 40) = false) (h2 : ((s[p].toNat : Int) == 41) = false) (h3 : ((s[p].toNat : Int) == 34) = false) (h4 : ((s[p].toNat : Int) == 123) = false) : tkS (s.data.toList.drop p) = atomS (s.data.toList.drop p) := by
  rw [drop_str s p h, tkS_cons, if_neg (beq_nat' h1), if_neg (beq_nat' h2), if_neg (beq_nat' h3), if_neg (beq_nat' h4)]
end

/-- The longest run from p on ends at k. -/
theorem run_is (s : ByteArray) (q : UInt8 → Bool) (p k : Nat) (hp : p ≤ k) (ha : ((s.data.toList.drop p).take (k - p)).all q = true) (he : ∀ h : k < s.size, q s[k] = false) : (s.data.toList.drop p).takeWhile q = (s.data.toList.drop p).take (k - p) := by
  have e : s.data.toList.drop p = (s.data.toList.drop p).take (k - p) ++ s.data.toList.drop k := by
    have := List.take_append_drop (k - p) (s.data.toList.drop p)
    rw [List.drop_drop, show p + (k - p) = k by omega] at this
    exact this.symm
  conv => lhs; rw [e]
  refine takeWhile_all ha (fun b r' hb => ?_)
  by_cases hlt : k < s.size
  · rw [drop_str s k hlt] at hb
    injection hb with hb _
    rw [← hb]; exact he hlt
  · rw [drop_str_end s k hlt] at hb; cases hb
theorem run_step (s : ByteArray) (q : UInt8 → Bool) (p k : Nat) (hp : p ≤ k) (hk : k < s.size) (ha : ((s.data.toList.drop p).take (k - p)).all q = true) (he : q s[k] = true) : ((s.data.toList.drop p).take (k + 1 - p)).all q = true := by
  have e : (s.data.toList.drop p).take (k + 1 - p) = (s.data.toList.drop p).take (k - p) ++ [s[k]] := by
    rw [show k + 1 - p = (k - p) + 1 by omega]
    refine take_nx ?_
    rw [List.getElem?_drop, show p + (k - p) = k by omega, List.getElem?_eq_getElem (by simpa using hk)]
    rfl
  rw [e, List.all_append, ha]; simp [he]
theorem run_len (s : ByteArray) (p k : Nat) (hp : p ≤ k) (hk : k ≤ s.size) : ((s.data.toList.drop p).take (k - p)).length = k - p := by simp; omega
theorem ext_list (s : ByteArray) (p k : Nat) : (s.extract p k).data.toList = (s.data.toList.drop p).take (k - p) := Lib.extract_data s p k
theorem ext_sv (s : ByteArray) (p k : Nat) : Value.string (s.extract p k) = sv ((s.data.toList.drop p).take (k - p)) := by rw [Lib.extract_eq]
theorem ext_one (s : ByteArray) (k : Nat) (h : k < s.size) : atomB (s.extract k (k + 1)).data.toList = atomc s[k] := by
  rw [ext_list, drop_str s k h, show k + 1 - k = 1 by omega]
  simp [atomB]

theorem atomS_yes {l a : List UInt8} (h : l.takeWhile atomc = a) (ha : atomB a = true) : atomS l = some (⟨1, a⟩, a.length) := by unfold atomS; rw [h, if_pos ha]
theorem atomS_no {l a : List UInt8} (h : l.takeWhile atomc = a) (ha : atomB a = false) : atomS l = none := by unfold atomS; rw [h, if_neg (by rw [ha]; simp)]

/-- What a literal's loop has found: the closing brace is looked for up to k. -/
theorem lit_d (s : ByteArray) (p k : Nat) (hp : p < s.size) (h4 : ((s[p].toNat : Int) == 123) = true) (hpk : p ≤ k) (hk : k ≤ s.size) (ha : ((s.data.toList.drop p).take (k - p)).all ne125 = true) (he : ∀ h : k < s.size, ne125 s[k] = false) :
    p + 1 ≤ k ∧ (s.data.toList.drop (p + 1)).takeWhile ne125 = (s.data.toList.drop (p + 1)).take (k - (p + 1)) ∧ ((s.data.toList.drop (p + 1)).takeWhile ne125).length = k - (p + 1) := by
  have hne : ne125 s[p] = true := by unfold ne125; rw [beq_nat h4]; rfl
  have h1 : p + 1 ≤ k := by
    rcases Nat.lt_or_ge p k with h | h
    · exact h
    · obtain rfl : k = p := by omega
      rw [he hp] at hne; cases hne
  have ha2 : ((s.data.toList.drop (p + 1)).take (k - (p + 1))).all ne125 = true := by
    rw [drop_str s p hp, show k - p = (k - (p + 1)) + 1 by omega, List.take_succ_cons, List.all_cons, Bool.and_eq_true] at ha
    exact ha.2
  have h2 := run_is s ne125 (p + 1) k h1 ha2 he
  exact ⟨h1, h2, by rw [h2, run_len s (p + 1) k h1 hk]⟩
theorem drop_get (s : ByteArray) (p j : Nat) (h : p + j < s.size) : (s.data.toList.drop p)[j]? = some s[p + j] := by
  rw [List.getElem?_drop, List.getElem?_eq_getElem (by simpa using h)]
  rfl
theorem litS_no {r : List UInt8} (h : ¬ (r[(r.takeWhile ne125).length + 1]? = some 13 ∧ r[(r.takeWhile ne125).length + 2]? = some 10)) : litS r = none := by
  unfold litS; simp only; rw [if_neg h]
theorem litS_num {r d : List UInt8} {m : Nat} (hd : r.takeWhile ne125 = d) (hm : d.length = m) (h1 : r[m + 1]? = some 13) (h2 : r[m + 2]? = some 10) :
    litS r = match numl d with | some n => if n ≤ 40 ∧ n ≤ r.length - (m + 3) ∧ m + 3 ≤ r.length then some (⟨2, (r.drop (m + 3)).take n⟩, 1 + m + 3 + n) else none | none => none := by
  subst hm
  unfold litS
  simp only [hd]
  rw [if_pos ⟨h1, h2⟩]
  rfl
theorem u8_eq {b : UInt8} {n : Nat} (h : ((b.toNat : Int) == (n : Int)) = true) (hn : n < 256) : b = UInt8.ofNat n := by
  apply UInt8.toNat_inj.1
  rw [UInt8.toNat_ofNat_of_lt' (by simpa using hn)]
  exact beq_nat h

/-- Behind a call the cells of a block that was made just before it stand. -/
theorem new_cells {w w1 : World} {cs : Array Value} {e : TypeId} (hb : Below (w.heap.size + 1) (w.alloc (.cells cs e)) w1) : (∀ j, w1.cell? ⟨w.heap.size, j, none⟩ = cs[j]?) ∧ (∀ j, w1.frozen? ⟨w.heap.size, j, none⟩ = false) :=
  ⟨fun j => (hb.cell (p := ⟨w.heap.size, j, none⟩) (by simp)).trans (by simp [go_sem]), fun j => (hb.frozen (p := ⟨w.heap.size, j, none⟩) (by simp)).trans (by simp [go_sem])⟩

theorem two_set {w1 : World} {b : Nat} {x0 x1 : Value} (h0 : w1.cell? ⟨b, 0, none⟩ = some x0) (h1 : w1.cell? ⟨b, 1, none⟩ = some x1) :
    (∀ v, (w1.setCell ⟨b, 0, none⟩ v).cell? ⟨b, 0, none⟩ = some v) ∧ (∀ v v', ((w1.setCell ⟨b, 0, none⟩ v).setCell ⟨b, 1, none⟩ v').cell? ⟨b, 1, none⟩ = some v') := by
  refine ⟨fun v => World.cell?_setCell_same w1 _ _ h0, fun v v' => World.cell?_setCell_same _ _ _ (u := x1) ?_⟩
  rw [World.cell?_setCell_other w1 _ _ _ (by intro hh; injection hh with _ h2; cases h2)]
  exact h1

set_option maxHeartbeats 3200000 in
theorem l3Take_any (s : ByteArray) (p : Nat) (w : World) (hs : s.size ≤ 1048576) (hp : p < s.size) :
    Calls Tryd.prog 33 #[.string s, .int .i64 p] w fun e w' => TkPost (tkS (s.data.toList.drop p)) p w e w' := by
  have hbn : s[p].toNat < 256 := s[p].toNat_lt
  have hb0 : Below w.heap.size w (w.alloc (.cells #[.int .i64 0, .string ⟨#[]⟩] 35)) := (Below.refl _ _).alloc (Nat.le_refl _) _
  cases h1 : ((s[p].toNat : Int) == 40) with
  | true =>
    have HV := Lib.hid (tk_open s p hp h1)
    go_enter Tryd.func33, Tryd.ntmps33
    go_wp2
    go_returns
    exact TkPost.some' HV.out rfl ((Below.refl _ _).alloc (Nat.le_refl _) _)
  | false =>
    cases h2 : ((s[p].toNat : Int) == 41) with
    | true =>
      have HV := Lib.hid (tk_close s p hp h1 h2)
      go_enter Tryd.func33, Tryd.ntmps33
      go_wp2
      go_returns
      exact TkPost.some' HV.out rfl ((Below.refl _ _).alloc (Nat.le_refl _) _)
    | false =>
      cases h3 : ((s[p].toNat : Int) == 34) with
      | true =>
        obtain ⟨hu, hk2⟩ := tk_quote s p hp h1 h2 h3
        have c1 := fun W => specUnquote_any s (p : Int) W hs
        rw [hu] at c1
        cases ht : tkS (s.data.toList.drop p) with
        | none =>
          rw [ht] at c1
          simp only [Option.map_none, uqV_none] at c1
          have C1 := Lib.hid c1
          clear c1 hu hk2 ht
          go_enter Tryd.func33, Tryd.ntmps33
          go_wp2_with fail
          refine (C1.out _).mono ?_
          rintro e w1 ⟨rfl, b1⟩
          obtain ⟨hc, hf⟩ := new_cells (cs := #[.int .i64 0, .string ⟨#[]⟩]) (e := 35) (by simpa using b1)
          have hc0 := hc 0
          have hc1 := hc 1
          have hf0 := hf 0
          have hf1 := hf 1
          have hb1 := hb0.trans (b1.mono (by simp))
          simp only [List.getElem?_toArray, List.getElem?_cons_zero, List.getElem?_cons_succ] at hc0 hc1
          obtain ⟨hs0, hs1⟩ := two_set hc0 hc1
          clear hc hf b1 hb0
          go_wp2
          exact bodyPost_ret (v := .tuple #[tokv ⟨2, []⟩, .int .i64 (-1)]) (by simp [results, Tryd.results33, go_sem, hs0, hs1]) rfl (TkPost.none' ⟨2, []⟩ rfl rfl ((hb1.setCell (Nat.le_refl _) _).setCell (Nat.le_refl _) _))
        | some x =>
          rw [ht] at c1
          obtain ⟨x, k⟩ := x
          obtain ⟨kd, tx⟩ := x
          have hkd : kd = 2 := hk2 _ ht
          subst hkd
          simp only [Option.map_some, uqV_some] at c1
          have C1 := Lib.hid c1
          clear c1 hu hk2 ht
          go_enter Tryd.func33, Tryd.ntmps33
          go_wp2_with fail
          refine (C1.out _).mono ?_
          rintro e w1 ⟨rfl, b1⟩
          obtain ⟨hc, hf⟩ := new_cells (cs := #[.int .i64 0, .string ⟨#[]⟩]) (e := 35) (by simpa using b1)
          have hc0 := hc 0
          have hc1 := hc 1
          have hf0 := hf 0
          have hf1 := hf 1
          have hb1 := hb0.trans (b1.mono (by simp))
          simp only [List.getElem?_toArray, List.getElem?_cons_zero, List.getElem?_cons_succ] at hc0 hc1
          obtain ⟨hs0, hs1⟩ := two_set hc0 hc1
          clear hc hf b1 hb0
          go_wp2
          exact bodyPost_ret (v := .tuple #[tokv ⟨2, tx⟩, .int .i64 ((p + k : Nat) : Int)]) (by simp [results, Tryd.results33, go_sem, hs0, hs1]) rfl (TkPost.some' rfl rfl ((hb1.setCell (Nat.le_refl _) _).setCell (Nat.le_refl _) _))
      | false =>
        cases h4 : ((s[p].toNat : Int) == 123) with
        | true =>
          have htk := tk_lit s p hp h1 h2 h3 h4
          have Hh4 := Lib.hid h4
          go_enter Tryd.func33, Tryd.ntmps33
          go_wp2
          go_loop [8] (fun i => ∃ k : Nat, p ≤ k ∧ k ≤ s.size ∧ i = .int .i64 k ∧ ((s.data.toList.drop p).take (k - p)).all ne125 = true) (fun i => s.size - (intOf i).toNat)
          case atStart => exact ⟨p, Nat.le_refl _, by omega, rfl, by simp⟩
          case round =>
            obtain ⟨k, hpk, hk, rfl, hall⟩ := hrel
            by_cases hlt : k < s.size
            · have hbk : s[k].toNat < 256 := s[k].toNat_lt
              cases h5 : ((s[k].toNat : Int) == 125) with
              | false =>
                have h6 := ne_yes h5
                have HA := Lib.hid (run_step s ne125 p k hpk hlt hall (by unfold ne125; rw [decide_eq_false (beq_nat' h5)]; rfl))
                clear hall htk
                go_wp2
                go_round
                case rel => exact ⟨k + 1, by omega, by omega, by go_num, HA.out⟩
                case measure => simp [intOf]; omega
              | true =>
                have h6 := ne_not h5
                obtain ⟨hpk1, hd, hm⟩ := lit_d s p k hp Hh4.out hpk hk hall (fun _ => by unfold ne125; rw [decide_eq_true (beq_nat h5)]; rfl)
                clear hall
                by_cases hk2 : k + 2 < s.size
                · have hk3 : ¬ (s.size : Int) ≤ (k : Int) + 2 := by omega
                  have hb1' : s[k + 1].toNat < 256 := s[k + 1].toNat_lt
                  have hb2' : s[k + 2].toNat < 256 := s[k + 2].toNat_lt
                  have e1 := drop_get s (p + 1) ((s.data.toList.drop (p + 1)).takeWhile ne125 |>.length.succ) (by rw [hm]; omega)
                  have e2 := drop_get s (p + 1) (((s.data.toList.drop (p + 1)).takeWhile ne125).length + 2) (by rw [hm]; omega)
                  have i1 : p + 1 + ((s.data.toList.drop (p + 1)).takeWhile ne125).length.succ = k + 1 := by rw [hm]; omega
                  have i2 : p + 1 + (((s.data.toList.drop (p + 1)).takeWhile ne125).length + 2) = k + 2 := by rw [hm]; omega
                  simp only [i1, i2] at e1 e2
                  cases h7 : ((s[k + 1].toNat : Int) == 13) with
                  | false =>
                    have h8 := ne_yes h7
                    have HV := Lib.hid (show tkS (s.data.toList.drop p) = none by rw [htk]; exact litS_no (by rintro ⟨g, _⟩; rw [e1] at g; injection g with g; rw [g] at h7; cases h7))
                    clear htk hd hm e1 e2 i1 i2
                    go_wp2
                    go_returns
                    exact TkPost.none' ⟨0, []⟩ HV.out rfl hb0
                  | true =>
                    have h8 := ne_not h7
                    cases h9 : ((s[k + 2].toNat : Int) == 10) with
                    | false =>
                      have h10 := ne_yes h9
                      have HV := Lib.hid (show tkS (s.data.toList.drop p) = none by rw [htk]; exact litS_no (by rintro ⟨_, g⟩; rw [e2] at g; injection g with g; rw [g] at h9; cases h9))
                      clear htk hd hm e1 e2 i1 i2
                      go_wp2
                      go_returns
                      exact TkPost.none' ⟨0, []⟩ HV.out rfl hb0
                    | true =>
                      have h10 := ne_not h9
                      rw [u8_eq (n := 13) h7 (by omega)] at e1
                      rw [u8_eq (n := 10) h9 (by omega)] at e2
                      rw [hm] at e1 e2
                      have hlit := litS_num hd (by rw [← hd, hm]) e1 e2
                      rw [← htk] at hlit
                      have hds : (s.data.toList.drop (p + 1)).length = s.size - (p + 1) := by simp
                      have hez : (s.extract (p + 1) k).size ≤ 1048576 := by simp; omega
                      have c1 := fun W => specNumber_any (s.extract (p + 1) k) W hez
                      rw [ext_list] at c1
                      generalize hdd : (s.data.toList.drop (p + 1)).take (k - (p + 1)) = dd at *
                      clear e1 e2 i1 i2 hd hm htk hez hdd
                      cases hn : numl dd with
                      | none =>
                        rw [numV_none hn] at c1
                        rw [hn] at hlit
                        have HV := Lib.hid hlit
                        have C1 := Lib.hid c1
                        clear hlit c1 hn hds
                        go_wp2_with fail
                        refine (C1.out _).mono ?_
                        rintro e w1 ⟨rfl, b1⟩
                        obtain ⟨hc, hf⟩ := new_cells (cs := #[.int .i64 0, .string ⟨#[]⟩]) (e := 35) (by simpa using b1)
                        have hc0 := hc 0
                        have hc1 := hc 1
                        have hf0 := hf 0
                        have hf1 := hf 1
                        have hb1 := hb0.trans (b1.mono (by simp))
                        simp only [List.getElem?_toArray, List.getElem?_cons_zero, List.getElem?_cons_succ] at hc0 hc1
                        obtain ⟨hs0, hs1⟩ := two_set hc0 hc1
                        clear hc hf b1 hb0
                        go_wp2
                        exact bodyPost_ret (v := .tuple #[tokv ⟨0, []⟩, .int .i64 (-1)]) (by simp [results, Tryd.results33, go_sem, hs0, hs1]) rfl (TkPost.none' ⟨0, []⟩ HV.out rfl ((hb1.setCell (Nat.le_refl _) _).setCell (Nat.le_refl _) _))
                      | some n =>
                        rw [numV_some hn] at c1
                        rw [hn] at hlit
                        simp only at hlit
                        have C1 := Lib.hid c1
                        clear c1 hn
                        by_cases hok : n ≤ 40 ∧ n ≤ s.size - (k + 3)
                        · have hlit2 : tkS (s.data.toList.drop p) = some (⟨2, (s.data.toList.drop (k + 3)).take n⟩, k - p + 3 + n) := by
                            rw [hlit, if_pos ⟨hok.1, by rw [hds]; omega, by rw [hds]; omega⟩, List.drop_drop, show p + 1 + (k - (p + 1) + 3) = k + 3 by omega, show 1 + (k - (p + 1)) + 3 + n = k - p + 3 + n by omega]
                          have HV := Lib.hid hlit2
                          have hx := ext_sv s (k + 3) (k + 3 + n)
                          rw [show k + 3 + n - (k + 3) = n by omega] at hx
                          have hcast := Lib.hid (show ((p + (k - p + 3 + n) : Nat) : Int) = (k : Int) + 3 + (n : Int) by omega)
                          have HX := Lib.hid hx
                          have g1 : ¬ 40 < (n : Int) := by omega
                          have g2 : ¬ (s.size : Int) - (k : Int) - 3 < (n : Int) := by omega
                          obtain ⟨q1, q2⟩ := hok
                          clear hlit hlit2 hds hx
                          go_wp2_with fail
                          refine (C1.out _).mono ?_
                          rintro e w1 ⟨rfl, b1⟩
                          obtain ⟨hc, hf⟩ := new_cells (cs := #[.int .i64 0, .string ⟨#[]⟩]) (e := 35) (by simpa using b1)
                          have hc0 := hc 0
                          have hc1 := hc 1
                          have hf0 := hf 0
                          have hf1 := hf 1
                          have hb1 := hb0.trans (b1.mono (by simp))
                          simp only [List.getElem?_toArray, List.getElem?_cons_zero, List.getElem?_cons_succ] at hc0 hc1
                          obtain ⟨hs0, hs1⟩ := two_set hc0 hc1
                          clear hc hf b1 hb0
                          go_wp2
                          exact bodyPost_ret (v := .tuple #[.agg #[.int .i64 2, .string (s.extract (k + 3) (k + 3 + n))], .int .i64 ((k : Int) + 3 + (n : Int))]) (by simp [results, Tryd.results33, go_sem, hs0, hs1]) rfl (TkPost.some' HV.out (by rw [HX.out, hcast.out]) ((hb1.setCell (Nat.le_refl _) _).setCell (Nat.le_refl _) _))
                        · have HV := Lib.hid (show tkS (s.data.toList.drop p) = none by rw [hlit, if_neg (by rw [hds]; omega)])
                          clear hlit hds
                          have hor : 40 < (n : Int) ∨ ¬ 40 < (n : Int) ∧ (s.size : Int) - (k : Int) - 3 < (n : Int) := by omega
                          clear hok
                          rcases hor with g1 | ⟨g1, g2⟩
                          all_goals
                            go_wp2_with fail
                            refine (C1.out _).mono ?_
                            rintro e w1 ⟨rfl, b1⟩
                            obtain ⟨hc, hf⟩ := new_cells (cs := #[.int .i64 0, .string ⟨#[]⟩]) (e := 35) (by simpa using b1)
                            have hc0 := hc 0
                            have hc1 := hc 1
                            have hf0 := hf 0
                            have hf1 := hf 1
                            have hb1 := hb0.trans (b1.mono (by simp))
                            simp only [List.getElem?_toArray, List.getElem?_cons_zero, List.getElem?_cons_succ] at hc0 hc1
                            obtain ⟨hs0, hs1⟩ := two_set hc0 hc1
                            clear hc hf b1 hb0
                            go_wp2
                            exact bodyPost_ret (v := .tuple #[tokv ⟨0, []⟩, .int .i64 (-1)]) (by simp [results, Tryd.results33, go_sem, hs0, hs1]) rfl (TkPost.none' ⟨0, []⟩ HV.out rfl ((hb1.setCell (Nat.le_refl _) _).setCell (Nat.le_refl _) _))
                · have hk3 : (s.size : Int) ≤ (k : Int) + 2 := by omega
                  have HV := Lib.hid (show tkS (s.data.toList.drop p) = none by rw [htk]; exact litS_no (by rintro ⟨_, g⟩; rw [hm, List.getElem?_drop, List.getElem?_eq_none (by simp; omega)] at g; cases g))
                  clear htk hd hm
                  go_wp2
                  go_returns
                  exact TkPost.none' ⟨0, []⟩ HV.out rfl hb0
            · obtain rfl : k = s.size := by omega
              obtain ⟨hpk1, hd, hm⟩ := lit_d s p s.size hp Hh4.out hpk hk hall (fun h => absurd h hlt)
              clear hall
              have hk3 : (s.size : Int) ≤ (s.size : Int) + 2 := by omega
              have HV := Lib.hid (show tkS (s.data.toList.drop p) = none by rw [htk]; exact litS_no (by rintro ⟨_, g⟩; rw [hm, List.getElem?_drop, List.getElem?_eq_none (by simp; omega)] at g; cases g))
              clear htk hd hm
              go_wp2
              go_returns
              exact TkPost.none' ⟨0, []⟩ HV.out rfl hb0
        | false =>
          have htk := tk_atom s p hp h1 h2 h3 h4
          go_enter Tryd.func33, Tryd.ntmps33
          go_wp2
          go_loop [11] (fun i => ∃ k : Nat, p ≤ k ∧ k ≤ s.size ∧ i = .int .i64 k ∧ ((s.data.toList.drop p).take (k - p)).all atomc = true) (fun i => s.size - (intOf i).toNat)
          case atStart => exact ⟨p, Nat.le_refl _, by omega, rfl, by simp⟩
          case round =>
            obtain ⟨k, hpk, hk, rfl, hall⟩ := hrel
            by_cases hlt : k < s.size
            · have c0 := fun W => specAtomOk_any (s.extract k (k + 1)) W (by unfold maxLen; simp; omega)
              rw [ext_one s k hlt] at c0
              cases h5 : atomc s[k] with
              | true =>
                have HA := Lib.hid (run_step s atomc p k hpk hlt hall h5)
                rw [h5] at c0
                have C0 := Lib.hid c0
                clear c0 hall htk h5
                go_wp2_with fail
                refine (C0.out _).mono ?_
                rintro e w0 ⟨rfl, rfl⟩
                go_wp2
                go_round
                case rel => exact ⟨k + 1, by omega, by omega, by go_num, HA.out⟩
                case measure => simp [intOf]; omega
              | false =>
                have he : ∀ h : k < s.size, atomc s[k] = false := fun _ => h5
                rw [h5] at c0
                have C0 := Lib.hid c0
                have HE := Lib.hid he
                clear c0 h5 he
                have hrun := run_is s atomc p k hpk hall HE.out
                have hl := run_len s p k hpk hk
                have c1 := fun W => specAtomOk_any (s.extract p k) W (by unfold maxLen; simp; omega)
                rw [ext_list] at c1
                cases ha : atomB ((s.data.toList.drop p).take (k - p)) with
                | true =>
                  have HV := Lib.hid (show tkS (s.data.toList.drop p) = some (⟨1, (s.data.toList.drop p).take (k - p)⟩, k - p) by rw [htk, atomS_yes hrun ha, hl])
                  rw [ha] at c1
                  have C1 := Lib.hid c1
                  have HX := Lib.hid (ext_sv s p k)
                  have hcast := Lib.hid (show ((p + (k - p) : Nat) : Int) = (k : Int) by omega)
                  clear htk hrun hl ha c1 hall
                  go_wp2_with fail
                  refine (C0.out _).mono ?_
                  rintro e w0 ⟨rfl, rfl⟩
                  go_wp2_with fail
                  refine (C1.out _).mono ?_
                  rintro e w1 ⟨rfl, rfl⟩
                  go_wp2
                  exact bodyPost_ret (v := .tuple #[.agg #[.int .i64 1, .string (s.extract p k)], .int .i64 (k : Int)]) (by simp [results, Tryd.results33, go_sem]) rfl (TkPost.some' HV.out (by rw [HX.out, hcast.out]) ((Below.refl _ _).alloc (Nat.le_refl _) _))
                | false =>
                  have HV := Lib.hid (show tkS (s.data.toList.drop p) = none by rw [htk, atomS_no hrun ha])
                  rw [ha] at c1
                  have C1 := Lib.hid c1
                  clear htk hrun hl ha c1 hall
                  go_wp2_with fail
                  refine (C0.out _).mono ?_
                  rintro e w0 ⟨rfl, rfl⟩
                  go_wp2_with fail
                  refine (C1.out _).mono ?_
                  rintro e w1 ⟨rfl, rfl⟩
                  go_wp2
                  go_returns
                  exact TkPost.none' ⟨0, []⟩ HV.out rfl hb0
            · obtain rfl : k = s.size := by omega
              have HE := Lib.hid (show ∀ h : s.size < s.size, atomc s[s.size] = false from fun h => absurd h hlt)
              have hrun := run_is s atomc p s.size hpk hall HE.out
              have hl := run_len s p s.size hpk hk
              have c1 := fun W => specAtomOk_any (s.extract p s.size) W (by unfold maxLen; simp; omega)
              rw [ext_list] at c1
              cases ha : atomB ((s.data.toList.drop p).take (s.size - p)) with
              | true =>
                have HV := Lib.hid (show tkS (s.data.toList.drop p) = some (⟨1, (s.data.toList.drop p).take (s.size - p)⟩, s.size - p) by rw [htk, atomS_yes hrun ha, hl])
                rw [ha] at c1
                have C1 := Lib.hid c1
                have HX := Lib.hid (ext_sv s p s.size)
                have hcast := Lib.hid (show ((p + (s.size - p) : Nat) : Int) = (s.size : Int) by omega)
                clear htk hrun hl ha c1 hall
                skip
                go_wp2_with fail
                refine (C1.out _).mono ?_
                rintro e w1 ⟨rfl, rfl⟩
                go_wp2
                exact bodyPost_ret (v := .tuple #[.agg #[.int .i64 1, .string (s.extract p s.size)], .int .i64 (s.size : Int)]) (by simp [results, Tryd.results33, go_sem]) rfl (TkPost.some' HV.out (by rw [HX.out, hcast.out]) ((Below.refl _ _).alloc (Nat.le_refl _) _))
              | false =>
                have HV := Lib.hid (show tkS (s.data.toList.drop p) = none by rw [htk, atomS_no hrun ha])
                rw [ha] at c1
                have C1 := Lib.hid c1
                clear htk hrun hl ha c1 hall
                skip
                go_wp2_with fail
                refine (C1.out _).mono ?_
                rintro e w1 ⟨rfl, rfl⟩
                go_wp2
                go_returns
                exact TkPost.none' ⟨0, []⟩ HV.out rfl hb0

end Go.Proofs.YtldfakcjimaaaaaDoor
