/-
  Chapter 2's walks: Unquote, the model's and the program's.
-/
import Derived.Test.YtldfakcjimaaaaaDoorWordC
namespace Go.Proofs.YtldfakcjimaaaaaDoor
open Go.RowKit

theorem uqV_none : uqV none = .tuple #[.string ⟨#[]⟩, .int .i64 (-1)] := rfl
theorem uqV_some (t : List UInt8) (n : Nat) : uqV (some (t, n)) = .tuple #[sv t, .int .i64 (n : Int)] := rfl
theorem uqO_neg (l : List UInt8) (a : Int) (h : a < 0) : uqO l a = none := if_pos h
theorem uqO_far (s : ByteArray) (p : Nat) (h : ¬ p < s.size) : uqO s.data.toList (p : Int) = none := by
  unfold uqO
  rw [if_neg (by omega), Int.toNat_natCast, drop_str_end s p h]
theorem uqO_at (s : ByteArray) (p : Nat) (h : p < s.size) : uqO s.data.toList (p : Int) = if (s[p].toNat : Int) = 34 then uqAt (s.data.toList.drop (p + 1)) (p + 1) [] else none := by
  unfold uqO
  rw [if_neg (by omega), Int.toNat_natCast, drop_str s p h]
  simp only
  by_cases h1 : s[p].toNat = 34
  · rw [if_pos h1, if_pos (by omega)]
  · rw [if_neg h1, if_neg (by omega)]
theorem take_bytes_lit (v : List UInt8) (b : UInt8) : (v ++ [b]).map bv = v.map bv ++ [bv b] := by simp

theorem s_quote (s : ByteArray) (k : Nat) (h : k < s.size) (q : Nat) (acc : List UInt8) (hb : ((s[k].toNat : Int) == 34) = true) (h2 : ¬ 40 < (acc.length : Int)) : uqAt (s.data.toList.drop k) q acc = some (acc, q + 1) := by
  rw [drop_str s k h, uqAt_quote _ _ _ (by have := beq_iff_eq.1 hb; omega), if_neg (by omega)]
theorem s_quote_long (s : ByteArray) (k : Nat) (h : k < s.size) (q : Nat) (acc : List UInt8) (hb : ((s[k].toNat : Int) == 34) = true) (h2 : 40 < (acc.length : Int)) : uqAt (s.data.toList.drop k) q acc = none := by
  rw [drop_str s k h, uqAt_quote _ _ _ (by have := beq_iff_eq.1 hb; omega), if_pos (by omega)]
theorem s_slash (s : ByteArray) (k : Nat) (h : k < s.size) (q : Nat) (acc : List UInt8) (hb : ((s[k].toNat : Int) == 92) = true) : uqAt (s.data.toList.drop k) q acc = uqEsc (s.data.toList.drop (k + 1)) (q + 1) acc := by
  rw [drop_str s k h, uqAt_slash _ _ _ (by have := beq_iff_eq.1 hb; omega)]
theorem s_esc (s : ByteArray) (k : Nat) (h : k < s.size) (q : Nat) (acc : List UInt8) (hb : escR (s[k].toNat : Int) = true) : uqEsc (s.data.toList.drop k) q acc = uqAt (s.data.toList.drop (k + 1)) (q + 1) (acc ++ [s[k]]) := by
  rw [escR_byte] at hb
  rw [drop_str s k h, uqEsc_yes _ _ _ hb]
theorem s_esc_no (s : ByteArray) (k : Nat) (h : k < s.size) (q : Nat) (acc : List UInt8) (hb : escR (s[k].toNat : Int) = false) : uqEsc (s.data.toList.drop k) q acc = none := by
  rw [escR_byte] at hb
  rw [drop_str s k h, uqEsc_no _ _ _ hb]
theorem s_esc_end (s : ByteArray) (k : Nat) (h : ¬ k < s.size) (q : Nat) (acc : List UInt8) : uqEsc (s.data.toList.drop k) q acc = none := by
  rw [drop_str_end s k h]; rfl
theorem s_bad (s : ByteArray) (k : Nat) (h : k < s.size) (q : Nat) (acc : List UInt8) (hb : txtR (s[k].toNat : Int) = false) : uqAt (s.data.toList.drop k) q acc = none := by
  rw [txtR_byte] at hb
  rw [drop_str s k h, uqAt_bad _ _ _ hb]
theorem s_plain (s : ByteArray) (k : Nat) (h : k < s.size) (q : Nat) (acc : List UInt8) (h3 : ((s[k].toNat : Int) == 34) = false) (h4 : ((s[k].toNat : Int) == 92) = false) (hb : txtR (s[k].toNat : Int) = true) : uqAt (s.data.toList.drop k) q acc = uqAt (s.data.toList.drop (k + 1)) (q + 1) (acc ++ [s[k]]) := by
  rw [txtR_byte] at hb
  have e3 := beq_eq_false_iff_ne.1 h3
  have e4 := beq_eq_false_iff_ne.1 h4
  rw [drop_str s k h, uqAt_plain _ _ _ (by omega) (by omega) hb]
theorem s_end (s : ByteArray) (k : Nat) (h : ¬ k < s.size) (q : Nat) (acc : List UInt8) : uqAt (s.data.toList.drop k) q acc = none := by
  rw [drop_str_end s k h, uqAt_nil]
theorem escR_two {r : Int} (h : escR r = true) : (r == 34) = true ∨ (r == 34) = false ∧ (r == 92) = true := by
  unfold escR at h
  simp only [Bool.or_eq_true, decide_eq_true_eq] at h
  by_cases h1 : r = 34
  · exact .inl (by rw [h1]; rfl)
  · exact .inr ⟨by simpa using h1, by simpa using h.resolve_left h1⟩
theorem escR_none {r : Int} (h : escR r = false) : (r == 34) = false ∧ (r == 92) = false := by
  unfold escR at h
  simp only [Bool.or_eq_false_iff, decide_eq_false_iff_not] at h
  exact ⟨by simpa using h.1, by simpa using h.2⟩
theorem txtR_out {r : Int} (h : txtR r = false) : r < 32 ∨ ¬ r < 32 ∧ 126 < r := by
  by_cases h1 : r < 32
  · exact .inl h1
  by_cases h2 : 126 < r
  · exact .inr ⟨h1, h2⟩
  rw [txtR_true (by omega) (by omega)] at h; cases h
theorem txtR_two {r : Int} (h : txtR r = true) : ¬ r < 32 ∧ ¬ 126 < r := by
  constructor
  · intro h1; rw [txtR_false (by omega)] at h; cases h
  · intro h1; rw [txtR_false (by omega)] at h; cases h
theorem txtR_esc {r : Int} (h : escR r = true) : txtR r = true := by
  rcases escR_two h with h1 | ⟨_, h1⟩
  · rw [beq_iff_eq] at h1; subst h1; rfl
  · rw [beq_iff_eq] at h1; subst h1; rfl
theorem ne_not {a b : Int} (h : (a == b) = true) : (a != b) = false := by simp only [bne, h]; rfl
theorem ne_yes {a b : Int} (h : (a == b) = false) : (a != b) = true := by simp only [bne, h]; rfl

theorem own_slice {w : World} {B n size : Nat} {e : TypeId} {v : Value} {xs : List Value} (h : w.ownsRow B e size v n xs) : ∃ p c, v = .slice p n c := by
  rcases h.2 with ⟨hv, h0⟩ | ⟨g, cap, cur, hv, _⟩
  · exact ⟨none, 0, by rw [hv, h0]⟩
  · exact ⟨_, cap, hv⟩

/-- What the loop of spec.Unquote knows. -/
def UqRel (s : ByteArray) (U : Option (List UInt8 × Nat)) (k : Nat) (acc : List UInt8) (n : Nat) : Prop := uqAt (s.data.toList.drop k) k acc = U ∧ n = acc.length

set_option maxHeartbeats 3200000 in
theorem specUnquote_any (s : ByteArray) (a : Int) (w : World) (hs : s.size ≤ 1048576) :
    Calls Tryd.prog 48 #[.string s, .int .i64 a] w fun e w' => e = .returned (uqV (uqO s.data.toList a)) ∧ Below w.heap.size w w' := by
  by_cases hin : 0 ≤ a ∧ a ≤ (s.size : Int) - 1
  · have hl := fun W => l1In_any a 0 ((s.size : Int) - 1) W
    rw [show (decide ((0 : Int) ≤ a) && decide (a ≤ (s.size : Int) - 1)) = true by simp [hin]] at hl
    have HL := Lib.hid hl
    clear hl
    obtain ⟨p, rfl⟩ := Int.eq_ofNat_of_zero_le hin.1
    have hp : p < s.size := by omega
    have hbn : s[p].toNat < 256 := s[p].toNat_lt
    have hU := uqO_at s p hp
    clear hin
    by_cases hq : (s[p].toNat : Int) = 34
    · rw [if_pos hq] at hU
      have hq1 : ((s[p].toNat : Int) == 34) = true := by rw [hq]; rfl
      have hq2 := ne_not hq1
      generalize uqO s.data.toList (p : Int) = U at *
      have HU := Lib.hid hU.symm
      clear hU hq
      go_enter Tryd.func48, Tryd.ntmps48
      go_wp2_with fail
      refine (HL.out _).mono ?_
      rintro e w' ⟨rfl, rfl⟩
      go_wp2
      go_loopw [6, 7] (fun v i wr => ∃ (k n : Nat) (acc : List UInt8), k ≤ s.size ∧ n ≤ k ∧ i = .int .i64 k ∧ UqRel s U k acc n ∧ wr.ownsRow w.heap.size 5 1 v n (acc.map bv) ∧ Below w.heap.size w wr) (fun _ i _ => s.size - (intOf i).toNat)
      case atStart => exact ⟨p + 1, 0, [], by omega, by omega, by go_num, ⟨HU.out, rfl⟩, by simpa using World.ownsRow_made w #[] 0 (Nat.le_refl _) (by unfold maxLen; omega) rfl, (Below.refl _ _).alloc (Nat.le_refl _) _⟩
      case round =>
        obtain ⟨k, n, acc, hk, hnk, rfl, ⟨hrun, hn⟩, hown, hbr⟩ := hrel
        have HN := Lib.hid hn
        have hbr0 := hbr.size
        clear hq1 hq2 HU HL
        by_cases hlt : k < s.size
        · have hbk : s[k].toNat < 256 := s[k].toNat_lt
          cases h3 : ((s[k].toNat : Int) == 34) with
          | true =>
            obtain ⟨pv, cv, rfl⟩ := own_slice hown
            by_cases h40 : 40 < (n : Int)
            · have hr := s_quote_long s k hlt k acc h3 (by omega)
              have HR := Lib.hid (show U = none by rw [← hrun, hr])
              clear hrun hr hn hown
              go_wp2
              go_ret2
              exact ⟨by rw [HR.out]; rfl, hbr⟩
            · have hr := s_quote s k hlt k acc h3 (by omega)
              have HR := Lib.hid (show U = some (acc, k + 1) by rw [← hrun, hr])
              have hback := conv_own (P := Tryd.prog) 22 9 5 hown hn.symm Tryd.underlying22 Tryd.underlying5 Tryd.underlying9
              clear hrun hr hn hown
              go_wp2
              go_ret2
              exact ⟨by rw [HR.out, uqV_some]; rfl, hbr⟩
          | false =>
            cases h4 : ((s[k].toNat : Int) == 92) with
            | true =>
              have hr := s_slash s k hlt k acc h4
              by_cases hlt2 : k + 1 < s.size
              · have hlt3 : ¬ (s.size : Int) ≤ (k : Int) + 1 := by omega
                have hbk2 : s[k + 1].toNat < 256 := s[k + 1].toNat_lt
                cases he : escR (s[k + 1].toNat : Int) with
                | true =>
                  have HR := Lib.hid (show uqAt (s.data.toList.drop (k + 1 + 1)) (k + 1 + 1) (acc ++ [s[k + 1]]) = U by rw [← hrun, hr, s_esc s (k + 1) hlt2 (k + 1) acc he])
                  have he2 := escR_two he
                  clear hrun hr hn he
                  rcases he2 with h5 | ⟨h5, h6⟩
                  · have h7 := ne_not h5
                    go_wp2_with (at_builtin; refine wpList_app1 Tryd.el_u8 rfl (.tmp 75) (.tmp 79) rfl w wr u6 n _ rfl hown hbr hbr0 _ (.inr rfl) 1 1 rfl rfl (by simp [Value.oneCell']) (by omega) (by omega) (by omega) ?_)
                    intro g cap w1 hown1 hb1 _ _ _
                    clear hown hbr hbr0
                    go_wp2
                    go_roundw
                    case rel => exact ⟨k + 1 + 1, n + 1, acc ++ [s[k + 1]], by omega, by omega, by go_num, ⟨HR.out, by rw [HN.out]; simp⟩, by rw [List.map_append]; exact hown1, hb1⟩
                    case measure => simp [intOf]; omega
                  · have h7 := ne_yes h5
                    have h8 := ne_not h6
                    go_wp2_with (at_builtin; refine wpList_app1 Tryd.el_u8 rfl (.tmp 75) (.tmp 79) rfl w wr u6 n _ rfl hown hbr hbr0 _ (.inr rfl) 1 1 rfl rfl (by simp [Value.oneCell']) (by omega) (by omega) (by omega) ?_)
                    intro g cap w1 hown1 hb1 _ _ _
                    clear hown hbr hbr0
                    go_wp2
                    go_roundw
                    case rel => exact ⟨k + 1 + 1, n + 1, acc ++ [s[k + 1]], by omega, by omega, by go_num, ⟨HR.out, by rw [HN.out]; simp⟩, by rw [List.map_append]; exact hown1, hb1⟩
                    case measure => simp [intOf]; omega
                | false =>
                  have HR := Lib.hid (show U = none by rw [← hrun, hr, s_esc_no s (k + 1) hlt2 (k + 1) acc he])
                  obtain ⟨h5, h6⟩ := escR_none he
                  have h7 := ne_yes h5
                  have h8 := ne_yes h6
                  clear hrun hr hn he hown
                  go_wp2
                  go_ret2
                  exact ⟨by rw [HR.out]; rfl, hbr⟩
              · have hlt3 : (s.size : Int) ≤ (k : Int) + 1 := by omega
                have HR := Lib.hid (show U = none by rw [← hrun, hr, s_esc_end s (k + 1) hlt2 (k + 1) acc])
                clear hrun hr hn hown
                go_wp2
                go_ret2
                exact ⟨by rw [HR.out]; rfl, hbr⟩
            | false =>
              cases hd : txtR (s[k].toNat : Int) with
              | true =>
                have HR := Lib.hid (show uqAt (s.data.toList.drop (k + 1)) (k + 1) (acc ++ [s[k]]) = U by rw [← hrun, s_plain s k hlt k acc h3 h4 hd])
                obtain ⟨h5, h6⟩ := txtR_two hd
                clear hrun hn hd
                go_wp2_with (at_builtin; refine wpList_app1 Tryd.el_u8 rfl (.tmp 75) (.tmp 79) rfl w wr u6 n _ rfl hown hbr hbr0 _ (.inr rfl) 1 1 rfl rfl (by simp [Value.oneCell']) (by omega) (by omega) (by omega) ?_)
                intro g cap w1 hown1 hb1 _ _ _
                clear hown hbr hbr0
                go_wp2
                go_roundw
                case rel => exact ⟨k + 1, n + 1, acc ++ [s[k]], by omega, by omega, by go_num, ⟨HR.out, by rw [HN.out]; simp⟩, by rw [List.map_append]; exact hown1, hb1⟩
                case measure => simp [intOf]; omega
              | false =>
                have HR := Lib.hid (show U = none by rw [← hrun, s_bad s k hlt k acc hd])
                have h5 := txtR_out hd
                clear hrun hn hd hown
                rcases h5 with h5 | ⟨h5, h6⟩
                all_goals
                  go_wp2
                  go_ret2
                  exact ⟨by rw [HR.out]; rfl, hbr⟩
        · obtain rfl : k = s.size := by omega
          have HR := Lib.hid (show U = none by rw [← hrun, s_end s s.size hlt s.size acc])
          clear hrun hn hown
          go_wp2
          go_ret2
          exact ⟨by rw [HR.out]; rfl, hbr⟩
    · rw [if_neg hq] at hU
      have hq1 : ((s[p].toNat : Int) == 34) = false := by simpa using hq
      have hq2 := ne_yes hq1
      have HU := Lib.hid hU
      clear hU hq
      go_enter Tryd.func48, Tryd.ntmps48
      go_wp2_with fail
      refine (HL.out _).mono ?_
      rintro e w' ⟨rfl, rfl⟩
      go_wp2
      go_ret2
      exact ⟨by rw [HU.out]; rfl, Below.refl _ _⟩
  · have hl := fun W => l1In_any a 0 ((s.size : Int) - 1) W
    rw [show (decide ((0 : Int) ≤ a) && decide (a ≤ (s.size : Int) - 1)) = false by rw [← Bool.decide_and]; exact decide_eq_false hin] at hl
    have HL := Lib.hid hl
    have hU : uqO s.data.toList a = none := by
      by_cases h : a < 0
      · exact uqO_neg _ _ h
      · obtain ⟨p, rfl⟩ := Int.eq_ofNat_of_zero_le (show 0 ≤ a by omega)
        exact uqO_far s p (by omega)
    have HU := Lib.hid hU
    clear hl hU hin
    go_enter Tryd.func48, Tryd.ntmps48
    go_wp2_with fail
    refine (HL.out _).mono ?_
    rintro e w' ⟨rfl, rfl⟩
    go_wp2
    go_ret2
    exact ⟨by rw [HU.out]; rfl, Below.refl _ _⟩

end Go.Proofs.YtldfakcjimaaaaaDoor
