/-
  Chapter 2's walks: the program's Unquote.
-/
import Derived.Test.YtldfakcjimaaaaaDoorWordD
namespace Go.Proofs.YtldfakcjimaaaaaDoor
open Go.RowKit

/-- What the program's loop knows: at place k of the rest, behind a backslash or not. -/
def UqSt (l : List UInt8) (q : Nat) (ab : Bool) (acc : List UInt8) (U : Option (List UInt8 × Nat)) (n : Nat) : Prop := (if ab = true then uqEsc l q acc else uqAt l q acc) = U ∧ n = acc.length

theorem escR_both {r : Int} (h : escR r = true) : ((r == 34) = true ∧ (r == 92) = false) ∨ ((r == 34) = false ∧ (r == 92) = true) := by
  rcases escR_two h with h1 | h1
  · exact .inl ⟨h1, by rw [beq_iff_eq] at h1; subst h1; rfl⟩
  · exact .inr h1
theorem sub_list (s : ByteArray) (p : Nat) : (s.extract p s.size).data.toList = s.data.toList.drop p := by
  rw [Lib.extract_data, List.take_of_length_le]; simp
theorem sub_size (s : ByteArray) (p : Nat) : (s.extract p s.size).size = s.size - p := by simp

theorem uq_full (l : List UInt8) (q : Nat) (acc : List UInt8) (b : UInt8) (h : acc.length = 40) : uqAt l q (acc ++ [b]) = none := uqAt_long l.length l q _ (Nat.le_refl _) (by simp [h])

set_option maxHeartbeats 3200000 in
theorem implUnquote_any (s : ByteArray) (a : Int) (w : World) (hs : s.size ≤ 1048576) :
    Calls Tryd.prog 45 #[.string s, .int .i64 a] w fun e w' => e = .returned (uqV (uqO s.data.toList a)) ∧ Below w.heap.size w w' := by
  by_cases h1 : a < 0
  · have HU := Lib.hid (uqO_neg s.data.toList a h1)
    go_enter Tryd.func45, Tryd.ntmps45
    go_wp2
    go_ret2
    exact ⟨by rw [HU.out]; rfl, Below.refl _ _⟩
  obtain ⟨p, rfl⟩ := Int.eq_ofNat_of_zero_le (show 0 ≤ a by omega)
  by_cases hp : p < s.size
  · have hbn : s[p].toNat < 256 := s[p].toNat_lt
    have hp2 : ¬ (s.size : Int) ≤ (p : Int) := by omega
    have hU := uqO_at s p hp
    by_cases hq : (s[p].toNat : Int) = 34
    · rw [if_pos hq] at hU
      have hq1 : ((s[p].toNat : Int) == 34) = true := by rw [hq]; rfl
      have hq2 := ne_not hq1
      generalize uqO s.data.toList (p : Int) = U at *
      have hsl := sub_list s (p + 1)
      rw [← hsl] at hU
      have HU := Lib.hid hU.symm
      have hsz := sub_size s (p + 1)
      have hk0 : (w.iter (s.extract (p + 1) s.size) 0).heap[w.heap.size]? = some (.stringIter (s.extract (p + 1) s.size) 0) := World.iter_heap w _ 0
      have hb0 : Below w.heap.size w (w.iter (s.extract (p + 1) s.size) 0) := (Below.refl _ w).alloc (Nat.le_refl _) _
      have HK := Lib.hid hk0
      have HZ := Lib.hid hsz
      clear hU hq hsl hk0 hsz
      go_enter Tryd.func45, Tryd.ntmps45
      go_wp2
      generalize s.extract (p + 1) s.size = sub at *
      go_loopw [7, 8] (fun v ab' wr => ∃ (k n : Nat) (acc : List UInt8) (ab : Bool), k ≤ sub.size ∧ n ≤ 40 ∧ ab' = .bool ab ∧ wr.heap[w.heap.size]? = some (.stringIter sub k) ∧ UqSt (sub.data.toList.drop k) (p + 1 + k) ab acc U n ∧ wr.ownsRow w.heap.size 5 1 v n (acc.map bv) ∧ Below w.heap.size w wr) (fun _ _ wr => sub.size - wr.iterPos w.heap.size)
      case atStart => exact ⟨0, 0, [], false, by omega, by omega, rfl, HK.out, ⟨by rw [if_neg (by simp)]; exact HU.out, rfl⟩, ⟨rfl, .inl ⟨rfl, rfl⟩⟩, hb0⟩
      case round =>
        obtain ⟨k, n, acc, ab, hk, hn40, rfl, hit, ⟨hrun, hn⟩, hown, hbr⟩ := hrel
        have HN := Lib.hid hn
        have hmu := Lib.hid (iter_pos hit)
        have hzs : sub.size ≤ 1048576 := by rw [HZ.out]; omega
        clear hq1 hq2 HU hb0 HK HZ
        by_cases hlt : k < sub.size
        · have hbk : sub[k].toNat < 256 := sub[k].toNat_lt
          by_cases ha : sub[k].toNat < 128
          · have hnx : ∀ ty, (Instr.next (.pointer (some ⟨w.heap.size, 0, none⟩)) true ty).run Tryd.prog wr = _ := fun ty => Lib.run_next_ascii_at wr w.heap.size sub k ty hit hlt ha
            have hk1 := Lib.iterAt_heap wr w.heap.size sub k (k + 1) hit
            have hb1 : Below w.heap.size w (wr.iterAt w.heap.size sub (k + 1)) := Lib.below_iterAt hbr (Nat.le_refl _) sub (k + 1)
            have ho1 := own_iterAt hown hit (k + 1)
            have hlt1 : w.heap.size < (wr.iterAt w.heap.size sub (k + 1)).heap.size := (Array.getElem?_eq_some_iff.1 hk1).1
            have hne1 := own_ne_iter ho1 hk1
            have Hk1 := Lib.hid hk1
            clear hit hbr hown hk1
            generalize wr.iterAt w.heap.size sub (k + 1) = W1 at hnx Hk1 hb1 ho1 hlt1
            have hc := fun W => inText_any (sub[k].toNat : Int) W
            have hz1 := hb1.size
            cases hd : txtR (sub[k].toNat : Int) with
            | false =>
              have HR := Lib.hid (show U = none by
                rw [← hrun]
                split
                · refine s_esc_no sub k hlt _ acc ?_
                  cases he : escR (sub[k].toNat : Int) with
                  | false => rfl
                  | true => rw [txtR_esc he] at hd; cases hd
                · exact s_bad sub k hlt _ acc hd)
              rw [hd] at hc
              have HC := Lib.hid hc
              clear hrun hd hc hn ho1
              go_wp2_with fail
              refine (HC.out _).mono ?_
              rintro e w' ⟨rfl, rfl⟩
              go_wp2
              go_ret2
              exact ⟨by rw [HR.out]; rfl, hb1⟩
            | true =>
              have hd1 := txtR_two hd
              rw [hd] at hc
              have HC := Lib.hid hc
              clear hc
              have hc2 := fun W => isEscaped_any (sub[k].toNat : Int) (by omega) (by omega) W
              cases ab with
              | true =>
                rw [if_pos rfl] at hrun
                cases he : escR (sub[k].toNat : Int) with
                | false =>
                  have HR := Lib.hid (show U = none by rw [← hrun, s_esc_no sub k hlt _ acc he])
                  rw [he] at hc2
                  have HC2 := Lib.hid hc2
                  clear hrun hd hc2 hn ho1 he
                  go_wp2_with fail
                  refine (HC.out _).mono ?_
                  rintro e w' ⟨rfl, rfl⟩
                  go_wp2_with fail
                  refine (HC2.out _).mono ?_
                  rintro e w' ⟨rfl, rfl⟩
                  go_wp2
                  go_ret2
                  exact ⟨by rw [HR.out]; rfl, hb1⟩
                | true =>
                  have hr := s_esc sub k hlt (p + 1 + k) acc he
                  rw [hrun] at hr
                  have he2 := escR_both he
                  rw [he] at hc2
                  have HC2 := Lib.hid hc2
                  obtain ⟨pv, cv, rfl⟩ := own_slice ho1
                  clear hrun hd hc2 he
                  cases h40 : ((n : Int) == 40) with
                  | true =>
                    have HR := Lib.hid (show U = none by rw [hr, uq_full _ _ _ _ (by have := beq_iff_eq.1 h40; omega)])
                    clear hr hn ho1
                    rcases he2 with ⟨h3, h4⟩ | ⟨h3, h4⟩
                    all_goals
                      go_wp2_with fail
                      refine (HC.out _).mono ?_
                      rintro e w' ⟨rfl, rfl⟩
                      go_wp2_with fail
                      refine (HC2.out _).mono ?_
                      rintro e w' ⟨rfl, rfl⟩
                      go_wp2
                      go_ret2
                      exact ⟨by rw [HR.out]; rfl, hb1⟩
                  | false =>
                    have HR := Lib.hid hr
                    have hn39 : n + 1 ≤ 40 := by have := beq_eq_false_iff_ne.1 h40; omega
                    clear hr hn
                    rcases he2 with ⟨h3, h4⟩ | ⟨h3, h4⟩
                    all_goals
                      go_wp2_with fail
                      refine (HC.out _).mono ?_
                      rintro e w' ⟨rfl, rfl⟩
                      go_wp2_with fail
                      refine (HC2.out _).mono ?_
                      rintro e w' ⟨rfl, rfl⟩
                      go_wp2_with (at_builtin; refine wpList_app1 Tryd.el_u8 rfl (.tmp 35) (.tmp 38) rfl w W1 (.slice pv n cv) n _ rfl ho1 hb1 hz1 _ (.inr rfl) 1 1 rfl rfl (by simp [Value.oneCell']) (by omega) (by omega) (by omega) ?_)
                      intro g cap w1 hown1 hb2 hg1 _ _
                      have Hk2 := Lib.hid ((hg1.block w.heap.size hlt1 hne1).trans Hk1.out)
                      clear ho1 hb1 hg1 hne1 hlt1 Hk1 hz1 hnx
                      go_wp2
                      go_roundw
                      case rel => exact ⟨k + 1, n + 1, acc ++ [sub[k]], false, by omega, hn39, rfl, Hk2.out, ⟨by rw [if_neg (by simp)]; exact HR.out.symm, by rw [HN.out]; simp⟩, by rw [List.map_append]; exact hown1, hb2⟩
                      case measure => rw [hmu.out, iter_pos Hk2.out]; omega
              | false =>
                rw [if_neg (by simp)] at hrun
                cases h3 : ((sub[k].toNat : Int) == 34) with
                | true =>
                  have HR := Lib.hid (show U = some (acc, p + 1 + k + 1) by rw [← hrun, s_quote sub k hlt _ acc h3 (by omega)])
                  have hback := conv_own (P := Tryd.prog) 22 9 5 ho1 hn.symm Tryd.underlying22 Tryd.underlying5 Tryd.underlying9
                  have hcast := Lib.hid (show ((p + 1 + k + 1 : Nat) : Int) = (p : Int) + 1 + (k : Int) + 1 by omega)
                  clear hrun hd hc2 hn ho1
                  go_wp2_with fail
                  refine (HC.out _).mono ?_
                  rintro e w' ⟨rfl, rfl⟩
                  go_wp2
                  go_ret2
                  exact ⟨by rw [HR.out, uqV_some, hcast.out]; rfl, hb1⟩
                | false =>
                  cases h4 : ((sub[k].toNat : Int) == 92) with
                  | true =>
                    have HR := Lib.hid (show uqEsc (sub.data.toList.drop (k + 1)) (p + 1 + k + 1) acc = U by rw [← hrun, s_slash sub k hlt _ acc h4])
                    clear hrun hd hc2 hn
                    go_wp2_with fail
                    refine (HC.out _).mono ?_
                    rintro e w' ⟨rfl, rfl⟩
                    go_wp2
                    go_roundw
                    case rel => exact ⟨k + 1, n, acc, true, by omega, hn40, rfl, Hk1.out, ⟨by rw [if_pos rfl]; exact HR.out, HN.out⟩, ho1, hb1⟩
                    case measure => rw [hmu.out, iter_pos Hk1.out]; omega
                  | false =>
                    have hr := s_plain sub k hlt (p + 1 + k) acc h3 h4 hd
                    rw [hrun] at hr
                    obtain ⟨pv, cv, rfl⟩ := own_slice ho1
                    clear hrun hd hc2
                    cases h40 : ((n : Int) == 40) with
                    | true =>
                      have HR := Lib.hid (show U = none by rw [hr, uq_full _ _ _ _ (by have := beq_iff_eq.1 h40; omega)])
                      clear hr hn ho1
                      go_wp2_with fail
                      refine (HC.out _).mono ?_
                      rintro e w' ⟨rfl, rfl⟩
                      go_wp2
                      go_ret2
                      exact ⟨by rw [HR.out]; rfl, hb1⟩
                    | false =>
                      have HR := Lib.hid hr
                      have hn39 : n + 1 ≤ 40 := by have := beq_eq_false_iff_ne.1 h40; omega
                      clear hr hn
                      go_wp2_with fail
                      refine (HC.out _).mono ?_
                      rintro e w' ⟨rfl, rfl⟩
                      go_wp2_with (at_builtin; refine wpList_app1 Tryd.el_u8 rfl (.tmp 35) (.tmp 38) rfl w W1 (.slice pv n cv) n _ rfl ho1 hb1 hz1 _ (.inr rfl) 1 1 rfl rfl (by simp [Value.oneCell']) (by omega) (by omega) (by omega) ?_)
                      intro g cap w1 hown1 hb2 hg1 _ _
                      have Hk2 := Lib.hid ((hg1.block w.heap.size hlt1 hne1).trans Hk1.out)
                      clear ho1 hb1 hg1 hne1 hlt1 Hk1 hz1 hnx
                      go_wp2
                      go_roundw
                      case rel => exact ⟨k + 1, n + 1, acc ++ [sub[k]], false, by omega, hn39, rfl, Hk2.out, ⟨by rw [if_neg (by simp)]; exact HR.out.symm, by rw [HN.out]; simp⟩, by rw [List.map_append]; exact hown1, hb2⟩
                      case measure => rw [hmu.out, iter_pos Hk2.out]; omega
          · have hnx : ∀ ty, (Instr.next (.pointer (some ⟨w.heap.size, 0, none⟩)) true ty).run Tryd.prog wr = _ := fun ty => Lib.run_next_any_at wr w.heap.size sub k ty hit hlt
            have hhi := (decode_high sub k hlt (by omega)).1
            have hb1 : Below w.heap.size w (wr.iterAt w.heap.size sub (k + (Utf8.decode sub k).2)) := Lib.below_iterAt hbr (by omega) sub _
            have hno : txtR (sub[k].toNat : Int) = false := txtR_false (by omega)
            have HR := Lib.hid (show U = none by
              rw [← hrun]
              split
              · refine s_esc_no sub k hlt _ acc ?_
                cases he : escR (sub[k].toNat : Int) with
                | false => rfl
                | true => rw [txtR_esc he] at hno; cases hno
              · exact s_bad sub k hlt _ acc hno)
            clear hit hbr hown hrun hn hno
            generalize wr.iterAt w.heap.size sub (k + (Utf8.decode sub k).2) = W1 at hnx hb1
            generalize (Utf8.decode sub k).1 = r at hnx hhi
            have hc := fun W => inText_any (r : Int) W
            rw [txtR_false (by omega)] at hc
            have HC := Lib.hid hc
            clear hc
            go_wp2_with fail
            refine (HC.out _).mono ?_
            rintro e w' ⟨rfl, rfl⟩
            go_wp2
            go_ret2
            exact ⟨by rw [HR.out]; rfl, hb1⟩
        · have hnx : ∀ ty, (Instr.next (.pointer (some ⟨w.heap.size, 0, none⟩)) true ty).run Tryd.prog wr = _ := fun ty => Lib.run_next_end_at wr w.heap.size sub k ty hit hlt
          have HR := Lib.hid (show U = none by
            rw [← hrun]
            split
            · exact s_esc_end sub k hlt _ acc
            · exact s_end sub k hlt _ acc)
          clear hit hrun hn hown
          go_wp2
          go_ret2
          exact ⟨by rw [HR.out]; rfl, hbr⟩
    · rw [if_neg hq] at hU
      have hq1 : ((s[p].toNat : Int) == 34) = false := by simpa using hq
      have hq2 := ne_yes hq1
      have HU := Lib.hid hU
      clear hU hq
      go_enter Tryd.func45, Tryd.ntmps45
      go_wp2
      go_ret2
      exact ⟨by rw [HU.out]; rfl, Below.refl _ _⟩
  · have hp2 : (s.size : Int) ≤ (p : Int) := by omega
    have HU := Lib.hid (uqO_far s p hp)
    clear hp
    go_enter Tryd.func45, Tryd.ntmps45
    go_wp2
    go_ret2
    exact ⟨by rw [HU.out]; rfl, Below.refl _ _⟩

end Go.Proofs.YtldfakcjimaaaaaDoor
