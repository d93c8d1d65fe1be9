/-
  Chapter 2's walks: Quote, Word, the model's and the program's.
-/
import Derived.Test.YtldfakcjimaaaaaDoorWordB
namespace Go.Proofs.YtldfakcjimaaaaaDoor
open Go.RowKit

theorem own_lit (w : World) (cs : Array Value) (n : Nat) (e : TypeId) (size base : Nat) (hb : base ≤ w.heap.size) (hm : n ≤ maxLen) (hs : cs.size = n * size) :
    (w.alloc (.cells cs e)).ownsRow base e size (.slice (some ⟨w.heap.size, 0, none⟩) n n) n cs.toList :=
  ⟨by simpa using hs, .inr ⟨w.heap.size, n, cs, rfl, hb, heap_alloc_new w _, Nat.le_refl _, hm, hs, by rw [List.take_of_length_le]; simp [hs]⟩⟩
/-- A row stays owned where its own block stands. -/
theorem own_stands {w w' : World} {B e size n : Nat} {v : Value} {xs : List Value} (h : w.ownsRow B e size v n xs) (hb : ∀ g, v.ownBlock = some g → w'.heap[g]? = w.heap[g]?) : w'.ownsRow B e size v n xs :=
  ⟨h.1, h.2.imp id fun ⟨g, cap, cur, hv, h1, h2, h3⟩ => ⟨g, cap, cur, hv, h1, (hb g (by rw [hv]; rfl)).trans h2, h3⟩⟩
/-- An owned row's block holds cells: it is no iterator's. -/
theorem own_no_iter {w : World} {B e size n : Nat} {v : Value} {xs : List Value} (h : w.ownsRow B e size v n xs) {g k pos : Nat} {s : ByteArray} (hg : v.ownBlock = some g) (hk : w.heap[k]? = some (.stringIter s pos)) : g ≠ k := by
  intro e
  rcases h.2 with ⟨hv, _⟩ | ⟨g', _, _, hv, _, h2, _⟩
  · rw [hv] at hg; simp [Value.ownBlock] at hg
  · rw [hv] at hg
    obtain rfl : g' = g := by simpa [Value.ownBlock] using hg
    rw [e, hk] at h2
    cases h2
theorem own_iterAt {w : World} {B e size n : Nat} {v : Value} {xs : List Value} {k : Nat} {s : ByteArray} {pos : Nat} (h : w.ownsRow B e size v n xs) (hk : w.heap[k]? = some (.stringIter s pos)) (pos' : Nat) : (w.iterAt k s pos').ownsRow B e size v n xs :=
  own_stands h fun _ hg => Lib.iterAt_other _ _ _ _ _ (own_no_iter h hg hk)
theorem own_ne_iter {w : World} {B e size n : Nat} {v : Value} {xs : List Value} {k : Nat} {s : ByteArray} {pos : Nat} (h : w.ownsRow B e size v n xs) (hk : w.heap[k]? = some (.stringIter s pos)) : some k ≠ v.ownBlock :=
  fun e => own_no_iter h e.symm hk rfl

theorem ne_not' {a b : Int} (h : (a == b) = true) : (a != b) = false := by simp only [bne, h]; rfl
theorem ne_yes' {a b : Int} (h : (a == b) = false) : (a != b) = true := by simp only [bne, h]; rfl

/-- Quoted so far. -/
def qd (l : List UInt8) : List UInt8 := 34 :: escl l
theorem qd_snoc_esc (l : List UInt8) (b : UInt8) (h : escc b = true) : qd (l ++ [b]) = qd l ++ [92, b] := by unfold qd; rw [escl_snoc]; simp [esc1, h]
theorem qd_snoc (l : List UInt8) (b : UInt8) (h : escc b = false) : qd (l ++ [b]) = qd l ++ [b] := by unfold qd; rw [escl_snoc]; simp [esc1, h]
theorem qd_len (l : List UInt8) : (qd l).length ≤ 2 * l.length + 1 := by have := escl_le l; simp [qd]; omega
theorem quote_long (s : ByteArray) (h : 40 < (s.size : Int)) : sv (quoteL s.data.toList) = .string ⟨#[]⟩ := by rw [quoteL_no _ (.inr (by simp; omega))]
theorem quote_bad (s : ByteArray) (k : Nat) (h : k < s.size) (hn : txtR (s[k].toNat : Int) = false) : sv (quoteL s.data.toList) = .string ⟨#[]⟩ := by
  rw [txtR_byte] at hn
  rw [quoteL_no _ (.inl (all_not txtc s k h hn))]
theorem quote_end (s : ByteArray) (h : s.data.toList.all txtc = true) (hs : s.size ≤ 40) : quoteL s.data.toList = qd s.data.toList ++ [34] := by
  rw [quoteL_yes _ h (by simpa using hs)]; rfl
theorem qd_take (s : ByteArray) (k : Nat) (h : k < s.size) (he : escR (s[k].toNat : Int) = true) : qd (s.data.toList.take (k + 1)) = qd (s.data.toList.take k) ++ [92, s[k]] := by
  rw [escR_byte] at he
  rw [take_str s k h, qd_snoc_esc _ _ he]
theorem qd_take' (s : ByteArray) (k : Nat) (h : k < s.size) (he : escR (s[k].toNat : Int) = false) : qd (s.data.toList.take (k + 1)) = qd (s.data.toList.take k) ++ [s[k]] := by
  rw [escR_byte] at he
  rw [take_str s k h, qd_snoc _ _ he]
theorem take_le (s : ByteArray) (k : Nat) : (s.data.toList.take k).length ≤ k := List.length_take_le _ _
/-- A byte more behind a row of bytes. -/
theorem map_snoc_bv (l : List UInt8) (b : UInt8) : l.map bv ++ [.int .u8 (b.toNat : Int)] = (l ++ [b]).map bv := by simp [bv]

set_option maxHeartbeats 1600000 in
theorem specQuote_any (s : ByteArray) (w : World) (hs : s.size ≤ maxLen) :
    Calls Tryd.prog 35 #[.string s] w fun e w' => e = .returned (sv (quoteL s.data.toList)) ∧ Below w.heap.size w w' := by
  unfold maxLen at hs
  by_cases hl : 40 < (s.size : Int)
  · have HQ := Lib.hid (quote_long s hl)
    go_enter Tryd.func35, Tryd.ntmps35
    go_wp2
    go_ret
    exact ⟨by rw [HQ.out]; rfl, Below.refl _ _⟩
  · go_enter Tryd.func35, Tryd.ntmps35
    go_wp2
    go_loopw [3, 4] (fun v i wr => ∃ k n : Nat, k ≤ s.size ∧ i = .int .i64 k ∧ n = (qd (s.data.toList.take k)).length ∧ (s.data.toList.take k).all txtc = true ∧ wr.ownsRow w.heap.size 5 1 v n ((qd (s.data.toList.take k)).map bv) ∧ Below w.heap.size w wr) (fun _ i _ => s.size - (intOf i).toNat)
    case atStart => exact ⟨0, 1, Nat.zero_le _, rfl, rfl, rfl, own_lit w #[.int .u8 34] 1 5 1 w.heap.size (Nat.le_refl _) (by unfold maxLen; omega) rfl, (Below.refl _ _).alloc (Nat.le_refl _) _⟩
    case round =>
      obtain ⟨k, n, hk, rfl, hn, hall, hown, hbr⟩ := hrel
      have Hall := Lib.hid hall
      have HN := Lib.hid hn
      have hnle : n ≤ 2 * k + 1 := by rw [hn]; have := qd_len (s.data.toList.take k); have := take_le s k; omega
      clear hall hn
      have hbr0 := hbr.size
      by_cases hlt : k < s.size
      · have hbn : s[k].toNat < 256 := s[k].toNat_lt
        cases hd : txtR (s[k].toNat : Int) with
        | false =>
          have HB := Lib.hid (quote_bad s k hlt hd)
          have hd2 : (s[k].toNat : Int) < 32 ∨ ¬ (s[k].toNat : Int) < 32 ∧ 126 < (s[k].toNat : Int) := by
            by_cases h1 : (s[k].toNat : Int) < 32
            · exact .inl h1
            by_cases h2 : 126 < (s[k].toNat : Int)
            · exact .inr ⟨h1, h2⟩
            rw [txtR_true (by omega) (by omega)] at hd; cases hd
          clear hd hown
          rcases hd2 with h1 | ⟨h1, h2⟩
          · go_wp2
            go_ret
            exact ⟨by rw [HB.out]; rfl, hbr⟩
          · go_wp2
            go_ret
            exact ⟨by rw [HB.out]; rfl, hbr⟩
        | true =>
          have HA := Lib.hid (all_take txtc s k hlt)
          have Hd := Lib.hid hd
          have h1 : ¬ (s[k].toNat : Int) < 32 := fun h => by rw [txtR_false (by omega)] at hd; cases hd
          have h2 : ¬ 126 < (s[k].toNat : Int) := fun h => by rw [txtR_false (by omega)] at hd; cases hd
          clear hd
          cases he : escR (s[k].toNat : Int) with
          | true =>
            have HT := Lib.hid (qd_take s k hlt he)
            have he2 : ((s[k].toNat : Int) == 34) = true ∨ ((s[k].toNat : Int) == 34) = false ∧ ((s[k].toNat : Int) == 92) = true := by
              unfold escR at he
              simp only [Bool.or_eq_true, decide_eq_true_eq] at he
              by_cases h : (s[k].toNat : Int) = 34
              · exact .inl (by rw [h]; rfl)
              · exact .inr ⟨by simpa using h, by simpa using he.resolve_left h⟩
            clear he
            rcases he2 with h3 | ⟨h3, h4⟩
            all_goals
              go_wp2_with (at_builtin; refine wpList_app1 Tryd.el_u8 rfl (.tmp 35) (.tmp 36) rfl w wr u3 n _ rfl hown hbr hbr0 _ (.inr rfl) 1 1 rfl rfl (by simp [Value.oneCell']) (by omega) (by omega) (by omega) ?_)
              intro g cap w1 hown1 hb1 _ _ _
              have hz1 := hb1.size
              clear hown hbr hbr0
              go_wp2_with (at_builtin; refine wpList_app1 Tryd.el_u8 rfl (.tmp 38) (.tmp 42) rfl w w1 _ (n + 1) _ rfl hown1 hb1 hz1 _ (.inr rfl) 1 1 rfl rfl (by simp [Value.oneCell']) (by omega) (by omega) (by omega) ?_)
              intro g2 cap2 w2 hown2 hb2 _ _ _
              clear hown1 hb1 hz1
              go_wp2
              go_roundw
              case rel =>
                refine ⟨k + 1, n + 1 + 1, by omega, by go_num, by rw [HT.out, HN.out]; simp, by rw [HA.out, Hall.out, ← txtR_byte, Hd.out]; rfl, ?_, hb2⟩
                rw [HT.out, List.map_append]
                exact hown2
              case measure => simp [intOf]; omega
          | false =>
            have HT := Lib.hid (qd_take' s k hlt he)
            have h3 : ((s[k].toNat : Int) == 34) = false := by unfold escR at he; simp only [Bool.or_eq_false_iff, decide_eq_false_iff_not] at he; simpa using he.1
            have h4 : ((s[k].toNat : Int) == 92) = false := by unfold escR at he; simp only [Bool.or_eq_false_iff, decide_eq_false_iff_not] at he; simpa using he.2
            clear he
            go_wp2_with (at_builtin; refine wpList_app1 Tryd.el_u8 rfl (.tmp 38) (.tmp 42) rfl w wr u3 n _ rfl hown hbr hbr0 _ (.inr rfl) 1 1 rfl rfl (by simp [Value.oneCell']) (by omega) (by omega) (by omega) ?_)
            intro g cap w1 hown1 hb1 _ _ _
            clear hown hbr hbr0
            go_wp2
            go_roundw
            case rel =>
              refine ⟨k + 1, n + 1, by omega, by go_num, by rw [HT.out, HN.out]; simp, by rw [HA.out, Hall.out, ← txtR_byte, Hd.out]; rfl, ?_, hb1⟩
              rw [HT.out, List.map_append]
              exact hown1
            case measure => simp [intOf]; omega
      · obtain rfl : k = s.size := by omega
        rw [take_str_all] at Hall hown HN
        have HE := Lib.hid (quote_end s Hall.out (by omega))
        clear Hall
        go_wp2_with (at_builtin; refine wpList_app1 Tryd.el_u8 rfl (.tmp 44) (.tmp 45) rfl w wr u3 n _ rfl hown hbr hbr0 _ (.inr rfl) 1 1 rfl rfl (by simp [Value.oneCell']) (by omega) (by omega) (by omega) ?_)
        intro g cap w1 hown1 hb1 _ _ _
        have hback := conv_own (P := Tryd.prog) (l := qd s.data.toList ++ [34]) 22 9 5 (by rw [List.map_append]; exact hown1) (by rw [HN.out]; simp) Tryd.underlying22 Tryd.underlying5 Tryd.underlying9
        clear hown hbr hbr0 hown1
        go_wp2
        go_ret
        exact ⟨by rw [HE.out]; rfl, hb1⟩

set_option maxHeartbeats 1600000 in
theorem implQuote_any (s : ByteArray) (w : World) (hs : s.size ≤ maxLen) :
    Calls Tryd.prog 53 #[.string s] w fun e w' => e = .returned (sv (quoteL s.data.toList)) ∧ Below w.heap.size w w' := by
  unfold maxLen at hs
  by_cases hl : 40 < (s.size : Int)
  · have HQ := Lib.hid (quote_long s hl)
    go_enter Tryd.func53, Tryd.ntmps53
    go_wp2
    go_ret
    exact ⟨by rw [HQ.out]; rfl, Below.refl _ _⟩
  · have hk0 : ((w.alloc (.cells #[.int .u8 34] 5)).iter s 0).heap[w.heap.size + 1]? = some (.stringIter s 0) := by
      have h5 := World.iter_heap (w.alloc (.cells #[.int .u8 34] 5)) s 0
      simpa using h5
    have hb0 : Below w.heap.size w ((w.alloc (.cells #[.int .u8 34] 5)).iter s 0) := ((Below.refl _ w).alloc (Nat.le_refl _) _).alloc (by simp) _
    have ho0 : ((w.alloc (.cells #[.int .u8 34] 5)).iter s 0).ownsRow w.heap.size 5 1 (.slice (some ⟨w.heap.size, 0, none⟩) 1 1) 1 ((qd (s.data.toList.take 0)).map bv) := (own_lit w #[.int .u8 34] 1 5 1 w.heap.size (Nat.le_refl _) (by unfold maxLen; omega) rfl).alloc _
    go_enter Tryd.func53, Tryd.ntmps53
    go_wp2
    go_loopw [3] (fun v wr => ∃ k n : Nat, k ≤ s.size ∧ wr.heap[w.heap.size + 1]? = some (.stringIter s k) ∧ n = (qd (s.data.toList.take k)).length ∧ (s.data.toList.take k).all txtc = true ∧ wr.ownsRow w.heap.size 5 1 v n ((qd (s.data.toList.take k)).map bv) ∧ Below w.heap.size w wr) (fun _ wr => s.size - wr.iterPos (w.heap.size + 1))
    case atStart => exact ⟨0, 1, Nat.zero_le _, hk0, rfl, rfl, ho0, hb0⟩
    case round =>
      obtain ⟨k, n, hk, hit, hn, hall, hown, hbr⟩ := hrel
      clear hk0 hb0 ho0
      have Hall := Lib.hid hall
      have HN := Lib.hid hn
      have hnle : n ≤ 2 * k + 1 := by rw [hn]; have := qd_len (s.data.toList.take k); have := take_le s k; omega
      have hmu := Lib.hid (iter_pos hit)
      clear hall hn
      by_cases hlt : k < s.size
      · have hbn : s[k].toNat < 256 := s[k].toNat_lt
        by_cases ha : s[k].toNat < 128
        · have hnx : ∀ ty, (Instr.next (.pointer (some ⟨w.heap.size + 1, 0, none⟩)) true ty).run Tryd.prog wr = _ := fun ty => Lib.run_next_ascii_at wr (w.heap.size + 1) s k ty hit hlt ha
          have hk1 := Lib.iterAt_heap wr (w.heap.size + 1) s k (k + 1) hit
          have hb1 : Below w.heap.size w (wr.iterAt (w.heap.size + 1) s (k + 1)) := Lib.below_iterAt hbr (by omega) s (k + 1)
          have ho1 := own_iterAt hown hit (k + 1)
          have hlt1 : w.heap.size + 1 < (wr.iterAt (w.heap.size + 1) s (k + 1)).heap.size := (Array.getElem?_eq_some_iff.1 hk1).1
          have hne1 := own_ne_iter ho1 hk1
          have Hk1 := Lib.hid hk1
          clear hit hbr hown hk1
          generalize wr.iterAt (w.heap.size + 1) s (k + 1) = W1 at hnx Hk1 hb1 ho1 hlt1
          have hc := fun W => inText_any (s[k].toNat : Int) W
          cases hd : txtR (s[k].toNat : Int) with
          | false =>
            have HB := Lib.hid (quote_bad s k hlt hd)
            rw [hd] at hc
            have HC := Lib.hid hc
            clear hd hc ho1
            go_wp2_with fail
            refine (HC.out _).mono ?_
            rintro e w' ⟨rfl, rfl⟩
            go_wp2
            go_ret
            exact ⟨by rw [HB.out]; rfl, hb1⟩
          | true =>
            have HA := Lib.hid (all_take txtc s k hlt)
            have Hd := Lib.hid hd
            have hd1 : 32 ≤ (s[k].toNat : Int) := by
              by_cases h : 32 ≤ (s[k].toNat : Int)
              · exact h
              · rw [txtR_false (by omega)] at hd; cases hd
            rw [hd] at hc
            have HC := Lib.hid hc
            clear hd hc
            have hc2 := fun W => isEscaped_any (s[k].toNat : Int) (by omega) (by omega) W
            have hz1 := hb1.size
            cases he : escR (s[k].toNat : Int) with
            | true =>
              have HT := Lib.hid (qd_take s k hlt he)
              rw [he] at hc2
              have HC2 := Lib.hid hc2
              clear he hc2
              go_wp2_with fail
              refine (HC.out _).mono ?_
              rintro e w' ⟨rfl, rfl⟩
              go_wp2_with fail
              refine (HC2.out _).mono ?_
              rintro e w' ⟨rfl, rfl⟩
              go_wp2_with (at_builtin; refine wpList_app1 Tryd.el_u8 rfl (.tmp 20) (.tmp 21) rfl w W1 u3 n _ rfl ho1 hb1 hz1 _ (.inr rfl) 1 1 rfl rfl (by simp [Value.oneCell']) (by omega) (by omega) (by omega) ?_)
              intro g cap w1 hown1 hb2 hg1 _ _
              have Hk2 := Lib.hid ((hg1.block (w.heap.size + 1) hlt1 hne1).trans Hk1.out)
              have hne2 := own_ne_iter hown1 Hk2.out
              have hlt2 : w.heap.size + 1 < w1.heap.size := by have := hg1.size; omega
              have hz2 := hb2.size
              clear ho1 hb1 hg1 hne1 hlt1 Hk1 hz1 hnx
              go_wp2_with (at_builtin; refine wpList_app1 Tryd.el_u8 rfl (.tmp 23) (.tmp 26) rfl w w1 _ (n + 1) _ rfl hown1 hb2 hz2 _ (.inr rfl) 1 1 rfl rfl (by simp [Value.oneCell']) (by omega) (by omega) (by omega) ?_)
              intro g2 cap2 w2 hown2 hb3 hg2 _ _
              have Hk3 := Lib.hid ((hg2.block (w.heap.size + 1) hlt2 hne2).trans Hk2.out)
              clear hown1 hb2 hg2 hne2 hlt2 Hk2 hz2
              go_wp2
              go_roundw
              case rel =>
                refine ⟨k + 1, n + 1 + 1, by omega, Hk3.out, by rw [HT.out, HN.out]; simp, by rw [HA.out, Hall.out, ← txtR_byte, Hd.out]; rfl, ?_, hb3⟩
                rw [HT.out, List.map_append]
                exact hown2
              case measure => rw [hmu.out, iter_pos Hk3.out]; omega
            | false =>
              have HT := Lib.hid (qd_take' s k hlt he)
              rw [he] at hc2
              have HC2 := Lib.hid hc2
              clear he hc2
              go_wp2_with fail
              refine (HC.out _).mono ?_
              rintro e w' ⟨rfl, rfl⟩
              go_wp2_with fail
              refine (HC2.out _).mono ?_
              rintro e w' ⟨rfl, rfl⟩
              go_wp2_with (at_builtin; refine wpList_app1 Tryd.el_u8 rfl (.tmp 23) (.tmp 26) rfl w W1 u3 n _ rfl ho1 hb1 hz1 _ (.inr rfl) 1 1 rfl rfl (by simp [Value.oneCell']) (by omega) (by omega) (by omega) ?_)
              intro g cap w1 hown1 hb2 hg1 _ _
              have Hk2 := Lib.hid ((hg1.block (w.heap.size + 1) hlt1 hne1).trans Hk1.out)
              clear ho1 hb1 hg1 hne1 hlt1 Hk1 hz1 hnx
              go_wp2
              go_roundw
              case rel =>
                refine ⟨k + 1, n + 1, by omega, Hk2.out, by rw [HT.out, HN.out]; simp, by rw [HA.out, Hall.out, ← txtR_byte, Hd.out]; rfl, ?_, hb2⟩
                rw [HT.out, List.map_append]
                exact hown1
              case measure => rw [hmu.out, iter_pos Hk2.out]; omega
        · have hnx : ∀ ty, (Instr.next (.pointer (some ⟨w.heap.size + 1, 0, none⟩)) true ty).run Tryd.prog wr = _ := fun ty => Lib.run_next_any_at wr (w.heap.size + 1) s k ty hit hlt
          have hhi := (decode_high s k hlt (by omega)).1
          have hb1 : Below w.heap.size w (wr.iterAt (w.heap.size + 1) s (k + (Utf8.decode s k).2)) := Lib.below_iterAt hbr (by omega) s _
          clear hit hbr hown
          generalize wr.iterAt (w.heap.size + 1) s (k + (Utf8.decode s k).2) = W1 at hnx hb1
          generalize (Utf8.decode s k).1 = r at hnx hhi
          have hc := fun W => inText_any (r : Int) W
          rw [txtR_false (by omega)] at hc
          have HC := Lib.hid hc
          have HB := Lib.hid (quote_bad s k hlt (txtR_false (by omega)))
          clear hc
          go_wp2_with fail
          refine (HC.out _).mono ?_
          rintro e w' ⟨rfl, rfl⟩
          go_wp2
          go_ret
          exact ⟨by rw [HB.out]; rfl, hb1⟩
      · have hnx : ∀ ty, (Instr.next (.pointer (some ⟨w.heap.size + 1, 0, none⟩)) true ty).run Tryd.prog wr = _ := fun ty => Lib.run_next_end_at wr (w.heap.size + 1) s k ty hit hlt
        obtain rfl : k = s.size := by omega
        rw [take_str_all] at Hall hown HN
        have HE := Lib.hid (quote_end s Hall.out (by omega))
        have hbr0 := hbr.size
        clear Hall hit hmu
        go_wp2_with (at_builtin; refine wpList_app1 Tryd.el_u8 rfl (.tmp 28) (.tmp 29) rfl w wr u3 n _ rfl hown hbr hbr0 _ (.inr rfl) 1 1 rfl rfl (by simp [Value.oneCell']) (by omega) (by omega) (by omega) ?_)
        intro g cap w1 hown1 hb1 _ _ _
        have hback := conv_own (P := Tryd.prog) (l := qd s.data.toList ++ [34]) 22 9 5 (by rw [List.map_append]; exact hown1) (by rw [HN.out]; simp) Tryd.underlying22 Tryd.underlying5 Tryd.underlying9
        clear hown hbr hbr0 hown1
        go_wp2
        go_ret
        exact ⟨by rw [HE.out]; rfl, hb1⟩

theorem wordL_atom {l : List UInt8} (h : atomB l = true) : wordL l = l := if_pos h
theorem wordL_quote {l : List UInt8} (h : atomB l = false) : wordL l = quoteL l := if_neg (by rw [h]; exact Bool.false_ne_true)

end Go.Proofs.YtldfakcjimaaaaaDoor
