/-
  Chapter 2's walks: AtomOk, the model's and the program's.
-/
import Derived.Test.YtldfakcjimaaaaaDoorWordA
namespace Go.Proofs.YtldfakcjimaaaaaDoor
open Go.RowKit

theorem atomR_of {r : Int} (h1 : ¬ r < 33) (h2 : ¬ 126 < r) (h3 : ¬ r = 40) (h4 : ¬ r = 41) (h5 : ¬ r = 123) (h6 : ¬ r = 34) (h7 : ¬ r = 92) : atomR r = true := by
  rw [atomR_in (by omega) (by omega)]; simp [bad5R, h3, h4, h5, h6, h7]
theorem atomR_not {r : Int} (h : r < 33 ∨ 126 < r ∨ r = 40 ∨ r = 41 ∨ r = 123 ∨ r = 34 ∨ r = 92) : atomR r = false := by
  by_cases h1 : r < 33
  · exact atomR_no (by omega)
  by_cases h2 : 126 < r
  · exact atomR_no (by omega)
  rw [atomR_in (by omega) (by omega)]
  have h3 : r = 40 ∨ r = 41 ∨ r = 123 ∨ r = 34 ∨ r = 92 := by omega
  rcases h3 with rfl | rfl | rfl | rfl | rfl <;> rfl
theorem atomB_bad (s : ByteArray) (k : Nat) (h : k < s.size) (hn : atomR (s[k].toNat : Int) = false) : atomB s.data.toList = false := by
  rw [atomR_byte] at hn
  unfold atomB; rw [all_not atomc s k h hn]; rfl
theorem atomB_end (s : ByteArray) (h : s.data.toList.all atomc = true) : atomB s.data.toList = (decide ((1 : Int) ≤ (s.size : Int)) && decide ((s.size : Int) ≤ 40)) := by
  unfold atomB; rw [h, str_len]
  have e1 : (1 ≤ s.size) = ((1 : Int) ≤ (s.size : Int)) := by rw [eq_iff_iff]; omega
  have e2 : (s.size ≤ 40) = ((s.size : Int) ≤ 40) := by rw [eq_iff_iff]; omega
  simp only [e1, e2, Bool.true_and]

set_option maxHeartbeats 800000 in
theorem specAtomOk_any (s : ByteArray) (w : World) (hs : s.size ≤ maxLen) :
    Calls Tryd.prog 34 #[.string s] w fun e w' => e = .returned (.bool (atomB s.data.toList)) ∧ w = w' := by
  unfold maxLen at hs
  go_enter Tryd.func34, Tryd.ntmps34
  go_wp2
  go_loop [2, 3] (fun b i => ∃ k : Nat, k ≤ s.size ∧ b = .bool false ∧ i = .int .i64 k ∧ (s.data.toList.take k).all atomc = true) (fun _ i => s.size - (intOf i).toNat)
  case atStart => exact ⟨0, Nat.zero_le _, rfl, rfl, rfl⟩
  case round =>
    obtain ⟨k, hk, rfl, rfl, hall⟩ := hrel
    have Hall := Lib.hid hall
    clear hall
    by_cases hlt : k < s.size
    · have hbn : s[k].toNat < 256 := s[k].toNat_lt
      cases hd : atomR (s[k].toNat : Int) with
      | true =>
        have HA := Lib.hid (all_take atomc s k hlt)
        have Hd := Lib.hid hd
        have h1 : ¬ (s[k].toNat : Int) < 33 := fun h => by rw [atomR_not (by omega)] at hd; cases hd
        have h2 : ¬ 126 < (s[k].toNat : Int) := fun h => by rw [atomR_not (by omega)] at hd; cases hd
        have h3 : ((s[k].toNat : Int) == 40) = false := by cases h : ((s[k].toNat : Int) == 40) with | false => rfl | true => rw [beq_iff_eq] at h; rw [atomR_not (by omega)] at hd; cases hd
        have h4 : ((s[k].toNat : Int) == 41) = false := by cases h : ((s[k].toNat : Int) == 41) with | false => rfl | true => rw [beq_iff_eq] at h; rw [atomR_not (by omega)] at hd; cases hd
        have h5 : ((s[k].toNat : Int) == 123) = false := by cases h : ((s[k].toNat : Int) == 123) with | false => rfl | true => rw [beq_iff_eq] at h; rw [atomR_not (by omega)] at hd; cases hd
        have h6 : ((s[k].toNat : Int) == 34) = false := by cases h : ((s[k].toNat : Int) == 34) with | false => rfl | true => rw [beq_iff_eq] at h; rw [atomR_not (by omega)] at hd; cases hd
        have h7 : ((s[k].toNat : Int) == 92) = false := by cases h : ((s[k].toNat : Int) == 92) with | false => rfl | true => rw [beq_iff_eq] at h; rw [atomR_not (by omega)] at hd; cases hd
        clear hd
        go_wp2
        go_round
        case rel => exact ⟨k + 1, by omega, rfl, by go_num, by rw [HA.out, Hall.out, ← atomR_byte, Hd.out]; rfl⟩
        case measure => simp [intOf]; omega
      | false =>
        have HB := Lib.hid (atomB_bad s k hlt hd)
        have hd2 : ¬ (¬ (s[k].toNat : Int) < 33 ∧ ¬ 126 < (s[k].toNat : Int) ∧ ((s[k].toNat : Int) == 40) = false ∧ ((s[k].toNat : Int) == 41) = false ∧ ((s[k].toNat : Int) == 123) = false ∧ ((s[k].toNat : Int) == 34) = false ∧ ((s[k].toNat : Int) == 92) = false) := by
          rintro ⟨h1, h2, h3, h4, h5, h6, h7⟩
          rw [atomR_of h1 h2 (by simpa using h3) (by simpa using h4) (by simpa using h5) (by simpa using h6) (by simpa using h7)] at hd
          cases hd
        have HD := Lib.hid hd2
        clear hd hd2
        go_wp2
        all_goals first
          | (go_ret; exact ⟨by rw [HB.out]; rfl, rfl⟩)
          | (exfalso; have hh := HD.out; clear HD; simp only [beq_eq_false_iff_ne, ne_eq] at *; omega)
    · obtain rfl : k = s.size := by omega
      rw [take_str_all] at Hall
      have HE := Lib.hid (atomB_end s Hall.out)
      clear Hall
      go_wp2_with fail
      refine (l1In_any _ _ _ _).mono ?_
      rintro e w' ⟨rfl, rfl⟩
      go_wp2
      go_ret
      exact ⟨by rw [HE.out]; rfl, rfl⟩

/-- Where an iterator stands. -/
theorem iter_pos {w : World} {k pos : Nat} {s : ByteArray} (h : w.heap[k]? = some (.stringIter s pos)) : w.iterPos k = pos := by simp [World.iterPos, h]

set_option maxHeartbeats 800000 in
theorem implAtomOk_any (s : ByteArray) (w : World) (_hs : s.size ≤ maxLen) :
    Calls Tryd.prog 37 #[.string s] w fun e w' => e = .returned (.bool (atomB s.data.toList)) ∧ Below w.heap.size w w' := by
  unfold maxLen at _hs
  have hk0 : (w.iter s 0).heap[w.heap.size]? = some (.stringIter s 0) := World.iter_heap w s 0
  have hb0 : Below w.heap.size w (w.iter s 0) := (Below.refl _ w).alloc (Nat.le_refl _) _
  go_enter Tryd.func37, Tryd.ntmps37
  go_wp2
  go_loopw [2] (fun b wr => ∃ pos : Nat, pos ≤ s.size ∧ b = .bool false ∧ wr.heap[w.heap.size]? = some (.stringIter s pos) ∧ (s.data.toList.take pos).all atomc = true ∧ Below w.heap.size w wr)
    (fun _ wr => s.size - wr.iterPos w.heap.size)
  case atStart => exact ⟨0, Nat.zero_le _, rfl, hk0, rfl, hb0⟩
  case round =>
    obtain ⟨pos, hps, rfl, hk, hall, hbr⟩ := hrel
    have Hall := Lib.hid hall
    clear hall hk0 hb0
    have hmu := Lib.hid (iter_pos hk)
    by_cases hp : pos < s.size
    · have hbn : s[pos].toNat < 256 := s[pos].toNat_lt
      by_cases ha : s[pos].toNat < 128
      · have hnx : ∀ ty, (Instr.next (.pointer (some ⟨w.heap.size, 0, none⟩)) true ty).run Tryd.prog wr = _ := fun ty => Lib.run_next_ascii_at wr w.heap.size s pos ty hk hp ha
        have hk1 := Lib.hid (Lib.iterAt_heap wr w.heap.size s pos (pos + 1) hk)
        have hb1 : Below w.heap.size w (wr.iterAt w.heap.size s (pos + 1)) := Lib.below_iterAt hbr (Nat.le_refl _) s (pos + 1)
        clear hk hbr
        generalize wr.iterAt w.heap.size s (pos + 1) = W1 at hnx hk1 hb1
        have hc := fun W => inAtom_any (s[pos].toNat : Int) (by omega) W
        cases hd : atomR (s[pos].toNat : Int) with
        | true =>
          have HA := Lib.hid (all_take atomc s pos hp)
          have Hd := Lib.hid hd
          rw [hd] at hc
          have HC := Lib.hid hc
          clear hd hc
          go_wp2_with fail
          refine (HC.out _).mono ?_
          rintro e w' ⟨rfl, rfl⟩
          go_wp2
          go_roundw
          case rel => exact ⟨pos + 1, by omega, rfl, hk1.out, by rw [HA.out, Hall.out, ← atomR_byte, Hd.out]; rfl, hb1⟩
          case measure => rw [hmu.out, iter_pos hk1.out]; omega
        | false =>
          have HB := Lib.hid (atomB_bad s pos hp hd)
          rw [hd] at hc
          have HC := Lib.hid hc
          clear hd hc
          go_wp2_with fail
          refine (HC.out _).mono ?_
          rintro e w' ⟨rfl, rfl⟩
          go_wp2
          go_ret
          exact ⟨by rw [HB.out]; rfl, hb1⟩
      · have hnx : ∀ ty, (Instr.next (.pointer (some ⟨w.heap.size, 0, none⟩)) true ty).run Tryd.prog wr = _ := fun ty => Lib.run_next_any_at wr w.heap.size s pos ty hk hp
        have hhi := (decode_high s pos hp (by omega)).1
        have hb1 : Below w.heap.size w (wr.iterAt w.heap.size s (pos + (Utf8.decode s pos).2)) := Lib.below_iterAt hbr (Nat.le_refl _) s _
        clear hk hbr
        generalize wr.iterAt w.heap.size s (pos + (Utf8.decode s pos).2) = W1 at hnx hb1
        generalize (Utf8.decode s pos).1 = r at hnx hhi
        have hc := fun W => inAtom_any (r : Int) (by omega) W
        rw [atomR_no (by omega)] at hc
        have HC := Lib.hid hc
        have HB := Lib.hid (atomB_bad s pos hp (atomR_no (by omega)))
        clear hc
        go_wp2_with fail
        refine (HC.out _).mono ?_
        rintro e w' ⟨rfl, rfl⟩
        go_wp2
        go_ret
        exact ⟨by rw [HB.out]; rfl, hb1⟩
    · have hnx : ∀ ty, (Instr.next (.pointer (some ⟨w.heap.size, 0, none⟩)) true ty).run Tryd.prog wr = _ := fun ty => Lib.run_next_end_at wr w.heap.size s pos ty hk hp
      obtain rfl : pos = s.size := by omega
      rw [take_str_all] at Hall
      have HE := Lib.hid (atomB_end s Hall.out)
      clear Hall hk hmu
      by_cases h1 : (1 : Int) ≤ (s.size : Int)
      · by_cases h2 : (s.size : Int) ≤ 40
        · rw [show (decide ((1 : Int) ≤ (s.size : Int)) && decide ((s.size : Int) ≤ 40)) = true by simp [h1, h2]] at HE
          go_wp2
          go_ret
          exact ⟨by rw [HE.out]; rfl, hbr⟩
        · rw [show (decide ((1 : Int) ≤ (s.size : Int)) && decide ((s.size : Int) ≤ 40)) = false by simp [h2]] at HE
          go_wp2
          go_ret
          exact ⟨by rw [HE.out]; rfl, hbr⟩
      · rw [show (decide ((1 : Int) ≤ (s.size : Int)) && decide ((s.size : Int) ≤ 40)) = false by simp [h1]] at HE
        go_wp2
        go_ret
        exact ⟨by rw [HE.out]; rfl, hbr⟩

end Go.Proofs.YtldfakcjimaaaaaDoor
