/-
  Chapter 2's walks: NameOk, Under, the model's and the program's.
-/
import Derived.Test.YthihjelcakenpaaWordC
namespace Go.Proofs.Ythihjelcakenpaa
open Go.RowKit

/-- What the model's loop knows at place k. -/
def NmSt (s : ByteArray) (k : Nat) (a : Bool) (U : Bool) : Prop :=
  nameRun (s.data.toList.drop k) a = U ∧ (k = 0 → a = true) ∧ (∀ j, k = j + 1 → ∀ h : j < s.size, a = decide (s[j].toNat = 47)) ∧ (k = s.size → 0 < k → a = false)
theorem nameB_of {l : List UInt8} {U : Bool} (h : nameRun l true = U) : nameB l = (U && decide (l.length ≤ 12)) := by unfold nameB; rw [h]
theorem nameB_size {s : ByteArray} {U : Bool} (h : nameRun s.data.toList true = U) : nameB s.data.toList = (U && decide ((s.size : Int) ≤ 12)) := by
  rw [nameB_of h, str_len]
  have e2 : (s.size ≤ 12) = ((s.size : Int) ≤ 12) := by rw [eq_iff_iff]; omega
  simp only [e2]
theorem n_slash (s : ByteArray) (k : Nat) (h : k < s.size) (hb : ((s[k].toNat : Int) == 47) = true) : nameRun (s.data.toList.drop k) false = nameRun (s.data.toList.drop (k + 1)) true ∧ nameRun (s.data.toList.drop k) true = false := by
  rw [drop_str s k h]
  exact nameRun_slash _ (by have := beq_iff_eq.1 hb; omega)
theorem n_letter (s : ByteArray) (k : Nat) (h : k < s.size) (a : Bool) (h0 : ¬ (s[k].toNat : Int) < 97) (h1 : ¬ 122 < (s[k].toNat : Int)) : nameRun (s.data.toList.drop k) a = nameRun (s.data.toList.drop (k + 1)) false := by
  rw [drop_str s k h]
  exact nameRun_letter _ a (by omega) (by omega)
theorem n_bad (s : ByteArray) (k : Nat) (h : k < s.size) (a : Bool) (hb : ((s[k].toNat : Int) == 47) = false) (h1 : (s[k].toNat : Int) < 97 ∨ 122 < (s[k].toNat : Int)) : nameRun (s.data.toList.drop k) a = false := by
  rw [drop_str s k h]
  exact nameRun_bad _ a (by have := beq_eq_false_iff_ne.1 hb; omega) (by omega)
theorem n_end (s : ByteArray) (k : Nat) (h : ¬ k < s.size) (a : Bool) : nameRun (s.data.toList.drop k) a = !a := by rw [drop_str_end s k h]; rfl

set_option maxHeartbeats 1600000 in
theorem specNameOk_any (s : ByteArray) (w : World) (hs : s.size ≤ maxLen) :
    Calls Try.prog 42 #[.string s] w fun e w' => e = .returned (.bool (nameB s.data.toList)) ∧ w = w' := by
  unfold maxLen at hs
  obtain ⟨U, hU⟩ : ∃ U, nameRun s.data.toList true = U := ⟨_, rfl⟩
  have hV := nameB_size hU
  generalize nameB s.data.toList = V at *
  have HU := Lib.hid hU
  have HV := Lib.hid hV
  clear hU hV
  go_enter Try.func42, Try.ntmps42
  go_wp2
  go_loop [3] (fun i => ∃ (k : Nat) (a : Bool), k ≤ s.size ∧ i = .int .i64 k ∧ NmSt s k a U) (fun i => s.size - (intOf i).toNat)
  case atStart => exact ⟨0, true, Nat.zero_le _, rfl, HU.out, fun _ => rfl, fun j h => by omega, fun _ h => by omega⟩
  case round =>
    obtain ⟨k, a, hk, rfl, hrun, h0, hj, he⟩ := hrel
    by_cases hlt : k < s.size
    · have hbn : s[k].toNat < 256 := s[k].toNat_lt
      cases hb : ((s[k].toNat : Int) == 47) with
      | true =>
        obtain ⟨r1, r2⟩ := n_slash s k hlt hb
        cases k with
        | zero =>
          have HV2 := Lib.hid (show V = false by rw [HV.out, ← hrun, h0 rfl, r2]; rfl)
          clear hrun h0 hj he r1 r2
          go_wp2
          go_ret
          exact ⟨by rw [HV2.out]; rfl, rfl⟩
        | succ j =>
          have hjl : j < s.size := by omega
          have haj := hj j rfl hjl
          have hbj : s[j].toNat < 256 := s[j].toNat_lt
          cases h1 : ((j : Int) + 1 == (s.size : Int) - 1) with
          | true =>
            have hU : U = false := by
              rw [← hrun]
              cases a with
              | true => exact r2
              | false => rw [r1, n_end s (j + 1 + 1) (by have := beq_iff_eq.1 h1; omega)]; rfl
            have HV2 := Lib.hid (show V = false by rw [HV.out, hU]; rfl)
            clear hrun h0 hj he r1 r2 haj hU
            go_wp2
            go_ret
            exact ⟨by rw [HV2.out]; rfl, rfl⟩
          | false =>
            cases h2 : ((s[j].toNat : Int) == 47) with
            | true =>
              have hU : U = false := by rw [← hrun, haj, decide_eq_true (by have := beq_iff_eq.1 h2; omega), r2]
              have HV2 := Lib.hid (show V = false by rw [HV.out, hU]; rfl)
              clear hrun h0 hj he r1 r2 haj hU
              go_wp2
              go_ret
              exact ⟨by rw [HV2.out]; rfl, rfl⟩
            | false =>
              have ha : a = false := by rw [haj]; exact decide_eq_false (by have := beq_eq_false_iff_ne.1 h2; omega)
              have HR := Lib.hid (show nameRun (s.data.toList.drop (j + 1 + 1)) true = U by rw [← hrun, ha, r1])
              have HE := Lib.hid (show ¬ j + 1 + 1 = s.size by have := beq_eq_false_iff_ne.1 h1; omega)
              have HB := Lib.hid hb
              clear hrun h0 hj he r1 r2 haj ha
              go_wp2
              go_round
              case rel => exact ⟨j + 1 + 1, true, by omega, by go_num, HR.out, fun _ => rfl, fun i hi hl => by
                obtain rfl : i = j + 1 := by omega
                exact (decide_eq_true (by have := beq_iff_eq.1 HB.out; omega)).symm, fun h => absurd h HE.out⟩
              case measure => simp [intOf]; omega
      | false =>
        by_cases h1 : (s[k].toNat : Int) < 97
        · have HV2 := Lib.hid (show V = false by rw [HV.out, ← hrun, n_bad s k hlt a hb (.inl h1)]; rfl)
          clear hrun h0 hj he
          go_wp2
          go_ret
          exact ⟨by rw [HV2.out]; rfl, rfl⟩
        by_cases h2 : 122 < (s[k].toNat : Int)
        · have HV2 := Lib.hid (show V = false by rw [HV.out, ← hrun, n_bad s k hlt a hb (.inr h2)]; rfl)
          clear hrun h0 hj he
          go_wp2
          go_ret
          exact ⟨by rw [HV2.out]; rfl, rfl⟩
        have HR := Lib.hid (show nameRun (s.data.toList.drop (k + 1)) false = U by rw [← hrun, n_letter s k hlt a h1 h2])
        have HB := Lib.hid hb
        clear hrun h0 hj he
        go_wp2
        go_round
        case rel => exact ⟨k + 1, false, by omega, by go_num, HR.out, fun h => by omega, fun i hi hl => by
          obtain rfl : i = k := by omega
          exact (decide_eq_false (by have := beq_eq_false_iff_ne.1 HB.out; omega)).symm, fun _ _ => rfl⟩
        case measure => simp [intOf]; omega
    · obtain rfl : k = s.size := by omega
      have hl := fun W => l1In_any (s.size : Int) 1 12 W
      have HV2 : Hid (V = (decide ((1 : Int) ≤ (s.size : Int)) && decide ((s.size : Int) ≤ 12))) := by
        apply Lib.hid
        rw [HV.out, ← hrun, n_end s s.size hlt]
        by_cases h : s.size = 0
        · rw [h0 h, h]; rfl
        · rw [he rfl (by omega), decide_eq_true (show (1 : Int) ≤ (s.size : Int) by omega)]; rfl
      have HL := Lib.hid hl
      clear hrun h0 hj he hl
      go_wp2_with fail
      refine (HL.out _).mono ?_
      rintro e w' ⟨rfl, rfl⟩
      go_wp2
      go_ret
      exact ⟨by rw [HV2.out]; rfl, rfl⟩

set_option maxHeartbeats 1600000 in
theorem implNameOk_any (s : ByteArray) (w : World) (_hs : s.size ≤ maxLen) :
    Calls Try.prog 35 #[.string s] w fun e w' => e = .returned (.bool (nameB s.data.toList)) ∧ Below w.heap.size w w' := by
  unfold maxLen at _hs
  obtain ⟨U, hU⟩ : ∃ U, nameRun s.data.toList true = U := ⟨_, rfl⟩
  have hV := nameB_size hU
  generalize nameB s.data.toList = V at *
  have HU := Lib.hid hU
  have HV := Lib.hid hV
  have hk0 : (w.iter s 0).heap[w.heap.size]? = some (.stringIter s 0) := World.iter_heap w s 0
  have hb0 : Below w.heap.size w (w.iter s 0) := (Below.refl _ w).alloc (Nat.le_refl _) _
  clear hU hV
  go_enter Try.func35, Try.ntmps35
  go_wp2
  go_loopw [3] (fun b wr => ∃ (k : Nat) (a : Bool), k ≤ s.size ∧ b = .bool a ∧ wr.heap[w.heap.size]? = some (.stringIter s k) ∧ nameRun (s.data.toList.drop k) a = U ∧ Below w.heap.size w wr)
    (fun _ wr => s.size - wr.iterPos w.heap.size)
  case atStart => exact ⟨0, true, Nat.zero_le _, rfl, hk0, HU.out, hb0⟩
  case round =>
    obtain ⟨k, a, hk, rfl, hit, hrun, hbr⟩ := hrel
    clear hk0 hb0
    have hmu := Lib.hid (iter_pos hit)
    by_cases hlt : k < s.size
    · have hbn : s[k].toNat < 256 := s[k].toNat_lt
      by_cases ha : s[k].toNat < 128
      · have hnx : ∀ ty, (Instr.next (.pointer (some ⟨w.heap.size, 0, none⟩)) true ty).run Try.prog wr = _ := fun ty => Lib.run_next_ascii_at wr w.heap.size s k ty hit hlt ha
        have hk1 := Lib.hid (Lib.iterAt_heap wr w.heap.size s k (k + 1) hit)
        have hb1 : Below w.heap.size w (wr.iterAt w.heap.size s (k + 1)) := Lib.below_iterAt hbr (Nat.le_refl _) s (k + 1)
        clear hit hbr
        generalize wr.iterAt w.heap.size s (k + 1) = W1 at hnx hk1 hb1
        cases hb : ((s[k].toNat : Int) == 47) with
        | true =>
          have hb2 := ne_not' hb
          obtain ⟨r1, r2⟩ := n_slash s k hlt hb
          cases a with
          | true =>
            have HV2 := Lib.hid (show V = false by rw [HV.out, ← hrun, r2]; rfl)
            clear hrun r1 r2
            go_wp2
            go_ret
            exact ⟨by rw [HV2.out]; rfl, hb1⟩
          | false =>
            have HR := Lib.hid (show nameRun (s.data.toList.drop (k + 1)) true = U by rw [← hrun, r1])
            clear hrun r1 r2
            go_wp2
            go_roundw
            case rel => exact ⟨k + 1, true, by omega, rfl, hk1.out, HR.out, hb1⟩
            case measure => rw [hmu.out, iter_pos hk1.out]; omega
        | false =>
          have hb2 := ne_yes' hb
          by_cases h1 : (s[k].toNat : Int) < 97
          · have HV2 := Lib.hid (show V = false by rw [HV.out, ← hrun, n_bad s k hlt a hb (.inl h1)]; rfl)
            clear hrun
            go_wp2
            go_ret
            exact ⟨by rw [HV2.out]; rfl, hb1⟩
          by_cases h2 : 122 < (s[k].toNat : Int)
          · have HV2 := Lib.hid (show V = false by rw [HV.out, ← hrun, n_bad s k hlt a hb (.inr h2)]; rfl)
            clear hrun
            go_wp2
            go_ret
            exact ⟨by rw [HV2.out]; rfl, hb1⟩
          have HR := Lib.hid (show nameRun (s.data.toList.drop (k + 1)) false = U by rw [← hrun, n_letter s k hlt a h1 h2])
          clear hrun
          go_wp2
          go_roundw
          case rel => exact ⟨k + 1, false, by omega, rfl, hk1.out, HR.out, hb1⟩
          case measure => rw [hmu.out, iter_pos hk1.out]; omega
      · have hnx : ∀ ty, (Instr.next (.pointer (some ⟨w.heap.size, 0, none⟩)) true ty).run Try.prog wr = _ := fun ty => Lib.run_next_any_at wr w.heap.size s k ty hit hlt
        have hhi := (decode_high s k hlt (by omega)).1
        have hb1 : Below w.heap.size w (wr.iterAt w.heap.size s (k + (Utf8.decode s k).2)) := Lib.below_iterAt hbr (Nat.le_refl _) s _
        clear hit hbr
        generalize wr.iterAt w.heap.size s (k + (Utf8.decode s k).2) = W1 at hnx hb1
        generalize (Utf8.decode s k).1 = r at hnx hhi
        have HV2 := Lib.hid (show V = false by rw [HV.out, ← hrun, n_bad s k hlt a (by simp; omega) (.inr (by omega))]; rfl)
        have hb : ((r : Int) == 47) = false := by simp; omega
        have hb2 := ne_yes' hb
        have h1 : ¬ (r : Int) < 97 := by omega
        have h2 : 122 < (r : Int) := by omega
        clear hrun
        go_wp2
        go_ret
        exact ⟨by rw [HV2.out]; rfl, hb1⟩
    · have hnx : ∀ ty, (Instr.next (.pointer (some ⟨w.heap.size, 0, none⟩)) true ty).run Try.prog wr = _ := fun ty => Lib.run_next_end_at wr w.heap.size s k ty hit hlt
      have hV2 : V = (!a && decide ((s.size : Int) ≤ 12)) := by rw [HV.out, ← hrun, n_end s k hlt]
      clear hrun hit
      cases a with
      | true =>
        have HV2 := Lib.hid (show V = false by rw [hV2]; rfl)
        clear hV2
        go_wp2
        go_ret
        exact ⟨by rw [HV2.out]; rfl, hbr⟩
      | false =>
        by_cases h : (s.size : Int) ≤ 12
        · have HV2 := Lib.hid (show V = true by rw [hV2, decide_eq_true h]; rfl)
          clear hV2
          go_wp2
          go_ret
          exact ⟨by rw [HV2.out]; rfl, hbr⟩
        · have HV2 := Lib.hid (show V = false by rw [hV2, decide_eq_false h]; rfl)
          clear hV2
          go_wp2
          go_ret
          exact ⟨by rw [HV2.out]; rfl, hbr⟩

end Go.Proofs.Ythihjelcakenpaa
