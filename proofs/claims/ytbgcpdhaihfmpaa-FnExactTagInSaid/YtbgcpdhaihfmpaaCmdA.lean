/-
  Chapter 7: tags and the words of kinds; their exact laws out of what the program answers.
-/
import Derived.Test.YtbgcpdhaihfmpaaGc
import Derived.Test.YtbgcpdhaihfmpaaGa
import Derived.Test.YtbgcpdhaihfmpaaGd
namespace Go.Proofs.Ytbgcpdhaihfmpaa
open Go.RowKit

def inR (b : UInt8) (lo hi : Int) : Bool := decide (lo ≤ (b.toNat : Int)) && decide ((b.toNat : Int) ≤ hi)
def tagc (b : UInt8) : Bool := inR b 97 122 || inR b 65 90 || inR b 48 57
def tagB (l : List UInt8) : Bool := l.all tagc && (decide ((1 : Int) ≤ (l.length : Int)) && decide ((l.length : Int) ≤ 8))
def kdWords : List (List UInt8) := [[], [108, 111, 103, 105, 110], [115, 101, 108, 101, 99, 116], [99, 108, 111, 115, 101], [110, 111, 111, 112], [105, 100, 108, 101], [110, 111, 116, 105, 102, 121], [102, 101, 116, 99, 104], [115, 116, 111, 114, 101], [101, 120, 112, 117, 110, 103, 101], [99, 111, 112, 121], [97, 112, 112, 101, 110, 100], [99, 114, 101, 97, 116, 101], [100, 101, 108, 101, 116, 101], [114, 101, 110, 97, 109, 101], [108, 111, 103, 111, 117, 116]]
def kdW (k : Int) : List UInt8 := if 1 ≤ k ∧ k ≤ 15 then kdWords.getD k.toNat [] else []
theorem kdW_no {k : Int} (h : ¬ (1 ≤ k ∧ k ≤ 15)) : kdW k = [] := by unfold kdW; rw [if_neg h]
theorem tag_bad (s : ByteArray) (k : Nat) (h : k < s.size) (hb : tagc s[k] = false) : tagB s.data.toList = false := by
  have hm : s[k] ∈ s.data.toList := List.mem_of_mem_take (i := k + 1) (by rw [take_str s k h]; simp)
  have : s.data.toList.all tagc = false := by
    rw [List.all_eq_false]
    exact ⟨_, hm, by rw [hb]; simp⟩
  unfold tagB
  rw [this]
  rfl

set_option maxHeartbeats 1600000 in
theorem specTagOk_any (s : ByteArray) (w : World) (hs : s.size ≤ maxLen) :
    Calls Try.prog 7 #[.string s] w fun e w' => e = .returned (.bool (tagB s.data.toList)) ∧ w = w' := by
  unfold maxLen at hs
  go_enter Try.func7, Try.ntmps7
  go_wp2
  go_loopw [3] (fun i wr => ∃ k : Nat, k ≤ s.size ∧ i = .int .i64 k ∧ (s.data.toList.take k).all tagc = true ∧ w = wr) (fun i _ => s.size - (intOf i).toNat)
  case atStart => exact ⟨0, by omega, rfl, rfl, rfl⟩
  case round =>
    obtain ⟨k, hk, rfl, hall, rfl⟩ := hrel
    have HALL := Lib.hid hall
    clear hall
    by_cases hlt : k < s.size
    · have hbn : s[k].toNat < 256 := s[k].toNat_lt
      have c1 := l1In_any (s[k].toNat : Int) 97 122 w
      have c2 := l1In_any (s[k].toNat : Int) 65 90 w
      have c3 := l1In_any (s[k].toNat : Int) 48 57 w
      have hstep : tagc s[k] = true → (s.data.toList.take (k + 1)).all tagc = true := fun h => by
        rw [take_str s k hlt, List.all_append, HALL.out]
        simp [h]
      cases h1 : inR s[k] 97 122 with
      | true =>
        have HN := Lib.hid (hstep (by simp [tagc, h1]))
        rw [show (decide ((97 : Int) ≤ (s[k].toNat : Int)) && decide ((s[k].toNat : Int) ≤ 122)) = true from h1] at c1
        have C1 := Lib.hid c1
        clear c1 c2 c3 h1 hstep
        go_wp2_with fail
        refine (C1.out).mono ?_
        rintro e w1 ⟨rfl, rfl⟩
        go_wp2
        go_roundw
        case rel => exact ⟨k + 1, by omega, by go_num, HN.out, trivial⟩
        case measure => simp [intOf]; omega
      | false =>
        rw [show (decide ((97 : Int) ≤ (s[k].toNat : Int)) && decide ((s[k].toNat : Int) ≤ 122)) = false from h1] at c1
        have C1 := Lib.hid c1
        cases h2 : inR s[k] 65 90 with
        | true =>
          have HN := Lib.hid (hstep (by simp [tagc, h2]))
          rw [show (decide ((65 : Int) ≤ (s[k].toNat : Int)) && decide ((s[k].toNat : Int) ≤ 90)) = true from h2] at c2
          have C2 := Lib.hid c2
          clear c1 c2 c3 h1 h2 hstep
          go_wp2_with fail
          refine (C1.out).mono ?_
          rintro e w1 ⟨rfl, rfl⟩
          go_wp2_with fail
          refine (C2.out).mono ?_
          rintro e w1 ⟨rfl, rfl⟩
          go_wp2
          go_roundw
          case rel => exact ⟨k + 1, by omega, by go_num, HN.out, trivial⟩
          case measure => simp [intOf]; omega
        | false =>
          rw [show (decide ((65 : Int) ≤ (s[k].toNat : Int)) && decide ((s[k].toNat : Int) ≤ 90)) = false from h2] at c2
          have C2 := Lib.hid c2
          cases h3 : inR s[k] 48 57 with
          | true =>
            have HN := Lib.hid (hstep (by simp [tagc, h3]))
            rw [show (decide ((48 : Int) ≤ (s[k].toNat : Int)) && decide ((s[k].toNat : Int) ≤ 57)) = true from h3] at c3
            have C3 := Lib.hid c3
            clear c1 c2 c3 h1 h2 h3 hstep
            go_wp2_with fail
            refine (C1.out).mono ?_
            rintro e w1 ⟨rfl, rfl⟩
            go_wp2_with fail
            refine (C2.out).mono ?_
            rintro e w1 ⟨rfl, rfl⟩
            go_wp2_with fail
            refine (C3.out).mono ?_
            rintro e w1 ⟨rfl, rfl⟩
            go_wp2
            go_roundw
            case rel => exact ⟨k + 1, by omega, by go_num, HN.out, trivial⟩
            case measure => simp [intOf]; omega
          | false =>
            have HV := Lib.hid (tag_bad s k hlt (by simp [tagc, h1, h2, h3]))
            rw [show (decide ((48 : Int) ≤ (s[k].toNat : Int)) && decide ((s[k].toNat : Int) ≤ 57)) = false from h3] at c3
            have C3 := Lib.hid c3
            clear c1 c2 c3 h1 h2 h3 hstep
            go_wp2_with fail
            refine (C1.out).mono ?_
            rintro e w1 ⟨rfl, rfl⟩
            go_wp2_with fail
            refine (C2.out).mono ?_
            rintro e w1 ⟨rfl, rfl⟩
            go_wp2_with fail
            refine (C3.out).mono ?_
            rintro e w1 ⟨rfl, rfl⟩
            go_wp2
            go_ret
            exact ⟨by rw [HV.out]; rfl, rfl⟩
    · obtain rfl : k = s.size := by omega
      have HV := Lib.hid (show tagB s.data.toList = (decide ((1 : Int) ≤ (s.size : Int)) && decide ((s.size : Int) ≤ 8)) by
        have := HALL.out
        rw [take_str_all] at this
        unfold tagB
        rw [this, str_len]
        rfl)
      go_wp2_with fail
      refine (l1In_any _ _ _ _).mono ?_
      rintro e w1 ⟨rfl, rfl⟩
      go_wp2
      go_ret
      exact ⟨by rw [HV.out]; rfl, rfl⟩

def ImplTagOk (G : World → Prop) : Prop := ∀ (s : ByteArray) (W : World), G W → s.size ≤ 1048576 →
  Calls Try.prog 9 #[.string s] W fun e w' => e = .returned (.bool (tagB s.data.toList)) ∧ Below W.heap.size W w'

end Go.Proofs.Ytbgcpdhaihfmpaa
