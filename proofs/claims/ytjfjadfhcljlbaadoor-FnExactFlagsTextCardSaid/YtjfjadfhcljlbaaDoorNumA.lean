/-
  Chapter 1's walks: Upper.
-/
import Derived.Test.YtjfjadfhcljlbaaDoorPlain
namespace Go.Proofs.YtjfjadfhcljlbaaDoor
open Go.RowKit

def upc (b : UInt8) : UInt8 := if 97 ≤ b.toNat ∧ b.toNat ≤ 122 then b - 32 else b
def upper (l : List UInt8) : List UInt8 := l.map upc
theorem upc_hit (b : UInt8) (h1 : 97 ≤ (b.toNat : Int)) (h2 : (b.toNat : Int) ≤ 122) : bv (upc b) = .int .u8 ((b.toNat : Int) - 32) := by
  unfold upc bv
  rw [if_pos (by omega)]
  have : (b - 32).toNat = b.toNat - 32 := by
    rw [UInt8.toNat_sub_of_le]
    · rfl
    · rw [UInt8.le_iff_toNat_le]; show 32 ≤ _; omega
  rw [this]
  congr 1
  omega
theorem upc_hit' (b : UInt8) (h1 : 97 ≤ (b.toNat : Int)) (h2 : (b.toNat : Int) ≤ 122) : bv (upc b) = .int .u8 ((b.toNat : Int) - 97 + 65) := by
  rw [upc_hit b h1 h2]; congr 1; omega
theorem upc_miss (b : UInt8) (h : ¬ (97 ≤ (b.toNat : Int) ∧ (b.toNat : Int) ≤ 122)) : upc b = b := by
  unfold upc
  rw [if_neg (by omega)]

set_option maxHeartbeats 400000 in
theorem specUpper_any (s : ByteArray) (w : World) (hs : s.size ≤ maxLen) :
    Calls Tryd.prog 27 #[.string s] w fun e w' => e = .returned (.string ⟨(upper s.data.toList).toArray⟩) ∧ Below w.heap.size w w' := by
  unfold maxLen at hs
  obtain ⟨cap, w1, hconv, hrow, hsz, hb⟩ := conv_bytes (P := Tryd.prog) w 9 22 5 s Tryd.underlying9 Tryd.underlying22 Tryd.underlying5
  have hl : s.data.toList.length = s.size := by simp
  have HL := Lib.hid hl
  generalize s.data.toList = l at *
  clear hl
  go_enter Tryd.func27, Tryd.ntmps27
  go_wp2
  go_loopw [4] (fun i wr => ∃ k : Nat, k ≤ s.size ∧ i = .int .i64 k ∧ Row wr w.heap.size ((mid upc l k).map bv) ∧ Below w.heap.size w wr) (fun i _ => s.size - (intOf i).toNat)
  case atStart => exact ⟨0, Nat.zero_le _, rfl, by rw [mid_zero]; exact hrow, hb⟩
  case round =>
    obtain ⟨k, hk, rfl, hr, hbr⟩ := hrel
    clear hconv hrow hb
    have hg : k < s.size → ∃ b : UInt8, l[k]? = some b ∧ wr.cell? ⟨w.heap.size, k, none⟩ = some (.int .u8 (b.toNat : Int)) ∧ wr.frozen? ⟨w.heap.size, k, none⟩ = false := by
      intro hlt
      have hlt' : k < l.length := by rw [HL.out]; exact hlt
      have hm : k < ((mid upc l k).map bv).length := by rw [List.length_map, mid_length]; exact hlt'
      refine ⟨l[k], List.getElem?_eq_getElem hlt', ?_, hr.free k hm⟩
      rw [hr.cell k hm, List.getElem?_map, mid_get _ _ _ hlt']
      rfl
    by_cases hlt : k < s.size
    · obtain ⟨b, hb1, hb2, hb3⟩ := hg hlt
      have HB := Lib.hid hb1
      clear hg hb1
      go_wp2
      all_goals
        go_roundw
        case rel =>
          have hlt' : k < l.length := by rw [HL.out]; exact hlt
          have hbk : l[k] = b := by have := HB.out; rw [List.getElem?_eq_getElem hlt'] at this; exact Option.some.inj this
          first
            | exact ⟨k + 1, by omega, by go_num, by rw [mid_same upc l k hlt' (by rw [hbk]; exact upc_miss b (by omega))]; exact hr, hbr⟩
            | exact ⟨k + 1, by omega, by go_num, by
                have := hr.set k (by rw [List.length_map, mid_length]; exact hlt') (bv (upc b))
                rw [← List.map_set, mid_set upc l k hlt' _ (by rw [hbk])] at this
                rw [← upc_hit b (by omega) (by omega)]
                exact this, hbr.setCell (Nat.le_refl _) _⟩
        case measure => simp [intOf]; omega
    · obtain rfl : k = s.size := by omega
      clear hg
      have hback := conv_back (P := Tryd.prog) (by rw [mid_end upc l s.size (by rw [HL.out]; omega)] at hr; exact hr) 22 9 5 s.size cap (by rw [List.length_map]; exact HL.out) Tryd.underlying22 Tryd.underlying5 Tryd.underlying9
      go_wp2
      go_ret
      exact ⟨rfl, hbr⟩

set_option maxHeartbeats 400000 in
theorem implUpper_any (s : ByteArray) (w : World) (hs : s.size ≤ maxLen) :
    Calls Tryd.prog 33 #[.string s] w fun e w' => e = .returned (.string ⟨(upper s.data.toList).toArray⟩) ∧ Below w.heap.size w w' := by
  unfold maxLen at hs
  obtain ⟨cap, w1, hconv, hrow, hsz, hb⟩ := conv_bytes (P := Tryd.prog) w 9 22 5 s Tryd.underlying9 Tryd.underlying22 Tryd.underlying5
  have hl : s.data.toList.length = s.size := by simp
  have HL := Lib.hid hl
  generalize s.data.toList = l at *
  clear hl
  go_enter Tryd.func33, Tryd.ntmps33
  go_wp2
  go_loopw [10] (fun i wr => ∃ k : Nat, k ≤ s.size ∧ i = .int .i64 k ∧ Row wr w.heap.size ((mid upc l k).map bv) ∧ Below w.heap.size w wr) (fun i _ => s.size - (intOf i).toNat)
  case atStart => exact ⟨0, Nat.zero_le _, rfl, by rw [mid_zero]; exact hrow, hb⟩
  case round =>
    obtain ⟨k, hk, rfl, hr, hbr⟩ := hrel
    clear hconv hrow hb
    have hg : k < s.size → ∃ b : UInt8, l[k]? = some b ∧ wr.cell? ⟨w.heap.size, k, none⟩ = some (.int .u8 (b.toNat : Int)) ∧ wr.frozen? ⟨w.heap.size, k, none⟩ = false := by
      intro hlt
      have hlt' : k < l.length := by rw [HL.out]; exact hlt
      have hm : k < ((mid upc l k).map bv).length := by rw [List.length_map, mid_length]; exact hlt'
      refine ⟨l[k], List.getElem?_eq_getElem hlt', ?_, hr.free k hm⟩
      rw [hr.cell k hm, List.getElem?_map, mid_get _ _ _ hlt']
      rfl
    by_cases hlt : k < s.size
    · obtain ⟨b, hb1, hb2, hb3⟩ := hg hlt
      have HB := Lib.hid hb1
      clear hg hb1
      go_wp2
      all_goals
        go_roundw
        case rel =>
          have hlt' : k < l.length := by rw [HL.out]; exact hlt
          have hbk : l[k] = b := by have := HB.out; rw [List.getElem?_eq_getElem hlt'] at this; exact Option.some.inj this
          first
            | exact ⟨k + 1, by omega, by go_num, by rw [mid_same upc l k hlt' (by rw [hbk]; exact upc_miss b (by omega))]; exact hr, hbr⟩
            | exact ⟨k + 1, by omega, by go_num, by
                have := hr.set k (by rw [List.length_map, mid_length]; exact hlt') (bv (upc b))
                rw [← List.map_set, mid_set upc l k hlt' _ (by rw [hbk])] at this
                rw [← upc_hit' b (by omega) (by omega)]
                exact this, hbr.setCell (Nat.le_refl _) _⟩
        case measure => simp [intOf]; omega
    · obtain rfl : k = s.size := by omega
      clear hg
      have hback := conv_back (P := Tryd.prog) (by rw [mid_end upc l s.size (by rw [HL.out]; omega)] at hr; exact hr) 22 9 5 s.size cap (by rw [List.length_map]; exact HL.out) Tryd.underlying22 Tryd.underlying5 Tryd.underlying9
      go_wp2
      go_ret
      exact ⟨rfl, hbr⟩

end Go.Proofs.YtjfjadfhcljlbaaDoor