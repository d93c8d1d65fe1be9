/-
  Chapter 1's walks: Hex.
-/
import Derived.Test.YtnlopkbkdchfnaaOrd
namespace Go.Proofs.Ytnlopkbkdchfnaa
open Go.RowKit

def hexc (n : Nat) : UInt8 := if n < 10 then UInt8.ofNat (48 + n) else UInt8.ofNat (87 + n)
def hex1 (b : UInt8) : List UInt8 := [hexc (b.toNat / 16), hexc (b.toNat % 16)]
def hexl (l : List UInt8) : List UInt8 := l.flatMap hex1
theorem hexl_snoc (l : List UInt8) (b : UInt8) : hexl (l ++ [b]) = hexl l ++ hex1 b := by simp [hexl]
theorem hexl_length (l : List UInt8) : (hexl l).length = 2 * l.length := by
  induction l with
  | nil => rfl
  | cons b l ih => simp only [hexl, List.flatMap_cons, List.length_append, List.length_cons] at ih ⊢; rw [ih]; simp [hex1]; omega

set_option maxHeartbeats 400000 in
theorem l1Hex_any (n : Int) (w : World) (h0 : 0 ≤ n) (h1 : n < 16) :
    Calls Try.prog 48 #[.int .u8 n] w fun e w' => e = .returned (bv (hexc n.toNat)) ∧ w = w' := by
  obtain ⟨k, rfl⟩ := Int.eq_ofNat_of_zero_le h0
  rw [Int.toNat_natCast]
  go_enter Try.func48, Try.ntmps48
  go_wp2
  · go_ret
    refine ⟨?_, rfl⟩
    rw [bv, hexc, if_pos (by omega)]
    simp; omega
  · go_ret
    refine ⟨?_, rfl⟩
    rw [bv, hexc, if_neg (by omega)]
    simp; omega

theorem take_next {l : List UInt8} {k : Nat} {b : UInt8} (h : l[k]? = some b) : l.take (k + 1) = l.take k ++ [b] := by
  obtain ⟨h1, h2⟩ := List.getElem?_eq_some_iff.1 h
  rw [List.take_succ_eq_append_getElem h1, h2]

set_option maxHeartbeats 400000 in
theorem specHex_any (s : ByteArray) (w : World) (hs : s.size ≤ 1048576) :
    Calls Try.prog 32 #[.string s] w fun e w' => e = .returned (.string ⟨(hexl s.data.toList).toArray⟩) ∧ Below w.heap.size w w' := by
  go_enter Try.func32, Try.ntmps32
  go_wp2
  go_loopw [3, 4] (fun v i wr => ∃ k : Nat, k ≤ s.size ∧ i = .int .i64 k ∧ wr.ownsRow w.heap.size 5 1 v (2 * k) ((hexl (s.data.toList.take k)).map bv) ∧ Below w.heap.size w wr) (fun _ i _ => s.size - (intOf i).toNat)
  case atStart => exact ⟨0, Nat.zero_le _, rfl, by simpa [hexl] using World.ownsRow_made w #[] 0 (Nat.le_refl _) (by unfold maxLen; omega) rfl, (Below.refl _ _).alloc (Nat.le_refl _) _⟩
  case round =>
    obtain ⟨k, hk, rfl, hown, hbr⟩ := hrel
    by_cases hlt : k < s.size
    · have hbn : s[k].toNat < 256 := s[k].toNat_lt
      have hbr0 := hbr.size
      have hq : IntKind.u8.wrap ((s[k].toNat : Int) / 16) = (s[k].toNat : Int) / 16 := by rw [IntKind.wrap_u8]; omega
      have hq2 : ((s[k].toNat : Int)).tmod 16 = (s[k].toNat : Int) % 16 := Int.tmod_eq_emod_of_nonneg (by omega)
      go_wp2
      refine ord_start [(0, true), (1, true), (2, true), (3, true), (4, true), (6, true), (7, true), (8, true), (9, true), (5, false), (10, false), (11, false), (12, false), (13, true)] (fun _ => True) (by kernel_rfl) (by kernel_rfl) rfl (by kernel_rfl) ?_
      intro ops' hops
      simp only [List.map_cons, List.map_nil, pickOp_zero, pickOp_succ]
      iterate 9 (refine ord_flo ?_ (fun _ _ _ h => h) rfl ?_ trivial ?_; rotate_left; focus (intro _ _; go_simp; rfl))
      refine ord_ev rfl ?_
      go_simp
      refine (l1Hex_any _ _ (by omega) (by omega)).mono ?_; rintro e w' ⟨rfl, rfl⟩
      refine ord_ev rfl ?_
      go_simp
      refine (l1Hex_any _ _ (by omega) (by omega)).mono ?_; rintro e w' ⟨rfl, rfl⟩
      refine ord_ev rfl ?_
      go_simp
      refine ord_ev rfl ?_
      refine wp_app1 Try.el_u8 (.tmp 12) (.tmp 23) rfl w wr u3 (2 * k) _ rfl hown hbr hbr0 _ (.inl rfl) 2 2 rfl rfl (by simp [Value.oneCell']) (by omega) (by omega) (by omega) ?_
      intro g cap w' hown' hbr' _ _ _
      refine ⟨trivial, ?_⟩
      refine ord_flo ?_ (fun _ _ _ h => h) rfl ?_ trivial ?_; rotate_left; focus (intro _ _; go_simp; rfl)
      refine ord_done ?_
      clear hown hbr hbr0 hops hq hq2
      go_wp2
      go_roundw
      case rel =>
        refine ⟨k + 1, by omega, by go_num, ?_, hbr'⟩
        rw [take_str s k hlt, hexl_snoc, List.map_append]
        exact hown'
      case measure => simp [intOf]; omega
    · obtain rfl : k = s.size := by omega
      rw [take_str_all] at hown
      have hl : (hexl s.data.toList).length = 2 * s.size := by rw [hexl_length]; simp
      have hback := conv_own (P := Try.prog) 22 9 5 hown hl Try.underlying22 Try.underlying5 Try.underlying9
      clear hown hl
      go_wp2
      go_ret
      exact ⟨rfl, hbr⟩


theorem hexd_at (n : Int) (h0 : 0 ≤ n) (h1 : n < 16) (h : n.toNat < (⟨#[48, 49, 50, 51, 52, 53, 54, 55, 56, 57, 97, 98, 99, 100, 101, 102]⟩ : ByteArray).size) :
    (((⟨#[48, 49, 50, 51, 52, 53, 54, 55, 56, 57, 97, 98, 99, 100, 101, 102]⟩ : ByteArray)[n.toNat]'h).toNat : Int) = ((hexc n.toNat).toNat : Int) := by
  have hh : ∀ k : Fin 16, (((⟨#[48, 49, 50, 51, 52, 53, 54, 55, 56, 57, 97, 98, 99, 100, 101, 102]⟩ : ByteArray)[k.val]'(k.2)).toNat : Int) = ((hexc k.val).toNat : Int) := by decide +kernel
  exact hh ⟨n.toNat, by omega⟩
theorem and15 (n : Nat) (h : n < 256) : bits .and .u8 (n : Int) 15 = ((n % 16 : Nat) : Int) := by
  have hh : ∀ k : Fin 256, bits .and .u8 (k.val : Int) 15 = ((k.val % 16 : Nat) : Int) := by decide +kernel
  exact hh ⟨n, h⟩

set_option maxHeartbeats 800000 in
theorem implHex_any (s : ByteArray) (w : World) (hs : s.size ≤ 1048576) :
    Calls Try.prog 13 #[.string s] w fun e w' => e = .returned (.string ⟨(hexl s.data.toList).toArray⟩) ∧ Below w.heap.size w w' := by
  go_enter Try.func13, Try.ntmps13
  go_wp2_with (refine wpList_mk Try.el_u8 rfl _ _ rfl w.heap.size w (Below.refl _ _) (Nat.le_refl _) _ _ _ (2 * s.size) rfl rfl (by omega) (by omega) (by omega) ?_)
  intro w1 hown1 hb1 _ _
  go_wp2
  go_loopw [3, 4] (fun v i wr => ∃ k : Nat, k ≤ s.size ∧ i = .int .i64 k ∧ wr.ownsRow w.heap.size 5 1 v (2 * k) ((hexl (s.data.toList.take k)).map bv) ∧ Below w.heap.size w wr) (fun _ i _ => s.size - (intOf i).toNat)
  case atStart => exact ⟨0, Nat.zero_le _, rfl, by simp [hexl]; exact hown1, hb1⟩
  case round =>
    obtain ⟨k, hk, rfl, hown, hbr⟩ := hrel
    clear hown1 hb1
    by_cases hlt : k < s.size
    · have hbn : s[k].toNat < 256 := s[k].toNat_lt
      have hbr0 := hbr.size
      go_wp2
      refine ord_start [(0, true), (1, true), (2, true), (3, true), (4, true), (5, true), (6, true), (7, true), (8, true), (9, true), (10, true), (11, false), (12, false), (13, true)] (fun _ => True) (by kernel_rfl) (by kernel_rfl) rfl (by kernel_rfl) ?_
      intro ops' hops
      clear hops
      simp only [List.map_cons, List.map_nil, pickOp_zero, pickOp_succ]
      iterate 5 (refine ord_flo ?_ (fun _ _ _ h => h) rfl ?_ trivial ?_; rotate_left; focus (intro _ _; go_simp; rfl))
      refine ord_flo (.int .u8 ((hexc (s[k].toNat / 16)).toNat : Int)) (fun _ _ _ h => h) rfl ?_ trivial ?_
      · intro _ _
        go_simp
        rw [dif_pos ⟨by omega, by omega⟩, hexd_at _ (by omega) (by omega)]
        rfl
      iterate 3 (refine ord_flo ?_ (fun _ _ _ h => h) rfl ?_ trivial ?_; rotate_left; focus (intro _ _; go_simp; rfl))
      refine ord_flo ?_ (fun _ _ _ h => h) rfl ?_ trivial ?_; rotate_left; focus (intro _ _; go_simp; rw [and15 _ hbn])
      refine ord_flo (.int .u8 ((hexc (s[k].toNat % 16)).toNat : Int)) (fun _ _ _ h => h) rfl ?_ trivial ?_
      · intro _ _
        go_simp
        rw [dif_pos ⟨by omega, by omega⟩, hexd_at _ (by omega) (by omega)]
        rfl
      refine ord_ev rfl ?_
      go_simp
      refine ord_ev rfl ?_
      refine wp_app1 Try.el_u8 (.tmp 15) (.tmp 26) rfl w wr u3 (2 * k) _ rfl hown hbr hbr0 _ (.inl rfl) 2 2 rfl rfl (by simp [Value.oneCell']) (by omega) (by omega) (by omega) ?_
      intro g cap w' hown' hbr' _ _ _
      refine ⟨trivial, ?_⟩
      refine ord_flo ?_ (fun _ _ _ h => h) rfl ?_ trivial ?_; rotate_left; focus (intro _ _; go_simp; rfl)
      refine ord_done ?_
      clear hown hbr hbr0
      go_wp2
      go_roundw
      case rel =>
        refine ⟨k + 1, by omega, by go_num, ?_, hbr'⟩
        rw [take_str s k hlt, hexl_snoc, List.map_append]
        exact hown'
      case measure => simp [intOf]; omega
    · obtain rfl : k = s.size := by omega
      rw [take_str_all] at hown
      have hl : (hexl s.data.toList).length = 2 * s.size := by rw [hexl_length]; simp
      have hback := conv_own (P := Try.prog) 22 9 5 hown hl Try.underlying22 Try.underlying5 Try.underlying9
      clear hown hl
      go_wp2
      go_ret
      exact ⟨rfl, hbr⟩

end Go.Proofs.Ytnlopkbkdchfnaa
