/-
  Chapter 1's walks: Parts.
-/
import Derived.Test.YtjfjadfhcljlbaaDoorStr
import Derived.Lib.Strings
namespace Go.Proofs.YtjfjadfhcljlbaaDoor
open Go.RowKit

def partsl (c : UInt8) : List UInt8 → List (List UInt8)
  | [] => [[]]
  | b :: r => if b = c then [] :: partsl c r else match partsl c r with
    | [] => [[b]]
    | x :: xs => (b :: x) :: xs

theorem partsl_ne (c : UInt8) (l : List UInt8) : partsl c l ≠ [] := by
  cases l with
  | nil => simp [partsl]
  | cons b r =>
    unfold partsl
    split
    · simp
    · split <;> simp
theorem partsl_none (c : UInt8) : ∀ l : List UInt8, (∀ b ∈ l, b ≠ c) → partsl c l = [l]
  | [], _ => rfl
  | b :: r, h => by
    unfold partsl
    rw [if_neg (h b (by simp)), partsl_none c r (fun x hx => h x (by simp [hx]))]
theorem partsl_hit (c : UInt8) : ∀ (m r : List UInt8), (∀ b ∈ m, b ≠ c) → partsl c (m ++ c :: r) = m :: partsl c r
  | [], r, _ => by simp [partsl]
  | b :: m, r, h => by
    rw [List.cons_append, partsl, if_neg (h b (by simp)), partsl_hit c m r (fun x hx => h x (by simp [hx]))]
theorem partsl_length (c : UInt8) (l : List UInt8) : (partsl c l).length ≤ l.length + 1 := by
  induction l with
  | nil => simp [partsl]
  | cons b r ih =>
    unfold partsl
    split
    · simp only [List.length_cons]; omega
    · split
      · simp
      · rename_i x xs h
        rw [h] at ih
        simp only [List.length_cons] at ih ⊢
        omega

/-- What has been cut off so far: acc, the rest begins at f, and from f to i no separator stands. -/
structure Cut (c : UInt8) (l : List UInt8) (f i : Nat) (acc : List (List UInt8)) : Prop where
  le : f ≤ i
  le' : i ≤ l.length
  all : acc ++ partsl c (l.drop f) = partsl c l
  none : ∀ b ∈ (l.drop f).take (i - f), b ≠ c
  few : acc.length ≤ f

theorem Cut.start (c : UInt8) (l : List UInt8) : Cut c l 0 0 [] := ⟨Nat.le_refl _, Nat.zero_le _, by simp, by simp, by simp⟩
theorem cut_take (l : List UInt8) (f i : Nat) (h1 : f ≤ i) (h2 : i < l.length) : (l.drop f).take (i + 1 - f) = (l.drop f).take (i - f) ++ [l[i]] := by
  rw [show i + 1 - f = (i - f) + 1 from by omega, List.take_succ_eq_append_getElem (by simp; omega)]
  simp [Nat.add_sub_cancel' h1]
theorem cut_split (l : List UInt8) (f i : Nat) (h1 : f ≤ i) (h2 : i < l.length) : l.drop f = (l.drop f).take (i - f) ++ l[i] :: l.drop (i + 1) := by
  have := (List.take_append_drop (i - f) (l.drop f)).symm
  rw [List.drop_drop, show f + (i - f) = i from by omega, List.drop_eq_getElem_cons h2] at this
  exact this
theorem Cut.miss {c : UInt8} {l : List UInt8} {f i : Nat} {acc : List (List UInt8)} (h : Cut c l f i acc) (hi : i < l.length) (hb : l[i] ≠ c) : Cut c l f (i + 1) acc := by
  refine ⟨by have := h.le; omega, hi, h.all, ?_, h.few⟩
  rw [cut_take l f i h.le hi]
  intro b hb'
  rw [List.mem_append, List.mem_singleton] at hb'
  rcases hb' with h1 | h1
  · exact h.none b h1
  · rw [h1]; exact hb
theorem Cut.hit {c : UInt8} {l : List UInt8} {f i : Nat} {acc : List (List UInt8)} (h : Cut c l f i acc) (hi : i < l.length) (hb : l[i] = c) : Cut c l (i + 1) (i + 1) (acc ++ [(l.drop f).take (i - f)]) := by
  refine ⟨Nat.le_refl _, hi, ?_, by simp, by have := h.few; have := h.le; simp; omega⟩
  have h1 := h.all
  rw [cut_split l f i h.le hi, hb, partsl_hit c _ _ h.none] at h1
  rw [← h1]
  simp
theorem Cut.fin {c : UInt8} {l : List UInt8} {f : Nat} {acc : List (List UInt8)} (h : Cut c l f l.length acc) : acc ++ [(l.drop f).take (l.length - f)] = partsl c l := by
  have h1 := h.all
  have e : (l.drop f).take (l.length - f) = l.drop f := List.take_of_length_le (by simp)
  have h2 := h.none
  rw [e] at h2 ⊢
  rw [partsl_none c _ h2] at h1
  exact h1
theorem sv_extract (s : ByteArray) (f i : Nat) : Value.string (s.extract f i) = sv ((s.data.toList.drop f).take (i - f)) := by
  rw [← sv_data (s.extract f i), Lib.extract_data]

set_option maxHeartbeats 800000 in
theorem specParts_any (s : ByteArray) (c : UInt8) (w : World) (hs : s.size ≤ 1048576) :
    Calls Tryd.prog 11 #[.string s, .int .u8 (c.toNat : Int)] w fun e w' => ∃ v, e = .returned v ∧ w'.ownsRow w.heap.size 9 1 v (partsl c s.data.toList).length ((partsl c s.data.toList).map sv) ∧ Below w.heap.size w w' := by
  have hsl : s.data.toList.length = s.size := by simp
  have HL := Lib.hid hsl
  clear hsl
  go_enter Tryd.func11, Tryd.ntmps11
  go_wp2
  go_loopw [5, 6, 7] (fun v fv i wr => ∃ (f k : Nat) (acc : List (List UInt8)), k ≤ s.size + 1 ∧ i = .int .i64 k ∧ fv = .int .i64 f ∧ (k ≤ s.size → Cut c s.data.toList f k acc) ∧ (k = s.size + 1 → acc = partsl c s.data.toList) ∧ wr.ownsRow w.heap.size 9 1 v acc.length (acc.map sv) ∧ Below w.heap.size w wr) (fun _ _ i _ => s.size + 1 - (intOf i).toNat)
  case atStart => exact ⟨0, 0, [], by omega, rfl, rfl, fun _ => Cut.start _ _, by omega, by simpa using World.ownsRow_made w #[] 0 (Nat.le_refl _) (by unfold maxLen; omega) rfl, (Below.refl _ _).alloc (Nat.le_refl _) _⟩
  case round =>
    obtain ⟨f, k, acc, hk, rfl, rfl, hcut, hend, hown, hbr⟩ := hrel
    have hbr0 := hbr.size
    by_cases hlt : k ≤ s.size
    · have hcut := hcut hlt
      have hf1 := hcut.le
      have hf2 := hcut.few
      have HC := Lib.hid hcut
      clear hcut hend
      by_cases hls : k < s.size
      · have hkl : k < s.data.toList.length := by rw [HL.out]; exact hls
        have hget : s.data.toList[k] = s[k] := rfl
        have hne : ((k : Int) == (s.size : Int)) = false := by simp; omega
        by_cases hbc : s[k] = c
        · have hq : ((s[k].toNat : Int) == (c.toNat : Int)) = true := by rw [hbc]; simp
          have HN := Lib.hid (HC.out.hit hkl (by rw [hget]; exact hbc))
          have HX := Lib.hid (sv_extract s f k)
          clear hbc hget
          go_wp2_with (at_builtin; refine wpList_app1 Tryd.el_string rfl (.tmp 26) (.tmp 31) rfl w wr u5 acc.length _ rfl hown hbr hbr0 _ (.inr rfl) 1 1 rfl rfl (by simp [Value.oneCell']) (by omega) (by omega) (by omega) ?_)
          intro g cap w' hown' hbr' _ _ _
          clear hown hbr hbr0
          go_wp2
          go_roundw
          case rel =>
            refine ⟨k + 1, k + 1, _, by omega, by go_num, by go_num, fun _ => HN.out, by omega, ?_, hbr'⟩
            rw [List.length_append, List.length_singleton, List.map_append, List.map_singleton, ← HX.out]
            exact hown'
          case measure => simp [intOf]; omega
        · have hq : ((s[k].toNat : Int) == (c.toNat : Int)) = false := by
            simp only [beq_eq_false_iff_ne, ne_eq]
            intro e
            exact hbc (UInt8.toNat_inj.1 (by omega))
          have HN := Lib.hid (HC.out.miss hkl (by rw [hget]; exact hbc))
          clear hbc hget
          go_wp2
          go_roundw
          case rel => exact ⟨f, k + 1, acc, by omega, by go_num, rfl, fun _ => HN.out, by omega, hown, hbr⟩
          case measure => simp [intOf]; omega
      · obtain rfl : k = s.size := by omega
        have hne : ((s.size : Int) == (s.size : Int)) = true := by simp
        have HF := Lib.hid (Cut.fin (by have := HC.out; rw [HL.out]; exact this))
        have HX := Lib.hid (sv_extract s f s.size)
        clear HC
        go_wp2_with (at_builtin; refine wpList_app1 Tryd.el_string rfl (.tmp 26) (.tmp 31) rfl w wr u5 acc.length _ rfl hown hbr hbr0 _ (.inr rfl) 1 1 rfl rfl (by simp [Value.oneCell']) (by omega) (by omega) (by omega) ?_)
        intro g cap w' hown' hbr' _ _ _
        clear hown hbr hbr0
        go_wp2
        go_roundw
        case rel =>
          refine ⟨s.size + 1, s.size + 1, _, by omega, by go_num, by go_num, by omega, fun _ => HF.out, ?_, hbr'⟩
          rw [List.length_append, List.length_singleton, List.map_append, List.map_singleton, HL.out, ← HX.out]
          exact hown'
        case measure => simp [intOf]
    · obtain rfl : k = s.size + 1 := by omega
      have HE := Lib.hid (hend rfl)
      clear hend hcut
      rw [HE.out] at hown
      clear HE
      go_wp2
      go_ret
      exact ⟨_, rfl, hown, hbr⟩

theorem u8_of (b : Int) (h : (Lit.int .u8 b).wf = true) : ∃ c : UInt8, b = (c.toNat : Int) := by
  have hx : 0 ≤ b ∧ b ≤ 255 := by simpa [Lit.wf, IntKind.min, IntKind.max, IntKind.signed, IntKind.bits] using h
  refine ⟨UInt8.ofNat b.toNat, ?_⟩
  rw [UInt8.toNat_ofNat_of_lt' (by show b.toNat < 256; omega)]
  omega

end Go.Proofs.YtjfjadfhcljlbaaDoor
