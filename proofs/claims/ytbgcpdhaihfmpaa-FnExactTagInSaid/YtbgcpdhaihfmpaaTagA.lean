/-
  Chapter 8: TagIn.
-/
import Derived.Test.YtbgcpdhaihfmpaaGb
import Derived.Test.YtbgcpdhaihfmpaaMx
import Derived.Test.YtbgcpdhaihfmpaaCmdA
import Derived.Test.YtbgcpdhaihfmpaaCmdK
import Derived.WalkSmall
namespace Go.Proofs.Ytbgcpdhaihfmpaa
open Go.RowKit

def headT (s : List UInt8) : List UInt8 := (partsl 32 s).headD []
def tagInL (s : List UInt8) : List UInt8 := if tagB (headT s) = true then headT s else [42]
theorem tidx_eq (b c : UInt8) (l : List UInt8) : Lib.index (b :: l) [c] = if [c].isPrefixOf (b :: l) = true then 0 else if (Lib.index l [c] == -1) = true then -1 else Lib.index l [c] + 1 := by rw [Lib.index]
theorem tidx_none (c : UInt8) : ∀ (l : List UInt8), (∀ b ∈ l, b ≠ c) → Lib.index l [c] = -1
  | [], _ => rfl
  | b :: l, h => by
    have hp : [c].isPrefixOf (b :: l) = false := by
      have : (c == b) = false := beq_eq_false_iff_ne.2 (h b (by simp)).symm
      simp [List.isPrefixOf, this]
    rw [tidx_eq, hp, tidx_none c l (fun x hx => h x (by simp [hx]))]
    rfl
theorem tidx_hit (c : UInt8) : ∀ (m r : List UInt8), (∀ b ∈ m, b ≠ c) → Lib.index (m ++ c :: r) [c] = (m.length : Int)
  | [], r, _ => by
    have hp : [c].isPrefixOf (c :: r) = true := by simp [List.isPrefixOf]
    rw [List.nil_append, tidx_eq, hp]
    rfl
  | b :: m, r, h => by
    have hp : [c].isPrefixOf (b :: (m ++ c :: r)) = false := by
      have : (c == b) = false := beq_eq_false_iff_ne.2 (h b (by simp)).symm
      simp [List.isPrefixOf, this]
    rw [List.cons_append, tidx_eq, hp, tidx_hit c m r (fun x hx => h x (by simp [hx]))]
    have : (((m.length : Int) == -1) = true) = False := by simp <;> omega
    simp only [this, if_false, List.length_cons]
    rfl
theorem tcut_none {c : UInt8} {l : List UInt8} (h : ∀ b ∈ l, b ≠ c) : Lib.cut l [c] = (l, [], false) := by
  unfold Lib.cut
  rw [tidx_none c l h]
  rfl
theorem tcut_hit {c : UInt8} {m r : List UInt8} (h : ∀ b ∈ m, b ≠ c) : Lib.cut (m ++ c :: r) [c] = (m, r, true) := by
  unfold Lib.cut
  rw [tidx_hit c m r h, if_pos (by omega)]
  simp only [Int.toNat_natCast, List.length_singleton, List.take_left]
  rw [show m.length + 1 = m.length + 1 from rfl, List.drop_append, List.drop_of_length_le (by omega)]
  simp
theorem tcut_split (c : UInt8) (l : List UInt8) : (∀ b ∈ l, b ≠ c) ∨ ∃ m r, l = m ++ c :: r ∧ ∀ b ∈ m, b ≠ c := by
  induction l with
  | nil => exact .inl (fun b hb => by cases hb)
  | cons a l ih =>
    by_cases ha : a = c
    · subst ha
      exact .inr ⟨[], l, rfl, fun b hb => by cases hb⟩
    · rcases ih with h | ⟨m, r, rfl, h⟩
      · refine .inl (fun b hb => ?_)
        rcases List.mem_cons.1 hb with rfl | hb
        · exact ha
        · exact h b hb
      · refine .inr ⟨a :: m, r, rfl, fun b hb => ?_⟩
        rcases List.mem_cons.1 hb with rfl | hb
        · exact ha
        · exact h b hb
theorem tcut_head (l : List UInt8) : (Lib.cut l [32]).1 = headT l := by
  unfold headT
  rcases tcut_split 32 l with h | ⟨m, r, rfl, h⟩
  · rw [tcut_none h, partsl_none 32 l h]
    rfl
  · rw [tcut_hit h, partsl_hit 32 m r h]
    rfl
theorem headT_le (l : List UInt8) : (headT l).length ≤ l.length := by
  unfold headT
  rcases tcut_split 32 l with h | ⟨m, r, rfl, h⟩
  · rw [partsl_none 32 l h]
    exact Nat.le_refl _
  · rw [partsl_hit 32 m r h]
    show m.length ≤ _
    simp

set_option maxHeartbeats 800000 in
theorem specTagIn_at (s : ByteArray) (w : World) (hs : s.size ≤ 1048576) :
    Calls Try.prog 4 #[.string s] w fun e w' => e = .returned (sv (tagInL s.data.toList)) ∧ Below w.heap.size w w' := by
  have hh := headT_le s.data.toList
  have hsz : s.data.toList.length = s.size := str_len s
  have C := Lib.hid (fun W => specTagOk_any ⟨(headT s.data.toList).toArray⟩ W (by show (headT s.data.toList).toArray.size ≤ _; unfold maxLen; simp; omega))
  have HV := Lib.hid (show tagInL s.data.toList = if tagB (headT s.data.toList) = true then headT s.data.toList else [42] from rfl)
  clear hh hsz
  go_enter Try.func4, Try.ntmps4
  go_wp2_with fail
  refine (specParts_any s 32 w hs).mono ?_
  rintro e w1 ⟨v, rfl, o1, b1⟩
  have hne := partsl_ne 32 s.data.toList
  have hhd : (partsl 32 s.data.toList)[0]? = some (headT s.data.toList) := by
    unfold headT
    cases hp : partsl 32 s.data.toList with
    | nil => exact absurd hp hne
    | cons a r => rfl
  have hr := Rd1.of_own (enc := sv) o1
  have B1 := Lib.hid b1
  have hlen : 0 < (partsl 32 s.data.toList).length := List.length_pos_iff.2 hne
  obtain ⟨p, c, rfl, hp⟩ := hr.ex
  obtain ⟨bb, off, rfl, hbb, hcell⟩ := hp.resolve_left hne
  have e0 : w1.cell? ⟨bb, off, none⟩ = some (sv (headT s.data.toList)) := by simpa using hcell 0 _ hhd
  generalize (partsl 32 s.data.toList).length = n at *
  have hn1 : (0 : Int) < (n : Int) := by omega
  clear o1 b1 hr hp hcell hhd hne hbb
  generalize headT s.data.toList = h at *
  go_wp2_with fail
  refine (C.out _).mono ?_
  rintro e w2 ⟨rfl, rfl⟩
  have B2 := B1
  cases hk : tagB h with
  | true =>
    rw [hk] at HV
    go_wp2
    go_ret
    exact ⟨by rw [HV.out]; rfl, B2.out⟩
  | false =>
    rw [hk] at HV
    go_wp2
    go_ret
    exact ⟨by rw [HV.out]; rfl, B2.out⟩

set_option maxHeartbeats 800000 in
theorem implTagIn_at (s : ByteArray) (w : World) (hM : Mx w) (hs : s.size ≤ 1048576) :
    Calls Try.prog 5 #[.string s] w fun e w' => e = .returned (sv (tagInL s.data.toList)) ∧ Below w.heap.size w w' := by
  have hh := headT_le s.data.toList
  have hsz : s.data.toList.length = s.size := str_len s
  obtain ⟨m, hm⟩ := hM
  have c1 := Try.strings_Cut s ⟨#[32]⟩ m w (by omega) hm
  rw [show (⟨#[32]⟩ : ByteArray).data.toList = [32] from rfl, tcut_head] at c1
  have C1 := Lib.hid c1
  have C := Lib.hid (fun W => implTagOk_at ⟨(headT s.data.toList).toArray⟩ W (by show (headT s.data.toList).toArray.size ≤ _; unfold maxLen; simp; omega))
  have HV := Lib.hid (show tagInL s.data.toList = if tagB (headT s.data.toList) = true then headT s.data.toList else [42] from rfl)
  clear hh hsz c1 hm
  generalize (Lib.cut s.data.toList [32]).2.1 = x1 at *
  generalize (Lib.cut s.data.toList [32]).2.2 = x2 at *
  generalize headT s.data.toList = h at *
  go_enter Try.func5, Try.ntmps5
  go_wp2_with fail
  refine C1.out.mono ?_
  rintro e w1 ⟨rfl, k, rfl⟩
  have B1 := Lib.hid (bdN (Below.refl w.heap.size w) k)
  go_wp2_with fail
  refine (C.out _).mono ?_
  rintro e w2 ⟨rfl, b2⟩
  have B2 := Lib.hid (B1.out.trans (b2.mono B1.out.size))
  clear b2
  cases hk : tagB h with
  | true =>
    rw [hk] at HV
    go_wp2
    go_ret
    exact ⟨by rw [HV.out]; rfl, B2.out⟩
  | false =>
    rw [hk] at HV
    go_wp2
    go_ret
    exact ⟨by rw [HV.out]; rfl, B2.out⟩

end Go.Proofs.Ytbgcpdhaihfmpaa
