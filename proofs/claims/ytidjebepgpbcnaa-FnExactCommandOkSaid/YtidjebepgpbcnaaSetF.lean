/-
  Chapter 4: the laws FnMembers and FnMembersOf, out of what the program's functions answer.
-/
import Derived.Test.YtidjebepgpbcnaaGg
import Derived.Test.YtidjebepgpbcnaaSetE
import Derived.Test.YtidjebepgpbcnaaGa
import Derived.IntWalk
namespace Go.Proofs.Ytidjebepgpbcnaa
open Go.RowKit

theorem upTo_sorted (k : Nat) : (upTo k).Pairwise (· < ·) := by
  induction k with
  | zero => exact List.Pairwise.nil
  | succ k ih =>
    rw [upTo_succ, List.pairwise_append]
    refine ⟨ih, List.pairwise_singleton _ _, fun a ha b hb => ?_⟩
    have := (upTo_mem ha).2
    rw [List.mem_singleton.1 hb]
    omega
theorem membersL_sorted (l : List Spn) (n : Int) : (membersL l n).Pairwise (· < ·) := (upTo_sorted _).filter _
theorem membersL_next {l : List Spn} {n x y : Int} {j : Nat} (h1 : (membersL l n)[j]? = some x) (h2 : (membersL l n)[j + 1]? = some y) : x < y := by
  obtain ⟨a1, a2⟩ := List.getElem?_eq_some_iff.1 h1
  obtain ⟨b1, b2⟩ := List.getElem?_eq_some_iff.1 h2
  have := List.pairwise_iff_getElem.1 (membersL_sorted l n) j (j + 1) a1 b1 (by omega)
  rw [a2, b2] at this
  exact this
theorem membersL_len (l : List Spn) (n : Int) : (membersL l n).length ≤ 999 := by
  have h1 := filter_upTo_le (fun x => inB l x (minI n 999)) (minI n 999).toNat
  have h2 : (minI n 999).toNat ≤ 999 := by unfold minI; split <;> omega
  exact Nat.le_trans h1 h2
theorem inB_parts (l : List Spn) (k : Nat) (x m : Int) : inB l x m = (inB (l.take k) x m || inB (l.drop k) x m) := by
  have h : (l.take k ++ l.drop k).any (inSpn x m) = ((l.take k).any (inSpn x m) || (l.drop k).any (inSpn x m)) := List.any_append
  rw [List.take_append_drop] at h
  exact h
theorem membersL_in {l : List Spn} {n x : Int} (k : Nat) (h : x ∈ membersL l n) : x ∈ membersL (l.take k) n ∨ x ∈ membersL (l.drop k) n := by
  unfold membersL at *
  rw [List.mem_filter] at h
  have h2 := h.2
  rw [inB_parts l k, Bool.or_eq_true] at h2
  rcases h2 with h2 | h2
  · exact .inl (List.mem_filter.2 ⟨h.1, h2⟩)
  · exact .inr (List.mem_filter.2 ⟨h.1, h2⟩)
theorem filter_len_mono {α : Type} {p q : α → Bool} (h : ∀ x, p x = true → q x = true) : ∀ (l : List α), (l.filter p).length ≤ (l.filter q).length
  | [] => by simp
  | a :: l => by
    have ih := filter_len_mono h l
    cases hp : p a with
    | true => rw [List.filter_cons_of_pos hp, List.filter_cons_of_pos (h a hp)]; simp; omega
    | false =>
      rw [List.filter_cons_of_neg (by rw [hp]; simp)]
      cases hq : q a with
      | true => rw [List.filter_cons_of_pos hq]; simp; omega
      | false => rw [List.filter_cons_of_neg (by rw [hq]; simp)]; exact ih
theorem membersL_take_le (l : List Spn) (n : Int) (k : Nat) : (membersL (l.take k) n).length ≤ (membersL l n).length :=
  filter_len_mono (fun x hx => by rw [inB_parts l k, hx]; rfl) _
theorem membersL_drop_le (l : List Spn) (n : Int) (k : Nat) : (membersL (l.drop k) n).length ≤ (membersL l n).length :=
  filter_len_mono (fun x hx => by rw [inB_parts l k, hx]; simp) _
theorem count_pos_sum {a b : List Int} {x : Int} (h : x ∈ a ∨ x ∈ b) : 0 < a.count x + b.count x := by
  rcases h with h | h
  · have := List.count_pos_iff.2 h; omega
  · have := List.count_pos_iff.2 h; omega

theorem Rd.takeS {α : Type} {m : Nat} {enc : α → List Value} {w : World} {b off n c k : Nat} {l : List α} (h : Rd m enc w (.slice (some ⟨b, off, none⟩) n c) l) (hk : k ≤ l.length) (c' : Nat) : Rd m enc w (.slice (some ⟨b, off, none⟩) k c') (l.take k) := by
  obtain ⟨p, cap, hv, hc⟩ := h.ex
  injection hv with hp _ _
  subst hp
  refine ⟨_, c', by rw [List.length_take, Nat.min_eq_left hk], ?_⟩
  rcases hc with rfl | ⟨b1, o1, he, hlt, hc⟩
  · exact .inl (by simp)
  · injection he with he
    injection he with e1 e2
    subst e1
    subst e2
    refine .inr ⟨_, _, rfl, hlt, fun i x hx j u hu => hc i x ?_ j u hu⟩
    rw [List.getElem?_take] at hx
    split at hx
    · exact hx
    · cases hx
theorem Rd.dropS {α : Type} {m : Nat} {enc : α → List Value} {w : World} {b off n c k : Nat} {l : List α} (h : Rd m enc w (.slice (some ⟨b, off, none⟩) n c) l) (c' : Nat) : Rd m enc w (.slice (some ⟨b, off + k * m, none⟩) (l.length - k) c') (l.drop k) := by
  obtain ⟨p, cap, hv, hc⟩ := h.ex
  injection hv with hp _ _
  subst hp
  refine ⟨_, c', by rw [List.length_drop], ?_⟩
  rcases hc with rfl | ⟨b1, o1, he, hlt, hc⟩
  · exact .inl (by simp)
  · injection he with he
    injection he with e1 e2
    subst e1
    subst e2
    refine .inr ⟨_, _, rfl, hlt, fun i x hx j u hu => ?_⟩
    rw [List.getElem?_drop] at hx
    have := hc (k + i) x hx j u hu
    rw [show off + k * m + i * m + j = off + (k + i) * m + j by rw [Nat.add_mul]; omega]
    exact this

/-! ### FnMembersOf -/

theorem foldl_upTo (k : Nat) : (upTo (k + 1)).foldl maxI 1 = (k : Int) + 1 := by
  induction k with
  | zero => rfl
  | succ k ih =>
    rw [upTo_succ, foldl_snoc, ih]
    unfold maxI
    split <;> omega
theorem upTo_head (k : Nat) : ∃ r, upTo (k + 1) = 1 :: r := by
  refine ⟨(List.range k).map fun (i : Nat) => ((i + 1 : Nat) : Int) + 1, ?_⟩
  unfold upTo
  rw [List.range_succ_eq_map, List.map_cons, List.map_map]
  rfl
theorem lastId_upTo (k : Nat) : lastId (upTo (k + 1)) = (k : Int) + 1 := by
  have h := foldl_upTo k
  obtain ⟨r, hr⟩ := upTo_head k
  rw [hr] at h ⊢
  exact h
theorem membersOf_upTo (l : List Spn) (k : Nat) (hk : k + 1 ≤ 50) : membersOfL l (upTo (k + 1)) = membersL l ((k : Int) + 1) := by
  unfold membersOfL membersL
  rw [lastId_upTo, show minI ((k : Int) + 1) 999 = (k : Int) + 1 by unfold minI; rw [if_pos (by omega)], show ((k : Int) + 1).toNat = k + 1 by omega]
theorem upTo_len (k : Nat) : (upTo k).length = k := by simp [upTo]
theorem upTo_in64 {k : Nat} (hk : k ≤ 1000) : ∀ x ∈ upTo k, in64 x := fun x hx => by have := upTo_mem hx; exact ⟨by omega, by omega⟩

/-! ### FnMembers -/

end Go.Proofs.Ytidjebepgpbcnaa
