/-
  Gb: NumE, Str, Lf, LfB, Parts.
-/
import Derived.Test.YthjeeggejkpjgaaGa
import Derived.Lib.ItoaLen
import Derived.Lib.Strings

/-
  Chapter 1's walks: the model's Digits, both Numbers.
-/
namespace Go.Proofs.Ythjeeggejkpjgaa
open Go.RowKit
open Go.Lib (decDigits itoa)

theorem decDigits_length_le (n : Nat) (h : n ≤ 9223372036854775807) : (decDigits n).length ≤ 21 := by
  have := Lib.itoa_length_le (n : Int) (by omega) (by omega)
  rwa [Lib.itoa_nonneg] at this

/-- One digit more in front. -/
theorem dec_step {m n : Nat} {l : List UInt8} (_hm0 : ¬ m = 0) (h : decDigits m ++ l = decDigits n) :
    (m / 10 = 0 → UInt8.ofNat (48 + m % 10) :: l = decDigits n) ∧ (0 < m / 10 → decDigits (m / 10) ++ UInt8.ofNat (48 + m % 10) :: l = decDigits n) := by
  constructor
  · intro hz
    have : m < 10 := by omega
    rw [decDigits_small this] at h
    rw [Nat.mod_eq_of_lt this]
    exact h
  · intro hz
    rw [decDigits_big (by omega), List.append_assoc] at h
    exact h


theorem toList_data (s : ByteArray) : s.toList = s.data.toList := ByteArray.toList_eq s

/-- What Number hands back. -/
def numV (l : List UInt8) : Value := match numl l with | some n => .tuple #[.int .i64 (n : Int), .bool true] | none => .tuple #[.int .i64 0, .bool false]
theorem numV_none {l : List UInt8} (h : numl l = none) : numV l = .tuple #[.int .i64 0, .bool false] := by unfold numV; rw [h]
theorem numV_some {l : List UInt8} {n : Nat} (h : numl l = some n) : numV l = .tuple #[.int .i64 (n : Int), .bool true] := by unfold numV; rw [h]

theorem all_take_step (s : ByteArray) (k : Nat) (h : k < s.size) : (s.data.toList.take (k + 1)).all isd = ((s.data.toList.take k).all isd && isd s[k]) := by
  rw [take_str s k h, List.all_append]; simp
theorem dv_take_step (s : ByteArray) (k : Nat) (h : k < s.size) : dv (s.data.toList.take (k + 1)) = 10 * dv (s.data.toList.take k) + (s[k].toNat - 48) := by
  rw [take_str s k h, dv_snoc]
theorem not_canon_at (s : ByteArray) (k : Nat) (h : k < s.size) (hn : isd s[k] = false) : numl s.data.toList = none := by
  unfold numl
  rw [if_neg]
  rintro ⟨hc, _⟩
  simp only [canon, Bool.and_eq_true] at hc
  have h1 := hc.1.1
  rw [List.all_eq_true] at h1
  have := h1 s[k] (by
    have : s.data.toList[k]? = some s[k] := by simp [List.getElem?_eq_getElem (show k < s.data.toList.length by simpa using h)]; rfl
    exact List.mem_of_getElem? this)
  rw [hn] at this
  cases this
theorem isd_int (b : UInt8) : isd b = (decide (48 ≤ (b.toNat : Int)) && decide ((b.toNat : Int) ≤ 57)) := by
  unfold isd
  congr 1
  · have : (48 ≤ b.toNat) = (48 ≤ (b.toNat : Int)) := by rw [eq_iff_iff]; omega
    simp only [this]
  · have : (b.toNat ≤ 57) = ((b.toNat : Int) ≤ 57) := by rw [eq_iff_iff]; omega
    simp only [this]


def numPan : Value := .iface 9 (.string ⟨#[110, 111, 116, 32, 97, 32, 110, 117, 109, 98, 101, 114]⟩)

/-- numberOf: the number, or a panic. -/
def numPost (l : List UInt8) (w : World) (e : Ending) (w' : World) : Prop := (match numl l with | some n => e = .returned (.int .i64 (n : Int)) | none => e = .panicked [{ v := numPan, recovered := false }]) ∧ Below w.heap.size w w'
theorem numPost_none {l : List UInt8} {w w' : World} {e : Ending} (h : numl l = none) (he : e = .panicked [{ v := numPan, recovered := false }]) (hb : Below w.heap.size w w') : numPost l w e w' := by
  unfold numPost; rw [h]; exact ⟨he, hb⟩
theorem numPost_some {l : List UInt8} {n : Nat} {w w' : World} {e : Ending} (h : numl l = some n) (he : e = .returned (.int .i64 (n : Int))) (hb : Below w.heap.size w w') : numPost l w e w' := by
  unfold numPost; rw [h]; exact ⟨he, hb⟩
theorem dv_mono (p q : List UInt8) : dv p ≤ dv (p ++ q) := by
  induction q using rev_ind with
  | nil => simp
  | snoc q b ih => rw [← List.append_assoc, dv_snoc]; omega
theorem dv_take_le (l : List UInt8) (k : Nat) : dv (l.take k) ≤ dv l := by
  have := dv_mono (l.take k) (l.drop k)
  rwa [List.take_append_drop] at this
theorem numl_great (l : List UInt8) (k : Nat) (h : 999999999 < dv (l.take k)) : numl l = none := by
  unfold numl
  rw [if_neg]
  rintro ⟨_, hv⟩
  have := dv_take_le l k
  omega
theorem numl_zero (s : ByteArray) (h0 : 0 < s.size) (h : (s[0].toNat : Int) = 48) (h1 : 1 < s.size) : numl s.data.toList = none := by
  unfold numl
  rw [if_neg]
  rintro ⟨hc, _⟩
  simp only [canon, Bool.and_eq_true, Bool.or_eq_true, decide_eq_true_eq] at hc
  rcases hc.2 with h2 | h2
  · simp at h2; omega
  · have e : s.data.toList.head? = some s[0] := by
      rw [List.head?_eq_getElem?, List.getElem?_eq_getElem (by simpa using h0)]
      rfl
    rw [e] at h2
    have : s[0] = 48 := by apply UInt8.toNat_inj.1; show s[0].toNat = 48; omega
    rw [this] at h2
    simp at h2
theorem data_ne (s : ByteArray) (h : 0 < s.size) : s.data.toList.isEmpty = false := by
  have h2 : s.data.toList.length = s.size := by simp
  cases hd : s.data.toList with
  | nil => rw [hd] at h2; simp only [List.length_nil] at h2; omega
  | cons a r => rfl
theorem numl_ok (s : ByteArray) (h0 : 0 < s.size) (hall : s.data.toList.all isd = true) (hv : dv s.data.toList ≤ 999999999) (h : ¬ (s[0].toNat : Int) = 48 ∨ s.size = 1) : numl s.data.toList = some (dv s.data.toList) := by
  unfold numl
  rw [if_pos]
  refine ⟨?_, hv⟩
  simp only [canon, hall, Bool.true_and, Bool.and_eq_true, Bool.or_eq_true, decide_eq_true_eq]
  refine ⟨?_, ?_⟩
  · rw [data_ne s h0]; rfl
  · rcases h with h | h
    · right
      have e : s.data.toList.head? = some s[0] := by
        rw [List.head?_eq_getElem?, List.getElem?_eq_getElem (by simpa using h0)]
        rfl
      rw [e]
      simp only [bne_iff_ne, ne_eq, Option.some.injEq]
      intro e2
      rw [e2] at h
      exact h rfl
    · left; simpa using h

theorem numV_cases (l : List UInt8) : ∃ (n : Int) (b : Bool), numV l = .tuple #[.int .i64 n, .bool b] := by
  unfold numV
  cases numl l with
  | none => exact ⟨_, _, rfl⟩
  | some r => exact ⟨_, _, rfl⟩

end Go.Proofs.Ythjeeggejkpjgaa

/-
  The laws' own helpers on slices of strings: equality, marks.
-/
namespace Go.Proofs.Ythjeeggejkpjgaa
open Go.RowKit
open Go.Lib (decDigits itoa)

/-- The law's mark number k. -/
def markB (k : Nat) : List UInt8 := if k = 0 then [109, 48] else 109 :: decDigits k

/-- The marks from number k on, as many as n. -/
def marks (k n : Nat) : List (List UInt8) := (List.range n).map fun i => markB (k + i)
theorem marks_length (k n : Nat) : (marks k n).length = n := by simp [marks]
theorem marks_at (k n i : Nat) (h : i < n) : (marks k n)[i]? = some (markB (k + i)) := by simp [marks, h]
/-- The first j elements marked. -/
def marked (l : List (List UInt8)) (k j : Nat) : List (List UInt8) := marks k j ++ l.drop j
theorem marked_zero (l : List (List UInt8)) (k : Nat) : marked l k 0 = l := by simp [marked, marks]
theorem marked_all (l : List (List UInt8)) (k : Nat) : marked l k l.length = marks k l.length := by simp [marked]
theorem marked_length (l : List (List UInt8)) (k j : Nat) (h : j ≤ l.length) : (marked l k j).length = l.length := by simp [marked, marks_length]; omega
theorem marked_set (l : List (List UInt8)) (k j : Nat) (h : j < l.length) : (marked l k j).set j (markB (k + j)) = marked l k (j + 1) := by
  unfold marked
  rw [List.set_append_right _ _ (by rw [marks_length]; omega), marks_length, Nat.sub_self, List.drop_eq_getElem_cons h, List.set_cons_zero]
  have : marks k (j + 1) = marks k j ++ [markB (k + j)] := by simp [marks, List.range_succ]
  rw [this, List.append_assoc]
  rfl

end Go.Proofs.Ythjeeggejkpjgaa

/-
  Data as trees of leaves: what a value reads as, and what a call owns of it, slices in slices. No program is read here.
-/
namespace Go.Proofs.Ythjeeggejkpjgaa
open Go.RowKit

/-- A leaf is one cell. 'rows e m n flat': n elements of type e, m cells each, their leaves one behind the other. -/
inductive Lf where
  | int (n : Int)
  | bool (b : Bool)
  | str (l : List UInt8)
  | rows (e : TypeId) (m n : Nat) (flat : List Lf)

mutual
/-- The value reads as the leaf. -/
def LfRd (W : World) : Lf → Value → Prop
  | .int n, v => v = .int .i64 n
  | .bool b, v => v = .bool b
  | .str l, v => v = sv l
  | .rows _ m n flat, v => flat.length = n * m ∧ ∃ p cap, v = .slice p n cap ∧ (n = 0 ∨ ∃ b off, p = some ⟨b, off, none⟩ ∧ b < W.heap.size ∧ ∃ xs : List Value, (∀ j u, xs[j]? = some u → W.cell? ⟨b, off + j, none⟩ = some u) ∧ LsRd W flat xs)
def LsRd (W : World) : List Lf → List Value → Prop
  | [], vs => vs = []
  | x :: xs, vs => ∃ v us, vs = v :: us ∧ LfRd W x v ∧ LsRd W xs us
end

mutual
/-- The value is the leaf, in memory of the call's own: fp are the blocks. -/
def LfIn (W : World) : Lf → Value → List Nat → Prop
  | .int n, v, fp => v = .int .i64 n ∧ fp = []
  | .bool b, v, fp => v = .bool b ∧ fp = []
  | .str l, v, fp => v = sv l ∧ fp = []
  | .rows e m n flat, v, fp => flat.length = n * m ∧ ∃ xs fq, W.ownsRow 0 e m v n xs ∧ LsIn W flat xs fq ∧ fp = v.ownBlock.toList ++ fq
def LsIn (W : World) : List Lf → List Value → List Nat → Prop
  | [], vs, fp => vs = [] ∧ fp = []
  | x :: xs, vs, fp => ∃ v us f1 f2, vs = v :: us ∧ LfIn W x v f1 ∧ LsIn W xs us f2 ∧ fp = f1 ++ f2
end

mutual
theorem LfRd.below {W W' : World} (hb : Below W.heap.size W W') : ∀ (x : Lf) (v : Value), LfRd W x v → LfRd W' x v
  | .int _, _, h => h
  | .bool _, _, h => h
  | .str _, _, h => h
  | .rows _ m n flat, v, h => by
    obtain ⟨hl, p, cap, hv, h0 | ⟨b, off, hp, hlt, xs, hc, hx⟩⟩ := h
    · exact ⟨hl, p, cap, hv, .inl h0⟩
    · exact ⟨hl, p, cap, hv, .inr ⟨b, off, hp, Nat.lt_of_lt_of_le hlt hb.size, xs, fun j u hu => (hb.cell (p := ⟨b, off + j, none⟩) hlt).trans (hc j u hu), LsRd.below hb flat xs hx⟩⟩
theorem LsRd.below {W W' : World} (hb : Below W.heap.size W W') : ∀ (xs : List Lf) (vs : List Value), LsRd W xs vs → LsRd W' xs vs
  | [], _, h => h
  | x :: xs, _, h => by
    obtain ⟨v, us, hv, h1, h2⟩ := h
    exact ⟨v, us, hv, LfRd.below hb x v h1, LsRd.below hb xs us h2⟩
end

theorem own_frame {W W' : World} {B m n : Nat} {e : TypeId} {v : Value} {xs : List Value} (h : W.ownsRow B e m v n xs) (hf : ∀ k, v.ownBlock = some k → W'.heap[k]? = W.heap[k]?) : W'.ownsRow B e m v n xs := by
  refine ⟨h.1, ?_⟩
  rcases h.2 with h0 | ⟨g, cap, cur, hv, h1, h2, h3⟩
  · exact .inl h0
  · exact .inr ⟨g, cap, cur, hv, h1, (hf g (by rw [hv]; rfl)).trans h2, h3⟩

mutual
theorem LfIn.frame {W W' : World} : ∀ (x : Lf) (v : Value) (fp : List Nat), (∀ k ∈ fp, W'.heap[k]? = W.heap[k]?) → LfIn W x v fp → LfIn W' x v fp
  | .int _, _, _, _, h => h
  | .bool _, _, _, _, h => h
  | .str _, _, _, _, h => h
  | .rows e m n flat, v, fp, hf, h => by
    obtain ⟨hl, xs, fq, ho, hx, rfl⟩ := h
    exact ⟨hl, xs, fq, own_frame ho (fun k hk => hf k (by rw [hk]; simp)), LsIn.frame flat xs fq (fun k hk => hf k (by simp [hk])) hx, rfl⟩
theorem LsIn.frame {W W' : World} : ∀ (xs : List Lf) (vs : List Value) (fp : List Nat), (∀ k ∈ fp, W'.heap[k]? = W.heap[k]?) → LsIn W xs vs fp → LsIn W' xs vs fp
  | [], _, _, _, h => h
  | x :: xs, vs, fp, hf, h => by
    obtain ⟨v, us, f1, f2, hv, h1, h2, rfl⟩ := h
    exact ⟨v, us, f1, f2, hv, LfIn.frame x v f1 (fun k hk => hf k (by simp [hk])) h1, LsIn.frame xs us f2 (fun k hk => hf k (by simp [hk])) h2, rfl⟩
end

mutual
theorem LfIn.lt {W : World} : ∀ (x : Lf) (v : Value) (fp : List Nat), LfIn W x v fp → ∀ k ∈ fp, k < W.heap.size
  | .int _, _, _, h, k, hk => by rw [h.2] at hk; cases hk
  | .bool _, _, _, h, k, hk => by rw [h.2] at hk; cases hk
  | .str _, _, _, h, k, hk => by rw [h.2] at hk; cases hk
  | .rows e m n flat, v, fp, h, k, hk => by
    obtain ⟨hl, xs, fq, ho, hx, rfl⟩ := h
    rcases List.mem_append.1 hk with hk | hk
    · exact (ho.lt k (by simpa using hk)).2
    · exact LsIn.lt flat xs fq hx k hk
theorem LsIn.lt {W : World} : ∀ (xs : List Lf) (vs : List Value) (fp : List Nat), LsIn W xs vs fp → ∀ k ∈ fp, k < W.heap.size
  | [], _, _, h, k, hk => by rw [h.2] at hk; cases hk
  | x :: xs, vs, fp, h, k, hk => by
    obtain ⟨v, us, f1, f2, hv, h1, h2, rfl⟩ := h
    rcases List.mem_append.1 hk with hk | hk
    · exact LfIn.lt x v f1 h1 k hk
    · exact LsIn.lt xs us f2 h2 k hk
end

mutual
theorem LfIn.rd {W : World} : ∀ (x : Lf) (v : Value) (fp : List Nat), LfIn W x v fp → LfRd W x v
  | .int _, _, _, h => h.1
  | .bool _, _, _, h => h.1
  | .str _, _, _, h => h.1
  | .rows e m n flat, v, fp, h => by
    obtain ⟨hl, xs, fq, ho, hx, rfl⟩ := h
    refine ⟨hl, ?_⟩
    rcases ho.2 with ⟨hv, h0⟩ | ⟨g, cap, cur, hv, h1, h2, h3⟩
    · exact ⟨none, 0, by rw [hv, h0], .inl h0⟩
    · subst hv
      refine ⟨_, cap, rfl, .inr ⟨g, 0, rfl, (Array.getElem?_eq_some_iff.1 h2).1, xs, fun j u hu => ?_, LsIn.rd flat xs fq hx⟩⟩
      have hj : j < xs.length := (List.getElem?_eq_some_iff.1 hu).1
      rw [Nat.zero_add, ho.cellAt j (by rw [← ho.1]; exact hj), hu]
theorem LsIn.rd {W : World} : ∀ (xs : List Lf) (vs : List Value) (fp : List Nat), LsIn W xs vs fp → LsRd W xs vs
  | [], _, _, h => h.1
  | x :: xs, vs, fp, h => by
    obtain ⟨v, us, f1, f2, hv, h1, h2, rfl⟩ := h
    exact ⟨v, us, hv, LfIn.rd x v f1 h1, LsIn.rd xs us f2 h2⟩
end

theorem LsRd.length {W : World} : ∀ {xs : List Lf} {vs : List Value}, LsRd W xs vs → vs.length = xs.length
  | [], _, h => by rw [h]; rfl
  | _ :: xs, _, h => by obtain ⟨v, us, rfl, _, h2⟩ := h; simp [LsRd.length h2]
theorem LsRd.append {W : World} : ∀ {a b : List Lf} {vs : List Value}, LsRd W (a ++ b) vs ↔ ∃ u1 u2, vs = u1 ++ u2 ∧ LsRd W a u1 ∧ LsRd W b u2
  | [], b, vs => ⟨fun h => ⟨[], vs, rfl, rfl, h⟩, fun ⟨u1, u2, h1, h2, h3⟩ => by rw [h1, h2]; exact h3⟩
  | x :: a, b, vs => by
    constructor
    · rintro ⟨v, us, rfl, h1, h2⟩
      obtain ⟨u1, u2, rfl, h3, h4⟩ := LsRd.append.1 h2
      exact ⟨v :: u1, u2, rfl, ⟨v, u1, rfl, h1, h3⟩, h4⟩
    · rintro ⟨u1, u2, rfl, ⟨v, us, rfl, h1, h2⟩, h3⟩
      exact ⟨v, us ++ u2, rfl, h1, LsRd.append.2 ⟨us, u2, rfl, h2, h3⟩⟩
theorem LsIn.length {W : World} : ∀ {xs : List Lf} {vs : List Value} {fp : List Nat}, LsIn W xs vs fp → vs.length = xs.length
  | [], _, _, h => by rw [h.1]; rfl
  | _ :: xs, _, _, h => by obtain ⟨v, us, _, _, rfl, _, h2, _⟩ := h; simp [LsIn.length h2]
theorem LsIn.append {W : World} : ∀ {a b : List Lf} {vs : List Value} {fp : List Nat}, LsIn W (a ++ b) vs fp ↔ ∃ u1 u2 f1 f2, vs = u1 ++ u2 ∧ LsIn W a u1 f1 ∧ LsIn W b u2 f2 ∧ fp = f1 ++ f2
  | [], b, vs, fp => ⟨fun h => ⟨[], vs, [], fp, rfl, ⟨rfl, rfl⟩, h, rfl⟩, fun ⟨u1, u2, f1, f2, h1, h2, h3, h4⟩ => by rw [h1, h2.1, h4, h2.2]; exact h3⟩
  | x :: a, b, vs, fp => by
    constructor
    · rintro ⟨v, us, f1, f2, rfl, h1, h2, rfl⟩
      obtain ⟨u1, u2, f3, f4, rfl, h3, h4, rfl⟩ := LsIn.append.1 h2
      exact ⟨v :: u1, u2, f1 ++ f3, f4, rfl, ⟨v, u1, f1, f3, rfl, h1, h3, rfl⟩, h4, by rw [List.append_assoc]⟩
    · rintro ⟨u1, u2, f1, f2, rfl, ⟨v, us, f3, f4, rfl, h1, h2, rfl⟩, h3, rfl⟩
      exact ⟨v, us ++ u2, f3, f4 ++ f2, rfl, h1, LsIn.append.2 ⟨us, u2, f4, f2, rfl, h2, h3, rfl⟩, by rw [List.append_assoc]⟩

/-- A tree of the call's own: its blocks are apart from each other, none below lo. -/
structure Tree (W : World) (lo : Nat) (x : Lf) (v : Value) (fp : List Nat) : Prop where
  is : LfIn W x v fp
  nodup : fp.Nodup
  low : ∀ k ∈ fp, lo ≤ k
theorem Tree.below {W W' : World} {lo : Nat} {x : Lf} {v : Value} {fp : List Nat} (h : Tree W lo x v fp) (hb : Below W.heap.size W W') : Tree W' lo x v fp :=
  ⟨h.is.frame x v fp (fun k hk => hb.block k (LfIn.lt x v fp h.is k hk)), h.nodup, h.low⟩
theorem Tree.rd {W : World} {lo : Nat} {x : Lf} {v : Value} {fp : List Nat} (h : Tree W lo x v fp) : LfRd W x v := h.is.rd
theorem Tree.lt {W : World} {lo : Nat} {x : Lf} {v : Value} {fp : List Nat} (h : Tree W lo x v fp) : ∀ k ∈ fp, k < W.heap.size := LfIn.lt x v fp h.is

/-- What was changed lies in the blocks fp, or is new. -/
structure GrownIn (W W' : World) (fp : List Nat) : Prop where
  os : W'.os = W.os
  tape : W'.tape = W.tape
  output : W'.output = W.output
  size : W.heap.size ≤ W'.heap.size
  block : ∀ k, k < W.heap.size → k ∉ fp → W'.heap[k]? = W.heap[k]?
theorem GrownIn.trans {W W1 W2 : World} {fp : List Nat} (h : GrownIn W W1 fp) (k : GrownIn W1 W2 fp) : GrownIn W W2 fp :=
  ⟨k.os.trans h.os, k.tape.trans h.tape, k.output.trans h.output, Nat.le_trans h.size k.size, fun i hi hn => (k.block i (Nat.lt_of_lt_of_le hi h.size) hn).trans (h.block i hi hn)⟩
theorem GrownIn.mono {W W' : World} {fp fq : List Nat} (h : GrownIn W W' fp) (hs : ∀ k ∈ fp, k ∈ fq) : GrownIn W W' fq := ⟨h.os, h.tape, h.output, h.size, fun k hk hn => h.block k hk (fun hm => hn (hs k hm))⟩
theorem GrownIn.of_below {W W' : World} {fp : List Nat} (h : Below W.heap.size W W') : GrownIn W W' fp := ⟨h.os, h.tape, h.output, h.size, fun k hk _ => h.block k hk⟩
theorem GrownIn.below {W0 W W' : World} {B : Nat} {fp : List Nat} (h : Below B W0 W) (hg : GrownIn W W' fp) (hB : B ≤ W.heap.size) (hf : ∀ k ∈ fp, B ≤ k) : Below B W0 W' :=
  h.trans ⟨hg.os, hg.tape, hg.output, hg.size, fun k hk => hg.block k (Nat.lt_of_lt_of_le hk hB) (fun hm => by have := hf k hm; omega)⟩
/-- Another tree stands. -/
theorem Tree.apart {W W' : World} {lo : Nat} {x : Lf} {v : Value} {fp fq : List Nat} (h : Tree W lo x v fp) (hg : GrownIn W W' fq) (hd : ∀ k ∈ fp, k ∉ fq) : Tree W' lo x v fp :=
  ⟨h.is.frame x v fp (fun k hk => hg.block k (h.lt k hk) (hd k hk)), h.nodup, h.low⟩

/-! ### Marks -/

mutual
def markLf : Lf → Nat → Lf × Nat
  | .int _, k => (.int (k : Int), k + 1)
  | .bool _, k => (.bool (k % 3 == 0), k + 1)
  | .str _, k => (.str (markB k), k + 1)
  | .rows e m n flat, k => ((.rows e m n (markLs flat k).1), (markLs flat k).2)
def markLs : List Lf → Nat → List Lf × Nat
  | [], k => ([], k)
  | x :: xs, k => ((markLf x k).1 :: (markLs xs (markLf x k).2).1, (markLs xs (markLf x k).2).2)
end
theorem markLs_length : ∀ (xs : List Lf) (k : Nat), (markLs xs k).1.length = xs.length
  | [], _ => by simp [markLs]
  | x :: xs, k => by simp [markLs, markLs_length xs]
theorem markLs_append : ∀ (a b : List Lf) (k : Nat), markLs (a ++ b) k = ((markLs a k).1 ++ (markLs b (markLs a k).2).1, (markLs b (markLs a k).2).2)
  | [], b, k => by simp [markLs]
  | x :: a, b, k => by simp [markLs, markLs_append a b]

/-! ### Sizes -/

mutual
def szLf : Lf → Nat
  | .int _ => 0
  | .bool _ => 0
  | .str l => l.length
  | .rows _ _ n flat => n + szLs flat
def szLs : List Lf → Nat
  | [] => 0
  | x :: xs => szLf x + szLs xs
end
theorem szLs_append : ∀ (a b : List Lf), szLs (a ++ b) = szLs a + szLs b
  | [], b => by simp [szLs]
  | x :: a, b => by simp [szLs, szLs_append a b]; omega

end Go.Proofs.Ythjeeggejkpjgaa

/-
  Rows of records, read element by element; a row's cells set in place. No program is read here.
-/
namespace Go.Proofs.Ythjeeggejkpjgaa
open Go.RowKit

theorem rows_cells {W : World} {α : Type} {enc : α → List Lf} {m : Nat} (hm : ∀ x, (enc x).length = m) : ∀ (l : List α) (xs : List Value), LsRd W (l.flatMap enc) xs → ∀ i x, l[i]? = some x → ∃ us, LsRd W (enc x) us ∧ ∀ j u, us[j]? = some u → xs[i * m + j]? = some u
  | [], _, _, i, x, h => by simp at h
  | a :: l, xs, h, i, x, hx => by
    rw [List.flatMap_cons] at h
    obtain ⟨u1, u2, rfl, h1, h2⟩ := LsRd.append.1 h
    have hl := LsRd.length h1
    rw [hm] at hl
    cases i with
    | zero =>
      simp only [List.getElem?_cons_zero, Option.some.injEq] at hx
      subst hx
      refine ⟨u1, h1, fun j u hu => ?_⟩
      rw [Nat.zero_mul, Nat.zero_add, List.getElem?_append_left (List.getElem?_eq_some_iff.1 hu).1]
      exact hu
    | succ i =>
      simp only [List.getElem?_cons_succ] at hx
      obtain ⟨us, h3, h4⟩ := rows_cells hm l u2 h2 i x hx
      refine ⟨us, h3, fun j u hu => ?_⟩
      have := h4 j u hu
      rw [List.getElem?_append_right (by rw [hl, Nat.succ_mul]; omega), show (i + 1) * m + j - u1.length = i * m + j by rw [hl, Nat.succ_mul]; omega]
      exact this

/-- A slice of records, read. -/
theorem rows_at {W : World} {α : Type} {enc : α → List Lf} {e : TypeId} {m : Nat} (hm : ∀ x, (enc x).length = m) {l : List α} {v : Value} (h : LfRd W (.rows e m l.length (l.flatMap enc)) v) :
    ∃ p cap, v = .slice p l.length cap ∧ (l = [] ∨ ∃ b off, p = some ⟨b, off, none⟩ ∧ b < W.heap.size ∧ ∀ i x, l[i]? = some x → ∃ us, LsRd W (enc x) us ∧ ∀ j u, us[j]? = some u → W.cell? ⟨b, off + i * m + j, none⟩ = some u) := by
  obtain ⟨_, p, cap, hv, h⟩ := h
  refine ⟨p, cap, hv, ?_⟩
  rcases h with h0 | ⟨b, off, hp, hlt, xs, hc, hx⟩
  · exact .inl (List.eq_nil_of_length_eq_zero h0)
  · refine .inr ⟨b, off, hp, hlt, fun i x hi => ?_⟩
    obtain ⟨us, h1, h2⟩ := rows_cells hm l xs hx i x hi
    exact ⟨us, h1, fun j u hu => by have := hc _ u (h2 j u hu); rwa [← Nat.add_assoc] at this⟩
theorem flat_lenM {α : Type} {enc : α → List Lf} {m : Nat} (hm : ∀ x, (enc x).length = m) : ∀ (l : List α), (l.flatMap enc).length = l.length * m
  | [] => by simp
  | a :: l => by rw [List.flatMap_cons, List.length_append, flat_lenM hm l, hm a, List.length_cons, Nat.succ_mul]; omega

/-- A cell of an owned row is set. -/
theorem own_set {W : World} {B g n c i m : Nat} {e : TypeId} {A R : List Value} {x : Value} (h : W.ownsRow B e m (.slice (some ⟨g, 0, none⟩) n c) n (A ++ x :: R)) (hi : A.length = i) (u : Value) :
    (W.setCell ⟨g, i, none⟩ u).ownsRow B e m (.slice (some ⟨g, 0, none⟩) n c) n (A ++ u :: R) ∧ W.cell? ⟨g, i, none⟩ = some x ∧ (∀ j, W.frozen? ⟨g, j, none⟩ = false) := by
  have h1 := (h.stored i u).1
  have hl : (A ++ x :: R).length = n * m := h.1
  rw [List.set_append_right _ _ (by omega), hi, Nat.sub_self, List.set_cons_zero] at h1
  refine ⟨h1, ?_, fun j => h.frozenAt j⟩
  rw [h.cellAt i (by rw [← hl]; simp; omega), List.getElem?_append_right (by omega), hi, Nat.sub_self]
  rfl
/-- The rest of a row has room for one element more. -/
theorem rest_split {A R : List Value} {n k m : Nat} (h : (A ++ R).length = n * m) (hA : A.length = k * m) (hk : k < n) : ∃ R1 R2, R = R1 ++ R2 ∧ R1.length = m := by
  have h1 : k * m + m ≤ n * m := by
    have := Nat.mul_le_mul_right m (show k + 1 ≤ n by omega)
    rw [Nat.succ_mul] at this
    exact this
  rw [List.length_append, hA] at h
  exact ⟨R.take m, R.drop m, (List.take_append_drop m R).symm, by rw [List.length_take]; omega⟩
theorem GrownIn.set {W : World} {g i : Nat} {u : Value} {fp : List Nat} (hg : g ∈ fp) : GrownIn W (W.setCell ⟨g, i, none⟩ u) fp :=
  ⟨rfl, rfl, rfl, by simp, fun k _ hn => Below.heap_setCell W _ u k (by intro e; exact hn (by rw [show k = g from e]; exact hg))⟩
theorem LsIn.set {W : World} {xs : List Lf} {vs : List Value} {fp : List Nat} {g i : Nat} {u : Value} (h : LsIn W xs vs fp) (hg : g ∉ fp) : LsIn (W.setCell ⟨g, i, none⟩ u) xs vs fp :=
  h.frame xs vs fp (fun k hk => Below.heap_setCell W _ u k (by intro e; exact hg (by rw [← show k = g from e]; exact hk)))

/-- make([]T, n), whatever the type. -/
theorem wpList_mkn {P : Program} {w : World} {ops : Array Oper} {rest : List Oper} {o : Oper} {a : Act} {Q : Exit → Act → World → Prop} {t e : TypeId} {size bytes : Nat} (E : Elem P t e size bytes)
    (hgd : o.guard = none) (l c : Operand) (ho : o.op = Op.makeSlice t l c) (B : Nat) (W : World) (hb : Below B W w) (hB : B ≤ w.heap.size) (kl kc : IntKind) (n : Nat) (hl : a.eval l = .int kl (n : Int)) (hc : a.eval c = .int kc (n : Int)) (b2 : bytes * n ≤ 281474976710656) (b3 : n ≤ 281474976710656)
    (h : ∀ w' xs, w'.ownsRow B e size (.slice (some ⟨w.heap.size, 0, none⟩) n n) n xs → Below B W w' → w.heap.size < w'.heap.size → wpList P ops Q rest (a.put o.dst (.slice (some ⟨w.heap.size, 0, none⟩) n n)) w') : wpList P ops Q (o :: rest) a w := by
  obtain ⟨ht, ⟨i, z, hi, hz, h2, h3, h4⟩, hp⟩ := E
  refine wpList_make_full w hgd l c t ho B e i z size ht hi hz h2 kl kc (n : Int) (n : Int) n hl hc rfl rfl (by rw [h3]; exact b2) (by unfold maxLen; omega) hB ?_
  intro w' k1 k2
  exact h w' _ k1 (hb.grown k2 hB (fun k hk => by cases hk)) ((k1.lt w.heap.size rfl).2)

end Go.Proofs.Ythjeeggejkpjgaa

/-
  Chapter 1's walks: Parts.
-/
namespace Go.Proofs.Ythjeeggejkpjgaa
open Go.RowKit

def partsl (c : UInt8) : List UInt8 → List (List UInt8)
  | [] => [[]]
  | b :: r => if b = c then [] :: partsl c r else match partsl c r with
    | [] => [[b]]
    | x :: xs => (b :: x) :: xs

theorem partsl_ne (c : UInt8) (l : List UInt8) : partsl c l ≠ [] := by
  cases l with
  | nil => simp [partsl]
  | cons b r =>
    unfold partsl
    split
    · simp
    · split <;> simp
theorem partsl_none (c : UInt8) : ∀ l : List UInt8, (∀ b ∈ l, b ≠ c) → partsl c l = [l]
  | [], _ => rfl
  | b :: r, h => by
    unfold partsl
    rw [if_neg (h b (by simp)), partsl_none c r (fun x hx => h x (by simp [hx]))]
theorem partsl_hit (c : UInt8) : ∀ (m r : List UInt8), (∀ b ∈ m, b ≠ c) → partsl c (m ++ c :: r) = m :: partsl c r
  | [], r, _ => by simp [partsl]
  | b :: m, r, h => by
    rw [List.cons_append, partsl, if_neg (h b (by simp)), partsl_hit c m r (fun x hx => h x (by simp [hx]))]
theorem partsl_length (c : UInt8) (l : List UInt8) : (partsl c l).length ≤ l.length + 1 := by
  induction l with
  | nil => simp [partsl]
  | cons b r ih =>
    unfold partsl
    split
    · simp only [List.length_cons]; omega
    · split
      · simp
      · rename_i x xs h
        rw [h] at ih
        simp only [List.length_cons] at ih ⊢
        omega

/-- What has been cut off so far: acc, the rest begins at f, and from f to i no separator stands. -/
structure Cut (c : UInt8) (l : List UInt8) (f i : Nat) (acc : List (List UInt8)) : Prop where
  le : f ≤ i
  le' : i ≤ l.length
  all : acc ++ partsl c (l.drop f) = partsl c l
  none : ∀ b ∈ (l.drop f).take (i - f), b ≠ c
  few : acc.length ≤ f

theorem Cut.start (c : UInt8) (l : List UInt8) : Cut c l 0 0 [] := ⟨Nat.le_refl _, Nat.zero_le _, by simp, by simp, by simp⟩
theorem cut_take (l : List UInt8) (f i : Nat) (h1 : f ≤ i) (h2 : i < l.length) : (l.drop f).take (i + 1 - f) = (l.drop f).take (i - f) ++ [l[i]] := by
  rw [show i + 1 - f = (i - f) + 1 from by omega, List.take_succ_eq_append_getElem (by simp; omega)]
  simp [Nat.add_sub_cancel' h1]
theorem cut_split (l : List UInt8) (f i : Nat) (h1 : f ≤ i) (h2 : i < l.length) : l.drop f = (l.drop f).take (i - f) ++ l[i] :: l.drop (i + 1) := by
  have := (List.take_append_drop (i - f) (l.drop f)).symm
  rw [List.drop_drop, show f + (i - f) = i from by omega, List.drop_eq_getElem_cons h2] at this
  exact this
theorem Cut.miss {c : UInt8} {l : List UInt8} {f i : Nat} {acc : List (List UInt8)} (h : Cut c l f i acc) (hi : i < l.length) (hb : l[i] ≠ c) : Cut c l f (i + 1) acc := by
  refine ⟨by have := h.le; omega, hi, h.all, ?_, h.few⟩
  rw [cut_take l f i h.le hi]
  intro b hb'
  rw [List.mem_append, List.mem_singleton] at hb'
  rcases hb' with h1 | h1
  · exact h.none b h1
  · rw [h1]; exact hb
theorem Cut.hit {c : UInt8} {l : List UInt8} {f i : Nat} {acc : List (List UInt8)} (h : Cut c l f i acc) (hi : i < l.length) (hb : l[i] = c) : Cut c l (i + 1) (i + 1) (acc ++ [(l.drop f).take (i - f)]) := by
  refine ⟨Nat.le_refl _, hi, ?_, by simp, by have := h.few; have := h.le; simp; omega⟩
  have h1 := h.all
  rw [cut_split l f i h.le hi, hb, partsl_hit c _ _ h.none] at h1
  rw [← h1]
  simp
theorem Cut.fin {c : UInt8} {l : List UInt8} {f : Nat} {acc : List (List UInt8)} (h : Cut c l f l.length acc) : acc ++ [(l.drop f).take (l.length - f)] = partsl c l := by
  have h1 := h.all
  have e : (l.drop f).take (l.length - f) = l.drop f := List.take_of_length_le (by simp)
  have h2 := h.none
  rw [e] at h2 ⊢
  rw [partsl_none c _ h2] at h1
  exact h1
theorem sv_extract (s : ByteArray) (f i : Nat) : Value.string (s.extract f i) = sv ((s.data.toList.drop f).take (i - f)) := by
  rw [← sv_data (s.extract f i), Lib.extract_data]

theorem u8_of (b : Int) (h : (Lit.int .u8 b).wf = true) : ∃ c : UInt8, b = (c.toNat : Int) := by
  have hx : 0 ≤ b ∧ b ≤ 255 := by simpa [Lit.wf, IntKind.min, IntKind.max, IntKind.signed, IntKind.bits] using h
  refine ⟨UInt8.ofNat b.toNat, ?_⟩
  rw [UInt8.toNat_ofNat_of_lt' (by show b.toNat < 256; omega)]
  omega

end Go.Proofs.Ythjeeggejkpjgaa

