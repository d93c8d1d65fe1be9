/-
  Data as trees of leaves: what a value reads as, and what a call owns of it, slices in slices. No program is read here.
-/
import Derived.Test.YthihjelcakenpaaEnv
import Derived.Test.YthihjelcakenpaaStr
namespace Go.Proofs.Ythihjelcakenpaa
open Go.RowKit

/-- A leaf is one cell. 'rows e m n flat': n elements of type e, m cells each, their leaves one behind the other. -/
inductive Lf where
  | int (n : Int)
  | bool (b : Bool)
  | str (l : List UInt8)
  | rows (e : TypeId) (m n : Nat) (flat : List Lf)

mutual
/-- The value reads as the leaf. -/
def LfRd (W : World) : Lf → Value → Prop
  | .int n, v => v = .int .i64 n
  | .bool b, v => v = .bool b
  | .str l, v => v = sv l
  | .rows _ m n flat, v => flat.length = n * m ∧ ∃ p cap, v = .slice p n cap ∧ (n = 0 ∨ ∃ b off, p = some ⟨b, off, none⟩ ∧ b < W.heap.size ∧ ∃ xs : List Value, (∀ j u, xs[j]? = some u → W.cell? ⟨b, off + j, none⟩ = some u) ∧ LsRd W flat xs)
def LsRd (W : World) : List Lf → List Value → Prop
  | [], vs => vs = []
  | x :: xs, vs => ∃ v us, vs = v :: us ∧ LfRd W x v ∧ LsRd W xs us
end

mutual
/-- The value is the leaf, in memory of the call's own: fp are the blocks. -/
def LfIn (W : World) : Lf → Value → List Nat → Prop
  | .int n, v, fp => v = .int .i64 n ∧ fp = []
  | .bool b, v, fp => v = .bool b ∧ fp = []
  | .str l, v, fp => v = sv l ∧ fp = []
  | .rows e m n flat, v, fp => flat.length = n * m ∧ ∃ xs fq, W.ownsRow 0 e m v n xs ∧ LsIn W flat xs fq ∧ fp = v.ownBlock.toList ++ fq
def LsIn (W : World) : List Lf → List Value → List Nat → Prop
  | [], vs, fp => vs = [] ∧ fp = []
  | x :: xs, vs, fp => ∃ v us f1 f2, vs = v :: us ∧ LfIn W x v f1 ∧ LsIn W xs us f2 ∧ fp = f1 ++ f2
end

mutual
theorem LfRd.below {W W' : World} (hb : Below W.heap.size W W') : ∀ (x : Lf) (v : Value), LfRd W x v → LfRd W' x v
  | .int _, _, h => h
  | .bool _, _, h => h
  | .str _, _, h => h
  | .rows _ m n flat, v, h => by
    obtain ⟨hl, p, cap, hv, h0 | ⟨b, off, hp, hlt, xs, hc, hx⟩⟩ := h
    · exact ⟨hl, p, cap, hv, .inl h0⟩
    · exact ⟨hl, p, cap, hv, .inr ⟨b, off, hp, Nat.lt_of_lt_of_le hlt hb.size, xs, fun j u hu => (hb.cell (p := ⟨b, off + j, none⟩) hlt).trans (hc j u hu), LsRd.below hb flat xs hx⟩⟩
theorem LsRd.below {W W' : World} (hb : Below W.heap.size W W') : ∀ (xs : List Lf) (vs : List Value), LsRd W xs vs → LsRd W' xs vs
  | [], _, h => h
  | x :: xs, _, h => by
    obtain ⟨v, us, hv, h1, h2⟩ := h
    exact ⟨v, us, hv, LfRd.below hb x v h1, LsRd.below hb xs us h2⟩
end

theorem own_frame {W W' : World} {B m n : Nat} {e : TypeId} {v : Value} {xs : List Value} (h : W.ownsRow B e m v n xs) (hf : ∀ k, v.ownBlock = some k → W'.heap[k]? = W.heap[k]?) : W'.ownsRow B e m v n xs := by
  refine ⟨h.1, ?_⟩
  rcases h.2 with h0 | ⟨g, cap, cur, hv, h1, h2, h3⟩
  · exact .inl h0
  · exact .inr ⟨g, cap, cur, hv, h1, (hf g (by rw [hv]; rfl)).trans h2, h3⟩

mutual
theorem LfIn.frame {W W' : World} : ∀ (x : Lf) (v : Value) (fp : List Nat), (∀ k ∈ fp, W'.heap[k]? = W.heap[k]?) → LfIn W x v fp → LfIn W' x v fp
  | .int _, _, _, _, h => h
  | .bool _, _, _, _, h => h
  | .str _, _, _, _, h => h
  | .rows e m n flat, v, fp, hf, h => by
    obtain ⟨hl, xs, fq, ho, hx, rfl⟩ := h
    exact ⟨hl, xs, fq, own_frame ho (fun k hk => hf k (by rw [hk]; simp)), LsIn.frame flat xs fq (fun k hk => hf k (by simp [hk])) hx, rfl⟩
theorem LsIn.frame {W W' : World} : ∀ (xs : List Lf) (vs : List Value) (fp : List Nat), (∀ k ∈ fp, W'.heap[k]? = W.heap[k]?) → LsIn W xs vs fp → LsIn W' xs vs fp
  | [], _, _, _, h => h
  | x :: xs, vs, fp, hf, h => by
    obtain ⟨v, us, f1, f2, hv, h1, h2, rfl⟩ := h
    exact ⟨v, us, f1, f2, hv, LfIn.frame x v f1 (fun k hk => hf k (by simp [hk])) h1, LsIn.frame xs us f2 (fun k hk => hf k (by simp [hk])) h2, rfl⟩
end

mutual
theorem LfIn.lt {W : World} : ∀ (x : Lf) (v : Value) (fp : List Nat), LfIn W x v fp → ∀ k ∈ fp, k < W.heap.size
  | .int _, _, _, h, k, hk => by rw [h.2] at hk; cases hk
  | .bool _, _, _, h, k, hk => by rw [h.2] at hk; cases hk
  | .str _, _, _, h, k, hk => by rw [h.2] at hk; cases hk
  | .rows e m n flat, v, fp, h, k, hk => by
    obtain ⟨hl, xs, fq, ho, hx, rfl⟩ := h
    rcases List.mem_append.1 hk with hk | hk
    · exact (ho.lt k (by simpa using hk)).2
    · exact LsIn.lt flat xs fq hx k hk
theorem LsIn.lt {W : World} : ∀ (xs : List Lf) (vs : List Value) (fp : List Nat), LsIn W xs vs fp → ∀ k ∈ fp, k < W.heap.size
  | [], _, _, h, k, hk => by rw [h.2] at hk; cases hk
  | x :: xs, vs, fp, h, k, hk => by
    obtain ⟨v, us, f1, f2, hv, h1, h2, rfl⟩ := h
    rcases List.mem_append.1 hk with hk | hk
    · exact LfIn.lt x v f1 h1 k hk
    · exact LsIn.lt xs us f2 h2 k hk
end

mutual
theorem LfIn.rd {W : World} : ∀ (x : Lf) (v : Value) (fp : List Nat), LfIn W x v fp → LfRd W x v
  | .int _, _, _, h => h.1
  | .bool _, _, _, h => h.1
  | .str _, _, _, h => h.1
  | .rows e m n flat, v, fp, h => by
    obtain ⟨hl, xs, fq, ho, hx, rfl⟩ := h
    refine ⟨hl, ?_⟩
    rcases ho.2 with ⟨hv, h0⟩ | ⟨g, cap, cur, hv, h1, h2, h3⟩
    · exact ⟨none, 0, by rw [hv, h0], .inl h0⟩
    · subst hv
      refine ⟨_, cap, rfl, .inr ⟨g, 0, rfl, (Array.getElem?_eq_some_iff.1 h2).1, xs, fun j u hu => ?_, LsIn.rd flat xs fq hx⟩⟩
      have hj : j < xs.length := (List.getElem?_eq_some_iff.1 hu).1
      rw [Nat.zero_add, ho.cellAt j (by rw [← ho.1]; exact hj), hu]
theorem LsIn.rd {W : World} : ∀ (xs : List Lf) (vs : List Value) (fp : List Nat), LsIn W xs vs fp → LsRd W xs vs
  | [], _, _, h => h.1
  | x :: xs, vs, fp, h => by
    obtain ⟨v, us, f1, f2, hv, h1, h2, rfl⟩ := h
    exact ⟨v, us, hv, LfIn.rd x v f1 h1, LsIn.rd xs us f2 h2⟩
end

theorem LsRd.length {W : World} : ∀ {xs : List Lf} {vs : List Value}, LsRd W xs vs → vs.length = xs.length
  | [], _, h => by rw [h]; rfl
  | _ :: xs, _, h => by obtain ⟨v, us, rfl, _, h2⟩ := h; simp [LsRd.length h2]
theorem LsRd.append {W : World} : ∀ {a b : List Lf} {vs : List Value}, LsRd W (a ++ b) vs ↔ ∃ u1 u2, vs = u1 ++ u2 ∧ LsRd W a u1 ∧ LsRd W b u2
  | [], b, vs => ⟨fun h => ⟨[], vs, rfl, rfl, h⟩, fun ⟨u1, u2, h1, h2, h3⟩ => by rw [h1, h2]; exact h3⟩
  | x :: a, b, vs => by
    constructor
    · rintro ⟨v, us, rfl, h1, h2⟩
      obtain ⟨u1, u2, rfl, h3, h4⟩ := LsRd.append.1 h2
      exact ⟨v :: u1, u2, rfl, ⟨v, u1, rfl, h1, h3⟩, h4⟩
    · rintro ⟨u1, u2, rfl, ⟨v, us, rfl, h1, h2⟩, h3⟩
      exact ⟨v, us ++ u2, rfl, h1, LsRd.append.2 ⟨us, u2, rfl, h2, h3⟩⟩
theorem LsIn.length {W : World} : ∀ {xs : List Lf} {vs : List Value} {fp : List Nat}, LsIn W xs vs fp → vs.length = xs.length
  | [], _, _, h => by rw [h.1]; rfl
  | _ :: xs, _, _, h => by obtain ⟨v, us, _, _, rfl, _, h2, _⟩ := h; simp [LsIn.length h2]
theorem LsIn.append {W : World} : ∀ {a b : List Lf} {vs : List Value} {fp : List Nat}, LsIn W (a ++ b) vs fp ↔ ∃ u1 u2 f1 f2, vs = u1 ++ u2 ∧ LsIn W a u1 f1 ∧ LsIn W b u2 f2 ∧ fp = f1 ++ f2
  | [], b, vs, fp => ⟨fun h => ⟨[], vs, [], fp, rfl, ⟨rfl, rfl⟩, h, rfl⟩, fun ⟨u1, u2, f1, f2, h1, h2, h3, h4⟩ => by rw [h1, h2.1, h4, h2.2]; exact h3⟩
  | x :: a, b, vs, fp => by
    constructor
    · rintro ⟨v, us, f1, f2, rfl, h1, h2, rfl⟩
      obtain ⟨u1, u2, f3, f4, rfl, h3, h4, rfl⟩ := LsIn.append.1 h2
      exact ⟨v :: u1, u2, f1 ++ f3, f4, rfl, ⟨v, u1, f1, f3, rfl, h1, h3, rfl⟩, h4, by rw [List.append_assoc]⟩
    · rintro ⟨u1, u2, f1, f2, rfl, ⟨v, us, f3, f4, rfl, h1, h2, rfl⟩, h3, rfl⟩
      exact ⟨v, us ++ u2, f3, f4 ++ f2, rfl, h1, LsIn.append.2 ⟨us, u2, f4, f2, rfl, h2, h3, rfl⟩, by rw [List.append_assoc]⟩

/-- A tree of the call's own: its blocks are apart from each other, none below lo. -/
structure Tree (W : World) (lo : Nat) (x : Lf) (v : Value) (fp : List Nat) : Prop where
  is : LfIn W x v fp
  nodup : fp.Nodup
  low : ∀ k ∈ fp, lo ≤ k
theorem Tree.below {W W' : World} {lo : Nat} {x : Lf} {v : Value} {fp : List Nat} (h : Tree W lo x v fp) (hb : Below W.heap.size W W') : Tree W' lo x v fp :=
  ⟨h.is.frame x v fp (fun k hk => hb.block k (LfIn.lt x v fp h.is k hk)), h.nodup, h.low⟩
theorem Tree.rd {W : World} {lo : Nat} {x : Lf} {v : Value} {fp : List Nat} (h : Tree W lo x v fp) : LfRd W x v := h.is.rd
theorem Tree.lt {W : World} {lo : Nat} {x : Lf} {v : Value} {fp : List Nat} (h : Tree W lo x v fp) : ∀ k ∈ fp, k < W.heap.size := LfIn.lt x v fp h.is

/-- What was changed lies in the blocks fp, or is new. -/
structure GrownIn (W W' : World) (fp : List Nat) : Prop where
  os : W'.os = W.os
  tape : W'.tape = W.tape
  output : W'.output = W.output
  size : W.heap.size ≤ W'.heap.size
  block : ∀ k, k < W.heap.size → k ∉ fp → W'.heap[k]? = W.heap[k]?
theorem GrownIn.trans {W W1 W2 : World} {fp : List Nat} (h : GrownIn W W1 fp) (k : GrownIn W1 W2 fp) : GrownIn W W2 fp :=
  ⟨k.os.trans h.os, k.tape.trans h.tape, k.output.trans h.output, Nat.le_trans h.size k.size, fun i hi hn => (k.block i (Nat.lt_of_lt_of_le hi h.size) hn).trans (h.block i hi hn)⟩
theorem GrownIn.mono {W W' : World} {fp fq : List Nat} (h : GrownIn W W' fp) (hs : ∀ k ∈ fp, k ∈ fq) : GrownIn W W' fq := ⟨h.os, h.tape, h.output, h.size, fun k hk hn => h.block k hk (fun hm => hn (hs k hm))⟩
theorem GrownIn.of_below {W W' : World} {fp : List Nat} (h : Below W.heap.size W W') : GrownIn W W' fp := ⟨h.os, h.tape, h.output, h.size, fun k hk _ => h.block k hk⟩
theorem GrownIn.below {W0 W W' : World} {B : Nat} {fp : List Nat} (h : Below B W0 W) (hg : GrownIn W W' fp) (hB : B ≤ W.heap.size) (hf : ∀ k ∈ fp, B ≤ k) : Below B W0 W' :=
  h.trans ⟨hg.os, hg.tape, hg.output, hg.size, fun k hk => hg.block k (Nat.lt_of_lt_of_le hk hB) (fun hm => by have := hf k hm; omega)⟩
/-- Another tree stands. -/
theorem Tree.apart {W W' : World} {lo : Nat} {x : Lf} {v : Value} {fp fq : List Nat} (h : Tree W lo x v fp) (hg : GrownIn W W' fq) (hd : ∀ k ∈ fp, k ∉ fq) : Tree W' lo x v fp :=
  ⟨h.is.frame x v fp (fun k hk => hg.block k (h.lt k hk) (hd k hk)), h.nodup, h.low⟩

/-! ### Marks -/

mutual
def markLf : Lf → Nat → Lf × Nat
  | .int _, k => (.int (k : Int), k + 1)
  | .bool _, k => (.bool (k % 3 == 0), k + 1)
  | .str _, k => (.str (markB k), k + 1)
  | .rows e m n flat, k => ((.rows e m n (markLs flat k).1), (markLs flat k).2)
def markLs : List Lf → Nat → List Lf × Nat
  | [], k => ([], k)
  | x :: xs, k => ((markLf x k).1 :: (markLs xs (markLf x k).2).1, (markLs xs (markLf x k).2).2)
end
theorem markLs_length : ∀ (xs : List Lf) (k : Nat), (markLs xs k).1.length = xs.length
  | [], _ => by simp [markLs]
  | x :: xs, k => by simp [markLs, markLs_length xs]
theorem markLs_append : ∀ (a b : List Lf) (k : Nat), markLs (a ++ b) k = ((markLs a k).1 ++ (markLs b (markLs a k).2).1, (markLs b (markLs a k).2).2)
  | [], b, k => by simp [markLs]
  | x :: a, b, k => by simp [markLs, markLs_append a b]

/-! ### Sizes -/

mutual
def szLf : Lf → Nat
  | .int _ => 0
  | .bool _ => 0
  | .str l => l.length
  | .rows _ _ n flat => n + szLs flat
def szLs : List Lf → Nat
  | [] => 0
  | x :: xs => szLf x + szLs xs
end
theorem szLs_append : ∀ (a b : List Lf), szLs (a ++ b) = szLs a + szLs b
  | [], b => by simp [szLs]
  | x :: a, b => by simp [szLs, szLs_append a b]; omega

end Go.Proofs.Ythihjelcakenpaa
