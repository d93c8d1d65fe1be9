/-
  Chapter 2's walks: Quote, Word, the model's and the program's.
-/
import Derived.Test.YthihjelcakenpaaWordB
namespace Go.Proofs.Ythihjelcakenpaa
open Go.RowKit

theorem own_lit (w : World) (cs : Array Value) (n : Nat) (e : TypeId) (size base : Nat) (hb : base ≤ w.heap.size) (hm : n ≤ maxLen) (hs : cs.size = n * size) :
    (w.alloc (.cells cs e)).ownsRow base e size (.slice (some ⟨w.heap.size, 0, none⟩) n n) n cs.toList :=
  ⟨by simpa using hs, .inr ⟨w.heap.size, n, cs, rfl, hb, heap_alloc_new w _, Nat.le_refl _, hm, hs, by rw [List.take_of_length_le]; simp [hs]⟩⟩
/-- A row stays owned where its own block stands. -/
theorem own_stands {w w' : World} {B e size n : Nat} {v : Value} {xs : List Value} (h : w.ownsRow B e size v n xs) (hb : ∀ g, v.ownBlock = some g → w'.heap[g]? = w.heap[g]?) : w'.ownsRow B e size v n xs :=
  ⟨h.1, h.2.imp id fun ⟨g, cap, cur, hv, h1, h2, h3⟩ => ⟨g, cap, cur, hv, h1, (hb g (by rw [hv]; rfl)).trans h2, h3⟩⟩
/-- An owned row's block holds cells: it is no iterator's. -/
theorem own_no_iter {w : World} {B e size n : Nat} {v : Value} {xs : List Value} (h : w.ownsRow B e size v n xs) {g k pos : Nat} {s : ByteArray} (hg : v.ownBlock = some g) (hk : w.heap[k]? = some (.stringIter s pos)) : g ≠ k := by
  intro e
  rcases h.2 with ⟨hv, _⟩ | ⟨g', _, _, hv, _, h2, _⟩
  · rw [hv] at hg; simp [Value.ownBlock] at hg
  · rw [hv] at hg
    obtain rfl : g' = g := by simpa [Value.ownBlock] using hg
    rw [e, hk] at h2
    cases h2
theorem own_iterAt {w : World} {B e size n : Nat} {v : Value} {xs : List Value} {k : Nat} {s : ByteArray} {pos : Nat} (h : w.ownsRow B e size v n xs) (hk : w.heap[k]? = some (.stringIter s pos)) (pos' : Nat) : (w.iterAt k s pos').ownsRow B e size v n xs :=
  own_stands h fun _ hg => Lib.iterAt_other _ _ _ _ _ (own_no_iter h hg hk)
theorem own_ne_iter {w : World} {B e size n : Nat} {v : Value} {xs : List Value} {k : Nat} {s : ByteArray} {pos : Nat} (h : w.ownsRow B e size v n xs) (hk : w.heap[k]? = some (.stringIter s pos)) : some k ≠ v.ownBlock :=
  fun e => own_no_iter h e.symm hk rfl

theorem ne_not' {a b : Int} (h : (a == b) = true) : (a != b) = false := by simp only [bne, h]; rfl
theorem ne_yes' {a b : Int} (h : (a == b) = false) : (a != b) = true := by simp only [bne, h]; rfl

/-- Quoted so far. -/
def qd (l : List UInt8) : List UInt8 := 34 :: escl l
theorem qd_snoc_esc (l : List UInt8) (b : UInt8) (h : escc b = true) : qd (l ++ [b]) = qd l ++ [92, b] := by unfold qd; rw [escl_snoc]; simp [esc1, h]
theorem qd_snoc (l : List UInt8) (b : UInt8) (h : escc b = false) : qd (l ++ [b]) = qd l ++ [b] := by unfold qd; rw [escl_snoc]; simp [esc1, h]
theorem qd_len (l : List UInt8) : (qd l).length ≤ 2 * l.length + 1 := by have := escl_le l; simp [qd]; omega
theorem quote_long (s : ByteArray) (h : 40 < (s.size : Int)) : sv (quoteL s.data.toList) = .string ⟨#[]⟩ := by rw [quoteL_no _ (.inr (by simp; omega))]
theorem quote_bad (s : ByteArray) (k : Nat) (h : k < s.size) (hn : txtR (s[k].toNat : Int) = false) : sv (quoteL s.data.toList) = .string ⟨#[]⟩ := by
  rw [txtR_byte] at hn
  rw [quoteL_no _ (.inl (all_not txtc s k h hn))]
theorem quote_end (s : ByteArray) (h : s.data.toList.all txtc = true) (hs : s.size ≤ 40) : quoteL s.data.toList = qd s.data.toList ++ [34] := by
  rw [quoteL_yes _ h (by simpa using hs)]; rfl
theorem qd_take (s : ByteArray) (k : Nat) (h : k < s.size) (he : escR (s[k].toNat : Int) = true) : qd (s.data.toList.take (k + 1)) = qd (s.data.toList.take k) ++ [92, s[k]] := by
  rw [escR_byte] at he
  rw [take_str s k h, qd_snoc_esc _ _ he]
theorem qd_take' (s : ByteArray) (k : Nat) (h : k < s.size) (he : escR (s[k].toNat : Int) = false) : qd (s.data.toList.take (k + 1)) = qd (s.data.toList.take k) ++ [s[k]] := by
  rw [escR_byte] at he
  rw [take_str s k h, qd_snoc _ _ he]
theorem take_le (s : ByteArray) (k : Nat) : (s.data.toList.take k).length ≤ k := List.length_take_le _ _
/-- A byte more behind a row of bytes. -/
theorem map_snoc_bv (l : List UInt8) (b : UInt8) : l.map bv ++ [.int .u8 (b.toNat : Int)] = (l ++ [b]).map bv := by simp [bv]

theorem wordL_atom {l : List UInt8} (h : atomB l = true) : wordL l = l := if_pos h
theorem wordL_quote {l : List UInt8} (h : atomB l = false) : wordL l = quoteL l := if_neg (by rw [h]; exact Bool.false_ne_true)

end Go.Proofs.Ythihjelcakenpaa
