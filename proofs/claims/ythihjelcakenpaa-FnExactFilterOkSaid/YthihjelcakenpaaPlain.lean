/-
  Plain facts on lists of bytes, on worlds and on rows of cells that the walks of this seat share. No program is read here.
-/
import Derived.Test.YthihjelcakenpaaRows
import Derived.WalkKit
import Derived.WalkSpells
import Derived.WalkLawsBesides
import Derived.Laws.IdiomStrings
import Derived.Lib.Hide
namespace Go.Proofs.Ythihjelcakenpaa
open Go.RowKit

/-- A byte as a value. -/
abbrev bv (b : UInt8) : Value := .int .u8 (b.toNat : Int)

/-- Block g holds the cells xs from its head on, none of them frozen. -/
structure Row (w : World) (g : Nat) (xs : List Value) : Prop where
  cell : ∀ j, j < xs.length → w.cell? ⟨g, j, none⟩ = xs[j]?
  free : ∀ j, j < xs.length → w.frozen? ⟨g, j, none⟩ = false

theorem Row.drew {w : World} {g : Nat} {xs : List Value} (h : Row w g xs) : Row w.drew g xs := ⟨h.cell, h.free⟩
theorem Row.lt {w : World} {g : Nat} {xs : List Value} (h : Row w g xs) (hne : 0 < xs.length) : g < w.heap.size := by
  have h1 := h.cell 0 hne
  rw [List.getElem?_eq_getElem hne] at h1
  exact World.block_lt_of_cell? w _ h1

theorem Row.set {w : World} {g : Nat} {xs : List Value} (h : Row w g xs) (k : Nat) (hk : k < xs.length) (v : Value) : Row (w.setCell ⟨g, k, none⟩ v) g (xs.set k v) := by
  have hc := h.cell k hk
  rw [List.getElem?_eq_getElem hk] at hc
  constructor
  · intro j hj
    rw [List.length_set] at hj
    by_cases e : j = k
    · subst e
      rw [World.cell?_setCell_same w _ _ hc]
      simp [hk]
    · rw [World.cell?_setCell_other w _ _ _ (by intro hh; injection hh with _ h2; exact e h2.symm)]
      rw [h.cell j hj, List.getElem?_set_ne (Ne.symm e)]
  · intro j hj
    rw [List.length_set] at hj
    have := h.free j hj
    simpa using this


theorem getElem_bv (l : List UInt8) (j : Nat) (hj : j < l.length) : (l.map bv)[j]? = some (.int .u8 (l[j].toNat : Int)) := by simp [bv, hj]

/-- Bytes out of a string: a new block holds them. -/
theorem conv_bytes {P : Program} (w : World) (src dst e : TypeId) (s : ByteArray) (hs : P.underlying src = some .string) (hd : P.underlying dst = some (.slice e)) (he : P.underlying e = some (.int .u8)) :
    ∃ cap w1, (convert src dst (.string s)).run P w = .ok (.slice (some ⟨w.heap.size, 0, none⟩) s.size cap) w1 ∧ Row w1 w.heap.size (s.data.toList.map bv) ∧ w1.heap.size = w.heap.size + 1 ∧ Below w.heap.size w w1 := by
  refine ⟨_, _, run_bytes_of_string w src dst e s hs hd he, ?_, ?_, ?_⟩
  · generalize grownCap w s.size 0 e = cap
    have hsz : s.data.size ≤ (bytesRow s cap).size := by unfold bytesRow; rw [Array.size_append, Array.size_map]; omega
    constructor
    · intro j hj
      have hj' : j < s.data.size := by simpa using hj
      have hc := World.cell?_alloc_mark w.drew (bytesRow s cap) e ((bytesRow s cap).size, (bytesRow s cap).size + 1) j
      refine hc.trans ?_
      unfold bytesRow
      rw [Array.getElem?_append_left (by rw [Array.size_map]; exact hj'), ← Array.toList_map, Array.getElem?_toList]
    · intro j hj
      have hj' : j < s.data.size := by simpa using hj
      refine (World.frozen?_alloc_mark w.drew _ _ _ _ j).trans ?_
      have : ¬ (bytesRow s cap).size ≤ j := by omega
      simp only [this, decide_false, Bool.false_and]
  · simp [World.alloc]
  · exact ((Below.refl _ _).drew).alloc (Nat.le_refl _) _

/-- Block g reads as these bytes (frozen or not). -/
structure Row1 (w : World) (g : Nat) (l : List UInt8) : Prop where
  cell : ∀ j, j < l.length → w.cell? ⟨g, j, none⟩ = (l.map bv)[j]?

theorem conv_back_c {P : Program} {w : World} {g : Nat} {l : List UInt8} (h : Row1 w g l) (src dst e : TypeId) (n cap : Nat) (hn : l.length = n) (hs : P.underlying src = some (.slice e)) (he : P.underlying e = some (.int .u8)) (hd : P.underlying dst = some .string) :
    (convert src dst (.slice (some ⟨g, 0, none⟩) n cap)).run P w = .ok (.string ⟨l.toArray⟩) w := by
  subst hn
  refine run_convert_bytes_back w src dst e ⟨g, 0, none⟩ cap l hs he hd (fun j hj => ?_)
  have := h.cell j hj
  rw [getElem_bv _ _ hj] at this
  rw [Addr.add_lit]
  simpa using this

theorem conv_back {P : Program} {w : World} {g : Nat} {l : List UInt8} (h : Row w g (l.map bv)) (src dst e : TypeId) (n cap : Nat) (hn : l.length = n) (hs : P.underlying src = some (.slice e)) (he : P.underlying e = some (.int .u8)) (hd : P.underlying dst = some .string) :
    (convert src dst (.slice (some ⟨g, 0, none⟩) n cap)).run P w = .ok (.string ⟨l.toArray⟩) w := by
  subst hn
  refine run_convert_bytes_back w src dst e ⟨g, 0, none⟩ cap l hs he hd (fun j hj => ?_)
  have hj' : j < (l.map bv).length := by simpa using hj
  have := h.cell j hj'
  rw [getElem_bv _ _ hj] at this
  rw [Addr.add_lit]
  simpa using this

/-- string([]byte{x}). -/
theorem conv_back1 {P : Program} (src dst e : TypeId) (hs : P.underlying src = some (.slice e)) (he : P.underlying e = some (.int .u8)) (hd : P.underlying dst = some .string) (n : Int) (h0 : 0 ≤ n) (h1 : n < 256) (cap : Nat)
    (w : World) (g : Nat) (hc : w.cell? ⟨g, 0, none⟩ = some (.int .u8 n)) :
    (convert src dst (.slice (some ⟨g, 0, none⟩) 1 cap)).run P w = .ok (.string ⟨#[UInt8.ofNat n.toNat]⟩) w := by
  have ev : ((UInt8.ofNat n.toNat).toNat : Int) = n := by rw [UInt8.toNat_ofNat_of_lt' (by show n.toNat < 256; omega)]; omega
  have hr : Row1 w g [UInt8.ofNat n.toNat] := ⟨fun j hj => by
    have : j = 0 := by simp at hj; omega
    subst this
    rw [hc]
    simp only [List.map_cons, List.getElem?_cons_zero]
    show some (Value.int .u8 n) = some (Value.int .u8 ((UInt8.ofNat n.toNat).toNat : Int))
    rw [ev]⟩
  exact conv_back_c hr src dst e 1 cap rfl hs he hd

theorem take_str (s : ByteArray) (k : Nat) (h : k < s.size) : s.data.toList.take (k + 1) = s.data.toList.take k ++ [s[k]] := by
  rw [List.take_succ_eq_append_getElem (by simpa using h)]; rfl
theorem take_str_all (s : ByteArray) : s.data.toList.take s.size = s.data.toList := List.take_of_length_le (by simp)

/-- The first k elements turned by f, the rest as they were. -/
def mid {α : Type} (f : α → α) (l : List α) (k : Nat) : List α := l.mapIdx fun i x => if i < k then f x else x
theorem mid_at {α : Type} (f : α → α) (l : List α) (k j : Nat) : (mid f l k)[j]? = l[j]?.map fun x => if j < k then f x else x := by simp [mid, List.getElem?_mapIdx]
theorem mid_zero {α : Type} (f : α → α) (l : List α) : mid f l 0 = l := by
  apply List.ext_getElem?; intro j; rw [mid_at]; cases l[j]? <;> simp
theorem mid_end {α : Type} (f : α → α) (l : List α) (k : Nat) (h : l.length ≤ k) : mid f l k = l.map f := by
  apply List.ext_getElem?; intro j; rw [mid_at, List.getElem?_map]
  by_cases hj : j < l.length
  · rw [List.getElem?_eq_getElem hj]; simp; omega
  · rw [List.getElem?_eq_none (by omega)]; rfl
theorem mid_length {α : Type} (f : α → α) (l : List α) (k : Nat) : (mid f l k).length = l.length := by simp [mid]
theorem mid_get {α : Type} (f : α → α) (l : List α) (k : Nat) (h : k < l.length) : (mid f l k)[k]? = some l[k] := by
  rw [mid_at, List.getElem?_eq_getElem h]; simp
theorem mid_set {α : Type} (f : α → α) (l : List α) (k : Nat) (h : k < l.length) (v : α) (hv : v = f l[k]) : (mid f l k).set k v = mid f l (k + 1) := by
  subst hv
  apply List.ext_getElem?; intro j
  rw [List.getElem?_set, mid_at, mid_at, mid_length]
  by_cases e : k = j
  · subst e; simp [h]
  · rw [if_neg e]
    have : (j < k) = (j < k + 1) := by rw [eq_iff_iff]; omega
    simp only [this]
theorem mid_same {α : Type} (f : α → α) (l : List α) (k : Nat) (h : k < l.length) (hv : f l[k] = l[k]) : mid f l (k + 1) = mid f l k := by
  apply List.ext_getElem?; intro j
  rw [mid_at, mid_at]
  by_cases e : j = k
  · subst e; rw [List.getElem?_eq_getElem h]; simp [hv]
  · have : (j < k) = (j < k + 1) := by rw [eq_iff_iff]; omega
    simp only [this]

theorem bv_ofNat {n : Nat} (h : n < 256) : bv (UInt8.ofNat n) = .int .u8 (n : Int) := by
  show Value.int .u8 ((UInt8.ofNat n).toNat : Int) = _
  rw [UInt8.toNat_ofNat_of_lt' (by simpa using h)]

end Go.Proofs.Ythihjelcakenpaa
