/-
  Ga: Plain, App, Ord, OrdT, OrdU, Slc, Env, NumM, NumA, AppS, AppR.
-/
import Derived.Test.YthjeeggejkpjgaaRows
import Derived.WalkKit
import Derived.WalkSpells
import Derived.WalkLawsBesides
import Derived.Laws.IdiomStrings
import Derived.Lib.Hide
import Derived.Deep.AppendLies
import Derived.OrdersHeld
import Derived.Lib.ItoaNum
import Derived.Lib.ItoaMem
import Derived.Lib.AppendStr

/-
  Plain facts on lists of bytes, on worlds and on rows of cells that the walks of this seat share. No program is read here.
-/
namespace Go.Proofs.Ythjeeggejkpjgaa
open Go.RowKit

/-- A byte as a value. -/
abbrev bv (b : UInt8) : Value := .int .u8 (b.toNat : Int)

/-- Block g holds the cells xs from its head on, none of them frozen. -/
structure Row (w : World) (g : Nat) (xs : List Value) : Prop where
  cell : ∀ j, j < xs.length → w.cell? ⟨g, j, none⟩ = xs[j]?
  free : ∀ j, j < xs.length → w.frozen? ⟨g, j, none⟩ = false

theorem Row.drew {w : World} {g : Nat} {xs : List Value} (h : Row w g xs) : Row w.drew g xs := ⟨h.cell, h.free⟩
theorem Row.lt {w : World} {g : Nat} {xs : List Value} (h : Row w g xs) (hne : 0 < xs.length) : g < w.heap.size := by
  have h1 := h.cell 0 hne
  rw [List.getElem?_eq_getElem hne] at h1
  exact World.block_lt_of_cell? w _ h1

theorem Row.set {w : World} {g : Nat} {xs : List Value} (h : Row w g xs) (k : Nat) (hk : k < xs.length) (v : Value) : Row (w.setCell ⟨g, k, none⟩ v) g (xs.set k v) := by
  have hc := h.cell k hk
  rw [List.getElem?_eq_getElem hk] at hc
  constructor
  · intro j hj
    rw [List.length_set] at hj
    by_cases e : j = k
    · subst e
      rw [World.cell?_setCell_same w _ _ hc]
      simp [hk]
    · rw [World.cell?_setCell_other w _ _ _ (by intro hh; injection hh with _ h2; exact e h2.symm)]
      rw [h.cell j hj, List.getElem?_set_ne (Ne.symm e)]
  · intro j hj
    rw [List.length_set] at hj
    have := h.free j hj
    simpa using this


theorem getElem_bv (l : List UInt8) (j : Nat) (hj : j < l.length) : (l.map bv)[j]? = some (.int .u8 (l[j].toNat : Int)) := by simp [bv, hj]

/-- Bytes out of a string: a new block holds them. -/
theorem conv_bytes {P : Program} (w : World) (src dst e : TypeId) (s : ByteArray) (hs : P.underlying src = some .string) (hd : P.underlying dst = some (.slice e)) (he : P.underlying e = some (.int .u8)) :
    ∃ cap w1, (convert src dst (.string s)).run P w = .ok (.slice (some ⟨w.heap.size, 0, none⟩) s.size cap) w1 ∧ Row w1 w.heap.size (s.data.toList.map bv) ∧ w1.heap.size = w.heap.size + 1 ∧ Below w.heap.size w w1 := by
  refine ⟨_, _, run_bytes_of_string w src dst e s hs hd he, ?_, ?_, ?_⟩
  · generalize grownCap w s.size 0 e = cap
    have hsz : s.data.size ≤ (bytesRow s cap).size := by unfold bytesRow; rw [Array.size_append, Array.size_map]; omega
    constructor
    · intro j hj
      have hj' : j < s.data.size := by simpa using hj
      have hc := World.cell?_alloc_mark w.drew (bytesRow s cap) e ((bytesRow s cap).size, (bytesRow s cap).size + 1) j
      refine hc.trans ?_
      unfold bytesRow
      rw [Array.getElem?_append_left (by rw [Array.size_map]; exact hj'), ← Array.toList_map, Array.getElem?_toList]
    · intro j hj
      have hj' : j < s.data.size := by simpa using hj
      refine (World.frozen?_alloc_mark w.drew _ _ _ _ j).trans ?_
      have : ¬ (bytesRow s cap).size ≤ j := by omega
      simp only [this, decide_false, Bool.false_and]
  · simp [World.alloc]
  · exact ((Below.refl _ _).drew).alloc (Nat.le_refl _) _

/-- Block g reads as these bytes (frozen or not). -/
structure Row1 (w : World) (g : Nat) (l : List UInt8) : Prop where
  cell : ∀ j, j < l.length → w.cell? ⟨g, j, none⟩ = (l.map bv)[j]?

theorem conv_back_c {P : Program} {w : World} {g : Nat} {l : List UInt8} (h : Row1 w g l) (src dst e : TypeId) (n cap : Nat) (hn : l.length = n) (hs : P.underlying src = some (.slice e)) (he : P.underlying e = some (.int .u8)) (hd : P.underlying dst = some .string) :
    (convert src dst (.slice (some ⟨g, 0, none⟩) n cap)).run P w = .ok (.string ⟨l.toArray⟩) w := by
  subst hn
  refine run_convert_bytes_back w src dst e ⟨g, 0, none⟩ cap l hs he hd (fun j hj => ?_)
  have := h.cell j hj
  rw [getElem_bv _ _ hj] at this
  rw [Addr.add_lit]
  simpa using this

theorem conv_back {P : Program} {w : World} {g : Nat} {l : List UInt8} (h : Row w g (l.map bv)) (src dst e : TypeId) (n cap : Nat) (hn : l.length = n) (hs : P.underlying src = some (.slice e)) (he : P.underlying e = some (.int .u8)) (hd : P.underlying dst = some .string) :
    (convert src dst (.slice (some ⟨g, 0, none⟩) n cap)).run P w = .ok (.string ⟨l.toArray⟩) w := by
  subst hn
  refine run_convert_bytes_back w src dst e ⟨g, 0, none⟩ cap l hs he hd (fun j hj => ?_)
  have hj' : j < (l.map bv).length := by simpa using hj
  have := h.cell j hj'
  rw [getElem_bv _ _ hj] at this
  rw [Addr.add_lit]
  simpa using this

/-- string([]byte{x}). -/
theorem conv_back1 {P : Program} (src dst e : TypeId) (hs : P.underlying src = some (.slice e)) (he : P.underlying e = some (.int .u8)) (hd : P.underlying dst = some .string) (n : Int) (h0 : 0 ≤ n) (h1 : n < 256) (cap : Nat)
    (w : World) (g : Nat) (hc : w.cell? ⟨g, 0, none⟩ = some (.int .u8 n)) :
    (convert src dst (.slice (some ⟨g, 0, none⟩) 1 cap)).run P w = .ok (.string ⟨#[UInt8.ofNat n.toNat]⟩) w := by
  have ev : ((UInt8.ofNat n.toNat).toNat : Int) = n := by rw [UInt8.toNat_ofNat_of_lt' (by show n.toNat < 256; omega)]; omega
  have hr : Row1 w g [UInt8.ofNat n.toNat] := ⟨fun j hj => by
    have : j = 0 := by simp at hj; omega
    subst this
    rw [hc]
    simp only [List.map_cons, List.getElem?_cons_zero]
    show some (Value.int .u8 n) = some (Value.int .u8 ((UInt8.ofNat n.toNat).toNat : Int))
    rw [ev]⟩
  exact conv_back_c hr src dst e 1 cap rfl hs he hd

theorem take_str (s : ByteArray) (k : Nat) (h : k < s.size) : s.data.toList.take (k + 1) = s.data.toList.take k ++ [s[k]] := by
  rw [List.take_succ_eq_append_getElem (by simpa using h)]; rfl
theorem take_str_all (s : ByteArray) : s.data.toList.take s.size = s.data.toList := List.take_of_length_le (by simp)

/-- The first k elements turned by f, the rest as they were. -/
def mid {α : Type} (f : α → α) (l : List α) (k : Nat) : List α := l.mapIdx fun i x => if i < k then f x else x
theorem mid_at {α : Type} (f : α → α) (l : List α) (k j : Nat) : (mid f l k)[j]? = l[j]?.map fun x => if j < k then f x else x := by simp [mid, List.getElem?_mapIdx]
theorem mid_zero {α : Type} (f : α → α) (l : List α) : mid f l 0 = l := by
  apply List.ext_getElem?; intro j; rw [mid_at]; cases l[j]? <;> simp
theorem mid_end {α : Type} (f : α → α) (l : List α) (k : Nat) (h : l.length ≤ k) : mid f l k = l.map f := by
  apply List.ext_getElem?; intro j; rw [mid_at, List.getElem?_map]
  by_cases hj : j < l.length
  · rw [List.getElem?_eq_getElem hj]; simp; omega
  · rw [List.getElem?_eq_none (by omega)]; rfl
theorem mid_length {α : Type} (f : α → α) (l : List α) (k : Nat) : (mid f l k).length = l.length := by simp [mid]
theorem mid_get {α : Type} (f : α → α) (l : List α) (k : Nat) (h : k < l.length) : (mid f l k)[k]? = some l[k] := by
  rw [mid_at, List.getElem?_eq_getElem h]; simp
theorem mid_set {α : Type} (f : α → α) (l : List α) (k : Nat) (h : k < l.length) (v : α) (hv : v = f l[k]) : (mid f l k).set k v = mid f l (k + 1) := by
  subst hv
  apply List.ext_getElem?; intro j
  rw [List.getElem?_set, mid_at, mid_at, mid_length]
  by_cases e : k = j
  · subst e; simp [h]
  · rw [if_neg e]
    have : (j < k) = (j < k + 1) := by rw [eq_iff_iff]; omega
    simp only [this]
theorem mid_same {α : Type} (f : α → α) (l : List α) (k : Nat) (h : k < l.length) (hv : f l[k] = l[k]) : mid f l (k + 1) = mid f l k := by
  apply List.ext_getElem?; intro j
  rw [mid_at, mid_at]
  by_cases e : j = k
  · subst e; rw [List.getElem?_eq_getElem h]; simp [hv]
  · have : (j < k) = (j < k + 1) := by rw [eq_iff_iff]; omega
    simp only [this]

theorem bv_ofNat {n : Nat} (h : n < 256) : bv (UInt8.ofNat n) = .int .u8 (n : Int) := by
  show Value.int .u8 ((UInt8.ofNat n).toNat : Int) = _
  rw [UInt8.toNat_ofNat_of_lt' (by simpa using h)]

end Go.Proofs.Ythjeeggejkpjgaa

/-
  Appending to a slice that the call itself owns: the library's laws with a slice type's facts in one bundle. No program is read here.
-/
namespace Go.Proofs.Ythjeeggejkpjgaa
open Go.RowKit

/-- What the tables say of a slice type t of elements e: cells and bytes of an element. -/
structure Elem (P : Program) (t e : TypeId) (size bytes : Nat) : Prop where
  under : P.underlying t = some (.slice e)
  info : ∃ i z, P.info? e = some i ∧ i.zero = some z ∧ i.size = size ∧ i.bytes = bytes ∧ z.cells.size = size
  pos : 0 < size

theorem Elem.mk' {P : Program} {t e : TypeId} {size bytes : Nat} {z : Value} (h : P.underlying t = some (.slice e)) (hi : (P.info? e).map (fun i => (i.zero, i.size, i.bytes)) = some (some z, size, bytes)) (hz : z.cells.size = size) (hp : 0 < size) :
    Elem P t e size bytes := by
  obtain ⟨i, h1, h2, h3, h4⟩ := info_parts hi
  exact ⟨h, ⟨i, z, h1, h2, h3, h4, hz⟩, hp⟩

section
variable {P : Program} {w : World} {ops : Array Oper} {rest : List Oper} {o : Oper} {a : Act} {t e : TypeId} {size bytes B : Nat}

theorem wpList_app {Q : Exit → Act → World → Prop} (E : Elem P t e size bytes) (hgd : o.guard = none) (s x : Operand) (ho : o.op = .call { callee := .builtin .append, args := #[s, x], argTypes := #[t, t] })
    (W : World) (v : Value) (n : Nat) (xs : List Value) (hs : a.eval s = v) (hown : w.ownsRow B e size v n xs) (hb : Below B W w) (hB : B ≤ w.heap.size)
    (ad : Addr) (m c : Nat) (news : List Value) (hx : a.eval x = .slice (some ad) m c) (hl : news.length = m * size) (hnews : ∀ j u, news[j]? = some u → w.cell? (ad.add j) = some u) (h1 : ∀ u ∈ news, u.oneCell' = true)
    (hm : 0 < m) (hbytes : (n + m) * bytes ≤ 140737488355328) (h63 : n + m ≤ 140737488355328)
    (h : ∀ g cap w', w'.ownsRow B e size (.slice (some ⟨g, 0, none⟩) (n + m) cap) (n + m) (xs ++ news) → Below B W w' → w.grownBy w' v.ownBlock → (v.ownBlock = some g ∨ g = w.heap.size) → g < w'.heap.size →
      wpList P ops Q rest (a.put o.dst (.slice (some ⟨g, 0, none⟩) (n + m) cap)) w') : wpList P ops Q (o :: rest) a w := by
  obtain ⟨ht, ⟨i, z, hi, hz, h2, h3, h4⟩, hp⟩ := E
  refine wpList_append_lies w hgd s x t ho B e i z size bytes ht hi hz h2 h3 h4 hp v n xs hs hown ad m c news hx hl hnews h1 hm (by unfold maxLen; omega) hbytes hB _ rfl ?_
  intro g cap w' k1 k2 k3 k4
  exact h g cap w' k1 (hb.grown k2 hB (fun k hk => (hown.lt k hk).1)) k2 k3 k4

/-- The same at the operation alone. -/
theorem wp_app {K : Act → World → Prop} {Q : Exit → Act → World → Prop} (E : Elem P t e size bytes) (s x : Operand) (ho : o.op = .call { callee := .builtin .append, args := #[s, x], argTypes := #[t, t] })
    (W : World) (v : Value) (n : Nat) (xs : List Value) (hs : a.eval s = v) (hown : w.ownsRow B e size v n xs) (hb : Below B W w) (hB : B ≤ w.heap.size)
    (ad : Addr) (m c : Nat) (news : List Value) (hx : a.eval x = .slice (some ad) m c) (hl : news.length = m * size) (hnews : ∀ j u, news[j]? = some u → w.cell? (ad.add j) = some u) (h1 : ∀ u ∈ news, u.oneCell' = true)
    (hm : 0 < m) (hbytes : (n + m) * bytes ≤ 140737488355328) (h63 : n + m ≤ 140737488355328)
    (h : ∀ g cap w', w'.ownsRow B e size (.slice (some ⟨g, 0, none⟩) (n + m) cap) (n + m) (xs ++ news) → Below B W w' → w.grownBy w' v.ownBlock → (v.ownBlock = some g ∨ g = w.heap.size) → g < w'.heap.size →
      K (a.put o.dst (.slice (some ⟨g, 0, none⟩) (n + m) cap)) w') : o.wp P a w K Q := by
  obtain ⟨ht, ⟨i, z, hi, hz, h2, h3, h4⟩, hp⟩ := E
  refine wp_append_lies w s x t ho B e i z size bytes ht hi hz h2 h3 h4 hp v n xs hs hown ad m c news hx hl hnews h1 hm (by unfold maxLen; omega) hbytes hB _ rfl ?_
  intro g cap w' k1 k2 k3 k4
  exact h g cap w' k1 (hb.grown k2 hB (fun k hk => (hown.lt k hk).1)) k2 k3 k4

theorem step_app {K : Act → World → Prop} {Q : Exit → Act → World → Prop} {F : Prop} (E : Elem P t e size bytes) (hgd : o.guard = none) (s x : Operand) (ho : o.op = .call { callee := .builtin .append, args := #[s, x], argTypes := #[t, t] })
    (W : World) (v : Value) (n : Nat) (xs : List Value) (hs : a.eval s = v) (hown : w.ownsRow B e size v n xs) (hb : Below B W w) (hB : B ≤ w.heap.size)
    (ad : Addr) (m c : Nat) (news : List Value) (hx : a.eval x = .slice (some ad) m c) (hl : news.length = m * size) (hnews : ∀ j u, news[j]? = some u → w.cell? (ad.add j) = some u) (h1 : ∀ u ∈ news, u.oneCell' = true)
    (hm : 0 < m) (hbytes : (n + m) * bytes ≤ 140737488355328) (h63 : n + m ≤ 140737488355328)
    (h : ∀ g cap w', w'.ownsRow B e size (.slice (some ⟨g, 0, none⟩) (n + m) cap) (n + m) (xs ++ news) → Below B W w' → w.grownBy w' v.ownBlock → (v.ownBlock = some g ∨ g = w.heap.size) → g < w'.heap.size →
      K (a.put o.dst (.slice (some ⟨g, 0, none⟩) (n + m) cap)) w') : if Region.wanted o (yielded ops a.tmps) = true then Oper.wp P o a w K Q else F := by
  obtain ⟨ht, ⟨i, z, hi, hz, h2, h3, h4⟩, hp⟩ := E
  refine step_append_lies w hgd s x t ho B e i z size bytes ht hi hz h2 h3 h4 hp v n xs hs hown ad m c news hx hl hnews h1 hm (by unfold maxLen; omega) hbytes hB _ rfl ?_
  intro g cap w' k1 k2 k3 k4
  exact h g cap w' k1 (hb.grown k2 hB (fun k hk => (hown.lt k hk).1)) k2 k3 k4

/-- Appending what lies in a block that was made just now. -/
theorem wp_app1 {K : Act → World → Prop} {Q : Exit → Act → World → Prop} (E : Elem P t e size bytes) (s x : Operand) (ho : o.op = .call { callee := .builtin .append, args := #[s, x], argTypes := #[t, t] })
    (W w0 : World) (v : Value) (n : Nat) (xs : List Value) (hs : a.eval s = v) (hown : w0.ownsRow B e size v n xs) (hb : Below B W w0) (hB : B ≤ w0.heap.size)
    (cs : Array Value) (hw : w = (w0.alloc (.cells cs e)).drew ∨ w = w0.alloc (.cells cs e)) (m c : Nat) (hx : a.eval x = .slice (some ⟨w0.heap.size, 0, none⟩) m c) (hl : cs.size = m * size) (h1 : cs.all (·.oneCell') = true)
    (hm : 0 < m) (hbytes : (n + m) * bytes ≤ 140737488355328) (h63 : n + m ≤ 140737488355328)
    (h : ∀ g cap w', w'.ownsRow B e size (.slice (some ⟨g, 0, none⟩) (n + m) cap) (n + m) (xs ++ cs.toList) → Below B W w' → w0.grownBy w' v.ownBlock → (v.ownBlock = some g ∨ w0.heap.size ≤ g) → g < w'.heap.size →
      K (a.put o.dst (.slice (some ⟨g, 0, none⟩) (n + m) cap)) w') : o.wp P a w K Q := by
  have hsz : w.heap.size = w0.heap.size + 1 := by rcases hw with rfl | rfl <;> simp
  have hblk : w.heap[w0.heap.size]? = some (.cells cs e (0, 0)) := by
    rcases hw with rfl | rfl <;> exact heap_alloc_new w0 _
  have hb' : Below B W w := by
    rcases hw with rfl | rfl
    · exact (hb.alloc hB _).drew
    · exact hb.alloc hB _
  have hown' : w.ownsRow B e size v n xs := by
    rcases hw with rfl | rfl
    · exact (hown.alloc _).drew
    · exact hown.alloc _
  have hold : ∀ k, k < w0.heap.size → w.heap[k]? = w0.heap[k]? := by
    intro k hk
    rcases hw with rfl | rfl
    · exact Below.heap_alloc w0 _ k hk
    · exact Below.heap_alloc w0 _ k hk
  have hgen : w.os = w0.os ∧ w.tape = w0.tape ∧ w.output = w0.output := by rcases hw with rfl | rfl <;> exact ⟨rfl, rfl, rfl⟩
  refine wp_app E s x ho W v n xs hs hown' hb' (by omega) ⟨w0.heap.size, 0, none⟩ m c cs.toList hx (by simpa using hl) (World.news_of_block hblk) (fun u hu => by
    simp only [Array.all_eq_true'] at h1
    exact h1 u (by simpa using hu)) hm hbytes h63 ?_
  intro g cap w' k1 k2 k3 k4 k5
  refine h g cap w' k1 k2 ⟨k3.os.trans hgen.1, k3.tape.trans hgen.2.1, k3.output.trans hgen.2.2, by have := k3.size; omega, fun k hk hne => (k3.block k (by omega) hne).trans (hold k hk)⟩ ?_ k5
  rcases k4 with k4 | k4
  · exact .inl k4
  · exact .inr (by omega)

/-- The same in the list of a region that does not draw. -/
theorem wpList_app1 {Q : Exit → Act → World → Prop} (E : Elem P t e size bytes) (hgd : o.guard = none) (s x : Operand) (ho : o.op = .call { callee := .builtin .append, args := #[s, x], argTypes := #[t, t] })
    (W w0 : World) (v : Value) (n : Nat) (xs : List Value) (hs : a.eval s = v) (hown : w0.ownsRow B e size v n xs) (hb : Below B W w0) (hB : B ≤ w0.heap.size)
    (cs : Array Value) (hw : w = (w0.alloc (.cells cs e)).drew ∨ w = w0.alloc (.cells cs e)) (m c : Nat) (hx : a.eval x = .slice (some ⟨w0.heap.size, 0, none⟩) m c) (hl : cs.size = m * size) (h1 : cs.all (·.oneCell') = true)
    (hm : 0 < m) (hbytes : (n + m) * bytes ≤ 140737488355328) (h63 : n + m ≤ 140737488355328)
    (h : ∀ g cap w', w'.ownsRow B e size (.slice (some ⟨g, 0, none⟩) (n + m) cap) (n + m) (xs ++ cs.toList) → Below B W w' → w0.grownBy w' v.ownBlock → (v.ownBlock = some g ∨ w0.heap.size ≤ g) → g < w'.heap.size →
      wpList P ops Q rest (a.put o.dst (.slice (some ⟨g, 0, none⟩) (n + m) cap)) w') : wpList P ops Q (o :: rest) a w :=
  wpList_plain hgd fun _ hK => wp_app1 E s x ho W w0 v n xs hs hown hb hB cs hw m c hx hl h1 hm hbytes h63 fun g cap w' k1 k2 k3 k4 k5 => hK _ _ (h g cap w' k1 k2 k3 k4 k5)

end

theorem ownsRow_row {w : World} {B : Nat} {e : TypeId} {v : Value} {xs : List Value} (h : w.ownsRow B e 1 v xs.length xs) (hne : 0 < xs.length) : ∃ g cap, v = .slice (some ⟨g, 0, none⟩) xs.length cap ∧ B ≤ g ∧ Row w g xs := by
  obtain ⟨g, cap, hv, hb, hlt⟩ := h.form hne
  subst hv
  refine ⟨g, cap, rfl, hb, ⟨fun j hj => h.cellAt j (by omega), fun j hj => h.frozenAt j⟩⟩

/-- make([]T, 0, n). -/
theorem wpList_mk {P : Program} {w : World} {ops : Array Oper} {rest : List Oper} {o : Oper} {a : Act} {t e : TypeId} {size bytes : Nat} {Q : Exit → Act → World → Prop} (E : Elem P t e size bytes) (hgd : o.guard = none) (l c : Operand) (ho : o.op = Op.makeSlice t l c)
    (B : Nat) (W : World) (hb : Below B W w) (hB : B ≤ w.heap.size) (kl kc : IntKind) (C : Int) (n : Nat) (hl : a.eval l = .int kl 0) (hc : a.eval c = .int kc C) (hC : C = (n : Int)) (b2 : bytes * n ≤ 281474976710656) (b3 : n ≤ 281474976710656)
    (h : ∀ w', w'.ownsRow B e size (.slice (some ⟨w.heap.size, 0, none⟩) 0 n) 0 [] → Below B W w' → w.grownBy w' none → w.heap.size < w'.heap.size → wpList P ops Q rest (a.put o.dst (.slice (some ⟨w.heap.size, 0, none⟩) 0 n)) w') : wpList P ops Q (o :: rest) a w := by
  obtain ⟨ht, ⟨i, z, hi, hz, h2, h3, h4⟩, hp⟩ := E
  refine wpList_make_own w hgd l c t ho B e i z size ht hi hz h2 kl kc C n hl hc hC (by rw [h3]; exact b2) (by unfold maxLen; omega) hB ?_
  intro w' k1 k2
  refine h w' k1 (hb.grown k2 hB (fun k hk => by cases hk)) k2 ?_
  exact (k1.lt w.heap.size rfl).2

theorem run_convert_bytes_zero0 {P : Program} (w : World) (src dst e : TypeId) (hs : P.underlying src = some (.slice e)) (he : P.underlying e = some (.int .u8)) (hd : P.underlying dst = some .string) :
    (convert src dst (.slice none 0 0)).run P w = .ok (.string ⟨#[]⟩) w := by
  rw [run_convert_bytes_string w src dst e none 0 0 hs he hd]
  rfl

/-- string(b) of a slice of bytes that the call owns. -/
theorem conv_own {P : Program} {w : World} {B n : Nat} {v : Value} {l : List UInt8} (src dst e : TypeId) (h : w.ownsRow B e 1 v n (l.map bv)) (hn : l.length = n) (hs : P.underlying src = some (.slice e)) (he : P.underlying e = some (.int .u8)) (hd : P.underlying dst = some .string) :
    (convert src dst v).run P w = .ok (.string ⟨l.toArray⟩) w := by
  rcases h.2 with ⟨rfl, h0⟩ | ⟨g, cap, cur, hv, hb, hg, hnc, hcm, hsz, htk⟩
  · subst h0
    obtain rfl := List.eq_nil_of_length_eq_zero hn
    exact run_convert_bytes_zero0 w src dst e hs he hd
  · subst hv
    exact conv_back (w := w) (g := g) (l := l) ⟨fun j hj => h.cellAt j (by rw [List.length_map] at hj; omega), fun j _ => h.frozenAt j⟩ src dst e n cap hn hs he hd

end Go.Proofs.Ythjeeggejkpjgaa

/-
  A region that draws its order, walked in ONE order: operations whose answer is the same in every world that meets S are taken as soon as they may come up; every other one must be the only one that may come up. No program is read here.
-/
namespace Go.Proofs.Ythjeeggejkpjgaa
open Go.RowKit

def pickOp : List Oper → Nat → Oper
  | [], _ => { dst := none, op := .move (.tmp 0), type := 0, pos := "", after := #[], guard := none }
  | o :: _, 0 => o
  | _ :: l, n + 1 => pickOp l n
theorem pickOp_zero (o : Oper) (l : List Oper) : pickOp (o :: l) 0 = o := rfl
theorem pickOp_succ (o : Oper) (l : List Oper) (n : Nat) : pickOp (o :: l) (n + 1) = pickOp l n := rfl
theorem pickOp_get : ∀ (l : List Oper) (n : Nat), n < l.length → l[n]? = some (pickOp l n)
  | o :: l, 0, _ => rfl
  | o :: l, n + 1, h => by simpa [pickOp] using pickOp_get l n (by simpa using h)

/-- The order's check: a floating operation is free and may come up; any other one is the only one that may come up; at the end none is left. -/
def ordB (ops : Array Oper) : List (Nat × Bool) → Array Bool → Bool
  | [], listed => (Region.ready .any ops listed).isEmpty
  | (i, true) :: r, listed => decide (i < ops.size) && Region.free .any ops listed i && (Region.ready .any ops listed).contains i && ordB ops r (listed.setIfInBounds i true)
  | (i, false) :: r, listed => decide (i < ops.size) && Region.ready .any ops listed == [i] && ordB ops r (listed.setIfInBounds i true)

def OrdH (P : Program) (ops : Array Oper) (Q : Exit → Act → World → Prop) (S : World → Prop) (idx : List (Nat × Bool)) (os : List Oper) (a : Act) (w : World) : Prop :=
  Region.noSelect ops = true → idx.map (fun x => pickOp ops.toList x.1) = os → ∀ listed, ordB ops idx listed = true → wpAnyH P .any ops Q S idx.length listed a w

section
variable {P : Program} {ops : Array Oper} {Q : Exit → Act → World → Prop} {S : World → Prop} {a : Act} {w : World} {i : Nat} {r : List (Nat × Bool)} {o : Oper} {os : List Oper}

theorem ord_start {id : Nat} (idx : List (Nat × Bool)) (S : World → Prop) (hm : P.follows .mixedOrders = true) (hs : Region.noSelect ops = true) (hl : idx.length = ops.size)
    (hB : ordB ops idx (Array.replicate ops.size false) = true)
    (h : ∀ ops', Hid (ops' = ops) → OrdH P ops' Q S idx (idx.map fun x => pickOp ops.toList x.1) a w.drew) : (Code.region id ops true).wp P Q a w :=
  wp_region_held hm (by have := h ops rfl hs rfl _ hB; rw [hl] at this; exact this)

theorem get_op (hi : i < ops.size) (ho : pickOp ops.toList i = o) : ops[i]? = some o := by
  have := pickOp_get ops.toList i (by simpa using hi)
  rw [ho] at this
  simpa using this

/-- A floating operation. -/
theorem ord_flo (v : Value) (hQ : ∀ c a w, Q (.panic c) (a.put o.dst v) w → Q (.panic c) a w) (hw : Region.wanted o (yielded ops a.tmps) = true)
    (hy : ∀ w, S w → (execOp a.eval o).run P w = .ok (.value v) w) (hS : S w)
    (h : OrdH P ops Q S r os (a.put o.dst v) w) : OrdH P ops Q S ((i, true) :: r) (o :: os) a w := by
  intro hs ho listed hB
  simp only [List.map_cons, List.cons.injEq] at ho
  simp only [ordB, Bool.and_eq_true, decide_eq_true_eq] at hB
  obtain ⟨⟨⟨h1, h2⟩, h3⟩, h4⟩ := hB
  exact wpAnyH_take (get_op h1 ho.1) hs h2 h3 hQ (.inl ⟨hw, hy⟩) hS (h hs ho.2 _ h4)

/-- An operation whose guard says no. -/
theorem ord_not (hQ : ∀ c a w, Q (.panic c) (a.put o.dst undef) w → Q (.panic c) a w) (hw : Region.wanted o (yielded ops a.tmps) = false) (hS : S w)
    (h : OrdH P ops Q S r os (a.put o.dst undef) w) : OrdH P ops Q S ((i, true) :: r) (o :: os) a w := by
  intro hs ho listed hB
  simp only [List.map_cons, List.cons.injEq] at ho
  simp only [ordB, Bool.and_eq_true, decide_eq_true_eq] at hB
  obtain ⟨⟨⟨h1, h2⟩, h3⟩, h4⟩ := hB
  exact wpAnyH_take (get_op h1 ho.1) hs h2 h3 hQ (.inr ⟨hw, rfl⟩) hS (h hs ho.2 _ h4)

/-- Any other operation. -/
theorem ord_ev (hw : Region.wanted o (yielded ops a.tmps) = true) (h : o.wp P a w (fun a' w' => S w' ∧ OrdH P ops Q S r os a' w') Q) : OrdH P ops Q S ((i, false) :: r) (o :: os) a w := by
  intro hs ho listed hB
  simp only [List.map_cons, List.cons.injEq] at ho
  simp only [ordB, Bool.and_eq_true, decide_eq_true_eq, beq_iff_eq] at hB
  obtain ⟨⟨h1, h2⟩, h4⟩ := hB
  refine wpAnyH_all h2 (by simp) (fun j hj => ?_)
  simp only [List.mem_singleton] at hj
  subst hj
  unfold wpOp
  simp only [get_op h1 ho.1, hw, if_true]
  exact .inl (Oper.wp_mono (fun a' w' hh => ⟨hh.1, hh.2 hs ho.2 _ h4⟩) h)

theorem ord_evnot (hS : S w) (hw : Region.wanted o (yielded ops a.tmps) = false) (h : OrdH P ops Q S r os (a.put o.dst undef) w) : OrdH P ops Q S ((i, false) :: r) (o :: os) a w := by
  intro hs ho listed hB
  simp only [List.map_cons, List.cons.injEq] at ho
  simp only [ordB, Bool.and_eq_true, decide_eq_true_eq, beq_iff_eq] at hB
  obtain ⟨⟨h1, h2⟩, h4⟩ := hB
  refine wpAnyH_all h2 (by simp) (fun j hj => ?_)
  simp only [List.mem_singleton] at hj
  subst hj
  unfold wpOp
  simp only [get_op h1 ho.1, hw, Bool.false_eq_true, if_false]
  exact ⟨hS, h hs ho.2 _ h4⟩

theorem ord_done (h : Q .normal a w) : OrdH P ops Q S [] [] a w := by
  intro _ _ listed hB
  simp only [ordB, List.isEmpty_iff] at hB
  exact wpAnyH_done hB h _

end
end Go.Proofs.Ythjeeggejkpjgaa

/-
  A region that draws its order, walked along a tree of orders: as Ord, and where just two operations may come up next, both ways. No program is read here.
-/
namespace Go.Proofs.Ythjeeggejkpjgaa
open Go.RowKit

theorem get_of {ops' ops : Array Oper} (h : Hid (ops' = ops)) (i : Nat) : ops'[i]? = ops[i]? := by rw [h.out]

inductive OTree where
  | nil : OTree
  | flo : Nat → OTree → OTree
  | ev : Nat → OTree → OTree
  | fork : Nat → OTree → Nat → OTree → OTree
def OTree.len : OTree → Nat
  | .nil => 0
  | .flo _ r => r.len + 1
  | .ev _ r => r.len + 1
  | .fork _ r _ _ => r.len + 1
def ordT (ops : Array Oper) : OTree → Array Bool → Bool
  | .nil, listed => (Region.ready .any ops listed).isEmpty
  | .flo i r, listed => Region.free .any ops listed i && (Region.ready .any ops listed).contains i && ordT ops r (listed.setIfInBounds i true)
  | .ev i r, listed => Region.ready .any ops listed == [i] && ordT ops r (listed.setIfInBounds i true)
  | .fork i r j q, listed => Region.ready .any ops listed == [i, j] && r.len == q.len && ordT ops r (listed.setIfInBounds i true) && ordT ops q (listed.setIfInBounds j true)

def OrdT (P : Program) (ops : Array Oper) (Q : Exit → Act → World → Prop) (S : World → Prop) (t : OTree) (a : Act) (w : World) : Prop :=
  Region.noSelect ops = true → ∀ listed, ordT ops t listed = true → wpAnyH P .any ops Q S t.len listed a w

section
variable {P : Program} {ops : Array Oper} {Q : Exit → Act → World → Prop} {S : World → Prop} {a : Act} {w : World} {i j : Nat} {r q : OTree}

theorem ordT_start {id : Nat} (t : OTree) (S : World → Prop) (hm : P.follows .mixedOrders = true) (hs : Region.noSelect ops = true) (hl : t.len = ops.size)
    (hB : ordT ops t (Array.replicate ops.size false) = true)
    (h : ∀ ops', Hid (ops' = ops) → OrdT P ops' Q S t a w.drew) : (Code.region id ops true).wp P Q a w :=
  wp_region_held hm (by have := h ops rfl hs _ hB; rw [hl] at this; exact this)

theorem ordT_flo (o : Oper) (hi : ops[i]? = some o) (v : Value) (hQ : ∀ c a w, Q (.panic c) (a.put o.dst v) w → Q (.panic c) a w) (hw : Region.wanted o (yielded ops a.tmps) = true)
    (hy : ∀ w, S w → (execOp a.eval o).run P w = .ok (.value v) w) (hS : S w) (h : OrdT P ops Q S r (a.put o.dst v) w) : OrdT P ops Q S (.flo i r) a w := by
  intro hs listed hB
  simp only [ordT, Bool.and_eq_true] at hB
  obtain ⟨⟨h2, h3⟩, h4⟩ := hB
  exact wpAnyH_take hi hs h2 h3 hQ (.inl ⟨hw, hy⟩) hS (h hs _ h4)

theorem ordT_ev (o : Oper) (hi : ops[i]? = some o) (hw : Region.wanted o (yielded ops a.tmps) = true) (h : o.wp P a w (fun a' w' => S w' ∧ OrdT P ops Q S r a' w') Q) : OrdT P ops Q S (.ev i r) a w := by
  intro hs listed hB
  simp only [ordT, Bool.and_eq_true, beq_iff_eq] at hB
  obtain ⟨h2, h4⟩ := hB
  refine wpAnyH_all h2 (by simp) (fun k hk => ?_)
  simp only [List.mem_singleton] at hk
  subst hk
  unfold wpOp
  simp only [hi, hw, if_true]
  exact .inl (Oper.wp_mono (fun a' w' hh => ⟨hh.1, hh.2 hs _ h4⟩) h)

theorem ordT_fork (o o2 : Oper) (hi : ops[i]? = some o) (hj : ops[j]? = some o2) (hw : Region.wanted o (yielded ops a.tmps) = true) (hw2 : Region.wanted o2 (yielded ops a.tmps) = true)
    (h : o.wp P a w (fun a' w' => S w' ∧ OrdT P ops Q S r a' w') Q) (h2 : o2.wp P a w (fun a' w' => S w' ∧ OrdT P ops Q S q a' w') Q) : OrdT P ops Q S (.fork i r j q) a w := by
  intro hs listed hB
  simp only [ordT, Bool.and_eq_true, beq_iff_eq] at hB
  obtain ⟨⟨⟨h3, h6⟩, h4⟩, h5⟩ := hB
  refine wpAnyH_all h3 (by simp) (fun k hk => ?_)
  simp only [List.mem_cons, List.not_mem_nil, or_false] at hk
  rcases hk with rfl | rfl
  · unfold wpOp
    simp only [hi, hw, if_true]
    exact .inl (Oper.wp_mono (fun a' w' hh => ⟨hh.1, hh.2 hs _ h4⟩) h)
  · unfold wpOp
    simp only [hj, hw2, if_true]
    refine .inl (Oper.wp_mono (fun a' w' hh => ⟨hh.1, ?_⟩) h2)
    have := hh.2 hs _ h5
    rwa [← h6] at this

theorem ordT_done (h : Q .normal a w) : OrdT P ops Q S .nil a w := by
  intro _ listed hB
  simp only [ordT, List.isEmpty_iff] at hB
  exact wpAnyH_done hB h _

end
end Go.Proofs.Ythjeeggejkpjgaa

/-
  A region that draws its order, where a load may come up before, between or behind a call and a slice literal: walked in one order. No program is read here.
-/
namespace Go.Proofs.Ythjeeggejkpjgaa
open Go.RowKit

section
variable {P : Program} {ops : Array Oper} {Q : Exit → Act → World → Prop} {S : World → Prop} {a : Act} {w : World} {i j k : Nat} {r : OTree}

/-- Where the load may come up: ahead of j, between j and k, behind k. -/
def OTree.late (i j k : Nat) (r : OTree) : OTree := .fork i (.ev j (.ev k r)) j (.fork i (.ev k r) k (.ev i r))

/-- The walk's second half, closed until it is asked for. -/
def LateK (P : Program) (ops : Array Oper) (Q : Exit → Act → World → Prop) (S T : World → Prop) (ok : Oper) (r : OTree) (a1 : Act) (w1 : World) : Prop :=
  Region.wanted ok (yielded ops a1.tmps) = true ∧ ok.wp P a1 w1 (fun a2 w2 => (T w2 ∧ S w2) ∧ OrdT P ops Q S r a2 w2) Q
theorem LateK.of {ok : Oper} {T : World → Prop} {a1 : Act} {w1 : World} (h1 : Region.wanted ok (yielded ops a1.tmps) = true) (h2 : ok.wp P a1 w1 (fun a2 w2 => (T w2 ∧ S w2) ∧ OrdT P ops Q S r a2 w2) Q) : LateK P ops Q S T ok r a1 w1 := ⟨h1, h2⟩

theorem ordT_late (T : World → Prop) (oi oj ok : Oper) (hi : ops[i]? = some oi) (hj : ops[j]? = some oj) (hk : ops[k]? = some ok) (hapj : oi.apart ops oj = true) (hapk : oi.apart ops ok = true) (v : Value)
    (hQ : ∀ c a w, Q (.panic c) (a.put oi.dst v) w → Q (.panic c) a w) (hw : Region.wanted oi (yielded ops a.tmps) = true) (hy : ∀ w, T w → (execOp a.eval oi).run P w = .ok (.value v) w) (hT : T w) (hS : S w)
    (hwj : Region.wanted oj (yielded ops (a.put oi.dst v).tmps) = true)
    (h : oj.wp P (a.put oi.dst v) w (fun a1 w1 => (T w1 ∧ S w1) ∧ LateK P ops Q S T ok r a1 w1) Q) :
    OrdT P ops Q S (.late i j k r) a w := by
  have hyI : YieldsIf P ops T oi v a := .inl ⟨hw, hy⟩
  have wpk : ∀ a1 w1, Region.wanted ok (yielded ops a1.tmps) = true → ok.wp P a1 w1 (fun a2 w2 => (T w2 ∧ S w2) ∧ OrdT P ops Q S r a2 w2) Q → wpOp P ops Q k (fun a2 w2 => (T w2 ∧ S w2) ∧ OrdT P ops Q S r a2 w2) a1 w1 := by
    intro a1 w1 h1 h2
    unfold wpOp
    simp only [hk, h1, if_true]
    exact .inl h2
  have wpj : wpOp P ops Q j (fun a1 w1 => (T w1 ∧ S w1) ∧ (Region.wanted ok (yielded ops a1.tmps) = true ∧ ok.wp P a1 w1 (fun a2 w2 => (T w2 ∧ S w2) ∧ OrdT P ops Q S r a2 w2) Q)) (a.put oi.dst v) w := by
    unfold wpOp
    simp only [hj, hwj, if_true]
    exact .inl h
  have A1 : OrdT P ops Q S (.ev j (.ev k r)) (a.put oi.dst v) w :=
    ordT_ev oj hj hwj (Oper.wp_mono (fun a1 w1 hh => ⟨hh.1.2, ordT_ev ok hk hh.2.1 (Oper.wp_mono (fun a2 w2 h2 => ⟨h2.1.2, h2.2⟩) hh.2.2)⟩) h)
  intro hs listed hB
  have hsel := Region.noSelect_spec hs
  simp only [OTree.late, ordT, Bool.and_eq_true, beq_iff_eq] at hB
  obtain ⟨⟨⟨h3, _⟩, h4⟩, ⟨⟨h5, _⟩, h6⟩, h7⟩ := hB
  have hB1 : ordT ops (.ev j (.ev k r)) (listed.setIfInBounds i true) = true := by
    simp only [ordT, Bool.and_eq_true, beq_iff_eq]
    exact h4
  refine wpAnyH_all h3 (by simp) (fun m hm => ?_)
  simp only [List.mem_cons, List.not_mem_nil, or_false] at hm
  rcases hm with rfl | rfl
  · exact hyI.wpOp hi hT ⟨hS, A1 hs _ hB1⟩
  · refine wpOp_mono ?_ (wpOp_putIf hj hapj (fun cs b => hsel _ oi cs b hi) (fun cs b => hsel _ oj cs b hj) hQ hyI wpj)
    rintro a1 w1 ⟨hy1, ⟨hT1, hS1⟩, hwk, hk1⟩
    refine ⟨hS1, wpAnyH_all h5 (by simp) (fun m hm => ?_)⟩
    have B1 : OrdT P ops Q S (.ev k r) (a1.put oi.dst v) w1 := ordT_ev ok hk hwk (Oper.wp_mono (fun a2 w2 h2 => ⟨h2.1.2, h2.2⟩) hk1)
    have hB2 : ordT ops (.ev k r) ((listed.setIfInBounds m true).setIfInBounds i true) = true ∨ True := .inr trivial
    clear hB2
    simp only [List.mem_cons, List.not_mem_nil, or_false] at hm
    rcases hm with rfl | rfl
    · refine hy1.wpOp hi hT1 ⟨hS1, B1 hs _ ?_⟩
      simp only [ordT, Bool.and_eq_true, beq_iff_eq]
      exact h6
    · refine wpOp_mono ?_ (wpOp_putIf hk hapk (fun cs b => hsel _ oi cs b hi) (fun cs b => hsel _ ok cs b hk) hQ hy1 (wpk _ _ hwk hk1))
      rintro a2 w2 ⟨hy2, ⟨hT2, hS2⟩, hr⟩
      refine ⟨hS2, wpAnyH_all h7.1 (by simp) (fun n hn => ?_)⟩
      simp only [List.mem_singleton] at hn
      subst hn
      exact hy2.wpOp hi hT2 ⟨hS2, hr hs _ h7.2⟩

end
end Go.Proofs.Ythjeeggejkpjgaa

/-
  Slices of one-cell elements, read and owned. No program is read here.
-/
namespace Go.Proofs.Ythjeeggejkpjgaa
open Go.RowKit

/-- A string value out of its bytes. -/
abbrev sv (l : List UInt8) : Value := .string ⟨l.toArray⟩
theorem sv_data (s : ByteArray) : sv s.data.toList = .string s := by cases s; simp [sv]

/-- The slice value v reads in w as the list l, an element a cell. -/
structure Rd1 {α : Type} (enc : α → Value) (w : World) (v : Value) (l : List α) : Prop where
  ex : ∃ p cap, v = .slice p l.length cap ∧ (l = [] ∨ ∃ b off, p = some ⟨b, off, none⟩ ∧ b < w.heap.size ∧ ∀ i x, l[i]? = some x → w.cell? ⟨b, off + i, none⟩ = some (enc x))

theorem Rd1.below {α : Type} {enc : α → Value} {w w' : World} {v : Value} {l : List α} (h : Rd1 enc w v l) (hb : Below w.heap.size w w') : Rd1 enc w' v l := by
  obtain ⟨p, cap, hv, h | ⟨b, off, hp, hlt, hc⟩⟩ := h.ex
  · exact ⟨p, cap, hv, .inl h⟩
  · exact ⟨p, cap, hv, .inr ⟨b, off, hp, Nat.lt_of_lt_of_le hlt hb.size, fun i x hx => (hb.cell (p := ⟨b, off + i, none⟩) hlt).trans (hc i x hx)⟩⟩

theorem ownsRow_below {w w' : World} {B n size : Nat} {e : TypeId} {v : Value} {xs : List Value} (h : w.ownsRow B e size v n xs) (hb : Below w.heap.size w w') : w'.ownsRow B e size v n xs := by
  refine ⟨h.1, ?_⟩
  rcases h.2 with h0 | ⟨g, cap, cur, hv, h1, h2, h3⟩
  · exact .inl h0
  · exact .inr ⟨g, cap, cur, hv, h1, (hb.block g (Array.getElem?_eq_some_iff.1 h2).1).trans h2, h3⟩

theorem Rd1.of_own {α : Type} {enc : α → Value} {w : World} {B n : Nat} {e : TypeId} {v : Value} {l : List α} (h : w.ownsRow B e 1 v n (l.map enc)) : Rd1 enc w v l := by
  have hn : l.length = n := by have := h.1; simpa using this
  rcases h.2 with ⟨hv, h0⟩ | ⟨g, cap, cur, hv, h1, h2, h3⟩
  · subst h0
    have : l = [] := List.eq_nil_of_length_eq_zero hn
    subst this
    exact ⟨none, 0, by rw [hv]; rfl, .inl rfl⟩
  · subst hn
    subst hv
    refine ⟨_, cap, rfl, .inr ⟨g, 0, rfl, (Array.getElem?_eq_some_iff.1 h2).1, fun i x hx => ?_⟩⟩
    have hi : i < l.length := (List.getElem?_eq_some_iff.1 hx).1
    rw [Nat.zero_add, h.cellAt i (by omega), List.getElem?_map, hx]
    rfl

theorem Rd1.nil {α : Type} {enc : α → Value} {w : World} : Rd1 enc w (.slice none 0 0) ([] : List α) := ⟨none, 0, rfl, .inl rfl⟩

theorem grown_below {w w1 w2 : World} {row : Option Nat} (h : w.grownBy w1 row) (hb : Below w1.heap.size w1 w2) : w.grownBy w2 row :=
  ⟨hb.os.trans h.os, hb.tape.trans h.tape, hb.output.trans h.output, Nat.le_trans h.size hb.size, fun k hk hne => (hb.block k (Nat.lt_of_lt_of_le hk h.size)).trans (h.block k hk hne)⟩
theorem grown_grown {w w1 w2 : World} {row : Option Nat} (h : w.grownBy w1 row) (hg : w1.grownBy w2 row) : w.grownBy w2 row :=
  ⟨hg.os.trans h.os, hg.tape.trans h.tape, hg.output.trans h.output, Nat.le_trans h.size hg.size, fun k hk hne => (hg.block k (Nat.lt_of_lt_of_le hk h.size) hne).trans (h.block k hk hne)⟩
theorem below_grown {w w1 w2 : World} {row : Option Nat} {B : Nat} (h : Below B w w1) (hg : w1.grownBy w2 row) (hB : B ≤ w1.heap.size) (hr : ∀ k, row = some k → B ≤ k) : Below B w w2 := h.grown hg hB hr

end Go.Proofs.Ythjeeggejkpjgaa

/-
  What a contract may ask of the memory and keeps; rows that stand beside one that is written. No program is read here.
-/
namespace Go.Proofs.Ythjeeggejkpjgaa
open Go.RowKit

/-- What holds of a memory holds of every one that lies over it. -/
def Keeps (G : World → Prop) : Prop := ∀ w w' : World, G w → Below w.heap.size w w' → G w'
theorem keeps_true : Keeps (fun _ => True) := fun _ _ _ _ => trivial
theorem Keeps.and {G K : World → Prop} (hG : Keeps G) (hK : Keeps K) : Keeps (fun W => G W ∧ K W) := fun w w' h hb => ⟨hG w w' h.1 hb, hK w w' h.2 hb⟩

/-- A row stands where another, younger row is written. -/
theorem own_old {w w1 : World} {B B2 n m s s2 top : Nat} {e e2 : TypeId} {v v2 : Value} {xs ys : List Value} (h : w.ownsRow B e s v n xs) (htop : ∀ k, v.ownBlock = some k → k < top) (h2 : w.ownsRow B2 e2 s2 v2 m ys) (hB : top ≤ B2) (hg : w.grownBy w1 v2.ownBlock) : w1.ownsRow B e s v n xs :=
  h.kept hg (by
    by_cases hv1 : v.ownBlock = none
    · exact .inl hv1
    · right
      intro e
      obtain ⟨k, hk⟩ := Option.ne_none_iff_exists'.1 hv1
      have q1 := htop k hk
      have q2 := (h2.lt k (by rw [← e, hk])).1
      omega)
/-- A row stands where another, older row is written. -/
theorem own_new {w w1 : World} {B B2 n m s s2 top : Nat} {e e2 : TypeId} {v v2 : Value} {xs ys : List Value} (h : w.ownsRow B e s v n xs) (hB : top ≤ B) (_h2 : w.ownsRow B2 e2 s2 v2 m ys) (htop : ∀ k, v2.ownBlock = some k → k < top) (hg : w.grownBy w1 v2.ownBlock) : w1.ownsRow B e s v n xs :=
  h.kept hg (by
    by_cases hv1 : v.ownBlock = none
    · exact .inl hv1
    · right
      intro e
      obtain ⟨k, hk⟩ := Option.ne_none_iff_exists'.1 hv1
      have q1 := htop k (by rw [← e, hk])
      have q2 := (h.lt k hk).1
      omega)
theorem own_top {w : World} {B n s : Nat} {e : TypeId} {v : Value} {xs : List Value} (h : w.ownsRow B e s v n xs) : ∀ k, v.ownBlock = some k → k < w.heap.size := fun k hk => (h.lt k hk).2

end Go.Proofs.Ythjeeggejkpjgaa

/-
  Plain facts on decimal numerals. No program is read here.
-/
namespace Go.Proofs.Ythjeeggejkpjgaa
open Go.RowKit
open Go.Lib (decDigits itoa)

theorem rev_ind {α : Type} {P : List α → Prop} (nil : P []) (snoc : ∀ (l : List α) (b : α), P l → P (l ++ [b])) (l : List α) : P l := by
  have h : ∀ r : List α, P r.reverse := by
    intro r
    induction r with
    | nil => exact nil
    | cons b r ih => rw [List.reverse_cons]; exact snoc _ _ ih
  have := h l.reverse
  rwa [List.reverse_reverse] at this

def isd (b : UInt8) : Bool := decide (48 ≤ b.toNat) && decide (b.toNat ≤ 57)
def dv (l : List UInt8) : Nat := l.foldl (fun n b => 10 * n + (b.toNat - 48)) 0
def canon (l : List UInt8) : Bool := l.all isd && !l.isEmpty && (decide (l.length = 1) || l.head? != some 48)
def numl (l : List UInt8) : Option Nat := if canon l = true ∧ dv l ≤ 999999999 then some (dv l) else none

theorem dv_nil : dv [] = 0 := rfl
theorem dv_snoc (l : List UInt8) (b : UInt8) : dv (l ++ [b]) = 10 * dv l + (b.toNat - 48) := by simp [dv]
theorem digit_byte (b : UInt8) (h : isd b = true) : UInt8.ofNat (48 + (b.toNat - 48)) = b := by
  simp only [isd, Bool.and_eq_true, decide_eq_true_eq] at h
  rw [show 48 + (b.toNat - 48) = b.toNat from by omega]
  simp
theorem digit_lt (b : UInt8) (h : isd b = true) : b.toNat - 48 < 10 := by
  simp only [isd, Bool.and_eq_true, decide_eq_true_eq] at h; omega
theorem isd_ofNat (k : Nat) (h : k < 10) : isd (UInt8.ofNat (48 + k)) = true ∧ (UInt8.ofNat (48 + k)).toNat = 48 + k := by
  have e : (UInt8.ofNat (48 + k)).toNat = 48 + k := UInt8.toNat_ofNat_of_lt' (by show 48 + k < 256; omega)
  refine ⟨?_, e⟩
  simp only [isd, e, Bool.and_eq_true, decide_eq_true_eq]; omega

theorem decDigits_small {u : Nat} (h : u < 10) : decDigits u = [UInt8.ofNat (48 + u)] := by rw [decDigits, dif_pos h]
theorem decDigits_big {u : Nat} (h : ¬ u < 10) : decDigits u = decDigits (u / 10) ++ [UInt8.ofNat (48 + u % 10)] := by rw [decDigits, dif_neg h]

theorem decDigits_facts (u : Nat) : dv (decDigits u) = u ∧ (decDigits u).all isd = true ∧ decDigits u ≠ [] ∧ (0 < u → (decDigits u).head? ≠ some 48) := by
  induction u using Nat.strongRecOn with
  | _ u ih =>
    by_cases h : u < 10
    · obtain ⟨h1, h2⟩ := isd_ofNat u h
      rw [decDigits_small h]
      generalize UInt8.ofNat (48 + u) = c at h1 h2 ⊢
      refine ⟨by simp [dv, h2], by simp [h1], by simp, fun hp hh => ?_⟩
      simp only [List.head?_cons, Option.some.injEq] at hh
      have := congrArg UInt8.toNat hh
      rw [h2] at this
      have e48 : (48 : UInt8).toNat = 48 := rfl
      omega
    · obtain ⟨i1, i2, i3, i4⟩ := ih (u / 10) (by omega)
      obtain ⟨h1, h2⟩ := isd_ofNat (u % 10) (by omega)
      rw [decDigits_big h]
      generalize UInt8.ofNat (48 + u % 10) = c at h1 h2 ⊢
      refine ⟨by rw [dv_snoc, i1, h2]; omega, by simp [List.all_append, i2, h1], by simp, fun _ => ?_⟩
      have := i4 (by omega)
      cases hd : decDigits (u / 10) with
      | nil => exact absurd hd i3
      | cons a r => rw [hd] at this; simpa using this

theorem dv_pow : ∀ (l : List UInt8) (a : UInt8), isd a = true → a ≠ 48 → l.all isd = true → 10 ^ l.length ≤ dv (a :: l) := by
  intro l
  induction l using rev_ind with
  | nil =>
    intro a ha h48 _
    simp only [isd, Bool.and_eq_true, decide_eq_true_eq] at ha
    have : a.toNat ≠ 48 := fun e => h48 (UInt8.toNat_inj.1 e)
    simp [dv]; omega
  | snoc l b ih =>
    intro a ha h48 hl
    rw [List.all_append, Bool.and_eq_true] at hl
    have := ih a ha h48 hl.1
    rw [← List.cons_append, dv_snoc, List.length_append, Nat.pow_add]
    simp only [List.length_singleton, Nat.pow_one]
    omega

theorem decDigits_dv : ∀ (l : List UInt8), canon l = true → decDigits (dv l) = l := by
  intro l
  induction l using rev_ind with
  | nil => intro h; simp [canon] at h
  | snoc l b ih =>
    intro h
    simp only [canon, Bool.and_eq_true, List.all_append] at h
    obtain ⟨⟨⟨h1, h2⟩, _⟩, h4⟩ := h
    have hb : isd b = true := by simpa using h2
    rw [dv_snoc]
    cases l with
    | nil =>
      have := digit_lt b hb
      rw [dv_nil, Nat.mul_zero, Nat.zero_add, decDigits_small this, digit_byte b hb]
      rfl
    | cons a r =>
      have ha : a ≠ 48 := by simpa using h4
      simp only [List.all_cons, Bool.and_eq_true] at h1
      have hp := dv_pow r a h1.1 ha h1.2
      have hp1 : 1 ≤ 10 ^ r.length := Nat.one_le_pow _ _ (by omega)
      have hd := digit_lt b hb
      rw [decDigits_big (by omega)]
      have e1 : (10 * dv (a :: r) + (b.toNat - 48)) / 10 = dv (a :: r) := by omega
      have e2 : (10 * dv (a :: r) + (b.toNat - 48)) % 10 = b.toNat - 48 := by omega
      rw [e1, e2, digit_byte b hb, ih]
      simp only [canon, List.all_cons, h1.1, h1.2, Bool.and_eq_true]
      simp [ha]

theorem canon_dec (u : Nat) : canon (decDigits u) = true := by
  obtain ⟨_, h2, h3, h4⟩ := decDigits_facts u
  simp only [canon, h2, Bool.true_and, Bool.and_eq_true]
  refine ⟨by cases hd : decDigits u <;> simp_all, ?_⟩
  by_cases hu : 0 < u
  · simp [h4 hu]
  · have : u = 0 := by omega
    subst this
    rw [decDigits_small (by omega)]; rfl

/-- Of digits alone, not empty: canonical is what the digits of the value give back. -/
theorem canon_iff (l : List UInt8) : canon l = true ↔ decDigits (dv l) = l := by
  constructor
  · exact decDigits_dv l
  · intro h; rw [← h]; exact canon_dec _

theorem numl_long (l : List UInt8) (h : 9 < l.length) : numl l = none := by
  unfold numl
  rw [if_neg]
  rintro ⟨hc, hv⟩
  simp only [canon, Bool.and_eq_true] at hc
  obtain ⟨⟨h1, _⟩, h4⟩ := hc
  cases l with
  | nil => simp at h
  | cons a r =>
    simp only [List.length_cons] at h
    have ha : a ≠ 48 := by
      intro e; subst e
      simp at h4
      subst h4
      simp at h
    simp only [List.all_cons, Bool.and_eq_true] at h1
    have hp := dv_pow r a h1.1 ha h1.2
    have : 10 ^ 9 ≤ 10 ^ r.length := Nat.pow_le_pow_right (by omega) (by omega)
    omega
theorem numl_nil : numl [] = none := rfl
theorem dv_lt_pow : ∀ (l : List UInt8), l.all isd = true → dv l < 10 ^ l.length := by
  intro l
  induction l using rev_ind with
  | nil => intro _; simp [dv]
  | snoc l b ih =>
    intro h
    rw [List.all_append, Bool.and_eq_true] at h
    have := ih h.1
    have hb := digit_lt b (by simpa using h.2)
    rw [dv_snoc, List.length_append, Nat.pow_add]
    simp only [List.length_singleton, Nat.pow_one]
    omega

end Go.Proofs.Ythjeeggejkpjgaa

/-
  Chapter 1's walks: Upper.
-/
namespace Go.Proofs.Ythjeeggejkpjgaa
open Go.RowKit

def upc (b : UInt8) : UInt8 := if 97 ≤ b.toNat ∧ b.toNat ≤ 122 then b - 32 else b
def upper (l : List UInt8) : List UInt8 := l.map upc
theorem upc_hit (b : UInt8) (h1 : 97 ≤ (b.toNat : Int)) (h2 : (b.toNat : Int) ≤ 122) : bv (upc b) = .int .u8 ((b.toNat : Int) - 32) := by
  unfold upc bv
  rw [if_pos (by omega)]
  have : (b - 32).toNat = b.toNat - 32 := by
    rw [UInt8.toNat_sub_of_le]
    · rfl
    · rw [UInt8.le_iff_toNat_le]; show 32 ≤ _; omega
  rw [this]
  congr 1
  omega
theorem upc_hit' (b : UInt8) (h1 : 97 ≤ (b.toNat : Int)) (h2 : (b.toNat : Int) ≤ 122) : bv (upc b) = .int .u8 ((b.toNat : Int) - 97 + 65) := by
  rw [upc_hit b h1 h2]; congr 1; omega
theorem upc_miss (b : UInt8) (h : ¬ (97 ≤ (b.toNat : Int) ∧ (b.toNat : Int) ≤ 122)) : upc b = b := by
  unfold upc
  rw [if_neg (by omega)]

end Go.Proofs.Ythjeeggejkpjgaa

/-
  append(b, s...) of a string onto bytes of the call's own; slices of elements of several cells, read. No program is read here but its table of types.
-/
namespace Go.Proofs.Ythjeeggejkpjgaa
open Go.RowKit

theorem strCells_bv (s : List UInt8) : Lib.strCells ⟨s.toArray⟩ = s.map bv := by simp [Lib.strCells]

/-- The slice value v reads in w as the list l, m cells an element. -/
structure Rd {α : Type} (m : Nat) (enc : α → List Value) (w : World) (v : Value) (l : List α) : Prop where
  ex : ∃ p cap, v = .slice p l.length cap ∧ (l = [] ∨ ∃ b off, p = some ⟨b, off, none⟩ ∧ b < w.heap.size ∧ ∀ i x, l[i]? = some x → ∀ j u, (enc x)[j]? = some u → w.cell? ⟨b, off + i * m + j, none⟩ = some u)

theorem Rd.below {α : Type} {m : Nat} {enc : α → List Value} {w w' : World} {v : Value} {l : List α} (h : Rd m enc w v l) (hb : Below w.heap.size w w') : Rd m enc w' v l := by
  obtain ⟨p, cap, hv, h | ⟨b, off, hp, hlt, hc⟩⟩ := h.ex
  · exact ⟨p, cap, hv, .inl h⟩
  · exact ⟨p, cap, hv, .inr ⟨b, off, hp, Nat.lt_of_lt_of_le hlt hb.size, fun i x hx j u hu => (hb.cell (p := ⟨b, off + i * m + j, none⟩) hlt).trans (hc i x hx j u hu)⟩⟩

theorem Rd.nil {α : Type} {m : Nat} {enc : α → List Value} {w : World} : Rd m enc w (.slice none 0 0) ([] : List α) := ⟨none, 0, rfl, .inl rfl⟩

theorem flat_at {α : Type} {m : Nat} (enc : α → List Value) : ∀ (l : List α), (∀ x, (enc x).length = m) → ∀ (i : Nat) (x : α), l[i]? = some x → ∀ (j : Nat) (u : Value), (enc x)[j]? = some u → (l.flatMap enc)[i * m + j]? = some u
  | [], _, i, x, h, _, _, _ => by simp at h
  | y :: l, hm, 0, x, h, j, u, hj => by
    simp only [List.getElem?_cons_zero, Option.some.injEq] at h
    subst h
    rw [List.flatMap_cons, Nat.zero_mul, Nat.zero_add, List.getElem?_append_left (List.getElem?_eq_some_iff.1 hj).1]
    exact hj
  | y :: l, hm, i + 1, x, h, j, u, hj => by
    simp only [List.getElem?_cons_succ] at h
    have h2 : (i + 1) * m + j = (enc y).length + (i * m + j) := by rw [hm y, Nat.succ_mul]; omega
    rw [List.flatMap_cons, h2, List.getElem?_append_right (by omega), Nat.add_sub_cancel_left]
    exact flat_at enc l hm i x h j u hj

/-- What the call owns reads as the list. -/
theorem Rd.of_own {α : Type} {m : Nat} {enc : α → List Value} {w : World} {B n : Nat} {e : TypeId} {v : Value} {l : List α} (hm : ∀ x, (enc x).length = m) (hn : l.length = n) (h : w.ownsRow B e m v n (l.flatMap enc)) : Rd m enc w v l := by
  rcases h.2 with ⟨hv, h0⟩ | ⟨g, cap, cur, hv, h1, h2, h3⟩
  · subst h0
    obtain rfl := List.eq_nil_of_length_eq_zero hn
    exact ⟨none, 0, by rw [hv]; rfl, .inl rfl⟩
  · subst hn
    subst hv
    refine ⟨_, cap, rfl, .inr ⟨g, 0, rfl, (Array.getElem?_eq_some_iff.1 h2).1, fun i x hx j u hu => ?_⟩⟩
    have hlen : j < m := by rw [← hm x]; exact (List.getElem?_eq_some_iff.1 hu).1
    have hi : i < l.length := (List.getElem?_eq_some_iff.1 hx).1
    have hlt : i * m + j < l.length * m := by
      have h4 := Nat.mul_le_mul_right m (show i + 1 ≤ l.length by omega)
      rw [Nat.succ_mul] at h4
      omega
    rw [Nat.zero_add, h.cellAt (i * m + j) hlt]
    exact flat_at enc l hm i x hx j u hu

theorem flat_len2 {α : Type} {enc : α → List Value} (hm : ∀ x, (enc x).length = 2) : ∀ (l : List α), (l.flatMap enc).length = l.length * 2
  | [] => rfl
  | a :: l => by rw [List.flatMap_cons, List.length_append, flat_len2 hm l, hm a, List.length_cons]; omega

/-- Two cells of an owned row are set, the ones ahead of them are done. -/
theorem own_two {w : World} {B g n c j : Nat} {e : TypeId} {A rest : List Value} (h : w.ownsRow B e 2 (.slice (some ⟨g, 0, none⟩) n c) n (A ++ rest)) (hA : A.length = j * 2) (hj : j < n) (x y : Value) :
    ∃ rest', ((w.setCell ⟨g, j * 2, none⟩ x).setCell ⟨g, j * 2 + 1, none⟩ y).ownsRow B e 2 (.slice (some ⟨g, 0, none⟩) n c) n ((A ++ [x, y]) ++ rest') := by
  have hl : (A ++ rest).length = n * 2 := h.1
  rw [List.length_append, hA] at hl
  obtain ⟨r0, r1, r, hr⟩ : ∃ r0 r1 r, rest = r0 :: r1 :: r := by
    match rest, hl with
    | [], hl => simp at hl; omega
    | [_], hl => simp at hl; omega
    | r0 :: r1 :: r, _ => exact ⟨r0, r1, r, rfl⟩
  subst hr
  have h1 := (h.stored (j * 2) x).1
  have h2 := (h1.stored (j * 2 + 1) y).1
  have e1 : (A ++ r0 :: r1 :: r).set (j * 2) x = A ++ x :: r1 :: r := by rw [List.set_append_right _ _ (by omega), hA, Nat.sub_self]; rfl
  have e2 : (A ++ x :: r1 :: r).set (j * 2 + 1) y = (A ++ [x, y]) ++ r := by rw [List.set_append_right _ _ (by omega), hA, show j * 2 + 1 - j * 2 = 1 by omega]; simp
  rw [e1, e2] at h2
  exact ⟨r, h2⟩
/-- The two cells of element j. -/
theorem own_cells2 {w : World} {B g n c j : Nat} {e : TypeId} {xs : List Value} (h : w.ownsRow B e 2 (.slice (some ⟨g, 0, none⟩) n c) n xs) (hj : j < n) :
    (∃ u, w.cell? ⟨g, j * 2, none⟩ = some u) ∧ (∃ u, w.cell? ⟨g, j * 2 + 1, none⟩ = some u) ∧ w.frozen? ⟨g, j * 2, none⟩ = false ∧ w.frozen? ⟨g, j * 2 + 1, none⟩ = false := by
  have hl : xs.length = n * 2 := h.1
  refine ⟨⟨xs[j * 2]'(by omega), ?_⟩, ⟨xs[j * 2 + 1]'(by omega), ?_⟩, h.frozenAt _, h.frozenAt _⟩
  · rw [h.cellAt (j * 2) (by omega)]; exact List.getElem?_eq_getElem _
  · rw [h.cellAt (j * 2 + 1) (by omega)]; exact List.getElem?_eq_getElem _

end Go.Proofs.Ythjeeggejkpjgaa

/-
  append(row, s...) of a slice that is read, none of its elements included. No program is read here.
-/
namespace Go.Proofs.Ythjeeggejkpjgaa
open Go.RowKit

theorem flat_inv {α : Type} {m : Nat} {enc : α → List Value} (hm : ∀ x, (enc x).length = m) : ∀ (l : List α) (j : Nat) (u : Value), (l.flatMap enc)[j]? = some u → ∃ i x jj, l[i]? = some x ∧ (enc x)[jj]? = some u ∧ j = i * m + jj
  | [], j, u, h => by simp at h
  | a :: l, j, u, h => by
    rw [List.flatMap_cons] at h
    by_cases hj : j < m
    · rw [List.getElem?_append_left (by rw [hm]; exact hj)] at h
      exact ⟨0, a, j, rfl, h, by omega⟩
    · rw [List.getElem?_append_right (by rw [hm]; omega), hm] at h
      obtain ⟨i, x, jj, h1, h2, h3⟩ := flat_inv hm l (j - m) u h
      exact ⟨i + 1, x, jj, by simpa using h1, h2, by rw [Nat.succ_mul]; omega⟩
theorem flat_lenE {α : Type} {enc : α → List Value} {m : Nat} (hm : ∀ x, (enc x).length = m) : ∀ (l : List α), (l.flatMap enc).length = l.length * m
  | [] => by simp
  | a :: l => by rw [List.flatMap_cons, List.length_append, flat_lenE hm l, hm a, List.length_cons, Nat.succ_mul]; omega

section
variable {P : Program}
theorem run_append_none (w : World) (t ty e : TypeId) (i : TypeInfo) (ht : P.underlying t = some (.slice e)) (hi : P.info? e = some i) (base : Option Addr) (n cap c : Nat) (hle : n ≤ cap) :
    (Builtin.append_ #[t, t] ty #[.slice base n cap, .slice none 0 c]).run P w = .ok (.slice base n cap) w := by
  cases base <;> simp [Builtin.append_, run_underlying ht, sizeOf, typeInfo, hi, Builtin.lenOf, Builtin.firstCells, hle, storeCells]

theorem wp_appR {α : Type} {w : World} {o : Oper} {a : Act} {t e : TypeId} {size bytes B : Nat} {K : Act → World → Prop} {Q : Exit → Act → World → Prop} {enc : α → List Value} (E : Elem P t e size bytes) (hm : ∀ x, (enc x).length = size) (h1 : ∀ x, ∀ u ∈ enc x, u.oneCell' = true) (s x : Operand) (ho : o.op = .call { callee := .builtin .append, args := #[s, x], argTypes := #[t, t] })
    (W : World) (v : Value) (n : Nat) (xs : List Value) (hs : a.eval s = v) (hown : w.ownsRow B e size v n xs) (hb : Below B W w) (hB : B ≤ w.heap.size)
    (u : Value) (l : List α) (hx : a.eval x = u) (hu : Rd size enc w u l) (hbytes : (n + l.length) * bytes ≤ 140737488355328) (h63 : n + l.length ≤ 140737488355328)
    (h : ∀ v' w', w'.ownsRow B e size v' (n + l.length) (xs ++ l.flatMap enc) → Below B W w' → w.grownBy w' v.ownBlock → K (a.put o.dst v') w') : o.wp P a w K Q := by
  obtain ⟨ht, ⟨i, z, hi, hz, h2, h3, h4⟩, hp⟩ := E
  obtain ⟨p, c, rfl, hc⟩ := hu.ex
  cases p with
  | none =>
    have hl : l = [] := hc.resolve_right (by rintro ⟨_, _, h, _⟩; cases h)
    subst hl
    have hform : ∃ base cap, v = .slice base n cap ∧ n ≤ cap := by
      rcases hown.2 with ⟨hv, h0⟩ | ⟨g, cap, cur, hv, _, _, hn, _⟩
      · exact ⟨none, 0, by rw [hv, h0], by omega⟩
      · exact ⟨_, cap, hv, hn⟩
    obtain ⟨base, cap, rfl, hle⟩ := hform
    have hr := run_append_none (P := P) w t o.type e i ht hi base n cap c hle
    have hx0 : a.eval x = .slice none 0 c := hx
    unfold Oper.wp execOp
    simp only [ho, resolve, invoke, builtin, Sem.run_bind, Sem.run_pure, Result.andThen_ok, List.map_toArray, List.map_cons, List.map_nil, hs, hx0, hr]
    exact h _ w (by simpa using hown) hb ⟨rfl, rfl, rfl, Nat.le_refl _, fun _ _ _ => rfl⟩
  | some ad =>
    refine wp_append_own w s x t ho B e i z size bytes ht hi hz h2 h3 h4 hp v n xs hs hown ad l.length c (l.flatMap enc) hx (flat_lenE hm l) ?_ ?_ (by unfold maxLen; omega) hbytes hB ?_
    · intro j u hj
      obtain ⟨i, x, jj, h5, h6, rfl⟩ := flat_inv hm l j u hj
      rcases hc with hl | ⟨b, off, hpp, hlt, hcc⟩
      · rw [hl] at h5; simp at h5
      · injection hpp with hpp
        subst hpp
        have := hcc i x h5 jj u h6
        have hadd : (⟨b, off, none⟩ : Addr).add (i * size + jj) = ⟨b, off + i * size + jj, none⟩ := by
          simp only [Addr.add_lit, Nat.add_assoc]
        rw [hadd]
        exact this
    · intro u hu
      obtain ⟨x, _, hx⟩ := List.mem_flatMap.1 hu
      exact h1 x u hx
    · intro v' w' k1 k2 _
      exact h v' w' k1 (hb.grown k2 hB (fun k hk => (hown.lt k hk).1)) k2
end

end Go.Proofs.Ythjeeggejkpjgaa

