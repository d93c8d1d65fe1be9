/-
  Sb: Ga Gb (what the claim needs of them).
-/
import Derived.Test.YtbfgdbpfecffcaaGreatDoorRows
import Derived.WalkKit
import Derived.WalkSpells
import Derived.WalkLawsBesides
import Derived.Laws.IdiomStrings
import Derived.Lib.Hide
import Derived.Deep.AppendLies
import Derived.OrdersHeld
import Derived.Lib.ItoaNum
import Derived.Lib.ItoaMem
import Derived.Lib.AppendStr
import Derived.Lib.ItoaLen
import Derived.Lib.Strings

namespace Go.Proofs.YtbfgdbpfecffcaaGreatDoor
open Go.RowKit

/-- A byte as a value. -/
abbrev bv (b : UInt8) : Value := .int .u8 (b.toNat : Int)

/-- Block g holds the cells xs from its head on, none of them frozen. -/
structure Row (w : World) (g : Nat) (xs : List Value) : Prop where
  cell : ∀ j, j < xs.length → w.cell? ⟨g, j, none⟩ = xs[j]?
  free : ∀ j, j < xs.length → w.frozen? ⟨g, j, none⟩ = false

theorem Row.drew {w : World} {g : Nat} {xs : List Value} (h : Row w g xs) : Row w.drew g xs := ⟨h.cell, h.free⟩
theorem Row.lt {w : World} {g : Nat} {xs : List Value} (h : Row w g xs) (hne : 0 < xs.length) : g < w.heap.size := by
  have h1 := h.cell 0 hne
  rw [List.getElem?_eq_getElem hne] at h1
  exact World.block_lt_of_cell? w _ h1

theorem Row.set {w : World} {g : Nat} {xs : List Value} (h : Row w g xs) (k : Nat) (hk : k < xs.length) (v : Value) : Row (w.setCell ⟨g, k, none⟩ v) g (xs.set k v) := by
  have hc := h.cell k hk
  rw [List.getElem?_eq_getElem hk] at hc
  constructor
  · intro j hj
    rw [List.length_set] at hj
    by_cases e : j = k
    · subst e
      rw [World.cell?_setCell_same w _ _ hc]
      simp [hk]
    · rw [World.cell?_setCell_other w _ _ _ (by intro hh; injection hh with _ h2; exact e h2.symm)]
      rw [h.cell j hj, List.getElem?_set_ne (Ne.symm e)]
  · intro j hj
    rw [List.length_set] at hj
    have := h.free j hj
    simpa using this

theorem getElem_bv (l : List UInt8) (j : Nat) (hj : j < l.length) : (l.map bv)[j]? = some (.int .u8 (l[j].toNat : Int)) := by simp [bv, hj]

theorem conv_back {P : Program} {w : World} {g : Nat} {l : List UInt8} (h : Row w g (l.map bv)) (src dst e : TypeId) (n cap : Nat) (hn : l.length = n) (hs : P.underlying src = some (.slice e)) (he : P.underlying e = some (.int .u8)) (hd : P.underlying dst = some .string) :
    (convert src dst (.slice (some ⟨g, 0, none⟩) n cap)).run P w = .ok (.string ⟨l.toArray⟩) w := by
  subst hn
  refine run_convert_bytes_back w src dst e ⟨g, 0, none⟩ cap l hs he hd (fun j hj => ?_)
  have hj' : j < (l.map bv).length := by simpa using hj
  have := h.cell j hj'
  rw [getElem_bv _ _ hj] at this
  rw [Addr.add_lit]
  simpa using this

theorem take_str (s : ByteArray) (k : Nat) (h : k < s.size) : s.data.toList.take (k + 1) = s.data.toList.take k ++ [s[k]] := by
  rw [List.take_succ_eq_append_getElem (by simpa using h)]; rfl
theorem take_str_all (s : ByteArray) : s.data.toList.take s.size = s.data.toList := List.take_of_length_le (by simp)

theorem bv_ofNat {n : Nat} (h : n < 256) : bv (UInt8.ofNat n) = .int .u8 (n : Int) := by
  show Value.int .u8 ((UInt8.ofNat n).toNat : Int) = _
  rw [UInt8.toNat_ofNat_of_lt' (by simpa using h)]

/-- What the tables say of a slice type t of elements e: cells and bytes of an element. -/
structure Elem (P : Program) (t e : TypeId) (size bytes : Nat) : Prop where
  under : P.underlying t = some (.slice e)
  info : ∃ i z, P.info? e = some i ∧ i.zero = some z ∧ i.size = size ∧ i.bytes = bytes ∧ z.cells.size = size
  pos : 0 < size

theorem Elem.mk' {P : Program} {t e : TypeId} {size bytes : Nat} {z : Value} (h : P.underlying t = some (.slice e)) (hi : (P.info? e).map (fun i => (i.zero, i.size, i.bytes)) = some (some z, size, bytes)) (hz : z.cells.size = size) (hp : 0 < size) :
    Elem P t e size bytes := by
  obtain ⟨i, h1, h2, h3, h4⟩ := info_parts hi
  exact ⟨h, ⟨i, z, h1, h2, h3, h4, hz⟩, hp⟩

section
variable {P : Program} {w : World} {ops : Array Oper} {rest : List Oper} {o : Oper} {a : Act} {t e : TypeId} {size bytes B : Nat}

/-- The same at the operation alone. -/
theorem wp_app {K : Act → World → Prop} {Q : Exit → Act → World → Prop} (E : Elem P t e size bytes) (s x : Operand) (ho : o.op = .call { callee := .builtin .append, args := #[s, x], argTypes := #[t, t] })
    (W : World) (v : Value) (n : Nat) (xs : List Value) (hs : a.eval s = v) (hown : w.ownsRow B e size v n xs) (hb : Below B W w) (hB : B ≤ w.heap.size)
    (ad : Addr) (m c : Nat) (news : List Value) (hx : a.eval x = .slice (some ad) m c) (hl : news.length = m * size) (hnews : ∀ j u, news[j]? = some u → w.cell? (ad.add j) = some u) (h1 : ∀ u ∈ news, u.oneCell' = true)
    (hm : 0 < m) (hbytes : (n + m) * bytes ≤ 140737488355328) (h63 : n + m ≤ 140737488355328)
    (h : ∀ g cap w', w'.ownsRow B e size (.slice (some ⟨g, 0, none⟩) (n + m) cap) (n + m) (xs ++ news) → Below B W w' → w.grownBy w' v.ownBlock → (v.ownBlock = some g ∨ g = w.heap.size) → g < w'.heap.size →
      K (a.put o.dst (.slice (some ⟨g, 0, none⟩) (n + m) cap)) w') : o.wp P a w K Q := by
  obtain ⟨ht, ⟨i, z, hi, hz, h2, h3, h4⟩, hp⟩ := E
  refine wp_append_lies w s x t ho B e i z size bytes ht hi hz h2 h3 h4 hp v n xs hs hown ad m c news hx hl hnews h1 hm (by unfold maxLen; omega) hbytes hB _ rfl ?_
  intro g cap w' k1 k2 k3 k4
  exact h g cap w' k1 (hb.grown k2 hB (fun k hk => (hown.lt k hk).1)) k2 k3 k4

/-- Appending what lies in a block that was made just now. -/
theorem wp_app1 {K : Act → World → Prop} {Q : Exit → Act → World → Prop} (E : Elem P t e size bytes) (s x : Operand) (ho : o.op = .call { callee := .builtin .append, args := #[s, x], argTypes := #[t, t] })
    (W w0 : World) (v : Value) (n : Nat) (xs : List Value) (hs : a.eval s = v) (hown : w0.ownsRow B e size v n xs) (hb : Below B W w0) (hB : B ≤ w0.heap.size)
    (cs : Array Value) (hw : w = (w0.alloc (.cells cs e)).drew ∨ w = w0.alloc (.cells cs e)) (m c : Nat) (hx : a.eval x = .slice (some ⟨w0.heap.size, 0, none⟩) m c) (hl : cs.size = m * size) (h1 : cs.all (·.oneCell') = true)
    (hm : 0 < m) (hbytes : (n + m) * bytes ≤ 140737488355328) (h63 : n + m ≤ 140737488355328)
    (h : ∀ g cap w', w'.ownsRow B e size (.slice (some ⟨g, 0, none⟩) (n + m) cap) (n + m) (xs ++ cs.toList) → Below B W w' → w0.grownBy w' v.ownBlock → (v.ownBlock = some g ∨ w0.heap.size ≤ g) → g < w'.heap.size →
      K (a.put o.dst (.slice (some ⟨g, 0, none⟩) (n + m) cap)) w') : o.wp P a w K Q := by
  have hsz : w.heap.size = w0.heap.size + 1 := by rcases hw with rfl | rfl <;> simp
  have hblk : w.heap[w0.heap.size]? = some (.cells cs e (0, 0)) := by
    rcases hw with rfl | rfl <;> exact heap_alloc_new w0 _
  have hb' : Below B W w := by
    rcases hw with rfl | rfl
    · exact (hb.alloc hB _).drew
    · exact hb.alloc hB _
  have hown' : w.ownsRow B e size v n xs := by
    rcases hw with rfl | rfl
    · exact (hown.alloc _).drew
    · exact hown.alloc _
  have hold : ∀ k, k < w0.heap.size → w.heap[k]? = w0.heap[k]? := by
    intro k hk
    rcases hw with rfl | rfl
    · exact Below.heap_alloc w0 _ k hk
    · exact Below.heap_alloc w0 _ k hk
  have hgen : w.os = w0.os ∧ w.tape = w0.tape ∧ w.output = w0.output := by rcases hw with rfl | rfl <;> exact ⟨rfl, rfl, rfl⟩
  refine wp_app E s x ho W v n xs hs hown' hb' (by omega) ⟨w0.heap.size, 0, none⟩ m c cs.toList hx (by simpa using hl) (World.news_of_block hblk) (fun u hu => by
    simp only [Array.all_eq_true'] at h1
    exact h1 u (by simpa using hu)) hm hbytes h63 ?_
  intro g cap w' k1 k2 k3 k4 k5
  refine h g cap w' k1 k2 ⟨k3.os.trans hgen.1, k3.tape.trans hgen.2.1, k3.output.trans hgen.2.2, by have := k3.size; omega, fun k hk hne => (k3.block k (by omega) hne).trans (hold k hk)⟩ ?_ k5
  rcases k4 with k4 | k4
  · exact .inl k4
  · exact .inr (by omega)

/-- The same in the list of a region that does not draw. -/
theorem wpList_app1 {Q : Exit → Act → World → Prop} (E : Elem P t e size bytes) (hgd : o.guard = none) (s x : Operand) (ho : o.op = .call { callee := .builtin .append, args := #[s, x], argTypes := #[t, t] })
    (W w0 : World) (v : Value) (n : Nat) (xs : List Value) (hs : a.eval s = v) (hown : w0.ownsRow B e size v n xs) (hb : Below B W w0) (hB : B ≤ w0.heap.size)
    (cs : Array Value) (hw : w = (w0.alloc (.cells cs e)).drew ∨ w = w0.alloc (.cells cs e)) (m c : Nat) (hx : a.eval x = .slice (some ⟨w0.heap.size, 0, none⟩) m c) (hl : cs.size = m * size) (h1 : cs.all (·.oneCell') = true)
    (hm : 0 < m) (hbytes : (n + m) * bytes ≤ 140737488355328) (h63 : n + m ≤ 140737488355328)
    (h : ∀ g cap w', w'.ownsRow B e size (.slice (some ⟨g, 0, none⟩) (n + m) cap) (n + m) (xs ++ cs.toList) → Below B W w' → w0.grownBy w' v.ownBlock → (v.ownBlock = some g ∨ w0.heap.size ≤ g) → g < w'.heap.size →
      wpList P ops Q rest (a.put o.dst (.slice (some ⟨g, 0, none⟩) (n + m) cap)) w') : wpList P ops Q (o :: rest) a w :=
  wpList_plain hgd fun _ hK => wp_app1 E s x ho W w0 v n xs hs hown hb hB cs hw m c hx hl h1 hm hbytes h63 fun g cap w' k1 k2 k3 k4 k5 => hK _ _ (h g cap w' k1 k2 k3 k4 k5)

end

theorem run_convert_bytes_zero0 {P : Program} (w : World) (src dst e : TypeId) (hs : P.underlying src = some (.slice e)) (he : P.underlying e = some (.int .u8)) (hd : P.underlying dst = some .string) :
    (convert src dst (.slice none 0 0)).run P w = .ok (.string ⟨#[]⟩) w := by
  rw [run_convert_bytes_string w src dst e none 0 0 hs he hd]
  rfl

/-- string(b) of a slice of bytes that the call owns. -/
theorem conv_own {P : Program} {w : World} {B n : Nat} {v : Value} {l : List UInt8} (src dst e : TypeId) (h : w.ownsRow B e 1 v n (l.map bv)) (hn : l.length = n) (hs : P.underlying src = some (.slice e)) (he : P.underlying e = some (.int .u8)) (hd : P.underlying dst = some .string) :
    (convert src dst v).run P w = .ok (.string ⟨l.toArray⟩) w := by
  rcases h.2 with ⟨rfl, h0⟩ | ⟨g, cap, cur, hv, hb, hg, hnc, hcm, hsz, htk⟩
  · subst h0
    obtain rfl := List.eq_nil_of_length_eq_zero hn
    exact run_convert_bytes_zero0 w src dst e hs he hd
  · subst hv
    exact conv_back (w := w) (g := g) (l := l) ⟨fun j hj => h.cellAt j (by rw [List.length_map] at hj; omega), fun j _ => h.frozenAt j⟩ src dst e n cap hn hs he hd

theorem Tryz.el_u8 : Elem Tryz.prog 22 5 1 1 := Elem.mk' (z := .int .u8 0) Tryz.underlying22 (by kernel_rfl) rfl (by omega)
theorem Tryz.el_string : Elem Tryz.prog 126 9 1 16 := Elem.mk' (z := .string ⟨#[]⟩) Tryz.underlying126 (by kernel_rfl) rfl (by omega)

def pickOp : List Oper → Nat → Oper
  | [], _ => { dst := none, op := .move (.tmp 0), type := 0, pos := "", after := #[], guard := none }
  | o :: _, 0 => o
  | _ :: l, n + 1 => pickOp l n
theorem pickOp_zero (o : Oper) (l : List Oper) : pickOp (o :: l) 0 = o := rfl
theorem pickOp_succ (o : Oper) (l : List Oper) (n : Nat) : pickOp (o :: l) (n + 1) = pickOp l n := rfl
theorem pickOp_get : ∀ (l : List Oper) (n : Nat), n < l.length → l[n]? = some (pickOp l n)
  | o :: l, 0, _ => rfl
  | o :: l, n + 1, h => by simpa [pickOp] using pickOp_get l n (by simpa using h)

/-- The order's check: a floating operation is free and may come up; any other one is the only one that may come up; at the end none is left. -/
def ordB (ops : Array Oper) : List (Nat × Bool) → Array Bool → Bool
  | [], listed => (Region.ready .any ops listed).isEmpty
  | (i, true) :: r, listed => decide (i < ops.size) && Region.free .any ops listed i && (Region.ready .any ops listed).contains i && ordB ops r (listed.setIfInBounds i true)
  | (i, false) :: r, listed => decide (i < ops.size) && Region.ready .any ops listed == [i] && ordB ops r (listed.setIfInBounds i true)

def OrdH (P : Program) (ops : Array Oper) (Q : Exit → Act → World → Prop) (S : World → Prop) (idx : List (Nat × Bool)) (os : List Oper) (a : Act) (w : World) : Prop :=
  Region.noSelect ops = true → idx.map (fun x => pickOp ops.toList x.1) = os → ∀ listed, ordB ops idx listed = true → wpAnyH P .any ops Q S idx.length listed a w

section
variable {P : Program} {ops : Array Oper} {Q : Exit → Act → World → Prop} {S : World → Prop} {a : Act} {w : World} {i : Nat} {r : List (Nat × Bool)} {o : Oper} {os : List Oper}

theorem ord_start {id : Nat} (idx : List (Nat × Bool)) (S : World → Prop) (hm : P.follows .mixedOrders = true) (hs : Region.noSelect ops = true) (hl : idx.length = ops.size)
    (hB : ordB ops idx (Array.replicate ops.size false) = true)
    (h : ∀ ops', Hid (ops' = ops) → OrdH P ops' Q S idx (idx.map fun x => pickOp ops.toList x.1) a w.drew) : (Code.region id ops true).wp P Q a w :=
  wp_region_held hm (by have := h ops rfl hs rfl _ hB; rw [hl] at this; exact this)

theorem get_op (hi : i < ops.size) (ho : pickOp ops.toList i = o) : ops[i]? = some o := by
  have := pickOp_get ops.toList i (by simpa using hi)
  rw [ho] at this
  simpa using this

/-- A floating operation. -/
theorem ord_flo (v : Value) (hQ : ∀ c a w, Q (.panic c) (a.put o.dst v) w → Q (.panic c) a w) (hw : Region.wanted o (yielded ops a.tmps) = true)
    (hy : ∀ w, S w → (execOp a.eval o).run P w = .ok (.value v) w) (hS : S w)
    (h : OrdH P ops Q S r os (a.put o.dst v) w) : OrdH P ops Q S ((i, true) :: r) (o :: os) a w := by
  intro hs ho listed hB
  simp only [List.map_cons, List.cons.injEq] at ho
  simp only [ordB, Bool.and_eq_true, decide_eq_true_eq] at hB
  obtain ⟨⟨⟨h1, h2⟩, h3⟩, h4⟩ := hB
  exact wpAnyH_take (get_op h1 ho.1) hs h2 h3 hQ (.inl ⟨hw, hy⟩) hS (h hs ho.2 _ h4)

/-- An operation whose guard says no. -/
theorem ord_not (hQ : ∀ c a w, Q (.panic c) (a.put o.dst undef) w → Q (.panic c) a w) (hw : Region.wanted o (yielded ops a.tmps) = false) (hS : S w)
    (h : OrdH P ops Q S r os (a.put o.dst undef) w) : OrdH P ops Q S ((i, true) :: r) (o :: os) a w := by
  intro hs ho listed hB
  simp only [List.map_cons, List.cons.injEq] at ho
  simp only [ordB, Bool.and_eq_true, decide_eq_true_eq] at hB
  obtain ⟨⟨⟨h1, h2⟩, h3⟩, h4⟩ := hB
  exact wpAnyH_take (get_op h1 ho.1) hs h2 h3 hQ (.inr ⟨hw, rfl⟩) hS (h hs ho.2 _ h4)

/-- Any other operation. -/
theorem ord_ev (hw : Region.wanted o (yielded ops a.tmps) = true) (h : o.wp P a w (fun a' w' => S w' ∧ OrdH P ops Q S r os a' w') Q) : OrdH P ops Q S ((i, false) :: r) (o :: os) a w := by
  intro hs ho listed hB
  simp only [List.map_cons, List.cons.injEq] at ho
  simp only [ordB, Bool.and_eq_true, decide_eq_true_eq, beq_iff_eq] at hB
  obtain ⟨⟨h1, h2⟩, h4⟩ := hB
  refine wpAnyH_all h2 (by simp) (fun j hj => ?_)
  simp only [List.mem_singleton] at hj
  subst hj
  unfold wpOp
  simp only [get_op h1 ho.1, hw, if_true]
  exact .inl (Oper.wp_mono (fun a' w' hh => ⟨hh.1, hh.2 hs ho.2 _ h4⟩) h)

theorem ord_evnot (hS : S w) (hw : Region.wanted o (yielded ops a.tmps) = false) (h : OrdH P ops Q S r os (a.put o.dst undef) w) : OrdH P ops Q S ((i, false) :: r) (o :: os) a w := by
  intro hs ho listed hB
  simp only [List.map_cons, List.cons.injEq] at ho
  simp only [ordB, Bool.and_eq_true, decide_eq_true_eq, beq_iff_eq] at hB
  obtain ⟨⟨h1, h2⟩, h4⟩ := hB
  refine wpAnyH_all h2 (by simp) (fun j hj => ?_)
  simp only [List.mem_singleton] at hj
  subst hj
  unfold wpOp
  simp only [get_op h1 ho.1, hw, Bool.false_eq_true, if_false]
  exact ⟨hS, h hs ho.2 _ h4⟩

theorem ord_done (h : Q .normal a w) : OrdH P ops Q S [] [] a w := by
  intro _ _ listed hB
  simp only [ordB, List.isEmpty_iff] at hB
  exact wpAnyH_done hB h _

end

theorem get_of {ops' ops : Array Oper} (h : Hid (ops' = ops)) (i : Nat) : ops'[i]? = ops[i]? := by rw [h.out]

inductive OTree where
  | nil : OTree
  | flo : Nat → OTree → OTree
  | ev : Nat → OTree → OTree
  | fork : Nat → OTree → Nat → OTree → OTree
def OTree.len : OTree → Nat
  | .nil => 0
  | .flo _ r => r.len + 1
  | .ev _ r => r.len + 1
  | .fork _ r _ _ => r.len + 1
def ordT (ops : Array Oper) : OTree → Array Bool → Bool
  | .nil, listed => (Region.ready .any ops listed).isEmpty
  | .flo i r, listed => Region.free .any ops listed i && (Region.ready .any ops listed).contains i && ordT ops r (listed.setIfInBounds i true)
  | .ev i r, listed => Region.ready .any ops listed == [i] && ordT ops r (listed.setIfInBounds i true)
  | .fork i r j q, listed => Region.ready .any ops listed == [i, j] && r.len == q.len && ordT ops r (listed.setIfInBounds i true) && ordT ops q (listed.setIfInBounds j true)

def OrdT (P : Program) (ops : Array Oper) (Q : Exit → Act → World → Prop) (S : World → Prop) (t : OTree) (a : Act) (w : World) : Prop :=
  Region.noSelect ops = true → ∀ listed, ordT ops t listed = true → wpAnyH P .any ops Q S t.len listed a w

section
variable {P : Program} {ops : Array Oper} {Q : Exit → Act → World → Prop} {S : World → Prop} {a : Act} {w : World} {i j : Nat} {r q : OTree}

theorem ordT_start {id : Nat} (t : OTree) (S : World → Prop) (hm : P.follows .mixedOrders = true) (hs : Region.noSelect ops = true) (hl : t.len = ops.size)
    (hB : ordT ops t (Array.replicate ops.size false) = true)
    (h : ∀ ops', Hid (ops' = ops) → OrdT P ops' Q S t a w.drew) : (Code.region id ops true).wp P Q a w :=
  wp_region_held hm (by have := h ops rfl hs _ hB; rw [hl] at this; exact this)

theorem ordT_flo (o : Oper) (hi : ops[i]? = some o) (v : Value) (hQ : ∀ c a w, Q (.panic c) (a.put o.dst v) w → Q (.panic c) a w) (hw : Region.wanted o (yielded ops a.tmps) = true)
    (hy : ∀ w, S w → (execOp a.eval o).run P w = .ok (.value v) w) (hS : S w) (h : OrdT P ops Q S r (a.put o.dst v) w) : OrdT P ops Q S (.flo i r) a w := by
  intro hs listed hB
  simp only [ordT, Bool.and_eq_true] at hB
  obtain ⟨⟨h2, h3⟩, h4⟩ := hB
  exact wpAnyH_take hi hs h2 h3 hQ (.inl ⟨hw, hy⟩) hS (h hs _ h4)

theorem ordT_ev (o : Oper) (hi : ops[i]? = some o) (hw : Region.wanted o (yielded ops a.tmps) = true) (h : o.wp P a w (fun a' w' => S w' ∧ OrdT P ops Q S r a' w') Q) : OrdT P ops Q S (.ev i r) a w := by
  intro hs listed hB
  simp only [ordT, Bool.and_eq_true, beq_iff_eq] at hB
  obtain ⟨h2, h4⟩ := hB
  refine wpAnyH_all h2 (by simp) (fun k hk => ?_)
  simp only [List.mem_singleton] at hk
  subst hk
  unfold wpOp
  simp only [hi, hw, if_true]
  exact .inl (Oper.wp_mono (fun a' w' hh => ⟨hh.1, hh.2 hs _ h4⟩) h)

theorem ordT_fork (o o2 : Oper) (hi : ops[i]? = some o) (hj : ops[j]? = some o2) (hw : Region.wanted o (yielded ops a.tmps) = true) (hw2 : Region.wanted o2 (yielded ops a.tmps) = true)
    (h : o.wp P a w (fun a' w' => S w' ∧ OrdT P ops Q S r a' w') Q) (h2 : o2.wp P a w (fun a' w' => S w' ∧ OrdT P ops Q S q a' w') Q) : OrdT P ops Q S (.fork i r j q) a w := by
  intro hs listed hB
  simp only [ordT, Bool.and_eq_true, beq_iff_eq] at hB
  obtain ⟨⟨⟨h3, h6⟩, h4⟩, h5⟩ := hB
  refine wpAnyH_all h3 (by simp) (fun k hk => ?_)
  simp only [List.mem_cons, List.not_mem_nil, or_false] at hk
  rcases hk with rfl | rfl
  · unfold wpOp
    simp only [hi, hw, if_true]
    exact .inl (Oper.wp_mono (fun a' w' hh => ⟨hh.1, hh.2 hs _ h4⟩) h)
  · unfold wpOp
    simp only [hj, hw2, if_true]
    refine .inl (Oper.wp_mono (fun a' w' hh => ⟨hh.1, ?_⟩) h2)
    have := hh.2 hs _ h5
    rwa [← h6] at this

theorem ordT_done (h : Q .normal a w) : OrdT P ops Q S .nil a w := by
  intro _ listed hB
  simp only [ordT, List.isEmpty_iff] at hB
  exact wpAnyH_done hB h _

end

section
variable {P : Program} {ops : Array Oper} {Q : Exit → Act → World → Prop} {S : World → Prop} {a : Act} {w : World} {i j k : Nat} {r : OTree}

/-- The walk's second half, closed until it is asked for. -/
def LateK (P : Program) (ops : Array Oper) (Q : Exit → Act → World → Prop) (S T : World → Prop) (ok : Oper) (r : OTree) (a1 : Act) (w1 : World) : Prop :=
  Region.wanted ok (yielded ops a1.tmps) = true ∧ ok.wp P a1 w1 (fun a2 w2 => (T w2 ∧ S w2) ∧ OrdT P ops Q S r a2 w2) Q
theorem LateK.of {ok : Oper} {T : World → Prop} {a1 : Act} {w1 : World} (h1 : Region.wanted ok (yielded ops a1.tmps) = true) (h2 : ok.wp P a1 w1 (fun a2 w2 => (T w2 ∧ S w2) ∧ OrdT P ops Q S r a2 w2) Q) : LateK P ops Q S T ok r a1 w1 := ⟨h1, h2⟩

end

/-- A string value out of its bytes. -/
abbrev sv (l : List UInt8) : Value := .string ⟨l.toArray⟩
theorem sv_data (s : ByteArray) : sv s.data.toList = .string s := by cases s; simp [sv]

/-- The slice value v reads in w as the list l, an element a cell. -/
structure Rd1 {α : Type} (enc : α → Value) (w : World) (v : Value) (l : List α) : Prop where
  ex : ∃ p cap, v = .slice p l.length cap ∧ (l = [] ∨ ∃ b off, p = some ⟨b, off, none⟩ ∧ b < w.heap.size ∧ ∀ i x, l[i]? = some x → w.cell? ⟨b, off + i, none⟩ = some (enc x))

theorem Rd1.below {α : Type} {enc : α → Value} {w w' : World} {v : Value} {l : List α} (h : Rd1 enc w v l) (hb : Below w.heap.size w w') : Rd1 enc w' v l := by
  obtain ⟨p, cap, hv, h | ⟨b, off, hp, hlt, hc⟩⟩ := h.ex
  · exact ⟨p, cap, hv, .inl h⟩
  · exact ⟨p, cap, hv, .inr ⟨b, off, hp, Nat.lt_of_lt_of_le hlt hb.size, fun i x hx => (hb.cell (p := ⟨b, off + i, none⟩) hlt).trans (hc i x hx)⟩⟩

theorem ownsRow_below {w w' : World} {B n size : Nat} {e : TypeId} {v : Value} {xs : List Value} (h : w.ownsRow B e size v n xs) (hb : Below w.heap.size w w') : w'.ownsRow B e size v n xs := by
  refine ⟨h.1, ?_⟩
  rcases h.2 with h0 | ⟨g, cap, cur, hv, h1, h2, h3⟩
  · exact .inl h0
  · exact .inr ⟨g, cap, cur, hv, h1, (hb.block g (Array.getElem?_eq_some_iff.1 h2).1).trans h2, h3⟩

theorem Rd1.of_own {α : Type} {enc : α → Value} {w : World} {B n : Nat} {e : TypeId} {v : Value} {l : List α} (h : w.ownsRow B e 1 v n (l.map enc)) : Rd1 enc w v l := by
  have hn : l.length = n := by have := h.1; simpa using this
  rcases h.2 with ⟨hv, h0⟩ | ⟨g, cap, cur, hv, h1, h2, h3⟩
  · subst h0
    have : l = [] := List.eq_nil_of_length_eq_zero hn
    subst this
    exact ⟨none, 0, by rw [hv]; rfl, .inl rfl⟩
  · subst hn
    subst hv
    refine ⟨_, cap, rfl, .inr ⟨g, 0, rfl, (Array.getElem?_eq_some_iff.1 h2).1, fun i x hx => ?_⟩⟩
    have hi : i < l.length := (List.getElem?_eq_some_iff.1 hx).1
    rw [Nat.zero_add, h.cellAt i (by omega), List.getElem?_map, hx]
    rfl

theorem Rd1.nil {α : Type} {enc : α → Value} {w : World} : Rd1 enc w (.slice none 0 0) ([] : List α) := ⟨none, 0, rfl, .inl rfl⟩

theorem grown_below {w w1 w2 : World} {row : Option Nat} (h : w.grownBy w1 row) (hb : Below w1.heap.size w1 w2) : w.grownBy w2 row :=
  ⟨hb.os.trans h.os, hb.tape.trans h.tape, hb.output.trans h.output, Nat.le_trans h.size hb.size, fun k hk hne => (hb.block k (Nat.lt_of_lt_of_le hk h.size)).trans (h.block k hk hne)⟩
theorem grown_grown {w w1 w2 : World} {row : Option Nat} (h : w.grownBy w1 row) (hg : w1.grownBy w2 row) : w.grownBy w2 row :=
  ⟨hg.os.trans h.os, hg.tape.trans h.tape, hg.output.trans h.output, Nat.le_trans h.size hg.size, fun k hk hne => (hg.block k (Nat.lt_of_lt_of_le hk h.size) hne).trans (h.block k hk hne)⟩
theorem below_grown {w w1 w2 : World} {row : Option Nat} {B : Nat} (h : Below B w w1) (hg : w1.grownBy w2 row) (hB : B ≤ w1.heap.size) (hr : ∀ k, row = some k → B ≤ k) : Below B w w2 := h.grown hg hB hr

/-- What holds of a memory holds of every one that lies over it. -/
def Keeps (G : World → Prop) : Prop := ∀ w w' : World, G w → Below w.heap.size w w' → G w'
theorem keeps_true : Keeps (fun _ => True) := fun _ _ _ _ => trivial
theorem Keeps.and {G K : World → Prop} (hG : Keeps G) (hK : Keeps K) : Keeps (fun W => G W ∧ K W) := fun w w' h hb => ⟨hG w w' h.1 hb, hK w w' h.2 hb⟩

end Go.Proofs.YtbfgdbpfecffcaaGreatDoor

namespace Go.Proofs.YtbfgdbpfecffcaaGreatDoor
open Go.RowKit
open Go.Lib (decDigits itoa)

/-- The slice value v reads in w as the list l, m cells an element. -/
structure Rd {α : Type} (m : Nat) (enc : α → List Value) (w : World) (v : Value) (l : List α) : Prop where
  ex : ∃ p cap, v = .slice p l.length cap ∧ (l = [] ∨ ∃ b off, p = some ⟨b, off, none⟩ ∧ b < w.heap.size ∧ ∀ i x, l[i]? = some x → ∀ j u, (enc x)[j]? = some u → w.cell? ⟨b, off + i * m + j, none⟩ = some u)

theorem Rd.below {α : Type} {m : Nat} {enc : α → List Value} {w w' : World} {v : Value} {l : List α} (h : Rd m enc w v l) (hb : Below w.heap.size w w') : Rd m enc w' v l := by
  obtain ⟨p, cap, hv, h | ⟨b, off, hp, hlt, hc⟩⟩ := h.ex
  · exact ⟨p, cap, hv, .inl h⟩
  · exact ⟨p, cap, hv, .inr ⟨b, off, hp, Nat.lt_of_lt_of_le hlt hb.size, fun i x hx j u hu => (hb.cell (p := ⟨b, off + i * m + j, none⟩) hlt).trans (hc i x hx j u hu)⟩⟩

theorem Rd.nil {α : Type} {m : Nat} {enc : α → List Value} {w : World} : Rd m enc w (.slice none 0 0) ([] : List α) := ⟨none, 0, rfl, .inl rfl⟩

theorem flat_at {α : Type} {m : Nat} (enc : α → List Value) : ∀ (l : List α), (∀ x, (enc x).length = m) → ∀ (i : Nat) (x : α), l[i]? = some x → ∀ (j : Nat) (u : Value), (enc x)[j]? = some u → (l.flatMap enc)[i * m + j]? = some u
  | [], _, i, x, h, _, _, _ => by simp at h
  | y :: l, hm, 0, x, h, j, u, hj => by
    simp only [List.getElem?_cons_zero, Option.some.injEq] at h
    subst h
    rw [List.flatMap_cons, Nat.zero_mul, Nat.zero_add, List.getElem?_append_left (List.getElem?_eq_some_iff.1 hj).1]
    exact hj
  | y :: l, hm, i + 1, x, h, j, u, hj => by
    simp only [List.getElem?_cons_succ] at h
    have h2 : (i + 1) * m + j = (enc y).length + (i * m + j) := by rw [hm y, Nat.succ_mul]; omega
    rw [List.flatMap_cons, h2, List.getElem?_append_right (by omega), Nat.add_sub_cancel_left]
    exact flat_at enc l hm i x h j u hj

/-- What the call owns reads as the list. -/
theorem Rd.of_own {α : Type} {m : Nat} {enc : α → List Value} {w : World} {B n : Nat} {e : TypeId} {v : Value} {l : List α} (hm : ∀ x, (enc x).length = m) (hn : l.length = n) (h : w.ownsRow B e m v n (l.flatMap enc)) : Rd m enc w v l := by
  rcases h.2 with ⟨hv, h0⟩ | ⟨g, cap, cur, hv, h1, h2, h3⟩
  · subst h0
    obtain rfl := List.eq_nil_of_length_eq_zero hn
    exact ⟨none, 0, by rw [hv]; rfl, .inl rfl⟩
  · subst hn
    subst hv
    refine ⟨_, cap, rfl, .inr ⟨g, 0, rfl, (Array.getElem?_eq_some_iff.1 h2).1, fun i x hx j u hu => ?_⟩⟩
    have hlen : j < m := by rw [← hm x]; exact (List.getElem?_eq_some_iff.1 hu).1
    have hi : i < l.length := (List.getElem?_eq_some_iff.1 hx).1
    have hlt : i * m + j < l.length * m := by
      have h4 := Nat.mul_le_mul_right m (show i + 1 ≤ l.length by omega)
      rw [Nat.succ_mul] at h4
      omega
    rw [Nat.zero_add, h.cellAt (i * m + j) hlt]
    exact flat_at enc l hm i x hx j u hu

theorem flat_inv {α : Type} {m : Nat} {enc : α → List Value} (hm : ∀ x, (enc x).length = m) : ∀ (l : List α) (j : Nat) (u : Value), (l.flatMap enc)[j]? = some u → ∃ i x jj, l[i]? = some x ∧ (enc x)[jj]? = some u ∧ j = i * m + jj
  | [], j, u, h => by simp at h
  | a :: l, j, u, h => by
    rw [List.flatMap_cons] at h
    by_cases hj : j < m
    · rw [List.getElem?_append_left (by rw [hm]; exact hj)] at h
      exact ⟨0, a, j, rfl, h, by omega⟩
    · rw [List.getElem?_append_right (by rw [hm]; omega), hm] at h
      obtain ⟨i, x, jj, h1, h2, h3⟩ := flat_inv hm l (j - m) u h
      exact ⟨i + 1, x, jj, by simpa using h1, h2, by rw [Nat.succ_mul]; omega⟩
theorem flat_lenE {α : Type} {enc : α → List Value} {m : Nat} (hm : ∀ x, (enc x).length = m) : ∀ (l : List α), (l.flatMap enc).length = l.length * m
  | [] => by simp
  | a :: l => by rw [List.flatMap_cons, List.length_append, flat_lenE hm l, hm a, List.length_cons, Nat.succ_mul]; omega

section
variable {P : Program}
theorem run_append_none (w : World) (t ty e : TypeId) (i : TypeInfo) (ht : P.underlying t = some (.slice e)) (hi : P.info? e = some i) (base : Option Addr) (n cap c : Nat) (hle : n ≤ cap) :
    (Builtin.append_ #[t, t] ty #[.slice base n cap, .slice none 0 c]).run P w = .ok (.slice base n cap) w := by
  cases base <;> simp [Builtin.append_, run_underlying ht, sizeOf, typeInfo, hi, Builtin.lenOf, Builtin.firstCells, hle, storeCells]

theorem wp_appR {α : Type} {w : World} {o : Oper} {a : Act} {t e : TypeId} {size bytes B : Nat} {K : Act → World → Prop} {Q : Exit → Act → World → Prop} {enc : α → List Value} (E : Elem P t e size bytes) (hm : ∀ x, (enc x).length = size) (h1 : ∀ x, ∀ u ∈ enc x, u.oneCell' = true) (s x : Operand) (ho : o.op = .call { callee := .builtin .append, args := #[s, x], argTypes := #[t, t] })
    (W : World) (v : Value) (n : Nat) (xs : List Value) (hs : a.eval s = v) (hown : w.ownsRow B e size v n xs) (hb : Below B W w) (hB : B ≤ w.heap.size)
    (u : Value) (l : List α) (hx : a.eval x = u) (hu : Rd size enc w u l) (hbytes : (n + l.length) * bytes ≤ 140737488355328) (h63 : n + l.length ≤ 140737488355328)
    (h : ∀ v' w', w'.ownsRow B e size v' (n + l.length) (xs ++ l.flatMap enc) → Below B W w' → w.grownBy w' v.ownBlock → K (a.put o.dst v') w') : o.wp P a w K Q := by
  obtain ⟨ht, ⟨i, z, hi, hz, h2, h3, h4⟩, hp⟩ := E
  obtain ⟨p, c, rfl, hc⟩ := hu.ex
  cases p with
  | none =>
    have hl : l = [] := hc.resolve_right (by rintro ⟨_, _, h, _⟩; cases h)
    subst hl
    have hform : ∃ base cap, v = .slice base n cap ∧ n ≤ cap := by
      rcases hown.2 with ⟨hv, h0⟩ | ⟨g, cap, cur, hv, _, _, hn, _⟩
      · exact ⟨none, 0, by rw [hv, h0], by omega⟩
      · exact ⟨_, cap, hv, hn⟩
    obtain ⟨base, cap, rfl, hle⟩ := hform
    have hr := run_append_none (P := P) w t o.type e i ht hi base n cap c hle
    have hx0 : a.eval x = .slice none 0 c := hx
    unfold Oper.wp execOp
    simp only [ho, resolve, invoke, builtin, Sem.run_bind, Sem.run_pure, Result.andThen_ok, List.map_toArray, List.map_cons, List.map_nil, hs, hx0, hr]
    exact h _ w (by simpa using hown) hb ⟨rfl, rfl, rfl, Nat.le_refl _, fun _ _ _ => rfl⟩
  | some ad =>
    refine wp_append_own w s x t ho B e i z size bytes ht hi hz h2 h3 h4 hp v n xs hs hown ad l.length c (l.flatMap enc) hx (flat_lenE hm l) ?_ ?_ (by unfold maxLen; omega) hbytes hB ?_
    · intro j u hj
      obtain ⟨i, x, jj, h5, h6, rfl⟩ := flat_inv hm l j u hj
      rcases hc with hl | ⟨b, off, hpp, hlt, hcc⟩
      · rw [hl] at h5; simp at h5
      · injection hpp with hpp
        subst hpp
        have := hcc i x h5 jj u h6
        have hadd : (⟨b, off, none⟩ : Addr).add (i * size + jj) = ⟨b, off + i * size + jj, none⟩ := by
          simp only [Addr.add_lit, Nat.add_assoc]
        rw [hadd]
        exact this
    · intro u hu
      obtain ⟨x, _, hx⟩ := List.mem_flatMap.1 hu
      exact h1 x u hx
    · intro v' w' k1 k2 _
      exact h v' w' k1 (hb.grown k2 hB (fun k hk => (hown.lt k hk).1)) k2
end

end Go.Proofs.YtbfgdbpfecffcaaGreatDoor

namespace Go.Proofs.YtbfgdbpfecffcaaGreatDoor
open Go.RowKit
open Go.Lib (decDigits itoa)

theorem decDigits_length_le (n : Nat) (h : n ≤ 9223372036854775807) : (decDigits n).length ≤ 21 := by
  have := Lib.itoa_length_le (n : Int) (by omega) (by omega)
  rwa [Lib.itoa_nonneg] at this

/-- The law's mark number k. -/
def markB (k : Nat) : List UInt8 := if k = 0 then [109, 48] else 109 :: decDigits k

/-- A leaf is one cell. 'rows e m n flat': n elements of type e, m cells each, their leaves one behind the other. -/
inductive Lf where
  | int (n : Int)
  | bool (b : Bool)
  | str (l : List UInt8)
  | rows (e : TypeId) (m n : Nat) (flat : List Lf)

mutual
/-- The value reads as the leaf. -/
def LfRd (W : World) : Lf → Value → Prop
  | .int n, v => v = .int .i64 n
  | .bool b, v => v = .bool b
  | .str l, v => v = sv l
  | .rows _ m n flat, v => flat.length = n * m ∧ ∃ p cap, v = .slice p n cap ∧ (n = 0 ∨ ∃ b off, p = some ⟨b, off, none⟩ ∧ b < W.heap.size ∧ ∃ xs : List Value, (∀ j u, xs[j]? = some u → W.cell? ⟨b, off + j, none⟩ = some u) ∧ LsRd W flat xs)
def LsRd (W : World) : List Lf → List Value → Prop
  | [], vs => vs = []
  | x :: xs, vs => ∃ v us, vs = v :: us ∧ LfRd W x v ∧ LsRd W xs us
end

mutual
/-- The value is the leaf, in memory of the call's own: fp are the blocks. -/
def LfIn (W : World) : Lf → Value → List Nat → Prop
  | .int n, v, fp => v = .int .i64 n ∧ fp = []
  | .bool b, v, fp => v = .bool b ∧ fp = []
  | .str l, v, fp => v = sv l ∧ fp = []
  | .rows e m n flat, v, fp => flat.length = n * m ∧ ∃ xs fq, W.ownsRow 0 e m v n xs ∧ LsIn W flat xs fq ∧ fp = v.ownBlock.toList ++ fq
def LsIn (W : World) : List Lf → List Value → List Nat → Prop
  | [], vs, fp => vs = [] ∧ fp = []
  | x :: xs, vs, fp => ∃ v us f1 f2, vs = v :: us ∧ LfIn W x v f1 ∧ LsIn W xs us f2 ∧ fp = f1 ++ f2
end

mutual
theorem LfRd.below {W W' : World} (hb : Below W.heap.size W W') : ∀ (x : Lf) (v : Value), LfRd W x v → LfRd W' x v
  | .int _, _, h => h
  | .bool _, _, h => h
  | .str _, _, h => h
  | .rows _ m n flat, v, h => by
    obtain ⟨hl, p, cap, hv, h0 | ⟨b, off, hp, hlt, xs, hc, hx⟩⟩ := h
    · exact ⟨hl, p, cap, hv, .inl h0⟩
    · exact ⟨hl, p, cap, hv, .inr ⟨b, off, hp, Nat.lt_of_lt_of_le hlt hb.size, xs, fun j u hu => (hb.cell (p := ⟨b, off + j, none⟩) hlt).trans (hc j u hu), LsRd.below hb flat xs hx⟩⟩
theorem LsRd.below {W W' : World} (hb : Below W.heap.size W W') : ∀ (xs : List Lf) (vs : List Value), LsRd W xs vs → LsRd W' xs vs
  | [], _, h => h
  | x :: xs, _, h => by
    obtain ⟨v, us, hv, h1, h2⟩ := h
    exact ⟨v, us, hv, LfRd.below hb x v h1, LsRd.below hb xs us h2⟩
end

theorem own_frame {W W' : World} {B m n : Nat} {e : TypeId} {v : Value} {xs : List Value} (h : W.ownsRow B e m v n xs) (hf : ∀ k, v.ownBlock = some k → W'.heap[k]? = W.heap[k]?) : W'.ownsRow B e m v n xs := by
  refine ⟨h.1, ?_⟩
  rcases h.2 with h0 | ⟨g, cap, cur, hv, h1, h2, h3⟩
  · exact .inl h0
  · exact .inr ⟨g, cap, cur, hv, h1, (hf g (by rw [hv]; rfl)).trans h2, h3⟩

mutual
theorem LfIn.frame {W W' : World} : ∀ (x : Lf) (v : Value) (fp : List Nat), (∀ k ∈ fp, W'.heap[k]? = W.heap[k]?) → LfIn W x v fp → LfIn W' x v fp
  | .int _, _, _, _, h => h
  | .bool _, _, _, _, h => h
  | .str _, _, _, _, h => h
  | .rows e m n flat, v, fp, hf, h => by
    obtain ⟨hl, xs, fq, ho, hx, rfl⟩ := h
    exact ⟨hl, xs, fq, own_frame ho (fun k hk => hf k (by rw [hk]; simp)), LsIn.frame flat xs fq (fun k hk => hf k (by simp [hk])) hx, rfl⟩
theorem LsIn.frame {W W' : World} : ∀ (xs : List Lf) (vs : List Value) (fp : List Nat), (∀ k ∈ fp, W'.heap[k]? = W.heap[k]?) → LsIn W xs vs fp → LsIn W' xs vs fp
  | [], _, _, _, h => h
  | x :: xs, vs, fp, hf, h => by
    obtain ⟨v, us, f1, f2, hv, h1, h2, rfl⟩ := h
    exact ⟨v, us, f1, f2, hv, LfIn.frame x v f1 (fun k hk => hf k (by simp [hk])) h1, LsIn.frame xs us f2 (fun k hk => hf k (by simp [hk])) h2, rfl⟩
end

mutual
theorem LfIn.lt {W : World} : ∀ (x : Lf) (v : Value) (fp : List Nat), LfIn W x v fp → ∀ k ∈ fp, k < W.heap.size
  | .int _, _, _, h, k, hk => by rw [h.2] at hk; cases hk
  | .bool _, _, _, h, k, hk => by rw [h.2] at hk; cases hk
  | .str _, _, _, h, k, hk => by rw [h.2] at hk; cases hk
  | .rows e m n flat, v, fp, h, k, hk => by
    obtain ⟨hl, xs, fq, ho, hx, rfl⟩ := h
    rcases List.mem_append.1 hk with hk | hk
    · exact (ho.lt k (by simpa using hk)).2
    · exact LsIn.lt flat xs fq hx k hk
theorem LsIn.lt {W : World} : ∀ (xs : List Lf) (vs : List Value) (fp : List Nat), LsIn W xs vs fp → ∀ k ∈ fp, k < W.heap.size
  | [], _, _, h, k, hk => by rw [h.2] at hk; cases hk
  | x :: xs, vs, fp, h, k, hk => by
    obtain ⟨v, us, f1, f2, hv, h1, h2, rfl⟩ := h
    rcases List.mem_append.1 hk with hk | hk
    · exact LfIn.lt x v f1 h1 k hk
    · exact LsIn.lt xs us f2 h2 k hk
end

mutual
theorem LfIn.rd {W : World} : ∀ (x : Lf) (v : Value) (fp : List Nat), LfIn W x v fp → LfRd W x v
  | .int _, _, _, h => h.1
  | .bool _, _, _, h => h.1
  | .str _, _, _, h => h.1
  | .rows e m n flat, v, fp, h => by
    obtain ⟨hl, xs, fq, ho, hx, rfl⟩ := h
    refine ⟨hl, ?_⟩
    rcases ho.2 with ⟨hv, h0⟩ | ⟨g, cap, cur, hv, h1, h2, h3⟩
    · exact ⟨none, 0, by rw [hv, h0], .inl h0⟩
    · subst hv
      refine ⟨_, cap, rfl, .inr ⟨g, 0, rfl, (Array.getElem?_eq_some_iff.1 h2).1, xs, fun j u hu => ?_, LsIn.rd flat xs fq hx⟩⟩
      have hj : j < xs.length := (List.getElem?_eq_some_iff.1 hu).1
      rw [Nat.zero_add, ho.cellAt j (by rw [← ho.1]; exact hj), hu]
theorem LsIn.rd {W : World} : ∀ (xs : List Lf) (vs : List Value) (fp : List Nat), LsIn W xs vs fp → LsRd W xs vs
  | [], _, _, h => h.1
  | x :: xs, vs, fp, h => by
    obtain ⟨v, us, f1, f2, hv, h1, h2, rfl⟩ := h
    exact ⟨v, us, hv, LfIn.rd x v f1 h1, LsIn.rd xs us f2 h2⟩
end

theorem LsRd.length {W : World} : ∀ {xs : List Lf} {vs : List Value}, LsRd W xs vs → vs.length = xs.length
  | [], _, h => by rw [h]; rfl
  | _ :: xs, _, h => by obtain ⟨v, us, rfl, _, h2⟩ := h; simp [LsRd.length h2]
theorem LsRd.append {W : World} : ∀ {a b : List Lf} {vs : List Value}, LsRd W (a ++ b) vs ↔ ∃ u1 u2, vs = u1 ++ u2 ∧ LsRd W a u1 ∧ LsRd W b u2
  | [], b, vs => ⟨fun h => ⟨[], vs, rfl, rfl, h⟩, fun ⟨u1, u2, h1, h2, h3⟩ => by rw [h1, h2]; exact h3⟩
  | x :: a, b, vs => by
    constructor
    · rintro ⟨v, us, rfl, h1, h2⟩
      obtain ⟨u1, u2, rfl, h3, h4⟩ := LsRd.append.1 h2
      exact ⟨v :: u1, u2, rfl, ⟨v, u1, rfl, h1, h3⟩, h4⟩
    · rintro ⟨u1, u2, rfl, ⟨v, us, rfl, h1, h2⟩, h3⟩
      exact ⟨v, us ++ u2, rfl, h1, LsRd.append.2 ⟨us, u2, rfl, h2, h3⟩⟩
theorem LsIn.length {W : World} : ∀ {xs : List Lf} {vs : List Value} {fp : List Nat}, LsIn W xs vs fp → vs.length = xs.length
  | [], _, _, h => by rw [h.1]; rfl
  | _ :: xs, _, _, h => by obtain ⟨v, us, _, _, rfl, _, h2, _⟩ := h; simp [LsIn.length h2]
theorem LsIn.append {W : World} : ∀ {a b : List Lf} {vs : List Value} {fp : List Nat}, LsIn W (a ++ b) vs fp ↔ ∃ u1 u2 f1 f2, vs = u1 ++ u2 ∧ LsIn W a u1 f1 ∧ LsIn W b u2 f2 ∧ fp = f1 ++ f2
  | [], b, vs, fp => ⟨fun h => ⟨[], vs, [], fp, rfl, ⟨rfl, rfl⟩, h, rfl⟩, fun ⟨u1, u2, f1, f2, h1, h2, h3, h4⟩ => by rw [h1, h2.1, h4, h2.2]; exact h3⟩
  | x :: a, b, vs, fp => by
    constructor
    · rintro ⟨v, us, f1, f2, rfl, h1, h2, rfl⟩
      obtain ⟨u1, u2, f3, f4, rfl, h3, h4, rfl⟩ := LsIn.append.1 h2
      exact ⟨v :: u1, u2, f1 ++ f3, f4, rfl, ⟨v, u1, f1, f3, rfl, h1, h3, rfl⟩, h4, by rw [List.append_assoc]⟩
    · rintro ⟨u1, u2, f1, f2, rfl, ⟨v, us, f3, f4, rfl, h1, h2, rfl⟩, h3, rfl⟩
      exact ⟨v, us ++ u2, f3, f4 ++ f2, rfl, h1, LsIn.append.2 ⟨us, u2, f4, f2, rfl, h2, h3, rfl⟩, by rw [List.append_assoc]⟩

/-- A tree of the call's own: its blocks are apart from each other, none below lo. -/
structure Tree (W : World) (lo : Nat) (x : Lf) (v : Value) (fp : List Nat) : Prop where
  is : LfIn W x v fp
  nodup : fp.Nodup
  low : ∀ k ∈ fp, lo ≤ k
theorem Tree.below {W W' : World} {lo : Nat} {x : Lf} {v : Value} {fp : List Nat} (h : Tree W lo x v fp) (hb : Below W.heap.size W W') : Tree W' lo x v fp :=
  ⟨h.is.frame x v fp (fun k hk => hb.block k (LfIn.lt x v fp h.is k hk)), h.nodup, h.low⟩
theorem Tree.rd {W : World} {lo : Nat} {x : Lf} {v : Value} {fp : List Nat} (h : Tree W lo x v fp) : LfRd W x v := h.is.rd
theorem Tree.lt {W : World} {lo : Nat} {x : Lf} {v : Value} {fp : List Nat} (h : Tree W lo x v fp) : ∀ k ∈ fp, k < W.heap.size := LfIn.lt x v fp h.is

/-- What was changed lies in the blocks fp, or is new. -/
structure GrownIn (W W' : World) (fp : List Nat) : Prop where
  os : W'.os = W.os
  tape : W'.tape = W.tape
  output : W'.output = W.output
  size : W.heap.size ≤ W'.heap.size
  block : ∀ k, k < W.heap.size → k ∉ fp → W'.heap[k]? = W.heap[k]?
theorem GrownIn.trans {W W1 W2 : World} {fp : List Nat} (h : GrownIn W W1 fp) (k : GrownIn W1 W2 fp) : GrownIn W W2 fp :=
  ⟨k.os.trans h.os, k.tape.trans h.tape, k.output.trans h.output, Nat.le_trans h.size k.size, fun i hi hn => (k.block i (Nat.lt_of_lt_of_le hi h.size) hn).trans (h.block i hi hn)⟩
theorem GrownIn.mono {W W' : World} {fp fq : List Nat} (h : GrownIn W W' fp) (hs : ∀ k ∈ fp, k ∈ fq) : GrownIn W W' fq := ⟨h.os, h.tape, h.output, h.size, fun k hk hn => h.block k hk (fun hm => hn (hs k hm))⟩
theorem GrownIn.of_below {W W' : World} {fp : List Nat} (h : Below W.heap.size W W') : GrownIn W W' fp := ⟨h.os, h.tape, h.output, h.size, fun k hk _ => h.block k hk⟩
theorem GrownIn.below {W0 W W' : World} {B : Nat} {fp : List Nat} (h : Below B W0 W) (hg : GrownIn W W' fp) (hB : B ≤ W.heap.size) (hf : ∀ k ∈ fp, B ≤ k) : Below B W0 W' :=
  h.trans ⟨hg.os, hg.tape, hg.output, hg.size, fun k hk => hg.block k (Nat.lt_of_lt_of_le hk hB) (fun hm => by have := hf k hm; omega)⟩
/-- Another tree stands. -/
theorem Tree.apart {W W' : World} {lo : Nat} {x : Lf} {v : Value} {fp fq : List Nat} (h : Tree W lo x v fp) (hg : GrownIn W W' fq) (hd : ∀ k ∈ fp, k ∉ fq) : Tree W' lo x v fp :=
  ⟨h.is.frame x v fp (fun k hk => hg.block k (h.lt k hk) (hd k hk)), h.nodup, h.low⟩

mutual
def markLf : Lf → Nat → Lf × Nat
  | .int _, k => (.int (k : Int), k + 1)
  | .bool _, k => (.bool (k % 3 == 0), k + 1)
  | .str _, k => (.str (markB k), k + 1)
  | .rows e m n flat, k => ((.rows e m n (markLs flat k).1), (markLs flat k).2)
def markLs : List Lf → Nat → List Lf × Nat
  | [], k => ([], k)
  | x :: xs, k => ((markLf x k).1 :: (markLs xs (markLf x k).2).1, (markLs xs (markLf x k).2).2)
end
theorem markLs_length : ∀ (xs : List Lf) (k : Nat), (markLs xs k).1.length = xs.length
  | [], _ => by simp [markLs]
  | x :: xs, k => by simp [markLs, markLs_length xs]
theorem markLs_append : ∀ (a b : List Lf) (k : Nat), markLs (a ++ b) k = ((markLs a k).1 ++ (markLs b (markLs a k).2).1, (markLs b (markLs a k).2).2)
  | [], b, k => by simp [markLs]
  | x :: a, b, k => by simp [markLs, markLs_append a b]

mutual
def szLf : Lf → Nat
  | .int _ => 0
  | .bool _ => 0
  | .str l => l.length
  | .rows _ _ n flat => n + szLs flat
def szLs : List Lf → Nat
  | [] => 0
  | x :: xs => szLf x + szLs xs
end
theorem szLs_append : ∀ (a b : List Lf), szLs (a ++ b) = szLs a + szLs b
  | [], b => by simp [szLs]
  | x :: a, b => by simp [szLs, szLs_append a b]; omega

theorem rows_cells {W : World} {α : Type} {enc : α → List Lf} {m : Nat} (hm : ∀ x, (enc x).length = m) : ∀ (l : List α) (xs : List Value), LsRd W (l.flatMap enc) xs → ∀ i x, l[i]? = some x → ∃ us, LsRd W (enc x) us ∧ ∀ j u, us[j]? = some u → xs[i * m + j]? = some u
  | [], _, _, i, x, h => by simp at h
  | a :: l, xs, h, i, x, hx => by
    rw [List.flatMap_cons] at h
    obtain ⟨u1, u2, rfl, h1, h2⟩ := LsRd.append.1 h
    have hl := LsRd.length h1
    rw [hm] at hl
    cases i with
    | zero =>
      simp only [List.getElem?_cons_zero, Option.some.injEq] at hx
      subst hx
      refine ⟨u1, h1, fun j u hu => ?_⟩
      rw [Nat.zero_mul, Nat.zero_add, List.getElem?_append_left (List.getElem?_eq_some_iff.1 hu).1]
      exact hu
    | succ i =>
      simp only [List.getElem?_cons_succ] at hx
      obtain ⟨us, h3, h4⟩ := rows_cells hm l u2 h2 i x hx
      refine ⟨us, h3, fun j u hu => ?_⟩
      have := h4 j u hu
      rw [List.getElem?_append_right (by rw [hl, Nat.succ_mul]; omega), show (i + 1) * m + j - u1.length = i * m + j by rw [hl, Nat.succ_mul]; omega]
      exact this

/-- A slice of records, read. -/
theorem rows_at {W : World} {α : Type} {enc : α → List Lf} {e : TypeId} {m : Nat} (hm : ∀ x, (enc x).length = m) {l : List α} {v : Value} (h : LfRd W (.rows e m l.length (l.flatMap enc)) v) :
    ∃ p cap, v = .slice p l.length cap ∧ (l = [] ∨ ∃ b off, p = some ⟨b, off, none⟩ ∧ b < W.heap.size ∧ ∀ i x, l[i]? = some x → ∃ us, LsRd W (enc x) us ∧ ∀ j u, us[j]? = some u → W.cell? ⟨b, off + i * m + j, none⟩ = some u) := by
  obtain ⟨_, p, cap, hv, h⟩ := h
  refine ⟨p, cap, hv, ?_⟩
  rcases h with h0 | ⟨b, off, hp, hlt, xs, hc, hx⟩
  · exact .inl (List.eq_nil_of_length_eq_zero h0)
  · refine .inr ⟨b, off, hp, hlt, fun i x hi => ?_⟩
    obtain ⟨us, h1, h2⟩ := rows_cells hm l xs hx i x hi
    exact ⟨us, h1, fun j u hu => by have := hc _ u (h2 j u hu); rwa [← Nat.add_assoc] at this⟩
theorem flat_lenM {α : Type} {enc : α → List Lf} {m : Nat} (hm : ∀ x, (enc x).length = m) : ∀ (l : List α), (l.flatMap enc).length = l.length * m
  | [] => by simp
  | a :: l => by rw [List.flatMap_cons, List.length_append, flat_lenM hm l, hm a, List.length_cons, Nat.succ_mul]; omega

/-- A cell of an owned row is set. -/
theorem own_set {W : World} {B g n c i m : Nat} {e : TypeId} {A R : List Value} {x : Value} (h : W.ownsRow B e m (.slice (some ⟨g, 0, none⟩) n c) n (A ++ x :: R)) (hi : A.length = i) (u : Value) :
    (W.setCell ⟨g, i, none⟩ u).ownsRow B e m (.slice (some ⟨g, 0, none⟩) n c) n (A ++ u :: R) ∧ W.cell? ⟨g, i, none⟩ = some x ∧ (∀ j, W.frozen? ⟨g, j, none⟩ = false) := by
  have h1 := (h.stored i u).1
  have hl : (A ++ x :: R).length = n * m := h.1
  rw [List.set_append_right _ _ (by omega), hi, Nat.sub_self, List.set_cons_zero] at h1
  refine ⟨h1, ?_, fun j => h.frozenAt j⟩
  rw [h.cellAt i (by rw [← hl]; simp; omega), List.getElem?_append_right (by omega), hi, Nat.sub_self]
  rfl
/-- The rest of a row has room for one element more. -/
theorem rest_split {A R : List Value} {n k m : Nat} (h : (A ++ R).length = n * m) (hA : A.length = k * m) (hk : k < n) : ∃ R1 R2, R = R1 ++ R2 ∧ R1.length = m := by
  have h1 : k * m + m ≤ n * m := by
    have := Nat.mul_le_mul_right m (show k + 1 ≤ n by omega)
    rw [Nat.succ_mul] at this
    exact this
  rw [List.length_append, hA] at h
  exact ⟨R.take m, R.drop m, (List.take_append_drop m R).symm, by rw [List.length_take]; omega⟩
theorem GrownIn.set {W : World} {g i : Nat} {u : Value} {fp : List Nat} (hg : g ∈ fp) : GrownIn W (W.setCell ⟨g, i, none⟩ u) fp :=
  ⟨rfl, rfl, rfl, by simp, fun k _ hn => Below.heap_setCell W _ u k (by intro e; exact hn (by rw [show k = g from e]; exact hg))⟩
theorem LsIn.set {W : World} {xs : List Lf} {vs : List Value} {fp : List Nat} {g i : Nat} {u : Value} (h : LsIn W xs vs fp) (hg : g ∉ fp) : LsIn (W.setCell ⟨g, i, none⟩ u) xs vs fp :=
  h.frame xs vs fp (fun k hk => Below.heap_setCell W _ u k (by intro e; exact hg (by rw [← show k = g from e]; exact hk)))

def partsl (c : UInt8) : List UInt8 → List (List UInt8)
  | [] => [[]]
  | b :: r => if b = c then [] :: partsl c r else match partsl c r with
    | [] => [[b]]
    | x :: xs => (b :: x) :: xs

theorem partsl_ne (c : UInt8) (l : List UInt8) : partsl c l ≠ [] := by
  cases l with
  | nil => simp [partsl]
  | cons b r =>
    unfold partsl
    split
    · simp
    · split <;> simp
theorem partsl_none (c : UInt8) : ∀ l : List UInt8, (∀ b ∈ l, b ≠ c) → partsl c l = [l]
  | [], _ => rfl
  | b :: r, h => by
    unfold partsl
    rw [if_neg (h b (by simp)), partsl_none c r (fun x hx => h x (by simp [hx]))]
theorem partsl_hit (c : UInt8) : ∀ (m r : List UInt8), (∀ b ∈ m, b ≠ c) → partsl c (m ++ c :: r) = m :: partsl c r
  | [], r, _ => by simp [partsl]
  | b :: m, r, h => by
    rw [List.cons_append, partsl, if_neg (h b (by simp)), partsl_hit c m r (fun x hx => h x (by simp [hx]))]
theorem partsl_length (c : UInt8) (l : List UInt8) : (partsl c l).length ≤ l.length + 1 := by
  induction l with
  | nil => simp [partsl]
  | cons b r ih =>
    unfold partsl
    split
    · simp only [List.length_cons]; omega
    · split
      · simp
      · rename_i x xs h
        rw [h] at ih
        simp only [List.length_cons] at ih ⊢
        omega

/-- What has been cut off so far: acc, the rest begins at f, and from f to i no separator stands. -/
structure Cut (c : UInt8) (l : List UInt8) (f i : Nat) (acc : List (List UInt8)) : Prop where
  le : f ≤ i
  le' : i ≤ l.length
  all : acc ++ partsl c (l.drop f) = partsl c l
  none : ∀ b ∈ (l.drop f).take (i - f), b ≠ c
  few : acc.length ≤ f

theorem Cut.start (c : UInt8) (l : List UInt8) : Cut c l 0 0 [] := ⟨Nat.le_refl _, Nat.zero_le _, by simp, by simp, by simp⟩
theorem cut_take (l : List UInt8) (f i : Nat) (h1 : f ≤ i) (h2 : i < l.length) : (l.drop f).take (i + 1 - f) = (l.drop f).take (i - f) ++ [l[i]] := by
  rw [show i + 1 - f = (i - f) + 1 from by omega, List.take_succ_eq_append_getElem (by simp; omega)]
  simp [Nat.add_sub_cancel' h1]
theorem cut_split (l : List UInt8) (f i : Nat) (h1 : f ≤ i) (h2 : i < l.length) : l.drop f = (l.drop f).take (i - f) ++ l[i] :: l.drop (i + 1) := by
  have := (List.take_append_drop (i - f) (l.drop f)).symm
  rw [List.drop_drop, show f + (i - f) = i from by omega, List.drop_eq_getElem_cons h2] at this
  exact this
theorem Cut.miss {c : UInt8} {l : List UInt8} {f i : Nat} {acc : List (List UInt8)} (h : Cut c l f i acc) (hi : i < l.length) (hb : l[i] ≠ c) : Cut c l f (i + 1) acc := by
  refine ⟨by have := h.le; omega, hi, h.all, ?_, h.few⟩
  rw [cut_take l f i h.le hi]
  intro b hb'
  rw [List.mem_append, List.mem_singleton] at hb'
  rcases hb' with h1 | h1
  · exact h.none b h1
  · rw [h1]; exact hb
theorem Cut.hit {c : UInt8} {l : List UInt8} {f i : Nat} {acc : List (List UInt8)} (h : Cut c l f i acc) (hi : i < l.length) (hb : l[i] = c) : Cut c l (i + 1) (i + 1) (acc ++ [(l.drop f).take (i - f)]) := by
  refine ⟨Nat.le_refl _, hi, ?_, by simp, by have := h.few; have := h.le; simp; omega⟩
  have h1 := h.all
  rw [cut_split l f i h.le hi, hb, partsl_hit c _ _ h.none] at h1
  rw [← h1]
  simp
theorem Cut.fin {c : UInt8} {l : List UInt8} {f : Nat} {acc : List (List UInt8)} (h : Cut c l f l.length acc) : acc ++ [(l.drop f).take (l.length - f)] = partsl c l := by
  have h1 := h.all
  have e : (l.drop f).take (l.length - f) = l.drop f := List.take_of_length_le (by simp)
  have h2 := h.none
  rw [e] at h2 ⊢
  rw [partsl_none c _ h2] at h1
  exact h1
theorem sv_extract (s : ByteArray) (f i : Nat) : Value.string (s.extract f i) = sv ((s.data.toList.drop f).take (i - f)) := by
  rw [← sv_data (s.extract f i), Lib.extract_data]

end Go.Proofs.YtbfgdbpfecffcaaGreatDoor
