/-
  Ub: Ga Gb Gc (what the claim needs of them).
-/
import Derived.Test.YtidjebepgpbcnaaGreatDoorRows
import Derived.WalkKit
import Derived.WalkSpells
import Derived.WalkLawsBesides
import Derived.Laws.IdiomStrings
import Derived.Lib.Hide
import Derived.Deep.AppendLies
import Derived.OrdersHeld
import Derived.Lib.ItoaNum
import Derived.Lib.ItoaMem
import Derived.Lib.AppendStr
import Derived.Lib.ItoaLen
import Derived.Lib.Strings
import Derived.Lib.Bytealg
import Derived.Lib.OthersKept
import Derived.Laws.RangeAny
import Derived.Test.YtidjebepgpbcnaaGreatDoorProg
import Derived.Test.YtidjebepgpbcnaaGreatDoorUa

namespace Go.Proofs.YtidjebepgpbcnaaGreatDoor
open Go.RowKit

/-- A byte as a value. -/
abbrev bv (b : UInt8) : Value := .int .u8 (b.toNat : Int)

/-- Block g holds the cells xs from its head on, none of them frozen. -/
structure Row (w : World) (g : Nat) (xs : List Value) : Prop where
  cell : ∀ j, j < xs.length → w.cell? ⟨g, j, none⟩ = xs[j]?
  free : ∀ j, j < xs.length → w.frozen? ⟨g, j, none⟩ = false

theorem Row.drew {w : World} {g : Nat} {xs : List Value} (h : Row w g xs) : Row w.drew g xs := ⟨h.cell, h.free⟩
theorem Row.lt {w : World} {g : Nat} {xs : List Value} (h : Row w g xs) (hne : 0 < xs.length) : g < w.heap.size := by
  have h1 := h.cell 0 hne
  rw [List.getElem?_eq_getElem hne] at h1
  exact World.block_lt_of_cell? w _ h1

theorem Row.set {w : World} {g : Nat} {xs : List Value} (h : Row w g xs) (k : Nat) (hk : k < xs.length) (v : Value) : Row (w.setCell ⟨g, k, none⟩ v) g (xs.set k v) := by
  have hc := h.cell k hk
  rw [List.getElem?_eq_getElem hk] at hc
  constructor
  · intro j hj
    rw [List.length_set] at hj
    by_cases e : j = k
    · subst e
      rw [World.cell?_setCell_same w _ _ hc]
      simp [hk]
    · rw [World.cell?_setCell_other w _ _ _ (by intro hh; injection hh with _ h2; exact e h2.symm)]
      rw [h.cell j hj, List.getElem?_set_ne (Ne.symm e)]
  · intro j hj
    rw [List.length_set] at hj
    have := h.free j hj
    simpa using this

theorem getElem_bv (l : List UInt8) (j : Nat) (hj : j < l.length) : (l.map bv)[j]? = some (.int .u8 (l[j].toNat : Int)) := by simp [bv, hj]

/-- Block g reads as these bytes (frozen or not). -/
structure Row1 (w : World) (g : Nat) (l : List UInt8) : Prop where
  cell : ∀ j, j < l.length → w.cell? ⟨g, j, none⟩ = (l.map bv)[j]?

theorem conv_back_c {P : Program} {w : World} {g : Nat} {l : List UInt8} (h : Row1 w g l) (src dst e : TypeId) (n cap : Nat) (hn : l.length = n) (hs : P.underlying src = some (.slice e)) (he : P.underlying e = some (.int .u8)) (hd : P.underlying dst = some .string) :
    (convert src dst (.slice (some ⟨g, 0, none⟩) n cap)).run P w = .ok (.string ⟨l.toArray⟩) w := by
  subst hn
  refine run_convert_bytes_back w src dst e ⟨g, 0, none⟩ cap l hs he hd (fun j hj => ?_)
  have := h.cell j hj
  rw [getElem_bv _ _ hj] at this
  rw [Addr.add_lit]
  simpa using this

theorem conv_back {P : Program} {w : World} {g : Nat} {l : List UInt8} (h : Row w g (l.map bv)) (src dst e : TypeId) (n cap : Nat) (hn : l.length = n) (hs : P.underlying src = some (.slice e)) (he : P.underlying e = some (.int .u8)) (hd : P.underlying dst = some .string) :
    (convert src dst (.slice (some ⟨g, 0, none⟩) n cap)).run P w = .ok (.string ⟨l.toArray⟩) w := by
  subst hn
  refine run_convert_bytes_back w src dst e ⟨g, 0, none⟩ cap l hs he hd (fun j hj => ?_)
  have hj' : j < (l.map bv).length := by simpa using hj
  have := h.cell j hj'
  rw [getElem_bv _ _ hj] at this
  rw [Addr.add_lit]
  simpa using this

/-- string([]byte{x}). -/
theorem conv_back1 {P : Program} (src dst e : TypeId) (hs : P.underlying src = some (.slice e)) (he : P.underlying e = some (.int .u8)) (hd : P.underlying dst = some .string) (n : Int) (h0 : 0 ≤ n) (h1 : n < 256) (cap : Nat)
    (w : World) (g : Nat) (hc : w.cell? ⟨g, 0, none⟩ = some (.int .u8 n)) :
    (convert src dst (.slice (some ⟨g, 0, none⟩) 1 cap)).run P w = .ok (.string ⟨#[UInt8.ofNat n.toNat]⟩) w := by
  have ev : ((UInt8.ofNat n.toNat).toNat : Int) = n := by rw [UInt8.toNat_ofNat_of_lt' (by show n.toNat < 256; omega)]; omega
  have hr : Row1 w g [UInt8.ofNat n.toNat] := ⟨fun j hj => by
    have : j = 0 := by simp at hj; omega
    subst this
    rw [hc]
    simp only [List.map_cons, List.getElem?_cons_zero]
    show some (Value.int .u8 n) = some (Value.int .u8 ((UInt8.ofNat n.toNat).toNat : Int))
    rw [ev]⟩
  exact conv_back_c hr src dst e 1 cap rfl hs he hd

theorem take_str (s : ByteArray) (k : Nat) (h : k < s.size) : s.data.toList.take (k + 1) = s.data.toList.take k ++ [s[k]] := by
  rw [List.take_succ_eq_append_getElem (by simpa using h)]; rfl
theorem take_str_all (s : ByteArray) : s.data.toList.take s.size = s.data.toList := List.take_of_length_le (by simp)

/-- What the tables say of a slice type t of elements e: cells and bytes of an element. -/
structure Elem (P : Program) (t e : TypeId) (size bytes : Nat) : Prop where
  under : P.underlying t = some (.slice e)
  info : ∃ i z, P.info? e = some i ∧ i.zero = some z ∧ i.size = size ∧ i.bytes = bytes ∧ z.cells.size = size
  pos : 0 < size

theorem Elem.mk' {P : Program} {t e : TypeId} {size bytes : Nat} {z : Value} (h : P.underlying t = some (.slice e)) (hi : (P.info? e).map (fun i => (i.zero, i.size, i.bytes)) = some (some z, size, bytes)) (hz : z.cells.size = size) (hp : 0 < size) :
    Elem P t e size bytes := by
  obtain ⟨i, h1, h2, h3, h4⟩ := info_parts hi
  exact ⟨h, ⟨i, z, h1, h2, h3, h4, hz⟩, hp⟩

section
variable {P : Program} {w : World} {ops : Array Oper} {rest : List Oper} {o : Oper} {a : Act} {t e : TypeId} {size bytes B : Nat}

/-- The same at the operation alone. -/
theorem wp_app {K : Act → World → Prop} {Q : Exit → Act → World → Prop} (E : Elem P t e size bytes) (s x : Operand) (ho : o.op = .call { callee := .builtin .append, args := #[s, x], argTypes := #[t, t] })
    (W : World) (v : Value) (n : Nat) (xs : List Value) (hs : a.eval s = v) (hown : w.ownsRow B e size v n xs) (hb : Below B W w) (hB : B ≤ w.heap.size)
    (ad : Addr) (m c : Nat) (news : List Value) (hx : a.eval x = .slice (some ad) m c) (hl : news.length = m * size) (hnews : ∀ j u, news[j]? = some u → w.cell? (ad.add j) = some u) (h1 : ∀ u ∈ news, u.oneCell' = true)
    (hm : 0 < m) (hbytes : (n + m) * bytes ≤ 140737488355328) (h63 : n + m ≤ 140737488355328)
    (h : ∀ g cap w', w'.ownsRow B e size (.slice (some ⟨g, 0, none⟩) (n + m) cap) (n + m) (xs ++ news) → Below B W w' → w.grownBy w' v.ownBlock → (v.ownBlock = some g ∨ g = w.heap.size) → g < w'.heap.size →
      K (a.put o.dst (.slice (some ⟨g, 0, none⟩) (n + m) cap)) w') : o.wp P a w K Q := by
  obtain ⟨ht, ⟨i, z, hi, hz, h2, h3, h4⟩, hp⟩ := E
  refine wp_append_lies w s x t ho B e i z size bytes ht hi hz h2 h3 h4 hp v n xs hs hown ad m c news hx hl hnews h1 hm (by unfold maxLen; omega) hbytes hB _ rfl ?_
  intro g cap w' k1 k2 k3 k4
  exact h g cap w' k1 (hb.grown k2 hB (fun k hk => (hown.lt k hk).1)) k2 k3 k4

/-- Appending what lies in a block that was made just now. -/
theorem wp_app1 {K : Act → World → Prop} {Q : Exit → Act → World → Prop} (E : Elem P t e size bytes) (s x : Operand) (ho : o.op = .call { callee := .builtin .append, args := #[s, x], argTypes := #[t, t] })
    (W w0 : World) (v : Value) (n : Nat) (xs : List Value) (hs : a.eval s = v) (hown : w0.ownsRow B e size v n xs) (hb : Below B W w0) (hB : B ≤ w0.heap.size)
    (cs : Array Value) (hw : w = (w0.alloc (.cells cs e)).drew ∨ w = w0.alloc (.cells cs e)) (m c : Nat) (hx : a.eval x = .slice (some ⟨w0.heap.size, 0, none⟩) m c) (hl : cs.size = m * size) (h1 : cs.all (·.oneCell') = true)
    (hm : 0 < m) (hbytes : (n + m) * bytes ≤ 140737488355328) (h63 : n + m ≤ 140737488355328)
    (h : ∀ g cap w', w'.ownsRow B e size (.slice (some ⟨g, 0, none⟩) (n + m) cap) (n + m) (xs ++ cs.toList) → Below B W w' → w0.grownBy w' v.ownBlock → (v.ownBlock = some g ∨ w0.heap.size ≤ g) → g < w'.heap.size →
      K (a.put o.dst (.slice (some ⟨g, 0, none⟩) (n + m) cap)) w') : o.wp P a w K Q := by
  have hsz : w.heap.size = w0.heap.size + 1 := by rcases hw with rfl | rfl <;> simp
  have hblk : w.heap[w0.heap.size]? = some (.cells cs e (0, 0)) := by
    rcases hw with rfl | rfl <;> exact heap_alloc_new w0 _
  have hb' : Below B W w := by
    rcases hw with rfl | rfl
    · exact (hb.alloc hB _).drew
    · exact hb.alloc hB _
  have hown' : w.ownsRow B e size v n xs := by
    rcases hw with rfl | rfl
    · exact (hown.alloc _).drew
    · exact hown.alloc _
  have hold : ∀ k, k < w0.heap.size → w.heap[k]? = w0.heap[k]? := by
    intro k hk
    rcases hw with rfl | rfl
    · exact Below.heap_alloc w0 _ k hk
    · exact Below.heap_alloc w0 _ k hk
  have hgen : w.os = w0.os ∧ w.tape = w0.tape ∧ w.output = w0.output := by rcases hw with rfl | rfl <;> exact ⟨rfl, rfl, rfl⟩
  refine wp_app E s x ho W v n xs hs hown' hb' (by omega) ⟨w0.heap.size, 0, none⟩ m c cs.toList hx (by simpa using hl) (World.news_of_block hblk) (fun u hu => by
    simp only [Array.all_eq_true'] at h1
    exact h1 u (by simpa using hu)) hm hbytes h63 ?_
  intro g cap w' k1 k2 k3 k4 k5
  refine h g cap w' k1 k2 ⟨k3.os.trans hgen.1, k3.tape.trans hgen.2.1, k3.output.trans hgen.2.2, by have := k3.size; omega, fun k hk hne => (k3.block k (by omega) hne).trans (hold k hk)⟩ ?_ k5
  rcases k4 with k4 | k4
  · exact .inl k4
  · exact .inr (by omega)

/-- The same in the list of a region that does not draw. -/
theorem wpList_app1 {Q : Exit → Act → World → Prop} (E : Elem P t e size bytes) (hgd : o.guard = none) (s x : Operand) (ho : o.op = .call { callee := .builtin .append, args := #[s, x], argTypes := #[t, t] })
    (W w0 : World) (v : Value) (n : Nat) (xs : List Value) (hs : a.eval s = v) (hown : w0.ownsRow B e size v n xs) (hb : Below B W w0) (hB : B ≤ w0.heap.size)
    (cs : Array Value) (hw : w = (w0.alloc (.cells cs e)).drew ∨ w = w0.alloc (.cells cs e)) (m c : Nat) (hx : a.eval x = .slice (some ⟨w0.heap.size, 0, none⟩) m c) (hl : cs.size = m * size) (h1 : cs.all (·.oneCell') = true)
    (hm : 0 < m) (hbytes : (n + m) * bytes ≤ 140737488355328) (h63 : n + m ≤ 140737488355328)
    (h : ∀ g cap w', w'.ownsRow B e size (.slice (some ⟨g, 0, none⟩) (n + m) cap) (n + m) (xs ++ cs.toList) → Below B W w' → w0.grownBy w' v.ownBlock → (v.ownBlock = some g ∨ w0.heap.size ≤ g) → g < w'.heap.size →
      wpList P ops Q rest (a.put o.dst (.slice (some ⟨g, 0, none⟩) (n + m) cap)) w') : wpList P ops Q (o :: rest) a w :=
  wpList_plain hgd fun _ hK => wp_app1 E s x ho W w0 v n xs hs hown hb hB cs hw m c hx hl h1 hm hbytes h63 fun g cap w' k1 k2 k3 k4 k5 => hK _ _ (h g cap w' k1 k2 k3 k4 k5)

end

theorem run_convert_bytes_zero0 {P : Program} (w : World) (src dst e : TypeId) (hs : P.underlying src = some (.slice e)) (he : P.underlying e = some (.int .u8)) (hd : P.underlying dst = some .string) :
    (convert src dst (.slice none 0 0)).run P w = .ok (.string ⟨#[]⟩) w := by
  rw [run_convert_bytes_string w src dst e none 0 0 hs he hd]
  rfl

/-- string(b) of a slice of bytes that the call owns. -/
theorem conv_own {P : Program} {w : World} {B n : Nat} {v : Value} {l : List UInt8} (src dst e : TypeId) (h : w.ownsRow B e 1 v n (l.map bv)) (hn : l.length = n) (hs : P.underlying src = some (.slice e)) (he : P.underlying e = some (.int .u8)) (hd : P.underlying dst = some .string) :
    (convert src dst v).run P w = .ok (.string ⟨l.toArray⟩) w := by
  rcases h.2 with ⟨rfl, h0⟩ | ⟨g, cap, cur, hv, hb, hg, hnc, hcm, hsz, htk⟩
  · subst h0
    obtain rfl := List.eq_nil_of_length_eq_zero hn
    exact run_convert_bytes_zero0 w src dst e hs he hd
  · subst hv
    exact conv_back (w := w) (g := g) (l := l) ⟨fun j hj => h.cellAt j (by rw [List.length_map] at hj; omega), fun j _ => h.frozenAt j⟩ src dst e n cap hn hs he hd

theorem Tryz.el_u8 : Elem Tryz.prog 90 5 1 1 := Elem.mk' (z := .int .u8 0) Tryz.underlying90 (by kernel_rfl) rfl (by omega)
theorem Tryz.el_string : Elem Tryz.prog 53 9 1 16 := Elem.mk' (z := .string ⟨#[]⟩) Tryz.underlying53 (by kernel_rfl) rfl (by omega)

def pickOp : List Oper → Nat → Oper
  | [], _ => { dst := none, op := .move (.tmp 0), type := 0, pos := "", after := #[], guard := none }
  | o :: _, 0 => o
  | _ :: l, n + 1 => pickOp l n
theorem pickOp_zero (o : Oper) (l : List Oper) : pickOp (o :: l) 0 = o := rfl
theorem pickOp_succ (o : Oper) (l : List Oper) (n : Nat) : pickOp (o :: l) (n + 1) = pickOp l n := rfl
theorem pickOp_get : ∀ (l : List Oper) (n : Nat), n < l.length → l[n]? = some (pickOp l n)
  | o :: l, 0, _ => rfl
  | o :: l, n + 1, h => by simpa [pickOp] using pickOp_get l n (by simpa using h)

/-- The order's check: a floating operation is free and may come up; any other one is the only one that may come up; at the end none is left. -/
def ordB (ops : Array Oper) : List (Nat × Bool) → Array Bool → Bool
  | [], listed => (Region.ready .any ops listed).isEmpty
  | (i, true) :: r, listed => decide (i < ops.size) && Region.free .any ops listed i && (Region.ready .any ops listed).contains i && ordB ops r (listed.setIfInBounds i true)
  | (i, false) :: r, listed => decide (i < ops.size) && Region.ready .any ops listed == [i] && ordB ops r (listed.setIfInBounds i true)

def OrdH (P : Program) (ops : Array Oper) (Q : Exit → Act → World → Prop) (S : World → Prop) (idx : List (Nat × Bool)) (os : List Oper) (a : Act) (w : World) : Prop :=
  Region.noSelect ops = true → idx.map (fun x => pickOp ops.toList x.1) = os → ∀ listed, ordB ops idx listed = true → wpAnyH P .any ops Q S idx.length listed a w

section
variable {P : Program} {ops : Array Oper} {Q : Exit → Act → World → Prop} {S : World → Prop} {a : Act} {w : World} {i : Nat} {r : List (Nat × Bool)} {o : Oper} {os : List Oper}

theorem ord_start {id : Nat} (idx : List (Nat × Bool)) (S : World → Prop) (hm : P.follows .mixedOrders = true) (hs : Region.noSelect ops = true) (hl : idx.length = ops.size)
    (hB : ordB ops idx (Array.replicate ops.size false) = true)
    (h : ∀ ops', Hid (ops' = ops) → OrdH P ops' Q S idx (idx.map fun x => pickOp ops.toList x.1) a w.drew) : (Code.region id ops true).wp P Q a w :=
  wp_region_held hm (by have := h ops rfl hs rfl _ hB; rw [hl] at this; exact this)

theorem get_op (hi : i < ops.size) (ho : pickOp ops.toList i = o) : ops[i]? = some o := by
  have := pickOp_get ops.toList i (by simpa using hi)
  rw [ho] at this
  simpa using this

/-- A floating operation. -/
theorem ord_flo (v : Value) (hQ : ∀ c a w, Q (.panic c) (a.put o.dst v) w → Q (.panic c) a w) (hw : Region.wanted o (yielded ops a.tmps) = true)
    (hy : ∀ w, S w → (execOp a.eval o).run P w = .ok (.value v) w) (hS : S w)
    (h : OrdH P ops Q S r os (a.put o.dst v) w) : OrdH P ops Q S ((i, true) :: r) (o :: os) a w := by
  intro hs ho listed hB
  simp only [List.map_cons, List.cons.injEq] at ho
  simp only [ordB, Bool.and_eq_true, decide_eq_true_eq] at hB
  obtain ⟨⟨⟨h1, h2⟩, h3⟩, h4⟩ := hB
  exact wpAnyH_take (get_op h1 ho.1) hs h2 h3 hQ (.inl ⟨hw, hy⟩) hS (h hs ho.2 _ h4)

/-- An operation whose guard says no. -/
theorem ord_not (hQ : ∀ c a w, Q (.panic c) (a.put o.dst undef) w → Q (.panic c) a w) (hw : Region.wanted o (yielded ops a.tmps) = false) (hS : S w)
    (h : OrdH P ops Q S r os (a.put o.dst undef) w) : OrdH P ops Q S ((i, true) :: r) (o :: os) a w := by
  intro hs ho listed hB
  simp only [List.map_cons, List.cons.injEq] at ho
  simp only [ordB, Bool.and_eq_true, decide_eq_true_eq] at hB
  obtain ⟨⟨⟨h1, h2⟩, h3⟩, h4⟩ := hB
  exact wpAnyH_take (get_op h1 ho.1) hs h2 h3 hQ (.inr ⟨hw, rfl⟩) hS (h hs ho.2 _ h4)

/-- Any other operation. -/
theorem ord_ev (hw : Region.wanted o (yielded ops a.tmps) = true) (h : o.wp P a w (fun a' w' => S w' ∧ OrdH P ops Q S r os a' w') Q) : OrdH P ops Q S ((i, false) :: r) (o :: os) a w := by
  intro hs ho listed hB
  simp only [List.map_cons, List.cons.injEq] at ho
  simp only [ordB, Bool.and_eq_true, decide_eq_true_eq, beq_iff_eq] at hB
  obtain ⟨⟨h1, h2⟩, h4⟩ := hB
  refine wpAnyH_all h2 (by simp) (fun j hj => ?_)
  simp only [List.mem_singleton] at hj
  subst hj
  unfold wpOp
  simp only [get_op h1 ho.1, hw, if_true]
  exact .inl (Oper.wp_mono (fun a' w' hh => ⟨hh.1, hh.2 hs ho.2 _ h4⟩) h)

theorem ord_evnot (hS : S w) (hw : Region.wanted o (yielded ops a.tmps) = false) (h : OrdH P ops Q S r os (a.put o.dst undef) w) : OrdH P ops Q S ((i, false) :: r) (o :: os) a w := by
  intro hs ho listed hB
  simp only [List.map_cons, List.cons.injEq] at ho
  simp only [ordB, Bool.and_eq_true, decide_eq_true_eq, beq_iff_eq] at hB
  obtain ⟨⟨h1, h2⟩, h4⟩ := hB
  refine wpAnyH_all h2 (by simp) (fun j hj => ?_)
  simp only [List.mem_singleton] at hj
  subst hj
  unfold wpOp
  simp only [get_op h1 ho.1, hw, Bool.false_eq_true, if_false]
  exact ⟨hS, h hs ho.2 _ h4⟩

theorem ord_done (h : Q .normal a w) : OrdH P ops Q S [] [] a w := by
  intro _ _ listed hB
  simp only [ordB, List.isEmpty_iff] at hB
  exact wpAnyH_done hB h _

end

inductive OTree where
  | nil : OTree
  | flo : Nat → OTree → OTree
  | ev : Nat → OTree → OTree
  | fork : Nat → OTree → Nat → OTree → OTree
def OTree.len : OTree → Nat
  | .nil => 0
  | .flo _ r => r.len + 1
  | .ev _ r => r.len + 1
  | .fork _ r _ _ => r.len + 1
def ordT (ops : Array Oper) : OTree → Array Bool → Bool
  | .nil, listed => (Region.ready .any ops listed).isEmpty
  | .flo i r, listed => Region.free .any ops listed i && (Region.ready .any ops listed).contains i && ordT ops r (listed.setIfInBounds i true)
  | .ev i r, listed => Region.ready .any ops listed == [i] && ordT ops r (listed.setIfInBounds i true)
  | .fork i r j q, listed => Region.ready .any ops listed == [i, j] && r.len == q.len && ordT ops r (listed.setIfInBounds i true) && ordT ops q (listed.setIfInBounds j true)

def OrdT (P : Program) (ops : Array Oper) (Q : Exit → Act → World → Prop) (S : World → Prop) (t : OTree) (a : Act) (w : World) : Prop :=
  Region.noSelect ops = true → ∀ listed, ordT ops t listed = true → wpAnyH P .any ops Q S t.len listed a w

section
variable {P : Program} {ops : Array Oper} {Q : Exit → Act → World → Prop} {S : World → Prop} {a : Act} {w : World} {i j : Nat} {r q : OTree}

end

section
variable {P : Program} {ops : Array Oper} {Q : Exit → Act → World → Prop} {S : World → Prop} {a : Act} {w : World} {i j k : Nat} {r : OTree}

/-- The walk's second half, closed until it is asked for. -/
def LateK (P : Program) (ops : Array Oper) (Q : Exit → Act → World → Prop) (S T : World → Prop) (ok : Oper) (r : OTree) (a1 : Act) (w1 : World) : Prop :=
  Region.wanted ok (yielded ops a1.tmps) = true ∧ ok.wp P a1 w1 (fun a2 w2 => (T w2 ∧ S w2) ∧ OrdT P ops Q S r a2 w2) Q
theorem LateK.of {ok : Oper} {T : World → Prop} {a1 : Act} {w1 : World} (h1 : Region.wanted ok (yielded ops a1.tmps) = true) (h2 : ok.wp P a1 w1 (fun a2 w2 => (T w2 ∧ S w2) ∧ OrdT P ops Q S r a2 w2) Q) : LateK P ops Q S T ok r a1 w1 := ⟨h1, h2⟩

end

/-- A string value out of its bytes. -/
abbrev sv (l : List UInt8) : Value := .string ⟨l.toArray⟩
theorem sv_data (s : ByteArray) : sv s.data.toList = .string s := by cases s; simp [sv]

/-- The slice value v reads in w as the list l, an element a cell. -/
structure Rd1 {α : Type} (enc : α → Value) (w : World) (v : Value) (l : List α) : Prop where
  ex : ∃ p cap, v = .slice p l.length cap ∧ (l = [] ∨ ∃ b off, p = some ⟨b, off, none⟩ ∧ b < w.heap.size ∧ ∀ i x, l[i]? = some x → w.cell? ⟨b, off + i, none⟩ = some (enc x))

theorem Rd1.below {α : Type} {enc : α → Value} {w w' : World} {v : Value} {l : List α} (h : Rd1 enc w v l) (hb : Below w.heap.size w w') : Rd1 enc w' v l := by
  obtain ⟨p, cap, hv, h | ⟨b, off, hp, hlt, hc⟩⟩ := h.ex
  · exact ⟨p, cap, hv, .inl h⟩
  · exact ⟨p, cap, hv, .inr ⟨b, off, hp, Nat.lt_of_lt_of_le hlt hb.size, fun i x hx => (hb.cell (p := ⟨b, off + i, none⟩) hlt).trans (hc i x hx)⟩⟩

theorem ownsRow_below {w w' : World} {B n size : Nat} {e : TypeId} {v : Value} {xs : List Value} (h : w.ownsRow B e size v n xs) (hb : Below w.heap.size w w') : w'.ownsRow B e size v n xs := by
  refine ⟨h.1, ?_⟩
  rcases h.2 with h0 | ⟨g, cap, cur, hv, h1, h2, h3⟩
  · exact .inl h0
  · exact .inr ⟨g, cap, cur, hv, h1, (hb.block g (Array.getElem?_eq_some_iff.1 h2).1).trans h2, h3⟩

theorem Rd1.of_own {α : Type} {enc : α → Value} {w : World} {B n : Nat} {e : TypeId} {v : Value} {l : List α} (h : w.ownsRow B e 1 v n (l.map enc)) : Rd1 enc w v l := by
  have hn : l.length = n := by have := h.1; simpa using this
  rcases h.2 with ⟨hv, h0⟩ | ⟨g, cap, cur, hv, h1, h2, h3⟩
  · subst h0
    have : l = [] := List.eq_nil_of_length_eq_zero hn
    subst this
    exact ⟨none, 0, by rw [hv]; rfl, .inl rfl⟩
  · subst hn
    subst hv
    refine ⟨_, cap, rfl, .inr ⟨g, 0, rfl, (Array.getElem?_eq_some_iff.1 h2).1, fun i x hx => ?_⟩⟩
    have hi : i < l.length := (List.getElem?_eq_some_iff.1 hx).1
    rw [Nat.zero_add, h.cellAt i (by omega), List.getElem?_map, hx]
    rfl

theorem Rd1.nil {α : Type} {enc : α → Value} {w : World} : Rd1 enc w (.slice none 0 0) ([] : List α) := ⟨none, 0, rfl, .inl rfl⟩

theorem grown_below {w w1 w2 : World} {row : Option Nat} (h : w.grownBy w1 row) (hb : Below w1.heap.size w1 w2) : w.grownBy w2 row :=
  ⟨hb.os.trans h.os, hb.tape.trans h.tape, hb.output.trans h.output, Nat.le_trans h.size hb.size, fun k hk hne => (hb.block k (Nat.lt_of_lt_of_le hk h.size)).trans (h.block k hk hne)⟩
theorem grown_grown {w w1 w2 : World} {row : Option Nat} (h : w.grownBy w1 row) (hg : w1.grownBy w2 row) : w.grownBy w2 row :=
  ⟨hg.os.trans h.os, hg.tape.trans h.tape, hg.output.trans h.output, Nat.le_trans h.size hg.size, fun k hk hne => (hg.block k (Nat.lt_of_lt_of_le hk h.size) hne).trans (h.block k hk hne)⟩
theorem below_grown {w w1 w2 : World} {row : Option Nat} {B : Nat} (h : Below B w w1) (hg : w1.grownBy w2 row) (hB : B ≤ w1.heap.size) (hr : ∀ k, row = some k → B ≤ k) : Below B w w2 := h.grown hg hB hr

/-- What holds of a memory holds of every one that lies over it. -/
def Keeps (G : World → Prop) : Prop := ∀ w w' : World, G w → Below w.heap.size w w' → G w'
theorem keeps_true : Keeps (fun _ => True) := fun _ _ _ _ => trivial
theorem Keeps.and {G K : World → Prop} (hG : Keeps G) (hK : Keeps K) : Keeps (fun W => G W ∧ K W) := fun w w' h hb => ⟨hG w w' h.1 hb, hK w w' h.2 hb⟩

end Go.Proofs.YtidjebepgpbcnaaGreatDoor

namespace Go.Proofs.YtidjebepgpbcnaaGreatDoor
open Go.RowKit
open Go.Lib (decDigits itoa)

theorem rev_ind {α : Type} {P : List α → Prop} (nil : P []) (snoc : ∀ (l : List α) (b : α), P l → P (l ++ [b])) (l : List α) : P l := by
  have h : ∀ r : List α, P r.reverse := by
    intro r
    induction r with
    | nil => exact nil
    | cons b r ih => rw [List.reverse_cons]; exact snoc _ _ ih
  have := h l.reverse
  rwa [List.reverse_reverse] at this

def isd (b : UInt8) : Bool := decide (48 ≤ b.toNat) && decide (b.toNat ≤ 57)
def dv (l : List UInt8) : Nat := l.foldl (fun n b => 10 * n + (b.toNat - 48)) 0
def canon (l : List UInt8) : Bool := l.all isd && !l.isEmpty && (decide (l.length = 1) || l.head? != some 48)
def numl (l : List UInt8) : Option Nat := if canon l = true ∧ dv l ≤ 999999999 then some (dv l) else none

theorem dv_nil : dv [] = 0 := rfl
theorem dv_snoc (l : List UInt8) (b : UInt8) : dv (l ++ [b]) = 10 * dv l + (b.toNat - 48) := by simp [dv]
theorem digit_byte (b : UInt8) (h : isd b = true) : UInt8.ofNat (48 + (b.toNat - 48)) = b := by
  simp only [isd, Bool.and_eq_true, decide_eq_true_eq] at h
  rw [show 48 + (b.toNat - 48) = b.toNat from by omega]
  simp
theorem digit_lt (b : UInt8) (h : isd b = true) : b.toNat - 48 < 10 := by
  simp only [isd, Bool.and_eq_true, decide_eq_true_eq] at h; omega
theorem isd_ofNat (k : Nat) (h : k < 10) : isd (UInt8.ofNat (48 + k)) = true ∧ (UInt8.ofNat (48 + k)).toNat = 48 + k := by
  have e : (UInt8.ofNat (48 + k)).toNat = 48 + k := UInt8.toNat_ofNat_of_lt' (by show 48 + k < 256; omega)
  refine ⟨?_, e⟩
  simp only [isd, e, Bool.and_eq_true, decide_eq_true_eq]; omega

theorem decDigits_small {u : Nat} (h : u < 10) : decDigits u = [UInt8.ofNat (48 + u)] := by rw [decDigits, dif_pos h]
theorem decDigits_big {u : Nat} (h : ¬ u < 10) : decDigits u = decDigits (u / 10) ++ [UInt8.ofNat (48 + u % 10)] := by rw [decDigits, dif_neg h]

theorem decDigits_facts (u : Nat) : dv (decDigits u) = u ∧ (decDigits u).all isd = true ∧ decDigits u ≠ [] ∧ (0 < u → (decDigits u).head? ≠ some 48) := by
  induction u using Nat.strongRecOn with
  | _ u ih =>
    by_cases h : u < 10
    · obtain ⟨h1, h2⟩ := isd_ofNat u h
      rw [decDigits_small h]
      generalize UInt8.ofNat (48 + u) = c at h1 h2 ⊢
      refine ⟨by simp [dv, h2], by simp [h1], by simp, fun hp hh => ?_⟩
      simp only [List.head?_cons, Option.some.injEq] at hh
      have := congrArg UInt8.toNat hh
      rw [h2] at this
      have e48 : (48 : UInt8).toNat = 48 := rfl
      omega
    · obtain ⟨i1, i2, i3, i4⟩ := ih (u / 10) (by omega)
      obtain ⟨h1, h2⟩ := isd_ofNat (u % 10) (by omega)
      rw [decDigits_big h]
      generalize UInt8.ofNat (48 + u % 10) = c at h1 h2 ⊢
      refine ⟨by rw [dv_snoc, i1, h2]; omega, by simp [List.all_append, i2, h1], by simp, fun _ => ?_⟩
      have := i4 (by omega)
      cases hd : decDigits (u / 10) with
      | nil => exact absurd hd i3
      | cons a r => rw [hd] at this; simpa using this

theorem dv_pow : ∀ (l : List UInt8) (a : UInt8), isd a = true → a ≠ 48 → l.all isd = true → 10 ^ l.length ≤ dv (a :: l) := by
  intro l
  induction l using rev_ind with
  | nil =>
    intro a ha h48 _
    simp only [isd, Bool.and_eq_true, decide_eq_true_eq] at ha
    have : a.toNat ≠ 48 := fun e => h48 (UInt8.toNat_inj.1 e)
    simp [dv]; omega
  | snoc l b ih =>
    intro a ha h48 hl
    rw [List.all_append, Bool.and_eq_true] at hl
    have := ih a ha h48 hl.1
    rw [← List.cons_append, dv_snoc, List.length_append, Nat.pow_add]
    simp only [List.length_singleton, Nat.pow_one]
    omega

theorem decDigits_dv : ∀ (l : List UInt8), canon l = true → decDigits (dv l) = l := by
  intro l
  induction l using rev_ind with
  | nil => intro h; simp [canon] at h
  | snoc l b ih =>
    intro h
    simp only [canon, Bool.and_eq_true, List.all_append] at h
    obtain ⟨⟨⟨h1, h2⟩, _⟩, h4⟩ := h
    have hb : isd b = true := by simpa using h2
    rw [dv_snoc]
    cases l with
    | nil =>
      have := digit_lt b hb
      rw [dv_nil, Nat.mul_zero, Nat.zero_add, decDigits_small this, digit_byte b hb]
      rfl
    | cons a r =>
      have ha : a ≠ 48 := by simpa using h4
      simp only [List.all_cons, Bool.and_eq_true] at h1
      have hp := dv_pow r a h1.1 ha h1.2
      have hp1 : 1 ≤ 10 ^ r.length := Nat.one_le_pow _ _ (by omega)
      have hd := digit_lt b hb
      rw [decDigits_big (by omega)]
      have e1 : (10 * dv (a :: r) + (b.toNat - 48)) / 10 = dv (a :: r) := by omega
      have e2 : (10 * dv (a :: r) + (b.toNat - 48)) % 10 = b.toNat - 48 := by omega
      rw [e1, e2, digit_byte b hb, ih]
      simp only [canon, List.all_cons, h1.1, h1.2, Bool.and_eq_true]
      simp [ha]

theorem canon_dec (u : Nat) : canon (decDigits u) = true := by
  obtain ⟨_, h2, h3, h4⟩ := decDigits_facts u
  simp only [canon, h2, Bool.true_and, Bool.and_eq_true]
  refine ⟨by cases hd : decDigits u <;> simp_all, ?_⟩
  by_cases hu : 0 < u
  · simp [h4 hu]
  · have : u = 0 := by omega
    subst this
    rw [decDigits_small (by omega)]; rfl

/-- Of digits alone, not empty: canonical is what the digits of the value give back. -/
theorem canon_iff (l : List UInt8) : canon l = true ↔ decDigits (dv l) = l := by
  constructor
  · exact decDigits_dv l
  · intro h; rw [← h]; exact canon_dec _

def upc (b : UInt8) : UInt8 := if 97 ≤ b.toNat ∧ b.toNat ≤ 122 then b - 32 else b
def upper (l : List UInt8) : List UInt8 := l.map upc
theorem upc_hit (b : UInt8) (h1 : 97 ≤ (b.toNat : Int)) (h2 : (b.toNat : Int) ≤ 122) : bv (upc b) = .int .u8 ((b.toNat : Int) - 32) := by
  unfold upc bv
  rw [if_pos (by omega)]
  have : (b - 32).toNat = b.toNat - 32 := by
    rw [UInt8.toNat_sub_of_le]
    · rfl
    · rw [UInt8.le_iff_toNat_le]; show 32 ≤ _; omega
  rw [this]
  congr 1
  omega
theorem upc_hit' (b : UInt8) (h1 : 97 ≤ (b.toNat : Int)) (h2 : (b.toNat : Int) ≤ 122) : bv (upc b) = .int .u8 ((b.toNat : Int) - 97 + 65) := by
  rw [upc_hit b h1 h2]; congr 1; omega
theorem upc_miss (b : UInt8) (h : ¬ (97 ≤ (b.toNat : Int) ∧ (b.toNat : Int) ≤ 122)) : upc b = b := by
  unfold upc
  rw [if_neg (by omega)]

theorem strCells_bv (s : List UInt8) : Lib.strCells ⟨s.toArray⟩ = s.map bv := by simp [Lib.strCells]

theorem wpList_appS {w : World} {ops : Array Oper} {rest : List Oper} {o : Oper} {a : Act} {B : Nat} {Q : Exit → Act → World → Prop} (hgd : o.guard = none) (sl x : Operand)
    (ho : o.op = .call { callee := .builtin .append, args := #[sl, x], argTypes := #[90, 9] })
    (W : World) (v : Value) (n : Nat) (l : List UInt8) (hs : a.eval sl = v) (hown : w.ownsRow B 5 1 v n (l.map bv)) (hb : Below B W w) (hB : B ≤ w.heap.size)
    (s : List UInt8) (hx : a.eval x = sv s) (hbytes : n + s.length ≤ 140737488355328)
    (h : ∀ v' w', w'.ownsRow B 5 1 v' (n + s.length) ((l ++ s).map bv) → Below B W w' → w.grownBy w' v.ownBlock → wpList Tryz.prog ops Q rest (a.put o.dst v') w') : wpList Tryz.prog ops Q (o :: rest) a w := by
  obtain ⟨i, hi, hz, h2, h3⟩ := info_parts (show (Tryz.prog.info? 5).map (fun i => (i.zero, i.size, i.bytes)) = some (some (.int .u8 0), 1, 1) from by kernel_rfl)
  have hsz : (ByteArray.mk s.toArray).size = s.length := by show s.toArray.size = _; simp
  refine Lib.wpList_append_own_string w hgd sl x _ _ ho B 5 i Tryz.underlying90 Tryz.underlying9 hi hz h2 h3 v n (l.map bv) hs hown ⟨s.toArray⟩ hx (by unfold maxLen; omega) (by omega) hB ?_
  intro v' w' k1 k2 _
  rw [hsz, strCells_bv, ← List.map_append] at k1
  exact h v' w' k1 (hb.grown k2 hB (fun k hk => (hown.lt k hk).1)) k2

/-- The slice value v reads in w as the list l, m cells an element. -/
structure Rd {α : Type} (m : Nat) (enc : α → List Value) (w : World) (v : Value) (l : List α) : Prop where
  ex : ∃ p cap, v = .slice p l.length cap ∧ (l = [] ∨ ∃ b off, p = some ⟨b, off, none⟩ ∧ b < w.heap.size ∧ ∀ i x, l[i]? = some x → ∀ j u, (enc x)[j]? = some u → w.cell? ⟨b, off + i * m + j, none⟩ = some u)

theorem Rd.below {α : Type} {m : Nat} {enc : α → List Value} {w w' : World} {v : Value} {l : List α} (h : Rd m enc w v l) (hb : Below w.heap.size w w') : Rd m enc w' v l := by
  obtain ⟨p, cap, hv, h | ⟨b, off, hp, hlt, hc⟩⟩ := h.ex
  · exact ⟨p, cap, hv, .inl h⟩
  · exact ⟨p, cap, hv, .inr ⟨b, off, hp, Nat.lt_of_lt_of_le hlt hb.size, fun i x hx j u hu => (hb.cell (p := ⟨b, off + i * m + j, none⟩) hlt).trans (hc i x hx j u hu)⟩⟩

theorem Rd.nil {α : Type} {m : Nat} {enc : α → List Value} {w : World} : Rd m enc w (.slice none 0 0) ([] : List α) := ⟨none, 0, rfl, .inl rfl⟩

theorem flat_at {α : Type} {m : Nat} (enc : α → List Value) : ∀ (l : List α), (∀ x, (enc x).length = m) → ∀ (i : Nat) (x : α), l[i]? = some x → ∀ (j : Nat) (u : Value), (enc x)[j]? = some u → (l.flatMap enc)[i * m + j]? = some u
  | [], _, i, x, h, _, _, _ => by simp at h
  | y :: l, hm, 0, x, h, j, u, hj => by
    simp only [List.getElem?_cons_zero, Option.some.injEq] at h
    subst h
    rw [List.flatMap_cons, Nat.zero_mul, Nat.zero_add, List.getElem?_append_left (List.getElem?_eq_some_iff.1 hj).1]
    exact hj
  | y :: l, hm, i + 1, x, h, j, u, hj => by
    simp only [List.getElem?_cons_succ] at h
    have h2 : (i + 1) * m + j = (enc y).length + (i * m + j) := by rw [hm y, Nat.succ_mul]; omega
    rw [List.flatMap_cons, h2, List.getElem?_append_right (by omega), Nat.add_sub_cancel_left]
    exact flat_at enc l hm i x h j u hj

/-- What the call owns reads as the list. -/
theorem Rd.of_own {α : Type} {m : Nat} {enc : α → List Value} {w : World} {B n : Nat} {e : TypeId} {v : Value} {l : List α} (hm : ∀ x, (enc x).length = m) (hn : l.length = n) (h : w.ownsRow B e m v n (l.flatMap enc)) : Rd m enc w v l := by
  rcases h.2 with ⟨hv, h0⟩ | ⟨g, cap, cur, hv, h1, h2, h3⟩
  · subst h0
    obtain rfl := List.eq_nil_of_length_eq_zero hn
    exact ⟨none, 0, by rw [hv]; rfl, .inl rfl⟩
  · subst hn
    subst hv
    refine ⟨_, cap, rfl, .inr ⟨g, 0, rfl, (Array.getElem?_eq_some_iff.1 h2).1, fun i x hx j u hu => ?_⟩⟩
    have hlen : j < m := by rw [← hm x]; exact (List.getElem?_eq_some_iff.1 hu).1
    have hi : i < l.length := (List.getElem?_eq_some_iff.1 hx).1
    have hlt : i * m + j < l.length * m := by
      have h4 := Nat.mul_le_mul_right m (show i + 1 ≤ l.length by omega)
      rw [Nat.succ_mul] at h4
      omega
    rw [Nat.zero_add, h.cellAt (i * m + j) hlt]
    exact flat_at enc l hm i x hx j u hu

theorem flat_len2 {α : Type} {enc : α → List Value} (hm : ∀ x, (enc x).length = 2) : ∀ (l : List α), (l.flatMap enc).length = l.length * 2
  | [] => rfl
  | a :: l => by rw [List.flatMap_cons, List.length_append, flat_len2 hm l, hm a, List.length_cons]; omega

theorem flat_inv {α : Type} {m : Nat} {enc : α → List Value} (hm : ∀ x, (enc x).length = m) : ∀ (l : List α) (j : Nat) (u : Value), (l.flatMap enc)[j]? = some u → ∃ i x jj, l[i]? = some x ∧ (enc x)[jj]? = some u ∧ j = i * m + jj
  | [], j, u, h => by simp at h
  | a :: l, j, u, h => by
    rw [List.flatMap_cons] at h
    by_cases hj : j < m
    · rw [List.getElem?_append_left (by rw [hm]; exact hj)] at h
      exact ⟨0, a, j, rfl, h, by omega⟩
    · rw [List.getElem?_append_right (by rw [hm]; omega), hm] at h
      obtain ⟨i, x, jj, h1, h2, h3⟩ := flat_inv hm l (j - m) u h
      exact ⟨i + 1, x, jj, by simpa using h1, h2, by rw [Nat.succ_mul]; omega⟩
theorem flat_lenE {α : Type} {enc : α → List Value} {m : Nat} (hm : ∀ x, (enc x).length = m) : ∀ (l : List α), (l.flatMap enc).length = l.length * m
  | [] => by simp
  | a :: l => by rw [List.flatMap_cons, List.length_append, flat_lenE hm l, hm a, List.length_cons, Nat.succ_mul]; omega

section
variable {P : Program}
theorem run_append_none (w : World) (t ty e : TypeId) (i : TypeInfo) (ht : P.underlying t = some (.slice e)) (hi : P.info? e = some i) (base : Option Addr) (n cap c : Nat) (hle : n ≤ cap) :
    (Builtin.append_ #[t, t] ty #[.slice base n cap, .slice none 0 c]).run P w = .ok (.slice base n cap) w := by
  cases base <;> simp [Builtin.append_, run_underlying ht, sizeOf, typeInfo, hi, Builtin.lenOf, Builtin.firstCells, hle, storeCells]

theorem wp_appR {α : Type} {w : World} {o : Oper} {a : Act} {t e : TypeId} {size bytes B : Nat} {K : Act → World → Prop} {Q : Exit → Act → World → Prop} {enc : α → List Value} (E : Elem P t e size bytes) (hm : ∀ x, (enc x).length = size) (h1 : ∀ x, ∀ u ∈ enc x, u.oneCell' = true) (s x : Operand) (ho : o.op = .call { callee := .builtin .append, args := #[s, x], argTypes := #[t, t] })
    (W : World) (v : Value) (n : Nat) (xs : List Value) (hs : a.eval s = v) (hown : w.ownsRow B e size v n xs) (hb : Below B W w) (hB : B ≤ w.heap.size)
    (u : Value) (l : List α) (hx : a.eval x = u) (hu : Rd size enc w u l) (hbytes : (n + l.length) * bytes ≤ 140737488355328) (h63 : n + l.length ≤ 140737488355328)
    (h : ∀ v' w', w'.ownsRow B e size v' (n + l.length) (xs ++ l.flatMap enc) → Below B W w' → w.grownBy w' v.ownBlock → K (a.put o.dst v') w') : o.wp P a w K Q := by
  obtain ⟨ht, ⟨i, z, hi, hz, h2, h3, h4⟩, hp⟩ := E
  obtain ⟨p, c, rfl, hc⟩ := hu.ex
  cases p with
  | none =>
    have hl : l = [] := hc.resolve_right (by rintro ⟨_, _, h, _⟩; cases h)
    subst hl
    have hform : ∃ base cap, v = .slice base n cap ∧ n ≤ cap := by
      rcases hown.2 with ⟨hv, h0⟩ | ⟨g, cap, cur, hv, _, _, hn, _⟩
      · exact ⟨none, 0, by rw [hv, h0], by omega⟩
      · exact ⟨_, cap, hv, hn⟩
    obtain ⟨base, cap, rfl, hle⟩ := hform
    have hr := run_append_none (P := P) w t o.type e i ht hi base n cap c hle
    have hx0 : a.eval x = .slice none 0 c := hx
    unfold Oper.wp execOp
    simp only [ho, resolve, invoke, builtin, Sem.run_bind, Sem.run_pure, Result.andThen_ok, List.map_toArray, List.map_cons, List.map_nil, hs, hx0, hr]
    exact h _ w (by simpa using hown) hb ⟨rfl, rfl, rfl, Nat.le_refl _, fun _ _ _ => rfl⟩
  | some ad =>
    refine wp_append_own w s x t ho B e i z size bytes ht hi hz h2 h3 h4 hp v n xs hs hown ad l.length c (l.flatMap enc) hx (flat_lenE hm l) ?_ ?_ (by unfold maxLen; omega) hbytes hB ?_
    · intro j u hj
      obtain ⟨i, x, jj, h5, h6, rfl⟩ := flat_inv hm l j u hj
      rcases hc with hl | ⟨b, off, hpp, hlt, hcc⟩
      · rw [hl] at h5; simp at h5
      · injection hpp with hpp
        subst hpp
        have := hcc i x h5 jj u h6
        have hadd : (⟨b, off, none⟩ : Addr).add (i * size + jj) = ⟨b, off + i * size + jj, none⟩ := by
          simp only [Addr.add_lit, Nat.add_assoc]
        rw [hadd]
        exact this
    · intro u hu
      obtain ⟨x, _, hx⟩ := List.mem_flatMap.1 hu
      exact h1 x u hx
    · intro v' w' k1 k2 _
      exact h v' w' k1 (hb.grown k2 hB (fun k hk => (hown.lt k hk).1)) k2
end

end Go.Proofs.YtidjebepgpbcnaaGreatDoor

namespace Go.Proofs.YtidjebepgpbcnaaGreatDoor
open Go.RowKit
open Go.Lib (decDigits itoa)

theorem decDigits_length_le (n : Nat) (h : n ≤ 9223372036854775807) : (decDigits n).length ≤ 21 := by
  have := Lib.itoa_length_le (n : Int) (by omega) (by omega)
  rwa [Lib.itoa_nonneg] at this

/-- One digit more in front. -/
theorem dec_step {m n : Nat} {l : List UInt8} (_hm0 : ¬ m = 0) (h : decDigits m ++ l = decDigits n) :
    (m / 10 = 0 → UInt8.ofNat (48 + m % 10) :: l = decDigits n) ∧ (0 < m / 10 → decDigits (m / 10) ++ UInt8.ofNat (48 + m % 10) :: l = decDigits n) := by
  constructor
  · intro hz
    have : m < 10 := by omega
    rw [decDigits_small this] at h
    rw [Nat.mod_eq_of_lt this]
    exact h
  · intro hz
    rw [decDigits_big (by omega), List.append_assoc] at h
    exact h

set_option maxHeartbeats 400000 in
/-- The model's Digits of a number that is not negative. -/
theorem specDigits_nat (n : Nat) (w : World) (hn : n ≤ 9223372036854775807) :
    Calls Tryz.prog 84 #[.int .i64 n] w fun e w' => e = .returned (.string ⟨(decDigits n).toArray⟩) ∧ Below w.heap.size w w' := by
  by_cases h0 : n = 0
  · subst h0
    go_enter Tryz.func84, Tryz.ntmps84
    go_wp2
    go_ret
    exact ⟨by rw [show decDigits 0 = [48] from by rw [decDigits_small (by omega)]; rfl]; rfl, Below.refl _ _⟩
  · have hb0 : ((n : Int) == 0) = false := by simp; omega
    have hl0 : ¬ (n : Int) < 0 := by omega
    go_enter Tryz.func84, Tryz.ntmps84
    go_wp2
    go_loopw [0, 4, 5] (fun x out _ wr => ∃ (m : Nat) (l : List UInt8), m ≤ n ∧ x = .int .i64 m ∧ out = .string ⟨l.toArray⟩ ∧ (m = 0 → l = decDigits n) ∧ (0 < m → decDigits m ++ l = decDigits n) ∧ Below w.heap.size w wr) (fun x _ _ _ => (intOf x).toNat)
    case atStart => exact ⟨n, [], by omega, rfl, rfl, by omega, by simp, Below.refl _ _⟩
    case round =>
      obtain ⟨m, l, hm, rfl, rfl, hz, hp, hbr⟩ := hrel
      have Hz := Lib.hid hz
      have Hp := Lib.hid hp
      clear hz hp hb0 hl0
      have hbr0 := hbr.size
      by_cases hm0 : m = 0
      · have hb0 : ((m : Int) != 0) = false := by simp; omega
        have hl := Lib.hid (Hz.out hm0)
        clear hm0
        go_wp2
        go_ret
        exact ⟨by rw [hl.out]; rfl, hbr⟩
      · have hb0 : ((m : Int) != 0) = true := by simp; omega
        have ht : ((m : Int)).tmod 10 = ((m % 10 : Nat) : Int) := by rw [Int.tmod_eq_emod_of_nonneg (by omega)]; omega
        have hq : ((m : Int)).tdiv 10 = ((m / 10 : Nat) : Int) := by rw [Int.tdiv_eq_ediv_of_nonneg (by omega)]; omega
        have ht0 : m % 10 < 10 := by omega
        have hcv := fun W g hc => conv_back1 (P := Tryz.prog) 90 9 5 Tryz.underlying90 Tryz.underlying5 Tryz.underlying9 (48 + (m : Int) % 10) (by omega) (by omega) 1 W g hc
        have hst := Lib.hid (dec_step hm0 (Hp.out (by omega)))
        have hlen : l.length ≤ 21 := by
          have := decDigits_length_le n hn
          rw [← Hp.out (by omega), List.length_append] at this
          omega
        have he8 : (48 : UInt8) + UInt8.ofNat (m % 10) = UInt8.ofNat (48 + m % 10) := by
          apply UInt8.toNat_inj.1
          simp
        have He8 := Lib.hid he8
        clear he8
        go_wp2
        go_roundw
        case rel =>
          refine ⟨m / 10, _ :: l, by omega, by go_num, ?_, hst.out.1, hst.out.2, hbr.alloc hbr0 _⟩
          rw [← He8.out]
          rfl
        case measure => simp [intOf]; omega

set_option maxHeartbeats 400000 in
theorem eqStringS_same (a b : Value) (l : List (List UInt8)) (w : World) (ha : Rd1 sv w a l) (hb : Rd1 sv w b l) (hl : l.length ≤ 140737488355328) :
    Calls Tryz.prog 118 #[a, b] w fun e w' => e = .returned (.bool true) ∧ Below w.heap.size w w' := by
  obtain ⟨p, c1, rfl, hp⟩ := ha.ex
  obtain ⟨q, c2, rfl, hq⟩ := hb.ex
  clear ha hb
  have HP := Lib.hid hp
  have HQ := Lib.hid hq
  clear hp hq
  go_enter Tryz.func118, Tryz.ntmps118
  go_wp2
  go_loopw [5] (fun i wr => ∃ k : Nat, k ≤ l.length ∧ i = .int .i64 k ∧ Below w.heap.size w wr) (fun i _ => l.length - (intOf i).toNat)
  case atStart => exact ⟨0, by omega, rfl, Below.refl _ _⟩
  case round =>
    obtain ⟨k, hk, rfl, hbr⟩ := hrel
    by_cases hlt : k < l.length
    · obtain ⟨b1, o1, rfl, hb1, hc1⟩ := HP.out.resolve_left (by intro h; subst h; simp at hlt)
      obtain ⟨b2, o2, rfl, hb2, hc2⟩ := HQ.out.resolve_left (by intro h; subst h; simp at hlt)
      obtain ⟨x, hx⟩ : ∃ x, l[k]? = some x := ⟨_, List.getElem?_eq_getElem hlt⟩
      have e1 : wr.cell? ⟨b1, o1 + k, none⟩ = some (sv x) := (hbr.cell (p := ⟨b1, o1 + k, none⟩) hb1).trans (hc1 k x hx)
      have e2 : wr.cell? ⟨b2, o2 + k, none⟩ = some (sv x) := (hbr.cell (p := ⟨b2, o2 + k, none⟩) hb2).trans (hc2 k x hx)
      clear hc1 hc2 hx HP HQ
      go_wp2
      refine ord_start [(0, true), (1, true), (2, true), (3, true), (4, true), (5, true), (6, true), (7, true), (8, true)] (fun W => W.cell? ⟨b1, o1 + k, none⟩ = some (sv x) ∧ W.cell? ⟨b2, o2 + k, none⟩ = some (sv x)) (by kernel_rfl) (by kernel_rfl) rfl (by kernel_rfl) ?_
      intro ops' hops
      clear hops
      simp only [List.map_cons, List.map_nil, pickOp_zero, pickOp_succ]
      iterate 9 (refine ord_flo ?_ (fun _ _ _ h => h) rfl ?_ ⟨e1, e2⟩ ?_; rotate_left; focus (intro W hS; obtain ⟨s1, s2⟩ := hS; go_simp; rfl))
      refine ord_done ?_
      go_simp
      go_wp2
      go_roundw
      case rel => exact ⟨k + 1, by omega, by go_num, hbr.drew⟩
      case measure => simp [intOf]; omega
    · obtain rfl : k = l.length := by omega
      go_wp2
      go_ret
      exact ⟨rfl, hbr⟩

/-- The law's mark number k. -/
def markB (k : Nat) : List UInt8 := if k = 0 then [109, 48] else 109 :: decDigits k

set_option maxHeartbeats 400000 in
theorem markText_any (n : Nat) (w : World) (hn : n ≤ 9223372036854775807) :
    Calls Tryz.prog 39 #[.int .i64 n] w fun e w' => e = .returned (sv (markB n)) ∧ Below w.heap.size w w' := by
  by_cases h0 : n = 0
  · subst h0
    go_enter Tryz.func39, Tryz.ntmps39
    go_wp2
    go_ret
    exact ⟨rfl, Below.refl _ _⟩
  · have HM := Lib.hid (show markB n = 109 :: decDigits n from if_neg h0)
    have hl0 : ¬ (n : Int) ≤ 0 := by omega
    go_enter Tryz.func39, Tryz.ntmps39
    go_wp2
    go_loopw [0, 3] (fun x out wr => ∃ (m : Nat) (l : List UInt8), m ≤ n ∧ x = .int .i64 m ∧ out = sv l ∧ (m = 0 → l = decDigits n) ∧ (0 < m → decDigits m ++ l = decDigits n) ∧ Below w.heap.size w wr) (fun x _ _ => (intOf x).toNat)
    case atStart => exact ⟨n, [], by omega, rfl, rfl, by omega, by simp, Below.refl _ _⟩
    case round =>
      obtain ⟨m, l, hm, rfl, rfl, hz, hp, hbr⟩ := hrel
      have Hz := Lib.hid hz
      have Hp := Lib.hid hp
      clear hz hp hl0
      have hbr0 := hbr.size
      by_cases hm0 : m = 0
      · have hl := Lib.hid (Hz.out hm0)
        have hl1 : ¬ (0 : Int) < (m : Int) := by omega
        have hlen : l.length ≤ 21 := by rw [hl.out]; exact decDigits_length_le n hn
        clear hm0
        go_wp2
        go_ret
        refine ⟨?_, hbr⟩
        rw [HM.out, ← hl.out]
        rfl
      · have hl1 : (0 : Int) < (m : Int) := by omega
        have ht : ((m : Int)).tmod 10 = ((m % 10 : Nat) : Int) := by rw [Int.tmod_eq_emod_of_nonneg (by omega)]; omega
        have hq : ((m : Int)).tdiv 10 = ((m / 10 : Nat) : Int) := by rw [Int.tdiv_eq_ediv_of_nonneg (by omega)]; omega
        have ht0 : m % 10 < 10 := by omega
        have hcv := fun W g hc => conv_back1 (P := Tryz.prog) 90 9 5 Tryz.underlying90 Tryz.underlying5 Tryz.underlying9 (48 + (m : Int) % 10) (by omega) (by omega) 1 W g hc
        have hst := Lib.hid (dec_step hm0 (Hp.out (by omega)))
        have hlen : l.length ≤ 21 := by
          have := decDigits_length_le n hn
          rw [← Hp.out (by omega), List.length_append] at this
          omega
        have he8 : (48 : UInt8) + UInt8.ofNat (m % 10) = UInt8.ofNat (48 + m % 10) := by
          apply UInt8.toNat_inj.1
          simp
        have He8 := Lib.hid he8
        clear he8
        go_wp2
        go_roundw
        case rel =>
          refine ⟨m / 10, _ :: l, by omega, by go_num, ?_, hst.out.1, hst.out.2, hbr.alloc hbr0 _⟩
          rw [← He8.out]
          rfl
        case measure => simp [intOf]; omega

/-- The marks from number k on, as many as n. -/
def marks (k n : Nat) : List (List UInt8) := (List.range n).map fun i => markB (k + i)
theorem marks_length (k n : Nat) : (marks k n).length = n := by simp [marks]
theorem marks_at (k n i : Nat) (h : i < n) : (marks k n)[i]? = some (markB (k + i)) := by simp [marks, h]
/-- The first j elements marked. -/
def marked (l : List (List UInt8)) (k j : Nat) : List (List UInt8) := marks k j ++ l.drop j
theorem marked_zero (l : List (List UInt8)) (k : Nat) : marked l k 0 = l := by simp [marked, marks]
theorem marked_all (l : List (List UInt8)) (k : Nat) : marked l k l.length = marks k l.length := by simp [marked]
theorem marked_length (l : List (List UInt8)) (k j : Nat) (h : j ≤ l.length) : (marked l k j).length = l.length := by simp [marked, marks_length]; omega
theorem marked_set (l : List (List UInt8)) (k j : Nat) (h : j < l.length) : (marked l k j).set j (markB (k + j)) = marked l k (j + 1) := by
  unfold marked
  rw [List.set_append_right _ _ (by rw [marks_length]; omega), marks_length, Nat.sub_self, List.drop_eq_getElem_cons h, List.set_cons_zero]
  have : marks k (j + 1) = marks k j ++ [markB (k + j)] := by simp [marks, List.range_succ]
  rw [this, List.append_assoc]
  rfl

set_option maxHeartbeats 400000 in
theorem markStringS_any (v : Value) (l : List (List UInt8)) (kk : Int) (k B : Nat) (hkk : kk = (k : Int)) (w : World) (hown : w.ownsRow B 9 1 v l.length (l.map sv)) (hk : k ≤ 1000000000000) (hl : l.length ≤ 1000000000000) :
    Calls Tryz.prog 101 #[v, .int .i64 kk] w fun e w' => e = .returned (.int .i64 (k + l.length : Nat)) ∧ w'.ownsRow B 9 1 v l.length ((marks k l.length).map sv) ∧ w.grownBy w' v.ownBlock := by
  subst hkk
  have hex : ∃ p c, v = .slice p l.length c ∧ (0 < l.length → ∃ g, p = some ⟨g, 0, none⟩) := by
    rcases h : hown.2 with ⟨hv, h0⟩ | ⟨g, cap, cur, hv, _⟩
    · exact ⟨none, 0, by rw [hv, h0], fun h => by omega⟩
    · exact ⟨_, cap, hv, fun _ => ⟨g, rfl⟩⟩
  obtain ⟨p, c, rfl, hp⟩ := hex
  have HP := Lib.hid hp
  clear hp
  go_enter Tryz.func101, Tryz.ntmps101
  go_wp2
  go_loopw [1, 5] (fun kk i wr => ∃ j : Nat, j ≤ l.length ∧ i = .int .i64 j ∧ kk = .int .i64 (k + j : Nat) ∧ wr.ownsRow B 9 1 (.slice p l.length c) l.length ((marked l k j).map sv) ∧ w.grownBy wr (Value.ownBlock (.slice p l.length c))) (fun _ i _ => l.length - (intOf i).toNat)
  case atStart => exact ⟨0, by omega, rfl, rfl, by rw [marked_zero]; exact hown, World.grownBy.refl _ _⟩
  case round =>
    obtain ⟨j, hj, rfl, rfl, hor, hgr⟩ := hrel
    clear hown
    by_cases hlt : j < l.length
    · obtain ⟨g, rfl⟩ := HP.out (by omega)
      have hml : ((marked l k j).map sv).length = l.length := by rw [List.length_map, marked_length l k j hj]
      have Hml := Lib.hid hml
      clear hml HP
      go_wp2_with fail
      refine (markText_any (k + j) _ (by omega)).mono ?_
      rintro e w1 ⟨rfl, hb1⟩
      have ho1 := ownsRow_below hor hb1
      have hc1 : ∃ u, w1.cell? ⟨g, j, none⟩ = some u := by
        have := ho1.cellAt j (by omega)
        rw [this]
        exact ⟨_, List.getElem?_eq_getElem (by rw [Hml.out]; omega)⟩
      obtain ⟨u, hu⟩ := hc1
      have hf1 := ho1.frozenAt j
      go_wp2
      go_roundw
      case rel =>
        refine ⟨j + 1, by omega, by go_num, by go_num, ?_, ?_⟩
        · have := ho1.stored j (sv (markB (k + j)))
          rw [← List.map_set, marked_set l k j hlt] at this
          exact this.1
        · have := ho1.stored j (sv (markB (k + j)))
          exact grown_grown (grown_below hgr hb1) this.2
      case measure => simp [intOf]; omega
    · obtain rfl : j = l.length := by omega
      rw [marked_all] at hor
      go_wp2
      go_ret
      exact ⟨rfl, hor, hgr⟩

/-- A leaf is one cell. 'rows e m n flat': n elements of type e, m cells each, their leaves one behind the other. -/
inductive Lf where
  | int (n : Int)
  | bool (b : Bool)
  | str (l : List UInt8)
  | rows (e : TypeId) (m n : Nat) (flat : List Lf)

mutual
/-- The value reads as the leaf. -/
def LfRd (W : World) : Lf → Value → Prop
  | .int n, v => v = .int .i64 n
  | .bool b, v => v = .bool b
  | .str l, v => v = sv l
  | .rows _ m n flat, v => flat.length = n * m ∧ ∃ p cap, v = .slice p n cap ∧ (n = 0 ∨ ∃ b off, p = some ⟨b, off, none⟩ ∧ b < W.heap.size ∧ ∃ xs : List Value, (∀ j u, xs[j]? = some u → W.cell? ⟨b, off + j, none⟩ = some u) ∧ LsRd W flat xs)
def LsRd (W : World) : List Lf → List Value → Prop
  | [], vs => vs = []
  | x :: xs, vs => ∃ v us, vs = v :: us ∧ LfRd W x v ∧ LsRd W xs us
end

mutual
/-- The value is the leaf, in memory of the call's own: fp are the blocks. -/
def LfIn (W : World) : Lf → Value → List Nat → Prop
  | .int n, v, fp => v = .int .i64 n ∧ fp = []
  | .bool b, v, fp => v = .bool b ∧ fp = []
  | .str l, v, fp => v = sv l ∧ fp = []
  | .rows e m n flat, v, fp => flat.length = n * m ∧ ∃ xs fq, W.ownsRow 0 e m v n xs ∧ LsIn W flat xs fq ∧ fp = v.ownBlock.toList ++ fq
def LsIn (W : World) : List Lf → List Value → List Nat → Prop
  | [], vs, fp => vs = [] ∧ fp = []
  | x :: xs, vs, fp => ∃ v us f1 f2, vs = v :: us ∧ LfIn W x v f1 ∧ LsIn W xs us f2 ∧ fp = f1 ++ f2
end

mutual
theorem LfRd.below {W W' : World} (hb : Below W.heap.size W W') : ∀ (x : Lf) (v : Value), LfRd W x v → LfRd W' x v
  | .int _, _, h => h
  | .bool _, _, h => h
  | .str _, _, h => h
  | .rows _ m n flat, v, h => by
    obtain ⟨hl, p, cap, hv, h0 | ⟨b, off, hp, hlt, xs, hc, hx⟩⟩ := h
    · exact ⟨hl, p, cap, hv, .inl h0⟩
    · exact ⟨hl, p, cap, hv, .inr ⟨b, off, hp, Nat.lt_of_lt_of_le hlt hb.size, xs, fun j u hu => (hb.cell (p := ⟨b, off + j, none⟩) hlt).trans (hc j u hu), LsRd.below hb flat xs hx⟩⟩
theorem LsRd.below {W W' : World} (hb : Below W.heap.size W W') : ∀ (xs : List Lf) (vs : List Value), LsRd W xs vs → LsRd W' xs vs
  | [], _, h => h
  | x :: xs, _, h => by
    obtain ⟨v, us, hv, h1, h2⟩ := h
    exact ⟨v, us, hv, LfRd.below hb x v h1, LsRd.below hb xs us h2⟩
end

theorem own_frame {W W' : World} {B m n : Nat} {e : TypeId} {v : Value} {xs : List Value} (h : W.ownsRow B e m v n xs) (hf : ∀ k, v.ownBlock = some k → W'.heap[k]? = W.heap[k]?) : W'.ownsRow B e m v n xs := by
  refine ⟨h.1, ?_⟩
  rcases h.2 with h0 | ⟨g, cap, cur, hv, h1, h2, h3⟩
  · exact .inl h0
  · exact .inr ⟨g, cap, cur, hv, h1, (hf g (by rw [hv]; rfl)).trans h2, h3⟩

mutual
theorem LfIn.frame {W W' : World} : ∀ (x : Lf) (v : Value) (fp : List Nat), (∀ k ∈ fp, W'.heap[k]? = W.heap[k]?) → LfIn W x v fp → LfIn W' x v fp
  | .int _, _, _, _, h => h
  | .bool _, _, _, _, h => h
  | .str _, _, _, _, h => h
  | .rows e m n flat, v, fp, hf, h => by
    obtain ⟨hl, xs, fq, ho, hx, rfl⟩ := h
    exact ⟨hl, xs, fq, own_frame ho (fun k hk => hf k (by rw [hk]; simp)), LsIn.frame flat xs fq (fun k hk => hf k (by simp [hk])) hx, rfl⟩
theorem LsIn.frame {W W' : World} : ∀ (xs : List Lf) (vs : List Value) (fp : List Nat), (∀ k ∈ fp, W'.heap[k]? = W.heap[k]?) → LsIn W xs vs fp → LsIn W' xs vs fp
  | [], _, _, _, h => h
  | x :: xs, vs, fp, hf, h => by
    obtain ⟨v, us, f1, f2, hv, h1, h2, rfl⟩ := h
    exact ⟨v, us, f1, f2, hv, LfIn.frame x v f1 (fun k hk => hf k (by simp [hk])) h1, LsIn.frame xs us f2 (fun k hk => hf k (by simp [hk])) h2, rfl⟩
end

mutual
theorem LfIn.lt {W : World} : ∀ (x : Lf) (v : Value) (fp : List Nat), LfIn W x v fp → ∀ k ∈ fp, k < W.heap.size
  | .int _, _, _, h, k, hk => by rw [h.2] at hk; cases hk
  | .bool _, _, _, h, k, hk => by rw [h.2] at hk; cases hk
  | .str _, _, _, h, k, hk => by rw [h.2] at hk; cases hk
  | .rows e m n flat, v, fp, h, k, hk => by
    obtain ⟨hl, xs, fq, ho, hx, rfl⟩ := h
    rcases List.mem_append.1 hk with hk | hk
    · exact (ho.lt k (by simpa using hk)).2
    · exact LsIn.lt flat xs fq hx k hk
theorem LsIn.lt {W : World} : ∀ (xs : List Lf) (vs : List Value) (fp : List Nat), LsIn W xs vs fp → ∀ k ∈ fp, k < W.heap.size
  | [], _, _, h, k, hk => by rw [h.2] at hk; cases hk
  | x :: xs, vs, fp, h, k, hk => by
    obtain ⟨v, us, f1, f2, hv, h1, h2, rfl⟩ := h
    rcases List.mem_append.1 hk with hk | hk
    · exact LfIn.lt x v f1 h1 k hk
    · exact LsIn.lt xs us f2 h2 k hk
end

mutual
theorem LfIn.rd {W : World} : ∀ (x : Lf) (v : Value) (fp : List Nat), LfIn W x v fp → LfRd W x v
  | .int _, _, _, h => h.1
  | .bool _, _, _, h => h.1
  | .str _, _, _, h => h.1
  | .rows e m n flat, v, fp, h => by
    obtain ⟨hl, xs, fq, ho, hx, rfl⟩ := h
    refine ⟨hl, ?_⟩
    rcases ho.2 with ⟨hv, h0⟩ | ⟨g, cap, cur, hv, h1, h2, h3⟩
    · exact ⟨none, 0, by rw [hv, h0], .inl h0⟩
    · subst hv
      refine ⟨_, cap, rfl, .inr ⟨g, 0, rfl, (Array.getElem?_eq_some_iff.1 h2).1, xs, fun j u hu => ?_, LsIn.rd flat xs fq hx⟩⟩
      have hj : j < xs.length := (List.getElem?_eq_some_iff.1 hu).1
      rw [Nat.zero_add, ho.cellAt j (by rw [← ho.1]; exact hj), hu]
theorem LsIn.rd {W : World} : ∀ (xs : List Lf) (vs : List Value) (fp : List Nat), LsIn W xs vs fp → LsRd W xs vs
  | [], _, _, h => h.1
  | x :: xs, vs, fp, h => by
    obtain ⟨v, us, f1, f2, hv, h1, h2, rfl⟩ := h
    exact ⟨v, us, hv, LfIn.rd x v f1 h1, LsIn.rd xs us f2 h2⟩
end

theorem LsRd.length {W : World} : ∀ {xs : List Lf} {vs : List Value}, LsRd W xs vs → vs.length = xs.length
  | [], _, h => by rw [h]; rfl
  | _ :: xs, _, h => by obtain ⟨v, us, rfl, _, h2⟩ := h; simp [LsRd.length h2]
theorem LsRd.append {W : World} : ∀ {a b : List Lf} {vs : List Value}, LsRd W (a ++ b) vs ↔ ∃ u1 u2, vs = u1 ++ u2 ∧ LsRd W a u1 ∧ LsRd W b u2
  | [], b, vs => ⟨fun h => ⟨[], vs, rfl, rfl, h⟩, fun ⟨u1, u2, h1, h2, h3⟩ => by rw [h1, h2]; exact h3⟩
  | x :: a, b, vs => by
    constructor
    · rintro ⟨v, us, rfl, h1, h2⟩
      obtain ⟨u1, u2, rfl, h3, h4⟩ := LsRd.append.1 h2
      exact ⟨v :: u1, u2, rfl, ⟨v, u1, rfl, h1, h3⟩, h4⟩
    · rintro ⟨u1, u2, rfl, ⟨v, us, rfl, h1, h2⟩, h3⟩
      exact ⟨v, us ++ u2, rfl, h1, LsRd.append.2 ⟨us, u2, rfl, h2, h3⟩⟩
theorem LsIn.length {W : World} : ∀ {xs : List Lf} {vs : List Value} {fp : List Nat}, LsIn W xs vs fp → vs.length = xs.length
  | [], _, _, h => by rw [h.1]; rfl
  | _ :: xs, _, _, h => by obtain ⟨v, us, _, _, rfl, _, h2, _⟩ := h; simp [LsIn.length h2]
theorem LsIn.append {W : World} : ∀ {a b : List Lf} {vs : List Value} {fp : List Nat}, LsIn W (a ++ b) vs fp ↔ ∃ u1 u2 f1 f2, vs = u1 ++ u2 ∧ LsIn W a u1 f1 ∧ LsIn W b u2 f2 ∧ fp = f1 ++ f2
  | [], b, vs, fp => ⟨fun h => ⟨[], vs, [], fp, rfl, ⟨rfl, rfl⟩, h, rfl⟩, fun ⟨u1, u2, f1, f2, h1, h2, h3, h4⟩ => by rw [h1, h2.1, h4, h2.2]; exact h3⟩
  | x :: a, b, vs, fp => by
    constructor
    · rintro ⟨v, us, f1, f2, rfl, h1, h2, rfl⟩
      obtain ⟨u1, u2, f3, f4, rfl, h3, h4, rfl⟩ := LsIn.append.1 h2
      exact ⟨v :: u1, u2, f1 ++ f3, f4, rfl, ⟨v, u1, f1, f3, rfl, h1, h3, rfl⟩, h4, by rw [List.append_assoc]⟩
    · rintro ⟨u1, u2, f1, f2, rfl, ⟨v, us, f3, f4, rfl, h1, h2, rfl⟩, h3, rfl⟩
      exact ⟨v, us ++ u2, f3, f4 ++ f2, rfl, h1, LsIn.append.2 ⟨us, u2, f4, f2, rfl, h2, h3, rfl⟩, by rw [List.append_assoc]⟩

/-- A tree of the call's own: its blocks are apart from each other, none below lo. -/
structure Tree (W : World) (lo : Nat) (x : Lf) (v : Value) (fp : List Nat) : Prop where
  is : LfIn W x v fp
  nodup : fp.Nodup
  low : ∀ k ∈ fp, lo ≤ k
theorem Tree.below {W W' : World} {lo : Nat} {x : Lf} {v : Value} {fp : List Nat} (h : Tree W lo x v fp) (hb : Below W.heap.size W W') : Tree W' lo x v fp :=
  ⟨h.is.frame x v fp (fun k hk => hb.block k (LfIn.lt x v fp h.is k hk)), h.nodup, h.low⟩
theorem Tree.rd {W : World} {lo : Nat} {x : Lf} {v : Value} {fp : List Nat} (h : Tree W lo x v fp) : LfRd W x v := h.is.rd
theorem Tree.lt {W : World} {lo : Nat} {x : Lf} {v : Value} {fp : List Nat} (h : Tree W lo x v fp) : ∀ k ∈ fp, k < W.heap.size := LfIn.lt x v fp h.is

/-- What was changed lies in the blocks fp, or is new. -/
structure GrownIn (W W' : World) (fp : List Nat) : Prop where
  os : W'.os = W.os
  tape : W'.tape = W.tape
  output : W'.output = W.output
  size : W.heap.size ≤ W'.heap.size
  block : ∀ k, k < W.heap.size → k ∉ fp → W'.heap[k]? = W.heap[k]?
theorem GrownIn.trans {W W1 W2 : World} {fp : List Nat} (h : GrownIn W W1 fp) (k : GrownIn W1 W2 fp) : GrownIn W W2 fp :=
  ⟨k.os.trans h.os, k.tape.trans h.tape, k.output.trans h.output, Nat.le_trans h.size k.size, fun i hi hn => (k.block i (Nat.lt_of_lt_of_le hi h.size) hn).trans (h.block i hi hn)⟩
theorem GrownIn.mono {W W' : World} {fp fq : List Nat} (h : GrownIn W W' fp) (hs : ∀ k ∈ fp, k ∈ fq) : GrownIn W W' fq := ⟨h.os, h.tape, h.output, h.size, fun k hk hn => h.block k hk (fun hm => hn (hs k hm))⟩
theorem GrownIn.of_below {W W' : World} {fp : List Nat} (h : Below W.heap.size W W') : GrownIn W W' fp := ⟨h.os, h.tape, h.output, h.size, fun k hk _ => h.block k hk⟩
theorem GrownIn.below {W0 W W' : World} {B : Nat} {fp : List Nat} (h : Below B W0 W) (hg : GrownIn W W' fp) (hB : B ≤ W.heap.size) (hf : ∀ k ∈ fp, B ≤ k) : Below B W0 W' :=
  h.trans ⟨hg.os, hg.tape, hg.output, hg.size, fun k hk => hg.block k (Nat.lt_of_lt_of_le hk hB) (fun hm => by have := hf k hm; omega)⟩
/-- Another tree stands. -/
theorem Tree.apart {W W' : World} {lo : Nat} {x : Lf} {v : Value} {fp fq : List Nat} (h : Tree W lo x v fp) (hg : GrownIn W W' fq) (hd : ∀ k ∈ fp, k ∉ fq) : Tree W' lo x v fp :=
  ⟨h.is.frame x v fp (fun k hk => hg.block k (h.lt k hk) (hd k hk)), h.nodup, h.low⟩

mutual
def markLf : Lf → Nat → Lf × Nat
  | .int _, k => (.int (k : Int), k + 1)
  | .bool _, k => (.bool (k % 3 == 0), k + 1)
  | .str _, k => (.str (markB k), k + 1)
  | .rows e m n flat, k => ((.rows e m n (markLs flat k).1), (markLs flat k).2)
def markLs : List Lf → Nat → List Lf × Nat
  | [], k => ([], k)
  | x :: xs, k => ((markLf x k).1 :: (markLs xs (markLf x k).2).1, (markLs xs (markLf x k).2).2)
end
theorem markLs_length : ∀ (xs : List Lf) (k : Nat), (markLs xs k).1.length = xs.length
  | [], _ => by simp [markLs]
  | x :: xs, k => by simp [markLs, markLs_length xs]
theorem markLs_append : ∀ (a b : List Lf) (k : Nat), markLs (a ++ b) k = ((markLs a k).1 ++ (markLs b (markLs a k).2).1, (markLs b (markLs a k).2).2)
  | [], b, k => by simp [markLs]
  | x :: a, b, k => by simp [markLs, markLs_append a b]

mutual
def szLf : Lf → Nat
  | .int _ => 0
  | .bool _ => 0
  | .str l => l.length
  | .rows _ _ n flat => n + szLs flat
def szLs : List Lf → Nat
  | [] => 0
  | x :: xs => szLf x + szLs xs
end
theorem szLs_append : ∀ (a b : List Lf), szLs (a ++ b) = szLs a + szLs b
  | [], b => by simp [szLs]
  | x :: a, b => by simp [szLs, szLs_append a b]; omega

theorem rows_cells {W : World} {α : Type} {enc : α → List Lf} {m : Nat} (hm : ∀ x, (enc x).length = m) : ∀ (l : List α) (xs : List Value), LsRd W (l.flatMap enc) xs → ∀ i x, l[i]? = some x → ∃ us, LsRd W (enc x) us ∧ ∀ j u, us[j]? = some u → xs[i * m + j]? = some u
  | [], _, _, i, x, h => by simp at h
  | a :: l, xs, h, i, x, hx => by
    rw [List.flatMap_cons] at h
    obtain ⟨u1, u2, rfl, h1, h2⟩ := LsRd.append.1 h
    have hl := LsRd.length h1
    rw [hm] at hl
    cases i with
    | zero =>
      simp only [List.getElem?_cons_zero, Option.some.injEq] at hx
      subst hx
      refine ⟨u1, h1, fun j u hu => ?_⟩
      rw [Nat.zero_mul, Nat.zero_add, List.getElem?_append_left (List.getElem?_eq_some_iff.1 hu).1]
      exact hu
    | succ i =>
      simp only [List.getElem?_cons_succ] at hx
      obtain ⟨us, h3, h4⟩ := rows_cells hm l u2 h2 i x hx
      refine ⟨us, h3, fun j u hu => ?_⟩
      have := h4 j u hu
      rw [List.getElem?_append_right (by rw [hl, Nat.succ_mul]; omega), show (i + 1) * m + j - u1.length = i * m + j by rw [hl, Nat.succ_mul]; omega]
      exact this

/-- A slice of records, read. -/
theorem rows_at {W : World} {α : Type} {enc : α → List Lf} {e : TypeId} {m : Nat} (hm : ∀ x, (enc x).length = m) {l : List α} {v : Value} (h : LfRd W (.rows e m l.length (l.flatMap enc)) v) :
    ∃ p cap, v = .slice p l.length cap ∧ (l = [] ∨ ∃ b off, p = some ⟨b, off, none⟩ ∧ b < W.heap.size ∧ ∀ i x, l[i]? = some x → ∃ us, LsRd W (enc x) us ∧ ∀ j u, us[j]? = some u → W.cell? ⟨b, off + i * m + j, none⟩ = some u) := by
  obtain ⟨_, p, cap, hv, h⟩ := h
  refine ⟨p, cap, hv, ?_⟩
  rcases h with h0 | ⟨b, off, hp, hlt, xs, hc, hx⟩
  · exact .inl (List.eq_nil_of_length_eq_zero h0)
  · refine .inr ⟨b, off, hp, hlt, fun i x hi => ?_⟩
    obtain ⟨us, h1, h2⟩ := rows_cells hm l xs hx i x hi
    exact ⟨us, h1, fun j u hu => by have := hc _ u (h2 j u hu); rwa [← Nat.add_assoc] at this⟩
theorem flat_lenM {α : Type} {enc : α → List Lf} {m : Nat} (hm : ∀ x, (enc x).length = m) : ∀ (l : List α), (l.flatMap enc).length = l.length * m
  | [] => by simp
  | a :: l => by rw [List.flatMap_cons, List.length_append, flat_lenM hm l, hm a, List.length_cons, Nat.succ_mul]; omega

/-- A cell of an owned row is set. -/
theorem own_set {W : World} {B g n c i m : Nat} {e : TypeId} {A R : List Value} {x : Value} (h : W.ownsRow B e m (.slice (some ⟨g, 0, none⟩) n c) n (A ++ x :: R)) (hi : A.length = i) (u : Value) :
    (W.setCell ⟨g, i, none⟩ u).ownsRow B e m (.slice (some ⟨g, 0, none⟩) n c) n (A ++ u :: R) ∧ W.cell? ⟨g, i, none⟩ = some x ∧ (∀ j, W.frozen? ⟨g, j, none⟩ = false) := by
  have h1 := (h.stored i u).1
  have hl : (A ++ x :: R).length = n * m := h.1
  rw [List.set_append_right _ _ (by omega), hi, Nat.sub_self, List.set_cons_zero] at h1
  refine ⟨h1, ?_, fun j => h.frozenAt j⟩
  rw [h.cellAt i (by rw [← hl]; simp; omega), List.getElem?_append_right (by omega), hi, Nat.sub_self]
  rfl
/-- The rest of a row has room for one element more. -/
theorem rest_split {A R : List Value} {n k m : Nat} (h : (A ++ R).length = n * m) (hA : A.length = k * m) (hk : k < n) : ∃ R1 R2, R = R1 ++ R2 ∧ R1.length = m := by
  have h1 : k * m + m ≤ n * m := by
    have := Nat.mul_le_mul_right m (show k + 1 ≤ n by omega)
    rw [Nat.succ_mul] at this
    exact this
  rw [List.length_append, hA] at h
  exact ⟨R.take m, R.drop m, (List.take_append_drop m R).symm, by rw [List.length_take]; omega⟩
theorem GrownIn.set {W : World} {g i : Nat} {u : Value} {fp : List Nat} (hg : g ∈ fp) : GrownIn W (W.setCell ⟨g, i, none⟩ u) fp :=
  ⟨rfl, rfl, rfl, by simp, fun k _ hn => Below.heap_setCell W _ u k (by intro e; exact hn (by rw [show k = g from e]; exact hg))⟩
theorem LsIn.set {W : World} {xs : List Lf} {vs : List Value} {fp : List Nat} {g i : Nat} {u : Value} (h : LsIn W xs vs fp) (hg : g ∉ fp) : LsIn (W.setCell ⟨g, i, none⟩ u) xs vs fp :=
  h.frame xs vs fp (fun k hk => Below.heap_setCell W _ u k (by intro e; exact hg (by rw [← show k = g from e]; exact hk)))

/-- make([]T, n), whatever the type. -/
theorem wpList_mkn {P : Program} {w : World} {ops : Array Oper} {rest : List Oper} {o : Oper} {a : Act} {Q : Exit → Act → World → Prop} {t e : TypeId} {size bytes : Nat} (E : Elem P t e size bytes)
    (hgd : o.guard = none) (l c : Operand) (ho : o.op = Op.makeSlice t l c) (B : Nat) (W : World) (hb : Below B W w) (hB : B ≤ w.heap.size) (kl kc : IntKind) (n : Nat) (hl : a.eval l = .int kl (n : Int)) (hc : a.eval c = .int kc (n : Int)) (b2 : bytes * n ≤ 281474976710656) (b3 : n ≤ 281474976710656)
    (h : ∀ w' xs, w'.ownsRow B e size (.slice (some ⟨w.heap.size, 0, none⟩) n n) n xs → Below B W w' → w.heap.size < w'.heap.size → wpList P ops Q rest (a.put o.dst (.slice (some ⟨w.heap.size, 0, none⟩) n n)) w') : wpList P ops Q (o :: rest) a w := by
  obtain ⟨ht, ⟨i, z, hi, hz, h2, h3, h4⟩, hp⟩ := E
  refine wpList_make_full w hgd l c t ho B e i z size ht hi hz h2 kl kc (n : Int) (n : Int) n hl hc rfl rfl (by rw [h3]; exact b2) (by unfold maxLen; omega) hB ?_
  intro w' k1 k2
  exact h w' _ k1 (hb.grown k2 hB (fun k hk => by cases hk)) ((k1.lt w.heap.size rfl).2)

def partsl (c : UInt8) : List UInt8 → List (List UInt8)
  | [] => [[]]
  | b :: r => if b = c then [] :: partsl c r else match partsl c r with
    | [] => [[b]]
    | x :: xs => (b :: x) :: xs

theorem partsl_ne (c : UInt8) (l : List UInt8) : partsl c l ≠ [] := by
  cases l with
  | nil => simp [partsl]
  | cons b r =>
    unfold partsl
    split
    · simp
    · split <;> simp
theorem partsl_none (c : UInt8) : ∀ l : List UInt8, (∀ b ∈ l, b ≠ c) → partsl c l = [l]
  | [], _ => rfl
  | b :: r, h => by
    unfold partsl
    rw [if_neg (h b (by simp)), partsl_none c r (fun x hx => h x (by simp [hx]))]
theorem partsl_hit (c : UInt8) : ∀ (m r : List UInt8), (∀ b ∈ m, b ≠ c) → partsl c (m ++ c :: r) = m :: partsl c r
  | [], r, _ => by simp [partsl]
  | b :: m, r, h => by
    rw [List.cons_append, partsl, if_neg (h b (by simp)), partsl_hit c m r (fun x hx => h x (by simp [hx]))]
theorem partsl_length (c : UInt8) (l : List UInt8) : (partsl c l).length ≤ l.length + 1 := by
  induction l with
  | nil => simp [partsl]
  | cons b r ih =>
    unfold partsl
    split
    · simp only [List.length_cons]; omega
    · split
      · simp
      · rename_i x xs h
        rw [h] at ih
        simp only [List.length_cons] at ih ⊢
        omega

/-- What has been cut off so far: acc, the rest begins at f, and from f to i no separator stands. -/
structure Cut (c : UInt8) (l : List UInt8) (f i : Nat) (acc : List (List UInt8)) : Prop where
  le : f ≤ i
  le' : i ≤ l.length
  all : acc ++ partsl c (l.drop f) = partsl c l
  none : ∀ b ∈ (l.drop f).take (i - f), b ≠ c
  few : acc.length ≤ f

theorem Cut.start (c : UInt8) (l : List UInt8) : Cut c l 0 0 [] := ⟨Nat.le_refl _, Nat.zero_le _, by simp, by simp, by simp⟩
theorem cut_take (l : List UInt8) (f i : Nat) (h1 : f ≤ i) (h2 : i < l.length) : (l.drop f).take (i + 1 - f) = (l.drop f).take (i - f) ++ [l[i]] := by
  rw [show i + 1 - f = (i - f) + 1 from by omega, List.take_succ_eq_append_getElem (by simp; omega)]
  simp [Nat.add_sub_cancel' h1]
theorem cut_split (l : List UInt8) (f i : Nat) (h1 : f ≤ i) (h2 : i < l.length) : l.drop f = (l.drop f).take (i - f) ++ l[i] :: l.drop (i + 1) := by
  have := (List.take_append_drop (i - f) (l.drop f)).symm
  rw [List.drop_drop, show f + (i - f) = i from by omega, List.drop_eq_getElem_cons h2] at this
  exact this
theorem Cut.miss {c : UInt8} {l : List UInt8} {f i : Nat} {acc : List (List UInt8)} (h : Cut c l f i acc) (hi : i < l.length) (hb : l[i] ≠ c) : Cut c l f (i + 1) acc := by
  refine ⟨by have := h.le; omega, hi, h.all, ?_, h.few⟩
  rw [cut_take l f i h.le hi]
  intro b hb'
  rw [List.mem_append, List.mem_singleton] at hb'
  rcases hb' with h1 | h1
  · exact h.none b h1
  · rw [h1]; exact hb
theorem Cut.hit {c : UInt8} {l : List UInt8} {f i : Nat} {acc : List (List UInt8)} (h : Cut c l f i acc) (hi : i < l.length) (hb : l[i] = c) : Cut c l (i + 1) (i + 1) (acc ++ [(l.drop f).take (i - f)]) := by
  refine ⟨Nat.le_refl _, hi, ?_, by simp, by have := h.few; have := h.le; simp; omega⟩
  have h1 := h.all
  rw [cut_split l f i h.le hi, hb, partsl_hit c _ _ h.none] at h1
  rw [← h1]
  simp
theorem Cut.fin {c : UInt8} {l : List UInt8} {f : Nat} {acc : List (List UInt8)} (h : Cut c l f l.length acc) : acc ++ [(l.drop f).take (l.length - f)] = partsl c l := by
  have h1 := h.all
  have e : (l.drop f).take (l.length - f) = l.drop f := List.take_of_length_le (by simp)
  have h2 := h.none
  rw [e] at h2 ⊢
  rw [partsl_none c _ h2] at h1
  exact h1
theorem sv_extract (s : ByteArray) (f i : Nat) : Value.string (s.extract f i) = sv ((s.data.toList.drop f).take (i - f)) := by
  rw [← sv_data (s.extract f i), Lib.extract_data]

set_option maxHeartbeats 800000 in
theorem specParts_any (s : ByteArray) (c : UInt8) (w : World) (hs : s.size ≤ 1048576) :
    Calls Tryz.prog 24 #[.string s, .int .u8 (c.toNat : Int)] w fun e w' => ∃ v, e = .returned v ∧ w'.ownsRow w.heap.size 9 1 v (partsl c s.data.toList).length ((partsl c s.data.toList).map sv) ∧ Below w.heap.size w w' := by
  have hsl : s.data.toList.length = s.size := by simp
  have HL := Lib.hid hsl
  clear hsl
  go_enter Tryz.func24, Tryz.ntmps24
  go_wp2
  go_loopw [5, 6, 7] (fun v fv i wr => ∃ (f k : Nat) (acc : List (List UInt8)), k ≤ s.size + 1 ∧ i = .int .i64 k ∧ fv = .int .i64 f ∧ (k ≤ s.size → Cut c s.data.toList f k acc) ∧ (k = s.size + 1 → acc = partsl c s.data.toList) ∧ wr.ownsRow w.heap.size 9 1 v acc.length (acc.map sv) ∧ Below w.heap.size w wr) (fun _ _ i _ => s.size + 1 - (intOf i).toNat)
  case atStart => exact ⟨0, 0, [], by omega, rfl, rfl, fun _ => Cut.start _ _, by omega, by simpa using World.ownsRow_made w #[] 0 (Nat.le_refl _) (by unfold maxLen; omega) rfl, (Below.refl _ _).alloc (Nat.le_refl _) _⟩
  case round =>
    obtain ⟨f, k, acc, hk, rfl, rfl, hcut, hend, hown, hbr⟩ := hrel
    have hbr0 := hbr.size
    by_cases hlt : k ≤ s.size
    · have hcut := hcut hlt
      have hf1 := hcut.le
      have hf2 := hcut.few
      have HC := Lib.hid hcut
      clear hcut hend
      by_cases hls : k < s.size
      · have hkl : k < s.data.toList.length := by rw [HL.out]; exact hls
        have hget : s.data.toList[k] = s[k] := rfl
        have hne : ((k : Int) == (s.size : Int)) = false := by simp; omega
        by_cases hbc : s[k] = c
        · have hq : ((s[k].toNat : Int) == (c.toNat : Int)) = true := by rw [hbc]; simp
          have HN := Lib.hid (HC.out.hit hkl (by rw [hget]; exact hbc))
          have HX := Lib.hid (sv_extract s f k)
          clear hbc hget
          go_wp2_with (at_builtin; refine wpList_app1 Tryz.el_string rfl (.tmp 26) (.tmp 31) rfl w wr u5 acc.length _ rfl hown hbr hbr0 _ (.inr rfl) 1 1 rfl rfl (by simp [Value.oneCell']) (by omega) (by omega) (by omega) ?_)
          intro g cap w' hown' hbr' _ _ _
          clear hown hbr hbr0
          go_wp2
          go_roundw
          case rel =>
            refine ⟨k + 1, k + 1, _, by omega, by go_num, by go_num, fun _ => HN.out, by omega, ?_, hbr'⟩
            rw [List.length_append, List.length_singleton, List.map_append, List.map_singleton, ← HX.out]
            exact hown'
          case measure => simp [intOf]; omega
        · have hq : ((s[k].toNat : Int) == (c.toNat : Int)) = false := by
            simp only [beq_eq_false_iff_ne, ne_eq]
            intro e
            exact hbc (UInt8.toNat_inj.1 (by omega))
          have HN := Lib.hid (HC.out.miss hkl (by rw [hget]; exact hbc))
          clear hbc hget
          go_wp2
          go_roundw
          case rel => exact ⟨f, k + 1, acc, by omega, by go_num, rfl, fun _ => HN.out, by omega, hown, hbr⟩
          case measure => simp [intOf]; omega
      · obtain rfl : k = s.size := by omega
        have hne : ((s.size : Int) == (s.size : Int)) = true := by simp
        have HF := Lib.hid (Cut.fin (by have := HC.out; rw [HL.out]; exact this))
        have HX := Lib.hid (sv_extract s f s.size)
        clear HC
        go_wp2_with (at_builtin; refine wpList_app1 Tryz.el_string rfl (.tmp 26) (.tmp 31) rfl w wr u5 acc.length _ rfl hown hbr hbr0 _ (.inr rfl) 1 1 rfl rfl (by simp [Value.oneCell']) (by omega) (by omega) (by omega) ?_)
        intro g cap w' hown' hbr' _ _ _
        clear hown hbr hbr0
        go_wp2
        go_roundw
        case rel =>
          refine ⟨s.size + 1, s.size + 1, _, by omega, by go_num, by go_num, by omega, fun _ => HF.out, ?_, hbr'⟩
          rw [List.length_append, List.length_singleton, List.map_append, List.map_singleton, HL.out, ← HX.out]
          exact hown'
        case measure => simp [intOf]
    · obtain rfl : k = s.size + 1 := by omega
      have HE := Lib.hid (hend rfl)
      clear hend hcut
      rw [HE.out] at hown
      clear HE
      go_wp2
      go_ret
      exact ⟨_, rfl, hown, hbr⟩

end Go.Proofs.YtidjebepgpbcnaaGreatDoor

namespace Go.Proofs.YtidjebepgpbcnaaGreatDoor
open Go.RowKit

def txtc (b : UInt8) : Bool := decide (32 ≤ b.toNat) && decide (b.toNat ≤ 126)
def escc (b : UInt8) : Bool := decide (b.toNat = 34) || decide (b.toNat = 92)
def atomc (b : UInt8) : Bool := decide (33 ≤ b.toNat) && decide (b.toNat ≤ 126) && !(decide (b.toNat = 40) || decide (b.toNat = 41) || decide (b.toNat = 123) || decide (b.toNat = 34) || decide (b.toNat = 92))
def atomB (l : List UInt8) : Bool := l.all atomc && decide (1 ≤ l.length) && decide (l.length ≤ 40)
def esc1 (b : UInt8) : List UInt8 := if escc b = true then [92, b] else [b]
def escl (l : List UInt8) : List UInt8 := l.flatMap esc1
def quoteL (l : List UInt8) : List UInt8 := if l.all txtc = true ∧ l.length ≤ 40 then 34 :: escl l ++ [34] else []
def wordL (l : List UInt8) : List UInt8 := if atomB l = true then l else quoteL l

theorem escl_snoc (l : List UInt8) (b : UInt8) : escl (l ++ [b]) = escl l ++ esc1 b := by simp [escl]
theorem esc1_le (b : UInt8) : (esc1 b).length ≤ 2 := by unfold esc1; split <;> simp
theorem escl_le (l : List UInt8) : (escl l).length ≤ 2 * l.length := by
  induction l with
  | nil => simp [escl]
  | cons b l ih => have := esc1_le b; simp only [escl, List.flatMap_cons, List.length_append, List.length_cons] at ih ⊢; omega
theorem quoteL_le (l : List UInt8) : (quoteL l).length ≤ 82 := by
  unfold quoteL
  split
  · rename_i h; have := escl_le l; simp; omega
  · simp

/-- Every byte's code in its signed form. -/
theorem txtc_int (b : UInt8) : txtc b = (decide (32 ≤ (b.toNat : Int)) && decide ((b.toNat : Int) ≤ 126)) := by
  unfold txtc
  congr 1
  · have : (32 ≤ b.toNat) = (32 ≤ (b.toNat : Int)) := by rw [eq_iff_iff]; omega
    simp only [this]
  · have : (b.toNat ≤ 126) = ((b.toNat : Int) ≤ 126) := by rw [eq_iff_iff]; omega
    simp only [this]

/-- A rune's tests. -/
def txtR (r : Int) : Bool := decide (32 ≤ r) && decide (r ≤ 126)
def escR (r : Int) : Bool := decide (r = 34) || decide (r = 92)
def atomR (r : Int) : Bool := decide (33 ≤ r) && decide (r ≤ 126) && !(decide (r = 40) || decide (r = 41) || decide (r = 123) || decide (r = 34) || decide (r = 92))
theorem txtR_byte (b : UInt8) : txtR (b.toNat : Int) = txtc b := (txtc_int b).symm
theorem escR_byte (b : UInt8) : escR (b.toNat : Int) = escc b := by
  unfold escR escc
  congr 1
  · have : ((b.toNat : Int) = 34) = (b.toNat = 34) := by rw [eq_iff_iff]; omega
    simp only [this]
  · have : ((b.toNat : Int) = 92) = (b.toNat = 92) := by rw [eq_iff_iff]; omega
    simp only [this]
theorem atomR_byte (b : UInt8) : atomR (b.toNat : Int) = atomc b := by
  have hh : ∀ n : Fin 256, atomR (((UInt8.ofNat n.val).toNat : Nat) : Int) = atomc (UInt8.ofNat n.val) := by decide +kernel
  have := hh ⟨b.toNat, b.toNat_lt⟩
  simpa using this
theorem esc_idx (r : Int) (h0 : 0 ≤ r) (h1 : r < 128) : decide (0 ≤ Lib.indexByte [34, 92] r.toNat.toUInt8) = escR r := by
  have hh : ∀ n : Fin 128, decide (0 ≤ Lib.indexByte [34, 92] ((n.val : Int)).toNat.toUInt8) = escR (n.val : Int) := by decide +kernel
  have := hh ⟨r.toNat, by omega⟩
  rwa [show ((⟨r.toNat, by omega⟩ : Fin 128).val : Int) = r from by show (r.toNat : Int) = r; omega] at this
def bad5R (r : Int) : Bool := decide (r = 40) || decide (r = 41) || decide (r = 123) || decide (r = 34) || decide (r = 92)
theorem bad_idx (r : Int) (h0 : 0 ≤ r) (h1 : r < 128) : decide (0 ≤ Lib.indexByte [40, 41, 123, 34, 92] r.toNat.toUInt8) = bad5R r := by
  have hh : ∀ n : Fin 128, decide (0 ≤ Lib.indexByte [40, 41, 123, 34, 92] ((n.val : Int)).toNat.toUInt8) = bad5R (n.val : Int) := by decide +kernel
  have := hh ⟨r.toNat, by omega⟩
  rwa [show ((⟨r.toNat, by omega⟩ : Fin 128).val : Int) = r from by show (r.toNat : Int) = r; omega] at this

theorem all_take (p : UInt8 → Bool) (s : ByteArray) (k : Nat) (h : k < s.size) : (s.data.toList.take (k + 1)).all p = ((s.data.toList.take k).all p && p s[k]) := by
  rw [take_str s k h, List.all_append]; simp
theorem get_mem (s : ByteArray) (k : Nat) (h : k < s.size) : s[k] ∈ s.data.toList := by
  have : s.data.toList[k]? = some s[k] := by simp [List.getElem?_eq_getElem (show k < s.data.toList.length by simpa using h)]; rfl
  exact List.mem_of_getElem? this
theorem all_not (p : UInt8 → Bool) (s : ByteArray) (k : Nat) (h : k < s.size) (hn : p s[k] = false) : s.data.toList.all p = false := by
  rw [Bool.eq_false_iff]
  intro hc
  rw [List.all_eq_true] at hc
  rw [hc _ (get_mem s k h)] at hn
  cases hn
theorem str_len (s : ByteArray) : s.data.toList.length = s.size := by simp
theorem drop_str (s : ByteArray) (k : Nat) (h : k < s.size) : s.data.toList.drop k = s[k] :: s.data.toList.drop (k + 1) := by
  rw [List.drop_eq_getElem_cons (show k < s.data.toList.length by simpa using h)]
  rfl
theorem drop_str_end (s : ByteArray) (k : Nat) (h : ¬ k < s.size) : s.data.toList.drop k = [] := by
  apply List.drop_eq_nil_of_le; simp; omega

theorem quoteL_no (l : List UInt8) (h : l.all txtc = false ∨ 40 < l.length) : quoteL l = [] := by
  unfold quoteL
  rw [if_neg]
  rintro ⟨h1, h2⟩
  rcases h with h | h
  · rw [h] at h1; cases h1
  · omega
theorem quoteL_yes (l : List UInt8) (h : l.all txtc = true) (h2 : l.length ≤ 40) : quoteL l = 34 :: escl l ++ [34] := if_pos ⟨h, h2⟩

/-- The text from place p on (l is the rest), acc read so far: the text and the place behind its closing quote. -/
def uqAt : List UInt8 → Nat → List UInt8 → Option (List UInt8 × Nat)
  | [], _, _ => none
  | b :: r, p, acc =>
    if b.toNat = 34 then (if 40 < acc.length then none else some (acc, p + 1))
    else if b.toNat = 92 then
      match r with
      | [] => none
      | c :: r' => if escc c = true then uqAt r' (p + 2) (acc ++ [c]) else none
    else if txtc b = true then uqAt r (p + 1) (acc ++ [b]) else none
/-- The same behind a backslash. -/
def uqEsc (l : List UInt8) (p : Nat) (acc : List UInt8) : Option (List UInt8 × Nat) :=
  match l with
  | [] => none
  | c :: r' => if escc c = true then uqAt r' (p + 1) (acc ++ [c]) else none

theorem uqAt_nil (p : Nat) (acc : List UInt8) : uqAt [] p acc = none := by simp [uqAt]
theorem uqAt_quote {b : UInt8} (r : List UInt8) (p : Nat) (acc : List UInt8) (h : b.toNat = 34) : uqAt (b :: r) p acc = if 40 < acc.length then none else some (acc, p + 1) := by
  rw [uqAt.eq_def]; simp only [h, if_true]
theorem uqAt_slash {b : UInt8} (r : List UInt8) (p : Nat) (acc : List UInt8) (h : b.toNat = 92) : uqAt (b :: r) p acc = uqEsc r (p + 1) acc := by
  rw [uqAt.eq_def]
  simp only [h, if_true]
  unfold uqEsc
  cases r <;> simp
theorem uqAt_plain {b : UInt8} (r : List UInt8) (p : Nat) (acc : List UInt8) (h1 : ¬ b.toNat = 34) (h2 : ¬ b.toNat = 92) (h : txtc b = true) : uqAt (b :: r) p acc = uqAt r (p + 1) (acc ++ [b]) := by
  rw [uqAt.eq_def]; simp only [h1, h2, if_false, h, if_true]
theorem uqAt_bad {b : UInt8} (r : List UInt8) (p : Nat) (acc : List UInt8) (h : txtc b = false) : uqAt (b :: r) p acc = none := by
  have h1 : ¬ b.toNat = 34 := by intro e; unfold txtc at h; rw [e] at h; simp at h
  have h2 : ¬ b.toNat = 92 := by intro e; unfold txtc at h; rw [e] at h; simp at h
  rw [uqAt.eq_def]; simp only [h1, h2, if_false, h]; simp
theorem uqEsc_yes {c : UInt8} (r : List UInt8) (p : Nat) (acc : List UInt8) (h : escc c = true) : uqEsc (c :: r) p acc = uqAt r (p + 1) (acc ++ [c]) := by simp [uqEsc, h]
theorem uqEsc_no {c : UInt8} (r : List UInt8) (p : Nat) (acc : List UInt8) (h : escc c = false) : uqEsc (c :: r) p acc = none := by simp [uqEsc, h]
theorem uqEsc_nil (p : Nat) (acc : List UInt8) : uqEsc [] p acc = none := rfl
theorem escc_txtc {c : UInt8} (h : escc c = true) : txtc c = true := by
  have hh : ∀ n : Fin 256, escc (UInt8.ofNat n.val) = true → txtc (UInt8.ofNat n.val) = true := by decide +kernel
  have := hh ⟨c.toNat, c.toNat_lt⟩
  simp at this
  exact this h

/-- What Unquote hands back. -/
def uqO (l : List UInt8) (at' : Int) : Option (List UInt8 × Nat) :=
  if at' < 0 then none else match l.drop at'.toNat with
    | [] => none
    | b :: r => if b.toNat = 34 then uqAt r (at'.toNat + 1) [] else none
def uqV (o : Option (List UInt8 × Nat)) : Value := match o with | some (t, n) => .tuple #[sv t, .int .i64 (n : Int)] | none => .tuple #[.string ⟨#[]⟩, .int .i64 (-1)]

/-- A quoted text is read back. -/
theorem uqAt_escl : ∀ (t : List UInt8) (r : List UInt8) (p : Nat) (acc : List UInt8), t.all txtc = true → acc.length + t.length ≤ 40 → uqAt (escl t ++ 34 :: r) p acc = some (acc ++ t, p + (escl t).length + 1)
  | [], r, p, acc, _, h => by
    simp only [escl, List.flatMap_nil, List.nil_append, List.append_nil, List.length_nil, Nat.add_zero]
    rw [uqAt_quote r p acc (by rfl), if_neg (by simpa using h)]
  | b :: t, r, p, acc, ha, h => by
    simp only [List.all_cons, Bool.and_eq_true] at ha
    simp only [List.length_cons] at h
    have hs : escl (b :: t) = esc1 b ++ escl t := by simp [escl]
    rw [hs]
    cases hb : escc b with
    | true =>
      have he : esc1 b = [92, b] := by unfold esc1; rw [if_pos hb]
      rw [he]
      simp only [List.cons_append, List.nil_append]
      rw [uqAt_slash _ _ _ (by rfl), uqEsc_yes _ _ _ hb, uqAt_escl t r (p + 1 + 1) (acc ++ [b]) ha.2 (by simp; omega)]
      simp; omega
    | false =>
      have he : esc1 b = [b] := by unfold esc1; rw [if_neg (by simp [hb])]
      rw [he]
      simp only [List.cons_append, List.nil_append]
      have hne : ¬ b.toNat = 34 ∧ ¬ b.toNat = 92 := by unfold escc at hb; simpa using hb
      rw [uqAt_plain _ _ _ hne.1 hne.2 ha.1, uqAt_escl t r (p + 1) (acc ++ [b]) ha.2 (by simp; omega)]
      simp; omega

/-- What was read is a quoted text. -/
theorem uqAt_back : ∀ (n : Nat) (l : List UInt8) (p : Nat) (acc t : List UInt8) (e : Nat), l.length ≤ n → uqAt l p acc = some (t, e) →
    ∃ z r, t = acc ++ z ∧ l = escl z ++ 34 :: r ∧ z.all txtc = true ∧ t.length ≤ 40 ∧ e = p + (escl z).length + 1
  | _, [], p, acc, t, e, _, h => by rw [uqAt_nil] at h; cases h
  | 0, _ :: _, _, _, _, _, h, _ => by simp at h
  | n + 1, b :: r, p, acc, t, e, hn, h => by
    simp only [List.length_cons] at hn
    by_cases h1 : b.toNat = 34
    · rw [uqAt_quote r p acc h1] at h
      split at h
      · cases h
      · rename_i hl
        injection h with h; injection h with h3 h4
        refine ⟨[], r, by rw [h3]; simp, ?_, rfl, by rw [← h3]; omega, by simp [escl]; omega⟩
        have : b = 34 := by apply UInt8.toNat_inj.1; exact h1
        rw [this]; rfl
    by_cases h2 : b.toNat = 92
    · rw [uqAt_slash r p acc h2] at h
      cases r with
      | nil => cases h
      | cons c r' =>
        cases hc : escc c with
        | false => rw [uqEsc_no _ _ _ hc] at h; cases h
        | true =>
          rw [uqEsc_yes _ _ _ hc] at h
          simp only [List.length_cons] at hn
          obtain ⟨z, q, e1, e2, e3, e4, e5⟩ := uqAt_back n r' _ _ t e (by omega) h
          have hb : b = 92 := by apply UInt8.toNat_inj.1; exact h2
          refine ⟨c :: z, q, by rw [e1]; simp, ?_, by simp [e3, escc_txtc hc], e4, ?_⟩
          · rw [e2, hb]; simp [escl, esc1, hc]
          · rw [e5]; simp [escl, esc1, hc]; omega
    cases h3 : txtc b with
    | false => rw [uqAt_bad _ _ _ h3] at h; cases h
    | true =>
      rw [uqAt_plain _ _ _ h1 h2 h3] at h
      obtain ⟨z, q, e1, e2, e3, e4, e5⟩ := uqAt_back n r _ _ t e (by omega) h
      have hb : escc b = false := by unfold escc; simp [h1, h2]
      refine ⟨b :: z, q, by rw [e1]; simp, ?_, by simp [e3, h3], e4, ?_⟩
      · rw [e2]; simp [escl, esc1, hb]
      · rw [e5]; simp [escl, esc1, hb]; omega

def nameRun : List UInt8 → Bool → Bool
  | [], a => !a
  | b :: r, a => if b.toNat = 47 then (if a = true then false else nameRun r true) else if 97 ≤ b.toNat ∧ b.toNat ≤ 122 then nameRun r false else false
def nameB (l : List UInt8) : Bool := nameRun l true && decide (l.length ≤ 12)
theorem nameRun_slash {b : UInt8} (r : List UInt8) (h : b.toNat = 47) : nameRun (b :: r) false = nameRun r true ∧ nameRun (b :: r) true = false := by simp [nameRun, h]
theorem nameRun_letter {b : UInt8} (r : List UInt8) (a : Bool) (h0 : 97 ≤ b.toNat) (h1 : b.toNat ≤ 122) : nameRun (b :: r) a = nameRun r false := by
  have h : ¬ b.toNat = 47 := by omega
  simp [nameRun, h, h0, h1]
theorem nameRun_bad {b : UInt8} (r : List UInt8) (a : Bool) (h : ¬ b.toNat = 47) (h0 : ¬ (97 ≤ b.toNat ∧ b.toNat ≤ 122)) : nameRun (b :: r) a = false := by
  simp only [nameRun, h, h0, if_false]
theorem nameRun_nil (a : Bool) : nameRun [] a = !a := rfl
def namec (b : UInt8) : Bool := decide (b.toNat = 47) || (decide (97 ≤ b.toNat) && decide (b.toNat ≤ 122))
theorem nameRun_all : ∀ (l : List UInt8) (a : Bool), nameRun l a = true → l.all namec = true
  | [], _, _ => rfl
  | b :: r, a, h => by
    by_cases h1 : b.toNat = 47
    · cases a with
      | true => rw [(nameRun_slash r h1).2] at h; cases h
      | false => rw [(nameRun_slash r h1).1] at h; simp [nameRun_all r true h, namec, h1]
    · by_cases h2 : 97 ≤ b.toNat ∧ b.toNat ≤ 122
      · rw [nameRun_letter r a h2.1 h2.2] at h; simp [nameRun_all r false h, namec, h2]
      · rw [nameRun_bad r a h1 h2] at h; cases h
theorem namec_atomc {b : UInt8} (h : namec b = true) : atomc b = true := by
  have hh : ∀ n : Fin 256, namec (UInt8.ofNat n.val) = true → atomc (UInt8.ofNat n.val) = true := by decide +kernel
  have := hh ⟨b.toNat, b.toNat_lt⟩
  simp at this
  exact this h
theorem nameB_atomB {l : List UInt8} (h : nameB l = true) : atomB l = true := by
  unfold nameB at h
  simp only [Bool.and_eq_true, decide_eq_true_eq] at h
  have h1 := nameRun_all l true h.1
  have h2 : l ≠ [] := by rintro rfl; simp [nameRun] at h
  have h3 : 0 < l.length := List.length_pos_iff.2 h2
  unfold atomB
  simp only [Bool.and_eq_true, decide_eq_true_eq]
  refine ⟨⟨?_, by omega⟩, by omega⟩
  rw [List.all_eq_true] at h1 ⊢
  exact fun x hx => namec_atomc (h1 x hx)
theorem nameB_wordL {l : List UInt8} (h : nameB l = true) : wordL l = l := by unfold wordL; rw [if_pos (nameB_atomB h)]

theorem l1In_any (n a b : Int) (w : World) :
    Calls Tryz.prog 44 #[.int .i64 n, .int .i64 a, .int .i64 b] w fun e w' => e = .returned (.bool (decide (a ≤ n) && decide (n ≤ b))) ∧ w = w' := by
  by_cases h1 : a ≤ n
  · by_cases h2 : n ≤ b
    · rw [show (decide (a ≤ n) && decide (n ≤ b)) = true by simp [h1, h2]]
      go_enter Tryz.func44, Tryz.ntmps44
      go_wp2
      go_ret
      exact ⟨rfl, rfl⟩
    · rw [show (decide (a ≤ n) && decide (n ≤ b)) = false by simp [h2]]
      go_enter Tryz.func44, Tryz.ntmps44
      go_wp2
      go_ret
      exact ⟨rfl, rfl⟩
  · rw [show (decide (a ≤ n) && decide (n ≤ b)) = false by simp [h1]]
    go_enter Tryz.func44, Tryz.ntmps44
    go_wp2
    go_ret
    exact ⟨rfl, rfl⟩

theorem txtR_true {r : Int} (h1 : 32 ≤ r) (h2 : r ≤ 126) : txtR r = true := by simp [txtR, h1, h2]
theorem txtR_false {r : Int} (h : ¬ (32 ≤ r ∧ r ≤ 126)) : txtR r = false := by unfold txtR; rw [← Bool.decide_and]; exact decide_eq_false h

theorem inText_any (r : Int) (w : World) :
    Calls Tryz.prog 128 #[.int .i32 r] w fun e w' => e = .returned (.bool (txtR r)) ∧ w = w' := by
  by_cases h1 : 32 ≤ r
  · by_cases h2 : r ≤ 126
    · rw [txtR_true h1 h2]
      go_enter Tryz.func128, Tryz.ntmps128
      go_wp2
      go_ret
      exact ⟨rfl, rfl⟩
    · rw [txtR_false (by omega)]
      go_enter Tryz.func128, Tryz.ntmps128
      go_wp2
      go_ret
      exact ⟨rfl, rfl⟩
  · rw [txtR_false (by omega)]
    go_enter Tryz.func128, Tryz.ntmps128
    go_wp2
    go_ret
    exact ⟨rfl, rfl⟩

theorem isEscaped_any (r : Int) (h0 : 0 ≤ r) (h1 : r < 128) (w : World) :
    Calls Tryz.prog 130 #[.int .i32 r] w fun e w' => e = .returned (.bool (escR r)) ∧ w = w' := by
  have hc := fun W => Tryz.strings_ContainsRune_ascii ⟨#[34, 92]⟩ r W h0 h1
  rw [show (ByteArray.mk #[34, 92]).data.toList = [34, 92] from rfl, esc_idx r h0 h1] at hc
  have HC := Lib.hid hc
  clear hc
  go_enter Tryz.func130, Tryz.ntmps130
  go_wp2_with fail
  refine (HC.out _).mono ?_
  rintro e w' ⟨rfl, rfl⟩
  go_wp2
  go_ret
  exact ⟨rfl, rfl⟩

theorem atomR_no {r : Int} (h : ¬ (33 ≤ r ∧ r ≤ 126)) : atomR r = false := by
  unfold atomR; rw [← Bool.decide_and, decide_eq_false h]; rfl
theorem atomR_in {r : Int} (h1 : 33 ≤ r) (h2 : r ≤ 126) : atomR r = !bad5R r := by
  unfold atomR bad5R; simp [h1, h2]

theorem inAtom_any (r : Int) (h0 : 0 ≤ r) (w : World) :
    Calls Tryz.prog 119 #[.int .i32 r] w fun e w' => e = .returned (.bool (atomR r)) ∧ w = w' := by
  by_cases hs : r = 32
  · subst hs
    rw [atomR_no (by omega)]
    go_enter Tryz.func119, Tryz.ntmps119
    go_wp2
    go_ret
    exact ⟨rfl, rfl⟩
  have hs1 : (r == 32) = false := by simpa using hs
  have hs2 : (r != 32) = true := by simpa using hs
  by_cases h : 32 ≤ r ∧ r ≤ 126
  · rw [atomR_in (by omega) (by omega)]
    have ht := fun W => inText_any r W
    rw [txtR_true h.1 h.2] at ht
    have hc := fun W => Tryz.strings_ContainsRune_ascii ⟨#[40, 41, 123, 34, 92]⟩ r W h0 (by omega)
    rw [show (ByteArray.mk #[40, 41, 123, 34, 92]).data.toList = [40, 41, 123, 34, 92] from rfl, bad_idx r h0 (by omega)] at hc
    have HC := Lib.hid hc
    have HT := Lib.hid ht
    clear hc ht hs
    go_enter Tryz.func119, Tryz.ntmps119
    go_wp2_with fail
    refine (HT.out _).mono ?_
    rintro e w' ⟨rfl, rfl⟩
    go_wp2_with fail
    refine (HC.out _).mono ?_
    rintro e w' ⟨rfl, rfl⟩
    go_wp2
    go_ret
    exact ⟨rfl, rfl⟩
  · rw [atomR_no (by omega)]
    have ht := fun W => inText_any r W
    rw [txtR_false h] at ht
    have HT := Lib.hid ht
    clear ht hs h
    go_enter Tryz.func119, Tryz.ntmps119
    go_wp2_with fail
    refine (HT.out _).mono ?_
    rintro e w' ⟨rfl, rfl⟩
    go_wp2
    go_ret
    exact ⟨rfl, rfl⟩

theorem atomR_of {r : Int} (h1 : ¬ r < 33) (h2 : ¬ 126 < r) (h3 : ¬ r = 40) (h4 : ¬ r = 41) (h5 : ¬ r = 123) (h6 : ¬ r = 34) (h7 : ¬ r = 92) : atomR r = true := by
  rw [atomR_in (by omega) (by omega)]; simp [bad5R, h3, h4, h5, h6, h7]
theorem atomR_not {r : Int} (h : r < 33 ∨ 126 < r ∨ r = 40 ∨ r = 41 ∨ r = 123 ∨ r = 34 ∨ r = 92) : atomR r = false := by
  by_cases h1 : r < 33
  · exact atomR_no (by omega)
  by_cases h2 : 126 < r
  · exact atomR_no (by omega)
  rw [atomR_in (by omega) (by omega)]
  have h3 : r = 40 ∨ r = 41 ∨ r = 123 ∨ r = 34 ∨ r = 92 := by omega
  rcases h3 with rfl | rfl | rfl | rfl | rfl <;> rfl
theorem atomB_bad (s : ByteArray) (k : Nat) (h : k < s.size) (hn : atomR (s[k].toNat : Int) = false) : atomB s.data.toList = false := by
  rw [atomR_byte] at hn
  unfold atomB; rw [all_not atomc s k h hn]; rfl
theorem atomB_end (s : ByteArray) (h : s.data.toList.all atomc = true) : atomB s.data.toList = (decide ((1 : Int) ≤ (s.size : Int)) && decide ((s.size : Int) ≤ 40)) := by
  unfold atomB; rw [h, str_len]
  have e1 : (1 ≤ s.size) = ((1 : Int) ≤ (s.size : Int)) := by rw [eq_iff_iff]; omega
  have e2 : (s.size ≤ 40) = ((s.size : Int) ≤ 40) := by rw [eq_iff_iff]; omega
  simp only [e1, e2, Bool.true_and]

set_option maxHeartbeats 800000 in
theorem specAtomOk_any (s : ByteArray) (w : World) (hs : s.size ≤ maxLen) :
    Calls Tryz.prog 102 #[.string s] w fun e w' => e = .returned (.bool (atomB s.data.toList)) ∧ w = w' := by
  unfold maxLen at hs
  go_enter Tryz.func102, Tryz.ntmps102
  go_wp2
  go_loop [2, 3] (fun b i => ∃ k : Nat, k ≤ s.size ∧ b = .bool false ∧ i = .int .i64 k ∧ (s.data.toList.take k).all atomc = true) (fun _ i => s.size - (intOf i).toNat)
  case atStart => exact ⟨0, Nat.zero_le _, rfl, rfl, rfl⟩
  case round =>
    obtain ⟨k, hk, rfl, rfl, hall⟩ := hrel
    have Hall := Lib.hid hall
    clear hall
    by_cases hlt : k < s.size
    · have hbn : s[k].toNat < 256 := s[k].toNat_lt
      cases hd : atomR (s[k].toNat : Int) with
      | true =>
        have HA := Lib.hid (all_take atomc s k hlt)
        have Hd := Lib.hid hd
        have h1 : ¬ (s[k].toNat : Int) < 33 := fun h => by rw [atomR_not (by omega)] at hd; cases hd
        have h2 : ¬ 126 < (s[k].toNat : Int) := fun h => by rw [atomR_not (by omega)] at hd; cases hd
        have h3 : ((s[k].toNat : Int) == 40) = false := by cases h : ((s[k].toNat : Int) == 40) with | false => rfl | true => rw [beq_iff_eq] at h; rw [atomR_not (by omega)] at hd; cases hd
        have h4 : ((s[k].toNat : Int) == 41) = false := by cases h : ((s[k].toNat : Int) == 41) with | false => rfl | true => rw [beq_iff_eq] at h; rw [atomR_not (by omega)] at hd; cases hd
        have h5 : ((s[k].toNat : Int) == 123) = false := by cases h : ((s[k].toNat : Int) == 123) with | false => rfl | true => rw [beq_iff_eq] at h; rw [atomR_not (by omega)] at hd; cases hd
        have h6 : ((s[k].toNat : Int) == 34) = false := by cases h : ((s[k].toNat : Int) == 34) with | false => rfl | true => rw [beq_iff_eq] at h; rw [atomR_not (by omega)] at hd; cases hd
        have h7 : ((s[k].toNat : Int) == 92) = false := by cases h : ((s[k].toNat : Int) == 92) with | false => rfl | true => rw [beq_iff_eq] at h; rw [atomR_not (by omega)] at hd; cases hd
        clear hd
        go_wp2
        go_round
        case rel => exact ⟨k + 1, by omega, rfl, by go_num, by rw [HA.out, Hall.out, ← atomR_byte, Hd.out]; rfl⟩
        case measure => simp [intOf]; omega
      | false =>
        have HB := Lib.hid (atomB_bad s k hlt hd)
        have hd2 : ¬ (¬ (s[k].toNat : Int) < 33 ∧ ¬ 126 < (s[k].toNat : Int) ∧ ((s[k].toNat : Int) == 40) = false ∧ ((s[k].toNat : Int) == 41) = false ∧ ((s[k].toNat : Int) == 123) = false ∧ ((s[k].toNat : Int) == 34) = false ∧ ((s[k].toNat : Int) == 92) = false) := by
          rintro ⟨h1, h2, h3, h4, h5, h6, h7⟩
          rw [atomR_of h1 h2 (by simpa using h3) (by simpa using h4) (by simpa using h5) (by simpa using h6) (by simpa using h7)] at hd
          cases hd
        have HD := Lib.hid hd2
        clear hd hd2
        go_wp2
        all_goals first
          | (go_ret; exact ⟨by rw [HB.out]; rfl, rfl⟩)
          | (exfalso; have hh := HD.out; clear HD; simp only [beq_eq_false_iff_ne, ne_eq] at *; omega)
    · obtain rfl : k = s.size := by omega
      rw [take_str_all] at Hall
      have HE := Lib.hid (atomB_end s Hall.out)
      clear Hall
      go_wp2_with fail
      refine (l1In_any _ _ _ _).mono ?_
      rintro e w' ⟨rfl, rfl⟩
      go_wp2
      go_ret
      exact ⟨by rw [HE.out]; rfl, rfl⟩

/-- Where an iterator stands. -/
theorem iter_pos {w : World} {k pos : Nat} {s : ByteArray} (h : w.heap[k]? = some (.stringIter s pos)) : w.iterPos k = pos := by simp [World.iterPos, h]

set_option maxHeartbeats 800000 in
theorem implAtomOk_any (s : ByteArray) (w : World) (_hs : s.size ≤ maxLen) :
    Calls Tryz.prog 105 #[.string s] w fun e w' => e = .returned (.bool (atomB s.data.toList)) ∧ Below w.heap.size w w' := by
  unfold maxLen at _hs
  have hk0 : (w.iter s 0).heap[w.heap.size]? = some (.stringIter s 0) := World.iter_heap w s 0
  have hb0 : Below w.heap.size w (w.iter s 0) := (Below.refl _ w).alloc (Nat.le_refl _) _
  go_enter Tryz.func105, Tryz.ntmps105
  go_wp2
  go_loopw [2] (fun b wr => ∃ pos : Nat, pos ≤ s.size ∧ b = .bool false ∧ wr.heap[w.heap.size]? = some (.stringIter s pos) ∧ (s.data.toList.take pos).all atomc = true ∧ Below w.heap.size w wr)
    (fun _ wr => s.size - wr.iterPos w.heap.size)
  case atStart => exact ⟨0, Nat.zero_le _, rfl, hk0, rfl, hb0⟩
  case round =>
    obtain ⟨pos, hps, rfl, hk, hall, hbr⟩ := hrel
    have Hall := Lib.hid hall
    clear hall hk0 hb0
    have hmu := Lib.hid (iter_pos hk)
    by_cases hp : pos < s.size
    · have hbn : s[pos].toNat < 256 := s[pos].toNat_lt
      by_cases ha : s[pos].toNat < 128
      · have hnx : ∀ ty, (Instr.next (.pointer (some ⟨w.heap.size, 0, none⟩)) true ty).run Tryz.prog wr = _ := fun ty => Lib.run_next_ascii_at wr w.heap.size s pos ty hk hp ha
        have hk1 := Lib.hid (Lib.iterAt_heap wr w.heap.size s pos (pos + 1) hk)
        have hb1 : Below w.heap.size w (wr.iterAt w.heap.size s (pos + 1)) := Lib.below_iterAt hbr (Nat.le_refl _) s (pos + 1)
        clear hk hbr
        generalize wr.iterAt w.heap.size s (pos + 1) = W1 at hnx hk1 hb1
        have hc := fun W => inAtom_any (s[pos].toNat : Int) (by omega) W
        cases hd : atomR (s[pos].toNat : Int) with
        | true =>
          have HA := Lib.hid (all_take atomc s pos hp)
          have Hd := Lib.hid hd
          rw [hd] at hc
          have HC := Lib.hid hc
          clear hd hc
          go_wp2_with fail
          refine (HC.out _).mono ?_
          rintro e w' ⟨rfl, rfl⟩
          go_wp2
          go_roundw
          case rel => exact ⟨pos + 1, by omega, rfl, hk1.out, by rw [HA.out, Hall.out, ← atomR_byte, Hd.out]; rfl, hb1⟩
          case measure => rw [hmu.out, iter_pos hk1.out]; omega
        | false =>
          have HB := Lib.hid (atomB_bad s pos hp hd)
          rw [hd] at hc
          have HC := Lib.hid hc
          clear hd hc
          go_wp2_with fail
          refine (HC.out _).mono ?_
          rintro e w' ⟨rfl, rfl⟩
          go_wp2
          go_ret
          exact ⟨by rw [HB.out]; rfl, hb1⟩
      · have hnx : ∀ ty, (Instr.next (.pointer (some ⟨w.heap.size, 0, none⟩)) true ty).run Tryz.prog wr = _ := fun ty => Lib.run_next_any_at wr w.heap.size s pos ty hk hp
        have hhi := (decode_high s pos hp (by omega)).1
        have hb1 : Below w.heap.size w (wr.iterAt w.heap.size s (pos + (Utf8.decode s pos).2)) := Lib.below_iterAt hbr (Nat.le_refl _) s _
        clear hk hbr
        generalize wr.iterAt w.heap.size s (pos + (Utf8.decode s pos).2) = W1 at hnx hb1
        generalize (Utf8.decode s pos).1 = r at hnx hhi
        have hc := fun W => inAtom_any (r : Int) (by omega) W
        rw [atomR_no (by omega)] at hc
        have HC := Lib.hid hc
        have HB := Lib.hid (atomB_bad s pos hp (atomR_no (by omega)))
        clear hc
        go_wp2_with fail
        refine (HC.out _).mono ?_
        rintro e w' ⟨rfl, rfl⟩
        go_wp2
        go_ret
        exact ⟨by rw [HB.out]; rfl, hb1⟩
    · have hnx : ∀ ty, (Instr.next (.pointer (some ⟨w.heap.size, 0, none⟩)) true ty).run Tryz.prog wr = _ := fun ty => Lib.run_next_end_at wr w.heap.size s pos ty hk hp
      obtain rfl : pos = s.size := by omega
      rw [take_str_all] at Hall
      have HE := Lib.hid (atomB_end s Hall.out)
      clear Hall hk hmu
      by_cases h1 : (1 : Int) ≤ (s.size : Int)
      · by_cases h2 : (s.size : Int) ≤ 40
        · rw [show (decide ((1 : Int) ≤ (s.size : Int)) && decide ((s.size : Int) ≤ 40)) = true by simp [h1, h2]] at HE
          go_wp2
          go_ret
          exact ⟨by rw [HE.out]; rfl, hbr⟩
        · rw [show (decide ((1 : Int) ≤ (s.size : Int)) && decide ((s.size : Int) ≤ 40)) = false by simp [h2]] at HE
          go_wp2
          go_ret
          exact ⟨by rw [HE.out]; rfl, hbr⟩
      · rw [show (decide ((1 : Int) ≤ (s.size : Int)) && decide ((s.size : Int) ≤ 40)) = false by simp [h1]] at HE
        go_wp2
        go_ret
        exact ⟨by rw [HE.out]; rfl, hbr⟩

theorem own_lit (w : World) (cs : Array Value) (n : Nat) (e : TypeId) (size base : Nat) (hb : base ≤ w.heap.size) (hm : n ≤ maxLen) (hs : cs.size = n * size) :
    (w.alloc (.cells cs e)).ownsRow base e size (.slice (some ⟨w.heap.size, 0, none⟩) n n) n cs.toList :=
  ⟨by simpa using hs, .inr ⟨w.heap.size, n, cs, rfl, hb, heap_alloc_new w _, Nat.le_refl _, hm, hs, by rw [List.take_of_length_le]; simp [hs]⟩⟩
/-- A row stays owned where its own block stands. -/
theorem own_stands {w w' : World} {B e size n : Nat} {v : Value} {xs : List Value} (h : w.ownsRow B e size v n xs) (hb : ∀ g, v.ownBlock = some g → w'.heap[g]? = w.heap[g]?) : w'.ownsRow B e size v n xs :=
  ⟨h.1, h.2.imp id fun ⟨g, cap, cur, hv, h1, h2, h3⟩ => ⟨g, cap, cur, hv, h1, (hb g (by rw [hv]; rfl)).trans h2, h3⟩⟩
/-- An owned row's block holds cells: it is no iterator's. -/
theorem own_no_iter {w : World} {B e size n : Nat} {v : Value} {xs : List Value} (h : w.ownsRow B e size v n xs) {g k pos : Nat} {s : ByteArray} (hg : v.ownBlock = some g) (hk : w.heap[k]? = some (.stringIter s pos)) : g ≠ k := by
  intro e
  rcases h.2 with ⟨hv, _⟩ | ⟨g', _, _, hv, _, h2, _⟩
  · rw [hv] at hg; simp [Value.ownBlock] at hg
  · rw [hv] at hg
    obtain rfl : g' = g := by simpa [Value.ownBlock] using hg
    rw [e, hk] at h2
    cases h2
theorem own_iterAt {w : World} {B e size n : Nat} {v : Value} {xs : List Value} {k : Nat} {s : ByteArray} {pos : Nat} (h : w.ownsRow B e size v n xs) (hk : w.heap[k]? = some (.stringIter s pos)) (pos' : Nat) : (w.iterAt k s pos').ownsRow B e size v n xs :=
  own_stands h fun _ hg => Lib.iterAt_other _ _ _ _ _ (own_no_iter h hg hk)
theorem own_ne_iter {w : World} {B e size n : Nat} {v : Value} {xs : List Value} {k : Nat} {s : ByteArray} {pos : Nat} (h : w.ownsRow B e size v n xs) (hk : w.heap[k]? = some (.stringIter s pos)) : some k ≠ v.ownBlock :=
  fun e => own_no_iter h e.symm hk rfl

theorem ne_not' {a b : Int} (h : (a == b) = true) : (a != b) = false := by simp only [bne, h]; rfl
theorem ne_yes' {a b : Int} (h : (a == b) = false) : (a != b) = true := by simp only [bne, h]; rfl

/-- Quoted so far. -/
def qd (l : List UInt8) : List UInt8 := 34 :: escl l
theorem qd_snoc_esc (l : List UInt8) (b : UInt8) (h : escc b = true) : qd (l ++ [b]) = qd l ++ [92, b] := by unfold qd; rw [escl_snoc]; simp [esc1, h]
theorem qd_snoc (l : List UInt8) (b : UInt8) (h : escc b = false) : qd (l ++ [b]) = qd l ++ [b] := by unfold qd; rw [escl_snoc]; simp [esc1, h]
theorem qd_len (l : List UInt8) : (qd l).length ≤ 2 * l.length + 1 := by have := escl_le l; simp [qd]; omega
theorem quote_long (s : ByteArray) (h : 40 < (s.size : Int)) : sv (quoteL s.data.toList) = .string ⟨#[]⟩ := by rw [quoteL_no _ (.inr (by simp; omega))]
theorem quote_bad (s : ByteArray) (k : Nat) (h : k < s.size) (hn : txtR (s[k].toNat : Int) = false) : sv (quoteL s.data.toList) = .string ⟨#[]⟩ := by
  rw [txtR_byte] at hn
  rw [quoteL_no _ (.inl (all_not txtc s k h hn))]
theorem quote_end (s : ByteArray) (h : s.data.toList.all txtc = true) (hs : s.size ≤ 40) : quoteL s.data.toList = qd s.data.toList ++ [34] := by
  rw [quoteL_yes _ h (by simpa using hs)]; rfl
theorem qd_take (s : ByteArray) (k : Nat) (h : k < s.size) (he : escR (s[k].toNat : Int) = true) : qd (s.data.toList.take (k + 1)) = qd (s.data.toList.take k) ++ [92, s[k]] := by
  rw [escR_byte] at he
  rw [take_str s k h, qd_snoc_esc _ _ he]
theorem qd_take' (s : ByteArray) (k : Nat) (h : k < s.size) (he : escR (s[k].toNat : Int) = false) : qd (s.data.toList.take (k + 1)) = qd (s.data.toList.take k) ++ [s[k]] := by
  rw [escR_byte] at he
  rw [take_str s k h, qd_snoc _ _ he]
theorem take_le (s : ByteArray) (k : Nat) : (s.data.toList.take k).length ≤ k := List.length_take_le _ _
/-- A byte more behind a row of bytes. -/
theorem map_snoc_bv (l : List UInt8) (b : UInt8) : l.map bv ++ [.int .u8 (b.toNat : Int)] = (l ++ [b]).map bv := by simp [bv]

set_option maxHeartbeats 1600000 in
theorem specQuote_any (s : ByteArray) (w : World) (hs : s.size ≤ maxLen) :
    Calls Tryz.prog 103 #[.string s] w fun e w' => e = .returned (sv (quoteL s.data.toList)) ∧ Below w.heap.size w w' := by
  unfold maxLen at hs
  by_cases hl : 40 < (s.size : Int)
  · have HQ := Lib.hid (quote_long s hl)
    go_enter Tryz.func103, Tryz.ntmps103
    go_wp2
    go_ret
    exact ⟨by rw [HQ.out]; rfl, Below.refl _ _⟩
  · go_enter Tryz.func103, Tryz.ntmps103
    go_wp2
    go_loopw [3, 4] (fun v i wr => ∃ k n : Nat, k ≤ s.size ∧ i = .int .i64 k ∧ n = (qd (s.data.toList.take k)).length ∧ (s.data.toList.take k).all txtc = true ∧ wr.ownsRow w.heap.size 5 1 v n ((qd (s.data.toList.take k)).map bv) ∧ Below w.heap.size w wr) (fun _ i _ => s.size - (intOf i).toNat)
    case atStart => exact ⟨0, 1, Nat.zero_le _, rfl, rfl, rfl, own_lit w #[.int .u8 34] 1 5 1 w.heap.size (Nat.le_refl _) (by unfold maxLen; omega) rfl, (Below.refl _ _).alloc (Nat.le_refl _) _⟩
    case round =>
      obtain ⟨k, n, hk, rfl, hn, hall, hown, hbr⟩ := hrel
      have Hall := Lib.hid hall
      have HN := Lib.hid hn
      have hnle : n ≤ 2 * k + 1 := by rw [hn]; have := qd_len (s.data.toList.take k); have := take_le s k; omega
      clear hall hn
      have hbr0 := hbr.size
      by_cases hlt : k < s.size
      · have hbn : s[k].toNat < 256 := s[k].toNat_lt
        cases hd : txtR (s[k].toNat : Int) with
        | false =>
          have HB := Lib.hid (quote_bad s k hlt hd)
          have hd2 : (s[k].toNat : Int) < 32 ∨ ¬ (s[k].toNat : Int) < 32 ∧ 126 < (s[k].toNat : Int) := by
            by_cases h1 : (s[k].toNat : Int) < 32
            · exact .inl h1
            by_cases h2 : 126 < (s[k].toNat : Int)
            · exact .inr ⟨h1, h2⟩
            rw [txtR_true (by omega) (by omega)] at hd; cases hd
          clear hd hown
          rcases hd2 with h1 | ⟨h1, h2⟩
          · go_wp2
            go_ret
            exact ⟨by rw [HB.out]; rfl, hbr⟩
          · go_wp2
            go_ret
            exact ⟨by rw [HB.out]; rfl, hbr⟩
        | true =>
          have HA := Lib.hid (all_take txtc s k hlt)
          have Hd := Lib.hid hd
          have h1 : ¬ (s[k].toNat : Int) < 32 := fun h => by rw [txtR_false (by omega)] at hd; cases hd
          have h2 : ¬ 126 < (s[k].toNat : Int) := fun h => by rw [txtR_false (by omega)] at hd; cases hd
          clear hd
          cases he : escR (s[k].toNat : Int) with
          | true =>
            have HT := Lib.hid (qd_take s k hlt he)
            have he2 : ((s[k].toNat : Int) == 34) = true ∨ ((s[k].toNat : Int) == 34) = false ∧ ((s[k].toNat : Int) == 92) = true := by
              unfold escR at he
              simp only [Bool.or_eq_true, decide_eq_true_eq] at he
              by_cases h : (s[k].toNat : Int) = 34
              · exact .inl (by rw [h]; rfl)
              · exact .inr ⟨by simpa using h, by simpa using he.resolve_left h⟩
            clear he
            rcases he2 with h3 | ⟨h3, h4⟩
            all_goals
              go_wp2_with (at_builtin; refine wpList_app1 Tryz.el_u8 rfl (.tmp 35) (.tmp 36) rfl w wr u3 n _ rfl hown hbr hbr0 _ (.inr rfl) 1 1 rfl rfl (by simp [Value.oneCell']) (by omega) (by omega) (by omega) ?_)
              intro g cap w1 hown1 hb1 _ _ _
              have hz1 := hb1.size
              clear hown hbr hbr0
              go_wp2_with (at_builtin; refine wpList_app1 Tryz.el_u8 rfl (.tmp 38) (.tmp 42) rfl w w1 _ (n + 1) _ rfl hown1 hb1 hz1 _ (.inr rfl) 1 1 rfl rfl (by simp [Value.oneCell']) (by omega) (by omega) (by omega) ?_)
              intro g2 cap2 w2 hown2 hb2 _ _ _
              clear hown1 hb1 hz1
              go_wp2
              go_roundw
              case rel =>
                refine ⟨k + 1, n + 1 + 1, by omega, by go_num, by rw [HT.out, HN.out]; simp, by rw [HA.out, Hall.out, ← txtR_byte, Hd.out]; rfl, ?_, hb2⟩
                rw [HT.out, List.map_append]
                exact hown2
              case measure => simp [intOf]; omega
          | false =>
            have HT := Lib.hid (qd_take' s k hlt he)
            have h3 : ((s[k].toNat : Int) == 34) = false := by unfold escR at he; simp only [Bool.or_eq_false_iff, decide_eq_false_iff_not] at he; simpa using he.1
            have h4 : ((s[k].toNat : Int) == 92) = false := by unfold escR at he; simp only [Bool.or_eq_false_iff, decide_eq_false_iff_not] at he; simpa using he.2
            clear he
            go_wp2_with (at_builtin; refine wpList_app1 Tryz.el_u8 rfl (.tmp 38) (.tmp 42) rfl w wr u3 n _ rfl hown hbr hbr0 _ (.inr rfl) 1 1 rfl rfl (by simp [Value.oneCell']) (by omega) (by omega) (by omega) ?_)
            intro g cap w1 hown1 hb1 _ _ _
            clear hown hbr hbr0
            go_wp2
            go_roundw
            case rel =>
              refine ⟨k + 1, n + 1, by omega, by go_num, by rw [HT.out, HN.out]; simp, by rw [HA.out, Hall.out, ← txtR_byte, Hd.out]; rfl, ?_, hb1⟩
              rw [HT.out, List.map_append]
              exact hown1
            case measure => simp [intOf]; omega
      · obtain rfl : k = s.size := by omega
        rw [take_str_all] at Hall hown HN
        have HE := Lib.hid (quote_end s Hall.out (by omega))
        clear Hall
        go_wp2_with (at_builtin; refine wpList_app1 Tryz.el_u8 rfl (.tmp 44) (.tmp 45) rfl w wr u3 n _ rfl hown hbr hbr0 _ (.inr rfl) 1 1 rfl rfl (by simp [Value.oneCell']) (by omega) (by omega) (by omega) ?_)
        intro g cap w1 hown1 hb1 _ _ _
        have hback := conv_own (P := Tryz.prog) (l := qd s.data.toList ++ [34]) 90 9 5 (by rw [List.map_append]; exact hown1) (by rw [HN.out]; simp) Tryz.underlying90 Tryz.underlying5 Tryz.underlying9
        clear hown hbr hbr0 hown1
        go_wp2
        go_ret
        exact ⟨by rw [HE.out]; rfl, hb1⟩

set_option maxHeartbeats 1600000 in
theorem implQuote_any (s : ByteArray) (w : World) (hs : s.size ≤ maxLen) :
    Calls Tryz.prog 120 #[.string s] w fun e w' => e = .returned (sv (quoteL s.data.toList)) ∧ Below w.heap.size w w' := by
  unfold maxLen at hs
  by_cases hl : 40 < (s.size : Int)
  · have HQ := Lib.hid (quote_long s hl)
    go_enter Tryz.func120, Tryz.ntmps120
    go_wp2
    go_ret
    exact ⟨by rw [HQ.out]; rfl, Below.refl _ _⟩
  · have hk0 : ((w.alloc (.cells #[.int .u8 34] 5)).iter s 0).heap[w.heap.size + 1]? = some (.stringIter s 0) := by
      have h5 := World.iter_heap (w.alloc (.cells #[.int .u8 34] 5)) s 0
      simpa using h5
    have hb0 : Below w.heap.size w ((w.alloc (.cells #[.int .u8 34] 5)).iter s 0) := ((Below.refl _ w).alloc (Nat.le_refl _) _).alloc (by simp) _
    have ho0 : ((w.alloc (.cells #[.int .u8 34] 5)).iter s 0).ownsRow w.heap.size 5 1 (.slice (some ⟨w.heap.size, 0, none⟩) 1 1) 1 ((qd (s.data.toList.take 0)).map bv) := (own_lit w #[.int .u8 34] 1 5 1 w.heap.size (Nat.le_refl _) (by unfold maxLen; omega) rfl).alloc _
    go_enter Tryz.func120, Tryz.ntmps120
    go_wp2
    go_loopw [3] (fun v wr => ∃ k n : Nat, k ≤ s.size ∧ wr.heap[w.heap.size + 1]? = some (.stringIter s k) ∧ n = (qd (s.data.toList.take k)).length ∧ (s.data.toList.take k).all txtc = true ∧ wr.ownsRow w.heap.size 5 1 v n ((qd (s.data.toList.take k)).map bv) ∧ Below w.heap.size w wr) (fun _ wr => s.size - wr.iterPos (w.heap.size + 1))
    case atStart => exact ⟨0, 1, Nat.zero_le _, hk0, rfl, rfl, ho0, hb0⟩
    case round =>
      obtain ⟨k, n, hk, hit, hn, hall, hown, hbr⟩ := hrel
      clear hk0 hb0 ho0
      have Hall := Lib.hid hall
      have HN := Lib.hid hn
      have hnle : n ≤ 2 * k + 1 := by rw [hn]; have := qd_len (s.data.toList.take k); have := take_le s k; omega
      have hmu := Lib.hid (iter_pos hit)
      clear hall hn
      by_cases hlt : k < s.size
      · have hbn : s[k].toNat < 256 := s[k].toNat_lt
        by_cases ha : s[k].toNat < 128
        · have hnx : ∀ ty, (Instr.next (.pointer (some ⟨w.heap.size + 1, 0, none⟩)) true ty).run Tryz.prog wr = _ := fun ty => Lib.run_next_ascii_at wr (w.heap.size + 1) s k ty hit hlt ha
          have hk1 := Lib.iterAt_heap wr (w.heap.size + 1) s k (k + 1) hit
          have hb1 : Below w.heap.size w (wr.iterAt (w.heap.size + 1) s (k + 1)) := Lib.below_iterAt hbr (by omega) s (k + 1)
          have ho1 := own_iterAt hown hit (k + 1)
          have hlt1 : w.heap.size + 1 < (wr.iterAt (w.heap.size + 1) s (k + 1)).heap.size := (Array.getElem?_eq_some_iff.1 hk1).1
          have hne1 := own_ne_iter ho1 hk1
          have Hk1 := Lib.hid hk1
          clear hit hbr hown hk1
          generalize wr.iterAt (w.heap.size + 1) s (k + 1) = W1 at hnx Hk1 hb1 ho1 hlt1
          have hc := fun W => inText_any (s[k].toNat : Int) W
          cases hd : txtR (s[k].toNat : Int) with
          | false =>
            have HB := Lib.hid (quote_bad s k hlt hd)
            rw [hd] at hc
            have HC := Lib.hid hc
            clear hd hc ho1
            go_wp2_with fail
            refine (HC.out _).mono ?_
            rintro e w' ⟨rfl, rfl⟩
            go_wp2
            go_ret
            exact ⟨by rw [HB.out]; rfl, hb1⟩
          | true =>
            have HA := Lib.hid (all_take txtc s k hlt)
            have Hd := Lib.hid hd
            have hd1 : 32 ≤ (s[k].toNat : Int) := by
              by_cases h : 32 ≤ (s[k].toNat : Int)
              · exact h
              · rw [txtR_false (by omega)] at hd; cases hd
            rw [hd] at hc
            have HC := Lib.hid hc
            clear hd hc
            have hc2 := fun W => isEscaped_any (s[k].toNat : Int) (by omega) (by omega) W
            have hz1 := hb1.size
            cases he : escR (s[k].toNat : Int) with
            | true =>
              have HT := Lib.hid (qd_take s k hlt he)
              rw [he] at hc2
              have HC2 := Lib.hid hc2
              clear he hc2
              go_wp2_with fail
              refine (HC.out _).mono ?_
              rintro e w' ⟨rfl, rfl⟩
              go_wp2_with fail
              refine (HC2.out _).mono ?_
              rintro e w' ⟨rfl, rfl⟩
              go_wp2_with (at_builtin; refine wpList_app1 Tryz.el_u8 rfl (.tmp 20) (.tmp 21) rfl w W1 u3 n _ rfl ho1 hb1 hz1 _ (.inr rfl) 1 1 rfl rfl (by simp [Value.oneCell']) (by omega) (by omega) (by omega) ?_)
              intro g cap w1 hown1 hb2 hg1 _ _
              have Hk2 := Lib.hid ((hg1.block (w.heap.size + 1) hlt1 hne1).trans Hk1.out)
              have hne2 := own_ne_iter hown1 Hk2.out
              have hlt2 : w.heap.size + 1 < w1.heap.size := by have := hg1.size; omega
              have hz2 := hb2.size
              clear ho1 hb1 hg1 hne1 hlt1 Hk1 hz1 hnx
              go_wp2_with (at_builtin; refine wpList_app1 Tryz.el_u8 rfl (.tmp 23) (.tmp 26) rfl w w1 _ (n + 1) _ rfl hown1 hb2 hz2 _ (.inr rfl) 1 1 rfl rfl (by simp [Value.oneCell']) (by omega) (by omega) (by omega) ?_)
              intro g2 cap2 w2 hown2 hb3 hg2 _ _
              have Hk3 := Lib.hid ((hg2.block (w.heap.size + 1) hlt2 hne2).trans Hk2.out)
              clear hown1 hb2 hg2 hne2 hlt2 Hk2 hz2
              go_wp2
              go_roundw
              case rel =>
                refine ⟨k + 1, n + 1 + 1, by omega, Hk3.out, by rw [HT.out, HN.out]; simp, by rw [HA.out, Hall.out, ← txtR_byte, Hd.out]; rfl, ?_, hb3⟩
                rw [HT.out, List.map_append]
                exact hown2
              case measure => rw [hmu.out, iter_pos Hk3.out]; omega
            | false =>
              have HT := Lib.hid (qd_take' s k hlt he)
              rw [he] at hc2
              have HC2 := Lib.hid hc2
              clear he hc2
              go_wp2_with fail
              refine (HC.out _).mono ?_
              rintro e w' ⟨rfl, rfl⟩
              go_wp2_with fail
              refine (HC2.out _).mono ?_
              rintro e w' ⟨rfl, rfl⟩
              go_wp2_with (at_builtin; refine wpList_app1 Tryz.el_u8 rfl (.tmp 23) (.tmp 26) rfl w W1 u3 n _ rfl ho1 hb1 hz1 _ (.inr rfl) 1 1 rfl rfl (by simp [Value.oneCell']) (by omega) (by omega) (by omega) ?_)
              intro g cap w1 hown1 hb2 hg1 _ _
              have Hk2 := Lib.hid ((hg1.block (w.heap.size + 1) hlt1 hne1).trans Hk1.out)
              clear ho1 hb1 hg1 hne1 hlt1 Hk1 hz1 hnx
              go_wp2
              go_roundw
              case rel =>
                refine ⟨k + 1, n + 1, by omega, Hk2.out, by rw [HT.out, HN.out]; simp, by rw [HA.out, Hall.out, ← txtR_byte, Hd.out]; rfl, ?_, hb2⟩
                rw [HT.out, List.map_append]
                exact hown1
              case measure => rw [hmu.out, iter_pos Hk2.out]; omega
        · have hnx : ∀ ty, (Instr.next (.pointer (some ⟨w.heap.size + 1, 0, none⟩)) true ty).run Tryz.prog wr = _ := fun ty => Lib.run_next_any_at wr (w.heap.size + 1) s k ty hit hlt
          have hhi := (decode_high s k hlt (by omega)).1
          have hb1 : Below w.heap.size w (wr.iterAt (w.heap.size + 1) s (k + (Utf8.decode s k).2)) := Lib.below_iterAt hbr (by omega) s _
          clear hit hbr hown
          generalize wr.iterAt (w.heap.size + 1) s (k + (Utf8.decode s k).2) = W1 at hnx hb1
          generalize (Utf8.decode s k).1 = r at hnx hhi
          have hc := fun W => inText_any (r : Int) W
          rw [txtR_false (by omega)] at hc
          have HC := Lib.hid hc
          have HB := Lib.hid (quote_bad s k hlt (txtR_false (by omega)))
          clear hc
          go_wp2_with fail
          refine (HC.out _).mono ?_
          rintro e w' ⟨rfl, rfl⟩
          go_wp2
          go_ret
          exact ⟨by rw [HB.out]; rfl, hb1⟩
      · have hnx : ∀ ty, (Instr.next (.pointer (some ⟨w.heap.size + 1, 0, none⟩)) true ty).run Tryz.prog wr = _ := fun ty => Lib.run_next_end_at wr (w.heap.size + 1) s k ty hit hlt
        obtain rfl : k = s.size := by omega
        rw [take_str_all] at Hall hown HN
        have HE := Lib.hid (quote_end s Hall.out (by omega))
        have hbr0 := hbr.size
        clear Hall hit hmu
        go_wp2_with (at_builtin; refine wpList_app1 Tryz.el_u8 rfl (.tmp 28) (.tmp 29) rfl w wr u3 n _ rfl hown hbr hbr0 _ (.inr rfl) 1 1 rfl rfl (by simp [Value.oneCell']) (by omega) (by omega) (by omega) ?_)
        intro g cap w1 hown1 hb1 _ _ _
        have hback := conv_own (P := Tryz.prog) (l := qd s.data.toList ++ [34]) 90 9 5 (by rw [List.map_append]; exact hown1) (by rw [HN.out]; simp) Tryz.underlying90 Tryz.underlying5 Tryz.underlying9
        clear hown hbr hbr0 hown1
        go_wp2
        go_ret
        exact ⟨by rw [HE.out]; rfl, hb1⟩

/-- What the model's loop knows at place k. -/
def NmSt (s : ByteArray) (k : Nat) (a : Bool) (U : Bool) : Prop :=
  nameRun (s.data.toList.drop k) a = U ∧ (k = 0 → a = true) ∧ (∀ j, k = j + 1 → ∀ h : j < s.size, a = decide (s[j].toNat = 47)) ∧ (k = s.size → 0 < k → a = false)
theorem nameB_of {l : List UInt8} {U : Bool} (h : nameRun l true = U) : nameB l = (U && decide (l.length ≤ 12)) := by unfold nameB; rw [h]
theorem nameB_size {s : ByteArray} {U : Bool} (h : nameRun s.data.toList true = U) : nameB s.data.toList = (U && decide ((s.size : Int) ≤ 12)) := by
  rw [nameB_of h, str_len]
  have e2 : (s.size ≤ 12) = ((s.size : Int) ≤ 12) := by rw [eq_iff_iff]; omega
  simp only [e2]
theorem n_slash (s : ByteArray) (k : Nat) (h : k < s.size) (hb : ((s[k].toNat : Int) == 47) = true) : nameRun (s.data.toList.drop k) false = nameRun (s.data.toList.drop (k + 1)) true ∧ nameRun (s.data.toList.drop k) true = false := by
  rw [drop_str s k h]
  exact nameRun_slash _ (by have := beq_iff_eq.1 hb; omega)
theorem n_letter (s : ByteArray) (k : Nat) (h : k < s.size) (a : Bool) (h0 : ¬ (s[k].toNat : Int) < 97) (h1 : ¬ 122 < (s[k].toNat : Int)) : nameRun (s.data.toList.drop k) a = nameRun (s.data.toList.drop (k + 1)) false := by
  rw [drop_str s k h]
  exact nameRun_letter _ a (by omega) (by omega)
theorem n_bad (s : ByteArray) (k : Nat) (h : k < s.size) (a : Bool) (hb : ((s[k].toNat : Int) == 47) = false) (h1 : (s[k].toNat : Int) < 97 ∨ 122 < (s[k].toNat : Int)) : nameRun (s.data.toList.drop k) a = false := by
  rw [drop_str s k h]
  exact nameRun_bad _ a (by have := beq_eq_false_iff_ne.1 hb; omega) (by omega)
theorem n_end (s : ByteArray) (k : Nat) (h : ¬ k < s.size) (a : Bool) : nameRun (s.data.toList.drop k) a = !a := by rw [drop_str_end s k h]; rfl

set_option maxHeartbeats 1600000 in
theorem specNameOk_any (s : ByteArray) (w : World) (hs : s.size ≤ maxLen) :
    Calls Tryz.prog 48 #[.string s] w fun e w' => e = .returned (.bool (nameB s.data.toList)) ∧ w = w' := by
  unfold maxLen at hs
  obtain ⟨U, hU⟩ : ∃ U, nameRun s.data.toList true = U := ⟨_, rfl⟩
  have hV := nameB_size hU
  generalize nameB s.data.toList = V at *
  have HU := Lib.hid hU
  have HV := Lib.hid hV
  clear hU hV
  go_enter Tryz.func48, Tryz.ntmps48
  go_wp2
  go_loop [3] (fun i => ∃ (k : Nat) (a : Bool), k ≤ s.size ∧ i = .int .i64 k ∧ NmSt s k a U) (fun i => s.size - (intOf i).toNat)
  case atStart => exact ⟨0, true, Nat.zero_le _, rfl, HU.out, fun _ => rfl, fun j h => by omega, fun _ h => by omega⟩
  case round =>
    obtain ⟨k, a, hk, rfl, hrun, h0, hj, he⟩ := hrel
    by_cases hlt : k < s.size
    · have hbn : s[k].toNat < 256 := s[k].toNat_lt
      cases hb : ((s[k].toNat : Int) == 47) with
      | true =>
        obtain ⟨r1, r2⟩ := n_slash s k hlt hb
        cases k with
        | zero =>
          have HV2 := Lib.hid (show V = false by rw [HV.out, ← hrun, h0 rfl, r2]; rfl)
          clear hrun h0 hj he r1 r2
          go_wp2
          go_ret
          exact ⟨by rw [HV2.out]; rfl, rfl⟩
        | succ j =>
          have hjl : j < s.size := by omega
          have haj := hj j rfl hjl
          have hbj : s[j].toNat < 256 := s[j].toNat_lt
          cases h1 : ((j : Int) + 1 == (s.size : Int) - 1) with
          | true =>
            have hU : U = false := by
              rw [← hrun]
              cases a with
              | true => exact r2
              | false => rw [r1, n_end s (j + 1 + 1) (by have := beq_iff_eq.1 h1; omega)]; rfl
            have HV2 := Lib.hid (show V = false by rw [HV.out, hU]; rfl)
            clear hrun h0 hj he r1 r2 haj hU
            go_wp2
            go_ret
            exact ⟨by rw [HV2.out]; rfl, rfl⟩
          | false =>
            cases h2 : ((s[j].toNat : Int) == 47) with
            | true =>
              have hU : U = false := by rw [← hrun, haj, decide_eq_true (by have := beq_iff_eq.1 h2; omega), r2]
              have HV2 := Lib.hid (show V = false by rw [HV.out, hU]; rfl)
              clear hrun h0 hj he r1 r2 haj hU
              go_wp2
              go_ret
              exact ⟨by rw [HV2.out]; rfl, rfl⟩
            | false =>
              have ha : a = false := by rw [haj]; exact decide_eq_false (by have := beq_eq_false_iff_ne.1 h2; omega)
              have HR := Lib.hid (show nameRun (s.data.toList.drop (j + 1 + 1)) true = U by rw [← hrun, ha, r1])
              have HE := Lib.hid (show ¬ j + 1 + 1 = s.size by have := beq_eq_false_iff_ne.1 h1; omega)
              have HB := Lib.hid hb
              clear hrun h0 hj he r1 r2 haj ha
              go_wp2
              go_round
              case rel => exact ⟨j + 1 + 1, true, by omega, by go_num, HR.out, fun _ => rfl, fun i hi hl => by
                obtain rfl : i = j + 1 := by omega
                exact (decide_eq_true (by have := beq_iff_eq.1 HB.out; omega)).symm, fun h => absurd h HE.out⟩
              case measure => simp [intOf]; omega
      | false =>
        by_cases h1 : (s[k].toNat : Int) < 97
        · have HV2 := Lib.hid (show V = false by rw [HV.out, ← hrun, n_bad s k hlt a hb (.inl h1)]; rfl)
          clear hrun h0 hj he
          go_wp2
          go_ret
          exact ⟨by rw [HV2.out]; rfl, rfl⟩
        by_cases h2 : 122 < (s[k].toNat : Int)
        · have HV2 := Lib.hid (show V = false by rw [HV.out, ← hrun, n_bad s k hlt a hb (.inr h2)]; rfl)
          clear hrun h0 hj he
          go_wp2
          go_ret
          exact ⟨by rw [HV2.out]; rfl, rfl⟩
        have HR := Lib.hid (show nameRun (s.data.toList.drop (k + 1)) false = U by rw [← hrun, n_letter s k hlt a h1 h2])
        have HB := Lib.hid hb
        clear hrun h0 hj he
        go_wp2
        go_round
        case rel => exact ⟨k + 1, false, by omega, by go_num, HR.out, fun h => by omega, fun i hi hl => by
          obtain rfl : i = k := by omega
          exact (decide_eq_false (by have := beq_eq_false_iff_ne.1 HB.out; omega)).symm, fun _ _ => rfl⟩
        case measure => simp [intOf]; omega
    · obtain rfl : k = s.size := by omega
      have hl := fun W => l1In_any (s.size : Int) 1 12 W
      have HV2 : Hid (V = (decide ((1 : Int) ≤ (s.size : Int)) && decide ((s.size : Int) ≤ 12))) := by
        apply Lib.hid
        rw [HV.out, ← hrun, n_end s s.size hlt]
        by_cases h : s.size = 0
        · rw [h0 h, h]; rfl
        · rw [he rfl (by omega), decide_eq_true (show (1 : Int) ≤ (s.size : Int) by omega)]; rfl
      have HL := Lib.hid hl
      clear hrun h0 hj he hl
      go_wp2_with fail
      refine (HL.out _).mono ?_
      rintro e w' ⟨rfl, rfl⟩
      go_wp2
      go_ret
      exact ⟨by rw [HV2.out]; rfl, rfl⟩

set_option maxHeartbeats 1600000 in
theorem implNameOk_any (s : ByteArray) (w : World) (_hs : s.size ≤ maxLen) :
    Calls Tryz.prog 86 #[.string s] w fun e w' => e = .returned (.bool (nameB s.data.toList)) ∧ Below w.heap.size w w' := by
  unfold maxLen at _hs
  obtain ⟨U, hU⟩ : ∃ U, nameRun s.data.toList true = U := ⟨_, rfl⟩
  have hV := nameB_size hU
  generalize nameB s.data.toList = V at *
  have HU := Lib.hid hU
  have HV := Lib.hid hV
  have hk0 : (w.iter s 0).heap[w.heap.size]? = some (.stringIter s 0) := World.iter_heap w s 0
  have hb0 : Below w.heap.size w (w.iter s 0) := (Below.refl _ w).alloc (Nat.le_refl _) _
  clear hU hV
  go_enter Tryz.func86, Tryz.ntmps86
  go_wp2
  go_loopw [3] (fun b wr => ∃ (k : Nat) (a : Bool), k ≤ s.size ∧ b = .bool a ∧ wr.heap[w.heap.size]? = some (.stringIter s k) ∧ nameRun (s.data.toList.drop k) a = U ∧ Below w.heap.size w wr)
    (fun _ wr => s.size - wr.iterPos w.heap.size)
  case atStart => exact ⟨0, true, Nat.zero_le _, rfl, hk0, HU.out, hb0⟩
  case round =>
    obtain ⟨k, a, hk, rfl, hit, hrun, hbr⟩ := hrel
    clear hk0 hb0
    have hmu := Lib.hid (iter_pos hit)
    by_cases hlt : k < s.size
    · have hbn : s[k].toNat < 256 := s[k].toNat_lt
      by_cases ha : s[k].toNat < 128
      · have hnx : ∀ ty, (Instr.next (.pointer (some ⟨w.heap.size, 0, none⟩)) true ty).run Tryz.prog wr = _ := fun ty => Lib.run_next_ascii_at wr w.heap.size s k ty hit hlt ha
        have hk1 := Lib.hid (Lib.iterAt_heap wr w.heap.size s k (k + 1) hit)
        have hb1 : Below w.heap.size w (wr.iterAt w.heap.size s (k + 1)) := Lib.below_iterAt hbr (Nat.le_refl _) s (k + 1)
        clear hit hbr
        generalize wr.iterAt w.heap.size s (k + 1) = W1 at hnx hk1 hb1
        cases hb : ((s[k].toNat : Int) == 47) with
        | true =>
          have hb2 := ne_not' hb
          obtain ⟨r1, r2⟩ := n_slash s k hlt hb
          cases a with
          | true =>
            have HV2 := Lib.hid (show V = false by rw [HV.out, ← hrun, r2]; rfl)
            clear hrun r1 r2
            go_wp2
            go_ret
            exact ⟨by rw [HV2.out]; rfl, hb1⟩
          | false =>
            have HR := Lib.hid (show nameRun (s.data.toList.drop (k + 1)) true = U by rw [← hrun, r1])
            clear hrun r1 r2
            go_wp2
            go_roundw
            case rel => exact ⟨k + 1, true, by omega, rfl, hk1.out, HR.out, hb1⟩
            case measure => rw [hmu.out, iter_pos hk1.out]; omega
        | false =>
          have hb2 := ne_yes' hb
          by_cases h1 : (s[k].toNat : Int) < 97
          · have HV2 := Lib.hid (show V = false by rw [HV.out, ← hrun, n_bad s k hlt a hb (.inl h1)]; rfl)
            clear hrun
            go_wp2
            go_ret
            exact ⟨by rw [HV2.out]; rfl, hb1⟩
          by_cases h2 : 122 < (s[k].toNat : Int)
          · have HV2 := Lib.hid (show V = false by rw [HV.out, ← hrun, n_bad s k hlt a hb (.inr h2)]; rfl)
            clear hrun
            go_wp2
            go_ret
            exact ⟨by rw [HV2.out]; rfl, hb1⟩
          have HR := Lib.hid (show nameRun (s.data.toList.drop (k + 1)) false = U by rw [← hrun, n_letter s k hlt a h1 h2])
          clear hrun
          go_wp2
          go_roundw
          case rel => exact ⟨k + 1, false, by omega, rfl, hk1.out, HR.out, hb1⟩
          case measure => rw [hmu.out, iter_pos hk1.out]; omega
      · have hnx : ∀ ty, (Instr.next (.pointer (some ⟨w.heap.size, 0, none⟩)) true ty).run Tryz.prog wr = _ := fun ty => Lib.run_next_any_at wr w.heap.size s k ty hit hlt
        have hhi := (decode_high s k hlt (by omega)).1
        have hb1 : Below w.heap.size w (wr.iterAt w.heap.size s (k + (Utf8.decode s k).2)) := Lib.below_iterAt hbr (Nat.le_refl _) s _
        clear hit hbr
        generalize wr.iterAt w.heap.size s (k + (Utf8.decode s k).2) = W1 at hnx hb1
        generalize (Utf8.decode s k).1 = r at hnx hhi
        have HV2 := Lib.hid (show V = false by rw [HV.out, ← hrun, n_bad s k hlt a (by simp; omega) (.inr (by omega))]; rfl)
        have hb : ((r : Int) == 47) = false := by simp; omega
        have hb2 := ne_yes' hb
        have h1 : ¬ (r : Int) < 97 := by omega
        have h2 : 122 < (r : Int) := by omega
        clear hrun
        go_wp2
        go_ret
        exact ⟨by rw [HV2.out]; rfl, hb1⟩
    · have hnx : ∀ ty, (Instr.next (.pointer (some ⟨w.heap.size, 0, none⟩)) true ty).run Tryz.prog wr = _ := fun ty => Lib.run_next_end_at wr w.heap.size s k ty hit hlt
      have hV2 : V = (!a && decide ((s.size : Int) ≤ 12)) := by rw [HV.out, ← hrun, n_end s k hlt]
      clear hrun hit
      cases a with
      | true =>
        have HV2 := Lib.hid (show V = false by rw [hV2]; rfl)
        clear hV2
        go_wp2
        go_ret
        exact ⟨by rw [HV2.out]; rfl, hbr⟩
      | false =>
        by_cases h : (s.size : Int) ≤ 12
        · have HV2 := Lib.hid (show V = true by rw [hV2, decide_eq_true h]; rfl)
          clear hV2
          go_wp2
          go_ret
          exact ⟨by rw [HV2.out]; rfl, hbr⟩
        · have HV2 := Lib.hid (show V = false by rw [hV2, decide_eq_false h]; rfl)
          clear hV2
          go_wp2
          go_ret
          exact ⟨by rw [HV2.out]; rfl, hbr⟩

theorem uqV_none : uqV none = .tuple #[.string ⟨#[]⟩, .int .i64 (-1)] := rfl
theorem uqV_some (t : List UInt8) (n : Nat) : uqV (some (t, n)) = .tuple #[sv t, .int .i64 (n : Int)] := rfl
theorem uqO_neg (l : List UInt8) (a : Int) (h : a < 0) : uqO l a = none := if_pos h
theorem uqO_far (s : ByteArray) (p : Nat) (h : ¬ p < s.size) : uqO s.data.toList (p : Int) = none := by
  unfold uqO
  rw [if_neg (by omega), Int.toNat_natCast, drop_str_end s p h]
theorem uqO_at (s : ByteArray) (p : Nat) (h : p < s.size) : uqO s.data.toList (p : Int) = if (s[p].toNat : Int) = 34 then uqAt (s.data.toList.drop (p + 1)) (p + 1) [] else none := by
  unfold uqO
  rw [if_neg (by omega), Int.toNat_natCast, drop_str s p h]
  simp only
  by_cases h1 : s[p].toNat = 34
  · rw [if_pos h1, if_pos (by omega)]
  · rw [if_neg h1, if_neg (by omega)]
theorem take_bytes_lit (v : List UInt8) (b : UInt8) : (v ++ [b]).map bv = v.map bv ++ [bv b] := by simp

end Go.Proofs.YtidjebepgpbcnaaGreatDoor
