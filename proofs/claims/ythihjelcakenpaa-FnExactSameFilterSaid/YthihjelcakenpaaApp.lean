/-
  Appending to a slice that the call itself owns: the library's laws with a slice type's facts in one bundle. No program is read here.
-/
import Derived.Test.YthihjelcakenpaaPlain
import Derived.Deep.AppendLies
namespace Go.Proofs.Ythihjelcakenpaa
open Go.RowKit

/-- What the tables say of a slice type t of elements e: cells and bytes of an element. -/
structure Elem (P : Program) (t e : TypeId) (size bytes : Nat) : Prop where
  under : P.underlying t = some (.slice e)
  info : ∃ i z, P.info? e = some i ∧ i.zero = some z ∧ i.size = size ∧ i.bytes = bytes ∧ z.cells.size = size
  pos : 0 < size

theorem Elem.mk' {P : Program} {t e : TypeId} {size bytes : Nat} {z : Value} (h : P.underlying t = some (.slice e)) (hi : (P.info? e).map (fun i => (i.zero, i.size, i.bytes)) = some (some z, size, bytes)) (hz : z.cells.size = size) (hp : 0 < size) :
    Elem P t e size bytes := by
  obtain ⟨i, h1, h2, h3, h4⟩ := info_parts hi
  exact ⟨h, ⟨i, z, h1, h2, h3, h4, hz⟩, hp⟩

section
variable {P : Program} {w : World} {ops : Array Oper} {rest : List Oper} {o : Oper} {a : Act} {t e : TypeId} {size bytes B : Nat}

theorem wpList_app {Q : Exit → Act → World → Prop} (E : Elem P t e size bytes) (hgd : o.guard = none) (s x : Operand) (ho : o.op = .call { callee := .builtin .append, args := #[s, x], argTypes := #[t, t] })
    (W : World) (v : Value) (n : Nat) (xs : List Value) (hs : a.eval s = v) (hown : w.ownsRow B e size v n xs) (hb : Below B W w) (hB : B ≤ w.heap.size)
    (ad : Addr) (m c : Nat) (news : List Value) (hx : a.eval x = .slice (some ad) m c) (hl : news.length = m * size) (hnews : ∀ j u, news[j]? = some u → w.cell? (ad.add j) = some u) (h1 : ∀ u ∈ news, u.oneCell' = true)
    (hm : 0 < m) (hbytes : (n + m) * bytes ≤ 140737488355328) (h63 : n + m ≤ 140737488355328)
    (h : ∀ g cap w', w'.ownsRow B e size (.slice (some ⟨g, 0, none⟩) (n + m) cap) (n + m) (xs ++ news) → Below B W w' → w.grownBy w' v.ownBlock → (v.ownBlock = some g ∨ g = w.heap.size) → g < w'.heap.size →
      wpList P ops Q rest (a.put o.dst (.slice (some ⟨g, 0, none⟩) (n + m) cap)) w') : wpList P ops Q (o :: rest) a w := by
  obtain ⟨ht, ⟨i, z, hi, hz, h2, h3, h4⟩, hp⟩ := E
  refine wpList_append_lies w hgd s x t ho B e i z size bytes ht hi hz h2 h3 h4 hp v n xs hs hown ad m c news hx hl hnews h1 hm (by unfold maxLen; omega) hbytes hB _ rfl ?_
  intro g cap w' k1 k2 k3 k4
  exact h g cap w' k1 (hb.grown k2 hB (fun k hk => (hown.lt k hk).1)) k2 k3 k4

/-- The same at the operation alone. -/
theorem wp_app {K : Act → World → Prop} {Q : Exit → Act → World → Prop} (E : Elem P t e size bytes) (s x : Operand) (ho : o.op = .call { callee := .builtin .append, args := #[s, x], argTypes := #[t, t] })
    (W : World) (v : Value) (n : Nat) (xs : List Value) (hs : a.eval s = v) (hown : w.ownsRow B e size v n xs) (hb : Below B W w) (hB : B ≤ w.heap.size)
    (ad : Addr) (m c : Nat) (news : List Value) (hx : a.eval x = .slice (some ad) m c) (hl : news.length = m * size) (hnews : ∀ j u, news[j]? = some u → w.cell? (ad.add j) = some u) (h1 : ∀ u ∈ news, u.oneCell' = true)
    (hm : 0 < m) (hbytes : (n + m) * bytes ≤ 140737488355328) (h63 : n + m ≤ 140737488355328)
    (h : ∀ g cap w', w'.ownsRow B e size (.slice (some ⟨g, 0, none⟩) (n + m) cap) (n + m) (xs ++ news) → Below B W w' → w.grownBy w' v.ownBlock → (v.ownBlock = some g ∨ g = w.heap.size) → g < w'.heap.size →
      K (a.put o.dst (.slice (some ⟨g, 0, none⟩) (n + m) cap)) w') : o.wp P a w K Q := by
  obtain ⟨ht, ⟨i, z, hi, hz, h2, h3, h4⟩, hp⟩ := E
  refine wp_append_lies w s x t ho B e i z size bytes ht hi hz h2 h3 h4 hp v n xs hs hown ad m c news hx hl hnews h1 hm (by unfold maxLen; omega) hbytes hB _ rfl ?_
  intro g cap w' k1 k2 k3 k4
  exact h g cap w' k1 (hb.grown k2 hB (fun k hk => (hown.lt k hk).1)) k2 k3 k4

theorem step_app {K : Act → World → Prop} {Q : Exit → Act → World → Prop} {F : Prop} (E : Elem P t e size bytes) (hgd : o.guard = none) (s x : Operand) (ho : o.op = .call { callee := .builtin .append, args := #[s, x], argTypes := #[t, t] })
    (W : World) (v : Value) (n : Nat) (xs : List Value) (hs : a.eval s = v) (hown : w.ownsRow B e size v n xs) (hb : Below B W w) (hB : B ≤ w.heap.size)
    (ad : Addr) (m c : Nat) (news : List Value) (hx : a.eval x = .slice (some ad) m c) (hl : news.length = m * size) (hnews : ∀ j u, news[j]? = some u → w.cell? (ad.add j) = some u) (h1 : ∀ u ∈ news, u.oneCell' = true)
    (hm : 0 < m) (hbytes : (n + m) * bytes ≤ 140737488355328) (h63 : n + m ≤ 140737488355328)
    (h : ∀ g cap w', w'.ownsRow B e size (.slice (some ⟨g, 0, none⟩) (n + m) cap) (n + m) (xs ++ news) → Below B W w' → w.grownBy w' v.ownBlock → (v.ownBlock = some g ∨ g = w.heap.size) → g < w'.heap.size →
      K (a.put o.dst (.slice (some ⟨g, 0, none⟩) (n + m) cap)) w') : if Region.wanted o (yielded ops a.tmps) = true then Oper.wp P o a w K Q else F := by
  obtain ⟨ht, ⟨i, z, hi, hz, h2, h3, h4⟩, hp⟩ := E
  refine step_append_lies w hgd s x t ho B e i z size bytes ht hi hz h2 h3 h4 hp v n xs hs hown ad m c news hx hl hnews h1 hm (by unfold maxLen; omega) hbytes hB _ rfl ?_
  intro g cap w' k1 k2 k3 k4
  exact h g cap w' k1 (hb.grown k2 hB (fun k hk => (hown.lt k hk).1)) k2 k3 k4

/-- Appending what lies in a block that was made just now. -/
theorem wp_app1 {K : Act → World → Prop} {Q : Exit → Act → World → Prop} (E : Elem P t e size bytes) (s x : Operand) (ho : o.op = .call { callee := .builtin .append, args := #[s, x], argTypes := #[t, t] })
    (W w0 : World) (v : Value) (n : Nat) (xs : List Value) (hs : a.eval s = v) (hown : w0.ownsRow B e size v n xs) (hb : Below B W w0) (hB : B ≤ w0.heap.size)
    (cs : Array Value) (hw : w = (w0.alloc (.cells cs e)).drew ∨ w = w0.alloc (.cells cs e)) (m c : Nat) (hx : a.eval x = .slice (some ⟨w0.heap.size, 0, none⟩) m c) (hl : cs.size = m * size) (h1 : cs.all (·.oneCell') = true)
    (hm : 0 < m) (hbytes : (n + m) * bytes ≤ 140737488355328) (h63 : n + m ≤ 140737488355328)
    (h : ∀ g cap w', w'.ownsRow B e size (.slice (some ⟨g, 0, none⟩) (n + m) cap) (n + m) (xs ++ cs.toList) → Below B W w' → w0.grownBy w' v.ownBlock → (v.ownBlock = some g ∨ w0.heap.size ≤ g) → g < w'.heap.size →
      K (a.put o.dst (.slice (some ⟨g, 0, none⟩) (n + m) cap)) w') : o.wp P a w K Q := by
  have hsz : w.heap.size = w0.heap.size + 1 := by rcases hw with rfl | rfl <;> simp
  have hblk : w.heap[w0.heap.size]? = some (.cells cs e (0, 0)) := by
    rcases hw with rfl | rfl <;> exact heap_alloc_new w0 _
  have hb' : Below B W w := by
    rcases hw with rfl | rfl
    · exact (hb.alloc hB _).drew
    · exact hb.alloc hB _
  have hown' : w.ownsRow B e size v n xs := by
    rcases hw with rfl | rfl
    · exact (hown.alloc _).drew
    · exact hown.alloc _
  have hold : ∀ k, k < w0.heap.size → w.heap[k]? = w0.heap[k]? := by
    intro k hk
    rcases hw with rfl | rfl
    · exact Below.heap_alloc w0 _ k hk
    · exact Below.heap_alloc w0 _ k hk
  have hgen : w.os = w0.os ∧ w.tape = w0.tape ∧ w.output = w0.output := by rcases hw with rfl | rfl <;> exact ⟨rfl, rfl, rfl⟩
  refine wp_app E s x ho W v n xs hs hown' hb' (by omega) ⟨w0.heap.size, 0, none⟩ m c cs.toList hx (by simpa using hl) (World.news_of_block hblk) (fun u hu => by
    simp only [Array.all_eq_true'] at h1
    exact h1 u (by simpa using hu)) hm hbytes h63 ?_
  intro g cap w' k1 k2 k3 k4 k5
  refine h g cap w' k1 k2 ⟨k3.os.trans hgen.1, k3.tape.trans hgen.2.1, k3.output.trans hgen.2.2, by have := k3.size; omega, fun k hk hne => (k3.block k (by omega) hne).trans (hold k hk)⟩ ?_ k5
  rcases k4 with k4 | k4
  · exact .inl k4
  · exact .inr (by omega)

/-- The same in the list of a region that does not draw. -/
theorem wpList_app1 {Q : Exit → Act → World → Prop} (E : Elem P t e size bytes) (hgd : o.guard = none) (s x : Operand) (ho : o.op = .call { callee := .builtin .append, args := #[s, x], argTypes := #[t, t] })
    (W w0 : World) (v : Value) (n : Nat) (xs : List Value) (hs : a.eval s = v) (hown : w0.ownsRow B e size v n xs) (hb : Below B W w0) (hB : B ≤ w0.heap.size)
    (cs : Array Value) (hw : w = (w0.alloc (.cells cs e)).drew ∨ w = w0.alloc (.cells cs e)) (m c : Nat) (hx : a.eval x = .slice (some ⟨w0.heap.size, 0, none⟩) m c) (hl : cs.size = m * size) (h1 : cs.all (·.oneCell') = true)
    (hm : 0 < m) (hbytes : (n + m) * bytes ≤ 140737488355328) (h63 : n + m ≤ 140737488355328)
    (h : ∀ g cap w', w'.ownsRow B e size (.slice (some ⟨g, 0, none⟩) (n + m) cap) (n + m) (xs ++ cs.toList) → Below B W w' → w0.grownBy w' v.ownBlock → (v.ownBlock = some g ∨ w0.heap.size ≤ g) → g < w'.heap.size →
      wpList P ops Q rest (a.put o.dst (.slice (some ⟨g, 0, none⟩) (n + m) cap)) w') : wpList P ops Q (o :: rest) a w :=
  wpList_plain hgd fun _ hK => wp_app1 E s x ho W w0 v n xs hs hown hb hB cs hw m c hx hl h1 hm hbytes h63 fun g cap w' k1 k2 k3 k4 k5 => hK _ _ (h g cap w' k1 k2 k3 k4 k5)

end

theorem ownsRow_row {w : World} {B : Nat} {e : TypeId} {v : Value} {xs : List Value} (h : w.ownsRow B e 1 v xs.length xs) (hne : 0 < xs.length) : ∃ g cap, v = .slice (some ⟨g, 0, none⟩) xs.length cap ∧ B ≤ g ∧ Row w g xs := by
  obtain ⟨g, cap, hv, hb, hlt⟩ := h.form hne
  subst hv
  refine ⟨g, cap, rfl, hb, ⟨fun j hj => h.cellAt j (by omega), fun j hj => h.frozenAt j⟩⟩

/-- make([]T, 0, n). -/
theorem wpList_mk {P : Program} {w : World} {ops : Array Oper} {rest : List Oper} {o : Oper} {a : Act} {t e : TypeId} {size bytes : Nat} {Q : Exit → Act → World → Prop} (E : Elem P t e size bytes) (hgd : o.guard = none) (l c : Operand) (ho : o.op = Op.makeSlice t l c)
    (B : Nat) (W : World) (hb : Below B W w) (hB : B ≤ w.heap.size) (kl kc : IntKind) (C : Int) (n : Nat) (hl : a.eval l = .int kl 0) (hc : a.eval c = .int kc C) (hC : C = (n : Int)) (b2 : bytes * n ≤ 281474976710656) (b3 : n ≤ 281474976710656)
    (h : ∀ w', w'.ownsRow B e size (.slice (some ⟨w.heap.size, 0, none⟩) 0 n) 0 [] → Below B W w' → w.grownBy w' none → w.heap.size < w'.heap.size → wpList P ops Q rest (a.put o.dst (.slice (some ⟨w.heap.size, 0, none⟩) 0 n)) w') : wpList P ops Q (o :: rest) a w := by
  obtain ⟨ht, ⟨i, z, hi, hz, h2, h3, h4⟩, hp⟩ := E
  refine wpList_make_own w hgd l c t ho B e i z size ht hi hz h2 kl kc C n hl hc hC (by rw [h3]; exact b2) (by unfold maxLen; omega) hB ?_
  intro w' k1 k2
  refine h w' k1 (hb.grown k2 hB (fun k hk => by cases hk)) k2 ?_
  exact (k1.lt w.heap.size rfl).2

theorem run_convert_bytes_zero0 {P : Program} (w : World) (src dst e : TypeId) (hs : P.underlying src = some (.slice e)) (he : P.underlying e = some (.int .u8)) (hd : P.underlying dst = some .string) :
    (convert src dst (.slice none 0 0)).run P w = .ok (.string ⟨#[]⟩) w := by
  rw [run_convert_bytes_string w src dst e none 0 0 hs he hd]
  rfl

/-- string(b) of a slice of bytes that the call owns. -/
theorem conv_own {P : Program} {w : World} {B n : Nat} {v : Value} {l : List UInt8} (src dst e : TypeId) (h : w.ownsRow B e 1 v n (l.map bv)) (hn : l.length = n) (hs : P.underlying src = some (.slice e)) (he : P.underlying e = some (.int .u8)) (hd : P.underlying dst = some .string) :
    (convert src dst v).run P w = .ok (.string ⟨l.toArray⟩) w := by
  rcases h.2 with ⟨rfl, h0⟩ | ⟨g, cap, cur, hv, hb, hg, hnc, hcm, hsz, htk⟩
  · subst h0
    obtain rfl := List.eq_nil_of_length_eq_zero hn
    exact run_convert_bytes_zero0 w src dst e hs he hd
  · subst hv
    exact conv_back (w := w) (g := g) (l := l) ⟨fun j hj => h.cellAt j (by rw [List.length_map] at hj; omega), fun j _ => h.frozenAt j⟩ src dst e n cap hn hs he hd

theorem Try.el_u8 : Elem Try.prog 22 5 1 1 := Elem.mk' (z := .int .u8 0) Try.underlying22 (by kernel_rfl) rfl (by omega)
theorem Try.el_string : Elem Try.prog 30 9 1 16 := Elem.mk' (z := .string ⟨#[]⟩) Try.underlying30 (by kernel_rfl) rfl (by omega)
end Go.Proofs.Ythihjelcakenpaa
