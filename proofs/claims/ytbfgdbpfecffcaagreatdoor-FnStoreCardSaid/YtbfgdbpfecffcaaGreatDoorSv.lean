/-
  Sv: ComS (what the claim needs of them).
-/
import Derived.Deep.DeepCutAuto
import Derived.Handy
import Derived.Test.YtbfgdbpfecffcaaGreatDoorRows
import Derived.WalkKit
import Derived.WalkSpells
import Derived.WalkLawsBesides
import Derived.Laws.IdiomStrings
import Derived.Lib.Hide
import Derived.Deep.AppendLies
import Derived.OrdersHeld
import Derived.Lib.ItoaNum
import Derived.Lib.ItoaMem
import Derived.Lib.AppendStr
import Derived.Lib.ItoaLen
import Derived.Lib.Strings
import Derived.Lib.Bytealg
import Derived.Lib.OthersKept
import Derived.Laws.RangeAny
import Derived.Laws.BitsAllLaws
import Derived.Laws.BitsLemmas
import Derived.IntWalk
import Derived.Lib.Join
import Derived.Deep.Strs
import Derived.Test.YtbfgdbpfecffcaaGreatDoorProg
import Derived.Laws.Tables
import Derived.Shelf.SlSortCmp.SmallK
import Derived.Test.YtbfgdbpfecffcaaGreatDoorSb
import Derived.Test.YtbfgdbpfecffcaaGreatDoorSc
import Derived.Test.YtbfgdbpfecffcaaGreatDoorSd
import Derived.Test.YtbfgdbpfecffcaaGreatDoorSe
import Derived.Test.YtbfgdbpfecffcaaGreatDoorSf
import Derived.Test.YtbfgdbpfecffcaaGreatDoorSl
import Derived.Test.YtbfgdbpfecffcaaGreatDoorSm
import Derived.Test.YtbfgdbpfecffcaaGreatDoorSo

namespace Go.Proofs.YtbfgdbpfecffcaaGreatDoor
open Go.RowKit

/-- append(s[:n], x...) where there is room: in place. -/
theorem wp_room {P : Program} {o : Oper} {a : Act} {w : World} {K : Act → World → Prop} {Q : Exit → Act → World → Prop} {t e : TypeId} {size bytes : Nat} (E : Elem P t e size bytes) (s x : Operand)
    (ho : o.op = .call { callee := .builtin .append, args := #[s, x], argTypes := #[t, t] }) (g n cap : Nat) (cur : Array Value) (hg : w.heap[g]? = some (.cells cur e (0, 0))) (hs : a.eval s = .slice (some ⟨g, 0, none⟩) n cap)
    (ad : Addr) (m c : Nat) (hx : a.eval x = .slice (some ad) m c) (news : List Value) (hl : news.length = m * size) (hnews : ∀ j u, news[j]? = some u → w.cell? (ad.add j) = some u) (h1 : ∀ u ∈ news, u.oneCell' = true)
    (hroom : n + m ≤ cap) (hfit : n * size + news.length ≤ cur.size)
    (h : ∀ X, X = w.setRow g (cur.toList.take (n * size) ++ news ++ cur.toList.drop (n * size + news.length)).toArray → K (a.put o.dst (.slice (some ⟨g, 0, none⟩) (n + m) cap)) X) : o.wp P a w K Q := by
  obtain ⟨ht, ⟨i, z, hi, hz, h2, h3, h4⟩, hp⟩ := E
  subst h2
  have hr := run_append_room (P := P) w t o.type e i ht hi g n cap cur hg ad m c news hl hnews h1 hroom hfit
  unfold Oper.wp execOp
  simp only [ho, resolve, invoke, builtin, Sem.run_bind, Sem.run_pure, Result.andThen_ok, List.map_toArray, List.map_cons, List.map_nil, hs, hx, hr]
  exact h _ rfl

/-- Cells behind a row's own elements are written: the row is as it was. -/
theorem own_past {B m n c g : Nat} {e : TypeId} {xs : List Value} : ∀ (vs : List Value) (o : Nat) (w : World), w.ownsRow B e m (.slice (some ⟨g, 0, none⟩) n c) n xs → xs.length ≤ o → (w.setCells g o vs).ownsRow B e m (.slice (some ⟨g, 0, none⟩) n c) n xs ∧ w.grownBy (w.setCells g o vs) (some g)
  | [], _, w, h, _ => ⟨h, rfl, rfl, rfl, Nat.le_refl _, fun _ _ _ => rfl⟩
  | v :: vs, o, w, h, ho => by
    have h1 := h.stored o v
    rw [List.set_eq_of_length_le ho] at h1
    have h2 := own_past vs (o + 1) _ h1.1 (by omega)
    exact ⟨h2.1, h1.2.os ▸ h2.2.os, h1.2.tape ▸ h2.2.tape, h1.2.output ▸ h2.2.output, Nat.le_trans h1.2.size h2.2.size, fun k hk hne => (h2.2.block k (Nat.lt_of_lt_of_le hk h1.2.size) hne).trans (h1.2.block k hk hne)⟩

/-- clear(s) on elements of several cells. -/
theorem run_clear_cells {P : Program} (w : World) (t e ty : TypeId) (z : Value) (ht : P.underlying t = some (.slice e)) (hv : ∀ w, (zeroValue e).run P w = .ok z w) (h1 : ∀ v ∈ z.cells.toList, v.oneCell' = true) (b o n c : Nat) (hn : 0 < n)
    (hc : ∀ j, j < n * z.cells.size → (w.cell? ⟨b, o + j, none⟩).isSome = true) (hf : ∀ j, j < n * z.cells.size → w.frozen? ⟨b, o + j, none⟩ = false) :
    (Builtin.clear_ #[t] ty #[.slice (some ⟨b, o, none⟩) n c]).run P w = .ok (.tuple #[]) (w.setCells b o (Builtin.zeroCells z.cells n).toList) := by
  have hsz : (Builtin.zeroCells z.cells n).toList.length = n * z.cells.size := by simp [Builtin.zeroCells]
  have hst := run_storeCells_cells (P := P) b o (Builtin.zeroCells z.cells n).toList 0 w (by rw [hsz]; simpa using hc) (by rw [hsz]; simpa using hf) (by
    intro v hv'
    simp only [Builtin.zeroCells, Array.toList_map, List.mem_map] at hv'
    obtain ⟨i, hi, rfl⟩ := hv'
    rcases Nat.eq_zero_or_pos z.cells.size with h0 | h0
    · simp [h0] at hi
    · have hlt : i % z.cells.size < z.cells.size := Nat.mod_lt _ h0
      rw [getElem!_pos z.cells _ hlt]
      exact h1 _ (by simp))
  simp only [Nat.add_zero] at hst
  obtain ⟨m, rfl⟩ : ∃ m, n = m + 1 := ⟨n - 1, by omega⟩
  simp [Builtin.clear_, run_underlying ht, hv, hst]

/-- One record left out in place: what the row's block holds behind the append. -/
theorem own_cut {α : Type} {enc : α → List Value} {m B n c g k : Nat} {e : TypeId} {w : World} (hm : ∀ x, (enc x).length = m) {l : List α} (hl : l.length = n) (h : w.ownsRow B e m (.slice (some ⟨g, 0, none⟩) n c) n (l.flatMap enc)) (hk : k < n) {cur : Array Value} (hg : w.heap[g]? = some (.cells cur e (0, 0))) :
    (w.setRow g (cur.toList.take (k * m) ++ (l.drop (k + 1)).flatMap enc ++ cur.toList.drop (k * m + ((l.drop (k + 1)).flatMap enc).length)).toArray).ownsRow B e m (.slice (some ⟨g, 0, none⟩) (n - 1) c) (n - 1) ((l.eraseIdx k).flatMap enc)
    ∧ w.grownBy (w.setRow g (cur.toList.take (k * m) ++ (l.drop (k + 1)).flatMap enc ++ cur.toList.drop (k * m + ((l.drop (k + 1)).flatMap enc).length)).toArray) (some g)
    ∧ (∃ cur', (w.setRow g (cur.toList.take (k * m) ++ (l.drop (k + 1)).flatMap enc ++ cur.toList.drop (k * m + ((l.drop (k + 1)).flatMap enc).length)).toArray).heap[g]? = some (.cells cur' e (0, 0)) ∧ cur'.size = c * m)
    ∧ k * m + ((l.drop (k + 1)).flatMap enc).length ≤ cur.size := by
  have hfl : ∀ r : List α, (r.flatMap enc).length = r.length * m := flat_lenE hm
  rcases h.2 with ⟨h0, _⟩ | ⟨g', cap, cur0, h0, hB, hgg, hnc, hcm, hcs, htk⟩
  · simp at h0
  · simp only [Value.slice.injEq, Option.some.injEq, Addr.mk.injEq, and_true, true_and] at h0
    obtain ⟨rfl, rfl⟩ := h0
    rw [hg] at hgg
    injection hgg with hgg
    injection hgg with hgg
    subst hgg
    have hnm : n * m ≤ c * m := Nat.mul_le_mul_right m hnc
    have hkm : k * m + m ≤ n * m := by have := Nat.mul_le_mul_right m (show k + 1 ≤ n by omega); rwa [Nat.succ_mul] at this
    have hdl : ((l.drop (k + 1)).flatMap enc).length = (n - (k + 1)) * m := by rw [hfl, List.length_drop, hl]
    have hn1 : k * m + (n - (k + 1)) * m = (n - 1) * m := by rw [← Nat.add_mul]; congr 1; omega
    have hn2 : (n - 1) * m ≤ n * m := Nat.mul_le_mul_right m (by omega)
    have hsz : (cur.toList.take (k * m) ++ (l.drop (k + 1)).flatMap enc ++ cur.toList.drop (k * m + ((l.drop (k + 1)).flatMap enc).length)).toArray.size = c * m := by
      simp only [List.size_toArray, List.length_append, List.length_take, List.length_drop, Array.length_toList, hdl, hcs]
      omega
    have hheap := setRow_heap w g cur (cur.toList.take (k * m) ++ (l.drop (k + 1)).flatMap enc ++ cur.toList.drop (k * m + ((l.drop (k + 1)).flatMap enc).length)).toArray e _ hg
    refine ⟨⟨?_, .inr ⟨g, c, _, rfl, hB, hheap, by omega, hcm, hsz, ?_⟩⟩, ⟨rfl, rfl, rfl, by simp [World.setRow], fun j _ hj => setRow_other w g j _ (fun e => hj (by rw [e]))⟩, ⟨_, hheap, hsz⟩, by rw [hdl, hcs]; omega⟩
    · rw [hfl, List.length_eraseIdx_of_lt (by omega), hl]
    · have h5 : cur.toList.take (k * m) = (l.take k).flatMap enc := by
        have h6 : cur.toList.take (k * m) = (l.flatMap enc).take (k * m) := by rw [← htk, List.take_take, Nat.min_eq_left (by omega)]
        rw [h6]
        conv => lhs; rw [← List.take_append_drop k l, List.flatMap_append]
        rw [List.take_left' (by rw [hfl, List.length_take, Nat.min_eq_left (by omega)])]
      rw [List.toList_toArray, h5, List.eraseIdx_eq_take_drop_succ, List.flatMap_append]
      exact List.take_left' (by rw [List.length_append, hfl, hdl, List.length_take, Nat.min_eq_left (by omega)]; exact hn1)

section
open Go.Sort Go.Lib
instance : Inhabited BP := ⟨⟨⟨[], 0, 0, []⟩, none, 0, []⟩⟩
theorem flatK_list (d : Array BP) : (flatK encP 4 d).toList = d.toList.flatMap encP := by
  have hs : (flatK encP 4 d).size = d.size * 4 := size_flatK encP 4 d
  apply List.ext_getElem?
  intro t
  by_cases ht : t < d.size * 4
  · have hq : t / 4 < d.size := by omega
    have hd : d.toList[t / 4]? = some d[t / 4]! := by rw [Array.getElem?_toList, Array.getElem?_eq_getElem hq, getElem!_pos d _ hq]
    have hr : t % 4 < (encP d[t / 4]!).length := by rw [encP_len]; omega
    have h1 := flat_at encP d.toList encP_len (t / 4) _ hd (t % 4) _ (List.getElem?_eq_getElem hr)
    rw [show t / 4 * 4 + t % 4 = t by omega] at h1
    rw [h1, Array.getElem?_toList, Array.getElem?_eq_getElem (by omega), ← getElem!_pos (flatK encP 4 d) t (by omega), get_flatK encP 4 d t ht, getElem!_pos (encP d[t / 4]!) (t % 4) hr]
  · rw [List.getElem?_eq_none (by rw [Array.length_toList]; omega), List.getElem?_eq_none (by rw [encs_len, Array.length_toList]; omega)]
theorem own_holds {B n c b : Nat} {w : World} {ps : List BP} (hn : ps.length = n) (h : w.ownsRow B 38 4 (.slice (some ⟨b, 0, none⟩) n c) n (ps.flatMap encP)) : HoldsK encP 4 w b 0 ps.toArray := by
  intro j hj
  have hs : (flatK encP 4 ps.toArray).size = ps.length * 4 := by rw [size_flatK]; simp
  have hj2 : j < n * 4 := by rw [← hn]; omega
  refine ⟨?_, h.frozenAt _⟩
  rw [Nat.zero_add, h.cellAt j hj2, ← show (flatK encP 4 ps.toArray).toList = ps.flatMap encP from flatK_list ps.toArray, Array.getElem?_toList, Array.getElem?_eq_getElem (by omega), getElem!_pos _ _ (by omega)]
  rfl
/-- The row behind the sort. -/
theorem own_sorted {B n c b m : Nat} {w : World} {ps : List BP} {d : Array BP} {os : Array Obj} (_hn : ps.length = n) (hd : d.size = n) (h : w.ownsRow B 38 4 (.slice (some ⟨b, 0, none⟩) n c) n (ps.flatMap encP)) :
    (sortWorldK encP 4 w b 0 m d os).ownsRow B 38 4 (.slice (some ⟨b, 0, none⟩) n c) n (d.toList.flatMap encP) ∧ w.grownBy (sortWorldK encP 4 w b 0 m d os) (some b) := by
  rcases h.2 with ⟨h0, _⟩ | ⟨g', cap, cur, h0, hB, hg, hnc, hcm, hcs, htk⟩
  · simp at h0
  · simp only [Value.slice.injEq, Option.some.injEq, Addr.mk.injEq, and_true, true_and] at h0
    obtain ⟨rfl, rfl⟩ := h0
    have hlt := (Array.getElem?_eq_some_iff.1 hg).1
    have hF : (flatK encP 4 d).size = n * 4 := by rw [size_flatK, hd]
    have hheap : (sortWorldK encP 4 w b 0 m d os).heap[b]? = some (.cells (putCells id 0 (flatK encP 4 d) cur) 38 (0, 0)) := by
      unfold sortWorldK
      rw [heap_grow_old _ _ (by rw [size_putRowK]; exact hlt)]
      show ((Go.Sort.ahead w m).heap.modify b (onCells (putCells id 0 (flatK encP 4 d))))[b]? = _
      rw [Array.getElem?_modify, if_pos rfl]
      show (w.heap[b]?).map _ = _
      rw [hg]
      rfl
    refine ⟨⟨by rw [encs_len, Array.length_toList, hd], .inr ⟨b, c, _, rfl, hB, hheap, hnc, hcm, by simp [putCells, hcs], ?_⟩⟩, ⟨rfl, rfl, rfl, size_sortWorldK_c encP 4 w b 0 m d os, fun k hk hne => ?_⟩⟩
    · rw [← flatK_list]
      apply List.ext_getElem?
      intro t
      have hnm : n * 4 ≤ c * 4 := Nat.mul_le_mul_right 4 hnc
      by_cases ht : t < n * 4
      · rw [List.getElem?_take, if_pos ht, Array.getElem?_toList, Array.getElem?_toList]
        unfold putCells
        rw [Array.getElem?_mapIdx, Array.getElem?_eq_getElem (show t < cur.size by omega), Option.map_some, if_pos ⟨by omega, by omega⟩, Nat.sub_zero, Array.getElem?_eq_getElem (by omega), getElem!_pos _ _ (by omega)]
        rfl
      · rw [List.getElem?_take, if_neg ht, List.getElem?_eq_none (by rw [Array.length_toList]; omega)]
    · unfold sortWorldK
      rw [heap_grow_old _ _ (by rw [size_putRowK]; exact hk)]
      show ((Go.Sort.ahead w m).heap.modify b (onCells (putCells id 0 (flatK encP 4 d))))[k]? = _
      rw [Array.getElem?_modify, if_neg (fun e => hne (by rw [e]))]
      rfl

/-- Two rows of the same boxes, the names of both ascending, are one. -/
theorem asc_one : ∀ {l m : List BP}, l.Perm m → (l.Pairwise fun x y => Op.bytesLess x.box.name y.box.name = true) → (m.Pairwise fun x y => Op.bytesLess x.box.name y.box.name = true) → l = m
  | [], m, h, _, _ => (List.Perm.nil_eq h)
  | x :: l, [], h, _, _ => absurd h.length_eq (by simp)
  | x :: l, y :: m, h, h1, h2 => by
    have hirr : ∀ s : List UInt8, ¬ Op.bytesLess s s = true := fun s hs => by rw [lessC_lt, decide_eq_true_eq] at hs; exact List.lt_irrefl s hs
    have he : x = y := by
      rcases List.mem_cons.1 (h.mem_iff.1 (List.mem_cons_self ..)) with e | hx
      · exact e
      · rcases List.mem_cons.1 (h.mem_iff.2 (List.mem_cons_self (a := y) (l := m))) with e | hy
        · exact e.symm
        · have a1 := (List.pairwise_cons.1 h2).1 x hx
          have a2 := (List.pairwise_cons.1 h1).1 y hy
          exact absurd (less_trans _ _ _ a1 a2) (hirr _)
    subst he
    rw [asc_one (List.Perm.cons_inv h) (List.pairwise_cons.1 h1).2 (List.pairwise_cons.1 h2).2]
theorem cmp_less : ∀ a b : List UInt8, decide (compareBytes a b < 0) = Op.bytesLess a b
  | [], [] => by simp [compareBytes, Op.bytesLess]
  | [], _ :: _ => by simp [compareBytes, Op.bytesLess]
  | _ :: _, [] => by simp [compareBytes, Op.bytesLess]
  | a :: k, b :: l => by
    have h := cmp_less k l
    unfold compareBytes
    simp only [Op.bytesLess]
    by_cases h1 : a < b
    · simp [h1]
    · by_cases h2 : b < a
      · have h3 : ¬ a = b := fun e => by subst e; exact absurd h2 h1
        simp [h1, h2, h3]
      · have h3 : a = b := by
          apply UInt8.toNat.inj
          rw [UInt8.lt_iff_toNat_lt] at h1 h2
          omega
        subst h3
        simp [h]
def cfN (x y : BP) : Int := compareBytes x.box.name y.box.name
theorem ltN (x y : BP) : ltOf cfN x y = Op.bytesLess x.box.name y.box.name := cmp_less _ _
theorem swoN : SWO (ltOf cfN) where
  irrefl x := by
    rw [ltN, Bool.eq_false_iff]
    intro hs
    rw [lessC_lt, decide_eq_true_eq] at hs
    exact List.lt_irrefl _ hs
  trans x y z h1 h2 := by rw [ltN] at *; exact less_trans _ _ _ h1 h2
  ntrans x y z h1 h2 := by
    rw [ltN, lessC_lt, decide_eq_false_iff_not, List.not_lt] at *
    exact List.le_trans h2 h1
/-- What the sort leaves, where all names differ, is the one row in which they ascend. -/
theorem sorted_one {ps qs : List BP} {d : Array BP} (hp : PermIn 0 ps.toArray.size ps.toArray d) (hs : SortedIn (ltOf cfN) 0 ps.toArray.size d) (hq : ps.Perm qs) (hqa : qs.Pairwise fun x y => Op.bytesLess x.box.name y.box.name = true) : d.toList = qs := by
  obtain ⟨h1, _, h2⟩ := hp
  have hsz : d.size = ps.length := by rw [h1]; simp
  have hperm : d.toList.Perm ps := by
    have e1 : (d.extract 0 ps.toArray.size).toList = d.toList := by simp [← hsz]
    have e2 : (ps.toArray.extract 0 ps.toArray.size).toList = ps := by simp
    rw [e1, e2] at h2
    exact h2
  have hpq := hperm.trans hq
  refine asc_one hpq (List.pairwise_iff_getElem.2 fun i j hi hj hij => ?_) hqa
  rw [Array.length_toList] at hi hj
  have h3 := hs i j (Nat.zero_le _) hij (by simp; omega)
  rw [ltN, getElem!_pos d j hj, getElem!_pos d i hi] at h3
  have hne : d[i].box.name ≠ d[j].box.name := by
    have hnd : (d.toList.map fun x : BP => x.box.name).Nodup := by
      refine (hpq.map _).nodup_iff.2 ?_
      refine List.pairwise_map.2 (hqa.imp fun {a b} hab e => ?_)
      rw [e, lessC_lt, decide_eq_true_eq] at hab
      exact List.lt_irrefl _ hab
    have := List.pairwise_iff_getElem.1 hnd i j (by simp; omega) (by simp; omega) hij
    simpa using this
  simp only [Array.getElem_toList]
  exact less_total (by rw [h3]; simp) (fun e => hne e.symm)
end

end Go.Proofs.YtbfgdbpfecffcaaGreatDoor
