/-
  Chapter 4's walks: the program's settled, Members, MembersOf.
-/
import Derived.Test.YtmmpfhcohpdcbaaSetQ
namespace Go.Proofs.Ytmmpfhcohpdcbaa
open Go.RowKit

/-- copy(d, s): as many elements as either has go over, onto a row that the call owns. -/
theorem wpList_copyAll {P : Program} {w : World} {ops : Array Oper} {rest : List Oper} {o : Oper} {a : Act} {t e : TypeId} {size bytes B n : Nat} {Q : Exit → Act → World → Prop} (E : Elem P t e size bytes) (hgd : o.guard = none) (d s : Operand) (ho : o.op = .call { callee := .builtin .copy, args := #[d, s], argTypes := #[t, t] })
    (W : World) (v : Value) (xs : List Value) (hd : a.eval d = v) (hown : w.ownsRow B e size v n xs) (hb : Below B W w) (hB : B ≤ w.heap.size)
    (sp : Option Addr) (sc : Nat) (cs : List Value) (hs : a.eval s = .slice sp n sc) (hl : cs.length = n * size) (hsrc : 0 < n → ∃ ad, sp = some ad ∧ ∀ j u, cs[j]? = some u → w.cell? (ad.add j) = some u) (h1 : ∀ u ∈ cs, u.oneCell' = true)
    (h : ∀ w', w'.ownsRow B e size v n cs → Below B W w' → w.grownBy w' v.ownBlock → wpList P ops Q rest (a.put o.dst (goInt (n : Int))) w') : wpList P ops Q (o :: rest) a w := by
  obtain ⟨ht, ⟨i, z, hi, hz, h2, h3, h4⟩, hp⟩ := E
  refine wpList_plain hgd fun K hK => ?_
  suffices hrun : ∃ w', (Builtin.copy_ #[t, t] o.type #[v, .slice sp n sc]).run P w = .ok (goInt (n : Int)) w' ∧ w'.ownsRow B e size v n cs ∧ w.grownBy w' v.ownBlock by
    obtain ⟨w', hr, k1, k2⟩ := hrun
    have hk := hK _ _ (h w' k1 (hb.grown k2 hB (fun k hk => (hown.lt k hk).1)) k2)
    unfold Oper.wp
    simp [execOp, ho, resolve, invoke, builtin, hd, hs, hr, Result.andThen]
    exact hk
  by_cases h0 : n = 0
  · subst h0
    have hcs : cs = [] := List.eq_nil_of_length_eq_zero (by omega)
    have hxs : xs = [] := List.eq_nil_of_length_eq_zero (by have := hown.1; omega)
    subst hcs hxs
    refine ⟨w, ?_, hown, World.grownBy.refl _ _⟩
    have hl0 : ∀ (x : Addr), (loadCells x 0).run P w = .ok #[] w := fun x => by simpa using run_loadCells_list (P := P) w x [] (by simp)
    rcases hown.2 with ⟨rfl, _⟩ | ⟨g, cap, cur, rfl, _⟩ <;> cases sp <;> simp [Builtin.copy_, run_underlying ht, Builtin.lenOf, Builtin.firstCells, sizeOf, typeInfo, hi, storeCells, hl0]
  · obtain ⟨ad, he, hsr⟩ := hsrc (by omega)
    subst he
    rcases hown.2 with ⟨_, h0'⟩ | ⟨g, cap, cur, rfl, hbg, hg, hnc, hcm, hsz, htk⟩
    · exact absurd h0' h0
    · have hle : n * size ≤ cap * size := Nat.mul_le_mul_right _ hnc
      have hlo := run_loadCells_list (P := P) w ad cs hsr
      have hst := run_storeCells_at P g 0 e cs 0 cur w hg (by omega) h1
      have hst2 : (storeCells ⟨g, 0, none⟩ cs).run P w = .ok () (w.setRow g (cs ++ cur.toList.drop cs.length).toArray) := by simpa using hst
      refine ⟨w.setRow g (cs ++ cur.toList.drop cs.length).toArray, ?_, ⟨hl, .inr ⟨g, cap, (cs ++ cur.toList.drop cs.length).toArray, rfl, hbg, setRow_heap w g cur _ e _ hg, hnc, hcm, ?_, ?_⟩⟩, ⟨rfl, rfl, rfl, by simp [World.setRow], fun k _ hk => setRow_other w g k _ (fun e => hk (by rw [e]; rfl))⟩⟩
      · simp [Builtin.copy_, run_underlying ht, Builtin.lenOf, Builtin.firstCells, sizeOf, typeInfo, hi, h2, ← hl, hlo, hst2]
      · simp; omega
      · simp [← hl]

theorem own_mono {w : World} {B B' n s : Nat} {e : TypeId} {v : Value} {xs : List Value} (h : w.ownsRow B e s v n xs) (hb : B' ≤ B) : w.ownsRow B' e s v n xs := by
  refine ⟨h.1, ?_⟩
  rcases h.2 with h0 | ⟨g, cap, cur, hv, h1, h2⟩
  · exact .inl h0
  · exact .inr ⟨g, cap, cur, hv, Nat.le_trans hb h1, h2⟩
theorem own_two' {w : World} {B g n c j : Nat} {e : TypeId} {A r : List Value} {u0 u1 : Value} (h : w.ownsRow B e 2 (.slice (some ⟨g, 0, none⟩) n c) n (A ++ u0 :: u1 :: r)) (hA : A.length = j * 2) (x y : Value) :
    ((w.setCell ⟨g, j * 2, none⟩ x).setCell ⟨g, j * 2 + 1, none⟩ y).ownsRow B e 2 (.slice (some ⟨g, 0, none⟩) n c) n ((A ++ [x, y]) ++ r) := by
  have h1 := (h.stored (j * 2) x).1
  have h2 := (h1.stored (j * 2 + 1) y).1
  have e1 : (A ++ u0 :: u1 :: r).set (j * 2) x = A ++ x :: u1 :: r := by rw [List.set_append_right _ _ (by omega), hA, Nat.sub_self]; rfl
  have e2 : (A ++ x :: u1 :: r).set (j * 2 + 1) y = A ++ x :: y :: r := by rw [List.set_append_right _ _ (by omega), hA, show j * 2 + 1 - j * 2 = 1 by omega]; rfl
  rw [e1, e2] at h2
  simpa using h2
theorem drop_at {α : Type} {l : List α} {k : Nat} {x : α} (h : l[k]? = some x) : l.drop k = x :: l.drop (k + 1) := by
  obtain ⟨h1, h2⟩ := List.getElem?_eq_some_iff.1 h
  rw [List.drop_eq_getElem_cons h1, h2]

/-- The cells of a list of spans that is read, one by one. -/
theorem Rd.cells {w : World} {b off n c : Nat} {l : List Spn} (h : Rd 2 spnc w (.slice (some ⟨b, off, none⟩) n c) l) : ∀ j v, (l.flatMap spnc)[j]? = some v → w.cell? ⟨b, off + j, none⟩ = some v := by
  obtain ⟨p, cap, hv, hc⟩ := h.ex
  injection hv with hp _ _
  subst hp
  intro j v hj
  rcases hc with rfl | ⟨b1, o1, he, hlt, hc⟩
  · simp at hj
  · injection he with he
    injection he with e1 e2
    subst e1
    subst e2
    have hlen : (l.flatMap spnc).length = l.length * 2 := flat_len2 (enc := spnc) (fun _ => rfl) l
    have hj1 : j < l.length * 2 := by rw [← hlen]; exact (List.getElem?_eq_some_iff.1 hj).1
    obtain ⟨x, hx⟩ : ∃ x, l[j / 2]? = some x := ⟨_, List.getElem?_eq_getElem (by omega)⟩
    have hm : j % 2 = 0 ∨ j % 2 = 1 := by omega
    obtain ⟨u, hu⟩ : ∃ u, (spnc x)[j % 2]? = some u := by rcases hm with h | h <;> rw [h] <;> exact ⟨_, rfl⟩
    have h1 := flat_at (m := 2) spnc l (fun _ => rfl) _ x hx _ u hu
    rw [show j / 2 * 2 + j % 2 = j by omega, hj] at h1
    injection h1 with h1
    subst h1
    have := hc _ x hx _ _ hu
    rwa [show off + j / 2 * 2 + j % 2 = off + j by omega] at this

set_option maxHeartbeats 1600000 in
theorem settled_any (v : Value) (l : List Spn) (last : Int) (w : World) (hr : Rd 2 spnc w v l) (hl : l.length ≤ 1048576) :
    Calls Try.prog 33 #[v, .int .i64 last] w fun e w' => ∃ p c, l.length ≤ c ∧ e = .returned (.slice p l.length c) ∧ Rd 2 spnc w' (.slice p l.length c) (l.map (setS last)) ∧ Below w.heap.size w w' := by
  have HR := Lib.hid hr
  obtain ⟨p, c, rfl, hp⟩ := hr.ex
  have HP := Lib.hid hp
  clear hp hr
  go_enter Try.func33, Try.ntmps33
  go_wp2_with (refine wpList_spans rfl _ _ rfl w.heap.size w (Below.refl _ _) (Nat.le_refl _) _ _ l.length rfl rfl (by omega) ?_)
  intro w1 xs hown1 hb1 hz1
  go_wp2_with (with_reducible refine wpList_copyAll Try.el_spn rfl (.tmp 13) (.tmp 14) rfl w (.slice (some ⟨w.heap.size, 0, none⟩) l.length l.length) xs rfl hown1 hb1 (Nat.le_of_lt hz1) p c (l.flatMap spnc) rfl (flat_len2 (enc := spnc) (fun _ => rfl) l) ?_ ?_ ?_)
  · intro h0
    obtain ⟨b, off, rfl, hlt, hc⟩ := HP.out.resolve_left (by intro h; subst h; simp at h0)
    refine ⟨_, rfl, fun j u hu => ?_⟩
    have := HR.out.cells j u hu
    rw [show (⟨b, off, none⟩ : Addr).add j = ⟨b, off + j, none⟩ by unfold Addr.add; simp]
    exact (hb1.cell (p := ⟨b, off + j, none⟩) hlt).trans this
  · intro u hu
    obtain ⟨s, _, hs⟩ := List.mem_flatMap.1 hu
    have : u = .int .i64 s.low ∨ u = .int .i64 s.high := by simpa [spnc] using hs
    rcases this with rfl | rfl <;> rfl
  intro w2 hown2 hb2 _
  have hz2 := hb2.size
  clear hown1 hb1 hz1
  go_wp2
  go_loopw [18] (fun i wr => ∃ k : Nat, k ≤ l.length ∧ i = .int .i64 k ∧ wr.ownsRow w.heap.size 45 2 (.slice (some ⟨w.heap.size, 0, none⟩) l.length l.length) l.length (((l.take k).map (setS last)).flatMap spnc ++ (l.drop k).flatMap spnc) ∧ Below w.heap.size w wr) (fun i _ => l.length - (intOf i).toNat)
  case atStart => exact ⟨0, by omega, rfl, by simpa using hown2, hb2⟩
  case round =>
    obtain ⟨k, hk, rfl, hown, hbr⟩ := hrel
    have hbr0 := hbr.size
    have hgl := (hown.lt _ rfl).2
    clear hown2 hb2 hz2
    by_cases hlt : k < l.length
    · obtain ⟨s, hx⟩ : ∃ s, l[k]? = some s := ⟨_, List.getElem?_eq_getElem hlt⟩
      have HT := Lib.hid (take_at hx)
      rw [drop_at hx, List.flatMap_cons] at hown
      have hlen : (((l.take k).map (setS last)).flatMap spnc).length = k * 2 := by rw [flat_len2 (enc := spnc) (fun _ => rfl), List.length_map, List.length_take]; omega
      have e1 : wr.cell? ⟨w.heap.size, k * 2, none⟩ = some (.int .i64 s.low) := by
        rw [hown.cellAt _ (by omega), List.getElem?_append_right (by omega), hlen, Nat.sub_self]; rfl
      have e2 : wr.cell? ⟨w.heap.size, k * 2 + 1, none⟩ = some (.int .i64 s.high) := by
        rw [hown.cellAt _ (by omega), List.getElem?_append_right (by omega), hlen, show k * 2 + 1 - k * 2 = 1 by omega]; rfl
      have hbA : Below w.heap.size w (wr.alloc (.cells #[.int .i64 s.low, .int .i64 s.high] 45)) := hbr.alloc hbr0 _
      have hoA := hown.alloc (.cells #[.int .i64 s.low, .int .i64 s.high] 45)
      have hzA : (wr.alloc (.cells #[.int .i64 s.low, .int .i64 s.high] 45)).heap.size = wr.heap.size + 1 := by simp
      have hblkA : (wr.alloc (.cells #[.int .i64 s.low, .int .i64 s.high] 45)).heap[wr.heap.size]? = some (.cells #[.int .i64 s.low, .int .i64 s.high] 45 (0, 0)) := heap_alloc_new wr _
      have f1 : (wr.alloc (.cells #[.int .i64 s.low, .int .i64 s.high] 45)).cell? ⟨wr.heap.size, 0, none⟩ = some (.int .i64 s.low) := (Lib.cell_of_heap hblkA 0).trans rfl
      have f2 : (wr.alloc (.cells #[.int .i64 s.low, .int .i64 s.high] 45)).cell? ⟨wr.heap.size, 1, none⟩ = some (.int .i64 s.high) := (Lib.cell_of_heap hblkA 1).trans rfl
      have C1 := Lib.hid (fun W => endIn_any s.low last W)
      have C2 := Lib.hid (fun W => endIn_any s.high last W)
      have HS := Lib.hid (show setS last s = ⟨minI (endI s.low last) (endI s.high last), maxI (endI s.low last) (endI s.high last)⟩ from rfl)
      clear hx hblkA
      generalize endI s.low last = lo at *
      generalize endI s.high last = hi at *
      have hoA := hoA.drew
      have hbA := hbA.drew
      obtain ⟨⟨u0, hu0⟩, ⟨u1, hu1⟩, hf0, hf1⟩ := own_cells2 hoA hlt
      have HO := Lib.hid (fun x y => own_two' hoA hlen (.int .i64 x) (.int .i64 y))
      clear hown
      go_wp2
      clear e1 e2
      refine ord_start [(0, true), (1, true), (2, true), (4, true), (5, true), (6, true), (3, false), (7, false), (8, true), (9, true)] (fun W => W.cell? ⟨wr.heap.size, 0, none⟩ = some (.int .i64 s.low) ∧ W.cell? ⟨wr.heap.size, 1, none⟩ = some (.int .i64 s.high)) (by kernel_rfl) (by kernel_rfl) rfl (by kernel_rfl) ?_
      intro ops' hops
      clear hops
      simp only [List.map_cons, List.map_nil, pickOp_zero, pickOp_succ]
      iterate 6 (refine ord_flo ?_ (fun _ _ _ h => h) rfl ?_ ⟨f1, f2⟩ ?_; rotate_left; focus (intro W hS; obtain ⟨s1, s2⟩ := hS; go_simp; rfl))
      refine ord_ev rfl ?_
      go_simp
      refine (C1.out _).mono ?_
      rintro e w3 ⟨rfl, rfl⟩
      refine ⟨⟨f1, f2⟩, ?_⟩
      refine ord_ev rfl ?_
      go_simp
      refine (C2.out _).mono ?_
      rintro e w3 ⟨rfl, rfl⟩
      refine ⟨⟨f1, f2⟩, ?_⟩
      iterate 2 (refine ord_flo ?_ (fun _ _ _ h => h) rfl ?_ ⟨f1, f2⟩ ?_; rotate_left; focus (intro W hS; obtain ⟨s1, s2⟩ := hS; go_simp; rfl))
      refine ord_done ?_
      go_simp
      clear f1 f2
      generalize (wr.alloc (.cells #[.int .i64 s.low, .int .i64 s.high] 45)).drew = X at *
      have hgX : w.heap.size ≤ X.heap.size := hbA.size
      clear hoA
      rcases Int.lt_trichotomy lo hi with hc | hc | hc
      · rw [show minI lo hi = lo from if_pos hc, show maxI lo hi = hi from if_neg (by omega)] at HS
        have HO2 := Lib.hid (HO.out lo hi)
        clear HO
        go_wp2
        go_roundw
        case rel => exact ⟨k + 1, by omega, by go_num, by rw [HT.out, List.map_append, List.flatMap_append, List.map_singleton, HS.out]; simpa [spnc] using HO2.out, (hbA.setCell (Nat.le_refl _) _).setCell (Nat.le_refl _) _⟩
        case measure => simp [intOf]; omega
      · subst hc
        rw [show minI lo lo = lo from if_neg (by omega), show maxI lo lo = lo from if_neg (by omega)] at HS
        have HO2 := Lib.hid (HO.out lo lo)
        clear HO
        go_wp2
        go_roundw
        case rel => exact ⟨k + 1, by omega, by go_num, by rw [HT.out, List.map_append, List.flatMap_append, List.map_singleton, HS.out]; simpa [spnc] using HO2.out, (hbA.setCell (Nat.le_refl _) _).setCell (Nat.le_refl _) _⟩
        case measure => simp [intOf]; omega
      · rw [show minI lo hi = hi from if_neg (by omega), show maxI lo hi = lo from if_pos hc] at HS
        have HO2 := Lib.hid (HO.out hi lo)
        clear HO
        go_wp2
        go_roundw
        case rel => exact ⟨k + 1, by omega, by go_num, by rw [HT.out, List.map_append, List.flatMap_append, List.map_singleton, HS.out]; simpa [spnc] using HO2.out, (hbA.setCell (Nat.le_refl _) _).setCell (Nat.le_refl _) _⟩
        case measure => simp [intOf]; omega
    · obtain rfl : k = l.length := by omega
      rw [List.take_length, List.drop_length, List.flatMap_nil, List.append_nil] at hown
      go_wp2
      go_ret
      exact ⟨_, _, Nat.le_refl _, rfl, Rd.of_own (fun _ => rfl) (by simp) hown, hbr⟩

end Go.Proofs.Ytmmpfhcohpdcbaa
