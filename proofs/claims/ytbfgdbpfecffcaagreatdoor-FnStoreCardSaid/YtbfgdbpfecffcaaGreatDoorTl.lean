/-
  Tl: BoxN (what the claim needs of them).
-/
import Derived.Handy
import Derived.Test.YtbfgdbpfecffcaaGreatDoorRows
import Derived.WalkKit
import Derived.WalkSpells
import Derived.WalkLawsBesides
import Derived.Laws.IdiomStrings
import Derived.Lib.Hide
import Derived.Deep.AppendLies
import Derived.OrdersHeld
import Derived.Lib.ItoaNum
import Derived.Lib.ItoaMem
import Derived.Lib.AppendStr
import Derived.Lib.ItoaLen
import Derived.Lib.Strings
import Derived.Lib.Bytealg
import Derived.Lib.OthersKept
import Derived.Laws.RangeAny
import Derived.Laws.BitsAllLaws
import Derived.Laws.BitsLemmas
import Derived.IntWalk
import Derived.Lib.Join
import Derived.Deep.Strs
import Derived.Test.YtbfgdbpfecffcaaGreatDoorProg
import Derived.Test.YtbfgdbpfecffcaaGreatDoorSb
import Derived.Test.YtbfgdbpfecffcaaGreatDoorSc
import Derived.Test.YtbfgdbpfecffcaaGreatDoorSd
import Derived.Test.YtbfgdbpfecffcaaGreatDoorSe
import Derived.Test.YtbfgdbpfecffcaaGreatDoorSf
import Derived.Test.YtbfgdbpfecffcaaGreatDoorSl
import Derived.Test.YtbfgdbpfecffcaaGreatDoorSm
import Derived.Test.YtbfgdbpfecffcaaGreatDoorTj
import Derived.Test.YtbfgdbpfecffcaaGreatDoorTk

namespace Go.Proofs.YtbfgdbpfecffcaaGreatDoor
open Go.RowKit

def BentPost (g : Nat) (code : List UInt8) (w : World) (e : Ending) (w' : World) : Prop :=
  ∃ (l : List BoxD) (v : Value) (fp : List Nat), e = .returned v ∧ l.length ≤ 5 ∧ (∀ x ∈ l, BoxQ 6 x) ∧ LfIn w' (boxsLf l) v fp ∧ (∀ q ∈ fp, w.heap.size ≤ q) ∧ Cur w' g code ∧ w.grownBy w' (some g)
section
variable {w W W' : World} {g : Nat} {code : List UInt8} {l : List BoxD} {v : Value} {fp : List Nat}
theorem BsS.bent (h : BsS w g code l v fp W) (hl : l.length ≤ 5) (hs : ∀ x ∈ l, BoxQ 6 x) : BentPost g code w (.returned v) W := ⟨l, v, fp, rfl, hl, hs, h.tree.is, h.tree.low, h.cur, h.grown⟩
theorem BsS.at {b c k : Nat} {x : BoxD} (h : BsS w g code l (.slice (some ⟨b, 0, none⟩) l.length c) fp W) (hk : l[k]? = some x) : ∃ r3 fx, (W.cell? ⟨b, k * 4, none⟩ = some (sv x.name) ∧ W.cell? ⟨b, k * 4 + 1, none⟩ = some (.int .i64 x.validity) ∧ W.cell? ⟨b, k * 4 + 2, none⟩ = some (.int .i64 x.next) ∧ W.cell? ⟨b, k * 4 + 3, none⟩ = some r3) ∧
    (∀ j, W.frozen? ⟨b, j, none⟩ = false) ∧ b ∈ fp ∧ LfIn W (msgsLf x.msgs) r3 fx ∧ ∀ q ∈ fx, q ∈ fp ∧ q ≠ b := by
  obtain ⟨us, fx, hu, hq, _, hc, hf, hb⟩ := tree_at (enc := BoxD.lf) BoxD.len h.tree hk
  obtain ⟨r3, f3, rfl, h3, rfl⟩ := BoxD.in_of hu
  exact ⟨r3, fx, ⟨hc 0 _ rfl, hc 1 _ rfl, hc 2 _ rfl, hc 3 _ rfl⟩, hf, hb, h3, hq⟩
theorem BsS.put {b c k j : Nat} {x x' : BoxD} (h : BsS w g code l (.slice (some ⟨b, 0, none⟩) l.length c) fp W) (hk : l[k]? = some x) (hj : j < 4) (u : Value) (hx : ∀ W us fx, LsIn W x.lf us fx → LsIn W x'.lf (us.set j u) fx) :
    BsS w g code (l.set k x') (.slice (some ⟨b, 0, none⟩) l.length c) fp (W.setCell ⟨b, k * 4 + j, none⟩ u) := by
  have ht := tree_put (enc := BoxD.lf) BoxD.len h.tree hk hj u hx
  rw [List.length_set] at ht
  obtain ⟨_, _, _, _, hb, _⟩ := h.at hk
  have hb1 := h.tree.low b hb
  have og := h.og
  exact ⟨h.cur.put (by omega) _ _, by unfold boxsLf; rw [List.length_set]; exact ht, grown_put h.grown hb1 _ _, og⟩
theorem set_all {P : BoxD → Prop} {k : Nat} {x : BoxD} (h : ∀ y ∈ l, P y) (hx : P x) : ∀ y ∈ l.set k x, P y := fun y hy => by
  rcases List.mem_or_eq_of_mem_set hy with hy | hy
  · exact h y hy
  · rw [hy]; exact hx
/-- A message more at one box: behind the append, ahead of the store. -/
theorem BsS.msg {b c k : Nat} {x : BoxD} {m : MsgD} {r3 v' : Value} {fx : List Nat} (h : BsS w g code l (.slice (some ⟨b, 0, none⟩) l.length c) fp W) (hk : l[k]? = some x) (hr : LfIn W (msgsLf x.msgs) r3 fx) (hc3 : W.cell? ⟨b, k * 4 + 3, none⟩ = some r3)
    (ho : W'.ownsRow w.heap.size 87 3 v' (x.msgs.length + 1) (x.msgs.flatMap msgc ++ msgc m)) (hg : W.grownBy W' r3.ownBlock) (hor : ∀ q, v'.ownBlock = some q → r3.ownBlock = some q ∨ W.heap.size ≤ q) :
    (∃ fp', LfIn (W'.setCell ⟨b, k * 4 + 3, none⟩ v') (boxsLf (l.set k { x with msgs := x.msgs ++ [m] })) (.slice (some ⟨b, 0, none⟩) l.length c) fp' ∧ ∀ q ∈ fp', w.heap.size ≤ q) ∧ Cur (W'.setCell ⟨b, k * 4 + 3, none⟩ v') g code ∧ w.grownBy (W'.setCell ⟨b, k * 4 + 3, none⟩ v') (some g) ∧
      W'.cell? ⟨b, k * 4 + 3, none⟩ = some r3 ∧ W'.frozen? ⟨b, k * 4 + 3, none⟩ = false := by
  have hlt := (List.getElem?_eq_some_iff.1 hk).1
  obtain ⟨hl, xs, fq, hor0, hxx, hf⟩ := h.tree.is
  obtain ⟨A, us, R, fA, fy, fR, rfl, hA, hul, hA2, hu, hR2, rfl⟩ := rows_split (enc := BoxD.lf) BoxD.len hxx hk
  obtain ⟨r4, f4, rfl, h4, rfl⟩ := BoxD.in_of hu
  have hnd := h.tree.nodup
  have hlow := h.tree.low
  have hltw := h.tree.lt
  have og := h.og
  have hob : (Value.slice (some ⟨b, 0, none⟩) l.length c).ownBlock = some b := rfl
  rw [hf, hob] at hnd hlow hltw
  simp only [Option.toList_some, List.singleton_append, List.nodup_cons] at hnd
  obtain ⟨hbn, hnd2⟩ := hnd
  obtain ⟨hdis1, hndA, _⟩ := nd_parts hnd2
  obtain ⟨hdis2, _, _⟩ := nd_parts hndA
  have hr4 : r4 = r3 := by
    have hc4 : W.cell? ⟨b, k * 4 + 3, none⟩ = some r4 := by
      rw [hor0.cellAt (k * 4 + 3) (by omega), List.append_assoc, List.getElem?_append_right (by omega), hA, Nat.add_sub_cancel_left]
      rfl
    rw [hc3] at hc4
    injection hc4 with e
    exact e.symm
  subst hr4
  obtain ⟨hro, hf4⟩ := msgs_in.1 h4
  subst hf4
  have hbl : w.heap.size ≤ b ∧ b < W.heap.size := ⟨hlow b (by simp), hltw b (by simp)⟩
  have hgi : GrownIn W W' r4.ownBlock.toList := GrownIn.of_row hg
  have hrb : b ∉ r4.ownBlock.toList := fun hm => hbn (by simp [hm])
  have hAr : ∀ q ∈ fA, q ∉ r4.ownBlock.toList := fun q hq hm => hdis2 q hq hm
  have hRr : ∀ q ∈ fR, q ∉ r4.ownBlock.toList := fun q hq hm => hdis1 q (List.mem_append_right _ hm) hq
  have hrl : ∀ q, r4.ownBlock = some q → w.heap.size ≤ q ∧ q < W.heap.size := fun q hq => ⟨hlow q (by simp [hq]), hltw q (by simp [hq])⟩
  have hvb : ∀ q, v'.ownBlock = some q → q ≠ b := fun q hq e => by
    rcases hor q hq with h1 | h1
    · exact hrb (by rw [h1, e]; simp)
    · omega
  have hor1 : W'.ownsRow 0 38 4 (.slice (some ⟨b, 0, none⟩) l.length c) l.length (A ++ [sv x.name, .int .i64 x.validity, .int .i64 x.next, r4] ++ R) := own_apart hor0 hgi (fun q hq => by rw [hob] at hq; injection hq with hq; rw [← hq]; exact hrb)
  have hcell : W'.cell? ⟨b, k * 4 + 3, none⟩ = some r4 := by
    rw [hor1.cellAt (k * 4 + 3) (by omega), List.append_assoc, List.getElem?_append_right (by omega), hA, Nat.add_sub_cancel_left]
    rfl
  have ho' := (hor1.stored (k * 4 + 3) v').1
  rw [List.append_assoc, List.set_append_right _ _ (by omega), hA, Nat.add_sub_cancel_left, List.set_append_left _ _ (by simp)] at ho'
  have hA3 : LsIn (W'.setCell ⟨b, k * 4 + 3, none⟩ v') ((l.take k).flatMap BoxD.lf) A fA := LsIn.set (LsIn.apart hA2 hgi hAr) (fun hm => hbn (by simp [hm]))
  have hR3 : LsIn (W'.setCell ⟨b, k * 4 + 3, none⟩ v') ((l.drop (k + 1)).flatMap BoxD.lf) R fR := LsIn.set (LsIn.apart hR2 hgi hRr) (fun hm => hbn (by simp [hm]))
  have hm3 : LfIn (W'.setCell ⟨b, k * 4 + 3, none⟩ v') (msgsLf (x.msgs ++ [m])) v' v'.ownBlock.toList := LfIn.set (msgs_in.2 ⟨by rw [List.length_append, List.length_singleton, List.flatMap_append, List.flatMap_cons, List.flatMap_nil, List.append_nil]; exact own_base ho, rfl⟩) (fun hm => hvb b (by simpa using hm) rfl)
  have hu3 : LsIn (W'.setCell ⟨b, k * 4 + 3, none⟩ v') ({ x with msgs := x.msgs ++ [m] } : BoxD).lf [sv x.name, .int .i64 x.validity, .int .i64 x.next, v'] v'.ownBlock.toList := BoxD.in_mk hm3
  refine ⟨⟨b :: (fA ++ v'.ownBlock.toList ++ fR), ?_, ?_⟩, ?_, ?_, hcell, hor1.frozenAt _⟩
  · unfold boxsLf
    rw [List.length_set]
    exact ⟨by rw [flat_lenM BoxD.len, List.length_set], A ++ [sv x.name, .int .i64 x.validity, .int .i64 x.next, v'] ++ R, fA ++ v'.ownBlock.toList ++ fR, by rw [List.append_assoc]; exact ho', rows_join hlt hA3 hu3 hR3, rfl⟩
  · intro q hq
    rcases List.mem_cons.1 hq with rfl | hq
    · exact hbl.1
    · rcases List.mem_append.1 hq with hq | hq
      · rcases List.mem_append.1 hq with hq | hq
        · exact hlow q (by simp [hq])
        · exact (ho.lt q (by simpa using hq)).1
      · exact hlow q (by simp [hq])
  · exact (h.cur.grown hg (fun q hq => by have := hrl q hq; omega)).put (by omega) _ _
  · exact grown_put (grown_young h.grown hg (fun q hq => (hrl q hq).1)) hbl.1 _ _
theorem cell_draw {W W' : World} {g b i : Nat} {u : Value} (hg : W.grownBy W' (some g)) (hne : b ≠ g) (hlt : b < W.heap.size) (h : W.cell? ⟨b, i, none⟩ = some u) : W'.cell? ⟨b, i, none⟩ = some u := (World.cell?_of_block (hg.block b hlt (by intro e; injection e with e; exact hne e))).trans h
theorem set_mid {α : Type} {A us R : List α} {k j : Nat} (hA : A.length = k) (hj : j < us.length) (u : α) : (A ++ us ++ R).set (k + j) u = A ++ us.set j u ++ R := by
  rw [List.append_assoc, List.set_append_right _ _ (by omega), hA, Nat.add_sub_cancel_left, List.set_append_left _ _ hj, ← List.append_assoc]
/-- Another box is laid at place k: both may have one row of messages. -/
theorem BsS.copy {b c k : Nat} {x y : BoxD} {r3 : Value} {fx : List Nat} (h : BsS w g code l (.slice (some ⟨b, 0, none⟩) l.length c) fp W) (hk : l[k]? = some x) (hr : LfIn W (msgsLf y.msgs) r3 fx) (hfx : ∀ q ∈ fx, q ∈ fp ∧ q ≠ b) (hl : l.length ≤ 5) (hs : ∀ x ∈ l, BoxQ 6 x) (hy : BoxQ 6 y) :
    BentPost g code w (.returned (.slice (some ⟨b, 0, none⟩) l.length c)) ((((W.setCell ⟨b, k * 4, none⟩ (sv y.name)).setCell ⟨b, k * 4 + 1, none⟩ (.int .i64 y.validity)).setCell ⟨b, k * 4 + 2, none⟩ (.int .i64 y.next)).setCell ⟨b, k * 4 + 3, none⟩ r3) := by
  have hlt := (List.getElem?_eq_some_iff.1 hk).1
  obtain ⟨hll, xs, fq, ho, hxx, hf⟩ := h.tree.is
  obtain ⟨A, us, R, fA, fy, fR, rfl, hA, hul, hA2, hu, hR2, rfl⟩ := rows_split (enc := BoxD.lf) BoxD.len hxx hk
  have hnd := h.tree.nodup
  have hlow := h.tree.low
  have og := h.og
  have hob : (Value.slice (some ⟨b, 0, none⟩) l.length c).ownBlock = some b := rfl
  have hlf := hlow
  rw [hf, hob] at hnd hlow
  simp only [Option.toList_some, List.singleton_append, List.nodup_cons] at hnd
  have hbn := hnd.1
  have hbl : w.heap.size ≤ b := hlow b (by simp)
  have o1 := (ho.stored (k * 4 + 0) (sv y.name)).1
  rw [set_mid hA (by omega)] at o1
  have o2 := (o1.stored (k * 4 + 1) (.int .i64 y.validity)).1
  rw [set_mid hA (by simp; omega)] at o2
  have o3 := (o2.stored (k * 4 + 2) (.int .i64 y.next)).1
  rw [set_mid hA (by simp; omega)] at o3
  have o4 := (o3.stored (k * 4 + 3) r3).1
  rw [set_mid hA (by simp; omega)] at o4
  have hus : (((us.set 0 (sv y.name)).set 1 (.int .i64 y.validity)).set 2 (.int .i64 y.next)).set 3 r3 = [sv y.name, .int .i64 y.validity, .int .i64 y.next, r3] := by
    match us, hul with
    | [a0, a1, a2, a3], _ => rfl
  rw [hus] at o4
  have hfb : b ∉ fx := fun hm => (hfx b hm).2 rfl
  have hA3 := LsIn.set (i := k * 4 + 3) (u := r3) (LsIn.set (i := k * 4 + 2) (u := .int .i64 y.next) (LsIn.set (i := k * 4 + 1) (u := .int .i64 y.validity) (LsIn.set (i := k * 4) (u := sv y.name) hA2 (g := b) (fun hm => hbn (by simp [hm]))) (g := b) (fun hm => hbn (by simp [hm]))) (g := b) (fun hm => hbn (by simp [hm]))) (g := b) (fun hm => hbn (by simp [hm]))
  have hR3 := LsIn.set (i := k * 4 + 3) (u := r3) (LsIn.set (i := k * 4 + 2) (u := .int .i64 y.next) (LsIn.set (i := k * 4 + 1) (u := .int .i64 y.validity) (LsIn.set (i := k * 4) (u := sv y.name) hR2 (g := b) (fun hm => hbn (by simp [hm]))) (g := b) (fun hm => hbn (by simp [hm]))) (g := b) (fun hm => hbn (by simp [hm]))) (g := b) (fun hm => hbn (by simp [hm]))
  have hr3 := LfIn.set (i := k * 4 + 3) (u := r3) (LfIn.set (i := k * 4 + 2) (u := .int .i64 y.next) (LfIn.set (i := k * 4 + 1) (u := .int .i64 y.validity) (LfIn.set (i := k * 4) (u := sv y.name) hr hfb) hfb) hfb) hfb
  have hu3 := BoxD.in_mk (z0 := y.name) (z1 := y.validity) (z2 := y.next) hr3
  refine ⟨l.set k y, _, b :: (fA ++ fx ++ fR), rfl, by rw [List.length_set]; exact hl, set_all hs hy, ?_, ?_, (((h.cur.put (by omega) _ _).put (by omega) _ _).put (by omega) _ _).put (by omega) _ _, grown_put (grown_put (grown_put (grown_put h.grown hbl _ _) hbl _ _) hbl _ _) hbl _ _⟩
  · unfold boxsLf
    rw [List.length_set]
    exact ⟨by rw [flat_lenM BoxD.len, List.length_set], _, fA ++ fx ++ fR, o4, rows_join hlt hA3 hu3 hR3, rfl⟩
  · intro q hq
    rcases List.mem_cons.1 hq with rfl | hq
    · exact hbl
    · rcases List.mem_append.1 hq with hq | hq
      · rcases List.mem_append.1 hq with hq | hq
        · exact hlow q (by simp [hq])
        · exact hlf q (hfx q hq).1
      · exact hlow q (by simp [hq])
end

set_option maxRecDepth 20000 in
set_option maxHeartbeats 6400000 in
theorem l9Bent_any (g : Nat) (code : List UInt8) (w : World) (hc : Cur w g code) :
    Calls Tryz.prog 106 #[.pointer (some ⟨g, 0, none⟩)] w fun e w' => BentPost g code w e w' := by
  have hlt := hc.lt
  have HC := Lib.hid hc
  clear hc
  go_enter Tryz.func106, Tryz.ntmps106
  go_wp2_with fail
  refine (l9Right_any g code _ HC.out).mono ?_
  rintro e w1 ⟨l, v, fp, rfl, hl4, hsm, hs1⟩
  clear HC
  have HSM5 := Lib.hid hsm
  have HSM := Lib.hid (fun x hx => (hsm x hx).mono (q' := 6) (by omega))
  clear hsm
  obtain ⟨p, c, rfl⟩ := hs1.slice
  by_cases hl0 : l.length = 0
  · have hb := hs1.bent (by omega) HSM.out
    rw [hl0] at hb ⊢
    have HB := Lib.hid hb
    clear hb hs1
    go_wp2
    go_ret
    exact HB.out
  have h0 : ((l.length : Int) == 0) = false := by rw [beq_eq_false_iff_ne]; omega
  obtain ⟨b, rfl⟩ : ∃ b, p = some ⟨b, 0, none⟩ := tree_row hs1.tree (by omega)
  go_wp2_with fail
  refine (l1Below_any g code _ l.length rfl _ hs1.cur (by omega) (by omega)).mono ?_
  rintro e w2 ⟨k, rfl, hk, hc2, hg2⟩
  have hs2 := hs1.draw hg2 hc2
  clear hs1 hc2 hg2 h0
  go_wp2_with fail
  refine (l1Below_any g code _ 12 (by omega) _ hs2.cur (by omega) (by omega)).mono ?_
  rintro e w3 ⟨y, rfl, hy, hc3, hg3⟩
  have hs3 := hs2.draw hg3 hc3
  clear hs2 hc3 hg3
  obtain ⟨x, hx⟩ : ∃ x, l[k]? = some x := ⟨_, List.getElem?_eq_getElem hk⟩
  rcases (show y = 0 ∨ y = 1 ∨ y = 2 ∨ y = 3 ∨ y = 4 ∨ y = 5 ∨ 6 ≤ y by omega) with rfl | rfl | rfl | rfl | rfl | rfl | hy6
  · go_wp2_with fail
    refine (l2Any_any g code _ hs3.cur).mono ?_
    rintro e w4 ⟨t, rfl, ht, hc4, hg4⟩
    have hs4 := hs3.draw hg4 hc4
    obtain ⟨r3, fx, ⟨c0, _, _, _⟩, hf, _⟩ := hs4.at hx
    have f0 := hf (k * 4)
    obtain ⟨sx1, sx2, sx3, sx4, sx5⟩ := HSM.out x (List.mem_of_getElem? hx)
    have hb := (hs4.put (x' := { x with name := t }) hx (j := 0) (by omega) (sv t) (fun W us fx hu => by obtain ⟨r3, f3, rfl, h3, rfl⟩ := BoxD.in_of hu; exact BoxD.in_mk h3)).bent (by rw [List.length_set]; omega) (set_all HSM.out ⟨ht, sx2, sx3, sx4, sx5⟩)
    have HB := Lib.hid hb
    clear hb hs3 hs4 hc4 hg4 hf sx1 sx2 sx3 sx4 sx5
    go_wp2
    go_ret
    exact HB.out
  · have hlt3 := hs3.cur.lt
    have hsa := hs3.alloc (.cells #[.int .i64 0, .int .i64 1, .int .i64 4, .int .i64 999999999, .int .i64 1000000000, .int .i64 (-1)] 3)
    go_wp2_with fail
    refine (l1PickInt_any g code _ [0, 1, 4, 999999999, 1000000000, -1] _ hsa.cur (Rd1_lit (b := w3.heap.size) _ (heap_alloc_new w3 _) rfl rfl) (Apart_new hlt3) (by simp) (by simp)).mono ?_
    rintro e w4 ⟨u, rfl, hu, hc4, hg4⟩
    have hu2 : in64 u := (show ∀ x ∈ ([0, 1, 4, 999999999, 1000000000, -1] : List Int), -9223372036854775808 ≤ x ∧ x ≤ 9223372036854775807 by decide) u hu
    have hs4 := hsa.draw hg4 hc4
    obtain ⟨r3, fx, ⟨_, c1, c2, _⟩, hf, _⟩ := hs4.at hx
    have f0 := hf (k * 4 + 1)
    obtain ⟨sx1, sx2, sx3, sx4, sx5⟩ := HSM.out x (List.mem_of_getElem? hx)
    have hb := (hs4.put (x' := { x with validity := u }) hx (j := 1) (by omega) (.int .i64 u) (fun W us fx hu => by obtain ⟨r3, f3, rfl, h3, rfl⟩ := BoxD.in_of hu; exact BoxD.in_mk h3)).bent (by rw [List.length_set]; omega) (set_all HSM.out ⟨sx1, hu2, sx3, sx4, sx5⟩)
    have HB := Lib.hid hb
    clear hb hs3 hsa hs4 hc4 hg4 hf sx1 sx2 sx3 sx4 sx5 hu hu2 c2
    go_wp2
    go_ret
    exact HB.out
  · have hlt3 := hs3.cur.lt
    have hsa := hs3.alloc (.cells #[.int .i64 0, .int .i64 1, .int .i64 3, .int .i64 999999999, .int .i64 1000000000] 3)
    go_wp2_with fail
    refine (l1PickInt_any g code _ [0, 1, 3, 999999999, 1000000000] _ hsa.cur (Rd1_lit (b := w3.heap.size) _ (heap_alloc_new w3 _) rfl rfl) (Apart_new hlt3) (by simp) (by simp)).mono ?_
    rintro e w4 ⟨u, rfl, hu, hc4, hg4⟩
    have hu2 : in64 u := (show ∀ x ∈ ([0, 1, 3, 999999999, 1000000000] : List Int), -9223372036854775808 ≤ x ∧ x ≤ 9223372036854775807 by decide) u hu
    have hs4 := hsa.draw hg4 hc4
    obtain ⟨r3, fx, ⟨_, c1, c2, _⟩, hf, _⟩ := hs4.at hx
    have f0 := hf (k * 4 + 2)
    obtain ⟨sx1, sx2, sx3, sx4, sx5⟩ := HSM.out x (List.mem_of_getElem? hx)
    have hb := (hs4.put (x' := { x with next := u }) hx (j := 2) (by omega) (.int .i64 u) (fun W us fx hu => by obtain ⟨r3, f3, rfl, h3, rfl⟩ := BoxD.in_of hu; exact BoxD.in_mk h3)).bent (by rw [List.length_set]; omega) (set_all HSM.out ⟨sx1, sx2, hu2, sx4, sx5⟩)
    have HB := Lib.hid hb
    clear hb hs3 hsa hs4 hc4 hg4 hf sx1 sx2 sx3 sx4 sx5 hu hu2 c1
    go_wp2
    go_ret
    exact HB.out
  · obtain ⟨r3, fx, ⟨_, _, _, c3⟩, hf, hbf, hr3, hfx⟩ := hs3.drew.at hx
    obtain ⟨hro, hfx2⟩ := msgs_in.1 hr3
    obtain ⟨pm, cm, rfl⟩ := own_form hro
    have hs3d := hs3.drew
    have HBF := Lib.hid hbf
    clear hs3 hf hr3 hfx hro hfx2 hbf
    go_wp2
    refine ordz_start [(0, true), (1, true), (2, true), (3, true), (4, true), (5, true), (6, true), (7, true), (9, true), (8, false), (10, false), (11, true), (12, false), (13, false), (14, true), (15, true), (16, false)] 16 (fun W => W.cell? ⟨b, k * 4 + 3, none⟩ = some (.slice pm x.msgs.length cm)) (by kernel_rfl) (by kernel_rfl) rfl (by kernel_rfl) ?_
    intro ops' hops
    clear hops
    simp only [List.map_cons, List.map_nil, pickOp_zero, pickOp_succ]
    iterate 4 (refine ordz_flo ?_ (fun _ _ _ h => h) rfl ?_ c3 ?_; rotate_left; focus (intro W hS; obtain s1 := hS; go_simp; rfl))
    refine ordz_flo (.pointer (some ⟨b, k * 4, none⟩)) (fun _ _ _ h => h) rfl ?_ c3 ?_
    · intro W hS
      go_simp
      try (intro h; omega)
    iterate 4 (refine ordz_flo ?_ (fun _ _ _ h => h) rfl ?_ c3 ?_; rotate_left; focus (intro W hS; obtain s1 := hS; go_simp; rfl))
    refine ordz_ev rfl ?_
    go_simp
    refine (l1Whole_grown g code _ hs3d.cur).mono ?_
    rintro e w4 ⟨uid, rfl, huid, hc4, hg4⟩
    have hs4 := hs3d.draw hg4 hc4
    have hbg : b ≠ g := by have := hs3d.tree.low b HBF.out; omega
    have c3' := cell_draw hg4 hbg (hs3d.tree.lt b HBF.out) c3
    clear hs3d hc4 hg4 c3
    refine ⟨c3', ?_⟩
    refine ordz_ev rfl ?_
    go_simp
    refine (l5Bits_any g code _ hs4.cur).mono ?_
    rintro e w5 ⟨fl, rfl, hfl, hc5, hg5⟩
    have hs5 := hs4.draw hg5 hc5
    have c3 := cell_draw hg5 hbg (hs4.tree.lt b HBF.out) c3'
    clear hs4 hc5 hg5 c3'
    refine ⟨c3, ?_⟩
    iterate 1 (refine ordz_flo ?_ (fun _ _ _ h => h) rfl ?_ c3 ?_; rotate_left; focus (intro W hS; obtain s1 := hS; go_simp; rfl))
    have c3a : (w5.alloc (.cells #[.int .i64 uid, .int .i64 fl, .string ⟨#[]⟩] 87)).cell? ⟨b, k * 4 + 3, none⟩ = some (.slice pm x.msgs.length cm) := (((Below.refl _ w5).alloc (Nat.le_refl _) _).cell (p := ⟨b, k * 4 + 3, none⟩) (hs5.tree.lt b HBF.out)).trans c3
    have HC3 := Lib.hid c3
    clear c3
    refine ordz_ev rfl ?_
    go_simp
    clear c3a
    obtain ⟨r3, fx, ⟨_, _, _, c3⟩, _, _, hr3, hfx⟩ := hs5.at hx
    have c3b := HC3.out
    rw [c3] at c3b
    injection c3b with c3b
    subst c3b
    obtain ⟨hro, hfxe⟩ := msgs_in.1 hr3
    have hro2 := own_rebase (B := w.heap.size) hro (fun q hq => hs5.tree.low q (hfx q (by rw [hfxe, hq]; simp)).1)
    have hz5 := hs5.grown.size
    obtain ⟨sx1, sx2, sx3, sx4, sx5⟩ := HSM5.out x (List.mem_of_getElem? hx)
    refine ordz_ev rfl ?_
    refine wp_app1 Tryz.el_msg (.tmp 51) (.tmp 57) rfl w5 w5 (.slice pm x.msgs.length cm) x.msgs.length (x.msgs.flatMap msgc) rfl hro2 (Below.refl _ _) hz5 #[.int .i64 uid, .int .i64 fl, .string ⟨#[]⟩] (.inr rfl) 1 1 rfl rfl (by simp [Value.oneCell']) (by omega) (by omega) (by omega) ?_
    intro gn cap w6 ho6 hb6 hg6 hor6 hlt6
    obtain ⟨⟨fp', hin, hlow⟩, hcu, hgr, c3n, f3⟩ := hs5.msg (m := ⟨uid, fl, []⟩) hx hr3 c3 ho6 hg6 (fun q hq => by injection hq with hq; subst hq; exact hor6)
    refine ⟨fun _ => c3n, ?_⟩
    refine ordz_flo (.pointer (some ⟨b, k * 4, none⟩)) (fun _ _ _ h => h) rfl ?_ c3n ?_
    · intro W hS
      go_simp
      try (intro h; omega)
    iterate 1 (refine ordz_flo ?_ (fun _ _ _ h => h) rfl ?_ c3n ?_; rotate_left; focus (intro W hS; obtain s1 := hS; go_simp; rfl))
    refine ordz_ev rfl ?_
    go_simp
    refine ordz_done ?_
    go_simp
    have hsm2 : BoxQ 6 { x with msgs := x.msgs ++ [⟨uid, fl, []⟩] } := ⟨sx1, sx2, sx3, by simp; omega, fun m hm => by
      rcases List.mem_append.1 hm with hm | hm
      · exact sx5 m hm
      · rw [List.mem_singleton.1 hm]; exact ⟨huid, hfl, by simp⟩⟩
    have HB := Lib.hid (show BentPost g code w (.returned (.slice (some ⟨b, 0, none⟩) l.length c)) (w6.setCell ⟨b, k * 4 + 3, none⟩ (.slice (some ⟨gn, 0, none⟩) (x.msgs.length + 1) cap)) from
      ⟨_, _, fp', rfl, by rw [List.length_set]; omega, set_all HSM.out hsm2, hin, hlow, hcu, hgr⟩)
    clear hs5 hin hlow hcu hgr c3n f3 hor6 hg6 ho6 hb6 hr3 hfx hro hro2 hfxe c3 HC3 hsm2
    go_wp2
    go_ret
    exact HB.out
  · go_wp2_with fail
    refine (l2Name_any g code _ hs3.cur).mono ?_
    rintro e w4 ⟨t, rfl, ht, hc4, hg4⟩
    have hs4 := hs3.draw hg4 hc4
    clear hs3 hc4 hg4
    go_wp2_with fail
    refine (l9Box_any g code t _ _ hs4.cur).mono ?_
    rintro e w5 ⟨nx, vm, ms, rfl, hnx, hml, hms, hom, hc5, hg5⟩
    obtain ⟨pm, cm, rfl⟩ := own_form hom
    have hs5 := hs4.draw hg5 hc5
    have hfl : ∀ q ∈ fp, q < w4.heap.size := hs4.tree.lt
    have hz4 := hs4.grown.size
    clear hs4 hc5 hg5
    have hzw := hs5.grown.size
    obtain ⟨hu, hfx, hfq⟩ := box_rec (nm := t) (v := 8) (nx := nx) hom
    obtain ⟨xs, fq, hrow, hxs, hf⟩ := hs5.row
    have HSX := Lib.hid (show BoxQ 6 ⟨t, 8, nx, ms⟩ from ⟨ht, ⟨by simp only; omega, by simp only; omega⟩, ⟨by simp only; omega, by simp only; omega⟩, by simp only; omega, hms⟩)
    clear ht hnx hms
    go_wp2_with (at_builtin; refine wpList_app1 Tryz.el_box rfl (.tmp 63) (.tmp 68) rfl w5 w5 (.slice (some ⟨b, 0, none⟩) l.length c) l.length xs rfl hrow (Below.refl _ _) hzw #[sv t, .int .i64 8, .int .i64 nx, .slice pm ms.length cm] (.inr rfl) 1 1 rfl rfl (by simp [Value.oneCell']) (by omega) (by omega) (by omega) ?_)
    intro gn cap w6 ho6 hb6 hg6 hor6 hlt6
    obtain ⟨fp', hs6, _⟩ := hs5.snoc hu hfx (fun q hq => by have := (hfq q hq).1; omega) (fun q hq hm => by have := (hfq q hq).1; have := hfl q hm; omega) hxs hf ho6 hg6 hor6
    have HB := Lib.hid (hs6.bent (by simp; omega) (by
      intro x hx
      rcases List.mem_append.1 hx with hx | hx
      · exact HSM.out x hx
      · rw [List.mem_singleton.1 hx]; exact HSX.out))
    clear hs5 hs6 hu hfx hfq hrow hxs hf ho6 hb6 hg6 hor6 hlt6 hfl hom
    go_wp2
    go_ret
    exact HB.out
  · obtain ⟨y, hy0⟩ : ∃ y, l[0]? = some y := ⟨_, List.getElem?_eq_getElem (by omega)⟩
    obtain ⟨r3, fx, ⟨d0, d1, d2, d3⟩, hf, hbf, hr3, hfx⟩ := hs3.at hy0
    obtain ⟨_, _, ⟨c0, c1, c2, c3⟩, _⟩ := hs3.at hx
    have HB := Lib.hid (hs3.copy hx hr3 hfx (by omega) HSM.out (HSM.out y (List.mem_of_getElem? hy0)))
    obtain ⟨pm, cm, rfl⟩ := own_form (msgs_in.1 hr3).1
    simp only [Nat.zero_mul, Nat.zero_add] at d0 d1 d2 d3
    clear hs3 hr3 hfx
    go_wp2
    go_ret
    exact HB.out
  · have HB := Lib.hid (hs3.bent (by omega) HSM.out)
    have e0 : ((y : Int) == 0) = false := by rw [beq_eq_false_iff_ne]; omega
    have e1 : ((y : Int) == 1) = false := by rw [beq_eq_false_iff_ne]; omega
    have e2 : ((y : Int) == 2) = false := by rw [beq_eq_false_iff_ne]; omega
    have e3 : ((y : Int) == 3) = false := by rw [beq_eq_false_iff_ne]; omega
    have e4 : ((y : Int) == 4) = false := by rw [beq_eq_false_iff_ne]; omega
    have e5 : ((y : Int) == 5) = false := by rw [beq_eq_false_iff_ne]; omega
    clear hs3
    go_wp2
    go_ret
    exact HB.out

end Go.Proofs.YtbfgdbpfecffcaaGreatDoor
