/-
  Sz: ComU ComUa ComUb ComV ComVa ComVb (what the claim needs of them).
-/
import Derived.Maps.OwnIn
import Derived.Sort.KeysCollected
import Derived.RangeFuncNested
import Derived.RangeFuncLeaves
import Derived.RangeFuncWrites
import Derived.WalkKit
import Derived.OwnWalkIn
import Derived.TacticsInMore
import Derived.LoopNIn
import Derived.LoopIn
import Derived.Maps.OwnSet
import Derived.Deep.DeepCutAuto
import Derived.Handy
import Derived.Lib.SliceRun
import Derived.Test.YtbfgdbpfecffcaaGreatDoorRows
import Derived.WalkSpells
import Derived.WalkLawsBesides
import Derived.Laws.IdiomStrings
import Derived.Lib.Hide
import Derived.Deep.AppendLies
import Derived.OrdersHeld
import Derived.Lib.ItoaNum
import Derived.Lib.ItoaMem
import Derived.Lib.AppendStr
import Derived.Lib.ItoaLen
import Derived.Lib.Strings
import Derived.Lib.Bytealg
import Derived.Lib.OthersKept
import Derived.Laws.RangeAny
import Derived.Laws.BitsAllLaws
import Derived.Laws.BitsLemmas
import Derived.IntWalk
import Derived.LaidEql
import Derived.Stop.Asserts
import Derived.RowKitTokens
import Derived.Lib.Join
import Derived.Deep.Strs
import Derived.Test.YtbfgdbpfecffcaaGreatDoorProg
import Derived.Laws.Tables
import Derived.Test.YtbfgdbpfecffcaaGreatDoorSa
import Derived.Test.YtbfgdbpfecffcaaGreatDoorSb
import Derived.Test.YtbfgdbpfecffcaaGreatDoorSc
import Derived.Test.YtbfgdbpfecffcaaGreatDoorSd
import Derived.Test.YtbfgdbpfecffcaaGreatDoorSe
import Derived.Test.YtbfgdbpfecffcaaGreatDoorSf
import Derived.Test.YtbfgdbpfecffcaaGreatDoorSk
import Derived.Test.YtbfgdbpfecffcaaGreatDoorSl
import Derived.Test.YtbfgdbpfecffcaaGreatDoorSm
import Derived.Test.YtbfgdbpfecffcaaGreatDoorSn
import Derived.Test.YtbfgdbpfecffcaaGreatDoorSo
import Derived.Test.YtbfgdbpfecffcaaGreatDoorSp
import Derived.Test.YtbfgdbpfecffcaaGreatDoorSq
import Derived.Test.YtbfgdbpfecffcaaGreatDoorSr
import Derived.Test.YtbfgdbpfecffcaaGreatDoorSs
import Derived.Test.YtbfgdbpfecffcaaGreatDoorSt
import Derived.Test.YtbfgdbpfecffcaaGreatDoorSv
import Derived.Test.YtbfgdbpfecffcaaGreatDoorSw
import Derived.Test.YtbfgdbpfecffcaaGreatDoorSx
import Derived.Test.YtbfgdbpfecffcaaGreatDoorSy

namespace Go.Proofs.YtbfgdbpfecffcaaGreatDoor
open Go.RowKit

/-- A row of boxes whose order alone changed. -/
theorem Own9.perm {B : Nat} {W W' : World} {b n c : Nat} {ps qs : List BP} (h : Own9 B W (.slice (some ⟨b, 0, none⟩) n c) ps) (hp : ps.Perm qs) (hg : W.grownBy W' (some b)) (ho : W'.ownsRow B 38 4 (.slice (some ⟨b, 0, none⟩) n c) n (qs.flatMap encP)) : Own9 B W' (.slice (some ⟨b, 0, none⟩) n c) qs := by
  obtain rfl := h.num
  have hnd := h.nd
  rw [show (Value.slice (some ⟨b, 0, none⟩) ps.length c).ownBlock = some b from rfl] at hnd
  simp only [Option.toList_some, List.singleton_append, List.nodup_cons] at hnd
  have hf := hp.flatMap_right BP.fp
  refine ⟨by rw [← hp.length_eq]; exact ho, fun p hpm => ?_, ?_, fun q hq => h.low q (hf.mem_iff.2 hq)⟩
  · have hpm' := hp.mem_iff.2 hpm
    refine LfIn.away (h.ok p hpm') (GrownIn.of_row hg) (fun k hk hm => ?_)
    have : k = b := by simpa using hm
    subst this
    exact hnd.1 (List.mem_flatMap.2 ⟨p, hpm', hk⟩)
  · rw [show (Value.slice (some ⟨b, 0, none⟩) ps.length c).ownBlock = some b from rfl]
    simp only [Option.toList_some, List.singleton_append, List.nodup_cons]
    exact ⟨fun hm => hnd.1 (hf.mem_iff.2 hm), hf.nodup_iff.1 hnd.2⟩
/-- One box left out in place. -/
theorem Own9.cut {B : Nat} {W W' : World} {b n c k : Nat} {ps : List BP} {z : BP} (h : Own9 B W (.slice (some ⟨b, 0, none⟩) n c) ps) (hz : ps[k]? = some z) (hg : W.grownBy W' (some b)) (ho : W'.ownsRow B 38 4 (.slice (some ⟨b, 0, none⟩) (n - 1) c) (n - 1) ((ps.eraseIdx k).flatMap encP)) : Own9 B W' (.slice (some ⟨b, 0, none⟩) (n - 1) c) (ps.eraseIdx k) := by
  obtain rfl := h.num
  have hlt := (List.getElem?_eq_some_iff.1 hz).1
  have hnd := h.nd
  rw [show (Value.slice (some ⟨b, 0, none⟩) ps.length c).ownBlock = some b from rfl] at hnd
  simp only [Option.toList_some, List.singleton_append, List.nodup_cons] at hnd
  have hp := erase_fps hz
  refine ⟨by rw [List.length_eraseIdx_of_lt hlt]; exact ho, fun p hpm => ?_, ?_, fun q hq => h.low q (hp.mem_iff.2 (List.mem_append_right _ hq))⟩
  · have hpm' := erase_mem hpm
    refine LfIn.away (h.ok p hpm') (GrownIn.of_row hg) (fun k hk hm => ?_)
    have : k = b := by simpa using hm
    subst this
    exact hnd.1 (List.mem_flatMap.2 ⟨p, hpm', hk⟩)
  · rw [show (Value.slice (some ⟨b, 0, none⟩) (ps.length - 1) c).ownBlock = some b from rfl]
    simp only [Option.toList_some, List.singleton_append, List.nodup_cons]
    exact ⟨fun hm => hnd.1 (hp.mem_iff.2 (List.mem_append_right _ hm)), (nd_parts (hp.nodup_iff.1 hnd.2)).2.2⟩
/-- A box more, without messages, behind the others. -/
theorem Own9.snoc {B : Nat} {W W' : World} {v : Value} {g cap : Nat} {ps : List BP} {q : BP} (h : Own9 B W v ps) (hq : q.fp = []) (hqm : ∀ W, LfIn W (msgsLf q.box.msgs) q.val q.fp) (hg : W.grownBy W' v.ownBlock) (hor : v.ownBlock = some g ∨ W.heap.size ≤ g)
    (ho : W'.ownsRow B 38 4 (.slice (some ⟨g, 0, none⟩) (ps.length + 1) cap) (ps.length + 1) (ps.flatMap encP ++ encP q)) : Own9 B W' (.slice (some ⟨g, 0, none⟩) (ps.length + 1) cap) (ps ++ [q]) := by
  obtain ⟨d1, _, d3⟩ := nd_parts h.nd
  have hf : (ps ++ [q]).flatMap BP.fp = ps.flatMap BP.fp := by rw [List.flatMap_append, List.flatMap_cons, List.flatMap_nil, hq, List.append_nil, List.append_nil]
  refine ⟨by rw [List.length_append, List.length_singleton, List.flatMap_append, List.flatMap_cons, List.flatMap_nil, List.append_nil]; exact ho, fun p hpm => ?_, ?_, fun k hk => h.low k (hf ▸ hk)⟩
  · rcases List.mem_append.1 hpm with hpm | hpm
    · exact LfIn.away (h.ok p hpm) (GrownIn.of_row hg) (fun k hk hm => d1 k hm (List.mem_flatMap.2 ⟨p, hpm, hk⟩))
    · rw [List.mem_singleton.1 hpm]; exact hqm W'
  · rw [show (Value.slice (some ⟨g, 0, none⟩) (ps.length + 1) cap).ownBlock = some g from rfl, hf]
    simp only [Option.toList_some, List.singleton_append, List.nodup_cons]
    refine ⟨fun hm => ?_, d3⟩
    rcases hor with hor | hor
    · exact d1 g (by rw [hor]; simp) hm
    · have := (h.fps.2 g hm).2; omega
theorem lay_permP (ps : List BP) (q : BP) : (layP ps q).Perm (q :: ps) := by
  unfold layP
  refine List.perm_middle.trans ?_
  rw [List.take_append_drop]
theorem asc_of_boxes {qs : List BP} (h : boxesB (qs.map BP.box) = true) : qs.Pairwise fun x y => Op.bytesLess x.box.name y.box.name = true :=
  List.pairwise_map.1 ((boxes_iff _).1 h).2.2.1
theorem Below.of_grown {B b : Nat} {W W' : World} (h : W.grownBy W' (some b)) (hb : B ≤ b) (hB : B ≤ W.heap.size) : Below B W W' := ⟨h.os, h.tape, h.output, h.size, fun k hk => h.block k (by omega) (fun e => by injection e with e; omega)⟩

set_option maxHeartbeats 1600000 in
theorem cmpName_any (x y : BP) (w : World) : Calls Tryz.prog 170 #[.agg #[sv x.box.name, .int .i64 x.box.validity, .int .i64 x.box.next, .slice x.pt x.box.msgs.length x.cp], .agg #[sv y.box.name, .int .i64 y.box.validity, .int .i64 y.box.next, .slice y.pt y.box.msgs.length y.cp]] w fun e w' => e = .returned (.int .i64 (cfN x y)) ∧ ∃ q os', w' = Go.Sort.grow (w.drewN q) os' := by
  have C := Lib.hid (fun W => Tryz.strings_Compare ⟨x.box.name.toArray⟩ ⟨y.box.name.toArray⟩ W)
  have HV := Lib.hid (show cfN x y = Lib.compareBytes x.box.name y.box.name from rfl)
  go_enter Tryz.func170, Tryz.ntmps170
  go_wp2_with fail
  refine (C.out _).mono ?_
  rintro e w1 ⟨rfl, rfl⟩
  go_wp2
  go_ret
  exact ⟨by rw [HV.out]; rfl, 0, _, by rw [Go.Sort.alloc_eq_grow, Go.Sort.alloc_eq_grow, Go.Sort.grow_grow]; rfl⟩
theorem bitsLen_any (n : Nat) (W : World) (h : n ≤ 12) : Calls Tryz.prog 153 #[.int .u64 n] W fun e w' => (∃ l : Int, e = .returned (.int .i64 l)) ∧ w' = W :=
  (Any.bits_Len Tryz.bitsLen9 n W (by omega) (by omega)).mono fun _ _ ⟨he, hw⟩ => ⟨⟨_, he⟩, hw⟩
set_option maxHeartbeats 1600000 in
theorem sortFunc_any (B b n c : Nat) (ps qs : List BP) (w : World) (h : Own9 B w (.slice (some ⟨b, 0, none⟩) n c) ps) (hn : n ≤ 12) (hq : ps.Perm qs) (hqa : boxesB (qs.map BP.box) = true) :
    Calls Tryz.prog 169 #[.slice (some ⟨b, 0, none⟩) n c, .func (.func 170) #[] #[]] w fun e w' => e = .returned (.tuple #[]) ∧ Own9 B w' (.slice (some ⟨b, 0, none⟩) n c) qs ∧ w.grownBy w' (some b) := by
  have hnum := h.num
  have hrow : w.ownsRow B 38 4 (.slice (some ⟨b, 0, none⟩) n c) n (ps.flatMap encP) := by rw [hnum]; rw [hnum] at h; exact h.row
  have eg : ∀ args w, (callFunc 170 args).run Tryz.prog w = .ok (.enter 170 args) w := enters_of Tryz.func170 (by kernel_rfl) rfl
  have hcon := AnyQ.slices_SortFunc_small_sorted Tryz.sortBox 4 Tryz.isAgg38 Tryz.sizeOf38 encP encP_len encP_one cfN 170 #[] swoN b 0 c ps.toArray w eg (fun _ _ _ _ x y => cmpName_any x y _) (own_holds hnum.symm hrow) (h.row.lt b rfl).2 (by simp; omega) bitsLen_any
  change Calls Tryz.prog 169 _ _ _ at hcon
  have hsz : ps.toArray.size = n := by simp [hnum]
  rw [hsz] at hcon
  refine hcon.mono ?_
  rintro e w' ⟨rfl, d, m, os, h1, h2, rfl⟩
  have hd : d.toList = qs := sorted_one (by rw [hsz]; exact h1) (by rw [hsz]; exact h2) hq (asc_of_boxes hqa)
  have hdn : d.size = n := by rw [← Array.length_toList, hd, ← hq.length_eq, hnum]
  obtain ⟨k1, k2⟩ := own_sorted (m := m) (os := os) hnum.symm hdn hrow
  rw [hd] at k1
  exact ⟨rfl, h.perm hq k2 k1, k2⟩
set_option maxHeartbeats 1600000 in
theorem sortByName_any (B b n c : Nat) (ps qs : List BP) (w : World) (h : Own9 B w (.slice (some ⟨b, 0, none⟩) n c) ps) (hn : n ≤ 12) (hq : ps.Perm qs) (hqa : boxesB (qs.map BP.box) = true) :
    Calls Tryz.prog 155 #[.slice (some ⟨b, 0, none⟩) n c] w fun e w' => e = .returned (.tuple #[]) ∧ Own9 B w' (.slice (some ⟨b, 0, none⟩) n c) qs ∧ w.grownBy w' (some b) := by
  have C := Lib.hid (sortFunc_any B b n c ps qs w h hn hq hqa)
  clear h hn hq hqa
  go_enter Tryz.func155, Tryz.ntmps155
  go_wp2_with fail
  refine C.out.mono ?_
  rintro e w1 ⟨rfl, h1, h2⟩
  go_wp2
  go_end0
  exact ⟨rfl, h1, h2⟩

/-- The blocks of a row of boxes. -/
def fpsOf (v : Value) (ps : List BP) : List Nat := v.ownBlock.toList ++ ps.flatMap BP.fp
theorem fpsOf.own {b n c : Nat} {ps : List BP} : b ∈ fpsOf (.slice (some ⟨b, 0, none⟩) n c) ps := List.mem_append_left _ (by rw [show (Value.slice (some ⟨b, 0, none⟩) n c).ownBlock = some b from rfl]; simp)
theorem fpsOf.msg {v : Value} {ps : List BP} {k : Nat} {z : BP} (hz : ps[k]? = some z) {q : Nat} (hq : q ∈ z.fp) : q ∈ fpsOf v ps := List.mem_append_right _ (List.mem_flatMap.2 ⟨z, List.mem_of_getElem? hz, hq⟩)
theorem GrownIn.next {w w4 w5 : World} {S : List Nat} {gn : Nat} (h : GrownIn w w4 S) (g5 : w4.grownBy w5 (some gn)) (ho : gn ∈ S ∨ w.heap.size ≤ gn) : GrownIn w w5 S :=
  ⟨g5.os.trans h.os, g5.tape.trans h.tape, g5.output.trans h.output, Nat.le_trans h.size g5.size, fun k hk hn => (g5.block k (Nat.lt_of_lt_of_le hk h.size) (fun e => by
    injection e with e
    subst e
    rcases ho with ho | ho
    · exact hn ho
    · omega)).trans (h.block k hk hn)⟩
theorem Own9.under {B : Nat} {w w' : World} {v : Value} {ps : List BP} (h : Own9 B w v ps) (hg : GrownIn w w' (fpsOf v ps)) (hB : B ≤ w.heap.size) : Below B w w' := GrownIn.below (Below.refl _ _) hg hB h.tree.low

abbrev comv (x : ComD) : Value := .agg #[.int .i64 x.kind, .int .i64 x.validity, .int .i64 x.uid, .int .i64 x.flags, sv x.name, sv x.text]
def PerfPost (B : Nat) (ps : List BP) (v : Value) (x : ComD) (er : Addr) (w : World) (e : Ending) (w' : World) : Prop :=
  ∃ v' z, e = .returned (.tuple #[v', z]) ∧ GrownIn w w' (fpsOf v ps) ∧ ((appB (ps.map BP.box) x = true ∧ z = .nilIface ∧ ∃ qs, Own9 B w' v' qs ∧ qs.map BP.box = doneL (ps.map BP.box) x) ∨ (appB (ps.map BP.box) x = false ∧ z = errV er ∧ Own9 B w' v ps))

def ErrAt (W : World) (er : Addr) : Prop := W.cell? ⟨0, 0, none⟩ = some (errV er)
/-- A world of the call's, behind the commit's own block. -/
structure AtX (B : Nat) (w X : World) (v : Value) (ps : List BP) (x : ComD) (er : Addr) : Prop where
  own : Own9 B X v ps
  blk : X.heap[w.heap.size]? = some (.cells #[.int .i64 x.kind, .int .i64 x.validity, .int .i64 x.uid, .int .i64 x.flags, sv x.name, sv x.text] 26 (0, 0))
  b : GrownIn w X (fpsOf v ps)
  er : ErrAt X er
  hB : B ≤ w.heap.size
  hg : 0 < B
theorem AtX.of {B : Nat} {w X : World} {v : Value} {ps : List BP} {x : ComD} {er : Addr} (h : Own9 B w v ps) (he : ErrAt w er) (hB : B ≤ w.heap.size) (hg : 0 < B)
    (hX : X = w.alloc (.cells #[.int .i64 x.kind, .int .i64 x.validity, .int .i64 x.uid, .int .i64 x.flags, sv x.name, sv x.text] 26)) : AtX B w X v ps x er := by
  subst hX
  have hb : Below w.heap.size w (w.alloc (.cells #[.int .i64 x.kind, .int .i64 x.validity, .int .i64 x.uid, .int .i64 x.flags, sv x.name, sv x.text] 26)) := (Below.refl _ _).alloc (Nat.le_refl _) _
  exact ⟨h.below hb, heap_alloc_new w _, GrownIn.of_below hb, (hb.cell (p := ⟨0, 0, none⟩) (Nat.lt_of_lt_of_le hg hB)).trans he, hB, hg⟩
theorem AtX.size {B : Nat} {w X : World} {v : Value} {ps : List BP} {x : ComD} {er : Addr} (h : AtX B w X v ps x er) : B ≤ X.heap.size := Nat.le_trans h.hB h.b.size
theorem AtX.call {B : Nat} {w X X' : World} {v : Value} {ps : List BP} {x : ComD} {er : Addr} (h : AtX B w X v ps x er) (hb : Below X.heap.size X X') : AtX B w X' v ps x er :=
  ⟨h.own.below hb, (hb.block _ (Array.getElem?_eq_some_iff.1 h.blk).1).trans h.blk, h.b.trans (GrownIn.of_below hb), (hb.cell (p := ⟨0, 0, none⟩) (Nat.lt_of_lt_of_le h.hg h.size)).trans h.er, h.hB, h.hg⟩
theorem AtX.drew {B : Nat} {w X : World} {v : Value} {ps : List BP} {x : ComD} {er : Addr} (h : AtX B w X v ps x er) : AtX B w X.drew v ps x er := h.call (Below.refl _ _).drew
theorem AtX.cells {B : Nat} {w X : World} {v : Value} {ps : List BP} {x : ComD} {er : Addr} (h : AtX B w X v ps x er) : X.cell? ⟨w.heap.size, 0, none⟩ = some (.int .i64 x.kind) ∧ X.cell? ⟨w.heap.size, 1, none⟩ = some (.int .i64 x.validity) ∧ X.cell? ⟨w.heap.size, 2, none⟩ = some (.int .i64 x.uid) ∧ X.cell? ⟨w.heap.size, 3, none⟩ = some (.int .i64 x.flags) ∧ X.cell? ⟨w.heap.size, 4, none⟩ = some (sv x.name) ∧ X.cell? ⟨w.heap.size, 5, none⟩ = some (sv x.text) :=
  ⟨(Lib.cell_of_heap h.blk 0).trans rfl, (Lib.cell_of_heap h.blk 1).trans rfl, (Lib.cell_of_heap h.blk 2).trans rfl, (Lib.cell_of_heap h.blk 3).trans rfl, (Lib.cell_of_heap h.blk 4).trans rfl, (Lib.cell_of_heap h.blk 5).trans rfl⟩
theorem AtX.no {B : Nat} {w X : World} {v v' : Value} {ps : List BP} {x : ComD} {er : Addr} (h : AtX B w X v ps x er) (ha : appB (ps.map BP.box) x = false) : PerfPost B ps v x er w (.returned (.tuple #[v', errV er])) X := ⟨v', _, rfl, h.b, .inr ⟨ha, rfl, h.own⟩⟩

end Go.Proofs.YtbfgdbpfecffcaaGreatDoor

namespace Go.Proofs.YtbfgdbpfecffcaaGreatDoor
open Go.RowKit

set_option maxRecDepth 20000 in
set_option maxHeartbeats 6400000 in
theorem create_any (B : Nat) (ps : List BP) (v : Value) (x : ComD) (er : Addr) (w : World) (h : Own9 B w v ps) (he : ErrAt w er) (hB : B ≤ w.heap.size) (hg : 0 < B) (hr : boxesB (ps.map BP.box) = true) (hx : commitB x = true) (hk : x.kind = 1) (hs2 : szLs x.lf ≤ 1048576) (hbd2 : LsBnd x.lf) :
    Calls Tryz.prog 140 #[v, .agg #[.int .i64 x.kind, .int .i64 x.validity, .int .i64 x.uid, .int .i64 x.flags, sv x.name, sv x.text]] w fun e w' => PerfPost B ps v x er w e w' := by
  obtain ⟨hnl, hvl, _⟩ := com_fit hs2 hbd2
  obtain ⟨hs, hbd⟩ := right_small hr
  have CN := Lib.hid (fun (X : World) (O : Own9 B X v ps) => implBoxNamed_c (G := fun _ => True) (ps.map BP.box) v x.name X trivial (LfIn.rd _ _ _ O.tree.is) hs hbd hnl)
  have CW := Lib.hid (fun (X : World) (O : Own9 B X v ps) => implBoxWith_c (G := fun _ => True) (ps.map BP.box) v x.validity X trivial (LfIn.rd _ _ _ O.tree.is) hs hbd hvl)
  have hap := app_1 hr hx hk
  have hlen : (ps.map BP.box).length = ps.length := by rw [List.length_map]
  have h4 : ps.length ≤ 4 := by rw [← hlen]; exact ((boxes_iff _).1 hr).1
  have hdone := done_1 (l := ps.map BP.box) hk
  clear hk
  have HR := Lib.hid hr
  obtain ⟨p, c, rfl⟩ := LfIn.slice h.tree.is
  rw [hlen] at h CN CW ⊢
  have H0 := Lib.hid (fun X hX => AtX.of (X := X) (x := x) h he hB hg hX)
  have hb0 := Lib.hid (H0.out _ rfl)
  rw [hlen] at hap
  by_cases hl4 : ps.length < 4
  case neg =>
    have hf : appB (ps.map BP.box) x = false := by rw [hap, decide_eq_false (show ¬ ((ps.length : Int) < 4) by omega)]; rfl
    have HF := Lib.hid (hb0.out.drew.no (v' := .slice none 0 0) hf)
    have heq := hb0.out.drew.er
    unfold ErrAt at heq
    have hge : (ps.length : Int) ≥ 4 := by omega
    clear hap hdone hf CN CW h hb0 H0 he hs2 hbd2 hs hbd hr
    go_enter Tryz.func140, Tryz.ntmps140
    go_wp2
    refine ord_start [(0, true), (1, true), (2, true)] (fun W => W.cell? ⟨0, 0, none⟩ = some (errV er)) (by kernel_rfl) (by kernel_rfl) rfl (by kernel_rfl) ?_
    intro ops' hops
    clear hops
    simp only [List.map_cons, List.map_nil, pickOp_zero, pickOp_succ]
    iterate 3 (refine ord_flo ?_ (fun _ _ _ h => h) rfl ?_ heq ?_; rotate_left; focus (intro W hS; obtain s1 := hS; go_simp; rfl))
    refine ord_done ?_
    go_simp
    go_wp2
    go_ret2
    exact HF.out
  rw [decide_eq_true (show (ps.length : Int) < 4 by omega), Bool.true_and] at hap
  have hge : ¬ (ps.length : Int) ≥ 4 := by omega
  obtain ⟨a0, a1, a2, a3, a4, a5⟩ := hb0.out.cells
  clear a0 a2 a3 a5
  have D1 := Lib.hid (CN.out _ hb0.out.own)
  by_cases hn : bxNamed (ps.map BP.box) x.name < 0
  case neg =>
    have hf : appB (ps.map BP.box) x = false := by rw [hap, decide_eq_false hn, Bool.and_false]
    have HFF := Lib.hid hf
    have hnn : bxNamed (ps.map BP.box) x.name ≥ 0 := by omega
    generalize bxNamed (ps.map BP.box) x.name = R at *
    clear hap hdone hf CN CW h H0 he hs2 hbd2 hs hbd hr hn
    go_enter Tryz.func140, Tryz.ntmps140
    go_wp2_with fail
    refine D1.out.mono ?_
    rintro e w1 ⟨rfl, b1⟩
    have A1 := hb0.out.call b1
    have HF := Lib.hid (A1.drew.no (v' := .slice none 0 0) HFF.out)
    have heq := A1.drew.er
    unfold ErrAt at heq
    clear A1 b1 D1 hb0 a1 a4
    go_wp2
    refine ord_start [(0, true), (1, true), (2, true)] (fun W => W.cell? ⟨0, 0, none⟩ = some (errV er)) (by kernel_rfl) (by kernel_rfl) rfl (by kernel_rfl) ?_
    intro ops' hops
    clear hops
    simp only [List.map_cons, List.map_nil, pickOp_zero, pickOp_succ]
    iterate 3 (refine ord_flo ?_ (fun _ _ _ h => h) rfl ?_ heq ?_; rotate_left; focus (intro W hS; obtain s1 := hS; go_simp; rfl))
    refine ord_done ?_
    go_simp
    go_wp2
    go_ret2
    exact HF.out
  rw [decide_eq_true hn, Bool.and_true] at hap
  have hnn : ¬ bxNamed (ps.map BP.box) x.name ≥ 0 := by omega
  have HN := Lib.hid hn
  generalize hRR : bxNamed (ps.map BP.box) x.name = R at *
  by_cases hw : bxWith (ps.map BP.box) x.validity < 0
  case neg =>
    have hf : appB (ps.map BP.box) x = false := by rw [hap, decide_eq_false hw]
    have HFF := Lib.hid hf
    have hww : bxWith (ps.map BP.box) x.validity ≥ 0 := by omega
    generalize bxWith (ps.map BP.box) x.validity = R2 at *
    clear hap hdone hf CN h H0 he hs2 hbd2 hs hbd hr hw hRR hn
    go_enter Tryz.func140, Tryz.ntmps140
    go_wp2_with fail
    refine D1.out.mono ?_
    rintro e w1 ⟨rfl, b1⟩
    have A1 := Lib.hid (hb0.out.call b1)
    obtain ⟨a0, a1, a2, a3, a4, a5⟩ := A1.out.cells
    clear a0 a2 a3 a5 b1 D1 hb0
    go_wp2_with fail
    refine (CW.out _ A1.out.own).mono ?_
    rintro e w2 ⟨rfl, b2⟩
    have A2 := A1.out.call b2
    have HF := Lib.hid (A2.drew.no (v' := .slice none 0 0) HFF.out)
    have heq := A2.drew.er
    unfold ErrAt at heq
    clear A1 A2 b2 CW a1 a4
    go_wp2
    refine ord_start [(0, true), (1, true), (2, true)] (fun W => W.cell? ⟨0, 0, none⟩ = some (errV er)) (by kernel_rfl) (by kernel_rfl) rfl (by kernel_rfl) ?_
    intro ops' hops
    clear hops
    simp only [List.map_cons, List.map_nil, pickOp_zero, pickOp_succ]
    iterate 3 (refine ord_flo ?_ (fun _ _ _ h => h) rfl ?_ heq ?_; rotate_left; focus (intro W hS; obtain s1 := hS; go_simp; rfl))
    refine ord_done ?_
    go_simp
    go_wp2
    go_ret2
    exact HF.out
  have ht : appB (ps.map BP.box) x = true := by rw [hap, decide_eq_true hw]
  have HT := Lib.hid ht
  have hww : ¬ bxWith (ps.map BP.box) x.validity ≥ 0 := by omega
  have HQ := Lib.hid (show (layP ps ⟨⟨x.name, x.validity, 1, []⟩, none, 0, []⟩).map BP.box = doneL (ps.map BP.box) x by rw [layP_box, hdone])
  have HQR := Lib.hid (show boxesB ((layP ps ⟨⟨x.name, x.validity, 1, []⟩, none, 0, []⟩).map BP.box) = true by rw [HQ.out]; exact done_right ht)
  generalize bxWith (ps.map BP.box) x.validity = R2 at *
  clear hap hdone ht CN h H0 he hs2 hbd2 hs hbd hr hw hRR hn
  go_enter Tryz.func140, Tryz.ntmps140
  go_wp2_with fail
  refine D1.out.mono ?_
  rintro e w1 ⟨rfl, b1⟩
  have A1 := Lib.hid (hb0.out.call b1)
  obtain ⟨a0, a1, a2, a3, a4, a5⟩ := A1.out.cells
  clear a0 a2 a3 a5 b1 D1 hb0
  go_wp2_with fail
  refine (CW.out _ A1.out.own).mono ?_
  rintro e w2 ⟨rfl, b2⟩
  have A2 := Lib.hid (A1.out.call b2)
  clear A1 b2 CW a1 a4
  obtain ⟨a0, a1, a2, a3, a4, a5⟩ := A2.out.cells
  clear a0 a2 a3 a5
  have hsz2 := A2.out.size
  go_wp2_with (at_builtin; refine wpList_app1 Tryz.el_box rfl (.tmp 24) (.tmp 30) rfl w2 w2 (.slice p ps.length c) ps.length (ps.flatMap encP) rfl A2.out.own.row (Below.refl _ _) hsz2 #[sv x.name, .int .i64 x.validity, .int .i64 1, .slice none 0 0] (.inr rfl) 1 1 rfl rfl (by simp [Value.oneCell']) (by omega) (by omega) (by omega) ?_)
  intro gn cap w4 ho4 hb4 hg4 hor4 hlt4
  have O4 := A2.out.own.snoc (q := ⟨⟨x.name, x.validity, 1, []⟩, none, 0, []⟩) rfl (fun W => msgs_in.2 ⟨World.ownsRow_nil _ _ _ _, rfl⟩) hg4 hor4 ho4
  have hgB : B ≤ gn := (O4.row.lt gn rfl).1
  have hp4 : (ps ++ [(⟨⟨x.name, x.validity, 1, []⟩, none, 0, []⟩ : BP)]).Perm (layP ps ⟨⟨x.name, x.validity, 1, []⟩, none, 0, []⟩) := (List.perm_append_comm.trans (List.Perm.refl _)).trans (lay_permP _ _).symm
  have CS := Lib.hid (sortByName_any B gn (ps.length + 1) cap _ _ w4 O4 (by omega) hp4 HQR.out)
  have hS4 : gn ∈ fpsOf (.slice p ps.length c) ps ∨ w.heap.size ≤ gn := by
    rcases hor4 with h | h
    · exact .inl (List.mem_append_left _ (by rw [h]; simp))
    · exact .inr (Nat.le_trans A2.out.b.size h)
  have HB4 := Lib.hid (And.intro (A2.out.b.trans ((GrownIn.of_row hg4).mono (fun k hk => List.mem_append_left _ hk))) hS4)
  clear ho4 hb4 hg4 hor4 hlt4 O4 hp4 A2 a1 a4 hsz2 hS4
  go_wp2_with fail
  refine CS.out.mono ?_
  rintro e w5 ⟨rfl, O5, g5⟩
  have HF := Lib.hid (show PerfPost B ps (.slice p ps.length c) x er w (.returned (.tuple #[.slice (some ⟨gn, 0, none⟩) (ps.length + 1) cap, .nilIface])) w5 from ⟨_, _, rfl, HB4.out.1.next g5 HB4.out.2, .inl ⟨HT.out, rfl, _, O5, HQ.out⟩⟩)
  clear O5 g5 CS HB4
  go_wp2
  go_ret2
  exact HF.out

end Go.Proofs.YtbfgdbpfecffcaaGreatDoor

namespace Go.Proofs.YtbfgdbpfecffcaaGreatDoor
open Go.RowKit

def RenPost (B : Nat) (ps : List BP) (v : Value) (x : ComD) (er : Addr) (w : World) (e : Ending) (w' : World) : Prop :=
  ∃ z, e = .returned z ∧ GrownIn w w' (fpsOf v ps) ∧ ((appB (ps.map BP.box) x = true ∧ z = .nilIface ∧ ∃ qs, Own9 B w' v qs ∧ qs.map BP.box = doneL (ps.map BP.box) x) ∨ (appB (ps.map BP.box) x = false ∧ z = errV er ∧ Own9 B w' v ps))
set_option maxRecDepth 20000 in
set_option maxHeartbeats 6400000 in
theorem rename_any (B b n c k : Nat) (ps : List BP) (x : ComD) (er : Addr) (w : World) (h : Own9 B w (.slice (some ⟨b, 0, none⟩) n c) ps) (he : ErrAt w er) (hB : B ≤ w.heap.size) (hg : 0 < B) (hr : boxesB (ps.map BP.box) = true) (hx : commitB x = true) (hk : x.kind = 3) (hw : bxWith (ps.map BP.box) x.validity = (k : Int)) (hnl : x.name.length ≤ 1048576) :
    Calls Tryz.prog 142 #[.slice (some ⟨b, 0, none⟩) n c, .int .i64 (k : Int), sv x.name] w fun e w' => RenPost B ps (.slice (some ⟨b, 0, none⟩) n c) x er w e w' := by
  obtain ⟨hs, hbd⟩ := right_small hr
  have CN := Lib.hid (implBoxNamed_c (G := fun _ => True) (ps.map BP.box) (.slice (some ⟨b, 0, none⟩) n c) x.name w trivial (LfIn.rd _ _ _ h.tree.is) hs hbd hnl)
  have hwn : ¬ bxWith (ps.map BP.box) x.validity < 0 := by omega
  have hap := app_3 hr hx hk hwn
  have hwb : whereB (ps.map BP.box) x.validity = k := by unfold whereB; omega
  obtain ⟨y, hy, _⟩ := with_at hwn
  rw [hwb] at hy
  have hnum := h.num
  have h4 : n ≤ 4 := by rw [hnum]; have := ((boxes_iff _).1 hr).1; rwa [List.length_map] at this
  have hkl : k < ps.length := by have := (List.getElem?_eq_some_iff.1 hy).1; rwa [List.length_map] at this
  obtain ⟨z, hz⟩ : ∃ z, ps[k]? = some z := ⟨_, List.getElem?_eq_getElem hkl⟩
  have hzy : z.box = y := by
    rw [List.getElem?_map, hz] at hy
    injection hy
  have hO := Lib.hid (fun W (g : Below w.heap.size w W) => (⟨h.below g, GrownIn.of_below g, (g.cell (p := ⟨0, 0, none⟩) (Nat.lt_of_lt_of_le hg hB)).trans he⟩ : Own9 B W (.slice (some ⟨b, 0, none⟩) n c) ps ∧ GrownIn w W (fpsOf (.slice (some ⟨b, 0, none⟩) n c) ps) ∧ ErrAt W er))
  by_cases hn : bxNamed (ps.map BP.box) x.name < 0
  case neg =>
    have hf : appB (ps.map BP.box) x = false := by rw [hap, decide_eq_false hn]
    have HFF := Lib.hid hf
    have hnn : bxNamed (ps.map BP.box) x.name ≥ 0 := by omega
    generalize bxNamed (ps.map BP.box) x.name = R at *
    clear hap hf h he hs hbd hr hn hw hwn hwb hy hz hzy hx hnum hk
    go_enter Tryz.func142, Tryz.ntmps142
    go_wp2_with fail
    refine CN.out.mono ?_
    rintro e w1 ⟨rfl, b1⟩
    obtain ⟨k1, k2, k3⟩ := hO.out _ b1
    have HF := Lib.hid (show RenPost B ps (.slice (some ⟨b, 0, none⟩) n c) x er w (.returned (errV er)) w1 from ⟨_, rfl, k2, .inr ⟨HFF.out, rfl, k1⟩⟩)
    unfold ErrAt at k3
    clear k1 k2 b1 CN hO
    go_wp2
    go_ret
    exact HF.out
  have ht : appB (ps.map BP.box) x = true := by rw [hap, decide_eq_true hn]
  have HT := Lib.hid ht
  have hnn : ¬ bxNamed (ps.map BP.box) x.name ≥ 0 := by omega
  have hd3 := done_3 (l := ps.map BP.box) (m := x) (b := y) hk (by rw [hwb]; exact hy)
  rw [hwb] at hd3
  have HQ := Lib.hid (show (layP (ps.eraseIdx k) (z.named x.name)).map BP.box = doneL (ps.map BP.box) x by rw [named_box, hd3, hzy])
  have HQR := Lib.hid (show boxesB ((layP (ps.eraseIdx k) (z.named x.name)).map BP.box) = true by rw [HQ.out]; exact done_right ht)
  have hset : (ps.set k (z.named x.name)).Perm (layP (ps.eraseIdx k) (z.named x.name)) := by
    have h1 : (ps.set k (z.named x.name))[k]? = some (z.named x.name) := by rw [List.getElem?_set_self hkl]
    have h2 : (ps.set k (z.named x.name)).Perm (z.named x.name :: (ps.set k (z.named x.name)).eraseIdx k) := by
      rw [List.eraseIdx_eq_take_drop_succ]
      have h3 := List.perm_middle (a := z.named x.name) (l₁ := (ps.set k (z.named x.name)).take k) (l₂ := (ps.set k (z.named x.name)).drop (k + 1))
      rwa [← take_drop_at h1] at h3
    rw [List.eraseIdx_set_eq] at h2
    exact h2.trans (lay_permP _ _).symm
  have HSET := Lib.hid hset
  have hkn : k < n := by omega
  have HZ := Lib.hid hz
  generalize bxNamed (ps.map BP.box) x.name = R at *
  clear hap ht h he hs hbd hr hn hw hwn hwb hy hz hzy hx hset hd3 hnum hk
  go_enter Tryz.func142, Tryz.ntmps142
  go_wp2_with fail
  refine CN.out.mono ?_
  rintro e w1 ⟨rfl, b1⟩
  obtain ⟨k1, k2, _⟩ := hO.out _ b1
  obtain ⟨q0, f0⟩ := k1.cell HZ.out (show 0 < 4 by omega)
  rw [Nat.add_zero] at q0 f0
  have q0 : w1.cell? ⟨b, k * 4, none⟩ = some (sv z.box.name) := q0
  have O2 := Own9.plain k1 HZ.out (j := 0) (u := sv x.name) (z' := z.named x.name) (by omega) rfl rfl rfl rfl
  rw [Nat.add_zero] at O2
  have hbB := k1.row.lt b rfl
  have g2 : GrownIn w1 (w1.setCell ⟨b, k * 4, none⟩ (sv x.name)) (fpsOf (.slice (some ⟨b, 0, none⟩) n c) ps) := GrownIn.set fpsOf.own
  have CS := Lib.hid (sortByName_any B b n c _ _ _ O2 (by omega) HSET.out HQR.out)
  have hsz1 : B ≤ w1.heap.size := Nat.le_trans hB k2.size
  have HB2 := Lib.hid (And.intro (k2.trans g2) (And.intro hbB.1 (show B ≤ (w1.setCell ⟨b, k * 4, none⟩ (sv x.name)).heap.size from Nat.le_trans hsz1 g2.size)))
  clear k1 k2 b1 CN O2 g2 hO
  go_wp2_with fail
  refine CS.out.mono ?_
  rintro e w5 ⟨rfl, O5, g5⟩
  have HF := Lib.hid (show RenPost B ps (.slice (some ⟨b, 0, none⟩) n c) x er w (.returned .nilIface) w5 from ⟨_, rfl, HB2.out.1.next g5 (.inl fpsOf.own), .inl ⟨HT.out, rfl, _, O5, HQ.out⟩⟩)
  clear O5 g5 CS HB2 q0 f0
  go_wp2
  go_ret
  exact HF.out

end Go.Proofs.YtbfgdbpfecffcaaGreatDoor

namespace Go.Proofs.YtbfgdbpfecffcaaGreatDoor
open Go.RowKit

def okM (b : BoxD) (x : ComD) : Bool := if x.kind = 4 then (b.next == x.uid) && decide ((b.msgs.length : Int) < 6) else decide (0 ≤ bxPlace b x.uid)
def MsgPost (B : Nat) (ps : List BP) (v : Value) (k : Nat) (z : BP) (x : ComD) (er : Addr) (w : World) (e : Ending) (w' : World) : Prop :=
  ∃ r, e = .returned r ∧ GrownIn w w' (fpsOf v ps) ∧ ((okM z.box x = true ∧ r = .nilIface ∧ ∃ z', Own9 B w' v (ps.set k z') ∧ z'.box = boxAfter z.box x) ∨ (okM z.box x = false ∧ r = errV er ∧ Own9 B w' v ps))

theorem AtX.msgNo {B k : Nat} {w X : World} {v : Value} {ps : List BP} {x : ComD} {er : Addr} {z : BP} (h : AtX B w X v ps x er) (ha : okM z.box x = false) : MsgPost B ps v k z x er w (.returned (errV er)) X := ⟨_, rfl, h.b, .inr ⟨ha, rfl, h.own⟩⟩
theorem AtX.box {B b n c k : Nat} {w X : World} {ps : List BP} {x : ComD} {er : Addr} {z : BP} (h : AtX B w X (.slice (some ⟨b, 0, none⟩) n c) ps x er) (hz : ps[k]? = some z) :
    X.cell? ⟨b, k * 4, none⟩ = some (sv z.box.name) ∧ X.cell? ⟨b, k * 4 + 1, none⟩ = some (.int .i64 z.box.validity) ∧ X.cell? ⟨b, k * 4 + 2, none⟩ = some (.int .i64 z.box.next) ∧ X.cell? ⟨b, k * 4 + 3, none⟩ = some (.slice z.pt z.box.msgs.length z.cp) :=
  ⟨(h.own.cell hz (show 0 < 4 by omega)).1, (h.own.cell hz (show 1 < 4 by omega)).1, (h.own.cell hz (show 2 < 4 by omega)).1, (h.own.cell hz (show 3 < 4 by omega)).1⟩

end Go.Proofs.YtbfgdbpfecffcaaGreatDoor

namespace Go.Proofs.YtbfgdbpfecffcaaGreatDoor
open Go.RowKit

set_option maxRecDepth 20000 in
set_option maxHeartbeats 6400000 in
theorem appendMsg_any (B b n c k : Nat) (ps : List BP) (z : BP) (x : ComD) (er : Addr) (w : World) (h : Own9 B w (.slice (some ⟨b, 0, none⟩) n c) ps) (he : ErrAt w er) (hB : B ≤ w.heap.size) (hg : 0 < B) (hz : ps[k]? = some z) (hm : z.box.msgs.length ≤ 1048576) (hnx : 1 ≤ z.box.next ∧ z.box.next ≤ 999999999) (hk : x.kind = 4) :
    Calls Tryz.prog 143 #[.pointer (some ⟨b, k * 4, none⟩), .agg #[.int .i64 x.kind, .int .i64 x.validity, .int .i64 x.uid, .int .i64 x.flags, sv x.name, sv x.text]] w fun e w' => MsgPost B ps (.slice (some ⟨b, 0, none⟩) n c) k z x er w e w' := by
  have hok : okM z.box x = ((z.box.next == x.uid) && decide ((z.box.msgs.length : Int) < 6)) := by unfold okM; rw [if_pos hk]
  have HOK := Lib.hid hok
  have HZ := Lib.hid hz
  have HM := Lib.hid hm
  have HAF := Lib.hid (show z.box.next = x.uid → boxAfter z.box x = { z.box with msgs := z.box.msgs ++ [⟨x.uid, x.flags, x.text⟩], next := z.box.next + 1 } from fun e => by unfold boxAfter; rw [if_pos hk, e])
  have H0 := Lib.hid (fun X hX => AtX.of (X := X) (x := x) h he hB hg hX)
  have hwn : IntKind.i64.wrap (z.box.next + 1) = z.box.next + 1 := IntWalk.i64_in _ (by omega)
  have HLT := Lib.hid (fun q hq => (h.fps.2 q hq).2)
  clear hok hz h he hk hm
  go_enter Tryz.func143, Tryz.ntmps143
  go_wp2
  refine wp_named9 ?_
  intro X hX
  have H1 := Lib.hid (H0.out X hX)
  clear hX H0
  have A1 := Lib.hid H1.out.drew
  obtain ⟨a0, a1, a2, a3, a4, a5⟩ := A1.out.cells
  obtain ⟨q0, q1, q2, q3⟩ := A1.out.box HZ.out
  clear a0 a1 a3 a4 a5 q0 q1
  cases hq : (x.uid == z.box.next) with
  | false =>
    have HF := Lib.hid (show okM z.box x = false by
      rw [HOK.out, show (z.box.next == x.uid) = false by rw [beq_eq_false_iff_ne] at hq ⊢; exact fun e => hq e.symm]
      rfl)
    have hne := ne_yes hq
    clear hq
    refine ord_start [(0, true), (1, true), (2, true), (3, true), (4, true), (5, true), (6, true), (7, true), (8, true), (9, true), (10, true), (11, true), (12, true), (13, true), (14, true)] (fun W => W.cell? ⟨w.heap.size, 2, none⟩ = some (.int .i64 x.uid) ∧ W.cell? ⟨b, k * 4 + 2, none⟩ = some (.int .i64 z.box.next) ∧ W.cell? ⟨b, k * 4 + 3, none⟩ = some (.slice z.pt z.box.msgs.length z.cp)) (by kernel_rfl) (by kernel_rfl) rfl (by kernel_rfl) ?_
    intro ops' hops
    simp only [List.map_cons, List.map_nil, pickOp_zero, pickOp_succ]
    iterate 6 (refine ord_flo ?_ (fun _ _ _ h => h) rfl ?_ ⟨a2, q2, q3⟩ ?_; rotate_left; focus (intro W hS; obtain ⟨s1, s2, s3⟩ := hS; go_simp; rfl))
    refine ord_flo (.bool true) (fun _ _ _ h => h) (by rw [hops.out]; kernel_rfl) (fun W hS => by go_simp; try exact hne) ⟨a2, q2, q3⟩ ?_
    iterate 1 (refine ord_flo ?_ (fun _ _ _ h => h) rfl ?_ ⟨a2, q2, q3⟩ ?_; rotate_left; focus (intro W hS; obtain ⟨s1, s2, s3⟩ := hS; go_simp; rfl))
    iterate 6 (refine ord_not (fun _ _ _ h => h) (by rw [hops.out]; kernel_rfl) ⟨a2, q2, q3⟩ ?_)
    iterate 1 (refine ord_flo ?_ (fun _ _ _ h => h) rfl ?_ ⟨a2, q2, q3⟩ ?_; rotate_left; focus (intro W hS; obtain ⟨s1, s2, s3⟩ := hS; go_simp; rfl))
    refine ord_done ?_
    go_simp
    have heq := A1.out.er
    unfold ErrAt at heq
    have HP := Lib.hid (A1.out.msgNo (k := k) HF.out)
    clear a2 q2 q3
    go_wp2
    go_ret
    exact HP.out
  | true =>
  have hxn : x.uid = z.box.next := by simpa using hq
  have hne := ne_not hq
  have HXN := Lib.hid hxn
  clear hq hxn
  by_cases h6 : (z.box.msgs.length : Int) < 6
  case neg =>
    have HF := Lib.hid (show okM z.box x = false by rw [HOK.out, decide_eq_false h6, Bool.and_false])
    have hge : (z.box.msgs.length : Int) ≥ 6 := by omega
    clear h6
    refine ord_start [(0, true), (1, true), (2, true), (3, true), (4, true), (5, true), (6, true), (7, true), (8, true), (9, true), (10, true), (11, true), (12, true), (13, true), (14, true)] (fun W => W.cell? ⟨w.heap.size, 2, none⟩ = some (.int .i64 x.uid) ∧ W.cell? ⟨b, k * 4 + 2, none⟩ = some (.int .i64 z.box.next) ∧ W.cell? ⟨b, k * 4 + 3, none⟩ = some (.slice z.pt z.box.msgs.length z.cp)) (by kernel_rfl) (by kernel_rfl) rfl (by kernel_rfl) ?_
    intro ops' hops
    simp only [List.map_cons, List.map_nil, pickOp_zero, pickOp_succ]
    iterate 6 (refine ord_flo ?_ (fun _ _ _ h => h) rfl ?_ ⟨a2, q2, q3⟩ ?_; rotate_left; focus (intro W hS; obtain ⟨s1, s2, s3⟩ := hS; go_simp; rfl))
    refine ord_flo (.bool false) (fun _ _ _ h => h) (by rw [hops.out]; kernel_rfl) (fun W hS => by go_simp; try exact hne) ⟨a2, q2, q3⟩ ?_
    iterate 1 (refine ord_flo ?_ (fun _ _ _ h => h) rfl ?_ ⟨a2, q2, q3⟩ ?_; rotate_left; focus (intro W hS; obtain ⟨s1, s2, s3⟩ := hS; go_simp; rfl))
    iterate 5 (refine ord_flo ?_ (fun _ _ _ h => h) (by rw [hops.out]; kernel_rfl) ?_ ⟨a2, q2, q3⟩ ?_; rotate_left; focus (intro W hS; obtain ⟨s1, s2, s3⟩ := hS; go_simp; rfl))
    refine ord_flo (.bool true) (fun _ _ _ h => h) (by rw [hops.out]; kernel_rfl) (fun W hS => by go_simp <;> omega) ⟨a2, q2, q3⟩ ?_
    iterate 1 (refine ord_flo ?_ (fun _ _ _ h => h) rfl ?_ ⟨a2, q2, q3⟩ ?_; rotate_left; focus (intro W hS; obtain ⟨s1, s2, s3⟩ := hS; go_simp; rfl))
    refine ord_done ?_
    go_simp
    have heq := A1.out.er
    unfold ErrAt at heq
    have HP := Lib.hid (A1.out.msgNo (k := k) HF.out)
    clear a2 q2 q3 hge
    go_wp2
    go_ret
    exact HP.out
  have HT := Lib.hid (show okM z.box x = true by rw [HOK.out, decide_eq_true h6, HXN.out]; simp)
  have hge : ¬ (z.box.msgs.length : Int) ≥ 6 := by omega
  clear h6
  refine ord_start [(0, true), (1, true), (2, true), (3, true), (4, true), (5, true), (6, true), (7, true), (8, true), (9, true), (10, true), (11, true), (12, true), (13, true), (14, true)] (fun W => W.cell? ⟨w.heap.size, 2, none⟩ = some (.int .i64 x.uid) ∧ W.cell? ⟨b, k * 4 + 2, none⟩ = some (.int .i64 z.box.next) ∧ W.cell? ⟨b, k * 4 + 3, none⟩ = some (.slice z.pt z.box.msgs.length z.cp)) (by kernel_rfl) (by kernel_rfl) rfl (by kernel_rfl) ?_
  intro ops' hops
  simp only [List.map_cons, List.map_nil, pickOp_zero, pickOp_succ]
  iterate 6 (refine ord_flo ?_ (fun _ _ _ h => h) rfl ?_ ⟨a2, q2, q3⟩ ?_; rotate_left; focus (intro W hS; obtain ⟨s1, s2, s3⟩ := hS; go_simp; rfl))
  refine ord_flo (.bool false) (fun _ _ _ h => h) (by rw [hops.out]; kernel_rfl) (fun W hS => by go_simp; try exact hne) ⟨a2, q2, q3⟩ ?_
  iterate 1 (refine ord_flo ?_ (fun _ _ _ h => h) rfl ?_ ⟨a2, q2, q3⟩ ?_; rotate_left; focus (intro W hS; obtain ⟨s1, s2, s3⟩ := hS; go_simp; rfl))
  iterate 5 (refine ord_flo ?_ (fun _ _ _ h => h) (by rw [hops.out]; kernel_rfl) ?_ ⟨a2, q2, q3⟩ ?_; rotate_left; focus (intro W hS; obtain ⟨s1, s2, s3⟩ := hS; go_simp; rfl))
  refine ord_flo (.bool false) (fun _ _ _ h => h) (by rw [hops.out]; kernel_rfl) (fun W hS => by go_simp <;> omega) ⟨a2, q2, q3⟩ ?_
  iterate 1 (refine ord_flo ?_ (fun _ _ _ h => h) rfl ?_ ⟨a2, q2, q3⟩ ?_; rotate_left; focus (intro W hS; obtain ⟨s1, s2, s3⟩ := hS; go_simp; rfl))
  refine ord_done ?_
  go_simp
  go_wp2
  refine ordz_start [(0, true), (1, true), (2, true), (3, true), (4, true), (5, true), (6, true), (7, true), (8, true), (9, true), (10, true), (11, true), (12, false), (13, false), (14, true), (15, true), (16, false)] 16 (fun W => W.cell? ⟨b, k * 4 + 3, none⟩ = some (.slice z.pt z.box.msgs.length z.cp) ∧ W.cell? ⟨w.heap.size, 2, none⟩ = some (.int .i64 x.uid) ∧ W.cell? ⟨w.heap.size, 3, none⟩ = some (.int .i64 x.flags) ∧ W.cell? ⟨w.heap.size, 5, none⟩ = some (sv x.text)) (by kernel_rfl) (by kernel_rfl) rfl (by kernel_rfl) ?_
  intro ops' hops
  clear hops
  simp only [List.map_cons, List.map_nil, pickOp_zero, pickOp_succ]
  have A2 := Lib.hid A1.out.drew
  generalize X.drew.drew = D at *
  obtain ⟨a0, a1, m2, m3, a4, m5⟩ := A2.out.cells
  obtain ⟨_, _, _, c3⟩ := A2.out.box HZ.out
  have hi := msgs_in.1 (A2.out.own.ok z (List.mem_of_getElem? HZ.out))
  have hro := own_rebase (B := B) hi.1 (fun q hq => A2.out.own.low q (List.mem_flatMap.2 ⟨z, List.mem_of_getElem? HZ.out, by rw [hi.2, hq]; simp⟩))
  have HRO := Lib.hid hro
  have hDB := A2.out.size
  have hwD : w.heap.size < D.heap.size := (Array.getElem?_eq_some_iff.1 A2.out.blk).1
  have hbD := A2.out.own.row.lt b rfl
  have HFP := Lib.hid hi.2
  clear a0 a1 a2 a4 q2 q3 hi hro
  iterate 12 (refine ordz_flo ?_ (fun _ _ _ h => h) rfl ?_ ⟨c3, m2, m3, m5⟩ ?_; rotate_left; focus (intro W hS; obtain ⟨s1, s2, s3, s4⟩ := hS; go_simp; rfl))
  have hb1 := (Below.refl D.heap.size D).alloc (Nat.le_refl _) (.cells #[.int .i64 x.uid, .int .i64 x.flags, sv x.text] 87)
  have c3a := (hb1.cell (p := ⟨b, k * 4 + 3, none⟩) hbD.2).trans c3
  have m2a := (hb1.cell (p := ⟨w.heap.size, 2, none⟩) hwD).trans m2
  have m3a := (hb1.cell (p := ⟨w.heap.size, 3, none⟩) hwD).trans m3
  have m5a := (hb1.cell (p := ⟨w.heap.size, 5, none⟩) hwD).trans m5
  refine ordz_ev rfl ?_
  go_simp
  clear c3a m2a m3a m5a hb1
  refine ordz_ev rfl ?_
  refine wp_app1 Tryz.el_msg (.tmp 25) (.tmp 33) rfl D D (.slice z.pt z.box.msgs.length z.cp) z.box.msgs.length (z.box.msgs.flatMap msgc) rfl HRO.out (Below.refl _ _) hDB #[.int .i64 x.uid, .int .i64 x.flags, sv x.text] (.inr rfl) 1 1 rfl rfl (by simp [Value.oneCell']) (by omega) (by have := HM.out; omega) (by have := HM.out; omega) ?_
  intro gn cap w6 ho6 hb6 hg6 hor6 hlt6
  obtain ⟨hO6, c3n, f3⟩ := A2.out.own.more (m := ⟨x.uid, x.flags, x.text⟩) HZ.out hg6 ho6 hor6
  have hbn : z.val.ownBlock ≠ some w.heap.size := fun e => by
    have := HLT.out w.heap.size (List.mem_flatMap.2 ⟨z, List.mem_of_getElem? HZ.out, by rw [HFP.out, e]; simp⟩)
    omega
  have hA6 := (hg6.block w.heap.size hwD (fun e => hbn e.symm)).trans A2.out.blk
  have m2n := (Lib.cell_of_heap hA6 2).trans (show _ = some (.int .i64 x.uid) from rfl)
  have m3n := (Lib.cell_of_heap hA6 3).trans (show _ = some (.int .i64 x.flags) from rfl)
  have m5n := (Lib.cell_of_heap hA6 5).trans (show _ = some (sv x.text) from rfl)
  have HO6 := Lib.hid hO6
  have HG6 := Lib.hid (A2.out.b.trans ((GrownIn.of_row hg6).mono (fun q hq => fpsOf.msg HZ.out (by rw [HFP.out]; exact hq))))
  clear hO6 hb6 hg6 hor6 hlt6 ho6 hA6 c3 m2 m3 m5 hbn
  refine ⟨fun _ => ⟨c3n, m2n, m3n, m5n⟩, ?_⟩
  iterate 2 (refine ordz_flo ?_ (fun _ _ _ h => h) rfl ?_ ⟨c3n, m2n, m3n, m5n⟩ ?_; rotate_left; focus (intro W hS; obtain ⟨s1, s2, s3, s4⟩ := hS; go_simp; rfl))
  refine ordz_ev rfl ?_
  go_simp
  refine ordz_done ?_
  go_simp
  obtain ⟨Z, hZZ⟩ : ∃ Z, w6.setCell ⟨b, k * 4 + 3, none⟩ (.slice (some ⟨gn, 0, none⟩) (z.box.msgs.length + 1) cap) = Z := ⟨_, rfl⟩
  have hO7 := HO6.out
  rw [hZZ] at hO7
  have gZ := HG6.out.trans (GrownIn.set (W := w6) (g := b) (i := k * 4 + 3) (u := .slice (some ⟨gn, 0, none⟩) (z.box.msgs.length + 1) cap) fpsOf.own)
  rw [hZZ] at gZ
  have hz6 : (ps.set k (z.more ⟨x.uid, x.flags, x.text⟩ gn cap))[k]? = some (z.more ⟨x.uid, x.flags, x.text⟩ gn cap) := List.getElem?_set_self (List.getElem?_eq_some_iff.1 HZ.out).1
  have q2 : Z.cell? ⟨b, k * 4 + 2, none⟩ = some (.int .i64 z.box.next) := (hO7.cell hz6 (show 2 < 4 by omega)).1
  have f2 := (hO7.cell hz6 (show 2 < 4 by omega)).2
  have HF := Lib.hid (Own9.plain hO7 hz6 (j := 2) (u := .int .i64 (z.box.next + 1)) (z' := (z.more ⟨x.uid, x.flags, x.text⟩ gn cap).nextd (z.box.next + 1)) (by omega) rfl rfl rfl rfl)
  have HGF := Lib.hid (gZ.trans (GrownIn.set (W := Z) (g := b) (i := k * 4 + 2) (u := .int .i64 (z.box.next + 1)) fpsOf.own))
  clear hO7 gZ hz6 c3n m2n m3n m5n f3 hbD hwD
  go_wp2
  go_ret
  have hO8 := HF.out
  rw [List.set_set] at hO8
  exact ⟨_, rfl, HGF.out, .inl ⟨HT.out, rfl, _, hO8, by rw [HAF.out HXN.out.symm]; rfl⟩⟩

end Go.Proofs.YtbfgdbpfecffcaaGreatDoor

namespace Go.Proofs.YtbfgdbpfecffcaaGreatDoor
open Go.RowKit

set_option maxRecDepth 20000 in
set_option maxHeartbeats 6400000 in
theorem changeMsg_any (B b n c k : Nat) (ps : List BP) (z : BP) (x : ComD) (er : Addr) (w : World) (h : Own9 B w (.slice (some ⟨b, 0, none⟩) n c) ps) (he : ErrAt w er) (hB : B ≤ w.heap.size) (hg : 0 < B) (hz : ps[k]? = some z) (hsb : szLs z.box.lf ≤ 1048576) (hbb : LsBnd z.box.lf) (hu : in64 x.uid) (hk : x.kind = 5 ∨ x.kind = 6) :
    Calls Tryz.prog 144 #[.pointer (some ⟨b, k * 4, none⟩), .agg #[.int .i64 x.kind, .int .i64 x.validity, .int .i64 x.uid, .int .i64 x.flags, sv x.name, sv x.text]] w fun e w' => MsgPost B ps (.slice (some ⟨b, 0, none⟩) n c) k z x er w e w' := by
  have hok : okM z.box x = decide (0 ≤ bxPlace z.box x.uid) := by unfold okM; rw [if_neg (by omega)]
  have HOK := Lib.hid hok
  have HZ := Lib.hid hz
  have hml : z.box.msgs.length ≤ 1048576 := (msgs_small hsb).2.1
  have CP := Lib.hid (fun (X : World) (O : Own9 B X (.slice (some ⟨b, 0, none⟩) n c) ps) => implPlaceOf_c (G := fun _ => True) z.box (.slice z.pt z.box.msgs.length z.cp) x.uid X trivial (LfIn.rd _ _ _ (O.ok z (List.mem_of_getElem? hz))) hsb hbb hu)
  have H0 := Lib.hid (fun X hX => AtX.of (X := X) (x := x) h he hB hg hX)
  have HPL := Lib.hid (fun hp : 0 ≤ bxPlace z.box x.uid => place_at hp)
  have HAF := Lib.hid (show ∀ (a : Nat) (q : MsgD), bxPlace z.box x.uid = (a : Int) → z.box.msgs[a]? = some q → boxAfter z.box x = if x.kind = 5 then { z.box with msgs := z.box.msgs.set a { q with flags := x.flags } } else { z.box with msgs := z.box.msgs.eraseIdx a } from fun a q ha hq => by
    unfold boxAfter
    rw [if_neg (by omega), ha, Int.toNat_natCast, hq])
  clear hok hz h he hsb hbb hu
  go_enter Tryz.func144, Tryz.ntmps144
  go_wp2
  refine wp_named9 ?_
  intro X hX
  have H1 := Lib.hid (H0.out X hX)
  clear hX H0
  have A1 := Lib.hid H1.out.drew
  obtain ⟨a0, a1, a2, a3, a4, a5⟩ := A1.out.cells
  obtain ⟨q0, q1, q2, q3⟩ := A1.out.box HZ.out
  have D1 := Lib.hid (CP.out _ A1.out.own)
  clear a0 a1 a3 a4 a5
  refine ord_start [(0, true), (1, true), (2, true), (3, true), (4, true), (5, false), (6, true)] (fun W => W.cell? ⟨w.heap.size, 2, none⟩ = some (.int .i64 x.uid) ∧ W.cell? ⟨b, k * 4, none⟩ = some (sv z.box.name) ∧ W.cell? ⟨b, k * 4 + 1, none⟩ = some (.int .i64 z.box.validity) ∧ W.cell? ⟨b, k * 4 + 2, none⟩ = some (.int .i64 z.box.next) ∧ W.cell? ⟨b, k * 4 + 3, none⟩ = some (.slice z.pt z.box.msgs.length z.cp)) (by kernel_rfl) (by kernel_rfl) rfl (by kernel_rfl) ?_
  intro ops' hops
  clear hops
  simp only [List.map_cons, List.map_nil, pickOp_zero, pickOp_succ]
  iterate 5 (refine ord_flo ?_ (fun _ _ _ h => h) rfl ?_ ⟨a2, q0, q1, q2, q3⟩ ?_; rotate_left; focus (intro W hS; obtain ⟨s1, s2, s3, s4, s5⟩ := hS; go_simp; rfl))
  refine ord_ev rfl ?_
  go_simp
  refine D1.out.mono ?_
  rintro e w1 ⟨rfl, b1⟩
  have A2 := Lib.hid (A1.out.call b1)
  clear a2 q0 q1 q2 q3 b1 D1 A1 H1
  obtain ⟨a0, a1, a2, a3, a4, a5⟩ := A2.out.cells
  obtain ⟨q0, q1, q2, q3⟩ := A2.out.box HZ.out
  refine ⟨⟨a2, q0, q1, q2, q3⟩, ?_⟩
  iterate 1 (refine ord_flo ?_ (fun _ _ _ h => h) rfl ?_ ⟨a2, q0, q1, q2, q3⟩ ?_; rotate_left; focus (intro W hS; obtain ⟨s1, s2, s3, s4, s5⟩ := hS; go_simp; rfl))
  refine ord_done ?_
  go_simp
  clear a1 a2 a4 a5 q0 q1 q2
  by_cases hp : bxPlace z.box x.uid < 0
  case pos =>
    have HF := Lib.hid (show okM z.box x = false by rw [HOK.out, decide_eq_false (by omega)])
    have heq := A2.out.er
    unfold ErrAt at heq
    have HP := Lib.hid (A2.out.msgNo (k := k) HF.out)
    generalize bxPlace z.box x.uid = R at *
    clear a0 a3 q3
    go_wp2
    go_ret
    exact HP.out
  have HT := Lib.hid (show okM z.box x = true by rw [HOK.out, decide_eq_true (by omega)])
  obtain ⟨q, hq, _⟩ := HPL.out (by omega)
  obtain ⟨a, ha⟩ : ∃ a : Nat, bxPlace z.box x.uid = (a : Int) := ⟨(bxPlace z.box x.uid).toNat, by omega⟩
  rw [ha, Int.toNat_natCast] at hq
  have hal : a < z.box.msgs.length := (List.getElem?_eq_some_iff.1 hq).1
  have HQ := Lib.hid hq
  have HBA := Lib.hid (HAF.out a q ha hq)
  rw [ha]
  have hpn : ¬ (a : Int) < 0 := by omega
  clear hp ha hq HPL HAF
  have hi := msgs_in.1 (A2.out.own.ok z (List.mem_of_getElem? HZ.out))
  have hro := own_rebase (B := B) hi.1 (fun q hq => A2.out.own.low q (List.mem_flatMap.2 ⟨z, List.mem_of_getElem? HZ.out, by rw [hi.2, hq]; simp⟩))
  obtain ⟨g, hpt⟩ : ∃ g, z.pt = some ⟨g, 0, none⟩ := by
    rcases hro.2 with ⟨_, h0⟩ | ⟨g', cap, cur, h0, _⟩
    · omega
    · injection h0 with h0
      exact ⟨g', h0⟩
  have hfp : z.fp = [g] := by rw [hi.2]; show (Value.slice z.pt _ _).ownBlock.toList = _; rw [hpt]; rfl
  rw [show z.val = .slice (some ⟨g, 0, none⟩) z.box.msgs.length z.cp by unfold BP.val; rw [hpt]] at hro
  rw [hpt] at q3
  have HRO := Lib.hid hro
  have HPT := Lib.hid (And.intro hpt hfp)
  have hbD := A2.out.own.row.lt b rfl
  have hbB := hbD.1
  clear hi hro hpt hfp hbD
  rcases hk with hk5 | hk6
  · have t6 : (x.kind == 6) = false := by rw [hk5]; rfl
    have HB5 := Lib.hid (show boxAfter z.box x = { z.box with msgs := z.box.msgs.set a { q with flags := x.flags } } by rw [HBA.out, if_pos hk5])
    clear hk5 HBA
    go_wp2
    refine ordz_start [(0, true), (1, true), (2, true), (3, true), (4, true), (5, true), (6, true), (7, true), (8, true), (9, false)] 9 (fun W => W.cell? ⟨w.heap.size, 3, none⟩ = some (.int .i64 x.flags) ∧ W.cell? ⟨b, k * 4 + 3, none⟩ = some (.slice (some ⟨g, 0, none⟩) z.box.msgs.length z.cp)) (by kernel_rfl) (by kernel_rfl) rfl (by kernel_rfl) ?_
    intro ops' hops
    clear hops
    simp only [List.map_cons, List.map_nil, pickOp_zero, pickOp_succ]
    have A3 := Lib.hid A2.out.drew
    clear a0 a3 q3
    generalize w1.drew = D at *
    obtain ⟨_, _, _, a3, _, _⟩ := A3.out.cells
    obtain ⟨_, _, _, q3⟩ := A3.out.box HZ.out
    rw [HPT.out.1] at q3
    have hro3 : D.ownsRow B 87 3 (.slice (some ⟨g, 0, none⟩) z.box.msgs.length z.cp) z.box.msgs.length (z.box.msgs.flatMap msgc) := by
      have hi := msgs_in.1 (A3.out.own.ok z (List.mem_of_getElem? HZ.out))
      have := own_rebase (B := B) hi.1 (fun q hq => A3.out.own.low q (List.mem_flatMap.2 ⟨z, List.mem_of_getElem? HZ.out, by rw [hi.2, hq]; simp⟩))
      rwa [show z.val = .slice (some ⟨g, 0, none⟩) z.box.msgs.length z.cp by unfold BP.val; rw [HPT.out.1]] at this
    obtain ⟨e1, f1⟩ := msgs_cell hro3 HQ.out (show 1 < 3 by omega)
    have e1 : D.cell? ⟨g, a * 3 + 1, none⟩ = some (.int .i64 q.flags) := e1
    have hgB : B ≤ g := (hro3.lt g rfl).1
    have HF := Lib.hid (A3.out.own.flag (f := x.flags) HZ.out HQ.out HPT.out.1)
    have HG := Lib.hid (A3.out.b.trans (GrownIn.set (W := D) (g := g) (i := a * 3 + 1) (u := .int .i64 x.flags) (fpsOf.msg HZ.out (by rw [HPT.out.2]; simp))))
    clear hro3 A2
    iterate 7 (refine ordz_flo ?_ (fun _ _ _ h => h) rfl ?_ ⟨a3, q3⟩ ?_; rotate_left; focus (intro W hS; obtain ⟨s1, s2⟩ := hS; go_simp; rfl))
    refine ordz_flo (.pointer (some ⟨g, a * 3, none⟩)) (fun _ _ _ h => h) rfl ?_ ⟨a3, q3⟩ ?_
    · intro W hS
      go_simp
      try (intro h; omega)
    iterate 1 (refine ordz_flo ?_ (fun _ _ _ h => h) rfl ?_ ⟨a3, q3⟩ ?_; rotate_left; focus (intro W hS; obtain ⟨s1, s2⟩ := hS; go_simp; rfl))
    refine ordz_ev rfl ?_
    go_simp
    refine ordz_done ?_
    go_simp
    clear e1 f1 a3 q3
    go_wp2
    go_ret
    exact ⟨_, rfl, HG.out, .inl ⟨HT.out, rfl, _, HF.out, HB5.out.symm⟩⟩
  · have t6 : (x.kind == 6) = true := by rw [hk6]; rfl
    have HB6 := Lib.hid (show boxAfter z.box x = { z.box with msgs := z.box.msgs.eraseIdx a } by rw [HBA.out, if_neg (by omega)])
    have CD := Lib.hid (delMsg_any z.box.msgs B g z.box.msgs.length z.cp a w1 rfl hml hal HRO.out)
    clear hk6 HBA a3
    go_wp2_with fail
    refine CD.out.mono ?_
    rintro e w2 ⟨rfl, ho2, hg2⟩
    have hln : (z.box.msgs.eraseIdx a).length = z.box.msgs.length - 1 := List.length_eraseIdx_of_lt hal
    have hM := A2.out.own.msgs (z' := ⟨{ z.box with msgs := z.box.msgs.eraseIdx a }, some ⟨g, 0, none⟩, z.cp, [g]⟩) HZ.out (by rw [HPT.out.2]; exact GrownIn.of_row hg2) rfl (msgs_in.2 ⟨by show w2.ownsRow 0 _ 3 (.slice (some ⟨g, 0, none⟩) (z.box.msgs.eraseIdx a).length z.cp) (z.box.msgs.eraseIdx a).length _; rw [hln]; exact own_base ho2, rfl⟩) (by simp) (fun q hq => .inl (by rw [HPT.out.2]; exact hq))
    rw [show (BP.val ⟨{ z.box with msgs := z.box.msgs.eraseIdx a }, some ⟨g, 0, none⟩, z.cp, [g]⟩) = .slice (some ⟨g, 0, none⟩) (z.box.msgs.length - 1) z.cp by unfold BP.val; simp only [hln]] at hM
    obtain ⟨hO2, c3, f3⟩ := hM
    have HO2 := Lib.hid hO2
    have hgB : B ≤ g := (HRO.out.lt g rfl).1
    have HG := Lib.hid ((A2.out.b.trans ((GrownIn.of_row hg2).mono (fun q hq => fpsOf.msg HZ.out (by rw [HPT.out.2]; exact hq)))).trans (GrownIn.set (W := w2) (g := b) (i := k * 4 + 3) (u := .slice (some ⟨g, 0, none⟩) (z.box.msgs.length - 1) z.cp) fpsOf.own))
    have c3 : w2.cell? ⟨b, k * 4 + 3, none⟩ = some (.slice z.pt z.box.msgs.length z.cp) := c3
    clear hO2 ho2 hg2 CD a0 q3 A2 hln
    go_wp2
    go_ret
    exact ⟨_, rfl, HG.out, .inl ⟨HT.out, rfl, _, HO2.out, HB6.out.symm⟩⟩

end Go.Proofs.YtbfgdbpfecffcaaGreatDoor
