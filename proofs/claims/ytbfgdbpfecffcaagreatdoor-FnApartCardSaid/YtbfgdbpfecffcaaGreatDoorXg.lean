/-
  Xg: ComZb (what the claim needs of them).
-/
import Derived.Handy
import Derived.Deep.DeepCutAuto
import Derived.Test.YtbfgdbpfecffcaaGreatDoorRows
import Derived.WalkKit
import Derived.WalkSpells
import Derived.WalkLawsBesides
import Derived.Laws.IdiomStrings
import Derived.Lib.Hide
import Derived.Deep.AppendLies
import Derived.OrdersHeld
import Derived.Lib.ItoaNum
import Derived.Lib.ItoaMem
import Derived.Lib.AppendStr
import Derived.Lib.ItoaLen
import Derived.Lib.Strings
import Derived.Lib.Bytealg
import Derived.Lib.OthersKept
import Derived.Laws.RangeAny
import Derived.Laws.BitsAllLaws
import Derived.Laws.BitsLemmas
import Derived.IntWalk
import Derived.Lib.Join
import Derived.Deep.Strs
import Derived.Test.YtbfgdbpfecffcaaGreatDoorProg
import Derived.Laws.Tables
import Derived.Test.YtbfgdbpfecffcaaGreatDoorWb
import Derived.Test.YtbfgdbpfecffcaaGreatDoorWc
import Derived.Test.YtbfgdbpfecffcaaGreatDoorWd
import Derived.Test.YtbfgdbpfecffcaaGreatDoorWe
import Derived.Test.YtbfgdbpfecffcaaGreatDoorWf
import Derived.Test.YtbfgdbpfecffcaaGreatDoorWm
import Derived.Test.YtbfgdbpfecffcaaGreatDoorWo
import Derived.Test.YtbfgdbpfecffcaaGreatDoorWp
import Derived.Test.YtbfgdbpfecffcaaGreatDoorWr
import Derived.Test.YtbfgdbpfecffcaaGreatDoorWx
import Derived.Test.YtbfgdbpfecffcaaGreatDoorXa
import Derived.Test.YtbfgdbpfecffcaaGreatDoorXc
import Derived.Test.YtbfgdbpfecffcaaGreatDoorXd
import Derived.Test.YtbfgdbpfecffcaaGreatDoorXe

namespace Go.Proofs.YtbfgdbpfecffcaaGreatDoor
open Go.RowKit

/-- Right boxes are such as are drawn. -/
theorem right_q {l : List BoxD} (h : boxesB l = true) : l.length ≤ 5 ∧ ∀ x ∈ l, BoxQ 6 x := by
  obtain ⟨h1, h2, _, _⟩ := (boxes_iff l).1 h
  refine ⟨by omega, fun b hb => ?_⟩
  obtain ⟨n1, v1, x1, m1, _, m2⟩ := (box_iff b).1 (h2 b hb)
  refine ⟨?_, ⟨by omega, by omega⟩, ⟨by omega, by omega⟩, m1, fun m hm => ?_⟩
  · unfold nameB at n1
    simp only [Bool.and_eq_true, decide_eq_true_eq] at n1
    omega
  · obtain ⟨u1, f1, t1⟩ := m2 m hm
    unfold flB at f1
    simp only [Bool.and_eq_true, decide_eq_true_eq] at f1
    exact ⟨⟨by omega, by omega⟩, ⟨by omega, by omega⟩, t1⟩
theorem applied_q {l : List BoxD} (x : ComD) (h5 : l.length ≤ 5) (hs : ∀ x ∈ l, BoxQ 6 x) : (appliedL l x).length ≤ 5 ∧ ∀ y ∈ appliedL l x, BoxQ 6 y := by
  cases ha : appB l x with
  | false => rw [applied_no ha]; exact ⟨h5, hs⟩
  | true => rw [applied_yes ha]; exact right_q (done_right ha)
theorem coms_fine : ∀ {l : List ComD}, l.length ≤ 6 → (∀ x ∈ l, ComSm x) → szLf (commitsLf l) ≤ 1048576 ∧ LfBnd (commitsLf l) := by
  have key : ∀ {l : List ComD}, (∀ x ∈ l, ComSm x) → szLs (l.flatMap ComD.lf) ≤ 82 * l.length ∧ LsBnd (l.flatMap ComD.lf) := by
    intro l
    induction l with
    | nil => intro _; exact ⟨by simp [szLs], trivial⟩
    | cons x l ih =>
      intro h
      obtain ⟨h1, h2⟩ := ih (fun y hy => h y (List.mem_cons_of_mem _ hy))
      have hx := h x (List.mem_cons_self ..)
      rw [List.flatMap_cons]
      refine ⟨?_, LsBnd.append.2 ⟨hx.fine.2, h2⟩⟩
      rw [szLs_append, List.length_cons, ComD.sz]
      obtain ⟨_, _, _, _, n1, n2⟩ := hx
      omega
  intro l hl h
  obtain ⟨h1, h2⟩ := key h
  have h6 : szLf (commitsLf l) = l.length + szLs (l.flatMap ComD.lf) := rfl
  exact ⟨by omega, by omega, h2⟩

/-- A log that is being drawn: the first boxes, the boxes now, the log. -/
structure AllS (w : World) (g : Nat) (code : List UInt8) (l : List BoxD) (v : Value) (fp : List Nat) (l2 : List BoxD) (v2 : Value) (fp2 : List Nat) (lg : List ComD) (vg : Value) (fpg : List Nat) (W : World) : Prop where
  cur : Cur W g code
  first : LfIn W (boxsLf l) v fp
  now : LfIn W (boxsLf l2) v2 fp2
  log : LfIn W (commitsLf lg) vg fpg
  below : Below w.heap.size w W
  gl : w.heap.size ≤ g
  o1 : ∀ q ∈ fp, q ≠ g ∧ q ∉ fpg
  o2 : ∀ q ∈ fp2, q ≠ g ∧ q ∉ fpg
  o3 : ∀ q ∈ fpg, g < q
section
variable {w W W' : World} {g : Nat} {code : List UInt8} {l l2 l3 : List BoxD} {v v2 v3 vg : Value} {fp fp2 fp3 fpg : List Nat} {lg : List ComD}
theorem AllS.draw (h : AllS w g code l v fp l2 v2 fp2 lg vg fpg W) (hg : W.grownBy W' (some g)) (hc : Cur W' g code) : AllS w g code l v fp l2 v2 fp2 lg vg fpg W' where
  cur := hc
  first := LfIn.away h.first (GrownIn.of_row hg) (fun k hk hm => (h.o1 k hk).1 (by simpa using hm))
  now := LfIn.away h.now (GrownIn.of_row hg) (fun k hk hm => (h.o2 k hk).1 (by simpa using hm))
  log := LfIn.away h.log (GrownIn.of_row hg) (fun k hk hm => by have h1 := h.o3 k hk; have h2 : k = g := (by simpa using hm); omega)
  below := below_cur h.below hg h.below.size h.gl
  gl := h.gl
  o1 := h.o1
  o2 := h.o2
  o3 := h.o3
theorem AllS.under (h : AllS w g code l v fp l2 v2 fp2 lg vg fpg W) (hb : Below W.heap.size W W') : AllS w g code l v fp l2 v2 fp2 lg vg fpg W' := h.draw (grown_of_below hb) (h.cur.below hb)
theorem AllS.next (h : AllS w g code l v fp l2 v2 fp2 lg vg fpg W) (hz : LfIn W (boxsLf l3) v3 fp3) (ho : ∀ q ∈ fp3, q ≠ g ∧ q ∉ fpg) : AllS w g code l v fp l3 v3 fp3 lg vg fpg W :=
  ⟨h.cur, h.first, hz, h.log, h.below, h.gl, h.o1, ho, h.o3⟩
theorem AllS.snoc (h : AllS w g code l v fp l2 v2 fp2 lg vg fpg W) {x : ComD} {gn cap : Nat} (ho : W'.ownsRow 0 26 6 (.slice (some ⟨gn, 0, none⟩) (lg.length + 1) cap) (lg.length + 1) (lg.flatMap comc ++ [.int .i64 x.kind, .int .i64 x.validity, .int .i64 x.uid, .int .i64 x.flags, sv x.name, sv x.text]))
    (hg : W.grownBy W' vg.ownBlock) (hor : vg.ownBlock = some gn ∨ W.heap.size ≤ gn) : AllS w g code l v fp l2 v2 fp2 (lg ++ [x]) (.slice (some ⟨gn, 0, none⟩) (lg ++ [x]).length cap) [gn] W' := by
  obtain ⟨_, hf⟩ := coms_in.1 h.log
  have hin : ∀ k, vg.ownBlock = some k → k ∈ fpg := fun k hk => by rw [hf, hk]; simp
  have h3 : g < gn := by
    rcases hor with h1 | h1
    · exact h.o3 gn (hin gn h1)
    · exact Nat.lt_of_lt_of_le h.cur.lt h1
  have hof : ∀ {L : List BoxD} {u : Value} {f : List Nat}, LfIn W (boxsLf L) u f → (∀ q ∈ f, q ≠ g ∧ q ∉ fpg) → ∀ q ∈ f, q ≠ g ∧ q ∉ [gn] := fun {L u f} hL hq q hm => ⟨(hq q hm).1, fun hm2 => by
    obtain rfl : q = gn := by simpa using hm2
    rcases hor with h1 | h1
    · exact (hq _ hm).2 (hin _ h1)
    · have := LfIn.lt _ _ _ hL _ hm; omega⟩
  refine ⟨h.cur.grown hg (fun k hk => h.o3 k (hin k hk)), LfIn.away h.first (GrownIn.of_row hg) (fun k hk hm => (h.o1 k hk).2 (hf ▸ hm)), LfIn.away h.now (GrownIn.of_row hg) (fun k hk hm => (h.o2 k hk).2 (hf ▸ hm)), ?_,
    h.below.grown hg h.below.size (fun k hk => by have h1 := h.o3 k (hin k hk); have h2 := h.gl; omega), h.gl, hof h.first h.o1, hof h.now h.o2, fun q hq => by have h4 : q = gn := (by simpa using hq); omega⟩
  refine coms_in.2 ⟨?_, rfl⟩
  rw [List.flatMap_append, List.length_append]
  simpa [comc] using ho
end
def DrawAllPost (w : World) (e : Ending) (w' : World) : Prop := ∃ (l : List BoxD) (v : Value) (lg : List ComD) (vg : Value), e = .returned (.tuple #[v, vg]) ∧ (l.length ≤ 5 ∧ ∀ x ∈ l, BoxQ 6 x) ∧ (LfRd w' (boxsLf l) v ∧ CapLe v) ∧ (lg.length ≤ 6 ∧ ∀ x ∈ lg, ComSm x) ∧ (LfRd w' (commitsLf lg) vg ∧ CapLe vg) ∧ Below w.heap.size w w'

set_option maxRecDepth 20000 in
set_option maxHeartbeats 6400000 in
theorem DrawAppliedAll_any (v : Value) (code : List UInt8) (w : World) (hr : Rd1 bv w v code) (hl : code.length ≤ 1048576) :
    Calls Tryz.prog 27 #[v] w fun e w' => DrawAllPost w e w' := by
  have HN := Lib.hid (l1New_any v code w hr hl)
  clear hr hl
  go_enter Tryz.func27, Tryz.ntmps27
  go_wp2_with fail
  refine HN.out.mono ?_
  rintro e w1 ⟨g, rfl, hg, hc1, hb1⟩
  have HC := Lib.hid (And.intro hg (And.intro hc1 hb1))
  clear hg hc1 hb1 HN
  go_wp2_with fail
  refine (l9Right_any g code _ HC.out.2.1).mono ?_
  rintro e w2 ⟨l, vv, fp, rfl, hl4, hsm, hs⟩
  obtain ⟨p, c, rfl⟩ := hs.slice
  have HS2 := Lib.hid hs
  have HSM := Lib.hid (show l.length ≤ 5 ∧ ∀ x ∈ l, BoxQ 6 x from ⟨by omega, fun x hx => (hsm x hx).mono (q' := 6) (by omega)⟩)
  clear hs hsm hl4
  have HA := Lib.hid (show AllS w g code l (.slice p l.length c) fp l (.slice p l.length c) fp [] (.slice (some ⟨w2.heap.size, 0, none⟩) 0 0) [w2.heap.size] (w2.alloc (.cells #[] 26)) by
    have hz := HC.out.2.2.size
    have hgl := HC.out.1
    have hs := HS2.out
    have hb2 := below_cur HC.out.2.2 hs.grown hz hgl
    have hbA := (Below.refl w2.heap.size w2).alloc (Nat.le_refl _) (.cells #[] 26)
    have hin := hs.tree.is.below hbA
    have ho : ∀ q ∈ fp, q ≠ g ∧ q ∉ [w2.heap.size] := fun q hq => ⟨fun e => by have h1 := hs.tree.low q hq; have h2 := hs.og; omega, fun hm => by have h1 := hs.tree.lt q hq; have h2 : q = w2.heap.size := (by simpa using hm); omega⟩
    exact ⟨hs.cur.below hbA, hin, hin, coms_in.2 ⟨own_base (World.ownsRow_made w2 #[] 0 (Nat.le_refl _) (by unfold maxLen; omega) (by simp)), rfl⟩, hb2.alloc hb2.size _, hgl, ho, ho, fun q hq => by have h1 := hs.cur.lt; have h2 : q = w2.heap.size := (by simpa using hq); omega⟩)
  clear HC HS2
  go_wp2_with fail
  refine (l1Below_any g code _ 6 (by omega) _ HA.out.cur (by omega) (by omega)).mono ?_
  rintro e w3 ⟨n, rfl, hn, hc3, hg3⟩
  have HA3 := Lib.hid (HA.out.draw hg3 hc3)
  have HN := Lib.hid hn
  clear hc3 hg3 HA hn
  go_wp2_with fail
  go_loopw [6, 7, 9] (fun v2 vg i wr => ∃ (k : Nat) (l2 : List BoxD) (lg : List ComD) (fp2 fpg : List Nat), k ≤ n ∧ i = .int .i64 k ∧ lg.length ≤ k ∧ (l2.length ≤ 5 ∧ ∀ x ∈ l2, BoxQ 6 x) ∧ (∀ x ∈ lg, ComSm x) ∧ AllS w g code l (.slice p l.length c) fp l2 v2 fp2 lg vg fpg wr) (fun _ _ i _ => n - (intOf i).toNat)
  case atStart => exact ⟨0, l, [], fp, _, by omega, rfl, by simp, HSM.out, by simp, HA3.out⟩
  case round =>
    obtain ⟨k, l2, lg, fp2, fpg, hk, rfl, hlg, hsm2, hsml, hs⟩ := hrel
    have hn6 := HN.out
    obtain ⟨p2, c2, rfl⟩ := LfIn.slice hs.now
    obtain ⟨pg, cg, rfl⟩ := LfIn.slice hs.log
    have HS := Lib.hid hs
    have HLG := Lib.hid (And.intro hlg hsml)
    have HSM2 := Lib.hid hsm2
    clear hs hlg hsml hsm2 HA3
    by_cases hlt : k < n
    case neg =>
      have HF := Lib.hid (show DrawAllPost w (.returned (.tuple #[.slice p l.length c, .slice pg lg.length cg])) wr from ⟨l, _, lg, _, rfl, HSM.out, ⟨LfIn.rd _ _ _ HS.out.first, CapLe.of_in HS.out.first⟩, ⟨by have := HLG.out.1; have := HN.out; omega, HLG.out.2⟩, ⟨LfIn.rd _ _ _ HS.out.log, CapLe.of_in HS.out.log⟩, HS.out.below⟩)
      clear HS HLG HSM2
      go_wp2
      go_ret2
      exact HF.out
    go_wp2_with fail
    refine (l10Commit_any g code l2 _ fp2 _ HS.out.cur HS.out.now (fun hm => (HS.out.o2 g hm).1 rfl) HSM2.out.1 HSM2.out.2).mono ?_
    rintro e w4 ⟨x, rfl, hx, hc4, hg4⟩
    have HX := Lib.hid hx
    have HS4 := Lib.hid (HS.out.draw hg4 hc4)
    clear hc4 hg4 HS hx
    go_upto_region 10 with fail
    refine wp_named9 ?_
    intro X hX
    have HS5 := Lib.hid (show AllS w g code l (.slice p l.length c) fp l2 (.slice p2 l2.length c2) fp2 lg (.slice pg lg.length cg) fpg X by rw [hX]; exact HS4.out.under ((Below.refl _ _).alloc (Nat.le_refl _) _))
    have HB5 := Lib.hid (show X.heap[w4.heap.size]? = some (.cells #[.int .i64 x.kind, .int .i64 x.validity, .int .i64 x.uid, .int .i64 x.flags, sv x.name, sv x.text] 26 (0, 0)) by rw [hX]; exact heap_alloc_new w4 _)
    have hmb : w4.heap.size < X.heap.size := (Array.getElem?_eq_some_iff.1 HB5.out).1
    have HGM := Lib.hid (show w4.heap.size ≠ g from fun e => by have := HS4.out.cur.lt; omega)
    clear hX HS4
    generalize w4.heap.size = m at *
    have HF5 := boxes_fine HSM2.out.1 HSM2.out.2
    have CA := Lib.hid (specApplied_c l2 _ x X trivial (LfIn.rd _ _ _ HS5.out.now) (CapLe.of_in HS5.out.now) HF5.1 HF5.2 HX.out.fine.1 HX.out.fine.2)
    have HQ := Lib.hid (applied_q x HSM2.out.1 HSM2.out.2)
    obtain ⟨a0, a1, a2, a3, a4, a5⟩ : X.cell? ⟨m, 0, none⟩ = some (.int .i64 x.kind) ∧ X.cell? ⟨m, 1, none⟩ = some (.int .i64 x.validity) ∧ X.cell? ⟨m, 2, none⟩ = some (.int .i64 x.uid) ∧ X.cell? ⟨m, 3, none⟩ = some (.int .i64 x.flags) ∧ X.cell? ⟨m, 4, none⟩ = some (sv x.name) ∧ X.cell? ⟨m, 5, none⟩ = some (sv x.text) := ⟨(Lib.cell_of_heap HB5.out 0).trans rfl, (Lib.cell_of_heap HB5.out 1).trans rfl, (Lib.cell_of_heap HB5.out 2).trans rfl, (Lib.cell_of_heap HB5.out 3).trans rfl, (Lib.cell_of_heap HB5.out 4).trans rfl, (Lib.cell_of_heap HB5.out 5).trans rfl⟩
    clear HF5
    generalize appB l2 x = t at *
    go_wp2_with fail
    refine CA.out.mono ?_
    rintro e w5 ⟨z0, f0, rfl, hz, _, hlo, hb5⟩
    obtain ⟨pz, cz, rfl⟩ := LfIn.slice hz
    have HS6 := Lib.hid ((HS5.out.under hb5).next hz (fun q hq => ⟨fun e => by have h1 := hlo q hq; have h2 := HS5.out.cur.lt; omega, fun hm => by have h1 := hlo q hq; have h2 := LfIn.lt _ _ _ HS5.out.log q hm; omega⟩))
    have HS6o := Lib.hid (HS5.out.under hb5)
    have HB6 := Lib.hid ((hb5.block m hmb).trans HB5.out)
    clear hz hlo hb5 a0 a1 a2 a3 a4 a5 hmb HS5 HB5 CA
    cases t with
    | true =>
      have HZ := Lib.hid HS6.out
      obtain ⟨hrow, _⟩ := coms_in.1 HS6.out.log
      obtain ⟨a0, a1, a2, a3, a4, a5⟩ : w5.cell? ⟨m, 0, none⟩ = some (.int .i64 x.kind) ∧ w5.cell? ⟨m, 1, none⟩ = some (.int .i64 x.validity) ∧ w5.cell? ⟨m, 2, none⟩ = some (.int .i64 x.uid) ∧ w5.cell? ⟨m, 3, none⟩ = some (.int .i64 x.flags) ∧ w5.cell? ⟨m, 4, none⟩ = some (sv x.name) ∧ w5.cell? ⟨m, 5, none⟩ = some (sv x.text) := ⟨(Lib.cell_of_heap HB6.out 0).trans rfl, (Lib.cell_of_heap HB6.out 1).trans rfl, (Lib.cell_of_heap HB6.out 2).trans rfl, (Lib.cell_of_heap HB6.out 3).trans rfl, (Lib.cell_of_heap HB6.out 4).trans rfl, (Lib.cell_of_heap HB6.out 5).trans rfl⟩
      have HROW := Lib.hid hrow
      clear HS6 HB6 hrow
      go_wp2_with (at_builtin; refine wpList_app1 Tryz.el_commit rfl (.tmp 40) (.tmp 42) rfl w5 w5 (.slice pg lg.length cg) lg.length (lg.flatMap comc) rfl HROW.out (Below.refl _ _) (Nat.zero_le _) #[.int .i64 x.kind, .int .i64 x.validity, .int .i64 x.uid, .int .i64 x.flags, sv x.name, sv x.text] (.inr rfl) 1 1 rfl rfl (by simp [Value.oneCell', go_sem]) (by omega) (by have := HLG.out.1; have := HN.out; omega) (by have := HLG.out.1; have := HN.out; omega) ?_)
      intro gn cap w8 ho8 _ hg8 hor8 _
      have HS9 := Lib.hid (HZ.out.snoc ho8 hg8 hor8)
      have HQL := Lib.hid (show (lg ++ [x]).length ≤ k + 1 by have := HLG.out.1; simp; omega)
      have HQM := Lib.hid (show ∀ y ∈ lg ++ [x], ComSm y from fun y hy => by
        rcases List.mem_append.1 hy with hy | hy
        · exact HLG.out.2 y hy
        · rw [List.mem_singleton.1 hy]; exact HX.out)
      clear ho8 hg8 hor8 HZ HROW a0 a1 a2 a3 a4 a5 HX
      have hll : lg.length + 1 = (lg ++ [x]).length := by simp
      rw [hll]
      clear hll
      generalize lg ++ [x] = lg2 at *
      clear HLG
      go_wp2
      go_roundw
      case rel => exact ⟨k + 1, _, lg2, f0, [gn], by omega, by go_num, HQL.out, HQ.out, HQM.out, HS9.out⟩
      case measure => simp [intOf]; omega
    | false =>
      go_wp2_with fail
      refine (l1Once_any g code _ 6 (by omega) _ HS6.out.cur (by omega) (by omega)).mono ?_
      rintro e w7 ⟨b, rfl, hc7, hg7⟩
      have HS7 := Lib.hid (HS6.out.draw hg7 hc7)
      have HS7o := Lib.hid (HS6o.out.draw hg7 hc7)
      have HB7 := Lib.hid ((hg7.block m (Array.getElem?_eq_some_iff.1 HB6.out).1 (fun e => by injection e with e; exact HGM.out e)).trans HB6.out)
      clear hc7 hg7 HS6 HB6 HS6o
      cases b with
      | false =>
        have HQL := Lib.hid (show lg.length ≤ k + 1 by have := HLG.out.1; omega)
        clear HX HS7
        go_wp2
        go_roundw
        case rel => exact ⟨k + 1, l2, lg, fp2, fpg, by omega, by go_num, HQL.out, HSM2.out, HLG.out.2, HS7o.out⟩
        case measure => simp [intOf]; omega
      | true =>
        have HZ := Lib.hid HS7.out
        obtain ⟨hrow, _⟩ := coms_in.1 HS7.out.log
        obtain ⟨a0, a1, a2, a3, a4, a5⟩ : w7.cell? ⟨m, 0, none⟩ = some (.int .i64 x.kind) ∧ w7.cell? ⟨m, 1, none⟩ = some (.int .i64 x.validity) ∧ w7.cell? ⟨m, 2, none⟩ = some (.int .i64 x.uid) ∧ w7.cell? ⟨m, 3, none⟩ = some (.int .i64 x.flags) ∧ w7.cell? ⟨m, 4, none⟩ = some (sv x.name) ∧ w7.cell? ⟨m, 5, none⟩ = some (sv x.text) := ⟨(Lib.cell_of_heap HB7.out 0).trans rfl, (Lib.cell_of_heap HB7.out 1).trans rfl, (Lib.cell_of_heap HB7.out 2).trans rfl, (Lib.cell_of_heap HB7.out 3).trans rfl, (Lib.cell_of_heap HB7.out 4).trans rfl, (Lib.cell_of_heap HB7.out 5).trans rfl⟩
        have HROW := Lib.hid hrow
        clear HS7 HB7 hrow
        go_wp2_with (at_builtin; refine wpList_app1 Tryz.el_commit rfl (.tmp 40) (.tmp 42) rfl w7 w7 (.slice pg lg.length cg) lg.length (lg.flatMap comc) rfl HROW.out (Below.refl _ _) (Nat.zero_le _) #[.int .i64 x.kind, .int .i64 x.validity, .int .i64 x.uid, .int .i64 x.flags, sv x.name, sv x.text] (.inr rfl) 1 1 rfl rfl (by simp [Value.oneCell', go_sem]) (by omega) (by have := HLG.out.1; have := HN.out; omega) (by have := HLG.out.1; have := HN.out; omega) ?_)
        intro gn cap w8 ho8 _ hg8 hor8 _
        have HS9 := Lib.hid (HZ.out.snoc ho8 hg8 hor8)
        have HQL := Lib.hid (show (lg ++ [x]).length ≤ k + 1 by have := HLG.out.1; simp; omega)
        have HQM := Lib.hid (show ∀ y ∈ lg ++ [x], ComSm y from fun y hy => by
          rcases List.mem_append.1 hy with hy | hy
          · exact HLG.out.2 y hy
          · rw [List.mem_singleton.1 hy]; exact HX.out)
        clear ho8 hg8 hor8 HZ HROW a0 a1 a2 a3 a4 a5 HX
        have hll : lg.length + 1 = (lg ++ [x]).length := by simp
        rw [hll]
        clear hll
        generalize lg ++ [x] = lg2 at *
        clear HLG
        go_wp2
        go_roundw
        case rel => exact ⟨k + 1, _, lg2, f0, [gn], by omega, by go_num, HQL.out, HQ.out, HQM.out, HS9.out⟩
        case measure => simp [intOf]; omega

end Go.Proofs.YtbfgdbpfecffcaaGreatDoor
