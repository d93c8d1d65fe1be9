/-
  Te: LawBoxesAt LawBoxAt LawStoreOk LawStoreNew StoG (what the claim needs of them).
-/
import Derived.Deep.DeepCutAuto
import Derived.Handy
import Derived.Test.YtbfgdbpfecffcaaGreatDoorRows
import Derived.WalkKit
import Derived.WalkSpells
import Derived.WalkLawsBesides
import Derived.Laws.IdiomStrings
import Derived.Lib.Hide
import Derived.Deep.AppendLies
import Derived.OrdersHeld
import Derived.Lib.ItoaNum
import Derived.Lib.ItoaMem
import Derived.Lib.AppendStr
import Derived.Lib.ItoaLen
import Derived.Lib.Strings
import Derived.Lib.Bytealg
import Derived.Lib.OthersKept
import Derived.Laws.RangeAny
import Derived.Laws.BitsAllLaws
import Derived.Laws.BitsLemmas
import Derived.IntWalk
import Derived.Lib.Join
import Derived.Deep.Strs
import Derived.Test.YtbfgdbpfecffcaaGreatDoorProg
import Derived.Laws.Tables
import Derived.Test.YtbfgdbpfecffcaaGreatDoorSb
import Derived.Test.YtbfgdbpfecffcaaGreatDoorSc
import Derived.Test.YtbfgdbpfecffcaaGreatDoorSd
import Derived.Test.YtbfgdbpfecffcaaGreatDoorSe
import Derived.Test.YtbfgdbpfecffcaaGreatDoorSf
import Derived.Test.YtbfgdbpfecffcaaGreatDoorSm
import Derived.Test.YtbfgdbpfecffcaaGreatDoorSo
import Derived.Test.YtbfgdbpfecffcaaGreatDoorSq
import Derived.Test.YtbfgdbpfecffcaaGreatDoorSr
import Derived.Test.YtbfgdbpfecffcaaGreatDoorTb
import Derived.Test.YtbfgdbpfecffcaaGreatDoorTc
import Derived.Test.YtbfgdbpfecffcaaGreatDoorTd

namespace Go.Proofs.YtbfgdbpfecffcaaGreatDoor
open Go.RowKit

def CtrBoxesAt (f : FuncId) (G : World → Prop) : Prop := ∀ (x_S : StoD) (r_S_0 : Value) (r_S_1 : Value) (n_I : Int) (W : World), G W → LfRd W (boxsLf x_S.boxes) r_S_0 → CapLe r_S_0 → LfRd W (commitsLf x_S.log) r_S_1 → CapLe r_S_1 → szLs x_S.lf ≤ 1048576 → LsBnd x_S.lf → in64 n_I → 
  Calls Tryz.prog f #[.agg #[r_S_0, r_S_1, .int .i64 x_S.given], .int .i64 n_I] W fun e w' => ∃ z0 f0, e = .returned (z0) ∧ LfIn w' (boxsLf (atL x_S.log n_I)) z0 f0 ∧ f0.Nodup ∧ (∀ q ∈ f0, W.heap.size ≤ q) ∧ Below W.heap.size W w'

end Go.Proofs.YtbfgdbpfecffcaaGreatDoor

namespace Go.Proofs.YtbfgdbpfecffcaaGreatDoor
open Go.RowKit

def CtrStoreOk (f : FuncId) (G : World → Prop) : Prop := ∀ (x_S : StoD) (r_S_0 : Value) (r_S_1 : Value) (W : World), G W → LfRd W (boxsLf x_S.boxes) r_S_0 → CapLe r_S_0 → LfRd W (commitsLf x_S.log) r_S_1 → CapLe r_S_1 → szLs x_S.lf ≤ 1048576 → LsBnd x_S.lf → 
  Calls Tryz.prog f #[.agg #[r_S_0, r_S_1, .int .i64 x_S.given]] W fun e w' => e = .returned (.bool (storeB x_S)) ∧ Below W.heap.size W w'

end Go.Proofs.YtbfgdbpfecffcaaGreatDoor

namespace Go.Proofs.YtbfgdbpfecffcaaGreatDoor
open Go.RowKit

def CtrStoreNew (f : FuncId) (G : World → Prop) : Prop := ∀  (W : World), G W → 
  Calls Tryz.prog f #[] W fun e w' => ∃ z0_0 f0_0, ∃ z0_1 f0_1, e = .returned (.agg #[z0_0, z0_1, .int .i64 (newD).given]) ∧ LfIn w' (boxsLf (newD).boxes) z0_0 f0_0 ∧ LfIn w' (commitsLf (newD).log) z0_1 f0_1 ∧ (f0_0 ++ f0_1).Nodup ∧ (∀ q ∈ f0_0 ++ f0_1, W.heap.size ≤ q) ∧ Below W.heap.size W w'

end Go.Proofs.YtbfgdbpfecffcaaGreatDoor

namespace Go.Proofs.YtbfgdbpfecffcaaGreatDoor
open Go.RowKit

theorem take_small {lg : List ComD} (k : Nat) (hs : szLf (commitsLf lg) ≤ 1048576) (hbd : LfBnd (commitsLf lg)) : szLf (commitsLf (lg.take k)) ≤ 1048576 ∧ LfBnd (commitsLf (lg.take k)) := by
  have h1 : szLf (commitsLf lg) = lg.length + szLs (lg.flatMap ComD.lf) := rfl
  have h2 : szLf (commitsLf (lg.take k)) = (lg.take k).length + szLs ((lg.take k).flatMap ComD.lf) := rfl
  have h3 : szLs (lg.flatMap ComD.lf) = szLs ((lg.take k).flatMap ComD.lf) + szLs ((lg.drop k).flatMap ComD.lf) := by
    rw [← szLs_append, ← List.flatMap_append, List.take_append_drop]
  have h4 : LsBnd ((lg.take k).flatMap ComD.lf ++ (lg.drop k).flatMap ComD.lf) := by rw [← List.flatMap_append, List.take_append_drop]; exact hbd.2
  refine ⟨by rw [List.length_take] at h2; omega, ⟨by have := hbd.1; rw [List.length_take]; omega, (LsBnd.append.1 h4).1⟩⟩
theorem boxs_nil (W : World) : LfRd W (boxsLf []) (.slice none 0 0) := ⟨rfl, none, 0, rfl, .inl rfl⟩
theorem cap_nil : CapLe (.slice none 0 0) := fun p n c h => by injection h; omega
theorem cut_at (lg : List ComD) (i : Int) : ∃ k : Nat, k ≤ lg.length ∧ maxI 0 (minI i lg.length) = (k : Int) ∧ lg.take i.toNat = lg.take k := by
  refine ⟨min i.toNat lg.length, by omega, ?_, ?_⟩
  · unfold maxI minI
    split <;> split <;> omega
  · rcases Nat.le_total i.toNat lg.length with h | h
    · rw [Nat.min_eq_left h]
    · rw [Nat.min_eq_right h, List.take_of_length_le h, List.take_length]
theorem cut_im (lg : List ComD) (i : Int) : ∃ k : Nat, (min (max i 0) (lg.length : Int)).toNat = k ∧ k ≤ lg.length ∧ lg.take i.toNat = lg.take k := by
  refine ⟨_, rfl, by omega, ?_⟩
  rcases Nat.le_total i.toNat lg.length with h | h
  · rw [show (min (max i 0) (lg.length : Int)).toNat = i.toNat by omega]
  · rw [show (min (max i 0) (lg.length : Int)).toNat = lg.length by omega, List.take_of_length_le h, List.take_length]
/-- One box of a tree. -/
theorem box_of {lo : Nat} {W : World} {l : List BoxD} {p : Option Addr} {c : Nat} {f0 : List Nat} {k : Nat} {y : BoxD} (ht : Tree W lo (boxsLf l) (.slice p l.length c) f0) (hy : l[k]? = some y) :
    ∃ b q d f, p = some ⟨b, 0, none⟩ ∧ W.cell? ⟨b, k * 4, none⟩ = some (sv y.name) ∧ W.cell? ⟨b, k * 4 + 1, none⟩ = some (.int .i64 y.validity) ∧ W.cell? ⟨b, k * 4 + 2, none⟩ = some (.int .i64 y.next) ∧ W.cell? ⟨b, k * 4 + 3, none⟩ = some (.slice q y.msgs.length d) ∧ LfIn W (msgsLf y.msgs) (.slice q y.msgs.length d) f ∧ f.Nodup ∧ ∀ q ∈ f, lo ≤ q := by
  obtain ⟨ps, rfl, hO⟩ := tree_own9 ht
  rw [List.getElem?_map] at hy
  obtain ⟨z, hz, rfl⟩ := Option.map_eq_some_iff.1 hy
  rw [List.length_map] at hO
  obtain ⟨b, rfl⟩ : ∃ b, p = some ⟨b, 0, none⟩ := by
    rcases hO.row.2 with ⟨_, h0⟩ | ⟨g', cap, cur, h0, _⟩
    · have := (List.getElem?_eq_some_iff.1 hz).1; omega
    · injection h0 with h0
      exact ⟨g', h0⟩
  have hmz := List.mem_of_getElem? hz
  refine ⟨b, z.pt, z.cp, z.fp, rfl, (hO.cell hz (show 0 < 4 by omega)).1, (hO.cell hz (show 1 < 4 by omega)).1, (hO.cell hz (show 2 < 4 by omega)).1, (hO.cell hz (show 3 < 4 by omega)).1, hO.ok z hmz, ?_, fun q hq => hO.low q (List.mem_flatMap.2 ⟨z, hmz, hq⟩)⟩
  have hi := msgs_in.1 (hO.ok z hmz)
  rw [hi.2]
  cases (Value.ownBlock _) <;> simp
theorem boxAt_no {x : StoD} {v i : Int} (h : bxWith (atL x.log i) v < 0) : boxAtD x v i = noBox ∧ boxAtB x v i = false := ⟨by unfold boxAtD; rw [if_pos h], by unfold boxAtB; rw [decide_eq_true h]; rfl⟩
theorem boxAt_yes {x : StoD} {v i : Int} (h : ¬ bxWith (atL x.log i) v < 0) : ∃ y, (atL x.log i)[whereB (atL x.log i) v]? = some y ∧ boxAtD x v i = y ∧ boxAtB x v i = true := by
  obtain ⟨y, hy, _⟩ := with_at h
  exact ⟨y, hy, by unfold boxAtD; rw [if_neg h, hy]; rfl, by unfold boxAtB; rw [decide_eq_false h]; rfl⟩
theorem boxAt_small (x : StoD) (v i : Int) : szLs (boxAtD x v i).lf ≤ 1048576 := by
  by_cases h : bxWith (atL x.log i) v < 0
  · rw [(boxAt_no h).1]; decide
  · obtain ⟨y, hy, hd, _⟩ := boxAt_yes h
    rw [hd]
    have h1 := szLs_mem BoxD.lf (List.mem_of_getElem? hy)
    have h2 : szLf (boxsLf (atL x.log i)) = (atL x.log i).length + szLs ((atL x.log i).flatMap BoxD.lf) := rfl
    have := (right_small (at_right x.log i)).1
    omega

set_option maxRecDepth 20000 in
set_option maxHeartbeats 3200000 in
theorem specBoxesAt_c : CtrBoxesAt 35 (fun _ => True) := by
  intro x r0 r1 i w hG hr0 _ hr1 hcap hs hbd hi
  obtain ⟨_, ⟨hs1, hbd1⟩, _⟩ := sto_small hs hbd
  obtain ⟨p0, c0, rfl⟩ := LfRd.slice hr0
  obtain ⟨p1, c1, rfl⟩ := LfRd.slice hr1
  have hc1 : x.log.length ≤ c1 := hcap _ _ _ rfl
  obtain ⟨k, hk, hkv, htk⟩ := cut_at x.log i
  have hrk := rd_take ComD.len hr1 hk
  obtain ⟨hsk, hbk⟩ := take_small k hs1 hbd1
  have hlen : (x.log.take k).length = k := by rw [List.length_take, Nat.min_eq_left hk]
  have hln : x.log.length ≤ 1048576 := by have h2 : szLf (commitsLf x.log) = x.log.length + szLs (x.log.flatMap ComD.lf) := rfl; omega
  have hAT : atL x.log i = (allL [] (x.log.take k)).1 := by unfold atL; rw [htk]
  have CA := Lib.hid (fun W (g : Below w.heap.size w W) => specAppliedAll_c [] (.slice none 0 0) (x.log.take k) (.slice p1 k c1) W trivial (boxs_nil W) cap_nil (by decide) ⟨by decide, trivial⟩ (LfRd.below g _ _ hrk) (fun p n c h => by injection h with _ h1 h2; omega) hsk hbk)
  have HAT := Lib.hid hAT
  have hb1 : Below w.heap.size w (w.alloc (.cells #[.slice p0 x.boxes.length c0, .slice p1 x.log.length c1, .int .i64 x.given] 46)) := (Below.refl _ _).alloc (Nat.le_refl _) _
  have n1 := heap_alloc_new w (.cells #[.slice p0 x.boxes.length c0, .slice p1 x.log.length c1, .int .i64 x.given] 46)
  have C1 := Lib.hid (fun W => l1Min_any i x.log.length W)
  have C2 := Lib.hid (fun W => l1Max_any 0 (minI i x.log.length) W)
  rw [hkv] at C2
  generalize minI i x.log.length = m1 at *
  go_enter Tryz.func35, Tryz.ntmps35
  go_wp2
  refine wp_named1 ?_
  intro X hX
  rw [← hX] at hb1 n1
  have n1 : X.drew.heap[w.heap.size]? = _ := n1
  have HB := Lib.hid (hb1.trans ((Below.refl X.heap.size X).drew.mono hb1.size))
  obtain ⟨⟨-, a1, -⟩, -⟩ := blk_3c n1
  have HN := Lib.hid n1
  clear hX hb1 n1 hr0 hr1 hcap hs hbd hi hs1 hbd1 hrk hsk hbk htk hkv hAT
  refine ord_start [(0, true), (1, true), (2, true), (3, true), (4, true), (5, true), (6, false), (7, false), (8, true), (9, false), (10, true), (11, true), (12, true), (13, true), (14, true)] (fun W => W.cell? ⟨w.heap.size, 1, none⟩ = some (.slice p1 x.log.length c1)) (by kernel_rfl) (by kernel_rfl) rfl (by kernel_rfl) ?_
  intro ops' hops
  clear hops
  simp only [List.map_cons, List.map_nil, pickOp_zero, pickOp_succ]
  iterate 6 (refine ord_flo ?_ (fun _ _ _ h => h) rfl ?_ a1 ?_; rotate_left; focus (intro W hS; obtain s1 := hS; go_simp; rfl))
  refine ord_ev rfl ?_
  go_simp
  refine (C1.out _).mono ?_
  rintro e w2 ⟨rfl, rfl⟩
  refine ⟨a1, ?_⟩
  refine ord_ev rfl ?_
  go_simp
  refine (C2.out _).mono ?_
  rintro e w3 ⟨rfl, rfl⟩
  refine ⟨a1, ?_⟩
  refine ord_flo (.slice p1 k c1) (fun _ _ _ h => h) rfl ?_ a1 ?_
  · intro W hS
    obtain s1 := hS
    go_simp <;> omega
  refine ord_ev rfl ?_
  go_simp
  refine (CA.out _ HB.out).mono ?_
  rintro e w4 ⟨z0, f0, rfl, hi0, hn0, hl0, hb4⟩
  obtain ⟨pz, cz, rfl⟩ := LfIn.slice hi0
  have HF := Lib.hid (show LfIn w4 (boxsLf (atL x.log i)) (.slice pz (allL [] (x.log.take k)).1.length cz) f0 ∧ f0.Nodup ∧ (∀ q ∈ f0, w.heap.size ≤ q) ∧ Below w.heap.size w w4 from ⟨by rw [HAT.out]; exact hi0, hn0, fun q hq => Nat.le_trans HB.out.size (hl0 q hq), HB.out.trans (hb4.mono HB.out.size)⟩)
  have a4 : w4.cell? ⟨w.heap.size, 1, none⟩ = some (.slice p1 x.log.length c1) := (blk_3c ((hb4.block w.heap.size (Array.getElem?_eq_some_iff.1 HN.out).1).trans HN.out)).1.2.1
  clear hi0 hn0 hl0 hb4 a1
  refine ⟨a4, ?_⟩
  have a1 := a4
  iterate 5 (refine ord_flo ?_ (fun _ _ _ h => h) rfl ?_ a1 ?_; rotate_left; focus (intro W hS; obtain s1 := hS; go_simp; rfl))
  refine ord_done ?_
  go_simp
  go_wp2
  go_ret
  exact ⟨_, f0, rfl, HF.out.1, HF.out.2.1, HF.out.2.2.1, HF.out.2.2.2⟩

end Go.Proofs.YtbfgdbpfecffcaaGreatDoor
