/-
  Ta: ComW ComLg ComX (what the claim needs of them).
-/
import Derived.Maps.OwnIn
import Derived.Sort.KeysCollected
import Derived.RangeFuncNested
import Derived.RangeFuncLeaves
import Derived.RangeFuncWrites
import Derived.WalkKit
import Derived.OwnWalkIn
import Derived.TacticsInMore
import Derived.LoopNIn
import Derived.LoopIn
import Derived.Maps.OwnSet
import Derived.Deep.DeepCutAuto
import Derived.Handy
import Derived.Lib.SliceRun
import Derived.Test.YtbfgdbpfecffcaaGreatDoorRows
import Derived.WalkSpells
import Derived.WalkLawsBesides
import Derived.Laws.IdiomStrings
import Derived.Lib.Hide
import Derived.Deep.AppendLies
import Derived.OrdersHeld
import Derived.Lib.ItoaNum
import Derived.Lib.ItoaMem
import Derived.Lib.AppendStr
import Derived.Lib.ItoaLen
import Derived.Lib.Strings
import Derived.Lib.Bytealg
import Derived.Lib.OthersKept
import Derived.Laws.RangeAny
import Derived.Laws.BitsAllLaws
import Derived.Laws.BitsLemmas
import Derived.IntWalk
import Derived.LaidEql
import Derived.Stop.Asserts
import Derived.RowKitTokens
import Derived.Lib.Join
import Derived.Deep.Strs
import Derived.Test.YtbfgdbpfecffcaaGreatDoorProg
import Derived.Laws.Tables
import Derived.Maps.RangeWalk
import Derived.Sort.OwnSorted
import Derived.Sort.EveryDepth
import Derived.Test.YtbfgdbpfecffcaaGreatDoorSb
import Derived.Test.YtbfgdbpfecffcaaGreatDoorSc
import Derived.Test.YtbfgdbpfecffcaaGreatDoorSd
import Derived.Test.YtbfgdbpfecffcaaGreatDoorSe
import Derived.Test.YtbfgdbpfecffcaaGreatDoorSf
import Derived.Test.YtbfgdbpfecffcaaGreatDoorSg
import Derived.Test.YtbfgdbpfecffcaaGreatDoorSk
import Derived.Test.YtbfgdbpfecffcaaGreatDoorSl
import Derived.Test.YtbfgdbpfecffcaaGreatDoorSm
import Derived.Test.YtbfgdbpfecffcaaGreatDoorSo
import Derived.Test.YtbfgdbpfecffcaaGreatDoorSp
import Derived.Test.YtbfgdbpfecffcaaGreatDoorSq
import Derived.Test.YtbfgdbpfecffcaaGreatDoorSr
import Derived.Test.YtbfgdbpfecffcaaGreatDoorSs
import Derived.Test.YtbfgdbpfecffcaaGreatDoorSu
import Derived.Test.YtbfgdbpfecffcaaGreatDoorSw
import Derived.Test.YtbfgdbpfecffcaaGreatDoorSx
import Derived.Test.YtbfgdbpfecffcaaGreatDoorSy
import Derived.Test.YtbfgdbpfecffcaaGreatDoorSz

namespace Go.Proofs.YtbfgdbpfecffcaaGreatDoor
open Go.RowKit

theorem perf_msg {B k : Nat} {ps : List BP} {v : Value} {z : BP} {x : ComD} {er : Addr} {w : World} {r : Value} {w' : World} (hap : appB (ps.map BP.box) x = okM z.box x) (hd : doneL (ps.map BP.box) x = (ps.map BP.box).set k (boxAfter z.box x)) (h : MsgPost B ps v k z x er w (.returned r) w') : PerfPost B ps v x er w (.returned (.tuple #[v, r])) w' := by
  obtain ⟨r', hr, hb, h⟩ := h
  injection hr with hr
  subst hr
  refine ⟨v, r, rfl, hb, ?_⟩
  rcases h with ⟨h1, h2, z', h3, h4⟩ | ⟨h1, h2, h3⟩
  · exact .inl ⟨hap.trans h1, h2, _, h3, by rw [List.map_set, h4, hd]⟩
  · exact .inr ⟨hap.trans h1, h2, h3⟩
theorem MsgPost.ret {B k : Nat} {ps : List BP} {v : Value} {z : BP} {x : ComD} {er : Addr} {w : World} {e : Ending} {w' : World} (h : MsgPost B ps v k z x er w e w') : ∃ r, e = .returned r := by
  obtain ⟨r, hr, _⟩ := h
  exact ⟨r, hr⟩

theorem MsgPost.up {B k : Nat} {ps : List BP} {v : Value} {z : BP} {x : ComD} {er : Addr} {w w1 : World} {e : Ending} {w' : World} (h : MsgPost B ps v k z x er w1 e w') (hb : GrownIn w w1 (fpsOf v ps)) : MsgPost B ps v k z x er w e w' := by
  obtain ⟨r, hr, hb', h⟩ := h
  exact ⟨r, hr, hb.trans hb', h⟩
set_option maxRecDepth 20000 in
set_option maxHeartbeats 6400000 in
theorem perform_any (B : Nat) (ps : List BP) (v : Value) (x : ComD) (er : Addr) (w : World) (h : Own9 B w v ps) (he : ErrAt w er) (hB : B ≤ w.heap.size) (hg : 0 < B) (hr : boxesB (ps.map BP.box) = true) (hs2 : szLs x.lf ≤ 1048576) (hbd2 : LsBnd x.lf) :
    Calls Tryz.prog 123 #[v, .agg #[.int .i64 x.kind, .int .i64 x.validity, .int .i64 x.uid, .int .i64 x.flags, sv x.name, sv x.text]] w fun e w' => PerfPost B ps v x er w e w' := by
  obtain ⟨hnl, hvl, hul⟩ := com_fit hs2 hbd2
  obtain ⟨hs, hbd⟩ := right_small hr
  obtain ⟨_, _, _, hsl⟩ := boxes_small hs hbd
  have CC := Lib.hid (fun X => implCommitOk_c (G := fun _ => True) x X trivial hs2 hbd2)
  have CW := Lib.hid (fun (X : World) (O : Own9 B X v ps) => implBoxWith_c (G := fun _ => True) (ps.map BP.box) v x.validity X trivial (LfIn.rd _ _ _ O.tree.is) hs hbd hvl)
  have hlen : (ps.map BP.box).length = ps.length := by rw [List.length_map]
  have h4 : ps.length ≤ 4 := by rw [← hlen]; exact ((boxes_iff _).1 hr).1
  have HR := Lib.hid hr
  have HS2 := Lib.hid (And.intro hs2 hbd2)
  have HSL := Lib.hid hsl
  obtain ⟨p, c, rfl⟩ := LfIn.slice h.tree.is
  rw [hlen] at h CW ⊢
  obtain ⟨X, hX⟩ : ∃ X, w.alloc (.cells #[.int .i64 x.kind, .int .i64 x.validity, .int .i64 x.uid, .int .i64 x.flags, sv x.name, sv x.text] 26) = X := ⟨_, rfl⟩
  have A1 := Lib.hid (AtX.of (x := x) h he hB hg hX.symm)
  clear h he hs2 hbd2 hs hbd hr hvl hlen hsl
  obtain ⟨a0, a1, a2, a3, a4, a5⟩ := A1.out.cells
  cases hc : commitB x with
  | false =>
    have HF := Lib.hid (app_no2 (l := ps.map BP.box) hc)
    have D1 := Lib.hid (CC.out X)
    rw [hc] at D1
    clear CC hc CW
    go_enter Tryz.func123, Tryz.ntmps123
    go_wp2_with fail
    refine D1.out.mono ?_
    rintro e w1 ⟨rfl, b1⟩
    have A2 := A1.out.call b1
    have HP := Lib.hid (A2.drew.no (v' := .slice none 0 0) HF.out)
    have heq := A2.drew.er
    unfold ErrAt at heq
    clear A1 A2 b1 D1 a0 a1 a2 a3 a4 a5
    go_wp2
    refine ord_start [(0, true), (1, true), (2, true)] (fun W => W.cell? ⟨0, 0, none⟩ = some (errV er)) (by kernel_rfl) (by kernel_rfl) rfl (by kernel_rfl) ?_
    intro ops' hops
    clear hops
    simp only [List.map_cons, List.map_nil, pickOp_zero, pickOp_succ]
    iterate 3 (refine ord_flo ?_ (fun _ _ _ h => h) rfl ?_ heq ?_; rotate_left; focus (intro W hS; obtain s1 := hS; go_simp; rfl))
    refine ord_done ?_
    go_simp
    go_wp2
    go_ret2
    exact HP.out
  | true =>
  have D1 := Lib.hid (CC.out X)
  rw [hc] at D1
  have HC := Lib.hid hc
  have hkk := (commit_parts hc).1
  clear CC hc
  by_cases hk1 : x.kind = 1
  case pos =>
    have t1 : (x.kind == 1) = true := by rw [hk1]; rfl
    have CR := Lib.hid (fun X (A : AtX B w X (.slice p ps.length c) ps x er) => create_any B ps (.slice p ps.length c) x er X A.own A.er A.size hg HR.out HC.out hk1 HS2.out.1 HS2.out.2)
    clear hk1 hkk CW
    go_enter Tryz.func123, Tryz.ntmps123
    go_wp2_with fail
    refine D1.out.mono ?_
    rintro e w1 ⟨rfl, b1⟩
    have A2 := Lib.hid (A1.out.call b1)
    clear A1 b1 D1 a0 a1 a2 a3 a4 a5
    obtain ⟨a0, a1, a2, a3, a4, a5⟩ := A2.out.cells
    go_wp2_with fail
    refine (CR.out _ A2.out).mono ?_
    rintro e w2 ⟨v', z, rfl, hb, hor⟩
    have HP := Lib.hid (show PerfPost B ps (.slice p ps.length c) x er w (.returned (.tuple #[v', z])) w2 from ⟨v', z, rfl, A2.out.b.trans hb, hor⟩)
    clear hb hor A2 CR a0 a1 a2 a3 a4 a5
    go_wp2
    go_ret2
    exact HP.out
  have t1 : (x.kind == 1) = false := by rw [beq_eq_false_iff_ne]; exact hk1
  by_cases hw : bxWith (ps.map BP.box) x.validity < 0
  case pos =>
    have HF := Lib.hid (app_neg (l := ps.map BP.box) (m := x) hk1 hw)
    generalize bxWith (ps.map BP.box) x.validity = R at *
    clear hk1 hkk HC
    go_enter Tryz.func123, Tryz.ntmps123
    go_wp2_with fail
    refine D1.out.mono ?_
    rintro e w1 ⟨rfl, b1⟩
    have A2 := Lib.hid (A1.out.call b1)
    clear A1 b1 D1 a0 a1 a2 a3 a4 a5
    obtain ⟨a0, a1, a2, a3, a4, a5⟩ := A2.out.cells
    clear a2 a3 a4 a5
    go_wp2_with fail
    refine (CW.out _ A2.out.own).mono ?_
    rintro e w2 ⟨rfl, b2⟩
    have A3 := A2.out.call b2
    have HP := Lib.hid (A3.drew.no (v' := .slice none 0 0) HF.out)
    have heq := A3.drew.er
    unfold ErrAt at heq
    clear A2 A3 b2 CW a0 a1
    go_wp2
    refine ord_start [(0, true), (1, true), (2, true)] (fun W => W.cell? ⟨0, 0, none⟩ = some (errV er)) (by kernel_rfl) (by kernel_rfl) rfl (by kernel_rfl) ?_
    intro ops' hops
    clear hops
    simp only [List.map_cons, List.map_nil, pickOp_zero, pickOp_succ]
    iterate 3 (refine ord_flo ?_ (fun _ _ _ h => h) rfl ?_ heq ?_; rotate_left; focus (intro W hS; obtain s1 := hS; go_simp; rfl))
    refine ord_done ?_
    go_simp
    go_wp2
    go_ret2
    exact HP.out
  have hwb := whereB_eq hw
  obtain ⟨y, hy, -⟩ := with_at hw
  obtain ⟨k, hkb⟩ : ∃ k, whereB (ps.map BP.box) x.validity = k := ⟨_, rfl⟩
  rw [hkb] at hwb hy
  have hkl : k < ps.length := by have := (List.getElem?_eq_some_iff.1 hy).1; rwa [List.length_map] at this
  obtain ⟨z, hz⟩ : ∃ z, ps[k]? = some z := ⟨_, List.getElem?_eq_getElem hkl⟩
  have hzy : z.box = y := by
    rw [List.getElem?_map, hz] at hy
    injection hy
  have HZ := Lib.hid hz
  have HY := Lib.hid (show (ps.map BP.box)[whereB (ps.map BP.box) x.validity]? = some z.box by rw [hkb, hzy]; exact hy)
  have HKB := Lib.hid hkb
  have HWK := Lib.hid hwb
  rw [hwb] at CW
  have hkn : ¬ (k : Int) < 0 := by omega
  obtain ⟨b, rfl⟩ : ∃ b, p = some ⟨b, 0, none⟩ := by
    rcases A1.out.own.row.2 with ⟨_, h0⟩ | ⟨g', cap, cur, h0, _⟩
    · omega
    · injection h0 with h0
      exact ⟨g', h0⟩
  have HD4 := Lib.hid (fun h => done_4 (l := ps.map BP.box) (m := x) h HY.out)
  rw [hkb] at HD4
  clear hw hwb hy hz hzy hkb y
  go_enter Tryz.func123, Tryz.ntmps123
  go_wp2_with fail
  refine D1.out.mono ?_
  rintro e w1 ⟨rfl, b1⟩
  have A2 := Lib.hid (A1.out.call b1)
  clear A1 b1 D1 a0 a1 a2 a3 a4 a5
  obtain ⟨a0, a1, a2, a3, a4, a5⟩ := A2.out.cells
  clear a2 a3 a4 a5
  go_wp2_with fail
  refine (CW.out _ A2.out.own).mono ?_
  rintro e w2 ⟨rfl, b2⟩
  have A3 := Lib.hid (A2.out.call b2)
  clear A2 b2 CW a0 a1
  obtain ⟨a0, a1, a2, a3, a4, a5⟩ := A3.out.cells
  have wk : IntKind.i64.wrap ((k : Int) + 1) = (k : Int) + 1 := IntWalk.i64_in _ (by omega)
  by_cases hk2 : x.kind = 2
  case pos =>
    have t2 : (x.kind == 2) = true := by rw [hk2]; rfl
    have HT := Lib.hid (app_2 HR.out HC.out hk2 (by have := HWK.out; omega) HY.out)
    have HD := Lib.hid (done_2 hk2 HY.out)
    rw [HKB.out] at HD
    have CD := Lib.hid (delBox_any ps B b ps.length c k w2 rfl (by omega) hkl A3.out.own.row)
    clear hk1 hkk hk2 a1 a2 a3 a4 a5
    go_wp2_with fail
    refine CD.out.mono ?_
    rintro e w3 ⟨rfl, ho3, hg3⟩
    have O3 := A3.out.own.cut HZ.out hg3 ho3
    have HP := Lib.hid (show PerfPost B ps (.slice (some ⟨b, 0, none⟩) ps.length c) x er w (.returned (.tuple #[.slice (some ⟨b, 0, none⟩) (ps.length - 1) c, .nilIface])) w3 from ⟨_, _, rfl, A3.out.b.next hg3 (.inl fpsOf.own), .inl ⟨HT.out, rfl, _, O3, by rw [erase_box, HD.out]⟩⟩)
    clear O3 ho3 hg3 A3 CD a0
    go_wp2
    go_ret2
    exact HP.out
  have t2 : (x.kind == 2) = false := by rw [beq_eq_false_iff_ne]; exact hk2
  by_cases hk3 : x.kind = 3
  case pos =>
    have t3 : (x.kind == 3) = true := by rw [hk3]; rfl
    have CR := Lib.hid (rename_any B b ps.length c k ps x er w2 A3.out.own A3.out.er A3.out.size hg HR.out HC.out hk3 HWK.out hnl)
    clear hk1 hkk hk2 hk3 a1 a2 a3 a5
    go_wp2_with fail
    refine CR.out.mono ?_
    rintro e w3 ⟨r, rfl, hb, hor⟩
    have HP := Lib.hid (show PerfPost B ps (.slice (some ⟨b, 0, none⟩) ps.length c) x er w (.returned (.tuple #[.slice (some ⟨b, 0, none⟩) ps.length c, r])) w3 from ⟨_, _, rfl, A3.out.b.trans hb, hor.imp (fun h => h) (fun h => h)⟩)
    clear hb hor A3 CR a0 a4
    go_wp2
    go_ret2
    exact HP.out
  have t3 : (x.kind == 3) = false := by rw [beq_eq_false_iff_ne]; exact hk3
  have hbx := (boxes_iff _).1 HR.out
  obtain ⟨_, _, n1, m1, _, _⟩ := (box_iff z.box).1 (hbx.2.1 z.box (List.mem_of_getElem? HY.out))
  have hzs := HSL.out z.box (List.mem_of_getElem? HY.out)
  clear hbx
  have A4 := Lib.hid A3.out.drew
  obtain ⟨d0, d1, d2, d3, d4, d5⟩ := A4.out.cells
  by_cases hk4 : x.kind = 4
  case pos =>
    have t4 : (x.kind == 4) = true := by rw [hk4]; rfl
    have HAP := Lib.hid (show appB (ps.map BP.box) x = okM z.box x by rw [app_4 HR.out HC.out hk4 (by have := HWK.out; omega) HY.out]; unfold okM; rw [if_pos hk4])
    have HDD := Lib.hid (HD4.out (by omega))
    have CA := Lib.hid (appendMsg_any B b ps.length c k ps z x er w2.drew A4.out.own A4.out.er A4.out.size hg HZ.out (by omega) n1 hk4)
    clear hk1 hkk hk2 hk3 hk4 a1 a2 a3 a4 a5 n1 m1 hzs
    go_wp2
    refine ord_start [(0, true), (1, true), (2, true), (3, true), (4, false), (5, false), (6, true), (7, true)] (fun _ => True) (by kernel_rfl) (by kernel_rfl) rfl (by kernel_rfl) ?_
    intro ops' hops
    clear hops
    simp only [List.map_cons, List.map_nil, pickOp_zero, pickOp_succ]
    iterate 3 (refine ord_flo ?_ (fun _ _ _ h => h) rfl ?_ trivial ?_; rotate_left; focus (intro _ _; go_simp; rfl))
    refine ord_flo (.pointer (some ⟨b, k * 4, none⟩)) (fun _ _ _ h => h) rfl ?_ trivial ?_
    · intro W hS
      go_simp
      try (intro h; omega)
    refine ord_ev rfl ?_
    go_simp
    refine ord_ev rfl ?_
    go_simp
    refine CA.out.mono ?_
    intro e w3 hM
    obtain ⟨r, rfl⟩ := hM.ret
    have HP := Lib.hid (perf_msg HAP.out HDD.out (hM.up A4.out.b))
    clear hM CA A3 A4 d0 d1 d2 d3 d4 d5 a0
    iterate 2 (refine ord_flo ?_ (fun _ _ _ h => h) rfl ?_ trivial ?_; rotate_left; focus (intro _ _; go_simp; rfl))
    refine ord_done ?_
    go_simp
    go_wp2
    go_ret2
    exact HP.out
  have t4 : (x.kind == 4) = false := by rw [beq_eq_false_iff_ne]; exact hk4
  have h56 : x.kind = 5 ∨ x.kind = 6 := by omega
  have HAP := Lib.hid (show appB (ps.map BP.box) x = okM z.box x by rw [app_56 HR.out HC.out h56 (by have := HWK.out; omega) HY.out]; unfold okM; rw [if_neg hk4])
  have HDD := Lib.hid (HD4.out (by omega))
  have CA := Lib.hid (changeMsg_any B b ps.length c k ps z x er w2.drew A4.out.own A4.out.er A4.out.size hg HZ.out hzs.1 hzs.2 hul h56)
  clear hk1 hkk hk2 hk3 hk4 h56 a1 a2 a3 a4 a5 n1 m1 hzs
  go_wp2
  refine ord_start [(0, true), (1, true), (2, true), (3, true), (4, false), (5, false), (6, true), (7, true)] (fun _ => True) (by kernel_rfl) (by kernel_rfl) rfl (by kernel_rfl) ?_
  intro ops' hops
  clear hops
  simp only [List.map_cons, List.map_nil, pickOp_zero, pickOp_succ]
  iterate 3 (refine ord_flo ?_ (fun _ _ _ h => h) rfl ?_ trivial ?_; rotate_left; focus (intro _ _; go_simp; rfl))
  refine ord_flo (.pointer (some ⟨b, k * 4, none⟩)) (fun _ _ _ h => h) rfl ?_ trivial ?_
  · intro W hS
    go_simp
    try (intro h; omega)
  refine ord_ev rfl ?_
  go_simp
  refine ord_ev rfl ?_
  go_simp
  refine CA.out.mono ?_
  intro e w3 hM
  obtain ⟨r, rfl⟩ := hM.ret
  have HP := Lib.hid (perf_msg HAP.out HDD.out (hM.up A4.out.b))
  clear hM CA A3 A4 d0 d1 d2 d3 d4 d5 a0
  iterate 2 (refine ord_flo ?_ (fun _ _ _ h => h) rfl ?_ trivial ?_; rotate_left; focus (intro _ _; go_simp; rfl))
  refine ord_done ?_
  go_simp
  go_wp2
  go_ret2
  exact HP.out

end Go.Proofs.YtbfgdbpfecffcaaGreatDoor

namespace Go.Proofs.YtbfgdbpfecffcaaGreatDoor
open Go.RowKit

def comc (m : ComD) : List Value := [.int .i64 m.kind, .int .i64 m.validity, .int .i64 m.uid, .int .i64 m.flags, sv m.name, sv m.text]
theorem coms_plain {W : World} : ∀ {l : List ComD} {xs : List Value} {fq : List Nat}, LsIn W (l.flatMap ComD.lf) xs fq → xs = l.flatMap comc ∧ fq = []
  | [], _, _, h => ⟨h.1, h.2⟩
  | m :: l, xs, fq, h => by
    rw [List.flatMap_cons] at h
    obtain ⟨a, r, f1, f2, rfl, h1, h2, rfl⟩ := LsIn.append.1 h
    obtain ⟨rfl, rfl⟩ := coms_plain h2
    obtain ⟨rfl, rfl⟩ := ComD.in_of h1
    exact ⟨rfl, rfl⟩
theorem coms_plain' {W : World} : ∀ l : List ComD, LsIn W (l.flatMap ComD.lf) (l.flatMap comc) []
  | [] => ⟨rfl, rfl⟩
  | m :: l => by
    rw [List.flatMap_cons, List.flatMap_cons]
    exact LsIn.append.2 ⟨comc m, l.flatMap comc, [], [], rfl, ComD.in_mk, coms_plain' l, rfl⟩
theorem coms_in {W : World} {l : List ComD} {v : Value} {fp : List Nat} : LfIn W (commitsLf l) v fp ↔ W.ownsRow 0 26 6 v l.length (l.flatMap comc) ∧ fp = v.ownBlock.toList := by
  constructor
  · rintro ⟨_, xs, fq, ho, hx, hf⟩
    obtain ⟨rfl, rfl⟩ := coms_plain hx
    exact ⟨ho, by simpa using hf⟩
  · rintro ⟨ho, hf⟩
    exact ⟨flat_lenM ComD.len l, _, [], ho, coms_plain' l, by simpa using hf⟩
theorem comc_len (m : ComD) : (comc m).length = 6 := rfl
theorem comc_one : ∀ m : ComD, ∀ u ∈ comc m, u.oneCell' = true := by
  intro m u hu
  simp only [comc, List.mem_cons, List.not_mem_nil, or_false] at hu
  rcases hu with rfl | rfl | rfl | rfl | rfl | rfl <;> rfl
/-- A log that is read, cell by cell. -/
theorem comc_rd {W : World} {l : List ComD} {v : Value} (h : LfRd W (commitsLf l) v) : Rd 6 comc W v l := by
  obtain ⟨p, c, rfl, hc⟩ := ComD.at h
  refine ⟨p, c, rfl, hc.imp id fun ⟨b, off, hp, hb, h⟩ => ⟨b, off, hp, hb, fun i x hi j u hu => ?_⟩⟩
  obtain ⟨h0, h1, h2, h3, h4, h5⟩ := h i x hi
  match j, hu with
  | 0, hu => cases hu; exact h0
  | 1, hu => cases hu; exact h1
  | 2, hu => cases hu; exact h2
  | 3, hu => cases hu; exact h3
  | 4, hu => cases hu; exact h4
  | 5, hu => cases hu; exact h5
  | j + 6, hu => simp [comc] at hu
/-- A block of the call's is no block of the rows: they are of other types. -/
theorem own_type {W : World} {B n : Nat} {e : TypeId} {s : Nat} {v : Value} {xs : List Value} (h : W.ownsRow B e s v n xs) {q : Nat} (hq : q ∈ v.ownBlock.toList) : ∃ cur, W.heap[q]? = some (.cells cur e (0, 0)) := by
  rcases h.2 with ⟨rfl, _⟩ | ⟨g, cap, cur, rfl, _, hg, _⟩
  · simp [Value.ownBlock] at hq
  · have : q = g := by simpa [Value.ownBlock] using hq
    subst this
    exact ⟨cur, hg⟩
theorem com6 {W : World} {b : Nat} {m : ComD} {T : TypeId} (h : W.heap[b]? = some (.cells #[.int .i64 m.kind, .int .i64 m.validity, .int .i64 m.uid, .int .i64 m.flags, sv m.name, sv m.text] T (0, 0))) :
    (W.cell? ⟨b, 0, none⟩ = some (.int .i64 m.kind) ∧ W.cell? ⟨b, 1, none⟩ = some (.int .i64 m.validity) ∧ W.cell? ⟨b, 2, none⟩ = some (.int .i64 m.uid) ∧ W.cell? ⟨b, 3, none⟩ = some (.int .i64 m.flags) ∧ W.cell? ⟨b, 4, none⟩ = some (sv m.name) ∧ W.cell? ⟨b, 5, none⟩ = some (sv m.text)) ∧ (∀ j, W.frozen? ⟨b, j, none⟩ = false) :=
  ⟨⟨(Lib.cell_of_heap h 0).trans rfl, (Lib.cell_of_heap h 1).trans rfl, (Lib.cell_of_heap h 2).trans rfl, (Lib.cell_of_heap h 3).trans rfl, (Lib.cell_of_heap h 4).trans rfl, (Lib.cell_of_heap h 5).trans rfl⟩, fun j => Lib.frozen_of_heap h j⟩
/-- Boxes and a log have no block in common. -/
theorem sto_apart {W : World} {l : List BoxD} {z0 z1 : Value} {f0 : List Nat} {B n : Nat} {xs : List Value} (h0 : LfIn W (boxsLf l) z0 f0) (h1 : W.ownsRow B 26 6 z1 n xs) : ∀ q ∈ f0, z1.ownBlock ≠ some q := by
  intro q hq he
  obtain ⟨cur, hc⟩ := own_type h1 (show q ∈ z1.ownBlock.toList by rw [he]; simp)
  obtain ⟨_, ys, fq, ho, hx, rfl⟩ := h0
  obtain ⟨ps, _, _, rfl, hk⟩ := bps_of hx
  rcases List.mem_append.1 hq with hq | hq
  · obtain ⟨cur', hc'⟩ := own_type ho hq
    rw [hc] at hc'
    injection hc' with hc'
    injection hc' with _ hc' _
    exact absurd hc' (by decide)
  · obtain ⟨p, hp, hq⟩ := List.mem_flatMap.1 hq
    have hi := msgs_in.1 (hk p hp)
    rw [hi.2] at hq
    obtain ⟨cur', hc'⟩ := own_type hi.1 hq
    rw [hc] at hc'
    injection hc' with hc'
    injection hc' with _ hc' _
    exact absurd hc' (by decide)

end Go.Proofs.YtbfgdbpfecffcaaGreatDoor

namespace Go.Proofs.YtbfgdbpfecffcaaGreatDoor
open Go.RowKit

theorem bps_rd {W : World} : ∀ {l : List BoxD} {xs : List Value}, LsRd W (l.flatMap BoxD.lf) xs → ∃ ps : List BP, ps.map BP.box = l ∧ xs = ps.flatMap encP ∧ ∀ p ∈ ps, LfRd W (msgsLf p.box.msgs) p.val
  | [], _, h => ⟨[], rfl, h, fun _ h => by cases h⟩
  | b :: l, xs, h => by
    rw [List.flatMap_cons] at h
    obtain ⟨u, r, rfl, h1, h2⟩ := LsRd.append.1 h
    obtain ⟨r3, rfl, h3⟩ := BoxD.rd.1 h1
    obtain ⟨p, c, rfl⟩ := LfRd.slice h3
    obtain ⟨ps, rfl, rfl, hk⟩ := bps_rd h2
    exact ⟨⟨b, p, c, []⟩ :: ps, rfl, rfl, fun q hq => by
      rcases List.mem_cons.1 hq with rfl | hq
      · exact h3
      · exact hk q hq⟩
theorem boxes_rd {W : World} {l : List BoxD} {v : Value} (h : LfRd W (boxsLf l) v) : ∃ ps : List BP, ps.map BP.box = l ∧ Rd 4 encP W v ps ∧ ∀ p ∈ ps, LfRd W (msgsLf p.box.msgs) p.val := by
  obtain ⟨_, p, cap, rfl, hd⟩ := h
  by_cases h0 : l.length = 0
  · obtain rfl := List.eq_nil_of_length_eq_zero h0
    exact ⟨[], rfl, ⟨p, cap, rfl, .inl rfl⟩, fun _ h => by cases h⟩
  · obtain ⟨b, off, hp, hb, xs, hx, hl⟩ := hd.resolve_left h0
    obtain ⟨ps, rfl, rfl, hk⟩ := bps_rd hl
    refine ⟨ps, rfl, ⟨p, cap, by rw [List.length_map], .inr ⟨b, off, hp, hb, fun i x hi j u hj => ?_⟩⟩, hk⟩
    rw [Nat.add_assoc]
    exact hx _ u (flat_at encP ps encP_len i x hi j u hj)
theorem row_cell {B : Nat} {W : World} {b n c k j : Nat} {rs : List BP} {z : BP} (h : W.ownsRow B 38 4 (.slice (some ⟨b, 0, none⟩) n c) n (rs.flatMap encP)) (hn : rs.length = n) (hz : rs[k]? = some z) (hj : j < 4) : W.cell? ⟨b, k * 4 + j, none⟩ = (encP z)[j]? ∧ W.frozen? ⟨b, k * 4 + j, none⟩ = false := by
  have hlt := (List.getElem?_eq_some_iff.1 hz).1
  refine ⟨?_, h.frozenAt _⟩
  rw [h.cellAt (k * 4 + j) (by omega)]
  conv => lhs; rw [take_drop_at hz]
  have hA : ((rs.take k).flatMap encP).length = k * 4 := by rw [encs_len, List.length_take, Nat.min_eq_left (by omega)]
  rw [List.flatMap_append, List.getElem?_append_right (by omega), hA, Nat.add_sub_cancel_left, List.flatMap_cons, List.getElem?_append_left (by rw [encP_len]; exact hj)]
/-- The copy half made: k boxes have messages of their own. -/
structure Half (B : Nat) (w W : World) (v : Value) (n : Nat) (os : List BP) (k : Nat) (qs : List BP) : Prop where
  row : W.ownsRow B 38 4 v n ((qs ++ os.drop k).flatMap encP)
  ok : BpOk W qs
  nd : (v.ownBlock.toList ++ qs.flatMap BP.fp).Nodup
  low : ∀ q ∈ qs.flatMap BP.fp, B ≤ q
  b : Below B w W
  len : qs.length = k
  box : qs.map BP.box = (os.map BP.box).take k
theorem Half.step {B b n c k : Nat} {w W W' : World} {os qs : List BP} {z : BP} {p2 : Option Addr} {c2 : Nat} (h : Half B w W (.slice (some ⟨b, 0, none⟩) n c) n os k qs) (hn : os.length = n) (hz : os[k]? = some z) (hB : B ≤ W.heap.size) (hb : Below W.heap.size W W')
    (ho : W'.ownsRow W.heap.size 87 3 (.slice p2 z.box.msgs.length c2) z.box.msgs.length (z.box.msgs.flatMap msgc)) :
    Half B w (W'.setCell ⟨b, k * 4 + 3, none⟩ (.slice p2 z.box.msgs.length c2)) (.slice (some ⟨b, 0, none⟩) n c) n os (k + 1) (qs ++ [⟨z.box, p2, c2, (Value.slice p2 z.box.msgs.length c2).ownBlock.toList⟩]) ∧ W'.cell? ⟨b, k * 4 + 3, none⟩ = some z.val ∧ W'.frozen? ⟨b, k * 4 + 3, none⟩ = false := by
  have hlt := (List.getElem?_eq_some_iff.1 hz).1
  have hlen : (qs ++ os.drop k).length = n := by rw [List.length_append, h.len, List.length_drop, hn]; omega
  have hzz : (qs ++ os.drop k)[k]? = some z := by rw [List.getElem?_append_right (Nat.le_of_eq h.len), h.len, Nat.sub_self, List.getElem?_drop, Nat.add_zero]; exact hz
  have hrow : W'.ownsRow B 38 4 (.slice (some ⟨b, 0, none⟩) n c) n ((qs ++ os.drop k).flatMap encP) := ownsRow_below h.row hb
  obtain ⟨e3, f3⟩ := row_cell hrow hlen hzz (show 3 < 4 by omega)
  have hst := (hrow.stored (k * 4 + 3) (.slice p2 z.box.msgs.length c2)).1
  rw [← encs_set (z' := ⟨z.box, p2, c2, (Value.slice p2 z.box.msgs.length c2).ownBlock.toList⟩) hzz (by omega) rfl] at hst
  have hset : (qs ++ os.drop k).set k ⟨z.box, p2, c2, (Value.slice p2 z.box.msgs.length c2).ownBlock.toList⟩ = (qs ++ [⟨z.box, p2, c2, (Value.slice p2 z.box.msgs.length c2).ownBlock.toList⟩]) ++ os.drop (k + 1) := by
    rw [List.set_append_right _ _ (Nat.le_of_eq h.len), h.len, Nat.sub_self, List.drop_eq_getElem_cons (show k < os.length by omega), List.set_cons_zero, List.append_assoc]
    rfl
  rw [hset] at hst
  have hnd := h.nd
  have hbl := h.row.lt b rfl
  rw [show (Value.slice (some ⟨b, 0, none⟩) n c).ownBlock = some b from rfl] at hnd
  simp only [Option.toList_some, List.singleton_append, List.nodup_cons] at hnd
  have hfl : ∀ q ∈ qs.flatMap BP.fp, q < W.heap.size := LsIn.lt _ _ _ (bps_in h.ok)
  have hnl : ∀ q ∈ (Value.slice p2 z.box.msgs.length c2).ownBlock.toList, W.heap.size ≤ q := fun q hq => (ho.lt q (by simpa using hq)).1
  refine ⟨⟨hst, fun p hp => ?_, ?_, fun q hq => ?_, (h.b.trans (hb.mono hB)).setCell hbl.1 _, by rw [List.length_append, h.len]; rfl, ?_⟩, e3, f3⟩
  · rcases List.mem_append.1 hp with hp | hp
    · exact LfIn.set ((h.ok p hp).below hb) (fun hm => hnd.1 (List.mem_flatMap.2 ⟨p, hp, hm⟩))
    · rw [List.mem_singleton.1 hp]
      exact LfIn.set (msgs_in.2 ⟨own_base ho, rfl⟩) (fun hm => by have := hnl b hm; omega)
  · rw [show (Value.slice (some ⟨b, 0, none⟩) n c).ownBlock = some b from rfl, List.flatMap_append]
    simp only [Option.toList_some, List.singleton_append, List.nodup_cons, List.flatMap_cons, List.flatMap_nil, List.append_nil]
    refine ⟨fun hm => ?_, List.nodup_append.2 ⟨hnd.2, by cases Value.ownBlock _ <;> simp, fun a ha d hd e => by have h1 := hfl a ha; have h2 := hnl d hd; omega⟩⟩
    rcases List.mem_append.1 hm with hm | hm
    · exact hnd.1 hm
    · have := hnl b hm; omega
  · rw [List.flatMap_append] at hq
    simp only [List.flatMap_cons, List.flatMap_nil, List.append_nil] at hq
    rcases List.mem_append.1 hq with hq | hq
    · exact h.low q hq
    · exact Nat.le_trans hB (hnl q hq)
  · rw [List.map_append, h.box, List.take_succ_eq_append_getElem (by rw [List.length_map]; omega), List.getElem_map]
    congr 1
    rw [← (List.getElem?_eq_some_iff.1 hz).2]
    rfl

set_option maxRecDepth 20000 in
set_option maxHeartbeats 3200000 in
theorem copiedBoxes_any (l : List BoxD) (v : Value) (w : World) (hr : LfRd w (boxsLf l) v) (hl : l.length ≤ 1048576) (hm : ∀ x ∈ l, x.msgs.length ≤ 1048576) :
    Calls Tryz.prog 122 #[v] w fun e w' => ∃ v' ps, e = .returned v' ∧ ps.map BP.box = l ∧ Own9 w.heap.size w' v' ps ∧ Below w.heap.size w w' := by
  obtain ⟨os, rfl, hrd, hms⟩ := boxes_rd hr
  rw [List.length_map] at hl
  have C := Lib.hid (cloneBox_any v os w hrd hl)
  have HMS := Lib.hid hms
  have HM := Lib.hid (fun p (hp : p ∈ os) => hm p.box (List.mem_map.2 ⟨p, hp, rfl⟩))
  obtain ⟨p0, c0, hv0⟩ := LfRd.slice hr
  rw [List.length_map] at hv0
  subst hv0
  clear hr hrd hms hm
  go_enter Tryz.func122, Tryz.ntmps122
  go_wp2_with fail
  refine C.out.mono ?_
  rintro e w1 ⟨p, c, rfl, ho1, b1⟩
  have HST := Lib.hid (show Half w.heap.size w w1 (.slice p os.length c) os.length os 0 [] from ⟨by rw [List.drop_zero]; exact ho1, (fun _ h => by cases h), (by rw [List.flatMap_nil, List.append_nil]; cases (Value.slice p os.length c).ownBlock <;> simp), (fun _ h => by cases h), b1, rfl, by simp⟩)
  clear ho1 b1 C
  go_wp2
  go_loopw [4, 9] (fun _ i wr => ∃ (k : Nat) (qs : List BP), k ≤ os.length ∧ i = .int .i64 k ∧ Half w.heap.size w wr (.slice p os.length c) os.length os k qs) (fun _ i _ => os.length - (intOf i).toNat)
  case atStart => exact ⟨0, [], by omega, rfl, HST.out⟩
  case round =>
    obtain ⟨k, qs, hk, rfl, hh⟩ := hrel
    have HH := Lib.hid hh
    clear hh HST
    by_cases hlt : k < os.length
    case neg =>
      obtain rfl : k = os.length := by omega
      have HF := Lib.hid (show Own9 w.heap.size wr (.slice p os.length c) qs ∧ qs.map BP.box = os.map BP.box ∧ Below w.heap.size w wr by
        have h := HH.out
        have hrow := h.row
        rw [List.drop_length, List.append_nil] at hrow
        refine ⟨⟨by rw [h.len]; exact hrow, h.ok, h.nd, h.low⟩, ?_, h.b⟩
        rw [h.box, List.take_of_length_le (by rw [List.length_map]; exact Nat.le_refl _)])
      clear HH
      go_wp2
      go_ret
      exact ⟨_, qs, rfl, HF.out.2.1, HF.out.1, HF.out.2.2⟩
    obtain ⟨z, hz⟩ : ∃ z, os[k]? = some z := ⟨_, List.getElem?_eq_getElem hlt⟩
    have hzm := List.mem_of_getElem? hz
    obtain ⟨b, rfl⟩ : ∃ b, p = some ⟨b, 0, none⟩ := by
      rcases HH.out.row.2 with ⟨_, h0⟩ | ⟨g', cap, cur, h0, _⟩
      · omega
      · injection h0 with h0
        exact ⟨g', h0⟩
    have hlen : (qs ++ os.drop k).length = os.length := by rw [List.length_append, HH.out.len, List.length_drop]; omega
    have hzz : (qs ++ os.drop k)[k]? = some z := by rw [List.getElem?_append_right (Nat.le_of_eq HH.out.len), HH.out.len, Nat.sub_self, List.getElem?_drop, Nat.add_zero]; exact hz
    have e3 : wr.cell? ⟨b, k * 4 + 3, none⟩ = some (.slice z.pt z.box.msgs.length z.cp) := (row_cell HH.out.row hlen hzz (show 3 < 4 by omega)).1
    have C2 := Lib.hid (cloneMsg_any z.val z.box.msgs wr (msgc9_rd (LfRd.below HH.out.b _ _ (HMS.out z hzm))) (HM.out z hzm))
    have HZ := Lib.hid hz
    have hszr := HH.out.b.size
    clear hz hzm hlen hzz
    go_wp2_with fail
    refine C2.out.mono ?_
    rintro e w2 ⟨p2, c2, rfl, ho2, b2⟩
    obtain ⟨h1, h2, h3⟩ := HH.out.step rfl HZ.out hszr b2 ho2
    have HH2 := Lib.hid h1
    have h2 : w2.cell? ⟨b, k * 4 + 3, none⟩ = some (.slice z.pt z.box.msgs.length z.cp) := h2
    clear ho2 b2 h1 C2 e3 HH
    go_wp2
    go_roundw
    case rel => exact ⟨k + 1, _, by omega, by go_num, HH2.out⟩
    case measure => simp [intOf]; omega

theorem all_one (l : List BoxD) (x : ComD) : allL l [x] = (appliedL l x, appB l x) := by
  cases ha : appB l x with
  | false => rw [applied_no ha]; unfold allL; rw [ha]; rfl
  | true => rw [applied_yes ha]; unfold allL; rw [ha]; rfl
def AllPost (l : List BoxD) (lg : List ComD) (w : World) (e : Ending) (w' : World) : Prop :=
  ∃ z0 f0, e = .returned (.tuple #[z0, .bool (allL l lg).2]) ∧ Tree w' w.heap.size (boxsLf (allL l lg).1) z0 f0 ∧ Below w.heap.size w w'
theorem all_post {l m : List BoxD} {lg : List ComD} {ps : List BP} {t : Bool} {w w' : World} {z : Value} (ha : allL l lg = (m, t)) (hm : ps.map BP.box = m) (hO : Own9 w.heap.size w' z ps) (hB : Below w.heap.size w w') : AllPost l lg w (.returned (.tuple #[z, .bool t])) w' :=
  ⟨z, _, by rw [ha], by rw [ha]; exact hm ▸ hO.tree, hB⟩
/-- A log's cells. -/
def LogAt (w : World) (pg : Option Addr) (lg : List ComD) : Prop := lg = [] ∨ ∃ b off, pg = some ⟨b, off, none⟩ ∧ b < w.heap.size ∧ ∀ i x, lg[i]? = some x → w.cell? ⟨b, off + i * 6, none⟩ = some (.int .i64 x.kind) ∧ w.cell? ⟨b, off + i * 6 + 1, none⟩ = some (.int .i64 x.validity) ∧ w.cell? ⟨b, off + i * 6 + 2, none⟩ = some (.int .i64 x.uid) ∧ w.cell? ⟨b, off + i * 6 + 3, none⟩ = some (.int .i64 x.flags) ∧ w.cell? ⟨b, off + i * 6 + 4, none⟩ = some (sv x.name) ∧ w.cell? ⟨b, off + i * 6 + 5, none⟩ = some (sv x.text)

theorem own9_not {B : Nat} {W : World} {v : Value} {ps : List BP} {b : Nat} {cs : Array Value} {T : TypeId} (h : Own9 B W v ps) (hb : W.heap[b]? = some (.cells cs T (0, 0))) (h1 : T ≠ 38) (h2 : T ≠ 87) : b ∉ fpsOf v ps := by
  intro hm
  rcases List.mem_append.1 hm with hm | hm
  · obtain ⟨cur, hc⟩ := own_type h.row hm
    rw [hb] at hc
    injection hc with hc
    injection hc with _ hc _
    exact h1 hc
  · obtain ⟨p, hp, hq⟩ := List.mem_flatMap.1 hm
    have hi := msgs_in.1 (h.ok p hp)
    rw [hi.2] at hq
    obtain ⟨cur, hc⟩ := own_type hi.1 hq
    rw [hb] at hc
    injection hc with hc
    injection hc with _ hc _
    exact h2 hc
theorem Own9.lower {B B' : Nat} {W : World} {v : Value} {ps : List BP} (h : Own9 B W v ps) (hb : B' ≤ B) : Own9 B' W v ps := ⟨own9_lower h.row hb, h.ok, h.nd, fun q hq => Nat.le_trans hb (h.low q hq)⟩
/-- A cell of a block apart is set. -/
theorem Own9.apart {B : Nat} {W : World} {v : Value} {ps : List BP} {b i : Nat} {u : Value} (h : Own9 B W v ps) (hb : b ∉ fpsOf v ps) : Own9 B (W.setCell ⟨b, i, none⟩ u) v ps :=
  ⟨own_frame h.row (fun k hk => set_other (fun e => hb (List.mem_append_left _ (by rw [hk, ← e]; simp)))), fun p hp => LfIn.set (h.ok p hp) (fun hm => hb (List.mem_append_right _ (List.mem_flatMap.2 ⟨p, hp, hm⟩))), h.nd, h.low⟩

def ErrG (W : World) : Prop := ∃ er, ErrAt W er
theorem errG_keeps : Keeps ErrG := fun _ _ ⟨er, h⟩ hb => ⟨er, (hb.cell (p := ⟨0, 0, none⟩) (World.block_lt_of_cell? _ _ h)).trans h⟩
/-- Boxes of the call's own, held in the first cell of a block of its own. -/
structure HeldM (B b : Nat) (cs : Array Value) (T : TypeId) (er : Addr) (W : World) (v : Value) (ps : List BP) : Prop where
  own : Own9 B W v ps
  blk : W.heap[b]? = some (.cells cs T (0, 0))
  at0 : cs[0]? = some v
  t1 : T ≠ 38
  t2 : T ≠ 87
  er : ErrAt W er
  hB : B ≤ b
  hg : 0 < B
section
variable {B b : Nat} {cs : Array Value} {T : TypeId} {er : Addr} {W W' : World} {v v' : Value} {ps : List BP}
theorem HeldM.lt (h : HeldM B b cs T er W v ps) : b < W.heap.size := (Array.getElem?_eq_some_iff.1 h.blk).1
theorem HeldM.size (h : HeldM B b cs T er W v ps) : B ≤ W.heap.size := Nat.le_trans h.hB (Nat.le_of_lt h.lt)
theorem HeldM.cell (h : HeldM B b cs T er W v ps) : W.cell? ⟨b, 0, none⟩ = some v ∧ W.frozen? ⟨b, 0, none⟩ = false := ⟨(Lib.cell_of_heap h.blk 0).trans h.at0, Lib.frozen_of_heap h.blk 0⟩
theorem HeldM.under (h : HeldM B b cs T er W v ps) (hb : Below W.heap.size W W') : HeldM B b cs T er W' v ps :=
  ⟨h.own.below hb, (hb.block b h.lt).trans h.blk, h.at0, h.t1, h.t2, (hb.cell (p := ⟨0, 0, none⟩) (World.block_lt_of_cell? _ _ h.er)).trans h.er, h.hB, h.hg⟩
theorem HeldM.not (h : HeldM B b cs T er W v ps) : b ∉ fpsOf v ps := own9_not h.own h.blk h.t1 h.t2
/-- Behind a commit that was performed on the rows. -/
theorem HeldM.after (h : HeldM B b cs T er W v ps) (hg : GrownIn W W' (fpsOf v ps)) {u : Value} {rs : List BP} (hO : Own9 B W' u rs) : W'.heap[b]? = some (.cells cs T (0, 0)) ∧ ErrAt W' er ∧ b ∉ fpsOf u rs := by
  have hb := (hg.block b h.lt h.not).trans h.blk
  exact ⟨hb, ((h.own.under hg h.size).cell (p := ⟨0, 0, none⟩) h.hg).trans h.er, own9_not hO hb h.t1 h.t2⟩
theorem HeldM.put (h : HeldM B b cs T er W v ps) (hg : GrownIn W W' (fpsOf v ps)) {u : Value} {rs : List BP} (hO : Own9 B W' u rs) (hc : 0 < cs.size) : HeldM B b (cs.setIfInBounds 0 u) T er (W'.setCell ⟨b, 0, none⟩ u) u rs := by
  obtain ⟨h1, h2, h3⟩ := h.after hg hO
  have hgb : 0 ≠ b := by have := h.hg; have := h.hB; omega
  exact ⟨hO.apart h3, set_heap h1, by simp [hc], h.t1, h.t2, (World.cell?_of_block (set_other hgb)).trans h2, h.hB, h.hg⟩
theorem HeldM.keep (h : HeldM B b cs T er W v ps) (hg : GrownIn W W' (fpsOf v ps)) (hO : Own9 B W' v ps) : HeldM B b cs T er W' v ps := by
  obtain ⟨h1, h2, _⟩ := h.after hg hO
  exact ⟨hO, h1, h.at0, h.t1, h.t2, h2, h.hB, h.hg⟩
theorem set_same0 {cs : Array Value} {v : Value} (h : cs[0]? = some v) : cs.setIfInBounds 0 v = cs := by
  obtain ⟨l⟩ := cs
  cases l with
  | nil => simp at h
  | cons a l =>
    simp at h
    subst h
    simp
theorem HeldM.pos (h : HeldM B b cs T er W v ps) : 0 < cs.size := (Array.getElem?_eq_some_iff.1 h.at0).1
end
def ApplyPost (B b : Nat) (cs : Array Value) (T : TypeId) (er : Addr) (ps : List BP) (v : Value) (x : ComD) (w : World) (e : Ending) (w' : World) : Prop :=
  ∃ v' rs, e = .returned (.bool (appB (ps.map BP.box) x)) ∧ rs.map BP.box = appliedL (ps.map BP.box) x ∧ HeldM B b (cs.setIfInBounds 0 v') T er w' v' rs ∧ Below B w w' ∧ GrownIn w w' (b :: fpsOf v ps)

set_option maxRecDepth 20000 in
set_option maxHeartbeats 6400000 in
theorem apply_any (B b : Nat) (cs : Array Value) (T : TypeId) (er : Addr) (ps : List BP) (v : Value) (x : ComD) (w : World) (h : HeldM B b cs T er w v ps) (hr : boxesB (ps.map BP.box) = true) (hs2 : szLs x.lf ≤ 1048576) (hbd2 : LsBnd x.lf) :
    Calls Tryz.prog 81 #[.pointer (some ⟨b, 0, none⟩), .agg #[.int .i64 x.kind, .int .i64 x.validity, .int .i64 x.uid, .int .i64 x.flags, sv x.name, sv x.text]] w fun e w' => ApplyPost B b cs T er ps v x w e w' := by
  have hb1 : Below w.heap.size w (w.alloc (.cells #[.int .i64 x.kind, .int .i64 x.validity, .int .i64 x.uid, .int .i64 x.flags, sv x.name, sv x.text] 26)) := (Below.refl _ _).alloc (Nat.le_refl _) _
  have hn1 := heap_alloc_new w (.cells #[.int .i64 x.kind, .int .i64 x.validity, .int .i64 x.uid, .int .i64 x.flags, sv x.name, sv x.text] 26)
  obtain ⟨X, hX⟩ : ∃ X, w.alloc (.cells #[.int .i64 x.kind, .int .i64 x.validity, .int .i64 x.uid, .int .i64 x.flags, sv x.name, sv x.text] 26) = X := ⟨_, rfl⟩
  rw [hX] at hb1 hn1
  have HX := Lib.hid ((h.under hb1).under (Below.refl _ _).drew)
  have HB0 := Lib.hid (hb1.trans ((Below.refl X.heap.size X).drew.mono hb1.size))
  have hn1 : X.drew.heap[w.heap.size]? = _ := hn1
  have HN := Lib.hid hn1
  have HW := Lib.hid h
  have CP := Lib.hid (perform_any B ps v x er X.drew HX.out.own HX.out.er HX.out.size HX.out.hg hr hs2 hbd2)
  obtain ⟨c0, z0⟩ := HX.out.cell
  have a0 : X.drew.cell? ⟨w.heap.size, 0, none⟩ = some (.int .i64 x.kind) := (Lib.cell_of_heap hn1 0).trans rfl
  have a1 : X.drew.cell? ⟨w.heap.size, 1, none⟩ = some (.int .i64 x.validity) := (Lib.cell_of_heap hn1 1).trans rfl
  have a2 : X.drew.cell? ⟨w.heap.size, 2, none⟩ = some (.int .i64 x.uid) := (Lib.cell_of_heap hn1 2).trans rfl
  have a3 : X.drew.cell? ⟨w.heap.size, 3, none⟩ = some (.int .i64 x.flags) := (Lib.cell_of_heap hn1 3).trans rfl
  have a4 : X.drew.cell? ⟨w.heap.size, 4, none⟩ = some (sv x.name) := (Lib.cell_of_heap hn1 4).trans rfl
  have a5 : X.drew.cell? ⟨w.heap.size, 5, none⟩ = some (sv x.text) := (Lib.cell_of_heap hn1 5).trans rfl
  have hpos := h.pos
  clear h hr hs2 hbd2 hb1 hn1 z0
  go_enter Tryz.func81, Tryz.ntmps81
  go_wp2
  clear hX
  refine ord_start [(0, true), (1, true), (2, true), (3, true), (4, true), (5, false), (6, true), (7, true), (8, true), (9, true), (10, true)] (fun W => W.cell? ⟨b, 0, none⟩ = some v ∧ W.cell? ⟨w.heap.size, 0, none⟩ = some (.int .i64 x.kind) ∧ W.cell? ⟨w.heap.size, 1, none⟩ = some (.int .i64 x.validity) ∧ W.cell? ⟨w.heap.size, 2, none⟩ = some (.int .i64 x.uid) ∧ W.cell? ⟨w.heap.size, 3, none⟩ = some (.int .i64 x.flags) ∧ W.cell? ⟨w.heap.size, 4, none⟩ = some (sv x.name) ∧ W.cell? ⟨w.heap.size, 5, none⟩ = some (sv x.text)) (by kernel_rfl) (by kernel_rfl) rfl (by kernel_rfl) ?_
  intro ops' hops
  clear hops
  simp only [List.map_cons, List.map_nil, pickOp_zero, pickOp_succ]
  iterate 5 (refine ord_flo ?_ (fun _ _ _ h => h) rfl ?_ ⟨c0, a0, a1, a2, a3, a4, a5⟩ ?_; rotate_left; focus (intro W hS; obtain ⟨s0, s1, s2, s3, s4, s5, s6⟩ := hS; go_simp; rfl))
  refine ord_ev rfl ?_
  go_simp
  refine CP.out.mono ?_
  rintro e w3 ⟨v', z, rfl, hg3, hor⟩
  have hO3 : ∃ u rs, Own9 B w3 u rs := by
    rcases hor with ⟨_, _, rs, hO, _⟩ | ⟨_, _, hO⟩
    · exact ⟨_, rs, hO⟩
    · exact ⟨_, ps, hO⟩
  obtain ⟨u0, rs0, hO0⟩ := hO3
  obtain ⟨k1, k2, -⟩ := HX.out.after hg3 hO0
  have hbw := HX.out.own.under hg3 HX.out.size
  have hfr : w3.heap[w.heap.size]? = some (.cells #[.int .i64 x.kind, .int .i64 x.validity, .int .i64 x.uid, .int .i64 x.flags, sv x.name, sv x.text] 26 (0, 0)) := (hg3.block _ (Array.getElem?_eq_some_iff.1 HN.out).1 (fun hm => by have h1 := LfIn.lt _ _ _ HW.out.own.tree.is _ hm; omega)).trans HN.out
  have hc3 : w3.cell? ⟨b, 0, none⟩ = some v := (Lib.cell_of_heap k1 0).trans HX.out.at0
  have hz3 : w3.frozen? ⟨b, 0, none⟩ = false := Lib.frozen_of_heap k1 0
  have HZ3 := Lib.hid hz3
  have HC3 := Lib.hid hc3
  have HE3 := Lib.hid k2
  have HB3 := Lib.hid (HB0.out.mono HW.out.size |>.trans hbw)
  have HG3 := Lib.hid hg3
  have HOR := Lib.hid hor
  clear c0 a0 a1 a2 a3 a4 a5
  have a0 : w3.cell? ⟨w.heap.size, 0, none⟩ = some (.int .i64 x.kind) := (Lib.cell_of_heap hfr 0).trans rfl
  have a1 : w3.cell? ⟨w.heap.size, 1, none⟩ = some (.int .i64 x.validity) := (Lib.cell_of_heap hfr 1).trans rfl
  have a2 : w3.cell? ⟨w.heap.size, 2, none⟩ = some (.int .i64 x.uid) := (Lib.cell_of_heap hfr 2).trans rfl
  have a3 : w3.cell? ⟨w.heap.size, 3, none⟩ = some (.int .i64 x.flags) := (Lib.cell_of_heap hfr 3).trans rfl
  have a4 : w3.cell? ⟨w.heap.size, 4, none⟩ = some (sv x.name) := (Lib.cell_of_heap hfr 4).trans rfl
  have a5 : w3.cell? ⟨w.heap.size, 5, none⟩ = some (sv x.text) := (Lib.cell_of_heap hfr 5).trans rfl
  clear hor hO0 k1 k2 hbw hfr hg3 hz3 CP rs0 u0
  refine ⟨⟨hc3, a0, a1, a2, a3, a4, a5⟩, ?_⟩
  iterate 5 (refine ord_flo ?_ (fun _ _ _ h => h) rfl ?_ ⟨hc3, a0, a1, a2, a3, a4, a5⟩ ?_; rotate_left; focus (intro W hS; obtain ⟨s0, s1, s2, s3, s4, s5, s6⟩ := hS; go_simp; rfl))
  refine ord_done ?_
  go_simp
  clear hc3 a0 a1 a2 a3 a4 a5
  have heq : w3.cell? ⟨0, 0, none⟩ = some (errV er) := HE3.out
  have hdz : w3.frozen? ⟨b, 0, none⟩ = false := HZ3.out
  have hdc : w3.cell? ⟨b, 0, none⟩ = some v := HC3.out
  have HGD := Lib.hid HG3.out
  have HGB := Lib.hid (((GrownIn.of_below HB0.out).mono (fun k hk => List.mem_cons_of_mem b hk)).trans (HGD.out.mono (fun k hk => List.mem_cons_of_mem b hk)))
  have HBD := Lib.hid HB3.out
  cases ha : appB (ps.map BP.box) x with
  | false =>
    obtain ⟨_, rfl, hO⟩ := HOR.out.resolve_left (fun h => by rw [ha] at h; cases h.1)
    have IS := Lib.hid (is_same er w3)
    have HP := Lib.hid (show ApplyPost B b cs T er ps v x w (.returned (.bool false)) w3 from ⟨v, ps, by rw [ha], by rw [applied_no ha], by rw [set_same0 HX.out.at0]; exact HX.out.keep HGD.out hO, HBD.out, HGB.out⟩)
    clear hO ha
    go_wp2_with fail
    refine IS.out.mono ?_
    rintro e w4 ⟨rfl, rfl⟩
    go_wp2
    go_ret
    exact HP.out
  | true =>
    obtain ⟨_, rfl, rs, hO, hrs⟩ := HOR.out.resolve_right (fun h => by rw [ha] at h; cases h.1)
    obtain ⟨p2, c2, hv2⟩ := LfIn.slice hO.tree.is
    rw [List.length_map] at hv2
    subst hv2
    have IS := Lib.hid (is_nil er w3)
    have HP := Lib.hid (show ApplyPost B b cs T er ps v x w (.returned (.bool true)) (w3.setCell ⟨b, 0, none⟩ (.slice p2 rs.length c2)) from ⟨_, rs, by rw [ha], by rw [applied_yes ha]; exact hrs, HX.out.put HGD.out hO hpos, HBD.out.setCell HW.out.hB _, HGB.out.trans (GrownIn.set (List.mem_cons_self ..))⟩)
    clear hO ha hrs
    go_wp2_with fail
    refine IS.out.mono ?_
    rintro e w4 ⟨rfl, rfl⟩
    clear heq IS
    go_wp2
    go_ret
    exact HP.out

set_option maxHeartbeats 3200000 in
theorem ownMailboxes_any (l : List BoxD) (v : Value) (w : World) (hr : LfRd w (boxsLf l) v) (hl : l.length ≤ 1048576) (hm : ∀ x ∈ l, x.msgs.length ≤ 1048576) :
    Calls Tryz.prog 80 #[v] w fun e w' => ∃ v' ps, e = .returned (.agg #[v']) ∧ ps.map BP.box = l ∧ Own9 w.heap.size w' v' ps ∧ Below w.heap.size w w' := by
  have hb0 : Below w.heap.size w (w.alloc (.cells #[.slice none 0 0] 99)) := (Below.refl _ _).alloc (Nat.le_refl _) _
  have hn0 := heap_alloc_new w (.cells #[.slice none 0 0] 99)
  have C := Lib.hid (copiedBoxes_any l v (w.alloc (.cells #[.slice none 0 0] 99)) (LfRd.below hb0 _ _ hr) hl hm)
  have hz0 : (w.alloc (.cells #[.slice none 0 0] 99)).heap.size = w.heap.size + 1 := by simp
  obtain ⟨p0, c0, rfl⟩ := LfRd.slice hr
  have HB0 := Lib.hid (And.intro hb0 (And.intro hn0 hz0))
  clear hb0 hn0 hz0 hr hl hm
  go_enter Tryz.func80, Tryz.ntmps80
  go_wp2_with fail
  refine C.out.mono ?_
  rintro e w1 ⟨v1, ps, rfl, hps, hO, hb1⟩
  obtain ⟨p1, c1, hv1⟩ := LfIn.slice hO.tree.is
  rw [List.length_map] at hv1
  subst hv1
  have hn1 := (hb1.block w.heap.size (by rw [HB0.out.2.2]; omega)).trans HB0.out.2.1
  have q0 := (Lib.cell_of_heap hn1 0).trans (show _ = some (.slice none 0 0) from rfl)
  have r0 : w1.frozen? ⟨w.heap.size, 0, none⟩ = false := Lib.frozen_of_heap hn1 0
  have t0 : (w1.setCell ⟨w.heap.size, 0, none⟩ (.slice p1 ps.length c1)).cell? ⟨w.heap.size, 0, none⟩ = some (.slice p1 ps.length c1) := (Lib.cell_of_heap (set_heap hn1) 0).trans rfl
  have HF := Lib.hid (show ps.map BP.box = l ∧ Own9 w.heap.size (w1.setCell ⟨w.heap.size, 0, none⟩ (.slice p1 ps.length c1)) (.slice p1 ps.length c1) ps ∧ Below w.heap.size w (w1.setCell ⟨w.heap.size, 0, none⟩ (.slice p1 ps.length c1)) from ⟨hps, (hO.lower (by rw [HB0.out.2.2]; omega)).apart (fun hm => by have := hO.tree.low _ hm; rw [HB0.out.2.2] at this; omega), (HB0.out.1.trans (hb1.mono (by rw [HB0.out.2.2]; omega))).setCell (Nat.le_refl _) _⟩)
  clear hps hO hb1 hn1 C HB0
  go_wp2_with fail
  exact bodyPost_ret (v := .agg #[.slice p1 ps.length c1]) (by simp [results, Tryz.results80, go_sem, t0]) rfl ⟨_, ps, rfl, HF.out.1, HF.out.2.1, HF.out.2.2⟩

set_option maxRecDepth 20000 in
set_option maxHeartbeats 6400000 in
theorem implAppliedAll_any (l : List BoxD) (v : Value) (lg : List ComD) (pg : Option Addr) (cg : Nat) (er : Addr) (w : World) (he : ErrAt w er) (hr : LfRd w (boxsLf l) v) (hcap : CapLe v) (hs : szLf (boxsLf l) ≤ 1048576) (hbd : LfBnd (boxsLf l)) (hg : LogAt w pg lg) (hlg : lg.length ≤ 1048576) (hcm : ∀ x ∈ lg, szLs x.lf ≤ 1048576 ∧ LsBnd x.lf) :
    Calls Tryz.prog 28 #[v, .slice pg lg.length cg] w fun e w' => AllPost l lg w e w' := by
  obtain ⟨hl, _, _, hsl⟩ := boxes_small hs hbd
  have CC := Lib.hid (ownMailboxes_any l v w hr hl (box_msgs hsl))
  have CB := Lib.hid (fun (X : World) (g : Below w.heap.size w X) => implBoxesOk_c (G := fun _ => True) l v X trivial (LfRd.below g _ _ hr) hcap hs hbd)
  have HG := Lib.hid hg
  have HCM := Lib.hid hcm
  have hgw : 0 < w.heap.size := World.block_lt_of_cell? _ _ he
  have HE := Lib.hid (fun W (g : Below w.heap.size w W) => ((g.cell (p := ⟨0, 0, none⟩) hgw).trans he : ErrAt W er))
  obtain ⟨p, c, rfl⟩ := LfRd.slice hr
  clear hr hs hbd hg hcm hl hsl he hcap
  have HW := Lib.hid (fun (w1 : World) (v1 : Value) (ps : List BP) (own : Own9 w.heap.size w1 v1 ps) (b1 : Below w.heap.size w w1) => (⟨⟨own.below ((Below.refl _ _).alloc (Nat.le_refl _) _), heap_alloc_new w1 _, rfl, by decide, by decide, HE.out _ (b1.alloc b1.size _), b1.size, hgw⟩, b1.alloc b1.size _⟩ : HeldM w.heap.size w1.heap.size #[v1] 99 er (w1.alloc (.cells #[v1] 99)) v1 ps ∧ Below w.heap.size w (w1.alloc (.cells #[v1] 99))))
  by_cases h0 : lg.length = 0
  case pos =>
    obtain rfl := List.eq_nil_of_length_eq_zero h0
    clear h0
    go_enter Tryz.func28, Tryz.ntmps28
    go_wp2_with fail
    refine CC.out.mono ?_
    rintro e w1 ⟨v1, ps, rfl, hps, own, b1⟩
    obtain ⟨p1, c1, hv1⟩ := LfIn.slice own.tree.is
    rw [List.length_map] at hv1
    subst hv1
    obtain ⟨hH, hB⟩ := HW.out w1 _ ps own b1
    have HP := Lib.hid (all_post (lg := []) rfl hps hH.own hB)
    clear hps own b1 CC hH hB
    go_wp2
    refine wp_loop_rounds 1 ?_
    rw [rounds_succ]
    go_wp2
    go_ret2
    exact HP.out
  have hgt : (lg.length : Int) > 0 := by omega
  cases hb : boxesB l with
  | false =>
    have HV := Lib.hid (show allL l lg = (l, false) by
      cases lg with
      | nil => exact absurd rfl h0
      | cons x r => unfold allL; rw [app_no1 hb]; rfl)
    rw [hb] at CB
    clear h0 hb
    go_enter Tryz.func28, Tryz.ntmps28
    go_wp2_with fail
    refine CC.out.mono ?_
    rintro e w1 ⟨v1, ps, rfl, hps, own, b1⟩
    obtain ⟨p1, c1, hv1⟩ := LfIn.slice own.tree.is
    rw [List.length_map] at hv1
    subst hv1
    obtain ⟨hH, hB⟩ := HW.out w1 _ ps own b1
    have HH := Lib.hid (And.intro hH (And.intro hB hps))
    have D1 := Lib.hid (CB.out _ hB)
    clear hps own b1 CC CB hH hB
    go_wp2_with fail
    refine D1.out.mono ?_
    rintro e w2 ⟨rfl, b2⟩
    have hH2 := HH.out.1.under b2
    have hB2 := HH.out.2.1.trans (b2.mono HH.out.2.1.size)
    have HP := Lib.hid (all_post HV.out HH.out.2.2 hH2.own hB2)
    obtain ⟨c0, -⟩ := hH2.cell
    clear b2 D1 hH2 hB2
    go_wp2
    go_ret2
    exact HP.out
  | true =>
  have HBB := Lib.hid hb
  rw [hb] at CB
  clear h0 hb
  go_enter Tryz.func28, Tryz.ntmps28
  go_wp2_with fail
  refine CC.out.mono ?_
  rintro e w1 ⟨v1, ps, rfl, hps, own, b1⟩
  obtain ⟨p1, c1, hv1⟩ := LfIn.slice own.tree.is
  rw [List.length_map] at hv1
  subst hv1
  obtain ⟨hH, hB⟩ := HW.out w1 _ ps own b1
  have HH := Lib.hid (And.intro hH (And.intro hB hps))
  have D1 := Lib.hid (CB.out _ hB)
  clear hps own b1 CC CB hH hB
  go_wp2_with fail
  refine D1.out.mono ?_
  rintro e w2 ⟨rfl, b2⟩
  have HST := Lib.hid (And.intro (HH.out.1.under b2) (And.intro HH.out.2.2 (HH.out.2.1.trans (b2.mono HH.out.2.1.size))))
  obtain ⟨bo, hbo⟩ : ∃ bo, w1.heap.size = bo := ⟨_, rfl⟩
  rw [hbo] at HST ⊢
  clear b2 D1 HH hbo
  go_wp2
  go_loopw [23] (fun i wr => ∃ (k : Nat) (qs : List BP) (v : Value), k ≤ lg.length ∧ i = .int .i64 k ∧ allL (qs.map BP.box) (lg.drop k) = allL l lg ∧ boxesB (qs.map BP.box) = true ∧ HeldM w.heap.size bo #[v] 99 er wr v qs ∧ Below w.heap.size w wr) (fun i _ => lg.length - (intOf i).toNat)
  case atStart => exact ⟨0, ps, _, by omega, rfl, by rw [List.drop_zero, HST.out.2.1], by rw [HST.out.2.1]; exact HBB.out, HST.out.1, HST.out.2.2⟩
  case round =>
    obtain ⟨k, qs, v, hk, rfl, hall, hright, hO, hbr⟩ := hrel
    obtain ⟨pv, cv, hvv⟩ := LfIn.slice hO.own.tree.is
    rw [List.length_map] at hvv
    subst hvv
    have HALL := Lib.hid hall
    have HR := Lib.hid hright
    have HOW := Lib.hid hO
    clear HST hall hright hO
    by_cases hlt : k < lg.length
    case neg =>
      obtain rfl : k = lg.length := by omega
      have HP := Lib.hid (all_post (l := l) (lg := lg) (show allL l lg = (qs.map BP.box, true) by rw [← HALL.out, all_end]) rfl HOW.out.own hbr)
      obtain ⟨c0, -⟩ := HOW.out.cell
      clear HOW hbr
      go_wp2
      go_ret2
      exact HP.out
    obtain ⟨b, off, rfl, hb1, hc⟩ := HG.out.resolve_left (by intro h; subst h; simp at hlt)
    obtain ⟨x, hx⟩ : ∃ x, lg[k]? = some x := ⟨_, List.getElem?_eq_getElem hlt⟩
    obtain ⟨x0, x1, x2, x3, x4, x5⟩ := hc k x hx
    have e0 : wr.cell? ⟨b, off + k * 6, none⟩ = some (.int .i64 x.kind) := (hbr.cell (p := ⟨b, off + k * 6, none⟩) hb1).trans x0
    have e1 : wr.cell? ⟨b, off + k * 6 + 1, none⟩ = some (.int .i64 x.validity) := (hbr.cell (p := ⟨b, off + k * 6 + 1, none⟩) hb1).trans x1
    have e2 : wr.cell? ⟨b, off + k * 6 + 2, none⟩ = some (.int .i64 x.uid) := (hbr.cell (p := ⟨b, off + k * 6 + 2, none⟩) hb1).trans x2
    have e3 : wr.cell? ⟨b, off + k * 6 + 3, none⟩ = some (.int .i64 x.flags) := (hbr.cell (p := ⟨b, off + k * 6 + 3, none⟩) hb1).trans x3
    have e4 : wr.cell? ⟨b, off + k * 6 + 4, none⟩ = some (sv x.name) := (hbr.cell (p := ⟨b, off + k * 6 + 4, none⟩) hb1).trans x4
    have e5 : wr.cell? ⟨b, off + k * 6 + 5, none⟩ = some (sv x.text) := (hbr.cell (p := ⟨b, off + k * 6 + 5, none⟩) hb1).trans x5
    obtain ⟨hx1, hx2⟩ := HCM.out x (List.mem_of_getElem? hx)
    have hzw := hbr.size
    have HX := Lib.hid hx
    have hbX : Below wr.heap.size wr (wr.alloc (.cells #[.int .i64 x.kind, .int .i64 x.validity, .int .i64 x.uid, .int .i64 x.flags, sv x.name, sv x.text] 26)) := (Below.refl _ _).alloc (Nat.le_refl _) _
    have CP := Lib.hid (apply_any w.heap.size bo _ _ er qs _ x _ (HOW.out.under hbX) HR.out hx1 hx2)
    have HBX := Lib.hid (hbr.trans (hbX.mono hzw))
    clear hc x0 x1 x2 x3 x4 x5 hx hx1 hx2 hbX hbr
    cases ha : appB (qs.map BP.box) x with
    | false =>
      have HV := Lib.hid (show allL l lg = (qs.map BP.box, false) by rw [← HALL.out, all_no HX.out ha])
      have HA := Lib.hid ha
      go_wp2_with fail
      refine CP.out.mono ?_
      rintro e w3 ⟨v', rs, rfl, hrs, hH, hb3, -⟩
      rw [HA.out]
      rw [applied_no HA.out] at hrs
      obtain ⟨p2, c2, hv2⟩ := LfIn.slice hH.own.tree.is
      rw [List.length_map] at hv2
      subst hv2
      have HP := Lib.hid (all_post HV.out hrs hH.own (HBX.out.trans hb3))
      obtain ⟨c0, -⟩ := hH.cell
      clear hrs hH hb3 CP e0 e1 e2 e3 e4 e5 ha
      go_wp2
      go_ret2
      exact HP.out
    | true =>
      have HV := Lib.hid (show allL (doneL (qs.map BP.box) x) (lg.drop (k + 1)) = allL l lg by rw [← HALL.out, all_yes HX.out ha, applied_yes ha])
      have HDR := Lib.hid (done_right ha)
      have HA := Lib.hid ha
      go_wp2_with fail
      refine CP.out.mono ?_
      rintro e w3 ⟨v', rs, rfl, hrs, hH, hb3, -⟩
      rw [HA.out]
      rw [applied_yes HA.out] at hrs
      have HN := Lib.hid (And.intro hH (And.intro hrs (HBX.out.trans hb3)))
      clear hrs hH hb3 CP e0 e1 e2 e3 e4 e5 ha
      go_wp2
      go_roundw
      case rel => exact ⟨k + 1, rs, _, by omega, by go_num, by rw [HN.out.2.1]; exact HV.out, by rw [HN.out.2.1]; exact HDR.out, HN.out.1, HN.out.2.2⟩
      case measure => simp [intOf]; omega
theorem implAppliedAll_c : CtrAppliedAll 28 ErrG := by
  rintro l v lg vg w ⟨er, he⟩ hr hcap hs hbd hr2 _ hs2 hbd2
  obtain ⟨hlg, hcm⟩ := coms_small hs2 hbd2
  obtain ⟨pg, cg, rfl, hg⟩ := ComD.at hr2
  refine (implAppliedAll_any l v lg pg cg er w he hr hcap hs hbd hg hlg hcm).mono ?_
  rintro e w1 ⟨z0, f0, rfl, ht, hb⟩
  exact ⟨z0, f0, rfl, ht.is, ht.nodup, ht.low, hb⟩

set_option maxHeartbeats 3200000 in
theorem implApplied_c : CtrApplied 18 ErrG := by
  rintro l v x w ⟨er, he⟩ hr hcap hs hbd hs2 hbd2
  have hgw : 0 < w.heap.size := World.block_lt_of_cell? _ _ he
  have hb1 : Below w.heap.size w (w.alloc (.cells #[.int .i64 x.kind, .int .i64 x.validity, .int .i64 x.uid, .int .i64 x.flags, sv x.name, sv x.text] 26)) := (Below.refl _ _).alloc (Nat.le_refl _) _
  have hb2 : Below w.heap.size w ((w.alloc (.cells #[.int .i64 x.kind, .int .i64 x.validity, .int .i64 x.uid, .int .i64 x.flags, sv x.name, sv x.text] 26)).alloc (.cells #[.int .i64 x.kind, .int .i64 x.validity, .int .i64 x.uid, .int .i64 x.flags, sv x.name, sv x.text] 26)) := hb1.alloc (by simp) _
  have hnew := heap_alloc_new (w.alloc (.cells #[.int .i64 x.kind, .int .i64 x.validity, .int .i64 x.uid, .int .i64 x.flags, sv x.name, sv x.text] 26)) (.cells #[.int .i64 x.kind, .int .i64 x.validity, .int .i64 x.uid, .int .i64 x.flags, sv x.name, sv x.text] 26)
  rw [World.size_alloc] at hnew
  have hlog : LogAt ((w.alloc (.cells #[.int .i64 x.kind, .int .i64 x.validity, .int .i64 x.uid, .int .i64 x.flags, sv x.name, sv x.text] 26)).alloc (.cells #[.int .i64 x.kind, .int .i64 x.validity, .int .i64 x.uid, .int .i64 x.flags, sv x.name, sv x.text] 26)) (some ⟨w.heap.size + 1, 0, none⟩) [x] := by
    refine .inr ⟨w.heap.size + 1, 0, rfl, by simp, fun i y hy => ?_⟩
    have h0 : i = 0 := by have := (List.getElem?_eq_some_iff.1 hy).1; simpa using this
    subst h0
    have hxy : x = y := by simpa using hy
    subst hxy
    exact ⟨(Lib.cell_of_heap hnew 0).trans rfl, (Lib.cell_of_heap hnew 1).trans rfl, (Lib.cell_of_heap hnew 2).trans rfl, (Lib.cell_of_heap hnew 3).trans rfl, (Lib.cell_of_heap hnew 4).trans rfl, (Lib.cell_of_heap hnew 5).trans rfl⟩
  have C := Lib.hid (implAppliedAll_any l v [x] (some ⟨w.heap.size + 1, 0, none⟩) 1 er _ ((hb2.cell (p := ⟨0, 0, none⟩) hgw).trans he) (LfRd.below hb2 _ _ hr) hcap hs hbd hlog (by simp) (fun y hy => by rw [List.mem_singleton.1 hy]; exact ⟨hs2, hbd2⟩))
  have HB := Lib.hid hb2
  obtain ⟨p, c, rfl⟩ := LfRd.slice hr
  clear hr hs hbd hs2 hbd2 hb1 hb2 hnew hlog he hcap
  go_enter Tryz.func18, Tryz.ntmps18
  go_wp2_with fail
  refine C.out.mono ?_
  rintro e w1 ⟨z0, f0, rfl, ht, hb⟩
  rw [all_one] at ht ⊢
  have HT := Lib.hid ht
  have HB1 := Lib.hid (HB.out.trans (hb.mono HB.out.size))
  have hlow : w.heap.size ≤ ((w.alloc (.cells #[.int .i64 x.kind, .int .i64 x.validity, .int .i64 x.uid, .int .i64 x.flags, sv x.name, sv x.text] 26)).alloc (.cells #[.int .i64 x.kind, .int .i64 x.validity, .int .i64 x.uid, .int .i64 x.flags, sv x.name, sv x.text] 26)).heap.size := HB.out.size
  have HL := Lib.hid hlow
  clear ht hb hlow C HB
  go_wp2
  go_ret2
  exact ⟨z0, f0, rfl, HT.out.is, HT.out.nodup, fun q hq => Nat.le_trans HL.out (HT.out.low q hq), HB1.out⟩

end Go.Proofs.YtbfgdbpfecffcaaGreatDoor
