/-
  Uv: CmdV CmdW (what the claim needs of them).
-/
import Derived.Handy
import Derived.Laws.IdiomRangeMap
import Derived.Maps.RangeRun
import Derived.WalkKit
import Derived.Maps.RangeWalk
import Derived.Deep.DeepCutAuto
import Derived.Deep.Cut
import Derived.Deep.CutRange
import Derived.Lib.Fields
import Derived.Lib.OwnKind
import Derived.Deep.LoopGhost
import Derived.Test.YtidjebepgpbcnaaGreatDoorRows
import Derived.WalkSpells
import Derived.WalkLawsBesides
import Derived.Laws.IdiomStrings
import Derived.Lib.Hide
import Derived.Deep.AppendLies
import Derived.OrdersHeld
import Derived.Lib.ItoaNum
import Derived.Lib.ItoaMem
import Derived.Lib.AppendStr
import Derived.Lib.ItoaLen
import Derived.Lib.Strings
import Derived.Lib.Bytealg
import Derived.Lib.OthersKept
import Derived.Laws.RangeAny
import Derived.Laws.BitsAllLaws
import Derived.Laws.BitsLemmas
import Derived.IntWalk
import Derived.Lib.Join
import Derived.Deep.Strs
import Derived.ProofKit
import Derived.Lib.SmallJoins
import Derived.Deep.SlicePairs
import Derived.Laws.CopyOwn
import Derived.Test.YtidjebepgpbcnaaGreatDoorProg
import Derived.Lib.LaidTab
import Derived.Lib.AppendIntMem
import Derived.OpenShut
import Derived.WalkSmall
import Derived.ChangeKeysEq
import Derived.Test.YtidjebepgpbcnaaGreatDoorUb
import Derived.Test.YtidjebepgpbcnaaGreatDoorUc
import Derived.Test.YtidjebepgpbcnaaGreatDoorUd
import Derived.Test.YtidjebepgpbcnaaGreatDoorUe
import Derived.Test.YtidjebepgpbcnaaGreatDoorUf
import Derived.Test.YtidjebepgpbcnaaGreatDoorUg
import Derived.Test.YtidjebepgpbcnaaGreatDoorUi
import Derived.Test.YtidjebepgpbcnaaGreatDoorUj
import Derived.Test.YtidjebepgpbcnaaGreatDoorUq
import Derived.Test.YtidjebepgpbcnaaGreatDoorUr
import Derived.Test.YtidjebepgpbcnaaGreatDoorUs
import Derived.Test.YtidjebepgpbcnaaGreatDoorUt
import Derived.Test.YtidjebepgpbcnaaGreatDoorUu

namespace Go.Proofs.YtidjebepgpbcnaaGreatDoor
open Go.RowKit

theorem notE_ne {s : List UInt8} (h : notE s = true) : ¬ s = [] := by unfold notE at h; simpa using h
theorem notE_eq {s : List UInt8} (h : notE s = false) : s = [] := by unfold notE at h; simpa using h

set_option maxRecDepth 20000 in
set_option maxHeartbeats 6400000 in
theorem leadingAtoms_true (x : CmdD) (a5 a10 : Value) (w : World) (hu : x.uid = true) (hT : Tab w) (ha : LfRd w (spnsLf x.sset) a5) (ha2 : LfRd w (scpsLf x.filter.scopes) a10) (hs : szLs x.lf ≤ 1048576) :
    Calls Tryz.prog 31 #[cmdv x a5 a10] w (TksPost (leadT x) w) := by
  obtain ⟨_, _, _, z5, _, _, _⟩ := CmdD.small hs
  have cS := fun W (h : Below w.heap.size w W) => implSetText_big a5 x.sset W (hT.below h) (spns_rd (LfRd.below h _ _ ha)) (by omega)
  obtain ⟨p, c, rfl, _⟩ := Spn.at ha
  obtain ⟨q, d, rfl, _⟩ := scps_at ha2
  have CS := Lib.hid cS
  have CK := Lib.hid (fun W => implKindWord_at x.kind W)
  have CO := Lib.hid (fun W => implOpText_at x.op W)
  have HL := Lib.hid (show leadT x = ([x.tag, uidW, kdW x.kind, setT x.sset, opT x.op, x.box, x.dst].filter notE).map atT by unfold leadT leadS; rw [hu]; rfl)
  have HWL := Lib.hid (show [x.tag, uidW, kdW x.kind, setT x.sset, opT x.op, x.box, x.dst].length = 7 from rfl)
  generalize hws : [x.tag, uidW, kdW x.kind, setT x.sset, opT x.op, x.box, x.dst] = ws at HL HWL
  have HWS := Lib.hid hws.symm
  clear cS ha ha2 hs z5 hT hws
  generalize leadT x = R at *
  go_enter Tryz.func31, Tryz.ntmps31
  go_wp2
  refine wp_named ?_
  intro X hX
  have H0 := Lib.hid (Own1.of hX)
  clear hX
  have HS := Lib.hid (fun (W : World) (H : Own1 36 w W #[sv x.tag, .int .i64 x.kind, sv x.box, sv x.dst, .bool true, .slice p x.sset.length c, .int .i64 x.op, .int .i64 x.flags, sv x.text, .bool x.filter.on, .slice q x.filter.scopes.length d]) => (⟨(Lib.cell_of_heap H.a 0).trans rfl, (Lib.cell_of_heap H.a 1).trans rfl, (Lib.cell_of_heap H.a 2).trans rfl, (Lib.cell_of_heap H.a 3).trans rfl, (Lib.cell_of_heap H.a 5).trans rfl, (Lib.cell_of_heap H.a 6).trans rfl⟩ : W.cell? ⟨w.heap.size, 0, none⟩ = some (sv x.tag) ∧ W.cell? ⟨w.heap.size, 1, none⟩ = some (.int .i64 x.kind) ∧ W.cell? ⟨w.heap.size, 2, none⟩ = some (sv x.box) ∧ W.cell? ⟨w.heap.size, 3, none⟩ = some (sv x.dst) ∧ W.cell? ⟨w.heap.size, 5, none⟩ = some (.slice p x.sset.length c) ∧ W.cell? ⟨w.heap.size, 6, none⟩ = some (.int .i64 x.op)))
  have hs0 := HS.out X.drew H0.out.drew
  refine ord_start [(0, true), (1, true), (2, true), (3, true), (4, true), (6, true), (7, true), (9, true), (10, true), (12, true), (13, true), (14, true), (15, true), (18, true), (5, false), (8, false), (11, false), (16, false), (17, true)] (fun W => W.cell? ⟨w.heap.size, 0, none⟩ = some (sv x.tag) ∧ W.cell? ⟨w.heap.size, 1, none⟩ = some (.int .i64 x.kind) ∧ W.cell? ⟨w.heap.size, 2, none⟩ = some (sv x.box) ∧ W.cell? ⟨w.heap.size, 3, none⟩ = some (sv x.dst) ∧ W.cell? ⟨w.heap.size, 5, none⟩ = some (.slice p x.sset.length c) ∧ W.cell? ⟨w.heap.size, 6, none⟩ = some (.int .i64 x.op)) (by kernel_rfl) (by kernel_rfl) rfl (by kernel_rfl) ?_
  intro ops' hops
  clear hops
  simp only [List.map_cons, List.map_nil, pickOp_zero, pickOp_succ]
  iterate 14 (refine ord_flo ?_ (fun _ _ _ h => h) rfl ?_ hs0 ?_; rotate_left; focus (intro W hS; obtain ⟨s0, s1, s2, s3, s4, s5⟩ := hS; go_simp; rfl))
  try go_frame
  refine ord_ev rfl ?_
  go_simp
  refine (CK.out _).mono ?_
  rintro e w1 ⟨rfl, b1⟩
  have H1 := Lib.hid (H0.out.drew.call b1)
  clear b1
  have hs1 := HS.out _ H1.out
  refine ⟨hs1, ?_⟩
  try go_frame
  refine ord_ev rfl ?_
  go_simp
  refine (CS.out _ H1.out.b).mono ?_
  rintro e w2 ⟨rfl, b2⟩
  have H2 := Lib.hid (H1.out.call b2)
  clear b2
  have hs2 := HS.out _ H2.out
  refine ⟨hs2, ?_⟩
  try go_frame
  refine ord_ev rfl ?_
  go_simp
  refine (CO.out _).mono ?_
  rintro e w3 ⟨rfl, rfl⟩
  refine ⟨hs2, ?_⟩
  try go_frame
  refine ord_ev rfl ?_
  go_simp
  have HB3 := Lib.hid (show (w2.alloc (.cells #[sv x.tag, .string ⟨#[117, 105, 100]⟩, sv (kdW x.kind), sv (setT x.sset), sv (opT x.op), sv x.box, sv x.dst] 9)).heap[w2.heap.size]? = some (.cells (ws.map sv).toArray 9 (0, 0)) from by rw [HWS.out]; exact heap_alloc_new w2 _)
  have H3 := Lib.hid (H2.out.call ((Below.refl w2.heap.size w2).alloc (Nat.le_refl _) (.cells #[sv x.tag, .string ⟨#[117, 105, 100]⟩, sv (kdW x.kind), sv (setT x.sset), sv (opT x.op), sv x.box, sv x.dst] 9)))
  have hs3 := HS.out _ H3.out
  refine ⟨by first | exact hs3 | skip, ?_⟩
  generalize w2.alloc (.cells #[sv x.tag, .string ⟨#[117, 105, 100]⟩, sv (kdW x.kind), sv (setT x.sset), sv (opT x.op), sv x.box, sv x.dst] 9) = w3 at *
  iterate 1 (refine ord_flo ?_ (fun _ _ _ h => h) rfl ?_ hs3 ?_; rotate_left; focus (intro W hS; obtain ⟨s0, s1, s2, s3, s4, s5⟩ := hS; go_simp; rfl))
  refine ord_done ?_
  go_simp
  have HZ2 := Lib.hid H2.out.z
  generalize w2.heap.size = gB at *
  have HBW := Lib.hid H3.out.b
  clear HS hs0 hs1 hs2 hs3 H0 H1 H2 H3 CK CS CO HWS
  go_wp2
  go_loopg [4, 6, 27] 7 (fun gk u u6 i wr => ∃ k : Nat, k ≤ 7 ∧ gk = 7 - k ∧ i = .int .i64 k ∧ TkC w u (((ws.take k).filter notE).map atT) wr ∧ wr.heap[gB]? = some (.cells (ws.map sv).toArray 9 (0, 0)))
  case atStart => exact ⟨0, by omega, rfl, rfl, ⟨World.ownsRow_nil _ _ _ _, HBW.out⟩, HB3.out⟩
  case round =>
    obtain ⟨k, hk, rfl, rfl, tk, hb⟩ := hrel
    have TK0 := Lib.hid tk
    have HB := Lib.hid hb
    clear tk hb HB3 HBW
    by_cases hlt : k < 7
    · obtain ⟨y, hy⟩ : ∃ y, ws[k]? = some y := ⟨_, List.getElem?_eq_getElem (by rw [HWL.out]; exact hlt)⟩
      have e1 : wr.cell? ⟨gB, k, none⟩ = some (sv y) := (Lib.cell_of_heap HB.out k).trans (by simp [hy])
      have hbl : gB < wr.heap.size := (Array.getElem?_eq_some_iff.1 HB.out).1
      have HLEN := Lib.hid (show (((ws.take k).filter notE).map atT).length ≤ 100000 by
        rw [List.length_map]
        have h1 := List.length_filter_le notE (ws.take k)
        have h2 : (ws.take k).length ≤ k := by simp [Nat.min_le_left]
        omega)
      cases hn : notE y with
      | true =>
        have hne := notE_ne hn
        have hie : y.isEmpty = false := by cases y with | nil => exact absurd rfl hne | cons _ _ => rfl
        have HT1 := Lib.hid (show (ws.take (k + 1)).filter notE = (ws.take k).filter notE ++ [y] by
          obtain ⟨h3, h2⟩ := List.getElem?_eq_some_iff.1 hy
          rw [List.take_succ_eq_append_getElem h3, h2, List.filter_append]
          simp [hn])
        clear hy hn
        go_wp2_with (at_builtin; refine wpList_tkc rfl TK0.out (atT y) (.tmp 33) (.tmp 36) rfl rfl (.inr rfl) rfl HLEN.out ?_)
        intro u' w' tk' st
        have TK1 := Lib.hid (show TkC w u' (((ws.take (k + 1)).filter notE).map atT) w' by rw [HT1.out, List.map_append]; exact tk')
        have HB1 := Lib.hid (st gB _ _ _ (by decide) HB.out)
        clear tk' st e1 TK0 HB
        go_wp2
        go_roundg (7 - (k + 1))
        case measure => omega
        case rel => exact ⟨k + 1, by omega, rfl, by go_num, TK1.out, HB1.out⟩
      | false =>
        have hne := notE_eq hn
        have HT1 := Lib.hid (show (ws.take (k + 1)).filter notE = (ws.take k).filter notE by
          obtain ⟨h3, h2⟩ := List.getElem?_eq_some_iff.1 hy
          rw [List.take_succ_eq_append_getElem h3, h2, List.filter_append]
          simp [hn])
        have TK1 := Lib.hid (show TkC w _ (((ws.take (k + 1)).filter notE).map atT) wr by rw [HT1.out]; exact TK0.out)
        clear hy hn
        subst hne
        go_wp2
        go_roundg (7 - (k + 1))
        case measure => omega
        case rel => exact ⟨k + 1, by omega, rfl, by go_num, TK1.out, HB.out⟩
    · obtain rfl : k = 7 := by omega
      have HV := Lib.hid (show R = ((ws.take 7).filter notE).map atT by rw [HL.out, List.take_of_length_le (by have := HWL.out; omega)])
      go_wp2
      go_ret
      exact ⟨_, rfl, by rw [HV.out]; exact TK0.out.own, TK0.out.below⟩

set_option maxRecDepth 20000 in
set_option maxHeartbeats 6400000 in
theorem leadingAtoms_false (x : CmdD) (a5 a10 : Value) (w : World) (hu : x.uid = false) (hT : Tab w) (ha : LfRd w (spnsLf x.sset) a5) (ha2 : LfRd w (scpsLf x.filter.scopes) a10) (hs : szLs x.lf ≤ 1048576) :
    Calls Tryz.prog 31 #[cmdv x a5 a10] w (TksPost (leadT x) w) := by
  obtain ⟨_, _, _, z5, _, _, _⟩ := CmdD.small hs
  have cS := fun W (h : Below w.heap.size w W) => implSetText_big a5 x.sset W (hT.below h) (spns_rd (LfRd.below h _ _ ha)) (by omega)
  obtain ⟨p, c, rfl, _⟩ := Spn.at ha
  obtain ⟨q, d, rfl, _⟩ := scps_at ha2
  have CS := Lib.hid cS
  have CK := Lib.hid (fun W => implKindWord_at x.kind W)
  have CO := Lib.hid (fun W => implOpText_at x.op W)
  have HL := Lib.hid (show leadT x = ([x.tag, [], kdW x.kind, setT x.sset, opT x.op, x.box, x.dst].filter notE).map atT by unfold leadT leadS; rw [hu]; rfl)
  have HWL := Lib.hid (show [x.tag, [], kdW x.kind, setT x.sset, opT x.op, x.box, x.dst].length = 7 from rfl)
  generalize hws : [x.tag, [], kdW x.kind, setT x.sset, opT x.op, x.box, x.dst] = ws at HL HWL
  have HWS := Lib.hid hws.symm
  clear cS ha ha2 hs z5 hT hws
  generalize leadT x = R at *
  go_enter Tryz.func31, Tryz.ntmps31
  go_wp2
  refine wp_named ?_
  intro X hX
  have H0 := Lib.hid (Own1.of hX)
  clear hX
  have HS := Lib.hid (fun (W : World) (H : Own1 36 w W #[sv x.tag, .int .i64 x.kind, sv x.box, sv x.dst, .bool false, .slice p x.sset.length c, .int .i64 x.op, .int .i64 x.flags, sv x.text, .bool x.filter.on, .slice q x.filter.scopes.length d]) => (⟨(Lib.cell_of_heap H.a 0).trans rfl, (Lib.cell_of_heap H.a 1).trans rfl, (Lib.cell_of_heap H.a 2).trans rfl, (Lib.cell_of_heap H.a 3).trans rfl, (Lib.cell_of_heap H.a 5).trans rfl, (Lib.cell_of_heap H.a 6).trans rfl⟩ : W.cell? ⟨w.heap.size, 0, none⟩ = some (sv x.tag) ∧ W.cell? ⟨w.heap.size, 1, none⟩ = some (.int .i64 x.kind) ∧ W.cell? ⟨w.heap.size, 2, none⟩ = some (sv x.box) ∧ W.cell? ⟨w.heap.size, 3, none⟩ = some (sv x.dst) ∧ W.cell? ⟨w.heap.size, 5, none⟩ = some (.slice p x.sset.length c) ∧ W.cell? ⟨w.heap.size, 6, none⟩ = some (.int .i64 x.op)))
  have hs0 := HS.out X.drew H0.out.drew
  refine ord_start [(0, true), (1, true), (2, true), (3, true), (4, true), (6, true), (7, true), (9, true), (10, true), (12, true), (13, true), (14, true), (15, true), (18, true), (5, false), (8, false), (11, false), (16, false), (17, true)] (fun W => W.cell? ⟨w.heap.size, 0, none⟩ = some (sv x.tag) ∧ W.cell? ⟨w.heap.size, 1, none⟩ = some (.int .i64 x.kind) ∧ W.cell? ⟨w.heap.size, 2, none⟩ = some (sv x.box) ∧ W.cell? ⟨w.heap.size, 3, none⟩ = some (sv x.dst) ∧ W.cell? ⟨w.heap.size, 5, none⟩ = some (.slice p x.sset.length c) ∧ W.cell? ⟨w.heap.size, 6, none⟩ = some (.int .i64 x.op)) (by kernel_rfl) (by kernel_rfl) rfl (by kernel_rfl) ?_
  intro ops' hops
  clear hops
  simp only [List.map_cons, List.map_nil, pickOp_zero, pickOp_succ]
  iterate 14 (refine ord_flo ?_ (fun _ _ _ h => h) rfl ?_ hs0 ?_; rotate_left; focus (intro W hS; obtain ⟨s0, s1, s2, s3, s4, s5⟩ := hS; go_simp; rfl))
  try go_frame
  refine ord_ev rfl ?_
  go_simp
  refine (CK.out _).mono ?_
  rintro e w1 ⟨rfl, b1⟩
  have H1 := Lib.hid (H0.out.drew.call b1)
  clear b1
  have hs1 := HS.out _ H1.out
  refine ⟨hs1, ?_⟩
  try go_frame
  refine ord_ev rfl ?_
  go_simp
  refine (CS.out _ H1.out.b).mono ?_
  rintro e w2 ⟨rfl, b2⟩
  have H2 := Lib.hid (H1.out.call b2)
  clear b2
  have hs2 := HS.out _ H2.out
  refine ⟨hs2, ?_⟩
  try go_frame
  refine ord_ev rfl ?_
  go_simp
  refine (CO.out _).mono ?_
  rintro e w3 ⟨rfl, rfl⟩
  refine ⟨hs2, ?_⟩
  try go_frame
  refine ord_ev rfl ?_
  go_simp
  have HB3 := Lib.hid (show (w2.alloc (.cells #[sv x.tag, .string ⟨#[]⟩, sv (kdW x.kind), sv (setT x.sset), sv (opT x.op), sv x.box, sv x.dst] 9)).heap[w2.heap.size]? = some (.cells (ws.map sv).toArray 9 (0, 0)) from by rw [HWS.out]; exact heap_alloc_new w2 _)
  have H3 := Lib.hid (H2.out.call ((Below.refl w2.heap.size w2).alloc (Nat.le_refl _) (.cells #[sv x.tag, .string ⟨#[]⟩, sv (kdW x.kind), sv (setT x.sset), sv (opT x.op), sv x.box, sv x.dst] 9)))
  have hs3 := HS.out _ H3.out
  refine ⟨by first | exact hs3 | skip, ?_⟩
  generalize w2.alloc (.cells #[sv x.tag, .string ⟨#[]⟩, sv (kdW x.kind), sv (setT x.sset), sv (opT x.op), sv x.box, sv x.dst] 9) = w3 at *
  iterate 1 (refine ord_flo ?_ (fun _ _ _ h => h) rfl ?_ hs3 ?_; rotate_left; focus (intro W hS; obtain ⟨s0, s1, s2, s3, s4, s5⟩ := hS; go_simp; rfl))
  refine ord_done ?_
  go_simp
  have HZ2 := Lib.hid H2.out.z
  generalize w2.heap.size = gB at *
  have HBW := Lib.hid H3.out.b
  clear HS hs0 hs1 hs2 hs3 H0 H1 H2 H3 CK CS CO HWS
  go_wp2
  go_loopg [4, 6, 27] 7 (fun gk u u6 i wr => ∃ k : Nat, k ≤ 7 ∧ gk = 7 - k ∧ i = .int .i64 k ∧ TkC w u (((ws.take k).filter notE).map atT) wr ∧ wr.heap[gB]? = some (.cells (ws.map sv).toArray 9 (0, 0)))
  case atStart => exact ⟨0, by omega, rfl, rfl, ⟨World.ownsRow_nil _ _ _ _, HBW.out⟩, HB3.out⟩
  case round =>
    obtain ⟨k, hk, rfl, rfl, tk, hb⟩ := hrel
    have TK0 := Lib.hid tk
    have HB := Lib.hid hb
    clear tk hb HB3 HBW
    by_cases hlt : k < 7
    · obtain ⟨y, hy⟩ : ∃ y, ws[k]? = some y := ⟨_, List.getElem?_eq_getElem (by rw [HWL.out]; exact hlt)⟩
      have e1 : wr.cell? ⟨gB, k, none⟩ = some (sv y) := (Lib.cell_of_heap HB.out k).trans (by simp [hy])
      have hbl : gB < wr.heap.size := (Array.getElem?_eq_some_iff.1 HB.out).1
      have HLEN := Lib.hid (show (((ws.take k).filter notE).map atT).length ≤ 100000 by
        rw [List.length_map]
        have h1 := List.length_filter_le notE (ws.take k)
        have h2 : (ws.take k).length ≤ k := by simp [Nat.min_le_left]
        omega)
      cases hn : notE y with
      | true =>
        have hne := notE_ne hn
        have hie : y.isEmpty = false := by cases y with | nil => exact absurd rfl hne | cons _ _ => rfl
        have HT1 := Lib.hid (show (ws.take (k + 1)).filter notE = (ws.take k).filter notE ++ [y] by
          obtain ⟨h3, h2⟩ := List.getElem?_eq_some_iff.1 hy
          rw [List.take_succ_eq_append_getElem h3, h2, List.filter_append]
          simp [hn])
        clear hy hn
        go_wp2_with (at_builtin; refine wpList_tkc rfl TK0.out (atT y) (.tmp 33) (.tmp 36) rfl rfl (.inr rfl) rfl HLEN.out ?_)
        intro u' w' tk' st
        have TK1 := Lib.hid (show TkC w u' (((ws.take (k + 1)).filter notE).map atT) w' by rw [HT1.out, List.map_append]; exact tk')
        have HB1 := Lib.hid (st gB _ _ _ (by decide) HB.out)
        clear tk' st e1 TK0 HB
        go_wp2
        go_roundg (7 - (k + 1))
        case measure => omega
        case rel => exact ⟨k + 1, by omega, rfl, by go_num, TK1.out, HB1.out⟩
      | false =>
        have hne := notE_eq hn
        have HT1 := Lib.hid (show (ws.take (k + 1)).filter notE = (ws.take k).filter notE by
          obtain ⟨h3, h2⟩ := List.getElem?_eq_some_iff.1 hy
          rw [List.take_succ_eq_append_getElem h3, h2, List.filter_append]
          simp [hn])
        have TK1 := Lib.hid (show TkC w _ (((ws.take (k + 1)).filter notE).map atT) wr by rw [HT1.out]; exact TK0.out)
        clear hy hn
        subst hne
        go_wp2
        go_roundg (7 - (k + 1))
        case measure => omega
        case rel => exact ⟨k + 1, by omega, rfl, by go_num, TK1.out, HB.out⟩
    · obtain rfl : k = 7 := by omega
      have HV := Lib.hid (show R = ((ws.take 7).filter notE).map atT by rw [HL.out, List.take_of_length_le (by have := HWL.out; omega)])
      go_wp2
      go_ret
      exact ⟨_, rfl, by rw [HV.out]; exact TK0.out.own, TK0.out.below⟩

theorem leadingAtoms_any (x : CmdD) (a5 a10 : Value) (w : World) (hT : Tab w) (ha : LfRd w (spnsLf x.sset) a5) (ha2 : LfRd w (scpsLf x.filter.scopes) a10) (hs : szLs x.lf ≤ 1048576) :
    Calls Tryz.prog 31 #[cmdv x a5 a10] w (TksPost (leadT x) w) := by
  cases hu : x.uid
  · exact leadingAtoms_false x a5 a10 w hu hT ha ha2 hs
  · exact leadingAtoms_true x a5 a10 w hu hT ha ha2 hs

end Go.Proofs.YtidjebepgpbcnaaGreatDoor

namespace Go.Proofs.YtidjebepgpbcnaaGreatDoor
open Go.RowKit

/-- The tables that the program reads where it writes a command. -/
structure CtTabs (w : World) : Prop where
  tab : Tab w
  fw : Fw w
  asp : Asp w
  ew : Ew w

theorem CtTabs.below {w w' : World} (h : CtTabs w) (hb : Below w.heap.size w w') : CtTabs w' := ⟨h.tab.below hb, h.fw.below hb, h.asp.below hb, h.ew.below hb⟩

theorem keeps_ct : Keeps CtTabs := fun _ _ h hb => h.below hb

theorem leadT_len (x : CmdD) : (leadT x).length ≤ 7 := by
  unfold leadT
  rw [List.length_map]
  exact List.length_filter_le notE (leadS x)

set_option maxRecDepth 20000 in
set_option maxHeartbeats 12800000 in
theorem ipk_no (x : CmdD) (a5 a10 : Value) (w : World) (hG : CtTabs w) (hk : cmdB x = false) (ha : LfRd w (spnsLf x.sset) a5) (ha2 : LfRd w (scpsLf x.filter.scopes) a10) (hs : szLs x.lf ≤ 1048576) (hbd : LsBnd x.lf) :
    Calls Tryz.prog 8 #[cmdv x a5 a10] w (TksPost (cmdTks x) w) := by
  obtain ⟨z1, z2, z3, z5, z8, z9, z10⟩ := CmdD.small hs
  obtain ⟨_, _, _, _, ix⟩ := CmdD.bnd hbd
  have cOK := fun W (h : Below w.heap.size w W) => implCommandOk_at x a5 a10 W (LfRd.below h _ _ ha) (LfRd.below h _ _ ha2) hs hbd
  simp only [hk] at cOK
  have cL := fun W (h : Below w.heap.size w W) => leadingAtoms_any x a5 a10 W (hG.tab.below h) (LfRd.below h _ _ ha) (LfRd.below h _ _ ha2) hs
  have cG := fun W (h : Below w.heap.size w W) (hf : flB x.flags = true) => flagGroup_any x.flags W (hG.fw.below h) (hG.asp.below h) hf
  have cF := fun W (h : Below w.heap.size w W) => implFilterTokens_any x.filter a10 W (hG.ew.below h) (LfRd.below h _ _ ha2) z9 z10 ix
  obtain ⟨p, c, rfl, _⟩ := Spn.at ha
  obtain ⟨q, d, rfl, _⟩ := scps_at ha2
  have COK := Lib.hid cOK
  have CL := Lib.hid cL
  have CG := Lib.hid cG
  have CF := Lib.hid cF
  have HV := Lib.hid (show cmdTks x = [] from by unfold cmdTks; rw [hk]; rfl)
  have hW0 : ∃ W0, w.alloc (.cells #[sv x.tag, .int .i64 x.kind, sv x.box, sv x.dst, .bool x.uid, .slice p x.sset.length c, .int .i64 x.op, .int .i64 x.flags, sv x.text, .bool x.filter.on, .slice q x.filter.scopes.length d] 36) = W0 := ⟨_, rfl⟩
  obtain ⟨W0, hW0⟩ := hW0
  have HW0 := Lib.hid hW0
  have HB1 := Lib.hid (show Below w.heap.size w W0 from by rw [← hW0]; exact (Below.refl _ _).alloc (Nat.le_refl _) _)
  have hA : W0.heap[w.heap.size]? = some (.cells #[sv x.tag, .int .i64 x.kind, sv x.box, sv x.dst, .bool x.uid, .slice p x.sset.length c, .int .i64 x.op, .int .i64 x.flags, sv x.text, .bool x.filter.on, .slice q x.filter.scopes.length d] 36 (0, 0)) := by rw [← hW0]; exact heap_alloc_new w _
  have HZ1 := Lib.hid (show W0.heap.size = w.heap.size + 1 from by rw [← hW0]; simp)
  have HQ := Lib.hid (fun (W : World) (hb : Below W0.heap.size W0 W) => (⟨(Lib.cell_of_heap ((hb.block w.heap.size (by rw [HZ1.out]; omega)).trans hA) 0).trans rfl, (Lib.cell_of_heap ((hb.block w.heap.size (by rw [HZ1.out]; omega)).trans hA) 1).trans rfl, (Lib.cell_of_heap ((hb.block w.heap.size (by rw [HZ1.out]; omega)).trans hA) 2).trans rfl, (Lib.cell_of_heap ((hb.block w.heap.size (by rw [HZ1.out]; omega)).trans hA) 3).trans rfl, (Lib.cell_of_heap ((hb.block w.heap.size (by rw [HZ1.out]; omega)).trans hA) 4).trans rfl, (Lib.cell_of_heap ((hb.block w.heap.size (by rw [HZ1.out]; omega)).trans hA) 5).trans rfl, (Lib.cell_of_heap ((hb.block w.heap.size (by rw [HZ1.out]; omega)).trans hA) 6).trans rfl, (Lib.cell_of_heap ((hb.block w.heap.size (by rw [HZ1.out]; omega)).trans hA) 7).trans rfl, (Lib.cell_of_heap ((hb.block w.heap.size (by rw [HZ1.out]; omega)).trans hA) 8).trans rfl, (Lib.cell_of_heap ((hb.block w.heap.size (by rw [HZ1.out]; omega)).trans hA) 9).trans rfl, (Lib.cell_of_heap ((hb.block w.heap.size (by rw [HZ1.out]; omega)).trans hA) 10).trans rfl⟩ : W.cell? ⟨w.heap.size, 0, none⟩ = some (sv x.tag) ∧ W.cell? ⟨w.heap.size, 1, none⟩ = some (.int .i64 x.kind) ∧ W.cell? ⟨w.heap.size, 2, none⟩ = some (sv x.box) ∧ W.cell? ⟨w.heap.size, 3, none⟩ = some (sv x.dst) ∧ W.cell? ⟨w.heap.size, 4, none⟩ = some (.bool x.uid) ∧ W.cell? ⟨w.heap.size, 5, none⟩ = some (.slice p x.sset.length c) ∧ W.cell? ⟨w.heap.size, 6, none⟩ = some (.int .i64 x.op) ∧ W.cell? ⟨w.heap.size, 7, none⟩ = some (.int .i64 x.flags) ∧ W.cell? ⟨w.heap.size, 8, none⟩ = some (sv x.text) ∧ W.cell? ⟨w.heap.size, 9, none⟩ = some (.bool x.filter.on) ∧ W.cell? ⟨w.heap.size, 10, none⟩ = some (.slice q x.filter.scopes.length d)))
  clear cOK cL cG cF ha ha2 hs hbd z1 z2 z3 z5 z8 z9 z10 ix hW0 hA hk hG
  go_enter Tryz.func8, Tryz.ntmps8
  go_wp2_with fail
  rw [HW0.out]
  refine (COK.out _ HB1.out).mono ?_
  rintro e w1 ⟨rfl, b1⟩
  have hb2 := HB1.out.trans (b1.mono HB1.out.size)
  clear b1
  go_wp2
  go_ret
  exact ⟨_, rfl, by rw [HV.out]; exact World.ownsRow_nil _ _ _ _, hb2⟩

set_option maxRecDepth 20000 in
set_option maxHeartbeats 12800000 in
theorem ipk_n (x : CmdD) (a5 a10 : Value) (w : World) (hG : CtTabs w) (hok : cmdB x = true) (hk : ¬ (x.kind = 8 ∨ x.kind = 11 ∨ x.kind = 6)) (ha : LfRd w (spnsLf x.sset) a5) (ha2 : LfRd w (scpsLf x.filter.scopes) a10) (hs : szLs x.lf ≤ 1048576) (hbd : LsBnd x.lf) :
    Calls Tryz.prog 8 #[cmdv x a5 a10] w (TksPost (cmdTks x) w) := by
  obtain ⟨z1, z2, z3, z5, z8, z9, z10⟩ := CmdD.small hs
  obtain ⟨_, _, _, _, ix⟩ := CmdD.bnd hbd
  have cOK := fun W (h : Below w.heap.size w W) => implCommandOk_at x a5 a10 W (LfRd.below h _ _ ha) (LfRd.below h _ _ ha2) hs hbd
  simp only [hok] at cOK
  have cL := fun W (h : Below w.heap.size w W) => leadingAtoms_any x a5 a10 W (hG.tab.below h) (LfRd.below h _ _ ha) (LfRd.below h _ _ ha2) hs
  have cG := fun W (h : Below w.heap.size w W) (hf : flB x.flags = true) => flagGroup_any x.flags W (hG.fw.below h) (hG.asp.below h) hf
  have cF := fun W (h : Below w.heap.size w W) => implFilterTokens_any x.filter a10 W (hG.ew.below h) (LfRd.below h _ _ ha2) z9 z10 ix
  obtain ⟨p, c, rfl, _⟩ := Spn.at ha
  obtain ⟨q, d, rfl, _⟩ := scps_at ha2
  have COK := Lib.hid cOK
  have CL := Lib.hid cL
  have CG := Lib.hid cG
  have CF := Lib.hid cF
  have hO := CmdOk.of hok
  have HFB := Lib.hid hO.flags
  have HV := Lib.hid (show cmdTks x = leadT x ++ tailT x from by unfold cmdTks; rw [if_pos hok])
  have HTL := Lib.hid (show tailT x = [] from by unfold tailT; rw [if_neg (by omega), if_neg (by omega), if_neg (by omega)]; simp)
  have HLL := Lib.hid (leadT_len x)
  have HFL := Lib.hid (flTo_len x.flags.toNat 5)
  have HYL := Lib.hid (fTks_len x.filter)
  have t8 : (x.kind == 8) = false := by rw [beq_eq_false_iff_ne]; omega
  have t11 : (x.kind == 11) = false := by rw [beq_eq_false_iff_ne]; omega
  have t6 : (x.kind == 6) = false := by rw [beq_eq_false_iff_ne]; omega
  clear hok hO
  have hW0 : ∃ W0, w.alloc (.cells #[sv x.tag, .int .i64 x.kind, sv x.box, sv x.dst, .bool x.uid, .slice p x.sset.length c, .int .i64 x.op, .int .i64 x.flags, sv x.text, .bool x.filter.on, .slice q x.filter.scopes.length d] 36) = W0 := ⟨_, rfl⟩
  obtain ⟨W0, hW0⟩ := hW0
  have HW0 := Lib.hid hW0
  have HB1 := Lib.hid (show Below w.heap.size w W0 from by rw [← hW0]; exact (Below.refl _ _).alloc (Nat.le_refl _) _)
  have hA : W0.heap[w.heap.size]? = some (.cells #[sv x.tag, .int .i64 x.kind, sv x.box, sv x.dst, .bool x.uid, .slice p x.sset.length c, .int .i64 x.op, .int .i64 x.flags, sv x.text, .bool x.filter.on, .slice q x.filter.scopes.length d] 36 (0, 0)) := by rw [← hW0]; exact heap_alloc_new w _
  have HZ1 := Lib.hid (show W0.heap.size = w.heap.size + 1 from by rw [← hW0]; simp)
  have HQ := Lib.hid (fun (W : World) (hb : Below W0.heap.size W0 W) => (⟨(Lib.cell_of_heap ((hb.block w.heap.size (by rw [HZ1.out]; omega)).trans hA) 0).trans rfl, (Lib.cell_of_heap ((hb.block w.heap.size (by rw [HZ1.out]; omega)).trans hA) 1).trans rfl, (Lib.cell_of_heap ((hb.block w.heap.size (by rw [HZ1.out]; omega)).trans hA) 2).trans rfl, (Lib.cell_of_heap ((hb.block w.heap.size (by rw [HZ1.out]; omega)).trans hA) 3).trans rfl, (Lib.cell_of_heap ((hb.block w.heap.size (by rw [HZ1.out]; omega)).trans hA) 4).trans rfl, (Lib.cell_of_heap ((hb.block w.heap.size (by rw [HZ1.out]; omega)).trans hA) 5).trans rfl, (Lib.cell_of_heap ((hb.block w.heap.size (by rw [HZ1.out]; omega)).trans hA) 6).trans rfl, (Lib.cell_of_heap ((hb.block w.heap.size (by rw [HZ1.out]; omega)).trans hA) 7).trans rfl, (Lib.cell_of_heap ((hb.block w.heap.size (by rw [HZ1.out]; omega)).trans hA) 8).trans rfl, (Lib.cell_of_heap ((hb.block w.heap.size (by rw [HZ1.out]; omega)).trans hA) 9).trans rfl, (Lib.cell_of_heap ((hb.block w.heap.size (by rw [HZ1.out]; omega)).trans hA) 10).trans rfl⟩ : W.cell? ⟨w.heap.size, 0, none⟩ = some (sv x.tag) ∧ W.cell? ⟨w.heap.size, 1, none⟩ = some (.int .i64 x.kind) ∧ W.cell? ⟨w.heap.size, 2, none⟩ = some (sv x.box) ∧ W.cell? ⟨w.heap.size, 3, none⟩ = some (sv x.dst) ∧ W.cell? ⟨w.heap.size, 4, none⟩ = some (.bool x.uid) ∧ W.cell? ⟨w.heap.size, 5, none⟩ = some (.slice p x.sset.length c) ∧ W.cell? ⟨w.heap.size, 6, none⟩ = some (.int .i64 x.op) ∧ W.cell? ⟨w.heap.size, 7, none⟩ = some (.int .i64 x.flags) ∧ W.cell? ⟨w.heap.size, 8, none⟩ = some (sv x.text) ∧ W.cell? ⟨w.heap.size, 9, none⟩ = some (.bool x.filter.on) ∧ W.cell? ⟨w.heap.size, 10, none⟩ = some (.slice q x.filter.scopes.length d)))
  clear cOK cL cG cF ha ha2 hs hbd z1 z2 z3 z5 z8 z9 z10 ix hW0 hA hk hG
  go_enter Tryz.func8, Tryz.ntmps8
  go_wp2_with fail
  rw [HW0.out]
  refine (COK.out _ HB1.out).mono ?_
  rintro e w1 ⟨rfl, b1⟩
  have B1 := Lib.hid b1
  obtain ⟨q0, q1, q2, q3, q4, q5, q6, q7, q8, q9, q10⟩ := HQ.out _ b1
  clear b1
  go_wp2_with fail
  refine (CL.out _ (HB1.out.trans (B1.out.mono HB1.out.size))).mono ?_
  rintro e w2 ⟨v2, rfl, o2, b2⟩
  have TK0 := Lib.hid (show TkC W0 v2 (leadT x) w2 from ⟨own_lower o2 B1.out.size, B1.out.trans (b2.mono B1.out.size)⟩)
  clear o2 b2 B1 q0 q1 q2 q3 q4 q5 q6 q7 q8 q9 q10
  obtain ⟨q0, q1, q2, q3, q4, q5, q6, q7, q8, q9, q10⟩ := HQ.out _ TK0.out.below
  have HF := Lib.hid (show TkC W0 _ (cmdTks x) _ from by rw [HV.out, HTL.out]; have := TK0.out; simpa using this)
  clear TK0
  go_wp2
  go_ret
  exact ⟨_, rfl, own_lower HF.out.own (by rw [HZ1.out]; omega), HB1.out.trans (HF.out.below.mono (by rw [HZ1.out]; omega))⟩

set_option maxRecDepth 20000 in
set_option maxHeartbeats 12800000 in
theorem ipk_s (x : CmdD) (a5 a10 : Value) (w : World) (hG : CtTabs w) (hok : cmdB x = true) (hk : x.kind = 8) (ha : LfRd w (spnsLf x.sset) a5) (ha2 : LfRd w (scpsLf x.filter.scopes) a10) (hs : szLs x.lf ≤ 1048576) (hbd : LsBnd x.lf) :
    Calls Tryz.prog 8 #[cmdv x a5 a10] w (TksPost (cmdTks x) w) := by
  obtain ⟨z1, z2, z3, z5, z8, z9, z10⟩ := CmdD.small hs
  obtain ⟨_, _, _, _, ix⟩ := CmdD.bnd hbd
  have cOK := fun W (h : Below w.heap.size w W) => implCommandOk_at x a5 a10 W (LfRd.below h _ _ ha) (LfRd.below h _ _ ha2) hs hbd
  simp only [hok] at cOK
  have cL := fun W (h : Below w.heap.size w W) => leadingAtoms_any x a5 a10 W (hG.tab.below h) (LfRd.below h _ _ ha) (LfRd.below h _ _ ha2) hs
  have cG := fun W (h : Below w.heap.size w W) (hf : flB x.flags = true) => flagGroup_any x.flags W (hG.fw.below h) (hG.asp.below h) hf
  have cF := fun W (h : Below w.heap.size w W) => implFilterTokens_any x.filter a10 W (hG.ew.below h) (LfRd.below h _ _ ha2) z9 z10 ix
  obtain ⟨p, c, rfl, _⟩ := Spn.at ha
  obtain ⟨q, d, rfl, _⟩ := scps_at ha2
  have COK := Lib.hid cOK
  have CL := Lib.hid cL
  have CG := Lib.hid cG
  have CF := Lib.hid cF
  have hO := CmdOk.of hok
  have HFB := Lib.hid hO.flags
  have HV := Lib.hid (show cmdTks x = leadT x ++ tailT x from by unfold cmdTks; rw [if_pos hok])
  have HTL := Lib.hid (show tailT x = grpF (flTo x.flags.toNat 5) from by unfold tailT; rw [if_pos (by omega), if_neg (by omega), if_neg (by omega)]; simp)
  have HLL := Lib.hid (leadT_len x)
  have HFL := Lib.hid (flTo_len x.flags.toNat 5)
  have HYL := Lib.hid (fTks_len x.filter)
  have t8 : (x.kind == 8) = true := by rw [beq_iff_eq]; omega
  have t11 : (x.kind == 11) = false := by rw [beq_eq_false_iff_ne]; omega
  have t6 : (x.kind == 6) = false := by rw [beq_eq_false_iff_ne]; omega
  clear hok hO
  have hW0 : ∃ W0, w.alloc (.cells #[sv x.tag, .int .i64 x.kind, sv x.box, sv x.dst, .bool x.uid, .slice p x.sset.length c, .int .i64 x.op, .int .i64 x.flags, sv x.text, .bool x.filter.on, .slice q x.filter.scopes.length d] 36) = W0 := ⟨_, rfl⟩
  obtain ⟨W0, hW0⟩ := hW0
  have HW0 := Lib.hid hW0
  have HB1 := Lib.hid (show Below w.heap.size w W0 from by rw [← hW0]; exact (Below.refl _ _).alloc (Nat.le_refl _) _)
  have hA : W0.heap[w.heap.size]? = some (.cells #[sv x.tag, .int .i64 x.kind, sv x.box, sv x.dst, .bool x.uid, .slice p x.sset.length c, .int .i64 x.op, .int .i64 x.flags, sv x.text, .bool x.filter.on, .slice q x.filter.scopes.length d] 36 (0, 0)) := by rw [← hW0]; exact heap_alloc_new w _
  have HZ1 := Lib.hid (show W0.heap.size = w.heap.size + 1 from by rw [← hW0]; simp)
  have HQ := Lib.hid (fun (W : World) (hb : Below W0.heap.size W0 W) => (⟨(Lib.cell_of_heap ((hb.block w.heap.size (by rw [HZ1.out]; omega)).trans hA) 0).trans rfl, (Lib.cell_of_heap ((hb.block w.heap.size (by rw [HZ1.out]; omega)).trans hA) 1).trans rfl, (Lib.cell_of_heap ((hb.block w.heap.size (by rw [HZ1.out]; omega)).trans hA) 2).trans rfl, (Lib.cell_of_heap ((hb.block w.heap.size (by rw [HZ1.out]; omega)).trans hA) 3).trans rfl, (Lib.cell_of_heap ((hb.block w.heap.size (by rw [HZ1.out]; omega)).trans hA) 4).trans rfl, (Lib.cell_of_heap ((hb.block w.heap.size (by rw [HZ1.out]; omega)).trans hA) 5).trans rfl, (Lib.cell_of_heap ((hb.block w.heap.size (by rw [HZ1.out]; omega)).trans hA) 6).trans rfl, (Lib.cell_of_heap ((hb.block w.heap.size (by rw [HZ1.out]; omega)).trans hA) 7).trans rfl, (Lib.cell_of_heap ((hb.block w.heap.size (by rw [HZ1.out]; omega)).trans hA) 8).trans rfl, (Lib.cell_of_heap ((hb.block w.heap.size (by rw [HZ1.out]; omega)).trans hA) 9).trans rfl, (Lib.cell_of_heap ((hb.block w.heap.size (by rw [HZ1.out]; omega)).trans hA) 10).trans rfl⟩ : W.cell? ⟨w.heap.size, 0, none⟩ = some (sv x.tag) ∧ W.cell? ⟨w.heap.size, 1, none⟩ = some (.int .i64 x.kind) ∧ W.cell? ⟨w.heap.size, 2, none⟩ = some (sv x.box) ∧ W.cell? ⟨w.heap.size, 3, none⟩ = some (sv x.dst) ∧ W.cell? ⟨w.heap.size, 4, none⟩ = some (.bool x.uid) ∧ W.cell? ⟨w.heap.size, 5, none⟩ = some (.slice p x.sset.length c) ∧ W.cell? ⟨w.heap.size, 6, none⟩ = some (.int .i64 x.op) ∧ W.cell? ⟨w.heap.size, 7, none⟩ = some (.int .i64 x.flags) ∧ W.cell? ⟨w.heap.size, 8, none⟩ = some (sv x.text) ∧ W.cell? ⟨w.heap.size, 9, none⟩ = some (.bool x.filter.on) ∧ W.cell? ⟨w.heap.size, 10, none⟩ = some (.slice q x.filter.scopes.length d)))
  clear cOK cL cG cF ha ha2 hs hbd z1 z2 z3 z5 z8 z9 z10 ix hW0 hA hk hG
  go_enter Tryz.func8, Tryz.ntmps8
  go_wp2_with fail
  rw [HW0.out]
  refine (COK.out _ HB1.out).mono ?_
  rintro e w1 ⟨rfl, b1⟩
  have B1 := Lib.hid b1
  obtain ⟨q0, q1, q2, q3, q4, q5, q6, q7, q8, q9, q10⟩ := HQ.out _ b1
  clear b1
  go_wp2_with fail
  refine (CL.out _ (HB1.out.trans (B1.out.mono HB1.out.size))).mono ?_
  rintro e w2 ⟨v2, rfl, o2, b2⟩
  have TK0 := Lib.hid (show TkC W0 v2 (leadT x) w2 from ⟨own_lower o2 B1.out.size, B1.out.trans (b2.mono B1.out.size)⟩)
  clear o2 b2 B1 q0 q1 q2 q3 q4 q5 q6 q7 q8 q9 q10
  obtain ⟨q0, q1, q2, q3, q4, q5, q6, q7, q8, q9, q10⟩ := HQ.out _ TK0.out.below
  go_wp2_with fail
  refine (CG.out _ (HB1.out.trans (TK0.out.below.mono HB1.out.size)) HFB.out).mono ?_
  rintro e w3 ⟨v3, rfl, o3, b3⟩
  have TK1 := Lib.hid (TK0.out.call b3)
  have R1 := Lib.hid (show Rd 2 tokc _ v3 (grpF (flTo x.flags.toNat 5)) from Rd.of_own (enc := tokc) (fun _ => rfl) rfl o3)
  clear o3 b3 TK0 q0 q1 q2 q3 q4 q5 q6 q7 q8 q9 q10
  obtain ⟨q0, q1, q2, q3, q4, q5, q6, q7, q8, q9, q10⟩ := HQ.out _ TK1.out.below
  go_wp2_with (at_builtin; refine wpList_tkcR rfl TK1.out (grpF (flTo x.flags.toNat 5)) (.tmp 13) (.tmp 16) rfl rfl v3 rfl R1.out (by have := HLL.out; have := HFL.out; unfold grpF; simp; omega) ?_)
  intro u4 w4 tk4
  have TK2 := Lib.hid tk4
  clear tk4 TK1 R1 q0 q1 q2 q3 q4 q5 q6 q7 q8 q9 q10
  obtain ⟨q0, q1, q2, q3, q4, q5, q6, q7, q8, q9, q10⟩ := HQ.out _ TK2.out.below
  have HF := Lib.hid (show TkC W0 _ (cmdTks x) _ from by rw [HV.out, HTL.out]; have := TK2.out; simpa using this)
  clear TK2
  go_wp2
  go_ret
  exact ⟨_, rfl, own_lower HF.out.own (by rw [HZ1.out]; omega), HB1.out.trans (HF.out.below.mono (by rw [HZ1.out]; omega))⟩

set_option maxRecDepth 20000 in
set_option maxHeartbeats 12800000 in
theorem ipk_a (x : CmdD) (a5 a10 : Value) (w : World) (hG : CtTabs w) (hok : cmdB x = true) (hk : x.kind = 11) (ha : LfRd w (spnsLf x.sset) a5) (ha2 : LfRd w (scpsLf x.filter.scopes) a10) (hs : szLs x.lf ≤ 1048576) (hbd : LsBnd x.lf) :
    Calls Tryz.prog 8 #[cmdv x a5 a10] w (TksPost (cmdTks x) w) := by
  obtain ⟨z1, z2, z3, z5, z8, z9, z10⟩ := CmdD.small hs
  obtain ⟨_, _, _, _, ix⟩ := CmdD.bnd hbd
  have cOK := fun W (h : Below w.heap.size w W) => implCommandOk_at x a5 a10 W (LfRd.below h _ _ ha) (LfRd.below h _ _ ha2) hs hbd
  simp only [hok] at cOK
  have cL := fun W (h : Below w.heap.size w W) => leadingAtoms_any x a5 a10 W (hG.tab.below h) (LfRd.below h _ _ ha) (LfRd.below h _ _ ha2) hs
  have cG := fun W (h : Below w.heap.size w W) (hf : flB x.flags = true) => flagGroup_any x.flags W (hG.fw.below h) (hG.asp.below h) hf
  have cF := fun W (h : Below w.heap.size w W) => implFilterTokens_any x.filter a10 W (hG.ew.below h) (LfRd.below h _ _ ha2) z9 z10 ix
  obtain ⟨p, c, rfl, _⟩ := Spn.at ha
  obtain ⟨q, d, rfl, _⟩ := scps_at ha2
  have COK := Lib.hid cOK
  have CL := Lib.hid cL
  have CG := Lib.hid cG
  have CF := Lib.hid cF
  have hO := CmdOk.of hok
  have HFB := Lib.hid hO.flags
  have HV := Lib.hid (show cmdTks x = leadT x ++ tailT x from by unfold cmdTks; rw [if_pos hok])
  have HTL := Lib.hid (show tailT x = grpF (flTo x.flags.toNat 5) ++ [⟨2, x.text⟩] from by unfold tailT; rw [if_pos (by omega), if_pos (by omega), if_neg (by omega)]; simp)
  have HLL := Lib.hid (leadT_len x)
  have HFL := Lib.hid (flTo_len x.flags.toNat 5)
  have HYL := Lib.hid (fTks_len x.filter)
  have t8 : (x.kind == 8) = false := by rw [beq_eq_false_iff_ne]; omega
  have t11 : (x.kind == 11) = true := by rw [beq_iff_eq]; omega
  have t6 : (x.kind == 6) = false := by rw [beq_eq_false_iff_ne]; omega
  clear hok hO
  have hW0 : ∃ W0, w.alloc (.cells #[sv x.tag, .int .i64 x.kind, sv x.box, sv x.dst, .bool x.uid, .slice p x.sset.length c, .int .i64 x.op, .int .i64 x.flags, sv x.text, .bool x.filter.on, .slice q x.filter.scopes.length d] 36) = W0 := ⟨_, rfl⟩
  obtain ⟨W0, hW0⟩ := hW0
  have HW0 := Lib.hid hW0
  have HB1 := Lib.hid (show Below w.heap.size w W0 from by rw [← hW0]; exact (Below.refl _ _).alloc (Nat.le_refl _) _)
  have hA : W0.heap[w.heap.size]? = some (.cells #[sv x.tag, .int .i64 x.kind, sv x.box, sv x.dst, .bool x.uid, .slice p x.sset.length c, .int .i64 x.op, .int .i64 x.flags, sv x.text, .bool x.filter.on, .slice q x.filter.scopes.length d] 36 (0, 0)) := by rw [← hW0]; exact heap_alloc_new w _
  have HZ1 := Lib.hid (show W0.heap.size = w.heap.size + 1 from by rw [← hW0]; simp)
  have HQ := Lib.hid (fun (W : World) (hb : Below W0.heap.size W0 W) => (⟨(Lib.cell_of_heap ((hb.block w.heap.size (by rw [HZ1.out]; omega)).trans hA) 0).trans rfl, (Lib.cell_of_heap ((hb.block w.heap.size (by rw [HZ1.out]; omega)).trans hA) 1).trans rfl, (Lib.cell_of_heap ((hb.block w.heap.size (by rw [HZ1.out]; omega)).trans hA) 2).trans rfl, (Lib.cell_of_heap ((hb.block w.heap.size (by rw [HZ1.out]; omega)).trans hA) 3).trans rfl, (Lib.cell_of_heap ((hb.block w.heap.size (by rw [HZ1.out]; omega)).trans hA) 4).trans rfl, (Lib.cell_of_heap ((hb.block w.heap.size (by rw [HZ1.out]; omega)).trans hA) 5).trans rfl, (Lib.cell_of_heap ((hb.block w.heap.size (by rw [HZ1.out]; omega)).trans hA) 6).trans rfl, (Lib.cell_of_heap ((hb.block w.heap.size (by rw [HZ1.out]; omega)).trans hA) 7).trans rfl, (Lib.cell_of_heap ((hb.block w.heap.size (by rw [HZ1.out]; omega)).trans hA) 8).trans rfl, (Lib.cell_of_heap ((hb.block w.heap.size (by rw [HZ1.out]; omega)).trans hA) 9).trans rfl, (Lib.cell_of_heap ((hb.block w.heap.size (by rw [HZ1.out]; omega)).trans hA) 10).trans rfl⟩ : W.cell? ⟨w.heap.size, 0, none⟩ = some (sv x.tag) ∧ W.cell? ⟨w.heap.size, 1, none⟩ = some (.int .i64 x.kind) ∧ W.cell? ⟨w.heap.size, 2, none⟩ = some (sv x.box) ∧ W.cell? ⟨w.heap.size, 3, none⟩ = some (sv x.dst) ∧ W.cell? ⟨w.heap.size, 4, none⟩ = some (.bool x.uid) ∧ W.cell? ⟨w.heap.size, 5, none⟩ = some (.slice p x.sset.length c) ∧ W.cell? ⟨w.heap.size, 6, none⟩ = some (.int .i64 x.op) ∧ W.cell? ⟨w.heap.size, 7, none⟩ = some (.int .i64 x.flags) ∧ W.cell? ⟨w.heap.size, 8, none⟩ = some (sv x.text) ∧ W.cell? ⟨w.heap.size, 9, none⟩ = some (.bool x.filter.on) ∧ W.cell? ⟨w.heap.size, 10, none⟩ = some (.slice q x.filter.scopes.length d)))
  clear cOK cL cG cF ha ha2 hs hbd z1 z2 z3 z5 z8 z9 z10 ix hW0 hA hk hG
  go_enter Tryz.func8, Tryz.ntmps8
  go_wp2_with fail
  rw [HW0.out]
  refine (COK.out _ HB1.out).mono ?_
  rintro e w1 ⟨rfl, b1⟩
  have B1 := Lib.hid b1
  obtain ⟨q0, q1, q2, q3, q4, q5, q6, q7, q8, q9, q10⟩ := HQ.out _ b1
  clear b1
  go_wp2_with fail
  refine (CL.out _ (HB1.out.trans (B1.out.mono HB1.out.size))).mono ?_
  rintro e w2 ⟨v2, rfl, o2, b2⟩
  have TK0 := Lib.hid (show TkC W0 v2 (leadT x) w2 from ⟨own_lower o2 B1.out.size, B1.out.trans (b2.mono B1.out.size)⟩)
  clear o2 b2 B1 q0 q1 q2 q3 q4 q5 q6 q7 q8 q9 q10
  obtain ⟨q0, q1, q2, q3, q4, q5, q6, q7, q8, q9, q10⟩ := HQ.out _ TK0.out.below
  go_wp2_with fail
  refine (CG.out _ (HB1.out.trans (TK0.out.below.mono HB1.out.size)) HFB.out).mono ?_
  rintro e w3 ⟨v3, rfl, o3, b3⟩
  have TK1 := Lib.hid (TK0.out.call b3)
  have R1 := Lib.hid (show Rd 2 tokc _ v3 (grpF (flTo x.flags.toNat 5)) from Rd.of_own (enc := tokc) (fun _ => rfl) rfl o3)
  clear o3 b3 TK0 q0 q1 q2 q3 q4 q5 q6 q7 q8 q9 q10
  obtain ⟨q0, q1, q2, q3, q4, q5, q6, q7, q8, q9, q10⟩ := HQ.out _ TK1.out.below
  go_wp2_with (at_builtin; refine wpList_tkcR rfl TK1.out (grpF (flTo x.flags.toNat 5)) (.tmp 20) (.tmp 23) rfl rfl v3 rfl R1.out (by have := HLL.out; have := HFL.out; unfold grpF; simp; omega) ?_)
  intro u4 w4 tk4
  have TK2 := Lib.hid tk4
  clear tk4 TK1 R1 q0 q1 q2 q3 q4 q5 q6 q7 q8 q9 q10
  obtain ⟨q0, q1, q2, q3, q4, q5, q6, q7, q8, q9, q10⟩ := HQ.out _ TK2.out.below
  go_wp2_with (at_builtin; refine wpList_tkc rfl TK2.out ⟨2, x.text⟩ (.tmp 25) (.tmp 29) rfl rfl (.inr rfl) rfl (by have := HLL.out; have := HFL.out; unfold grpF; simp; omega) ?_)
  intro u5 w5 tk5 _
  have TK3 := Lib.hid tk5
  clear tk5 TK2 q0 q1 q2 q3 q4 q5 q6 q7 q8 q9 q10
  obtain ⟨q0, q1, q2, q3, q4, q5, q6, q7, q8, q9, q10⟩ := HQ.out _ TK3.out.below
  have HF := Lib.hid (show TkC W0 _ (cmdTks x) _ from by rw [HV.out, HTL.out]; have := TK3.out; simpa using this)
  clear TK3
  go_wp2
  go_ret
  exact ⟨_, rfl, own_lower HF.out.own (by rw [HZ1.out]; omega), HB1.out.trans (HF.out.below.mono (by rw [HZ1.out]; omega))⟩

set_option maxRecDepth 20000 in
set_option maxHeartbeats 12800000 in
theorem ipk_y (x : CmdD) (a5 a10 : Value) (w : World) (hG : CtTabs w) (hok : cmdB x = true) (hk : x.kind = 6) (ha : LfRd w (spnsLf x.sset) a5) (ha2 : LfRd w (scpsLf x.filter.scopes) a10) (hs : szLs x.lf ≤ 1048576) (hbd : LsBnd x.lf) :
    Calls Tryz.prog 8 #[cmdv x a5 a10] w (TksPost (cmdTks x) w) := by
  obtain ⟨z1, z2, z3, z5, z8, z9, z10⟩ := CmdD.small hs
  obtain ⟨_, _, _, _, ix⟩ := CmdD.bnd hbd
  have cOK := fun W (h : Below w.heap.size w W) => implCommandOk_at x a5 a10 W (LfRd.below h _ _ ha) (LfRd.below h _ _ ha2) hs hbd
  simp only [hok] at cOK
  have cL := fun W (h : Below w.heap.size w W) => leadingAtoms_any x a5 a10 W (hG.tab.below h) (LfRd.below h _ _ ha) (LfRd.below h _ _ ha2) hs
  have cG := fun W (h : Below w.heap.size w W) (hf : flB x.flags = true) => flagGroup_any x.flags W (hG.fw.below h) (hG.asp.below h) hf
  have cF := fun W (h : Below w.heap.size w W) => implFilterTokens_any x.filter a10 W (hG.ew.below h) (LfRd.below h _ _ ha2) z9 z10 ix
  obtain ⟨p, c, rfl, _⟩ := Spn.at ha
  obtain ⟨q, d, rfl, _⟩ := scps_at ha2
  have COK := Lib.hid cOK
  have CL := Lib.hid cL
  have CG := Lib.hid cG
  have CF := Lib.hid cF
  have hO := CmdOk.of hok
  have HFB := Lib.hid hO.flags
  have HV := Lib.hid (show cmdTks x = leadT x ++ tailT x from by unfold cmdTks; rw [if_pos hok])
  have HTL := Lib.hid (show tailT x = fTks x.filter from by unfold tailT; rw [if_neg (by omega), if_neg (by omega), if_pos (by omega)]; simp)
  have HLL := Lib.hid (leadT_len x)
  have HFL := Lib.hid (flTo_len x.flags.toNat 5)
  have HYL := Lib.hid (fTks_len x.filter)
  have t8 : (x.kind == 8) = false := by rw [beq_eq_false_iff_ne]; omega
  have t11 : (x.kind == 11) = false := by rw [beq_eq_false_iff_ne]; omega
  have t6 : (x.kind == 6) = true := by rw [beq_iff_eq]; omega
  clear hok hO
  have hW0 : ∃ W0, w.alloc (.cells #[sv x.tag, .int .i64 x.kind, sv x.box, sv x.dst, .bool x.uid, .slice p x.sset.length c, .int .i64 x.op, .int .i64 x.flags, sv x.text, .bool x.filter.on, .slice q x.filter.scopes.length d] 36) = W0 := ⟨_, rfl⟩
  obtain ⟨W0, hW0⟩ := hW0
  have HW0 := Lib.hid hW0
  have HB1 := Lib.hid (show Below w.heap.size w W0 from by rw [← hW0]; exact (Below.refl _ _).alloc (Nat.le_refl _) _)
  have hA : W0.heap[w.heap.size]? = some (.cells #[sv x.tag, .int .i64 x.kind, sv x.box, sv x.dst, .bool x.uid, .slice p x.sset.length c, .int .i64 x.op, .int .i64 x.flags, sv x.text, .bool x.filter.on, .slice q x.filter.scopes.length d] 36 (0, 0)) := by rw [← hW0]; exact heap_alloc_new w _
  have HZ1 := Lib.hid (show W0.heap.size = w.heap.size + 1 from by rw [← hW0]; simp)
  have HQ := Lib.hid (fun (W : World) (hb : Below W0.heap.size W0 W) => (⟨(Lib.cell_of_heap ((hb.block w.heap.size (by rw [HZ1.out]; omega)).trans hA) 0).trans rfl, (Lib.cell_of_heap ((hb.block w.heap.size (by rw [HZ1.out]; omega)).trans hA) 1).trans rfl, (Lib.cell_of_heap ((hb.block w.heap.size (by rw [HZ1.out]; omega)).trans hA) 2).trans rfl, (Lib.cell_of_heap ((hb.block w.heap.size (by rw [HZ1.out]; omega)).trans hA) 3).trans rfl, (Lib.cell_of_heap ((hb.block w.heap.size (by rw [HZ1.out]; omega)).trans hA) 4).trans rfl, (Lib.cell_of_heap ((hb.block w.heap.size (by rw [HZ1.out]; omega)).trans hA) 5).trans rfl, (Lib.cell_of_heap ((hb.block w.heap.size (by rw [HZ1.out]; omega)).trans hA) 6).trans rfl, (Lib.cell_of_heap ((hb.block w.heap.size (by rw [HZ1.out]; omega)).trans hA) 7).trans rfl, (Lib.cell_of_heap ((hb.block w.heap.size (by rw [HZ1.out]; omega)).trans hA) 8).trans rfl, (Lib.cell_of_heap ((hb.block w.heap.size (by rw [HZ1.out]; omega)).trans hA) 9).trans rfl, (Lib.cell_of_heap ((hb.block w.heap.size (by rw [HZ1.out]; omega)).trans hA) 10).trans rfl⟩ : W.cell? ⟨w.heap.size, 0, none⟩ = some (sv x.tag) ∧ W.cell? ⟨w.heap.size, 1, none⟩ = some (.int .i64 x.kind) ∧ W.cell? ⟨w.heap.size, 2, none⟩ = some (sv x.box) ∧ W.cell? ⟨w.heap.size, 3, none⟩ = some (sv x.dst) ∧ W.cell? ⟨w.heap.size, 4, none⟩ = some (.bool x.uid) ∧ W.cell? ⟨w.heap.size, 5, none⟩ = some (.slice p x.sset.length c) ∧ W.cell? ⟨w.heap.size, 6, none⟩ = some (.int .i64 x.op) ∧ W.cell? ⟨w.heap.size, 7, none⟩ = some (.int .i64 x.flags) ∧ W.cell? ⟨w.heap.size, 8, none⟩ = some (sv x.text) ∧ W.cell? ⟨w.heap.size, 9, none⟩ = some (.bool x.filter.on) ∧ W.cell? ⟨w.heap.size, 10, none⟩ = some (.slice q x.filter.scopes.length d)))
  clear cOK cL cG cF ha ha2 hs hbd z1 z2 z3 z5 z8 z9 z10 ix hW0 hA hk hG
  go_enter Tryz.func8, Tryz.ntmps8
  go_wp2_with fail
  rw [HW0.out]
  refine (COK.out _ HB1.out).mono ?_
  rintro e w1 ⟨rfl, b1⟩
  have B1 := Lib.hid b1
  obtain ⟨q0, q1, q2, q3, q4, q5, q6, q7, q8, q9, q10⟩ := HQ.out _ b1
  clear b1
  go_wp2_with fail
  refine (CL.out _ (HB1.out.trans (B1.out.mono HB1.out.size))).mono ?_
  rintro e w2 ⟨v2, rfl, o2, b2⟩
  have TK0 := Lib.hid (show TkC W0 v2 (leadT x) w2 from ⟨own_lower o2 B1.out.size, B1.out.trans (b2.mono B1.out.size)⟩)
  clear o2 b2 B1 q0 q1 q2 q3 q4 q5 q6 q7 q8 q9 q10
  obtain ⟨q0, q1, q2, q3, q4, q5, q6, q7, q8, q9, q10⟩ := HQ.out _ TK0.out.below
  go_wp2_with fail
  refine (CF.out _ (HB1.out.trans (TK0.out.below.mono HB1.out.size))).mono ?_
  rintro e w3 ⟨v3, rfl, o3, b3⟩
  have TK1 := Lib.hid (TK0.out.call b3)
  have R1 := Lib.hid (show Rd 2 tokc _ v3 (fTks x.filter) from Rd.of_own (enc := tokc) (fun _ => rfl) rfl o3)
  clear o3 b3 TK0 q0 q1 q2 q3 q4 q5 q6 q7 q8 q9 q10
  obtain ⟨q0, q1, q2, q3, q4, q5, q6, q7, q8, q9, q10⟩ := HQ.out _ TK1.out.below
  go_wp2_with (at_builtin; refine wpList_tkcR rfl TK1.out (fTks x.filter) (.tmp 33) (.tmp 36) rfl rfl v3 rfl R1.out (by have := HLL.out; have := HYL.out; omega) ?_)
  intro u4 w4 tk4
  have TK2 := Lib.hid tk4
  clear tk4 TK1 R1 q0 q1 q2 q3 q4 q5 q6 q7 q8 q9 q10
  obtain ⟨q0, q1, q2, q3, q4, q5, q6, q7, q8, q9, q10⟩ := HQ.out _ TK2.out.below
  have HF := Lib.hid (show TkC W0 _ (cmdTks x) _ from by rw [HV.out, HTL.out]; have := TK2.out; simpa using this)
  clear TK2
  go_wp2
  go_ret
  exact ⟨_, rfl, own_lower HF.out.own (by rw [HZ1.out]; omega), HB1.out.trans (HF.out.below.mono (by rw [HZ1.out]; omega))⟩

theorem implCommandTokens_at (x : CmdD) (a5 a10 : Value) (w : World) (hG : CtTabs w) (ha : LfRd w (spnsLf x.sset) a5) (ha2 : LfRd w (scpsLf x.filter.scopes) a10) (hs : szLs x.lf ≤ 1048576) (hbd : LsBnd x.lf) :
    Calls Tryz.prog 8 #[cmdv x a5 a10] w (TksPost (cmdTks x) w) := by
  cases hok : cmdB x with
  | false => exact ipk_no x a5 a10 w hG hok ha ha2 hs hbd
  | true =>
    by_cases h8 : x.kind = 8
    · exact ipk_s x a5 a10 w hG hok h8 ha ha2 hs hbd
    by_cases h11 : x.kind = 11
    · exact ipk_a x a5 a10 w hG hok h11 ha ha2 hs hbd
    by_cases h6 : x.kind = 6
    · exact ipk_y x a5 a10 w hG hok h6 ha ha2 hs hbd
    exact ipk_n x a5 a10 w hG hok (by omega) ha ha2 hs hbd

end Go.Proofs.YtidjebepgpbcnaaGreatDoor
