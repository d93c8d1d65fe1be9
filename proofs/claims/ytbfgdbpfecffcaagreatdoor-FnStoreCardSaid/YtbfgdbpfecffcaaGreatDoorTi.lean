/-
  Ti: StoQ (what the claim needs of them).
-/
import Derived.Deep.DeepCutAuto
import Derived.Handy
import Derived.Test.YtbfgdbpfecffcaaGreatDoorRows
import Derived.WalkKit
import Derived.WalkSpells
import Derived.WalkLawsBesides
import Derived.Laws.IdiomStrings
import Derived.Lib.Hide
import Derived.Deep.AppendLies
import Derived.OrdersHeld
import Derived.Lib.ItoaNum
import Derived.Lib.ItoaMem
import Derived.Lib.AppendStr
import Derived.Lib.ItoaLen
import Derived.Lib.Strings
import Derived.Lib.Bytealg
import Derived.Lib.OthersKept
import Derived.Laws.RangeAny
import Derived.Laws.BitsAllLaws
import Derived.Laws.BitsLemmas
import Derived.IntWalk
import Derived.Lib.Join
import Derived.Deep.Strs
import Derived.Test.YtbfgdbpfecffcaaGreatDoorProg
import Derived.Laws.Tables
import Derived.Test.YtbfgdbpfecffcaaGreatDoorSb
import Derived.Test.YtbfgdbpfecffcaaGreatDoorSc
import Derived.Test.YtbfgdbpfecffcaaGreatDoorSd
import Derived.Test.YtbfgdbpfecffcaaGreatDoorSe
import Derived.Test.YtbfgdbpfecffcaaGreatDoorSm
import Derived.Test.YtbfgdbpfecffcaaGreatDoorTb
import Derived.Test.YtbfgdbpfecffcaaGreatDoorTc
import Derived.Test.YtbfgdbpfecffcaaGreatDoorTd
import Derived.Test.YtbfgdbpfecffcaaGreatDoorTe

namespace Go.Proofs.YtbfgdbpfecffcaaGreatDoor
open Go.RowKit

theorem coms_nil (W : World) : LfRd W (commitsLf []) (.slice none 0 0) := ⟨rfl, none, 0, rfl, .inl rfl⟩
theorem new_eq : storB ⟨[], [], 0⟩ inboxC = true ∧ storD ⟨[], [], 0⟩ inboxC = newD := by
  have h : storB ⟨[], [], 0⟩ inboxC = true := by decide
  refine ⟨h, ?_⟩
  unfold storD
  rw [if_pos h]
  decide
theorem new_bnd : LsBnd (StoD.mk [] [] 0).lf := ⟨⟨by decide, trivial⟩, ⟨by decide, trivial⟩, ⟨by decide, by decide⟩, trivial⟩
theorem inbox_bnd : LsBnd inboxC.lf := ⟨⟨by decide, by decide⟩, ⟨by decide, by decide⟩, ⟨by decide, by decide⟩, ⟨by decide, by decide⟩, (by unfold LfBnd; decide), (by unfold LfBnd; decide), trivial⟩

set_option maxRecDepth 20000 in
set_option maxHeartbeats 3200000 in
theorem specStoreNew_c : CtrStoreNew 52 (fun _ => True) := by
  intro w hG
  have C := Lib.hid (fun W (g : Below w.heap.size w W) => (show Calls Tryz.prog 38 #[.agg #[.slice none 0 0, .slice none 0 0, .int .i64 0], .agg #[.int .i64 1, .int .i64 1, .int .i64 0, .int .i64 0, .string ⟨#[105, 110, 98, 111, 120]⟩, .string ⟨#[]⟩]] W fun e w' => ComPost ⟨[], [], 0⟩ inboxC W e w' from specCommitted_any ⟨[], [], 0⟩ (.slice none 0 0) (.slice none 0 0) inboxC W (boxs_nil W) cap_nil (coms_nil W) (by decide) new_bnd (by decide) inbox_bnd))
  have hb0 : Below w.heap.size w (w.alloc (.cells #[.slice none 0 0, .slice none 0 0, .int .i64 0] 46)) := (Below.refl _ _).alloc (Nat.le_refl _) _
  have n0 := heap_alloc_new w (.cells #[.slice none 0 0, .slice none 0 0, .int .i64 0] 46)
  have hz0 : (w.alloc (.cells #[.slice none 0 0, .slice none 0 0, .int .i64 0] 46)).heap.size = w.heap.size + 1 := by simp
  have H0 := Lib.hid (And.intro hb0 (And.intro n0 hz0))
  clear hb0 n0 hz0 hG
  go_enter Tryz.func52, Tryz.ntmps52
  go_wp2_with fail
  refine (C.out _ H0.out.1).mono ?_
  rintro e w1 ⟨z0, z1, rfl, hO, hb1⟩
  rw [new_eq.1, new_eq.2]
  rw [new_eq.2] at hO
  obtain ⟨p0, c0, p1, c1, rfl, rfl⟩ := hO.slices
  rw [show newD.boxes.length = 1 from rfl, show newD.log.length = 1 from rfl, show newD.given = 1 from rfl] at *
  have hb2 := (Below.refl w1.heap.size w1).alloc (Nat.le_refl _) (.cells #[.slice p0 1 c0, .slice p1 1 c1, .int .i64 1] 46)
  have hr : (w1.alloc (.cells #[.slice p0 1 c0, .slice p1 1 c1, .int .i64 1] 46)).heap[w.heap.size]? = some (.cells #[.slice none 0 0, .slice none 0 0, .int .i64 0] 46 (0, 0)) := (Below.heap_alloc _ _ _ (by have := hb1.size; have := H0.out.2.2; omega)).trans ((hb1.block _ (by have := H0.out.2.2; omega)).trans H0.out.2.1)
  obtain ⟨⟨q0, q1, q2⟩, ⟨y0, y1, y2⟩, t0, t1, t2⟩ := blk_3c hr
  have HF := Lib.hid (show ∀ a b c : Value, StoOwn w.heap.size ((((w1.alloc (.cells #[.slice p0 1 c0, .slice p1 1 c1, .int .i64 1] 46)).setCell ⟨w.heap.size, 0, none⟩ a).setCell ⟨w.heap.size, 1, none⟩ b).setCell ⟨w.heap.size, 2, none⟩ c) newD (.slice p0 1 c0) (.slice p1 1 c1) ∧ Below w.heap.size w ((((w1.alloc (.cells #[.slice p0 1 c0, .slice p1 1 c1, .int .i64 1] 46)).setCell ⟨w.heap.size, 0, none⟩ a).setCell ⟨w.heap.size, 1, none⟩ b).setCell ⟨w.heap.size, 2, none⟩ c) from fun a b c => by
    have hz := H0.out.2.2
    exact ⟨((((hO.below hb2).set (by omega)).set (by omega)).set (by omega)).lower (by omega), ((((H0.out.1.trans ((hb1.trans (hb2.mono hb1.size)).mono (by omega))).setCell (Nat.le_refl _) _).setCell (Nat.le_refl _) _).setCell (Nat.le_refl _) _)⟩)
  clear hO hb1 hb2 hr C
  go_wp2_with fail
  refine bodyPost_ret (v := .agg #[.slice p0 1 c0, .slice p1 1 c1, .int .i64 1]) (by simp [results, Tryz.results52, go_sem, t0, t1, t2]) rfl ?_
  obtain ⟨⟨f0, f1, h0, h1, hn, hl⟩, hb⟩ := HF.out (.slice p0 1 c0) (.slice p1 1 c1) (.int .i64 1)
  exact ⟨_, f0, _, f1, rfl, h0, h1, hn, hl, hb⟩

end Go.Proofs.YtbfgdbpfecffcaaGreatDoor
