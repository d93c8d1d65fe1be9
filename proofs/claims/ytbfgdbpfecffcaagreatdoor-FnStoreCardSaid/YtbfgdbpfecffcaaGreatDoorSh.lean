/-
  Sh: FilF LawBoxOk LawBoxesOk LawSameBox LawSameBoxes LawBoxNamed LawBoxWith LawPlaceOf LawUidsOf BoxB Sto (what the claim needs of them).
-/
import Derived.Test.YtbfgdbpfecffcaaGreatDoorRows
import Derived.WalkKit
import Derived.WalkSpells
import Derived.WalkLawsBesides
import Derived.Laws.IdiomStrings
import Derived.Lib.Hide
import Derived.Deep.AppendLies
import Derived.OrdersHeld
import Derived.Lib.ItoaNum
import Derived.Lib.ItoaMem
import Derived.Lib.AppendStr
import Derived.Lib.ItoaLen
import Derived.Lib.Strings
import Derived.Lib.Bytealg
import Derived.Lib.OthersKept
import Derived.Laws.RangeAny
import Derived.Laws.BitsAllLaws
import Derived.Laws.BitsLemmas
import Derived.IntWalk
import Derived.Handy
import Derived.Lib.Join
import Derived.Deep.Strs
import Derived.Test.YtbfgdbpfecffcaaGreatDoorProg
import Derived.Laws.Tables
import Derived.Test.YtbfgdbpfecffcaaGreatDoorSb
import Derived.Test.YtbfgdbpfecffcaaGreatDoorSc
import Derived.Test.YtbfgdbpfecffcaaGreatDoorSd
import Derived.Test.YtbfgdbpfecffcaaGreatDoorSe
import Derived.Test.YtbfgdbpfecffcaaGreatDoorSf

namespace Go.Proofs.YtbfgdbpfecffcaaGreatDoor
open Go.RowKit

def CtrBoxOk (f : FuncId) (G : World → Prop) : Prop := ∀ (x_B : BoxD) (r_B_3 : Value) (W : World), G W → LfRd W (msgsLf x_B.msgs) r_B_3 → szLs x_B.lf ≤ 1048576 → LsBnd x_B.lf → 
  Calls Tryz.prog f #[.agg #[sv x_B.name, .int .i64 x_B.validity, .int .i64 x_B.next, r_B_3]] W fun e w' => e = .returned (.bool (boxB x_B)) ∧ Below W.heap.size W w'

end Go.Proofs.YtbfgdbpfecffcaaGreatDoor

namespace Go.Proofs.YtbfgdbpfecffcaaGreatDoor
open Go.RowKit

def CtrBoxesOk (f : FuncId) (G : World → Prop) : Prop := ∀ (l_List : List BoxD) (v_List : Value) (W : World), G W → LfRd W (boxsLf l_List) v_List → CapLe v_List → szLf (boxsLf l_List) ≤ 1048576 → LfBnd (boxsLf l_List) → 
  Calls Tryz.prog f #[v_List] W fun e w' => e = .returned (.bool (boxesB l_List)) ∧ Below W.heap.size W w'

end Go.Proofs.YtbfgdbpfecffcaaGreatDoor

namespace Go.Proofs.YtbfgdbpfecffcaaGreatDoor
open Go.RowKit

def CtrSameBox (f : FuncId) (G : World → Prop) : Prop := ∀ (x_A : BoxD) (r_A_3 : Value) (x_B : BoxD) (r_B_3 : Value) (W : World), G W → LfRd W (msgsLf x_A.msgs) r_A_3 → szLs x_A.lf ≤ 1048576 → LsBnd x_A.lf → LfRd W (msgsLf x_B.msgs) r_B_3 → szLs x_B.lf ≤ 1048576 → LsBnd x_B.lf → 
  Calls Tryz.prog f #[.agg #[sv x_A.name, .int .i64 x_A.validity, .int .i64 x_A.next, r_A_3], .agg #[sv x_B.name, .int .i64 x_B.validity, .int .i64 x_B.next, r_B_3]] W fun e w' => e = .returned (.bool (decide (x_A = x_B))) ∧ Below W.heap.size W w'

end Go.Proofs.YtbfgdbpfecffcaaGreatDoor

namespace Go.Proofs.YtbfgdbpfecffcaaGreatDoor
open Go.RowKit

def CtrSameBoxes (f : FuncId) (G : World → Prop) : Prop := ∀ (l_A : List BoxD) (v_A : Value) (l_B : List BoxD) (v_B : Value) (W : World), G W → LfRd W (boxsLf l_A) v_A → szLf (boxsLf l_A) ≤ 1048576 → LfBnd (boxsLf l_A) → LfRd W (boxsLf l_B) v_B → szLf (boxsLf l_B) ≤ 1048576 → LfBnd (boxsLf l_B) → 
  Calls Tryz.prog f #[v_A, v_B] W fun e w' => e = .returned (.bool (decide (l_A = l_B))) ∧ Below W.heap.size W w'

end Go.Proofs.YtbfgdbpfecffcaaGreatDoor

namespace Go.Proofs.YtbfgdbpfecffcaaGreatDoor
open Go.RowKit

def CtrBoxNamed (f : FuncId) (G : World → Prop) : Prop := ∀ (l_List : List BoxD) (v_List : Value) (s_Name : List UInt8) (W : World), G W → LfRd W (boxsLf l_List) v_List → szLf (boxsLf l_List) ≤ 1048576 → LfBnd (boxsLf l_List) → s_Name.length ≤ 1048576 → 
  Calls Tryz.prog f #[v_List, sv s_Name] W fun e w' => e = .returned (.int .i64 (bxNamed l_List s_Name)) ∧ Below W.heap.size W w'

end Go.Proofs.YtbfgdbpfecffcaaGreatDoor

namespace Go.Proofs.YtbfgdbpfecffcaaGreatDoor
open Go.RowKit

def CtrBoxWith (f : FuncId) (G : World → Prop) : Prop := ∀ (l_List : List BoxD) (v_List : Value) (n_Validity : Int) (W : World), G W → LfRd W (boxsLf l_List) v_List → szLf (boxsLf l_List) ≤ 1048576 → LfBnd (boxsLf l_List) → in64 n_Validity → 
  Calls Tryz.prog f #[v_List, .int .i64 n_Validity] W fun e w' => e = .returned (.int .i64 (bxWith l_List n_Validity)) ∧ Below W.heap.size W w'

end Go.Proofs.YtbfgdbpfecffcaaGreatDoor

namespace Go.Proofs.YtbfgdbpfecffcaaGreatDoor
open Go.RowKit

def CtrPlaceOf (f : FuncId) (G : World → Prop) : Prop := ∀ (x_B : BoxD) (r_B_3 : Value) (n_Uid : Int) (W : World), G W → LfRd W (msgsLf x_B.msgs) r_B_3 → szLs x_B.lf ≤ 1048576 → LsBnd x_B.lf → in64 n_Uid → 
  Calls Tryz.prog f #[.agg #[sv x_B.name, .int .i64 x_B.validity, .int .i64 x_B.next, r_B_3], .int .i64 n_Uid] W fun e w' => e = .returned (.int .i64 (bxPlace x_B n_Uid)) ∧ Below W.heap.size W w'

end Go.Proofs.YtbfgdbpfecffcaaGreatDoor

namespace Go.Proofs.YtbfgdbpfecffcaaGreatDoor
open Go.RowKit

set_option maxHeartbeats 800000 in
theorem specBoxNamed_c : CtrBoxNamed 97 (fun _ => True) := by
  intro l v s w _ hr hs _ _
  have hl : l.length ≤ 1048576 := Nat.le_trans (Nat.le_add_right _ _) hs
  obtain ⟨p, c, rfl, hp⟩ := BoxD.at hr
  have HP := Lib.hid hp
  have h0 : firstAt (fun b : BoxD => b.name == s) (l.drop 0) 0 = bxNamed l s := by rw [List.drop_zero]; rfl
  generalize bxNamed l s = R at *
  have H0 := Lib.hid h0
  clear hp hr hs h0
  go_enter Tryz.func97, Tryz.ntmps97
  go_wp2
  go_loopw [5] (fun i wr => ∃ k : Nat, k ≤ l.length ∧ i = .int .i64 k ∧ firstAt (fun b : BoxD => b.name == s) (l.drop k) k = R ∧ Below w.heap.size w wr) (fun i _ => l.length - (intOf i).toNat)
  case atStart => exact ⟨0, by omega, rfl, H0.out, Below.refl _ _⟩
  case round =>
    obtain ⟨k, hk, rfl, hst, hbr⟩ := hrel
    by_cases hlt : k < l.length
    · obtain ⟨b, off, rfl, hb1, hc⟩ := HP.out.resolve_left (by intro h; subst h; simp at hlt)
      obtain ⟨x, hx⟩ : ∃ x, l[k]? = some x := ⟨_, List.getElem?_eq_getElem hlt⟩
      obtain ⟨v3, n3, x0, x1, x2, x3⟩ := hc k x hx
      have e0 : wr.cell? ⟨b, off + k * 4, none⟩ = some (sv x.name) := (hbr.cell (p := ⟨b, off + k * 4, none⟩) hb1).trans x0
      have hstep := hst ▸ firstAt_step (p := fun b : BoxD => b.name == s) hx
      clear hst hc HP x0 x1 x2 x3 n3
      cases hq : (x.name == s) with
      | true =>
        have HV := Lib.hid (show R = (k : Int) by rw [hstep]; simp only [hq, if_true])
        clear hstep
        go_wp2
        go_ret
        exact ⟨by rw [HV.out]; rfl, hbr⟩
      | false =>
        have HN := Lib.hid (show firstAt (fun b : BoxD => b.name == s) (l.drop (k + 1)) (k + 1) = R by rw [hstep]; simp [hq])
        clear hstep
        go_wp2
        go_roundw
        case rel => exact ⟨k + 1, by omega, by go_num, HN.out, hbr⟩
        case measure => simp [intOf]; omega
    · obtain rfl : k = l.length := by omega
      have HV := Lib.hid (show R = -1 by rw [← hst]; exact firstAt_end l)
      clear hst
      go_wp2
      go_ret
      exact ⟨by rw [HV.out]; rfl, hbr⟩

set_option maxHeartbeats 800000 in
theorem specBoxWith_c : CtrBoxWith 25 (fun _ => True) := by
  intro l v s w _ hr hs _ _
  have hl : l.length ≤ 1048576 := Nat.le_trans (Nat.le_add_right _ _) hs
  obtain ⟨p, c, rfl, hp⟩ := BoxD.at hr
  have HP := Lib.hid hp
  have h0 : firstAt (fun b : BoxD => b.validity == s) (l.drop 0) 0 = bxWith l s := by rw [List.drop_zero]; rfl
  generalize bxWith l s = R at *
  have H0 := Lib.hid h0
  clear hp hr hs h0
  go_enter Tryz.func25, Tryz.ntmps25
  go_wp2
  go_loopw [5] (fun i wr => ∃ k : Nat, k ≤ l.length ∧ i = .int .i64 k ∧ firstAt (fun b : BoxD => b.validity == s) (l.drop k) k = R ∧ Below w.heap.size w wr) (fun i _ => l.length - (intOf i).toNat)
  case atStart => exact ⟨0, by omega, rfl, H0.out, Below.refl _ _⟩
  case round =>
    obtain ⟨k, hk, rfl, hst, hbr⟩ := hrel
    by_cases hlt : k < l.length
    · obtain ⟨b, off, rfl, hb1, hc⟩ := HP.out.resolve_left (by intro h; subst h; simp at hlt)
      obtain ⟨x, hx⟩ : ∃ x, l[k]? = some x := ⟨_, List.getElem?_eq_getElem hlt⟩
      obtain ⟨v3, n3, x0, x1, x2, x3⟩ := hc k x hx
      have e0 : wr.cell? ⟨b, off + k * 4 + 1, none⟩ = some (.int .i64 x.validity) := (hbr.cell (p := ⟨b, off + k * 4 + 1, none⟩) hb1).trans x1
      have hstep := hst ▸ firstAt_step (p := fun b : BoxD => b.validity == s) hx
      clear hst hc HP x0 x1 x2 x3 n3
      cases hq : (x.validity == s) with
      | true =>
        have HV := Lib.hid (show R = (k : Int) by rw [hstep]; simp only [hq, if_true])
        clear hstep
        go_wp2
        go_ret
        exact ⟨by rw [HV.out]; rfl, hbr⟩
      | false =>
        have HN := Lib.hid (show firstAt (fun b : BoxD => b.validity == s) (l.drop (k + 1)) (k + 1) = R by rw [hstep]; simp [hq])
        clear hstep
        go_wp2
        go_roundw
        case rel => exact ⟨k + 1, by omega, by go_num, HN.out, hbr⟩
        case measure => simp [intOf]; omega
    · obtain rfl : k = l.length := by omega
      have HV := Lib.hid (show R = -1 by rw [← hst]; exact firstAt_end l)
      clear hst
      go_wp2
      go_ret
      exact ⟨by rw [HV.out]; rfl, hbr⟩

set_option maxHeartbeats 800000 in
theorem specPlaceOf_c : CtrPlaceOf 68 (fun _ => True) := by
  intro x r u w _ hr hs _ _
  have hl : x.msgs.length ≤ 1048576 := by
    have h1 := BoxD.sz x
    have h2 : szLf (msgsLf x.msgs) = x.msgs.length + szLs (x.msgs.flatMap MsgD.lf) := rfl
    omega
  obtain ⟨p, c, rfl, hp⟩ := MsgD.at hr
  have HP := Lib.hid hp
  have h0 : firstAt (fun m : MsgD => m.uid == u) (x.msgs.drop 0) 0 = bxPlace x u := by rw [List.drop_zero]; rfl
  generalize bxPlace x u = R at *
  have H0 := Lib.hid h0
  have hbA : Below w.heap.size w (w.alloc (.cells #[sv x.name, .int .i64 x.validity, .int .i64 x.next, .slice p x.msgs.length c] 38)) := (Below.refl _ _).alloc (Nat.le_refl _) _
  have hA := heap_alloc_new w (.cells #[sv x.name, .int .i64 x.validity, .int .i64 x.next, .slice p x.msgs.length c] 38)
  generalize hW : (w.alloc (.cells #[sv x.name, .int .i64 x.validity, .int .i64 x.next, .slice p x.msgs.length c] 38)) = W at *
  have HA := Lib.hid hA
  clear hp hr hs h0 hA
  go_enter Tryz.func68, Tryz.ntmps68
  go_wp2
  clear hW
  go_loopw [5] (fun i wr => ∃ k : Nat, k ≤ x.msgs.length ∧ i = .int .i64 k ∧ firstAt (fun m : MsgD => m.uid == u) (x.msgs.drop k) k = R ∧ wr = W) (fun i _ => x.msgs.length - (intOf i).toNat)
  case atStart => exact ⟨0, by omega, rfl, H0.out, rfl⟩
  case round =>
    obtain ⟨k, hk, rfl, hst, rfl⟩ := hrel
    have a3 := (Lib.cell_of_heap HA.out 3).trans (show _ = some (Value.slice p x.msgs.length c) from rfl)
    by_cases hlt : k < x.msgs.length
    · obtain ⟨b, off, rfl, hb1, hc⟩ := HP.out.resolve_left (by intro h; rw [h] at hlt; simp at hlt)
      obtain ⟨m, hm⟩ : ∃ m, x.msgs[k]? = some m := ⟨_, List.getElem?_eq_getElem hlt⟩
      obtain ⟨x0, x1, x2⟩ := hc k m hm
      have e0 := (hbA.cell (p := ⟨b, off + k * 3, none⟩) hb1).trans x0
      have hstep := hst ▸ firstAt_step (p := fun m : MsgD => m.uid == u) hm
      clear hst hc HP x0 x1 x2
      cases hq : (m.uid == u) with
      | true =>
        have HV := Lib.hid (show R = (k : Int) by rw [hstep]; simp only [hq, if_true])
        clear hstep
        go_wp2
        go_ret
        exact ⟨by rw [HV.out]; rfl, hbA⟩
      | false =>
        have HN := Lib.hid (show firstAt (fun m : MsgD => m.uid == u) (x.msgs.drop (k + 1)) (k + 1) = R by rw [hstep]; simp [hq])
        clear hstep
        go_wp2
        go_roundw
        case rel => exact ⟨k + 1, by omega, by go_num, HN.out, trivial⟩
        case measure => simp [intOf]; omega
    · obtain rfl : k = x.msgs.length := by omega
      have HV := Lib.hid (show R = -1 by rw [← hst]; exact firstAt_end x.msgs)
      clear hst
      go_wp2
      go_ret
      exact ⟨by rw [HV.out]; rfl, hbA⟩

end Go.Proofs.YtbfgdbpfecffcaaGreatDoor

namespace Go.Proofs.YtbfgdbpfecffcaaGreatDoor
open Go.RowKit

theorem wpList_putrow {P : Program} {ops : Array Oper} {rest : List Oper} {o : Oper} {a : Act} {w : World} {Q : Exit → Act → World → Prop} (hgd : o.guard = none) (ty : TypeId) (x y : Operand) (ho : o.op = .store ty x y)
    (g : Nat) (cells : Array Value) (hx : a.eval x = .pointer (some ⟨g, 0, none⟩)) (hy : a.eval y = .agg cells)
    (t : TypeId) (old : Array Value) (hg : w.heap[g]? = some (.cells old t (0, 0))) (hi : (P.info? ty).map (·.size) = some cells.size)
    (hold : old.size = cells.size) (h1 : cells.all (·.oneCell') = true)
    (h : ∀ X, X = w.setRow g cells → wpList P ops Q rest (a.put o.dst undef) X) : wpList P ops Q (o :: rest) a w :=
  wpList_plain hgd fun _ hK => wp_store_row ty x y ho g cells hx hy t old hg hi hold h1 (hK _ _ (h _ rfl))

end Go.Proofs.YtbfgdbpfecffcaaGreatDoor
