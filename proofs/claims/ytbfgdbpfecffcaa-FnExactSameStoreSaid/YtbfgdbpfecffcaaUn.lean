/-
  Un: StoA LawSameStore (what the claim needs of them).
-/
import Derived.Deep.DeepCutAuto
import Derived.Handy
import Derived.Test.YtbfgdbpfecffcaaRows
import Derived.WalkKit
import Derived.WalkSpells
import Derived.WalkLawsBesides
import Derived.Laws.IdiomStrings
import Derived.Lib.Hide
import Derived.Deep.AppendLies
import Derived.OrdersHeld
import Derived.Lib.ItoaNum
import Derived.Lib.ItoaMem
import Derived.Lib.AppendStr
import Derived.Lib.ItoaLen
import Derived.Lib.Strings
import Derived.Lib.Bytealg
import Derived.Lib.OthersKept
import Derived.Laws.RangeAny
import Derived.Laws.BitsAllLaws
import Derived.Laws.BitsLemmas
import Derived.IntWalk
import Derived.Lib.Join
import Derived.Deep.Strs
import Derived.Test.YtbfgdbpfecffcaaProg
import Derived.Laws.Tables
import Derived.Test.YtbfgdbpfecffcaaUa
import Derived.Test.YtbfgdbpfecffcaaUb
import Derived.Test.YtbfgdbpfecffcaaUc
import Derived.Test.YtbfgdbpfecffcaaUd
import Derived.Test.YtbfgdbpfecffcaaUe
import Derived.Test.YtbfgdbpfecffcaaUk
import Derived.Test.YtbfgdbpfecffcaaUm

namespace Go.Proofs.Ytbfgdbpfecffcaa
open Go.RowKit

deriving instance DecidableEq for StoD
/-- No two commits of the log make a mailbox of the same Validity. -/
def madeStep (lg : List ComD) (i : Nat) : Bool :=
  match lg[i]? with
  | none => true
  | some a => (List.range i).all fun k => match lg[k]? with
    | none => true
    | some b => !(a.kind == 1 && b.kind == 1 && a.validity == b.validity)
def madeB (lg : List ComD) : Bool := (List.range lg.length).all (madeStep lg)
/-- Each mailbox that the log makes has a Validity that is given already. -/
def givenB (g : Int) (lg : List ComD) : Bool := lg.all fun m => m.kind != 1 || decide (m.validity ≤ g)
def storeB (x : StoD) : Bool :=
  decide ((x.log.length : Int) ≤ 300) && (decide (0 ≤ x.given) && decide (x.given ≤ 999999999)) && madeB x.log && ((allL [] x.log).2 && givenB x.given x.log) && decide ((allL [] x.log).1 = x.boxes)
/-- The mailboxes behind the first i commits. -/
def atL (lg : List ComD) (i : Int) : List BoxD := (allL [] (lg.take i.toNat)).1
def noBox : BoxD := ⟨[], 0, 0, []⟩
def boxAtD (x : StoD) (v i : Int) : BoxD := if bxWith (atL x.log i) v < 0 then noBox else ((atL x.log i)[whereB (atL x.log i) v]?).getD noBox
def boxAtB (x : StoD) (v i : Int) : Bool := !decide (bxWith (atL x.log i) v < 0)
def storB (x : StoD) (m : ComD) : Bool := appB x.boxes m && decide ((x.log.length : Int) < 300) && !(m.kind == 1 && decide (m.validity ≤ x.given))
def storD (x : StoD) (m : ComD) : StoD := if storB x m then ⟨doneL x.boxes m, x.log ++ [m], if x.given ≤ m.validity then m.validity else x.given⟩ else x
/-- The places of the commits of a mailbox's messages, from k on. -/
def ofAt (v : Int) : List ComD → Nat → List Int
  | [], _ => []
  | m :: r, k => if m.validity = v ∧ 4 ≤ m.kind ∧ m.kind ≤ 6 then (k : Int) :: ofAt v r (k + 1) else ofAt v r (k + 1)
def ofL (x : StoD) (v i : Int) : List Int := ofAt v (x.log.drop i.toNat) i.toNat
def inboxC : ComD := ⟨1, 1, 0, 0, [105, 110, 98, 111, 120], []⟩
def newD : StoD := ⟨[⟨[105, 110, 98, 111, 120], 1, 1, []⟩], [inboxC], 1⟩

theorem ofAt_len (v : Int) : ∀ (r : List ComD) (k : Nat), (ofAt v r k).length ≤ r.length
  | [], _ => Nat.le_refl _
  | m :: r, k => by
    unfold ofAt
    have := ofAt_len v r (k + 1)
    split <;> simp <;> omega
theorem at_small (lg : List ComD) (i : Int) : szLf (boxsLf (atL lg i)) ≤ 1048576 := all_small _ (by decide) ⟨by decide, trivial⟩
theorem all_right : ∀ (lg : List ComD) {l : List BoxD}, boxesB l = true → boxesB (allL l lg).1 = true
  | [], _, h => h
  | x :: lg, l, h => by
    unfold allL
    cases ha : appB l x with
    | false => exact h
    | true => exact all_right lg (done_right ha)
theorem at_right (lg : List ComD) (i : Int) : boxesB (atL lg i) = true := all_right _ rfl
theorem drop_ofAt {v : Int} {lg : List ComD} {k : Nat} {m : ComD} (h : lg[k]? = some m) : ofAt v (lg.drop k) k = (if m.validity = v ∧ 4 ≤ m.kind ∧ m.kind ≤ 6 then [(k : Int)] else []) ++ ofAt v (lg.drop (k + 1)) (k + 1) := by
  rw [drop_at h]
  conv => lhs; unfold ofAt
  split <;> simp
theorem wp_named1 {P : Program} {Q : Exit → Act → World → Prop} {c : Code} {a : Act} {w : World} (h : ∀ X, X = w → c.wp P Q a X) : c.wp P Q a w := h w rfl

end Go.Proofs.Ytbfgdbpfecffcaa

namespace Go.Proofs.Ytbfgdbpfecffcaa
open Go.RowKit

def CtrSameStore (f : FuncId) (G : World → Prop) : Prop := ∀ (x_A : StoD) (r_A_0 : Value) (r_A_1 : Value) (x_B : StoD) (r_B_0 : Value) (r_B_1 : Value) (W : World), G W → LfRd W (boxsLf x_A.boxes) r_A_0 → CapLe r_A_0 → LfRd W (commitsLf x_A.log) r_A_1 → CapLe r_A_1 → szLs x_A.lf ≤ 1048576 → LsBnd x_A.lf → LfRd W (boxsLf x_B.boxes) r_B_0 → CapLe r_B_0 → LfRd W (commitsLf x_B.log) r_B_1 → CapLe r_B_1 → szLs x_B.lf ≤ 1048576 → LsBnd x_B.lf → 
  Calls Try.prog f #[.agg #[r_A_0, r_A_1, .int .i64 x_A.given], .agg #[r_B_0, r_B_1, .int .i64 x_B.given]] W fun e w' => e = .returned (.bool (decide (x_A = x_B))) ∧ Below W.heap.size W w'

set_option maxRecDepth 20000 in
set_option maxHeartbeats 12800000 in
theorem FnExactSameStore_of {G : World → Prop} (hK : Keeps G) (SP : CtrSameStore 14 (fun _ => True)) (IM : CtrSameStore 15 G) (x_A : StoD) (r_A_0 : Value) (r_A_1 : Value) (x_B : StoD) (r_B_0 : Value) (r_B_1 : Value) (w : World) (hG : G w) (h_r_A_0 : LfRd w (boxsLf x_A.boxes) r_A_0) (h_r_A_1 : LfRd w (commitsLf x_A.log) r_A_1) (hb_A : LsBnd x_A.lf) (h_r_B_0 : LfRd w (boxsLf x_B.boxes) r_B_0) (h_r_B_1 : LfRd w (commitsLf x_B.log) r_B_1) (hb_B : LsBnd x_B.lf) :
    Calls Try.prog 4 #[.agg #[r_A_0, r_A_1, .int .i64 x_A.given], .agg #[r_B_0, r_B_1, .int .i64 x_B.given]] w fun e w' => e = .returned (.bool true) ∧ Below w.heap.size w w' := by
  have H_r_A_0 := Lib.hid h_r_A_0
  have H_r_A_1 := Lib.hid h_r_A_1
  obtain ⟨p_A_0, c_A_0, rfl⟩ := LfRd.slice h_r_A_0
  obtain ⟨p_A_1, c_A_1, rfl⟩ := LfRd.slice h_r_A_1
  clear h_r_A_0
  clear h_r_A_1
  have H_r_B_0 := Lib.hid h_r_B_0
  have H_r_B_1 := Lib.hid h_r_B_1
  obtain ⟨p_B_0, c_B_0, rfl⟩ := LfRd.slice h_r_B_0
  obtain ⟨p_B_1, c_B_1, rfl⟩ := LfRd.slice h_r_B_1
  clear h_r_B_0
  clear h_r_B_1
  by_cases k0 : szLs x_A.lf ≤ 1048576
  case neg =>
    have q0 := fun (ll : Int) (W : World) (hl : ll = ((1048576 : Nat) : Int)) (g0 : LfRd W (boxsLf x_A.boxes) (.slice p_A_0 x_A.boxes.length c_A_0)) (g1 : LfRd W (commitsLf x_A.log) (.slice p_A_1 x_A.log.length c_A_1)) => szStore_g x_A (.slice p_A_0 x_A.boxes.length c_A_0) (.slice p_A_1 x_A.log.length c_A_1) ll 1048576 hl W g0 g1 hb_A (by omega)
    simp only [show szN 1048576 (szLs x_A.lf) = -1 from szN_no k0] at q0
    have C_sz0 := Lib.hid q0
    clear q0 SP IM
    have hb : Below w.heap.size w ((w.alloc (.cells #[(.slice p_A_0 x_A.boxes.length c_A_0), (.slice p_A_1 x_A.log.length c_A_1), .int .i64 x_A.given] 25)).alloc (.cells #[(.slice p_B_0 x_B.boxes.length c_B_0), (.slice p_B_1 x_B.log.length c_B_1), .int .i64 x_B.given] 25)) := (((Below.refl _ _).alloc (Nat.le_refl _) _).alloc (by simp) _)
    have HB1 := Lib.hid (show ((w.alloc (.cells #[(.slice p_A_0 x_A.boxes.length c_A_0), (.slice p_A_1 x_A.log.length c_A_1), .int .i64 x_A.given] 25)).alloc (.cells #[(.slice p_B_0 x_B.boxes.length c_B_0), (.slice p_B_1 x_B.log.length c_B_1), .int .i64 x_B.given] 25)).heap[w.heap.size]? = some (.cells #[(.slice p_A_0 x_A.boxes.length c_A_0), (.slice p_A_1 x_A.log.length c_A_1), .int .i64 x_A.given] 25 (0, 0)) from by
      have h := heap_alloc_new w (.cells #[(.slice p_A_0 x_A.boxes.length c_A_0), (.slice p_A_1 x_A.log.length c_A_1), .int .i64 x_A.given] 25)
      have h := (Below.heap_alloc (w.alloc (.cells #[(.slice p_A_0 x_A.boxes.length c_A_0), (.slice p_A_1 x_A.log.length c_A_1), .int .i64 x_A.given] 25)) (.cells #[(.slice p_B_0 x_B.boxes.length c_B_0), (.slice p_B_1 x_B.log.length c_B_1), .int .i64 x_B.given] 25) _ (by simp)).trans h
      exact h)
    have HB2 := Lib.hid (show ((w.alloc (.cells #[(.slice p_A_0 x_A.boxes.length c_A_0), (.slice p_A_1 x_A.log.length c_A_1), .int .i64 x_A.given] 25)).alloc (.cells #[(.slice p_B_0 x_B.boxes.length c_B_0), (.slice p_B_1 x_B.log.length c_B_1), .int .i64 x_B.given] 25)).heap[w.heap.size + 1]? = some (.cells #[(.slice p_B_0 x_B.boxes.length c_B_0), (.slice p_B_1 x_B.log.length c_B_1), .int .i64 x_B.given] 25 (0, 0)) from by
      have h := heap_alloc_new (w.alloc (.cells #[(.slice p_A_0 x_A.boxes.length c_A_0), (.slice p_A_1 x_A.log.length c_A_1), .int .i64 x_A.given] 25)) (.cells #[(.slice p_B_0 x_B.boxes.length c_B_0), (.slice p_B_1 x_B.log.length c_B_1), .int .i64 x_B.given] 25)
      simp only [World.size_alloc] at h
      exact h)
    have hz0 : w.heap.size + 2 ≤ ((w.alloc (.cells #[(.slice p_A_0 x_A.boxes.length c_A_0), (.slice p_A_1 x_A.log.length c_A_1), .int .i64 x_A.given] 25)).alloc (.cells #[(.slice p_B_0 x_B.boxes.length c_B_0), (.slice p_B_1 x_B.log.length c_B_1), .int .i64 x_B.given] 25)).heap.size := by simp
    generalize hW0 : ((w.alloc (.cells #[(.slice p_A_0 x_A.boxes.length c_A_0), (.slice p_A_1 x_A.log.length c_A_1), .int .i64 x_A.given] 25)).alloc (.cells #[(.slice p_B_0 x_B.boxes.length c_B_0), (.slice p_B_1 x_B.log.length c_B_1), .int .i64 x_B.given] 25)) = W0 at *
    go_enter Try.func4, Try.ntmps4
    have hbz := Lib.hid hb.size
    have y3 := (Lib.cell_of_heap HB1.out 0).trans (show _ = some ((.slice p_A_0 x_A.boxes.length c_A_0)) from rfl)
    have y4 := (Lib.cell_of_heap HB1.out 1).trans (show _ = some ((.slice p_A_1 x_A.log.length c_A_1)) from rfl)
    have y5 := (Lib.cell_of_heap HB1.out 2).trans (show _ = some (.int .i64 x_A.given) from rfl)
    go_wp2_with fail
    refine (C_sz0.out _ _ (by first | rfl | omega) (LfRd.below hb _ _ H_r_A_0.out) (LfRd.below hb _ _ H_r_A_1.out)).mono ?_
    rintro e w6 ⟨rfl, b7⟩
    clear y3 y4 y5
    have F8 := Lib.hid ((b7.block (w.heap.size) (Array.getElem?_eq_some_iff.1 HB1.out).1).trans HB1.out)
    clear HB1
    have F9 := Lib.hid ((b7.block (w.heap.size + 1) (Array.getElem?_eq_some_iff.1 HB2.out).1).trans HB2.out)
    clear HB2
    have hz10 : W0.heap.size ≤ w6.heap.size := b7.size
    replace hb := hb.trans (b7.mono hb.size)
    clear b7
    go_wp2
    go_ret
    exact ⟨rfl, hb⟩
  obtain ⟨L1, hL1⟩ : ∃ L, L + szLs x_A.lf = 1048576 := ⟨1048576 - szLs x_A.lf, by omega⟩
  have bL1 : L1 ≤ 1048576 := by omega
  have nL1 : ¬ (L1 : Int) < 0 := by omega
  have q0 := fun (ll : Int) (W : World) (hl : ll = ((1048576 : Nat) : Int)) (g0 : LfRd W (boxsLf x_A.boxes) (.slice p_A_0 x_A.boxes.length c_A_0)) (g1 : LfRd W (commitsLf x_A.log) (.slice p_A_1 x_A.log.length c_A_1)) => szStore_g x_A (.slice p_A_0 x_A.boxes.length c_A_0) (.slice p_A_1 x_A.log.length c_A_1) ll 1048576 hl W g0 g1 hb_A (by omega)
  simp only [show szN 1048576 (szLs x_A.lf) = (L1 : Int) from by rw [szN_yes k0]; omega] at q0
  have C_sz0 := Lib.hid q0
  clear q0
  have HL1 := Lib.hid hL1
  have hsz_0 : szLs x_A.lf ≤ 1048576 := by omega
  clear hL1
  by_cases k1 : szLs x_B.lf ≤ L1
  case neg =>
    have q1 := fun (ll : Int) (W : World) (hl : ll = ((L1 : Nat) : Int)) (g0 : LfRd W (boxsLf x_B.boxes) (.slice p_B_0 x_B.boxes.length c_B_0)) (g1 : LfRd W (commitsLf x_B.log) (.slice p_B_1 x_B.log.length c_B_1)) => szStore_g x_B (.slice p_B_0 x_B.boxes.length c_B_0) (.slice p_B_1 x_B.log.length c_B_1) ll L1 hl W g0 g1 hb_B (by omega)
    simp only [show szN L1 (szLs x_B.lf) = -1 from szN_no k1] at q1
    have C_sz1 := Lib.hid q1
    clear q1 SP IM
    have hb : Below w.heap.size w ((w.alloc (.cells #[(.slice p_A_0 x_A.boxes.length c_A_0), (.slice p_A_1 x_A.log.length c_A_1), .int .i64 x_A.given] 25)).alloc (.cells #[(.slice p_B_0 x_B.boxes.length c_B_0), (.slice p_B_1 x_B.log.length c_B_1), .int .i64 x_B.given] 25)) := (((Below.refl _ _).alloc (Nat.le_refl _) _).alloc (by simp) _)
    have HB1 := Lib.hid (show ((w.alloc (.cells #[(.slice p_A_0 x_A.boxes.length c_A_0), (.slice p_A_1 x_A.log.length c_A_1), .int .i64 x_A.given] 25)).alloc (.cells #[(.slice p_B_0 x_B.boxes.length c_B_0), (.slice p_B_1 x_B.log.length c_B_1), .int .i64 x_B.given] 25)).heap[w.heap.size]? = some (.cells #[(.slice p_A_0 x_A.boxes.length c_A_0), (.slice p_A_1 x_A.log.length c_A_1), .int .i64 x_A.given] 25 (0, 0)) from by
      have h := heap_alloc_new w (.cells #[(.slice p_A_0 x_A.boxes.length c_A_0), (.slice p_A_1 x_A.log.length c_A_1), .int .i64 x_A.given] 25)
      have h := (Below.heap_alloc (w.alloc (.cells #[(.slice p_A_0 x_A.boxes.length c_A_0), (.slice p_A_1 x_A.log.length c_A_1), .int .i64 x_A.given] 25)) (.cells #[(.slice p_B_0 x_B.boxes.length c_B_0), (.slice p_B_1 x_B.log.length c_B_1), .int .i64 x_B.given] 25) _ (by simp)).trans h
      exact h)
    have HB2 := Lib.hid (show ((w.alloc (.cells #[(.slice p_A_0 x_A.boxes.length c_A_0), (.slice p_A_1 x_A.log.length c_A_1), .int .i64 x_A.given] 25)).alloc (.cells #[(.slice p_B_0 x_B.boxes.length c_B_0), (.slice p_B_1 x_B.log.length c_B_1), .int .i64 x_B.given] 25)).heap[w.heap.size + 1]? = some (.cells #[(.slice p_B_0 x_B.boxes.length c_B_0), (.slice p_B_1 x_B.log.length c_B_1), .int .i64 x_B.given] 25 (0, 0)) from by
      have h := heap_alloc_new (w.alloc (.cells #[(.slice p_A_0 x_A.boxes.length c_A_0), (.slice p_A_1 x_A.log.length c_A_1), .int .i64 x_A.given] 25)) (.cells #[(.slice p_B_0 x_B.boxes.length c_B_0), (.slice p_B_1 x_B.log.length c_B_1), .int .i64 x_B.given] 25)
      simp only [World.size_alloc] at h
      exact h)
    have hz0 : w.heap.size + 2 ≤ ((w.alloc (.cells #[(.slice p_A_0 x_A.boxes.length c_A_0), (.slice p_A_1 x_A.log.length c_A_1), .int .i64 x_A.given] 25)).alloc (.cells #[(.slice p_B_0 x_B.boxes.length c_B_0), (.slice p_B_1 x_B.log.length c_B_1), .int .i64 x_B.given] 25)).heap.size := by simp
    generalize hW0 : ((w.alloc (.cells #[(.slice p_A_0 x_A.boxes.length c_A_0), (.slice p_A_1 x_A.log.length c_A_1), .int .i64 x_A.given] 25)).alloc (.cells #[(.slice p_B_0 x_B.boxes.length c_B_0), (.slice p_B_1 x_B.log.length c_B_1), .int .i64 x_B.given] 25)) = W0 at *
    go_enter Try.func4, Try.ntmps4
    have hbz := Lib.hid hb.size
    have y3 := (Lib.cell_of_heap HB1.out 0).trans (show _ = some ((.slice p_A_0 x_A.boxes.length c_A_0)) from rfl)
    have y4 := (Lib.cell_of_heap HB1.out 1).trans (show _ = some ((.slice p_A_1 x_A.log.length c_A_1)) from rfl)
    have y5 := (Lib.cell_of_heap HB1.out 2).trans (show _ = some (.int .i64 x_A.given) from rfl)
    go_wp2_with fail
    refine (C_sz0.out _ _ (by first | rfl | omega) (LfRd.below hb _ _ H_r_A_0.out) (LfRd.below hb _ _ H_r_A_1.out)).mono ?_
    rintro e w6 ⟨rfl, b7⟩
    clear y3 y4 y5
    have F8 := Lib.hid ((b7.block (w.heap.size) (Array.getElem?_eq_some_iff.1 HB1.out).1).trans HB1.out)
    clear HB1
    have F9 := Lib.hid ((b7.block (w.heap.size + 1) (Array.getElem?_eq_some_iff.1 HB2.out).1).trans HB2.out)
    clear HB2
    have hz10 : W0.heap.size ≤ w6.heap.size := b7.size
    replace hb := hb.trans (b7.mono hb.size)
    clear b7
    have y11 := (Lib.cell_of_heap F9.out 0).trans (show _ = some ((.slice p_B_0 x_B.boxes.length c_B_0)) from rfl)
    have y12 := (Lib.cell_of_heap F9.out 1).trans (show _ = some ((.slice p_B_1 x_B.log.length c_B_1)) from rfl)
    have y13 := (Lib.cell_of_heap F9.out 2).trans (show _ = some (.int .i64 x_B.given) from rfl)
    go_wp2_with fail
    refine (C_sz1.out _ _ (by first | rfl | omega) (LfRd.below hb _ _ H_r_B_0.out) (LfRd.below hb _ _ H_r_B_1.out)).mono ?_
    rintro e w14 ⟨rfl, b15⟩
    clear y11 y12 y13
    have F16 := Lib.hid ((b15.block (w.heap.size) (Array.getElem?_eq_some_iff.1 F8.out).1).trans F8.out)
    clear F8
    have F17 := Lib.hid ((b15.block (w.heap.size + 1) (Array.getElem?_eq_some_iff.1 F9.out).1).trans F9.out)
    clear F9
    have hz18 : w6.heap.size ≤ w14.heap.size := b15.size
    replace hb := hb.trans (b15.mono hb.size)
    clear b15
    go_wp2
    go_ret
    exact ⟨rfl, hb⟩
  obtain ⟨L2, hL2⟩ : ∃ L, L + szLs x_B.lf = L1 := ⟨L1 - szLs x_B.lf, by omega⟩
  have bL2 : L2 ≤ 1048576 := by omega
  have nL2 : ¬ (L2 : Int) < 0 := by omega
  have q1 := fun (ll : Int) (W : World) (hl : ll = ((L1 : Nat) : Int)) (g0 : LfRd W (boxsLf x_B.boxes) (.slice p_B_0 x_B.boxes.length c_B_0)) (g1 : LfRd W (commitsLf x_B.log) (.slice p_B_1 x_B.log.length c_B_1)) => szStore_g x_B (.slice p_B_0 x_B.boxes.length c_B_0) (.slice p_B_1 x_B.log.length c_B_1) ll L1 hl W g0 g1 hb_B (by omega)
  simp only [show szN L1 (szLs x_B.lf) = (L2 : Int) from by rw [szN_yes k1]; omega] at q1
  have C_sz1 := Lib.hid q1
  clear q1
  have HL2 := Lib.hid hL2
  have hsz_1 : szLs x_B.lf ≤ 1048576 := by omega
  clear hL2
  have hsm_A : szLs x_A.lf ≤ 1048576 := by omega
  have SZ_A := Lib.hid hsm_A
  have CN_A := Lib.hid (show 1 + cntLf (boxsLf x_A.boxes) + cntLf (commitsLf x_A.log) ≤ 1000000000 from by have hs := StoD.sz x_A; have h0 := cntRow_le (boxsLf_fit x_A.boxes); have h1 := cntRow_le (commitsLf_fit x_A.log); simp only [boxsLf, commitsLf] at hs ⊢; omega)
  have C_to_A := Lib.hid (fun (W : World) (g0 : LfRd W (boxsLf x_A.boxes) (.slice p_A_0 x_A.boxes.length c_A_0)) (g1 : LfRd W (commitsLf x_A.log) (.slice p_A_1 x_A.log.length c_A_1)) => toStore_g x_A (.slice p_A_0 x_A.boxes.length c_A_0) (.slice p_A_1 x_A.log.length c_A_1) W g0 g1 (by omega))
  have hsm_B : szLs x_B.lf ≤ 1048576 := by omega
  have SZ_B := Lib.hid hsm_B
  have CN_B := Lib.hid (show 1 + cntLf (boxsLf x_B.boxes) + cntLf (commitsLf x_B.log) ≤ 1000000000 from by have hs := StoD.sz x_B; have h0 := cntRow_le (boxsLf_fit x_B.boxes); have h1 := cntRow_le (commitsLf_fit x_B.log); simp only [boxsLf, commitsLf] at hs ⊢; omega)
  have C_to_B := Lib.hid (fun (W : World) (g0 : LfRd W (boxsLf x_B.boxes) (.slice p_B_0 x_B.boxes.length c_B_0)) (g1 : LfRd W (commitsLf x_B.log) (.slice p_B_1 x_B.log.length c_B_1)) => toStore_g x_B (.slice p_B_0 x_B.boxes.length c_B_0) (.slice p_B_1 x_B.log.length c_B_1) W g0 g1 (by omega))
  have C_spec := Lib.hid (fun (u_A_0 : Value) (u_A_1 : Value) (u_B_0 : Value) (u_B_1 : Value) (W : World) (k_A_0 : LfRd W (boxsLf x_A.boxes) u_A_0) (kc_A_0 : CapLe u_A_0) (k_A_1 : LfRd W (commitsLf x_A.log) u_A_1) (kc_A_1 : CapLe u_A_1) (k_B_0 : LfRd W (boxsLf x_B.boxes) u_B_0) (kc_B_0 : CapLe u_B_0) (k_B_1 : LfRd W (commitsLf x_B.log) u_B_1) (kc_B_1 : CapLe u_B_1) => SP x_A u_A_0 u_A_1 x_B u_B_0 u_B_1 W trivial k_A_0 kc_A_0 k_A_1 kc_A_1 hsm_A hb_A k_B_0 kc_B_0 k_B_1 kc_B_1 hsm_B hb_B)
  have C_impl := Lib.hid (fun (u_A_0 : Value) (u_A_1 : Value) (u_B_0 : Value) (u_B_1 : Value) (W : World) (hg : G W) (k_A_0 : LfRd W (boxsLf x_A.boxes) u_A_0) (kc_A_0 : CapLe u_A_0) (k_A_1 : LfRd W (commitsLf x_A.log) u_A_1) (kc_A_1 : CapLe u_A_1) (k_B_0 : LfRd W (boxsLf x_B.boxes) u_B_0) (kc_B_0 : CapLe u_B_0) (k_B_1 : LfRd W (commitsLf x_B.log) u_B_1) (kc_B_1 : CapLe u_B_1) => IM x_A u_A_0 u_A_1 x_B u_B_0 u_B_1 W hg k_A_0 kc_A_0 k_A_1 kc_A_1 hsm_A hb_A k_B_0 kc_B_0 k_B_1 kc_B_1 hsm_B hb_B)
  clear SP IM hb_A hsm_A hb_B hsm_B
  generalize (decide (x_A = x_B)) = R0 at *
  have ne0 : (R0 != R0) = false := by simp
  have hb : Below w.heap.size w ((w.alloc (.cells #[(.slice p_A_0 x_A.boxes.length c_A_0), (.slice p_A_1 x_A.log.length c_A_1), .int .i64 x_A.given] 25)).alloc (.cells #[(.slice p_B_0 x_B.boxes.length c_B_0), (.slice p_B_1 x_B.log.length c_B_1), .int .i64 x_B.given] 25)) := (((Below.refl _ _).alloc (Nat.le_refl _) _).alloc (by simp) _)
  have HB1 := Lib.hid (show ((w.alloc (.cells #[(.slice p_A_0 x_A.boxes.length c_A_0), (.slice p_A_1 x_A.log.length c_A_1), .int .i64 x_A.given] 25)).alloc (.cells #[(.slice p_B_0 x_B.boxes.length c_B_0), (.slice p_B_1 x_B.log.length c_B_1), .int .i64 x_B.given] 25)).heap[w.heap.size]? = some (.cells #[(.slice p_A_0 x_A.boxes.length c_A_0), (.slice p_A_1 x_A.log.length c_A_1), .int .i64 x_A.given] 25 (0, 0)) from by
    have h := heap_alloc_new w (.cells #[(.slice p_A_0 x_A.boxes.length c_A_0), (.slice p_A_1 x_A.log.length c_A_1), .int .i64 x_A.given] 25)
    have h := (Below.heap_alloc (w.alloc (.cells #[(.slice p_A_0 x_A.boxes.length c_A_0), (.slice p_A_1 x_A.log.length c_A_1), .int .i64 x_A.given] 25)) (.cells #[(.slice p_B_0 x_B.boxes.length c_B_0), (.slice p_B_1 x_B.log.length c_B_1), .int .i64 x_B.given] 25) _ (by simp)).trans h
    exact h)
  have HB2 := Lib.hid (show ((w.alloc (.cells #[(.slice p_A_0 x_A.boxes.length c_A_0), (.slice p_A_1 x_A.log.length c_A_1), .int .i64 x_A.given] 25)).alloc (.cells #[(.slice p_B_0 x_B.boxes.length c_B_0), (.slice p_B_1 x_B.log.length c_B_1), .int .i64 x_B.given] 25)).heap[w.heap.size + 1]? = some (.cells #[(.slice p_B_0 x_B.boxes.length c_B_0), (.slice p_B_1 x_B.log.length c_B_1), .int .i64 x_B.given] 25 (0, 0)) from by
    have h := heap_alloc_new (w.alloc (.cells #[(.slice p_A_0 x_A.boxes.length c_A_0), (.slice p_A_1 x_A.log.length c_A_1), .int .i64 x_A.given] 25)) (.cells #[(.slice p_B_0 x_B.boxes.length c_B_0), (.slice p_B_1 x_B.log.length c_B_1), .int .i64 x_B.given] 25)
    simp only [World.size_alloc] at h
    exact h)
  have hz0 : w.heap.size + 2 ≤ ((w.alloc (.cells #[(.slice p_A_0 x_A.boxes.length c_A_0), (.slice p_A_1 x_A.log.length c_A_1), .int .i64 x_A.given] 25)).alloc (.cells #[(.slice p_B_0 x_B.boxes.length c_B_0), (.slice p_B_1 x_B.log.length c_B_1), .int .i64 x_B.given] 25)).heap.size := by simp
  generalize hW0 : ((w.alloc (.cells #[(.slice p_A_0 x_A.boxes.length c_A_0), (.slice p_A_1 x_A.log.length c_A_1), .int .i64 x_A.given] 25)).alloc (.cells #[(.slice p_B_0 x_B.boxes.length c_B_0), (.slice p_B_1 x_B.log.length c_B_1), .int .i64 x_B.given] 25)) = W0 at *
  go_enter Try.func4, Try.ntmps4
  have hbz := Lib.hid hb.size
  have y3 := (Lib.cell_of_heap HB1.out 0).trans (show _ = some ((.slice p_A_0 x_A.boxes.length c_A_0)) from rfl)
  have y4 := (Lib.cell_of_heap HB1.out 1).trans (show _ = some ((.slice p_A_1 x_A.log.length c_A_1)) from rfl)
  have y5 := (Lib.cell_of_heap HB1.out 2).trans (show _ = some (.int .i64 x_A.given) from rfl)
  go_wp2_with fail
  refine (C_sz0.out _ _ (by first | rfl | omega) (LfRd.below hb _ _ H_r_A_0.out) (LfRd.below hb _ _ H_r_A_1.out)).mono ?_
  rintro e w6 ⟨rfl, b7⟩
  clear y3 y4 y5
  have F8 := Lib.hid ((b7.block (w.heap.size) (Array.getElem?_eq_some_iff.1 HB1.out).1).trans HB1.out)
  clear HB1
  have F9 := Lib.hid ((b7.block (w.heap.size + 1) (Array.getElem?_eq_some_iff.1 HB2.out).1).trans HB2.out)
  clear HB2
  have hz10 : W0.heap.size ≤ w6.heap.size := b7.size
  replace hb := hb.trans (b7.mono hb.size)
  clear b7
  have y11 := (Lib.cell_of_heap F9.out 0).trans (show _ = some ((.slice p_B_0 x_B.boxes.length c_B_0)) from rfl)
  have y12 := (Lib.cell_of_heap F9.out 1).trans (show _ = some ((.slice p_B_1 x_B.log.length c_B_1)) from rfl)
  have y13 := (Lib.cell_of_heap F9.out 2).trans (show _ = some (.int .i64 x_B.given) from rfl)
  go_wp2_with fail
  refine (C_sz1.out _ _ (by first | rfl | omega) (LfRd.below hb _ _ H_r_B_0.out) (LfRd.below hb _ _ H_r_B_1.out)).mono ?_
  rintro e w14 ⟨rfl, b15⟩
  clear y11 y12 y13
  have F16 := Lib.hid ((b15.block (w.heap.size) (Array.getElem?_eq_some_iff.1 F8.out).1).trans F8.out)
  clear F8
  have F17 := Lib.hid ((b15.block (w.heap.size + 1) (Array.getElem?_eq_some_iff.1 F9.out).1).trans F9.out)
  clear F9
  have hz18 : w6.heap.size ≤ w14.heap.size := b15.size
  replace hb := hb.trans (b15.mono hb.size)
  clear b15
  go_wp2
  refine ord_start [(0, true), (2, true), (1, false), (3, false), (4, false), (5, true)] (fun W => W.heap[w.heap.size]? = some (.cells #[(.slice p_A_0 x_A.boxes.length c_A_0), (.slice p_A_1 x_A.log.length c_A_1), .int .i64 x_A.given] 25 (0, 0)) ∧ W.heap[w.heap.size + 1]? = some (.cells #[(.slice p_B_0 x_B.boxes.length c_B_0), (.slice p_B_1 x_B.log.length c_B_1), .int .i64 x_B.given] 25 (0, 0))) (by kernel_rfl) (by kernel_rfl) rfl (by kernel_rfl) ?_
  intro ops' hops
  clear hops
  simp only [List.map_cons, List.map_nil, pickOp_zero, pickOp_succ]
  have b20 : Below w14.heap.size w14 w14.drew := (Below.refl _ _).drew
  have hz21 : w14.drew.heap.size = w14.heap.size := rfl
  generalize w14.drew = D19 at *
  have F22 := Lib.hid ((b20.block (w.heap.size) (Array.getElem?_eq_some_iff.1 F16.out).1).trans F16.out)
  clear F16
  have F23 := Lib.hid ((b20.block (w.heap.size + 1) (Array.getElem?_eq_some_iff.1 F17.out).1).trans F17.out)
  clear F17
  have hz24 : w14.heap.size ≤ D19.heap.size := b20.size
  replace hb := hb.trans (b20.mono hb.size)
  clear b20
  refine ord_flo (.agg #[(.slice p_A_0 x_A.boxes.length c_A_0), (.slice p_A_1 x_A.log.length c_A_1), .int .i64 x_A.given]) (fun _ _ _ h => h) rfl ?_ ⟨F22.out, F23.out⟩ ?_
  · intro W hS
    have y0 := (Lib.cell_of_heap hS.1 0).trans (show _ = some ((.slice p_A_0 x_A.boxes.length c_A_0)) from rfl)
    have y1 := (Lib.cell_of_heap hS.1 1).trans (show _ = some ((.slice p_A_1 x_A.log.length c_A_1)) from rfl)
    have y2 := (Lib.cell_of_heap hS.1 2).trans (show _ = some (.int .i64 x_A.given) from rfl)
    clear hS
    go_simp
  refine ord_flo (.agg #[(.slice p_B_0 x_B.boxes.length c_B_0), (.slice p_B_1 x_B.log.length c_B_1), .int .i64 x_B.given]) (fun _ _ _ h => h) rfl ?_ ⟨F22.out, F23.out⟩ ?_
  · intro W hS
    have y0 := (Lib.cell_of_heap hS.2 0).trans (show _ = some ((.slice p_B_0 x_B.boxes.length c_B_0)) from rfl)
    have y1 := (Lib.cell_of_heap hS.2 1).trans (show _ = some ((.slice p_B_1 x_B.log.length c_B_1)) from rfl)
    have y2 := (Lib.cell_of_heap hS.2 2).trans (show _ = some (.int .i64 x_B.given) from rfl)
    clear hS
    go_simp
  refine ord_ev rfl ?_
  go_simp
  refine (C_to_A.out _ (LfRd.below hb _ _ H_r_A_0.out) (LfRd.below hb _ _ H_r_A_1.out)).mono ?_
  rintro e w25 ⟨z28, f30, z29, f31, rfl, i32, i33, nd34, lo35, b26⟩
  have F36 := Lib.hid ((b26.block (w.heap.size) (Array.getElem?_eq_some_iff.1 F22.out).1).trans F22.out)
  clear F22
  have F37 := Lib.hid ((b26.block (w.heap.size + 1) (Array.getElem?_eq_some_iff.1 F23.out).1).trans F23.out)
  clear F23
  have hz38 : D19.heap.size ≤ w25.heap.size := b26.size
  replace hb := hb.trans (b26.mono hb.size)
  have LO39 := Lib.hid (show ∀ q ∈ f30 ++ f31, D19.heap.size ≤ q from lo35)
  have HI40 := Lib.hid (show ∀ q ∈ f30 ++ f31, q < w25.heap.size from fun q hq => by simp only [List.mem_append] at hq; rcases hq with hq | hq <;> first | exact LfIn.lt _ _ _ i32 q hq | exact LfIn.lt _ _ _ i33 q hq)
  have ND41 := Lib.hid nd34
  have F42 := Lib.hid i32
  have LO43 := Lib.hid (show ∀ q ∈ f30, D19.heap.size ≤ q from fun q hq => LO39.out q (by simp [hq]))
  have HI44 := Lib.hid (show ∀ q ∈ f30, q < w25.heap.size from fun q hq => HI40.out q (by simp [hq]))
  obtain ⟨pz28, cz28, rfl⟩ := LfIn.slice i32
  have F45 := Lib.hid i33
  have LO46 := Lib.hid (show ∀ q ∈ f31, D19.heap.size ≤ q from fun q hq => LO39.out q (by simp [hq]))
  have HI47 := Lib.hid (show ∀ q ∈ f31, q < w25.heap.size from fun q hq => HI40.out q (by simp [hq]))
  obtain ⟨pz29, cz29, rfl⟩ := LfIn.slice i33
  clear i32
  clear i33
  clear nd34 lo35
  clear b26
  refine ⟨⟨F36.out, F37.out⟩, ?_⟩
  refine ord_ev rfl ?_
  go_simp
  refine (C_to_B.out _ (LfRd.below hb _ _ H_r_B_0.out) (LfRd.below hb _ _ H_r_B_1.out)).mono ?_
  rintro e w48 ⟨z51, f53, z52, f54, rfl, i55, i56, nd57, lo58, b49⟩
  have F59 := Lib.hid ((b49.block (w.heap.size) (Array.getElem?_eq_some_iff.1 F36.out).1).trans F36.out)
  clear F36
  have F60 := Lib.hid ((b49.block (w.heap.size + 1) (Array.getElem?_eq_some_iff.1 F37.out).1).trans F37.out)
  clear F37
  have F61 := Lib.hid (LfIn.below F42.out b49)
  clear F42
  have F62 := Lib.hid (LfIn.below F45.out b49)
  clear F45
  have hz63 : w25.heap.size ≤ w48.heap.size := b49.size
  replace hb := hb.trans (b49.mono hb.size)
  have LO64 := Lib.hid (show ∀ q ∈ f53 ++ f54, w25.heap.size ≤ q from lo58)
  have HI65 := Lib.hid (show ∀ q ∈ f53 ++ f54, q < w48.heap.size from fun q hq => by simp only [List.mem_append] at hq; rcases hq with hq | hq <;> first | exact LfIn.lt _ _ _ i55 q hq | exact LfIn.lt _ _ _ i56 q hq)
  have ND66 := Lib.hid nd57
  have F67 := Lib.hid i55
  have LO68 := Lib.hid (show ∀ q ∈ f53, w25.heap.size ≤ q from fun q hq => LO64.out q (by simp [hq]))
  have HI69 := Lib.hid (show ∀ q ∈ f53, q < w48.heap.size from fun q hq => HI65.out q (by simp [hq]))
  obtain ⟨pz51, cz51, rfl⟩ := LfIn.slice i55
  have F70 := Lib.hid i56
  have LO71 := Lib.hid (show ∀ q ∈ f54, w25.heap.size ≤ q from fun q hq => LO64.out q (by simp [hq]))
  have HI72 := Lib.hid (show ∀ q ∈ f54, q < w48.heap.size from fun q hq => HI65.out q (by simp [hq]))
  obtain ⟨pz52, cz52, rfl⟩ := LfIn.slice i56
  clear i55
  clear i56
  clear nd57 lo58
  clear b49
  refine ⟨⟨F59.out, F60.out⟩, ?_⟩
  refine ord_ev rfl ?_
  go_simp
  refine (C_spec.out _ _ _ _ _ (LfIn.rd _ _ _ F61.out) (CapLe.of_in F61.out) (LfIn.rd _ _ _ F62.out) (CapLe.of_in F62.out) (LfIn.rd _ _ _ F67.out) (CapLe.of_in F67.out) (LfIn.rd _ _ _ F70.out) (CapLe.of_in F70.out)).mono ?_
  rintro e w73 ⟨rfl, b74⟩
  have F75 := Lib.hid ((b74.block (w.heap.size) (Array.getElem?_eq_some_iff.1 F59.out).1).trans F59.out)
  clear F59
  have F76 := Lib.hid ((b74.block (w.heap.size + 1) (Array.getElem?_eq_some_iff.1 F60.out).1).trans F60.out)
  clear F60
  have F77 := Lib.hid (LfIn.below F61.out b74)
  clear F61
  have F78 := Lib.hid (LfIn.below F62.out b74)
  clear F62
  have F79 := Lib.hid (LfIn.below F67.out b74)
  clear F67
  have F80 := Lib.hid (LfIn.below F70.out b74)
  clear F70
  have hz81 : w48.heap.size ≤ w73.heap.size := b74.size
  replace hb := hb.trans (b74.mono hb.size)
  clear b74
  refine ⟨⟨F75.out, F76.out⟩, ?_⟩
  iterate 1 (refine ord_flo ?_ (fun _ _ _ h => h) rfl ?_ ⟨F75.out, F76.out⟩ ?_; rotate_left; focus (intro W hS; obtain ⟨s0, s1⟩ := hS; go_simp; rfl))
  refine ord_done ?_
  go_simp
  have y82 := (Lib.cell_of_heap F75.out 0).trans (show _ = some ((.slice p_A_0 x_A.boxes.length c_A_0)) from rfl)
  have y83 := (Lib.cell_of_heap F75.out 1).trans (show _ = some ((.slice p_A_1 x_A.log.length c_A_1)) from rfl)
  have y84 := (Lib.cell_of_heap F75.out 2).trans (show _ = some (.int .i64 x_A.given) from rfl)
  go_wp2_with fail
  refine (C_to_A.out _ (LfRd.below hb _ _ H_r_A_0.out) (LfRd.below hb _ _ H_r_A_1.out)).mono ?_
  rintro e w85 ⟨z88, f90, z89, f91, rfl, i92, i93, nd94, lo95, b86⟩
  clear y82 y83 y84
  have F96 := Lib.hid ((b86.block (w.heap.size) (Array.getElem?_eq_some_iff.1 F75.out).1).trans F75.out)
  clear F75
  have F97 := Lib.hid ((b86.block (w.heap.size + 1) (Array.getElem?_eq_some_iff.1 F76.out).1).trans F76.out)
  clear F76
  have F98 := Lib.hid (LfIn.below F77.out b86)
  clear F77
  have F99 := Lib.hid (LfIn.below F78.out b86)
  clear F78
  have F100 := Lib.hid (LfIn.below F79.out b86)
  clear F79
  have F101 := Lib.hid (LfIn.below F80.out b86)
  clear F80
  have hz102 : w73.heap.size ≤ w85.heap.size := b86.size
  replace hb := hb.trans (b86.mono hb.size)
  have LO103 := Lib.hid (show ∀ q ∈ f90 ++ f91, w73.heap.size ≤ q from lo95)
  have HI104 := Lib.hid (show ∀ q ∈ f90 ++ f91, q < w85.heap.size from fun q hq => by simp only [List.mem_append] at hq; rcases hq with hq | hq <;> first | exact LfIn.lt _ _ _ i92 q hq | exact LfIn.lt _ _ _ i93 q hq)
  have ND105 := Lib.hid nd94
  have F106 := Lib.hid i92
  have LO107 := Lib.hid (show ∀ q ∈ f90, w73.heap.size ≤ q from fun q hq => LO103.out q (by simp [hq]))
  have HI108 := Lib.hid (show ∀ q ∈ f90, q < w85.heap.size from fun q hq => HI104.out q (by simp [hq]))
  obtain ⟨pz88, cz88, rfl⟩ := LfIn.slice i92
  have F109 := Lib.hid i93
  have LO110 := Lib.hid (show ∀ q ∈ f91, w73.heap.size ≤ q from fun q hq => LO103.out q (by simp [hq]))
  have HI111 := Lib.hid (show ∀ q ∈ f91, q < w85.heap.size from fun q hq => HI104.out q (by simp [hq]))
  obtain ⟨pz89, cz89, rfl⟩ := LfIn.slice i93
  clear i92
  clear i93
  clear nd94 lo95
  clear b86
  have b113 : Below w85.heap.size w85 (w85.alloc (.cells #[(.slice pz88 x_A.boxes.length cz88), (.slice pz89 x_A.log.length cz89), .int .i64 x_A.given] 32)) := (Below.refl _ _).alloc (Nat.le_refl _) _
  have F114 := Lib.hid (heap_alloc_new w85 (.cells #[(.slice pz88 x_A.boxes.length cz88), (.slice pz89 x_A.log.length cz89), .int .i64 x_A.given] 32))
  have hz115 : w85.heap.size < (w85.alloc (.cells #[(.slice pz88 x_A.boxes.length cz88), (.slice pz89 x_A.log.length cz89), .int .i64 x_A.given] 32)).heap.size := by simp
  generalize hX112 : w85.alloc (.cells #[(.slice pz88 x_A.boxes.length cz88), (.slice pz89 x_A.log.length cz89), .int .i64 x_A.given] 32) = X112 at *
  have F116 := Lib.hid ((b113.block (w.heap.size) (Array.getElem?_eq_some_iff.1 F96.out).1).trans F96.out)
  clear F96
  have F117 := Lib.hid ((b113.block (w.heap.size + 1) (Array.getElem?_eq_some_iff.1 F97.out).1).trans F97.out)
  clear F97
  have F118 := Lib.hid (LfIn.below F98.out b113)
  clear F98
  have F119 := Lib.hid (LfIn.below F99.out b113)
  clear F99
  have F120 := Lib.hid (LfIn.below F100.out b113)
  clear F100
  have F121 := Lib.hid (LfIn.below F101.out b113)
  clear F101
  have F122 := Lib.hid (LfIn.below F106.out b113)
  clear F106
  have F123 := Lib.hid (LfIn.below F109.out b113)
  clear F109
  have hz124 : w85.heap.size ≤ X112.heap.size := b113.size
  replace hb := hb.trans (b113.mono hb.size)
  clear b113
  have y125 := (Lib.cell_of_heap F117.out 0).trans (show _ = some ((.slice p_B_0 x_B.boxes.length c_B_0)) from rfl)
  have y126 := (Lib.cell_of_heap F117.out 1).trans (show _ = some ((.slice p_B_1 x_B.log.length c_B_1)) from rfl)
  have y127 := (Lib.cell_of_heap F117.out 2).trans (show _ = some (.int .i64 x_B.given) from rfl)
  go_wp2_with fail
  refine (C_to_B.out _ (LfRd.below hb _ _ H_r_B_0.out) (LfRd.below hb _ _ H_r_B_1.out)).mono ?_
  rintro e w128 ⟨z131, f133, z132, f134, rfl, i135, i136, nd137, lo138, b129⟩
  clear y125 y126 y127
  have F139 := Lib.hid ((b129.block (w.heap.size) (Array.getElem?_eq_some_iff.1 F116.out).1).trans F116.out)
  clear F116
  have F140 := Lib.hid ((b129.block (w.heap.size + 1) (Array.getElem?_eq_some_iff.1 F117.out).1).trans F117.out)
  clear F117
  have F141 := Lib.hid (LfIn.below F118.out b129)
  clear F118
  have F142 := Lib.hid (LfIn.below F119.out b129)
  clear F119
  have F143 := Lib.hid (LfIn.below F120.out b129)
  clear F120
  have F144 := Lib.hid (LfIn.below F121.out b129)
  clear F121
  have F145 := Lib.hid (LfIn.below F122.out b129)
  clear F122
  have F146 := Lib.hid (LfIn.below F123.out b129)
  clear F123
  have F147 := Lib.hid ((b129.block (w85.heap.size) (Array.getElem?_eq_some_iff.1 F114.out).1).trans F114.out)
  clear F114
  have hz148 : X112.heap.size ≤ w128.heap.size := b129.size
  replace hb := hb.trans (b129.mono hb.size)
  have LO149 := Lib.hid (show ∀ q ∈ f133 ++ f134, X112.heap.size ≤ q from lo138)
  have HI150 := Lib.hid (show ∀ q ∈ f133 ++ f134, q < w128.heap.size from fun q hq => by simp only [List.mem_append] at hq; rcases hq with hq | hq <;> first | exact LfIn.lt _ _ _ i135 q hq | exact LfIn.lt _ _ _ i136 q hq)
  have ND151 := Lib.hid nd137
  have F152 := Lib.hid i135
  have LO153 := Lib.hid (show ∀ q ∈ f133, X112.heap.size ≤ q from fun q hq => LO149.out q (by simp [hq]))
  have HI154 := Lib.hid (show ∀ q ∈ f133, q < w128.heap.size from fun q hq => HI150.out q (by simp [hq]))
  obtain ⟨pz131, cz131, rfl⟩ := LfIn.slice i135
  have F155 := Lib.hid i136
  have LO156 := Lib.hid (show ∀ q ∈ f134, X112.heap.size ≤ q from fun q hq => LO149.out q (by simp [hq]))
  have HI157 := Lib.hid (show ∀ q ∈ f134, q < w128.heap.size from fun q hq => HI150.out q (by simp [hq]))
  obtain ⟨pz132, cz132, rfl⟩ := LfIn.slice i136
  clear i135
  clear i136
  clear nd137 lo138
  clear b129
  have b159 : Below w128.heap.size w128 (w128.alloc (.cells #[(.slice pz131 x_B.boxes.length cz131), (.slice pz132 x_B.log.length cz132), .int .i64 x_B.given] 32)) := (Below.refl _ _).alloc (Nat.le_refl _) _
  have F160 := Lib.hid (heap_alloc_new w128 (.cells #[(.slice pz131 x_B.boxes.length cz131), (.slice pz132 x_B.log.length cz132), .int .i64 x_B.given] 32))
  have hz161 : w128.heap.size < (w128.alloc (.cells #[(.slice pz131 x_B.boxes.length cz131), (.slice pz132 x_B.log.length cz132), .int .i64 x_B.given] 32)).heap.size := by simp
  generalize hX158 : w128.alloc (.cells #[(.slice pz131 x_B.boxes.length cz131), (.slice pz132 x_B.log.length cz132), .int .i64 x_B.given] 32) = X158 at *
  have F162 := Lib.hid ((b159.block (w.heap.size) (Array.getElem?_eq_some_iff.1 F139.out).1).trans F139.out)
  clear F139
  have F163 := Lib.hid ((b159.block (w.heap.size + 1) (Array.getElem?_eq_some_iff.1 F140.out).1).trans F140.out)
  clear F140
  have F164 := Lib.hid (LfIn.below F141.out b159)
  clear F141
  have F165 := Lib.hid (LfIn.below F142.out b159)
  clear F142
  have F166 := Lib.hid (LfIn.below F143.out b159)
  clear F143
  have F167 := Lib.hid (LfIn.below F144.out b159)
  clear F144
  have F168 := Lib.hid (LfIn.below F145.out b159)
  clear F145
  have F169 := Lib.hid (LfIn.below F146.out b159)
  clear F146
  have F170 := Lib.hid ((b159.block (w85.heap.size) (Array.getElem?_eq_some_iff.1 F147.out).1).trans F147.out)
  clear F147
  have F171 := Lib.hid (LfIn.below F152.out b159)
  clear F152
  have F172 := Lib.hid (LfIn.below F155.out b159)
  clear F155
  have hz173 : w128.heap.size ≤ X158.heap.size := b159.size
  replace hb := hb.trans (b159.mono hb.size)
  clear b159
  have y174 := (Lib.cell_of_heap F170.out 0).trans (show _ = some ((.slice pz88 x_A.boxes.length cz88)) from rfl)
  have y175 := (Lib.cell_of_heap F170.out 1).trans (show _ = some ((.slice pz89 x_A.log.length cz89)) from rfl)
  have y176 := (Lib.cell_of_heap F170.out 2).trans (show _ = some (.int .i64 x_A.given) from rfl)
  have y177 := (Lib.cell_of_heap F160.out 0).trans (show _ = some ((.slice pz131 x_B.boxes.length cz131)) from rfl)
  have y178 := (Lib.cell_of_heap F160.out 1).trans (show _ = some ((.slice pz132 x_B.log.length cz132)) from rfl)
  have y179 := (Lib.cell_of_heap F160.out 2).trans (show _ = some (.int .i64 x_B.given) from rfl)
  go_wp2_with fail
  refine (C_impl.out _ _ _ _ _ (hK _ _ hG hb) (LfIn.rd _ _ _ F168.out) (CapLe.of_in F168.out) (LfIn.rd _ _ _ F169.out) (CapLe.of_in F169.out) (LfIn.rd _ _ _ F171.out) (CapLe.of_in F171.out) (LfIn.rd _ _ _ F172.out) (CapLe.of_in F172.out)).mono ?_
  rintro e w180 ⟨rfl, b181⟩
  clear y174 y175 y176 y177 y178 y179
  have F182 := Lib.hid ((b181.block (w.heap.size) (Array.getElem?_eq_some_iff.1 F162.out).1).trans F162.out)
  clear F162
  have F183 := Lib.hid ((b181.block (w.heap.size + 1) (Array.getElem?_eq_some_iff.1 F163.out).1).trans F163.out)
  clear F163
  have F184 := Lib.hid (LfIn.below F164.out b181)
  clear F164
  have F185 := Lib.hid (LfIn.below F165.out b181)
  clear F165
  have F186 := Lib.hid (LfIn.below F166.out b181)
  clear F166
  have F187 := Lib.hid (LfIn.below F167.out b181)
  clear F167
  have F188 := Lib.hid (LfIn.below F168.out b181)
  clear F168
  have F189 := Lib.hid (LfIn.below F169.out b181)
  clear F169
  have F190 := Lib.hid ((b181.block (w85.heap.size) (Array.getElem?_eq_some_iff.1 F170.out).1).trans F170.out)
  clear F170
  have F191 := Lib.hid (LfIn.below F171.out b181)
  clear F171
  have F192 := Lib.hid (LfIn.below F172.out b181)
  clear F172
  have F193 := Lib.hid ((b181.block (w128.heap.size) (Array.getElem?_eq_some_iff.1 F160.out).1).trans F160.out)
  clear F160
  have hz194 : X158.heap.size ≤ w180.heap.size := b181.size
  replace hb := hb.trans (b181.mono hb.size)
  clear b181
  go_wp2
  refine ord_start [(0, true), (1, true), (2, false), (3, false), (4, true)] (fun W => W.heap[w85.heap.size]? = some (.cells #[(.slice pz88 x_A.boxes.length cz88), (.slice pz89 x_A.log.length cz89), .int .i64 x_A.given] 32 (0, 0)) ∧ W.heap[w.heap.size]? = some (.cells #[(.slice p_A_0 x_A.boxes.length c_A_0), (.slice p_A_1 x_A.log.length c_A_1), .int .i64 x_A.given] 25 (0, 0))) (by kernel_rfl) (by kernel_rfl) rfl (by kernel_rfl) ?_
  intro ops' hops
  clear hops
  simp only [List.map_cons, List.map_nil, pickOp_zero, pickOp_succ]
  have b196 : Below w180.heap.size w180 w180.drew := (Below.refl _ _).drew
  have hz197 : w180.drew.heap.size = w180.heap.size := rfl
  generalize w180.drew = D195 at *
  have F198 := Lib.hid ((b196.block (w.heap.size) (Array.getElem?_eq_some_iff.1 F182.out).1).trans F182.out)
  clear F182
  have F199 := Lib.hid ((b196.block (w.heap.size + 1) (Array.getElem?_eq_some_iff.1 F183.out).1).trans F183.out)
  clear F183
  have F200 := Lib.hid (LfIn.below F184.out b196)
  clear F184
  have F201 := Lib.hid (LfIn.below F185.out b196)
  clear F185
  have F202 := Lib.hid (LfIn.below F186.out b196)
  clear F186
  have F203 := Lib.hid (LfIn.below F187.out b196)
  clear F187
  have F204 := Lib.hid (LfIn.below F188.out b196)
  clear F188
  have F205 := Lib.hid (LfIn.below F189.out b196)
  clear F189
  have F206 := Lib.hid ((b196.block (w85.heap.size) (Array.getElem?_eq_some_iff.1 F190.out).1).trans F190.out)
  clear F190
  have F207 := Lib.hid (LfIn.below F191.out b196)
  clear F191
  have F208 := Lib.hid (LfIn.below F192.out b196)
  clear F192
  have F209 := Lib.hid ((b196.block (w128.heap.size) (Array.getElem?_eq_some_iff.1 F193.out).1).trans F193.out)
  clear F193
  have hz210 : w180.heap.size ≤ D195.heap.size := b196.size
  replace hb := hb.trans (b196.mono hb.size)
  clear b196
  refine ord_flo (.agg #[(.slice pz88 x_A.boxes.length cz88), (.slice pz89 x_A.log.length cz89), .int .i64 x_A.given]) (fun _ _ _ h => h) rfl ?_ ⟨F206.out, F198.out⟩ ?_
  · intro W hS
    have y0 := (Lib.cell_of_heap hS.1 0).trans (show _ = some ((.slice pz88 x_A.boxes.length cz88)) from rfl)
    have y1 := (Lib.cell_of_heap hS.1 1).trans (show _ = some ((.slice pz89 x_A.log.length cz89)) from rfl)
    have y2 := (Lib.cell_of_heap hS.1 2).trans (show _ = some (.int .i64 x_A.given) from rfl)
    clear hS
    go_simp
  refine ord_flo (.agg #[(.slice p_A_0 x_A.boxes.length c_A_0), (.slice p_A_1 x_A.log.length c_A_1), .int .i64 x_A.given]) (fun _ _ _ h => h) rfl ?_ ⟨F206.out, F198.out⟩ ?_
  · intro W hS
    have y0 := (Lib.cell_of_heap hS.2 0).trans (show _ = some ((.slice p_A_0 x_A.boxes.length c_A_0)) from rfl)
    have y1 := (Lib.cell_of_heap hS.2 1).trans (show _ = some ((.slice p_A_1 x_A.log.length c_A_1)) from rfl)
    have y2 := (Lib.cell_of_heap hS.2 2).trans (show _ = some (.int .i64 x_A.given) from rfl)
    clear hS
    go_simp
  refine ord_ev rfl ?_
  go_simp
  refine (C_to_A.out _ (LfRd.below hb _ _ H_r_A_0.out) (LfRd.below hb _ _ H_r_A_1.out)).mono ?_
  rintro e w211 ⟨z214, f216, z215, f217, rfl, i218, i219, nd220, lo221, b212⟩
  have F222 := Lib.hid ((b212.block (w.heap.size) (Array.getElem?_eq_some_iff.1 F198.out).1).trans F198.out)
  clear F198
  have F223 := Lib.hid ((b212.block (w.heap.size + 1) (Array.getElem?_eq_some_iff.1 F199.out).1).trans F199.out)
  clear F199
  have F224 := Lib.hid (LfIn.below F200.out b212)
  clear F200
  have F225 := Lib.hid (LfIn.below F201.out b212)
  clear F201
  have F226 := Lib.hid (LfIn.below F202.out b212)
  clear F202
  have F227 := Lib.hid (LfIn.below F203.out b212)
  clear F203
  have F228 := Lib.hid (LfIn.below F204.out b212)
  clear F204
  have F229 := Lib.hid (LfIn.below F205.out b212)
  clear F205
  have F230 := Lib.hid ((b212.block (w85.heap.size) (Array.getElem?_eq_some_iff.1 F206.out).1).trans F206.out)
  clear F206
  have F231 := Lib.hid (LfIn.below F207.out b212)
  clear F207
  have F232 := Lib.hid (LfIn.below F208.out b212)
  clear F208
  have F233 := Lib.hid ((b212.block (w128.heap.size) (Array.getElem?_eq_some_iff.1 F209.out).1).trans F209.out)
  clear F209
  have hz234 : D195.heap.size ≤ w211.heap.size := b212.size
  replace hb := hb.trans (b212.mono hb.size)
  have LO235 := Lib.hid (show ∀ q ∈ f216 ++ f217, D195.heap.size ≤ q from lo221)
  have HI236 := Lib.hid (show ∀ q ∈ f216 ++ f217, q < w211.heap.size from fun q hq => by simp only [List.mem_append] at hq; rcases hq with hq | hq <;> first | exact LfIn.lt _ _ _ i218 q hq | exact LfIn.lt _ _ _ i219 q hq)
  have ND237 := Lib.hid nd220
  have F238 := Lib.hid i218
  have LO239 := Lib.hid (show ∀ q ∈ f216, D195.heap.size ≤ q from fun q hq => LO235.out q (by simp [hq]))
  have HI240 := Lib.hid (show ∀ q ∈ f216, q < w211.heap.size from fun q hq => HI236.out q (by simp [hq]))
  obtain ⟨pz214, cz214, rfl⟩ := LfIn.slice i218
  have F241 := Lib.hid i219
  have LO242 := Lib.hid (show ∀ q ∈ f217, D195.heap.size ≤ q from fun q hq => LO235.out q (by simp [hq]))
  have HI243 := Lib.hid (show ∀ q ∈ f217, q < w211.heap.size from fun q hq => HI236.out q (by simp [hq]))
  obtain ⟨pz215, cz215, rfl⟩ := LfIn.slice i219
  clear i218
  clear i219
  clear nd220 lo221
  clear b212
  refine ⟨⟨F230.out, F222.out⟩, ?_⟩
  refine ord_ev rfl ?_
  go_simp
  refine (eqStore_g x_A _ _ _ _ _ (LfIn.rd _ _ _ F228.out) (LfIn.rd _ _ _ F238.out) (LfIn.rd _ _ _ F229.out) (LfIn.rd _ _ _ F241.out) (by have := SZ_A.out; omega)).mono ?_
  rintro e w244 ⟨rfl, b245⟩
  have F246 := Lib.hid ((b245.block (w.heap.size) (Array.getElem?_eq_some_iff.1 F222.out).1).trans F222.out)
  clear F222
  have F247 := Lib.hid ((b245.block (w.heap.size + 1) (Array.getElem?_eq_some_iff.1 F223.out).1).trans F223.out)
  clear F223
  have F248 := Lib.hid (LfIn.below F224.out b245)
  clear F224
  have F249 := Lib.hid (LfIn.below F225.out b245)
  clear F225
  have F250 := Lib.hid (LfIn.below F226.out b245)
  clear F226
  have F251 := Lib.hid (LfIn.below F227.out b245)
  clear F227
  have F252 := Lib.hid (LfIn.below F228.out b245)
  clear F228
  have F253 := Lib.hid (LfIn.below F229.out b245)
  clear F229
  have F254 := Lib.hid ((b245.block (w85.heap.size) (Array.getElem?_eq_some_iff.1 F230.out).1).trans F230.out)
  clear F230
  have F255 := Lib.hid (LfIn.below F231.out b245)
  clear F231
  have F256 := Lib.hid (LfIn.below F232.out b245)
  clear F232
  have F257 := Lib.hid ((b245.block (w128.heap.size) (Array.getElem?_eq_some_iff.1 F233.out).1).trans F233.out)
  clear F233
  have F258 := Lib.hid (LfIn.below F238.out b245)
  clear F238
  have F259 := Lib.hid (LfIn.below F241.out b245)
  clear F241
  have hz260 : w211.heap.size ≤ w244.heap.size := b245.size
  replace hb := hb.trans (b245.mono hb.size)
  clear b245
  refine ⟨⟨F254.out, F246.out⟩, ?_⟩
  iterate 1 (refine ord_flo ?_ (fun _ _ _ h => h) rfl ?_ ⟨F254.out, F246.out⟩ ?_; rotate_left; focus (intro W hS; obtain ⟨s0, s1⟩ := hS; go_simp; rfl))
  refine ord_done ?_
  go_simp
  go_wp2
  refine ord_start [(0, true), (1, true), (2, false), (3, false), (4, true)] (fun W => W.heap[w128.heap.size]? = some (.cells #[(.slice pz131 x_B.boxes.length cz131), (.slice pz132 x_B.log.length cz132), .int .i64 x_B.given] 32 (0, 0)) ∧ W.heap[w.heap.size + 1]? = some (.cells #[(.slice p_B_0 x_B.boxes.length c_B_0), (.slice p_B_1 x_B.log.length c_B_1), .int .i64 x_B.given] 25 (0, 0))) (by kernel_rfl) (by kernel_rfl) rfl (by kernel_rfl) ?_
  intro ops' hops
  clear hops
  simp only [List.map_cons, List.map_nil, pickOp_zero, pickOp_succ]
  have b262 : Below w244.heap.size w244 w244.drew := (Below.refl _ _).drew
  have hz263 : w244.drew.heap.size = w244.heap.size := rfl
  generalize w244.drew = D261 at *
  have F264 := Lib.hid ((b262.block (w.heap.size) (Array.getElem?_eq_some_iff.1 F246.out).1).trans F246.out)
  clear F246
  have F265 := Lib.hid ((b262.block (w.heap.size + 1) (Array.getElem?_eq_some_iff.1 F247.out).1).trans F247.out)
  clear F247
  have F266 := Lib.hid (LfIn.below F248.out b262)
  clear F248
  have F267 := Lib.hid (LfIn.below F249.out b262)
  clear F249
  have F268 := Lib.hid (LfIn.below F250.out b262)
  clear F250
  have F269 := Lib.hid (LfIn.below F251.out b262)
  clear F251
  have F270 := Lib.hid (LfIn.below F252.out b262)
  clear F252
  have F271 := Lib.hid (LfIn.below F253.out b262)
  clear F253
  have F272 := Lib.hid ((b262.block (w85.heap.size) (Array.getElem?_eq_some_iff.1 F254.out).1).trans F254.out)
  clear F254
  have F273 := Lib.hid (LfIn.below F255.out b262)
  clear F255
  have F274 := Lib.hid (LfIn.below F256.out b262)
  clear F256
  have F275 := Lib.hid ((b262.block (w128.heap.size) (Array.getElem?_eq_some_iff.1 F257.out).1).trans F257.out)
  clear F257
  have F276 := Lib.hid (LfIn.below F258.out b262)
  clear F258
  have F277 := Lib.hid (LfIn.below F259.out b262)
  clear F259
  have hz278 : w244.heap.size ≤ D261.heap.size := b262.size
  replace hb := hb.trans (b262.mono hb.size)
  clear b262
  refine ord_flo (.agg #[(.slice pz131 x_B.boxes.length cz131), (.slice pz132 x_B.log.length cz132), .int .i64 x_B.given]) (fun _ _ _ h => h) rfl ?_ ⟨F275.out, F265.out⟩ ?_
  · intro W hS
    have y0 := (Lib.cell_of_heap hS.1 0).trans (show _ = some ((.slice pz131 x_B.boxes.length cz131)) from rfl)
    have y1 := (Lib.cell_of_heap hS.1 1).trans (show _ = some ((.slice pz132 x_B.log.length cz132)) from rfl)
    have y2 := (Lib.cell_of_heap hS.1 2).trans (show _ = some (.int .i64 x_B.given) from rfl)
    clear hS
    go_simp
  refine ord_flo (.agg #[(.slice p_B_0 x_B.boxes.length c_B_0), (.slice p_B_1 x_B.log.length c_B_1), .int .i64 x_B.given]) (fun _ _ _ h => h) rfl ?_ ⟨F275.out, F265.out⟩ ?_
  · intro W hS
    have y0 := (Lib.cell_of_heap hS.2 0).trans (show _ = some ((.slice p_B_0 x_B.boxes.length c_B_0)) from rfl)
    have y1 := (Lib.cell_of_heap hS.2 1).trans (show _ = some ((.slice p_B_1 x_B.log.length c_B_1)) from rfl)
    have y2 := (Lib.cell_of_heap hS.2 2).trans (show _ = some (.int .i64 x_B.given) from rfl)
    clear hS
    go_simp
  refine ord_ev rfl ?_
  go_simp
  refine (C_to_B.out _ (LfRd.below hb _ _ H_r_B_0.out) (LfRd.below hb _ _ H_r_B_1.out)).mono ?_
  rintro e w279 ⟨z282, f284, z283, f285, rfl, i286, i287, nd288, lo289, b280⟩
  have F290 := Lib.hid ((b280.block (w.heap.size) (Array.getElem?_eq_some_iff.1 F264.out).1).trans F264.out)
  clear F264
  have F291 := Lib.hid ((b280.block (w.heap.size + 1) (Array.getElem?_eq_some_iff.1 F265.out).1).trans F265.out)
  clear F265
  have F292 := Lib.hid (LfIn.below F266.out b280)
  clear F266
  have F293 := Lib.hid (LfIn.below F267.out b280)
  clear F267
  have F294 := Lib.hid (LfIn.below F268.out b280)
  clear F268
  have F295 := Lib.hid (LfIn.below F269.out b280)
  clear F269
  have F296 := Lib.hid (LfIn.below F270.out b280)
  clear F270
  have F297 := Lib.hid (LfIn.below F271.out b280)
  clear F271
  have F298 := Lib.hid ((b280.block (w85.heap.size) (Array.getElem?_eq_some_iff.1 F272.out).1).trans F272.out)
  clear F272
  have F299 := Lib.hid (LfIn.below F273.out b280)
  clear F273
  have F300 := Lib.hid (LfIn.below F274.out b280)
  clear F274
  have F301 := Lib.hid ((b280.block (w128.heap.size) (Array.getElem?_eq_some_iff.1 F275.out).1).trans F275.out)
  clear F275
  have F302 := Lib.hid (LfIn.below F276.out b280)
  clear F276
  have F303 := Lib.hid (LfIn.below F277.out b280)
  clear F277
  have hz304 : D261.heap.size ≤ w279.heap.size := b280.size
  replace hb := hb.trans (b280.mono hb.size)
  have LO305 := Lib.hid (show ∀ q ∈ f284 ++ f285, D261.heap.size ≤ q from lo289)
  have HI306 := Lib.hid (show ∀ q ∈ f284 ++ f285, q < w279.heap.size from fun q hq => by simp only [List.mem_append] at hq; rcases hq with hq | hq <;> first | exact LfIn.lt _ _ _ i286 q hq | exact LfIn.lt _ _ _ i287 q hq)
  have ND307 := Lib.hid nd288
  have F308 := Lib.hid i286
  have LO309 := Lib.hid (show ∀ q ∈ f284, D261.heap.size ≤ q from fun q hq => LO305.out q (by simp [hq]))
  have HI310 := Lib.hid (show ∀ q ∈ f284, q < w279.heap.size from fun q hq => HI306.out q (by simp [hq]))
  obtain ⟨pz282, cz282, rfl⟩ := LfIn.slice i286
  have F311 := Lib.hid i287
  have LO312 := Lib.hid (show ∀ q ∈ f285, D261.heap.size ≤ q from fun q hq => LO305.out q (by simp [hq]))
  have HI313 := Lib.hid (show ∀ q ∈ f285, q < w279.heap.size from fun q hq => HI306.out q (by simp [hq]))
  obtain ⟨pz283, cz283, rfl⟩ := LfIn.slice i287
  clear i286
  clear i287
  clear nd288 lo289
  clear b280
  refine ⟨⟨F301.out, F291.out⟩, ?_⟩
  refine ord_ev rfl ?_
  go_simp
  refine (eqStore_g x_B _ _ _ _ _ (LfIn.rd _ _ _ F299.out) (LfIn.rd _ _ _ F308.out) (LfIn.rd _ _ _ F300.out) (LfIn.rd _ _ _ F311.out) (by have := SZ_B.out; omega)).mono ?_
  rintro e w314 ⟨rfl, b315⟩
  have F316 := Lib.hid ((b315.block (w.heap.size) (Array.getElem?_eq_some_iff.1 F290.out).1).trans F290.out)
  clear F290
  have F317 := Lib.hid ((b315.block (w.heap.size + 1) (Array.getElem?_eq_some_iff.1 F291.out).1).trans F291.out)
  clear F291
  have F318 := Lib.hid (LfIn.below F292.out b315)
  clear F292
  have F319 := Lib.hid (LfIn.below F293.out b315)
  clear F293
  have F320 := Lib.hid (LfIn.below F294.out b315)
  clear F294
  have F321 := Lib.hid (LfIn.below F295.out b315)
  clear F295
  have F322 := Lib.hid (LfIn.below F296.out b315)
  clear F296
  have F323 := Lib.hid (LfIn.below F297.out b315)
  clear F297
  have F324 := Lib.hid ((b315.block (w85.heap.size) (Array.getElem?_eq_some_iff.1 F298.out).1).trans F298.out)
  clear F298
  have F325 := Lib.hid (LfIn.below F299.out b315)
  clear F299
  have F326 := Lib.hid (LfIn.below F300.out b315)
  clear F300
  have F327 := Lib.hid ((b315.block (w128.heap.size) (Array.getElem?_eq_some_iff.1 F301.out).1).trans F301.out)
  clear F301
  have F328 := Lib.hid (LfIn.below F302.out b315)
  clear F302
  have F329 := Lib.hid (LfIn.below F303.out b315)
  clear F303
  have F330 := Lib.hid (LfIn.below F308.out b315)
  clear F308
  have F331 := Lib.hid (LfIn.below F311.out b315)
  clear F311
  have hz332 : w279.heap.size ≤ w314.heap.size := b315.size
  replace hb := hb.trans (b315.mono hb.size)
  clear b315
  refine ⟨⟨F327.out, F317.out⟩, ?_⟩
  iterate 1 (refine ord_flo ?_ (fun _ _ _ h => h) rfl ?_ ⟨F327.out, F317.out⟩ ?_; rotate_left; focus (intro W hS; obtain ⟨s0, s1⟩ := hS; go_simp; rfl))
  refine ord_done ?_
  go_simp
  go_wp2
  go_ret
  exact ⟨rfl, hb⟩

end Go.Proofs.Ytbfgdbpfecffcaa
