/-
  Ug: FlagB FlagC TabS FlagE CmdB (what the claim needs of them).
-/
import Derived.Test.YtidjebepgpbcnaaGreatDoorRows
import Derived.WalkKit
import Derived.WalkSpells
import Derived.WalkLawsBesides
import Derived.Laws.IdiomStrings
import Derived.Lib.Hide
import Derived.Deep.AppendLies
import Derived.OrdersHeld
import Derived.Lib.ItoaNum
import Derived.Lib.ItoaMem
import Derived.Lib.AppendStr
import Derived.Lib.ItoaLen
import Derived.Lib.Strings
import Derived.Lib.Bytealg
import Derived.Lib.OthersKept
import Derived.Laws.RangeAny
import Derived.Laws.BitsAllLaws
import Derived.Laws.BitsLemmas
import Derived.IntWalk
import Derived.Handy
import Derived.Lib.Join
import Derived.Deep.Strs
import Derived.Test.YtidjebepgpbcnaaGreatDoorProg
import Derived.Lib.LaidTab
import Derived.OpenShut
import Derived.WalkSmall
import Derived.ChangeKeysEq
import Derived.Test.YtidjebepgpbcnaaGreatDoorUb
import Derived.Test.YtidjebepgpbcnaaGreatDoorUc
import Derived.Test.YtidjebepgpbcnaaGreatDoorUd
import Derived.Test.YtidjebepgpbcnaaGreatDoorUe

namespace Go.Proofs.YtidjebepgpbcnaaGreatDoor
open Go.RowKit

theorem l7Boxed_any (k : Int) (w : World) : Calls Tryz.prog 47 #[.int .i64 k] w fun e w' => e = .returned (.bool (boxedB k)) ∧ w = w' := by
  have HV := Lib.hid (show boxedB k = (k == 2 || k == 11 || k == 12 || k == 13 || k == 14 || k == 10) from rfl)
  cases h1 : (k == 2) <;> cases h2 : (k == 11) <;> cases h3 : (k == 12) <;> cases h4 : (k == 13) <;> cases h5 : (k == 14)
  all_goals first
    | (exfalso; simp only [beq_iff_eq] at *; omega)
    | (rw [h1, h2, h3, h4, h5] at HV
       go_enter Tryz.func47, Tryz.ntmps47
       go_wp2
       go_ret
       exact ⟨by rw [HV.out]; simp, rfl⟩)

theorem l7Sets_any (k : Int) (w : World) : Calls Tryz.prog 49 #[.int .i64 k] w fun e w' => e = .returned (.bool (setsB k)) ∧ w = w' := by
  have HV := Lib.hid (show setsB k = (k == 7 || k == 8 || k == 10) from rfl)
  cases h1 : (k == 7) <;> cases h2 : (k == 8)
  all_goals first
    | (exfalso; simp only [beq_iff_eq] at *; omega)
    | (rw [h1, h2] at HV
       go_enter Tryz.func49, Tryz.ntmps49
       go_wp2
       go_ret
       exact ⟨by rw [HV.out]; simp, rfl⟩)

set_option maxHeartbeats 1600000 in
theorem l7Spans_any (a b : Value) (l m : List Spn) (w : World) (ha : LfRd w (spnsLf l) a) (hb : LfRd w (spnsLf m) b) (hl : l.length ≤ 140737488355328) :
    Calls Tryz.prog 81 #[a, b] w fun e w' => e = .returned (.bool (decide (l = m))) ∧ Below w.heap.size w w' := by
  obtain ⟨p, c1, rfl, hp⟩ := Spn.at ha
  obtain ⟨q, c2, rfl, hq⟩ := Spn.at hb
  clear ha hb
  have HP := Lib.hid hp
  have HQ := Lib.hid hq
  clear hp hq
  by_cases hlen : l.length = m.length
  · rw [← hlen]
    have HL := Lib.hid hlen
    clear hlen
    go_enter Tryz.func81, Tryz.ntmps81
    go_wp2
    go_loopw [5] (fun i wr => ∃ k : Nat, k ≤ l.length ∧ i = .int .i64 k ∧ l.take k = m.take k ∧ Below w.heap.size w wr) (fun i _ => l.length - (intOf i).toNat)
    case atStart => exact ⟨0, by omega, rfl, rfl, Below.refl _ _⟩
    case round =>
      obtain ⟨k, hk, rfl, hall, hbr⟩ := hrel
      have Hall := Lib.hid hall
      clear hall
      by_cases hlt : k < l.length
      · obtain ⟨b1, o1, rfl, hb1, hc1⟩ := HP.out.resolve_left (by intro h; subst h; simp at hlt)
        obtain ⟨b2, o2, rfl, hb2, hc2⟩ := HQ.out.resolve_left (by intro h; have hlen := HL.out; rw [h] at hlen; simp at hlen; simp [hlen] at hlt)
        obtain ⟨x, hx⟩ : ∃ x, l[k]? = some x := ⟨_, List.getElem?_eq_getElem hlt⟩
        obtain ⟨y, hy⟩ : ∃ y, m[k]? = some y := ⟨_, List.getElem?_eq_getElem (by have := HL.out; omega)⟩
        obtain ⟨x0, x1⟩ := hc1 k x hx
        obtain ⟨y0, y1⟩ := hc2 k y hy
        have e0 : wr.drew.cell? ⟨b1, o1 + k * 2, none⟩ = some (.int .i64 x.low) := (hbr.cell (p := ⟨b1, o1 + k * 2, none⟩) hb1).trans x0
        have e1 : wr.drew.cell? ⟨b1, o1 + k * 2 + 1, none⟩ = some (.int .i64 x.high) := (hbr.cell (p := ⟨b1, o1 + k * 2 + 1, none⟩) hb1).trans x1
        have f0 : wr.drew.cell? ⟨b2, o2 + k * 2, none⟩ = some (.int .i64 y.low) := (hbr.cell (p := ⟨b2, o2 + k * 2, none⟩) hb2).trans y0
        have f1 : wr.drew.cell? ⟨b2, o2 + k * 2 + 1, none⟩ = some (.int .i64 y.high) := (hbr.cell (p := ⟨b2, o2 + k * 2 + 1, none⟩) hb2).trans y1
        have hno := Lib.hid (fun h : x ≠ y => (decide_eq_false (not_same_at hx hy h) : decide (l = m) = false))
        have hyes := Lib.hid (fun h : x = y => take_same_succ hx (by rw [hy, h]) Hall.out)
        clear hc1 hc2 hx hy Hall x0 x1 y0 y1
        cases h1 : (x.low == y.low) with
        | false =>
          have HV := Lib.hid (hno.out (by intro e; rw [e] at h1; simp at h1))
          clear hno hyes HP HQ HL
          go_wp2
          refine ord_start [(0, true), (1, true), (2, true), (3, true), (4, true), (5, true), (6, true), (7, true), (8, true)] (fun W => W.cell? ⟨b1, o1 + k * 2, none⟩ = some (.int .i64 x.low) ∧ W.cell? ⟨b1, o1 + k * 2 + 1, none⟩ = some (.int .i64 x.high) ∧ W.cell? ⟨b2, o2 + k * 2, none⟩ = some (.int .i64 y.low) ∧ W.cell? ⟨b2, o2 + k * 2 + 1, none⟩ = some (.int .i64 y.high)) (by kernel_rfl) (by kernel_rfl) rfl (by kernel_rfl) ?_
          intro ops' hops
          clear hops
          simp only [List.map_cons, List.map_nil, pickOp_zero, pickOp_succ]
          iterate 9 (refine ord_flo ?_ (fun _ _ _ h => h) rfl ?_ ⟨e0, e1, f0, f1⟩ ?_; rotate_left; focus (intro W hS; obtain ⟨s1, s2, s3, s4⟩ := hS; go_simp; rfl))
          refine ord_done ?_
          go_simp
          go_wp2
          go_ret
          exact ⟨by rw [HV.out]; rfl, hbr.drew⟩
        | true =>
          cases h2 : (x.high == y.high) with
          | false =>
            have HV := Lib.hid (hno.out (by intro e; rw [e] at h2; simp at h2))
            clear hno hyes HP HQ HL
            go_wp2
            refine ord_start [(0, true), (1, true), (2, true), (3, true), (4, true), (5, true), (6, true), (7, true), (8, true)] (fun W => W.cell? ⟨b1, o1 + k * 2, none⟩ = some (.int .i64 x.low) ∧ W.cell? ⟨b1, o1 + k * 2 + 1, none⟩ = some (.int .i64 x.high) ∧ W.cell? ⟨b2, o2 + k * 2, none⟩ = some (.int .i64 y.low) ∧ W.cell? ⟨b2, o2 + k * 2 + 1, none⟩ = some (.int .i64 y.high)) (by kernel_rfl) (by kernel_rfl) rfl (by kernel_rfl) ?_
            intro ops' hops
            clear hops
            simp only [List.map_cons, List.map_nil, pickOp_zero, pickOp_succ]
            iterate 9 (refine ord_flo ?_ (fun _ _ _ h => h) rfl ?_ ⟨e0, e1, f0, f1⟩ ?_; rotate_left; focus (intro W hS; obtain ⟨s1, s2, s3, s4⟩ := hS; go_simp; rfl))
            refine ord_done ?_
            go_simp
            go_wp2
            go_ret
            exact ⟨by rw [HV.out]; rfl, hbr.drew⟩
          | true =>
            have HN := Lib.hid (hyes.out (by cases x; cases y; simp only [beq_iff_eq] at h1 h2; rw [h1, h2]))
            clear hno hyes
            go_wp2
            refine ord_start [(0, true), (1, true), (2, true), (3, true), (4, true), (5, true), (6, true), (7, true), (8, true)] (fun W => W.cell? ⟨b1, o1 + k * 2, none⟩ = some (.int .i64 x.low) ∧ W.cell? ⟨b1, o1 + k * 2 + 1, none⟩ = some (.int .i64 x.high) ∧ W.cell? ⟨b2, o2 + k * 2, none⟩ = some (.int .i64 y.low) ∧ W.cell? ⟨b2, o2 + k * 2 + 1, none⟩ = some (.int .i64 y.high)) (by kernel_rfl) (by kernel_rfl) rfl (by kernel_rfl) ?_
            intro ops' hops
            clear hops
            simp only [List.map_cons, List.map_nil, pickOp_zero, pickOp_succ]
            iterate 9 (refine ord_flo ?_ (fun _ _ _ h => h) rfl ?_ ⟨e0, e1, f0, f1⟩ ?_; rotate_left; focus (intro W hS; obtain ⟨s1, s2, s3, s4⟩ := hS; go_simp; rfl))
            refine ord_done ?_
            go_simp
            go_wp2
            go_roundw
            case rel => exact ⟨k + 1, by omega, by go_num, HN.out, hbr.drew⟩
            case measure => simp [intOf]; omega
      · obtain rfl : k = l.length := by omega
        have HV := Lib.hid (show decide (l = m) = true from decide_eq_true (by have := Hall.out; rw [List.take_length, HL.out, List.take_length] at this; exact this))
        clear HL
        go_wp2
        go_ret
        exact ⟨by rw [HV.out]; rfl, hbr⟩
  · have HV := Lib.hid (show decide (l = m) = false from decide_eq_false (fun e => hlen (by rw [e])))
    have hne : ((l.length : Int) == (m.length : Int)) = false := by rw [beq_eq_false_iff_ne]; omega
    have hnn := ne_yes' hne
    go_enter Tryz.func81, Tryz.ntmps81
    go_wp2
    go_ret
    exact ⟨by rw [HV.out]; rfl, Below.refl _ _⟩

end Go.Proofs.YtidjebepgpbcnaaGreatDoor

namespace Go.Proofs.YtidjebepgpbcnaaGreatDoor
open Go.RowKit

def opT (op : Int) : List UInt8 := if op = 1 then [43] else if op = 2 then [45] else if op = 3 then [61] else []
def rdOp (s : List UInt8) : Option Int := if s = [43] then some 1 else if s = [45] then some 2 else if s = [61] then some 3 else none
def opV (o : Option Int) : Value := match o with | some n => .tuple #[.int .i64 n, .bool true] | none => .tuple #[.int .i64 0, .bool false]

theorem specOpText_any (op : Int) (w : World) :
    Calls Tryz.prog 22 #[.int .i64 op] w fun e w' => e = .returned (sv (opT op)) ∧ Below w.heap.size w w' := by
  have c1 := fun W => l1In_any op 1 3 W
  by_cases h : 1 ≤ op ∧ op ≤ 3
  · rw [show (decide (1 ≤ op) && decide (op ≤ 3)) = true by simp [h]] at c1
    have C1 := Lib.hid c1
    have hop : op = 1 ∨ op = 2 ∨ op = 3 := by omega
    clear c1 h
    rcases hop with rfl | rfl | rfl
    all_goals
      go_enter Tryz.func22, Tryz.ntmps22
      go_wp2_with fail
      refine (C1.out _).mono ?_
      rintro e w1 ⟨rfl, rfl⟩
      go_wp2
      go_ret
      exact ⟨rfl, (Below.refl _ _).alloc (Nat.le_refl _) _⟩
  · rw [show (decide (1 ≤ op) && decide (op ≤ 3)) = false by rw [← Bool.decide_and]; exact decide_eq_false h] at c1
    have C1 := Lib.hid c1
    have HV := Lib.hid (show opT op = [] by unfold opT; rw [if_neg (by omega), if_neg (by omega), if_neg (by omega)])
    clear c1 h
    go_enter Tryz.func22, Tryz.ntmps22
    go_wp2_with fail
    refine (C1.out _).mono ?_
    rintro e w1 ⟨rfl, rfl⟩
    go_wp2
    go_ret
    exact ⟨by rw [HV.out]; rfl, Below.refl _ _⟩

end Go.Proofs.YtidjebepgpbcnaaGreatDoor

namespace Go.Proofs.YtidjebepgpbcnaaGreatDoor
open Go.RowKit

/-- The table as a row lists it. -/
def strData {H : Type} (l : List (List UInt8)) : DataW H := .agg (l.map fun s => .lit (.string s))
/-- The variable holds just these strings. -/
def StrsIs (P : Program) (w : World) (name : String) (l : List (List UInt8)) : Prop := w.var? P name = some (l.map sv).toArray

theorem strs_of_data {H : Type} {enc : TypeId × Value → H} {P : Program} {w : World} {base : Nat} {sp : Nat → Bool} {held : Bool} {fuel : Nat} {t e : TypeId} {n : Nat} {cs : List Value} {l : List (List UInt8)} {p : List MemPlace}
    (ht : P.underlying t = some (.array n e)) (he : P.underlying e = some .string) (hce : P.cellsOf e = 1) (hct : P.cellsOf t = n)
    (h : DataW.trod enc P w base sp held fuel t cs = some (strData l, p)) : cs = l.map sv := by
  obtain ⟨xs, m, rfl, hx, hl, hn, hi⟩ := DataW.trod_array ht h
  have hxs : xs.map (·.1) = l.map fun s => (DataW.lit (.string s) : DataW H) := by
    have := congrArg Prod.fst hx
    simpa [strData] using this.symm
  have hll : l.length = n := by have := congrArg List.length hxs; simp at this; omega
  apply List.ext_getElem?
  intro i
  by_cases hlt : i < n
  · have h1 := hi i hlt
    obtain ⟨x, hx⟩ : ∃ x, xs[i]? = some x := ⟨_, List.getElem?_eq_getElem (by omega)⟩
    rw [hx] at h1
    obtain ⟨s, hc, rfl, _⟩ := DataW.trod_string he h1
    have h2 : cs[i]? = some (.string s) := by
      have := congrArg (·[0]?) hc
      simpa [hce, List.getElem?_take, List.getElem?_drop] using this
    have h3 : (xs.map (·.1))[i]? = some (DataW.lit (.string s.data.toList) : DataW H) := by simp [hx]
    rw [hxs] at h3
    simp only [List.getElem?_map, Option.map_eq_some_iff, DataW.lit.injEq, Lit.string.injEq] at h3
    obtain ⟨y, hy, rfl⟩ := h3
    rw [h2, List.getElem?_map, hy]
    simp [sv_data]
  · rw [List.getElem?_eq_none (by omega), List.getElem?_eq_none (by simp; omega)]

/-- From the row's list: the table stands first on it. -/
theorem strsIs_of_head {P : Program} {W : World} {name : String} {l : List (List UInt8)} {rest : List (String × DataW Unit)} {g : Nat} {t e : TypeId} {n : Nat}
    (hg : P.globalNamed name = some g) (hty : (P.globals[g]?).map (·.type) = some t) (ht : P.underlying t = some (.array n e)) (he : P.underlying e = some .string) (hce : P.cellsOf e = 1) (hct : P.cellsOf t = n)
    (h : laidMet P ((name, strData l) :: rest) W) : StrsIs P W name l := by
  obtain ⟨ps, ⟨g', t', cs, fuel, p, q, hg', ht', hvar, hd, _, _⟩, _⟩ := h
  obtain rfl := Option.some.inj (hg.symm.trans hg')
  obtain rfl := Option.some.inj (hty.symm.trans ht')
  unfold StrsIs
  rw [hvar, ← strs_of_data ht he hce hct hd]

theorem StrsIs.cell {P : Program} {W : World} {name : String} {l : List (List UInt8)} {g : Nat} (h : StrsIs P W name l) (hg : P.globalNamed name = some g) (i : Nat) (hi : i < l.length) :
    W.cell? ⟨g, i, none⟩ = some (sv (l.getD i [])) := by
  have := World.var?_cell hg h i
  simpa [List.getD, hi] using this

/-- a[i] of an array by value whose elements are strings. -/
theorem run_index_strs {P : Program} (w : World) {t e : TypeId} {n : Nat} {cs : Array Value} {k : IntKind} {i : Int} {v : Value} (h : P.underlying t = some (.array n e)) (he : P.underlying e = some .string) (h1 : P.cellsOf e = 1) (hs : (P.info? e).isSome = true)
    (h0 : 0 ≤ i) (hi : i < n) (hv : cs[i.toNat]? = some v) : (Instr.index t (.agg cs) (.int k i)).run P w = .ok v w := by
  obtain ⟨j, hj⟩ := Option.isSome_iff_exists.1 hs
  simp [Instr.index, run_underlying h, asIntOf, h0, hi, go_sem, run_underlying he, run_sizeOf _ hj, isAgg, h1, hv]

end Go.Proofs.YtidjebepgpbcnaaGreatDoor

namespace Go.Proofs.YtidjebepgpbcnaaGreatDoor
open Go.RowKit

theorem implFlagsOk_at (n : Int) (w : World) :
    Calls Tryz.prog 87 #[.int .i64 n] w fun e w' => e = .returned (.bool (flB n)) ∧ w = w' := by
  have hg := Lib.hid (show flB n = (decide (0 ≤ n) && decide (n ≤ 31)) from rfl)
  go_enter Tryz.func87, Tryz.ntmps87
  cases h1 : decide (0 ≤ n) with
  | true =>
    have h1 : 0 ≤ n := of_decide_eq_true h1
    cases h2 : decide (n ≤ 31) with
    | true =>
      have h2 : n ≤ 31 := of_decide_eq_true h2
      go_wp2
      go_ret
      exact ⟨by rw [hg.out]; simp [h1, h2], rfl⟩
    | false =>
      have h2 : ¬ n ≤ 31 := of_decide_eq_false h2
      go_wp2
      go_ret
      exact ⟨by rw [hg.out]; simp; omega, rfl⟩
  | false =>
    have h1 : ¬ 0 ≤ n := of_decide_eq_false h1
    go_wp2
    go_ret
    exact ⟨by rw [hg.out]; simp; omega, rfl⟩

theorem implOpText_at (op : Int) (w : World) :
    Calls Tryz.prog 65 #[.int .i64 op] w fun e w' => e = .returned (sv (opT op)) ∧ w = w' := by
  have HV := Lib.hid (show opT op = if op = 1 then [43] else if op = 2 then [45] else if op = 3 then [61] else [] from rfl)
  generalize opT op = R at *
  go_enter Tryz.func65, Tryz.ntmps65
  cases g1 : (op == 1) with
  | true =>
    have hv : R = [43] := by rw [HV.out, if_pos (beq_iff_eq.1 g1)]
    subst hv
    go_wp2
    go_ret
    exact ⟨rfl, rfl⟩
  | false =>
    cases g2 : (op == 2) with
    | true =>
      have hv : R = [45] := by rw [HV.out, if_neg (beq_eq_false_iff_ne.1 g1), if_pos (beq_iff_eq.1 g2)]
      subst hv
      go_wp2
      go_ret
      exact ⟨rfl, rfl⟩
    | false =>
      cases g3 : (op == 3) with
      | true =>
        have hv : R = [61] := by rw [HV.out, if_neg (beq_eq_false_iff_ne.1 g1), if_neg (beq_eq_false_iff_ne.1 g2), if_pos (beq_iff_eq.1 g3)]
        subst hv
        go_wp2
        go_ret
        exact ⟨rfl, rfl⟩
      | false =>
        have hv : R = [] := by rw [HV.out, if_neg (beq_eq_false_iff_ne.1 g1), if_neg (beq_eq_false_iff_ne.1 g2), if_neg (beq_eq_false_iff_ne.1 g3)]
        subst hv
        go_wp2
        go_ret
        exact ⟨rfl, rfl⟩

theorem gFw : Tryz.prog.globalNamed "loop.example/g00501/impl.flagWords" = some 1 := by kernel_rfl

theorem gFwType : (Tryz.prog.globals[1]?).map (·.type) = some 111 := by kernel_rfl

theorem gFwUnder : Tryz.prog.underlying 111 = some (.array 5 9) := by kernel_rfl

theorem gFwOne : Tryz.prog.cellsOf 9 = 1 := by kernel_rfl

theorem gFwCells : Tryz.prog.cellsOf 111 = 5 := by kernel_rfl

/-- The words of the flags stand in the world. -/
structure Fw (w : World) : Prop where
  tab : StrsIs Tryz.prog w "loop.example/g00501/impl.flagWords" flW
  lt : 1 < w.heap.size

theorem Fw.of_laid {w : World} (h : StrsIs Tryz.prog w "loop.example/g00501/impl.flagWords" flW) : Fw w :=
  ⟨h, World.block_lt_of_cell? w _ (h.cell gFw 0 (by decide))⟩

theorem Fw.below {w w' : World} (h : Fw w) (hb : Below w.heap.size w w') : Fw w' :=
  ⟨var?_below hb gFw h.lt h.tab, Nat.lt_of_lt_of_le h.lt hb.size⟩

theorem fw_at (k : Nat) (hk : k < 5) (W : World) : (Instr.index 111 (.agg #[sv (flAt 0), sv (flAt 1), sv (flAt 2), sv (flAt 3), sv (flAt 4)]) (.int .i64 (k : Int))).run Tryz.prog W = .ok (sv (flAt k)) W :=
  run_index_strs W gFwUnder Tryz.underlying9 gFwOne (by kernel_rfl) (by omega) (by omega) (by
    have h5 : k = 0 ∨ k = 1 ∨ k = 2 ∨ k = 3 ∨ k = 4 := by omega
    rcases h5 with rfl | rfl | rfl | rfl | rfl <;> rfl)

abbrev fwV : Value := .agg #[sv (flAt 0), sv (flAt 1), sv (flAt 2), sv (flAt 3), sv (flAt 4)]
theorem fw_all : (∀ W, (Instr.index 111 fwV (.int .i64 0)).run Tryz.prog W = .ok (sv (flAt 0)) W) ∧ (∀ W, (Instr.index 111 fwV (.int .i64 1)).run Tryz.prog W = .ok (sv (flAt 1)) W) ∧ (∀ W, (Instr.index 111 fwV (.int .i64 2)).run Tryz.prog W = .ok (sv (flAt 2)) W) ∧ (∀ W, (Instr.index 111 fwV (.int .i64 3)).run Tryz.prog W = .ok (sv (flAt 3)) W) ∧ (∀ W, (Instr.index 111 fwV (.int .i64 4)).run Tryz.prog W = .ok (sv (flAt 4)) W) :=
  ⟨fun W => fw_at 0 (by omega) W, fun W => fw_at 1 (by omega) W, fun W => fw_at 2 (by omega) W, fun W => fw_at 3 (by omega) W, fun W => fw_at 4 (by omega) W⟩

theorem Fw.cells {w : World} (h : Fw w) : w.cell? ⟨1, 0, none⟩ = some (sv (flAt 0)) ∧ w.cell? ⟨1, 1, none⟩ = some (sv (flAt 1)) ∧ w.cell? ⟨1, 2, none⟩ = some (sv (flAt 2)) ∧ w.cell? ⟨1, 3, none⟩ = some (sv (flAt 3)) ∧ w.cell? ⟨1, 4, none⟩ = some (sv (flAt 4)) :=
  ⟨h.tab.cell gFw 0 (by decide), h.tab.cell gFw 1 (by decide), h.tab.cell gFw 2 (by decide), h.tab.cell gFw 3 (by decide), h.tab.cell gFw 4 (by decide)⟩

theorem and_bits (m : Nat) (hm : m ≤ 31) : (bits .and .i64 (m : Int) 1 != 0) = m.testBit 0 ∧ (bits .and .i64 (m : Int) 2 != 0) = m.testBit 1 ∧ (bits .and .i64 (m : Int) 4 != 0) = m.testBit 2 ∧ (bits .and .i64 (m : Int) 8 != 0) = m.testBit 3 ∧ (bits .and .i64 (m : Int) 16 != 0) = m.testBit 4 := by
  have h : ∀ m : Fin 32, (bits .and .i64 (m.val : Int) 1 != 0) = m.val.testBit 0 ∧ (bits .and .i64 (m.val : Int) 2 != 0) = m.val.testBit 1 ∧ (bits .and .i64 (m.val : Int) 4 != 0) = m.val.testBit 2 ∧ (bits .and .i64 (m.val : Int) 8 != 0) = m.val.testBit 3 ∧ (bits .and .i64 (m.val : Int) 16 != 0) = m.val.testBit 4 := by decide +kernel
  exact h ⟨m, by omega⟩

set_option maxHeartbeats 3200000 in
theorem implFlagsText_at (n : Int) (w : World) (hF : Fw w) :
    Calls Tryz.prog 68 #[.int .i64 n] w fun e w' => e = .returned (sv (flT n)) ∧ Below w.heap.size w w' := by
  have c1 := fun W => implFlagsOk_at n W
  cases hb : flB n with
  | false =>
    rw [hb] at c1
    have C1 := Lib.hid c1
    have HV := Lib.hid (show flT n = [] by unfold flT; rw [hb]; rfl)
    clear c1 hb hF
    go_enter Tryz.func68, Tryz.ntmps68
    go_wp2_with fail
    refine (C1.out _).mono ?_
    rintro e w1 ⟨rfl, rfl⟩
    go_wp2
    go_ret
    exact ⟨by rw [HV.out]; rfl, Below.refl _ _⟩
  | true =>
    rw [hb] at c1
    have C1 := Lib.hid c1
    have hb0 := hb
    obtain ⟨m, rfl, hm⟩ := flB_nat hb
    have HV := Lib.hid (show flT (m : Int) = Lib.join (flTo m 5) [32] by unfold flT; rw [if_pos hb0, Int.toNat_natCast])
    obtain ⟨q0, q1, q2, q3, q4⟩ := hF.cells
    clear c1 hb hb0 hF
    go_enter Tryz.func68, Tryz.ntmps68
    go_wp2_with fail
    refine (C1.out _).mono ?_
    rintro e w1 ⟨rfl, rfl⟩
    go_wp2
    clear q0 q1 q2 q3 q4 C1
    go_loopw [3, 10] (fun v i wr => ∃ (k c : Nat), k ≤ 5 ∧ c = (flTo m k).length ∧ c ≤ k ∧ i = .int .i64 k ∧ wr.ownsRow w.heap.size 9 1 v c ((flTo m k).map sv) ∧ Below w.heap.size w wr) (fun _ i _ => 5 - (intOf i).toNat)
    case atStart => exact ⟨0, 0, by omega, rfl, by omega, rfl, World.ownsRow_nil _ _ _ _, Below.refl _ _⟩
    case round =>
      obtain ⟨k, c, hk, hc, hck, rfl, hown, hbr⟩ := hrel
      have hbr0 := hbr.size
      have HC := Lib.hid hc
      clear hc
      by_cases hlt : k < 5
      · obtain ⟨e0, e1, e2, e3, e4⟩ := and_bits m hm
        obtain ⟨i0, i1, i2, i3, i4⟩ := fw_all
        have h5 : k = 0 ∨ k = 1 ∨ k = 2 ∨ k = 3 ∨ k = 4 := by omega
        cases hbt : m.testBit k with
        | true =>
          obtain ⟨k1, hk1⟩ : ∃ k1, k1 = k + 1 := ⟨_, rfl⟩
          have HT := Lib.hid (hk1 ▸ flTo_yes hbt)
          have HK := Lib.hid hk1
          clear hk1
          rcases h5 with rfl | rfl | rfl | rfl | rfl
          all_goals
            simp only [hbt] at e0 e1 e2 e3 e4
            clear hbt
            go_wp2_with (at_builtin; refine wpList_app1 Tryz.el_string rfl (.tmp 19) (.tmp 21) rfl w wr u3 c _ rfl hown hbr hbr0 #[sv (flAt _)] (.inr rfl) 1 1 rfl rfl (by simp [Value.oneCell']) (by omega) (by omega) (by omega) ?_)
            intro g cap w3 hown3 hb3 _ _ _
            go_wp2
            go_roundw
            case rel => exact ⟨k1, c + 1, by have := HK.out; omega, by rw [HT.out, HC.out]; simp, by have := HK.out; omega, by rw [HK.out]; rfl, by rw [HT.out, List.map_append]; exact hown3, hb3⟩
            case measure => simp [intOf]
        | false =>
          obtain ⟨k1, hk1⟩ : ∃ k1, k1 = k + 1 := ⟨_, rfl⟩
          have HT := Lib.hid (hk1 ▸ flTo_no hbt)
          have HK := Lib.hid hk1
          clear hk1
          rcases h5 with rfl | rfl | rfl | rfl | rfl
          all_goals
            simp only [hbt] at e0 e1 e2 e3 e4
            clear hbt
            go_wp2
            go_roundw
            case rel => exact ⟨k1, c, by have := HK.out; omega, by rw [HT.out, HC.out], by have := HK.out; omega, by rw [HK.out]; rfl, by rw [HT.out]; exact hown, hbr⟩
            case measure => simp [intOf]
      · obtain rfl : k = 5 := by omega
        have CJ := Lib.hid (implJoined_own u3 (flTo m 5) [32] wr hown (by have := flTo_szl m 5; have := flTo_len m 5; omega) (by simp))
        clear hown
        go_wp2_with fail
        refine (CJ.out).mono ?_
        rintro e w2 ⟨rfl, b2⟩
        have hb2 := hbr.trans (b2.mono hbr0)
        go_wp2
        go_ret
        exact ⟨by rw [HV.out]; rfl, hb2⟩

end Go.Proofs.YtidjebepgpbcnaaGreatDoor
