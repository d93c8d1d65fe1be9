/-
  Ut: Gk FilW FipF Tab (what the claim needs of them).
-/
import Derived.Deep.DeepCutAuto
import Derived.Deep.Cut
import Derived.Deep.CutRange
import Derived.Deep.LoopGhost
import Derived.Lib.OwnKind
import Derived.Test.YtidjebepgpbcnaaGreatDoorRows
import Derived.WalkKit
import Derived.WalkSpells
import Derived.WalkLawsBesides
import Derived.Laws.IdiomStrings
import Derived.Lib.Hide
import Derived.Deep.AppendLies
import Derived.OrdersHeld
import Derived.Lib.ItoaNum
import Derived.Lib.ItoaMem
import Derived.Lib.AppendStr
import Derived.Lib.ItoaLen
import Derived.Lib.Strings
import Derived.Lib.Bytealg
import Derived.Lib.OthersKept
import Derived.Laws.RangeAny
import Derived.Laws.BitsAllLaws
import Derived.Laws.BitsLemmas
import Derived.IntWalk
import Derived.Handy
import Derived.Lib.Join
import Derived.Deep.Strs
import Derived.Test.YtidjebepgpbcnaaGreatDoorProg
import Derived.Lib.LaidTab
import Derived.OpenShut
import Derived.WalkSmall
import Derived.ChangeKeysEq
import Derived.Lib.AppendIntMem
import Derived.Test.YtidjebepgpbcnaaGreatDoorUa
import Derived.Test.YtidjebepgpbcnaaGreatDoorUb
import Derived.Test.YtidjebepgpbcnaaGreatDoorUc
import Derived.Test.YtidjebepgpbcnaaGreatDoorUd
import Derived.Test.YtidjebepgpbcnaaGreatDoorUg
import Derived.Test.YtidjebepgpbcnaaGreatDoorUi
import Derived.Test.YtidjebepgpbcnaaGreatDoorUs

namespace Go.Proofs.YtidjebepgpbcnaaGreatDoor
open Go.RowKit

def evW (j : Nat) : List UInt8 := evWords.getD j []
/-- The place of a word among the events' words, the first k of them; -1: none. -/
def evFind (w : List UInt8) : Nat → Int
  | 0 => -1
  | j + 1 => if upper (evW j) = upper w then (j : Int) else evFind w j
def orB (b : Int) (k : Int) : Int := bits .or .i64 b (2 ^ k.toNat : Nat)
def bitsL : Int → Int → List (List UInt8) → Option Int
  | _, b, [] => some b
  | last, b, w :: r => if evFind w 4 ≤ last then none else bitsL (evFind w 4) (orB b (evFind w 4)) r
def bitsV (o : Option Int) : Value := match o with | some b => .tuple #[.int .i64 b, .bool true] | none => .tuple #[.int .i64 0, .bool false]
theorem bitsV_eq (o : Option Int) : bitsV o = .tuple #[.int .i64 (o.getD 0), .bool o.isSome] := by cases o <;> rfl
theorem evFind_le (w : List UInt8) : ∀ k, -1 ≤ evFind w k ∧ evFind w k < (k : Int)
  | 0 => by simp [evFind]
  | k + 1 => by
    have := evFind_le w k
    unfold evFind
    split <;> omega
theorem evW_len (j : Nat) : (evW j).length ≤ 5 := by
  match j with
  | 0 => decide
  | 1 => decide
  | 2 => decide
  | 3 => decide
  | n + 4 => simp [evW, evWords]
theorem bitsL_cons {last b : Int} {l : List (List UInt8)} {k : Nat} {x : List UInt8} (h : l[k]? = some x) : bitsL last b (l.drop k) = if evFind x 4 ≤ last then none else bitsL (evFind x 4) (orB b (evFind x 4)) (l.drop (k + 1)) := by
  obtain ⟨h1, h2⟩ := List.getElem?_eq_some_iff.1 h
  rw [List.drop_eq_getElem_cons h1, h2]
  rfl

def takeP (kind : Int) : List Tok → Option (List UInt8 × List Tok)
  | [] => none
  | t :: r => if t.kind = kind ∧ (kind = 1 ∨ t.text = []) then some (t.text, r) else none
def isAt (t : Tok) : Bool := t.kind == 1
def atomsP (r : List Tok) : Option (List (List UInt8) × List Tok) :=
  (takeP 3 r).bind fun q => (takeP 4 (q.2.dropWhile isAt)).bind fun z => some ((q.2.takeWhile isAt).map (·.text), z.2)
/-- What a step of the reader did to its place and its mark, against what the text asks. -/
structure Step {α : Type} (P : List Tok → Option (α × List Tok)) (l : List Tok) (at_ : Nat) (bad : Bool) (x : α) (at' : Nat) (bad' : Bool) : Prop where
  yes : bad' = false → bad = false ∧ P (l.drop at_) = some (x, l.drop at')
  no : bad = false → bad' = true → P (l.drop at_) = none
  le : at' ≤ l.length
theorem Step.bind {α β : Type} {P : List Tok → Option (α × List Tok)} {Q : α → List Tok → Option (β × List Tok)} {l : List Tok} {a0 a1 a2 : Nat} {b0 b1 b2 : Bool} {x : α} {y : β} (h : Step P l a0 b0 x a1 b1) (k : Step (Q x) l a1 b1 y a2 b2) :
    Step (fun r => (P r).bind fun q => Q q.1 q.2) l a0 b0 y a2 b2 where
  yes hb := by
    obtain ⟨h1, h2⟩ := k.yes hb
    obtain ⟨h3, h4⟩ := h.yes h1
    exact ⟨h3, by rw [h4]; exact h2⟩
  no h0 hb := by
    cases hb1 : b1 with
    | true => rw [h.no h0 hb1]; rfl
    | false => rw [(h.yes hb1).2]; exact k.no hb1 hb
  le := k.le
theorem takeP_drop (l : List Tok) (at_ : Nat) (kind : Int) : takeP kind (l.drop at_) = (takeV l at_ kind).map fun x => (x, l.drop (at_ + 1)) := by
  unfold takeV
  cases h : l[at_]? with
  | none =>
    rw [List.drop_of_length_le (by simpa using h)]
    rfl
  | some t =>
    obtain ⟨h1, h2⟩ := List.getElem?_eq_some_iff.1 h
    rw [List.drop_eq_getElem_cons h1, h2]
    simp only [takeP]
    split <;> rfl
theorem grown_new {w w1 w2 : World} {r1 r2 : Option Nat} (h : w.grownBy w1 r1) (k : w1.grownBy w2 r2) (hr : ∀ j, r2 = some j → w.heap.size ≤ j) : w.grownBy w2 r1 :=
  ⟨k.os.trans h.os, k.tape.trans h.tape, k.output.trans h.output, Nat.le_trans h.size k.size, fun j hj hne => (k.block j (Nat.lt_of_lt_of_le hj h.size) (fun e => by have := hr j e.symm; omega)).trans (h.block j hj hne)⟩
theorem own_off {w w' : World} {B m n g : Nat} {e : TypeId} {v : Value} {xs : List Value} (h : w.ownsRow B e m v n xs) (hg : w.grownBy w' (some g)) (hB : g < B) : w'.ownsRow B e m v n xs :=
  own_frame h (fun k hk => hg.block k (h.lt k hk).2 (fun e => by have := (h.lt k hk).1; injection e with e; omega))

def scW (k : Nat) : List UInt8 := scWords.getD k []
/-- The kind of scope that an upper-case word names; 0: none. -/
def scFind (u : List UInt8) : Nat → Int
  | 0 => 0
  | k + 1 => if upper (scW (k + 1)) = u then ((k + 1 : Nat) : Int) else scFind u k
def nmP (kd : Int) (r : List Tok) : Option (List (List UInt8) × List Tok) := if 3 ≤ kd then atomsP r else some ([], r)
def bitP (ws : List (List UInt8)) (r : List Tok) : Option (Int × List Tok) := (bitsL (-1) 0 ws).map fun b => (b, r)
def scopeP (r : List Tok) : Option (Scp × List Tok) :=
  (takeP 3 r).bind fun q0 => (takeP 1 q0.2).bind fun q1 => (nmP (scFind (upper q1.1) 4) q1.2).bind fun q2 => (atomsP q2.2).bind fun q3 => (takeP 4 q3.2).bind fun q4 => (bitP q3.1 q4.2).bind fun q5 => some (⟨scFind (upper q1.1) 4, q2.1, q5.1⟩, q5.2)
def scopesP : Nat → List Tok → Option (List Scp)
  | 0, _ => none
  | n + 1, r => if r = [] then some [] else (scopeP r).bind fun q => (scopesP n q.2).map (q.1 :: ·)
def finF (f : Flt) : Option Flt := if filterB f = true then some f else none
def setW : List UInt8 := [83, 69, 84]
def noneW : List UInt8 := [78, 79, 78, 69]
def readF (l : List Tok) : Option Flt :=
  (takeP 1 l).bind fun q => if upper q.1 = setW then (scopesP (l.length + 1) q.2).bind fun ss => finF ⟨true, ss⟩ else if upper q.1 = noneW then (if q.2 = [] then finF ⟨false, []⟩ else none) else none

end Go.Proofs.YtidjebepgpbcnaaGreatDoor

namespace Go.Proofs.YtidjebepgpbcnaaGreatDoor
open Go.RowKit

theorem takeP_atT (x : List UInt8) (r : List Tok) : takeP 1 (atT x :: r) = some (x, r) := by simp [takeP, atT]
theorem takeP_op (r : List Tok) : takeP 3 (opT3 :: r) = some ([], r) := by simp [takeP, opT3]
theorem takeP_cl (r : List Tok) : takeP 4 (clT4 :: r) = some ([], r) := by simp [takeP, clT4]
theorem span_atoms (ws : List (List UInt8)) (r : List Tok) : (ws.map atT ++ clT4 :: r).takeWhile isAt = ws.map atT ∧ (ws.map atT ++ clT4 :: r).dropWhile isAt = clT4 :: r := by
  induction ws with
  | nil => exact ⟨rfl, rfl⟩
  | cons a ws ih =>
    simp only [List.map_cons, List.cons_append]
    rw [List.takeWhile_cons_of_pos (show isAt (atT a) = true from rfl), List.dropWhile_cons_of_pos (show isAt (atT a) = true from rfl), ih.1, ih.2]
    exact ⟨rfl, rfl⟩
theorem atomsP_wrote (ws : List (List UInt8)) (r : List Tok) : atomsP (opT3 :: (ws.map atT ++ clT4 :: r)) = some (ws, r) := by
  unfold atomsP
  rw [takeP_op]
  simp only [Option.bind_some]
  rw [(span_atoms ws r).1, (span_atoms ws r).2, takeP_cl]
  simp [atT, Function.comp_def]
def evWs (ev : Int) : List (List UInt8) := (List.range 4).flatMap fun k => if evB ev k = true then [evW k] else []
theorem evTks_ws (ev : Int) : evTks ev 4 = (evWs ev).map atT := by
  unfold evTks evWs
  rw [List.map_flatMap]
  congr 1
  funext k
  unfold evTk
  split <;> rfl
theorem bits_wrote {ev : Int} (h1 : 1 ≤ ev) (h2 : ev ≤ 15) : bitsL (-1) 0 (evWs ev) = some ev := by
  have h : ∀ n : Fin 16, n.val ≠ 0 → bitsL (-1) 0 (evWs (n.val : Int)) = some (n.val : Int) := by decide +kernel
  have := h ⟨ev.toNat, by omega⟩ (by show ev.toNat ≠ 0; omega)
  rwa [show ((ev.toNat : Nat) : Int) = ev by omega] at this
theorem kind_wrote {kd : Int} (h1 : 1 ≤ kd) (h2 : kd ≤ 4) : scFind (upper (scWords.getD kd.toNat [])) 4 = kd := by
  have h : ∀ n : Fin 5, n.val ≠ 0 → scFind (upper (scWords.getD n.val [])) 4 = (n.val : Int) := by decide +kernel
  have := h ⟨kd.toNat, by omega⟩ (by show kd.toNat ≠ 0; omega)
  rwa [show ((kd.toNat : Nat) : Int) = kd by omega] at this
theorem nmP_wrote {s : Scp} (h : scopeB s = true) (r : List Tok) : nmP s.kind (nmTks s ++ r) = some (s.names, r) := by
  unfold nmP nmTks
  by_cases h3 : 3 ≤ s.kind
  · rw [if_pos h3, if_pos h3]
    have := atomsP_wrote s.names r
    simpa using this
  · rw [if_neg h3, if_neg h3]
    have hn : s.names = [] := by
      unfold scopeB at h
      rw [if_pos (by omega)] at h
      simp only [Bool.and_eq_true, decide_eq_true_eq] at h
      exact List.eq_nil_of_length_eq_zero h.2
    rw [hn]
    rfl
theorem scopeP_wrote {s : Scp} (h : scopeB s = true) (r : List Tok) : scopeP (scTks s ++ r) = some (s, r) := by
  obtain ⟨h1, h2, h3, h4, _⟩ := scope_parts h
  unfold scopeP scTks
  rw [List.cons_append, takeP_op]
  simp only [Option.bind_some]
  rw [List.cons_append, takeP_atT]
  simp only [Option.bind_some]
  rw [kind_wrote h1 h2, List.append_assoc, nmP_wrote h]
  simp only [Option.bind_some]
  rw [evTks_ws]
  have ha := atomsP_wrote (evWs s.events) (clT4 :: r)
  rw [show opT3 :: ((evWs s.events).map atT ++ [clT4, clT4]) ++ r = opT3 :: ((evWs s.events).map atT ++ clT4 :: clT4 :: r) by simp, ha]
  simp only [Option.bind_some]
  rw [takeP_cl]
  simp only [Option.bind_some, bitP, bits_wrote h3 h4, Option.map_some]
theorem scopesP_wrote : ∀ (ss : List Scp) (n : Nat), (∀ s ∈ ss, scopeB s = true) → ss.length < n → scopesP n (ss.flatMap scTks) = some ss
  | [], n + 1, _, _ => by simp [scopesP]
  | s :: ss, n + 1, h, hn => by
    have ih := scopesP_wrote ss n (fun t ht => h t (by simp [ht])) (by simp at hn; omega)
    unfold scopesP
    rw [List.flatMap_cons, if_neg (by unfold scTks; simp), scopeP_wrote (h s (by simp))]
    simp only [Option.bind_some, ih, Option.map_some]
theorem readF_wrote {f : Flt} (h : filterB f = true) : readF (fTks f) = some f := by
  obtain ⟨on, ss⟩ := f
  obtain ⟨h1, h2⟩ := filter_parts h
  have hf : finF ⟨on, ss⟩ = some ⟨on, ss⟩ := by unfold finF; rw [if_pos h]
  unfold readF fTks
  rw [if_pos h]
  cases on with
  | true =>
    simp only [if_true]
    rw [takeP_atT]
    simp only [Option.bind_some]
    rw [if_pos (by decide +kernel), scopesP_wrote ss _ h1 ?_]
    · exact hf
    · have : ∀ ss : List Scp, ss.length ≤ (ss.flatMap scTks).length := by
        intro ss
        induction ss with
        | nil => simp
        | cons s r ih =>
          rw [List.flatMap_cons, List.length_append]
          have : 1 ≤ (scTks s).length := by unfold scTks; simp
          simp only [List.length_cons]
          omega
      have := this ss
      simp only [List.length_cons]
      omega
  | false =>
    simp only [Bool.false_eq_true, if_false]
    rw [takeP_atT]
    simp only [Option.bind_some]
    have hs : ss = [] := by
      unfold filterB at h
      simp only [Bool.and_eq_true, Bool.false_eq_true, if_false, decide_eq_true_eq] at h
      exact List.eq_nil_of_length_eq_zero h.2
    rw [if_neg (by decide +kernel), if_pos (by decide +kernel)]
    simp only [if_true]
    rw [← hs]
    exact hf
theorem readF_none {f : Flt} (h : filterB f = false) : readF (fTks f) = none := by
  unfold fTks
  rw [h]
  rfl

end Go.Proofs.YtidjebepgpbcnaaGreatDoor

namespace Go.Proofs.YtidjebepgpbcnaaGreatDoor
open Go.RowKit

theorem gEw : Tryz.prog.globalNamed "loop.example/g00501/impl.eventWords" = some 3 := by kernel_rfl

theorem gEwType : (Tryz.prog.globals[3]?).map (·.type) = some 136 := by kernel_rfl

theorem gEwUnder : Tryz.prog.underlying 136 = some (.array 4 9) := by kernel_rfl

theorem gEwOne : Tryz.prog.cellsOf 9 = 1 := by kernel_rfl

theorem gEwCells : Tryz.prog.cellsOf 136 = 4 := by kernel_rfl

/-- The words of the events stand in the world. -/
structure Ew (w : World) : Prop where
  tab : StrsIs Tryz.prog w "loop.example/g00501/impl.eventWords" evWords
  lt : 3 < w.heap.size

theorem Ew.of_laid {w : World} (h : StrsIs Tryz.prog w "loop.example/g00501/impl.eventWords" evWords) : Ew w :=
  ⟨h, World.block_lt_of_cell? w _ (h.cell gEw 0 (by decide))⟩

theorem Ew.below {w w' : World} (h : Ew w) (hb : Below w.heap.size w w') : Ew w' :=
  ⟨var?_below hb gEw h.lt h.tab, Nat.lt_of_lt_of_le h.lt hb.size⟩

theorem ew_at (k : Nat) (hk : k < 4) (W : World) : (Instr.index 136 (.agg #[sv (evW 0), sv (evW 1), sv (evW 2), sv (evW 3)]) (.int .i64 (k : Int))).run Tryz.prog W = .ok (sv (evW k)) W :=
  run_index_strs W gEwUnder Tryz.underlying9 gEwOne (by kernel_rfl) (by omega) (by omega) (by
    have h5 : k = 0 ∨ k = 1 ∨ k = 2 ∨ k = 3 := by omega
    rcases h5 with rfl | rfl | rfl | rfl <;> rfl)

abbrev ewV : Value := .agg #[sv (evW 0), sv (evW 1), sv (evW 2), sv (evW 3)]
theorem ew_all : (∀ W, (Instr.index 136 ewV (.int .i64 0)).run Tryz.prog W = .ok (sv (evW 0)) W) ∧ (∀ W, (Instr.index 136 ewV (.int .i64 1)).run Tryz.prog W = .ok (sv (evW 1)) W) ∧ (∀ W, (Instr.index 136 ewV (.int .i64 2)).run Tryz.prog W = .ok (sv (evW 2)) W) ∧ (∀ W, (Instr.index 136 ewV (.int .i64 3)).run Tryz.prog W = .ok (sv (evW 3)) W) :=
  ⟨fun W => ew_at 0 (by omega) W, fun W => ew_at 1 (by omega) W, fun W => ew_at 2 (by omega) W, fun W => ew_at 3 (by omega) W⟩

theorem Ew.cells {w : World} (h : Ew w) : w.cell? ⟨3, 0, none⟩ = some (sv (evW 0)) ∧ w.cell? ⟨3, 1, none⟩ = some (sv (evW 1)) ∧ w.cell? ⟨3, 2, none⟩ = some (sv (evW 2)) ∧ w.cell? ⟨3, 3, none⟩ = some (sv (evW 3)) :=
  ⟨h.tab.cell gEw 0 (by decide), h.tab.cell gEw 1 (by decide), h.tab.cell gEw 2 (by decide), h.tab.cell gEw 3 (by decide)⟩

def evWsTo (ev : Int) (k : Nat) : List (List UInt8) := (List.range k).flatMap fun k => if evB ev k = true then [evW k] else []
theorem evWsTo_four (ev : Int) : evWsTo ev 4 = evWs ev := rfl
theorem evWsTo_yes {ev : Int} {k : Nat} (h : evB ev k = true) : evWsTo ev (k + 1) = evWsTo ev k ++ [evW k] := by
  unfold evWsTo
  rw [List.range_succ, List.flatMap_append]
  simp [h]
theorem evWsTo_no {ev : Int} {k : Nat} (h : evB ev k = false) : evWsTo ev (k + 1) = evWsTo ev k := by
  unfold evWsTo
  rw [List.range_succ, List.flatMap_append]
  simp [h]
theorem evWs_len (ev : Int) : (evWs ev).length ≤ 4 := by
  have := evTks_len ev 4
  rw [evTks_ws, List.length_map] at this
  exact this
theorem ev_bits (m : Nat) (hm : m ≤ 15) : (bits .and .i64 (m : Int) 1 != 0) = evB m 0 ∧ (bits .and .i64 (m : Int) 2 != 0) = evB m 1 ∧ (bits .and .i64 (m : Int) 4 != 0) = evB m 2 ∧ (bits .and .i64 (m : Int) 8 != 0) = evB m 3 := by
  have h : ∀ m : Fin 16, (bits .and .i64 (m.val : Int) 1 != 0) = evB (m.val : Int) 0 ∧ (bits .and .i64 (m.val : Int) 2 != 0) = evB (m.val : Int) 1 ∧ (bits .and .i64 (m.val : Int) 4 != 0) = evB (m.val : Int) 2 ∧ (bits .and .i64 (m.val : Int) 8 != 0) = evB (m.val : Int) 3 := by decide +kernel
  exact h ⟨m, by omega⟩
def grpT (ws : List (List UInt8)) : List Tok := opT3 :: (ws.map atT ++ [clT4])
theorem scTks_eq (s : Scp) : scTks s = [opT3, atT (scWords.getD s.kind.toNat [])] ++ nmTks s ++ grpT (evWs s.events) ++ [clT4] := by
  unfold scTks grpT
  rw [evTks_ws]
  simp
theorem grpT_len (ws : List (List UInt8)) : (grpT ws).length = ws.length + 2 := by simp [grpT]

section
variable {P : Program}
theorem wpList_appR {α : Type} {w : World} {ops : Array Oper} {rest : List Oper} {o : Oper} {a : Act} {t e : TypeId} {size bytes B : Nat} {Q : Exit → Act → World → Prop} {enc : α → List Value} (hgd : o.guard = none) (E : Elem P t e size bytes) (hm : ∀ x, (enc x).length = size) (h1 : ∀ x, ∀ u ∈ enc x, u.oneCell' = true) (s x : Operand) (ho : o.op = .call { callee := .builtin .append, args := #[s, x], argTypes := #[t, t] })
    (W : World) (v : Value) (n : Nat) (xs : List Value) (hs : a.eval s = v) (hown : w.ownsRow B e size v n xs) (hb : Below B W w) (hB : B ≤ w.heap.size)
    (u : Value) (l : List α) (hx : a.eval x = u) (hu : Rd size enc w u l) (hbytes : (n + l.length) * bytes ≤ 140737488355328) (h63 : n + l.length ≤ 140737488355328)
    (h : ∀ v' w', w'.ownsRow B e size v' (n + l.length) (xs ++ l.flatMap enc) → Below B W w' → w.grownBy w' v.ownBlock → wpList P ops Q rest (a.put o.dst v') w') : wpList P ops Q (o :: rest) a w :=
  wpList_plain hgd fun _ hK => wp_appR E hm h1 s x ho W v n xs hs hown hb hB u l hx hu hbytes h63 fun v' w' k1 k2 k3 => hK _ _ (h v' w' k1 k2 k3)
end

section
variable {w w0 W0 : World} {ops : Array Oper} {rest : List Oper} {o : Oper} {a : Act} {c : Nat} {cs : Array Value} {u : Value} {toks : List Tok}
theorem tok_one : ∀ x : Tok, ∀ u ∈ tokc x, u.oneCell' = true := by intro x u hu; simp [tokc] at hu; rcases hu with rfl | rfl <;> rfl
theorem wpList_tksR {Q : Exit → Act → World → Prop} (hgd : o.guard = none) (h : TkB W0 c cs u toks w) (l : List Tok) (s x : Operand) (ho : o.op = .call { callee := .builtin .append, args := #[s, x], argTypes := #[29, 29] })
    (hs : a.eval s = u) (v : Value) (hx : a.eval x = v) (hv : Rd 2 tokc w v l) (hl : toks.length + l.length ≤ 1000000)
    (hK : ∀ u' w', TkB W0 c cs u' (toks ++ l) w' → wpList Tryz.prog ops Q rest (a.put o.dst u') w') : wpList Tryz.prog ops Q (o :: rest) a w := by
  refine wpList_appR hgd Tryz.el_tok (enc := tokc) (fun _ => rfl) tok_one s x ho W0 u toks.length _ hs h.own h.below h.below.size v l hx hv (by omega) (by omega) ?_
  intro v' w' h1 h2 h3
  refine hK _ _ ⟨?_, h2, ?_⟩
  · rw [List.length_append, List.flatMap_append]; exact h1
  · refine (h3.block c h.lt ?_).trans h.blk
    intro e
    obtain ⟨cz, fz, hk⟩ := Lib.ownsRow_kind h.own c e.symm
    rw [h.blk] at hk
    injection hk with hk
    injection hk with _ hk _
    exact absurd hk (by decide)
end

def TksPost (toks : List Tok) (W : World) (e : Ending) (w' : World) : Prop := ∃ v, e = .returned v ∧ w'.ownsRow W.heap.size 48 2 v toks.length (toks.flatMap tokc) ∧ Below W.heap.size W w'
def WdsPost (ws : List (List UInt8)) (W : World) (e : Ending) (w' : World) : Prop := ∃ v, e = .returned v ∧ w'.ownsRow W.heap.size 9 1 v ws.length (ws.map sv) ∧ Below W.heap.size W w'

set_option maxHeartbeats 3200000 in
theorem eventsIn_any (ev : Int) (w : World) (h1 : 1 ≤ ev) (h2 : ev ≤ 15) (hF : Ew w) :
    Calls Tryz.prog 99 #[.int .i64 ev] w (WdsPost (evWs ev) w) := by
  obtain ⟨m, rfl⟩ : ∃ m : Nat, ev = (m : Int) := ⟨ev.toNat, by omega⟩
  obtain ⟨q0, q1, q2, q3⟩ := hF.cells
  have HV := Lib.hid (evWsTo_four (m : Int))
  have hm : m ≤ 15 := by omega
  generalize evWs (m : Int) = R at *
  clear hF h1 h2
  go_enter Tryz.func99, Tryz.ntmps99
  go_wp2
  clear q0 q1 q2 q3
  go_loopw [3, 4, 5, 7] (fun v u4 u5 i wr => ∃ (k c : Nat), k ≤ 4 ∧ c = (evWsTo (m : Int) k).length ∧ c ≤ k ∧ i = .int .i64 k ∧ wr.ownsRow w.heap.size 9 1 v c ((evWsTo (m : Int) k).map sv) ∧ Below w.heap.size w wr) (fun _ u4 u5 i _ => 4 - (intOf i).toNat)
  case atStart => exact ⟨0, 0, by omega, rfl, by omega, rfl, World.ownsRow_nil _ _ _ _, Below.refl _ _⟩
  case round =>
    obtain ⟨k, c, hk, hc, hck, rfl, hown, hbr⟩ := hrel
    have hbr0 := hbr.size
    have HC := Lib.hid hc
    clear hc
    by_cases hlt : k < 4
    · obtain ⟨e0, e1, e2, e3⟩ := ev_bits m hm
      obtain ⟨i0, i1, i2, i3⟩ := ew_all
      have h5 : k = 0 ∨ k = 1 ∨ k = 2 ∨ k = 3 := by omega
      cases hbt : evB (m : Int) k with
      | true =>
        obtain ⟨k1, hk1⟩ : ∃ k1, k1 = k + 1 := ⟨_, rfl⟩
        have HT := Lib.hid (hk1 ▸ evWsTo_yes hbt)
        have HK := Lib.hid hk1
        clear hk1
        rcases h5 with rfl | rfl | rfl | rfl
        all_goals
          simp only [hbt] at e0 e1 e2 e3
          clear hbt
          go_wp2_with (at_builtin; refine wpList_app1 Tryz.el_string rfl (.tmp 16) (.tmp 18) rfl w wr u3 c _ rfl hown hbr hbr0 #[sv (evW _)] (.inr rfl) 1 1 rfl rfl (by simp [Value.oneCell']) (by omega) (by omega) (by omega) ?_)
          intro g cap w3 hown3 hb3 _ _ _
          go_wp2
          go_roundw
          case rel => exact ⟨k1, c + 1, by have := HK.out; omega, by rw [HT.out, HC.out]; simp, by have := HK.out; omega, by rw [HK.out]; rfl, by rw [HT.out, List.map_append]; exact hown3, hb3⟩
          case measure => simp [intOf]
      | false =>
        obtain ⟨k1, hk1⟩ : ∃ k1, k1 = k + 1 := ⟨_, rfl⟩
        have HT := Lib.hid (hk1 ▸ evWsTo_no hbt)
        have HK := Lib.hid hk1
        clear hk1
        rcases h5 with rfl | rfl | rfl | rfl
        all_goals
          simp only [hbt] at e0 e1 e2 e3
          clear hbt
          go_wp2
          go_roundw
          case rel => exact ⟨k1, c, by have := HK.out; omega, by rw [HT.out, HC.out], by have := HK.out; omega, by rw [HK.out]; rfl, by rw [HT.out]; exact hown, hbr⟩
          case measure => simp [intOf]
    · obtain rfl : k = 4 := by omega
      go_wp2
      go_ret
      exact ⟨_, rfl, by rw [← HV.out, ← HC.out]; exact hown, hbr⟩

set_option maxHeartbeats 3200000 in
theorem atomGroup_any (v : Value) (l : List (List UInt8)) (w : World) (hr : Rd1 sv w v l) (hl : l.length ≤ 1000) :
    Calls Tryz.prog 66 #[v] w (TksPost (grpT l) w) := by
  obtain ⟨p, c, rfl, hp⟩ := hr.ex
  have HP := Lib.hid hp
  have HT := Lib.hid (show grpT l = (opT3 :: l.map atT) ++ [clT4] from rfl)
  generalize grpT l = R at *
  clear hr hp
  have hb0 : Below w.heap.size w (w.alloc (.cells #[.int .i64 3, sv []] 48)) := (Below.refl _ _).alloc (Nat.le_refl _) _
  have ho0 : (w.alloc (.cells #[.int .i64 3, sv []] 48)).ownsRow w.heap.size 48 2 (.slice (some ⟨w.heap.size, 0, none⟩) 1 1) (opT3 :: (l.take 0).map atT).length ((opT3 :: (l.take 0).map atT).flatMap tokc) := own_lit w #[.int .i64 3, sv []] 1 48 2 _ (Nat.le_refl _) (by unfold maxLen; omega) rfl
  have HO0 := Lib.hid ho0
  clear ho0
  go_enter Tryz.func66, Tryz.ntmps66
  go_wp2
  go_loopg [3, 5, 10] l.length (fun gk u u5 i wr => ∃ k : Nat, k ≤ l.length ∧ gk = l.length - k ∧ i = .int .i64 k ∧ wr.ownsRow w.heap.size 48 2 u (opT3 :: (l.take k).map atT).length ((opT3 :: (l.take k).map atT).flatMap tokc) ∧ Below w.heap.size w wr)
  case atStart => exact ⟨0, by omega, rfl, rfl, HO0.out, hb0⟩
  case round =>
    obtain ⟨k, hk, rfl, rfl, hown, hbr⟩ := hrel
    have hz := hbr.size
    clear hb0 HO0
    have hlen : (opT3 :: (l.take k).map atT).length = k + 1 := by simp; omega
    rw [hlen] at hown
    clear hlen
    by_cases hlt : k < l.length
    · obtain ⟨b, off, rfl, hb, hcell⟩ := HP.out.resolve_left (by intro h; subst h; simp at hlt)
      obtain ⟨y, hy⟩ : ∃ y, l[k]? = some y := ⟨_, List.getElem?_eq_getElem hlt⟩
      have e1 : wr.cell? ⟨b, off + k, none⟩ = some (sv y) := (hbr.cell (p := ⟨b, off + k, none⟩) hb).trans (hcell k y hy)
      have HN := Lib.hid (show (opT3 :: (l.take (k + 1)).map atT).flatMap tokc = (opT3 :: (l.take k).map atT).flatMap tokc ++ [.int .i64 1, sv y] by
        obtain ⟨h3, h2⟩ := List.getElem?_eq_some_iff.1 hy
        rw [List.take_succ_eq_append_getElem h3, h2]
        simp [tokc, atT])
      have HNL := Lib.hid (show (opT3 :: (l.take (k + 1)).map atT).length = k + 2 by simp; omega)
      clear hcell hy
      generalize ((opT3 :: (l.take k).map atT).flatMap tokc) = X at *
      go_wp2_with (at_builtin; refine wpList_app1 Tryz.el_tok rfl (.tmp 14) (.tmp 17) rfl w wr _ (k + 1) _ rfl hown hbr hz #[.int .i64 1, sv y] (.inr rfl) 1 1 rfl rfl (by simp [Value.oneCell']) (by omega) (by omega) (by omega) ?_)
      intro g cap w3 o3 hb3 _ _ _
      go_wp2
      go_roundg (l.length - (k + 1))
      case measure => omega
      case rel => exact ⟨k + 1, by omega, rfl, by go_num, by rw [HN.out, HNL.out]; exact o3, hb3⟩
    · obtain rfl : k = l.length := by omega
      rw [List.take_length] at hown
      have HRL := Lib.hid (show R.length = l.length + 1 + 1 by rw [HT.out]; simp)
      have HRF := Lib.hid (show R.flatMap tokc = (opT3 :: l.map atT).flatMap tokc ++ [.int .i64 4, sv []] by rw [HT.out, List.flatMap_append]; rfl)
      clear HT
      generalize ((opT3 :: l.map atT).flatMap tokc) = X at *
      go_wp2_with (at_builtin; refine wpList_app1 Tryz.el_tok rfl (.tmp 20) (.tmp 22) rfl w wr _ (l.length + 1) _ rfl hown hbr hz #[.int .i64 4, sv []] (.inr rfl) 1 1 rfl rfl (by simp [Value.oneCell']) (by omega) (by omega) (by omega) ?_)
      intro g cap w3 o3 hb3 _ _ _
      go_wp2
      go_ret
      exact ⟨_, rfl, by rw [HRF.out, HRL.out]; exact o3, hb3⟩

theorem keyword_1 (w : World) : Calls Tryz.prog 172 #[.agg #[]] w fun e w' => e = .returned (sv [115, 101, 108, 101, 99, 116, 101, 100]) ∧ Below w.heap.size w w' := by
  go_enter Tryz.func172, Tryz.ntmps172
  go_wp2
  go_ret
  exact ⟨rfl, (Below.refl _ _).alloc (Nat.le_refl _) _⟩
theorem method_1 (v : Value) (w : World) : (method 287 134 v "loop.example/g00501/impl.keyword").run Tryz.prog w = .ok (172, v) w := by kernel_rfl

theorem keyword_2 (w : World) : Calls Tryz.prog 173 #[.agg #[]] w fun e w' => e = .returned (sv [112, 101, 114, 115, 111, 110, 97, 108]) ∧ Below w.heap.size w w' := by
  go_enter Tryz.func173, Tryz.ntmps173
  go_wp2
  go_ret
  exact ⟨rfl, (Below.refl _ _).alloc (Nat.le_refl _) _⟩
theorem method_2 (v : Value) (w : World) : (method 287 135 v "loop.example/g00501/impl.keyword").run Tryz.prog w = .ok (173, v) w := by kernel_rfl

theorem keyword_3 (p : Option Addr) (n c : Nat) (w : World) : Calls Tryz.prog 170 #[.agg #[.slice p n c]] w fun e w' => e = .returned (sv [115, 117, 98, 116, 114, 101, 101]) ∧ Below w.heap.size w w' := by
  go_enter Tryz.func170, Tryz.ntmps170
  go_wp2
  go_ret
  exact ⟨rfl, (Below.refl _ _).alloc (Nat.le_refl _) _⟩
theorem method_3 (v : Value) (w : World) : (method 287 116 v "loop.example/g00501/impl.keyword").run Tryz.prog w = .ok (170, v) w := by kernel_rfl

theorem keyword_4 (p : Option Addr) (n c : Nat) (w : World) : Calls Tryz.prog 171 #[.agg #[.slice p n c]] w fun e w' => e = .returned (sv [98, 111, 120, 101, 115]) ∧ Below w.heap.size w w' := by
  go_enter Tryz.func171, Tryz.ntmps171
  go_wp2
  go_ret
  exact ⟨rfl, (Below.refl _ _).alloc (Nat.le_refl _) _⟩
theorem method_4 (v : Value) (w : World) : (method 287 118 v "loop.example/g00501/impl.keyword").run Tryz.prog w = .ok (171, v) w := by kernel_rfl

set_option maxRecDepth 20000 in
set_option maxHeartbeats 3200000 in
theorem scopeTokens_1 (names : List (List UInt8)) (ev : Int) (vn : Value) (w : World) (hok : scopeB ⟨1, names, ev⟩ = true) (hr : Rd1 sv w vn names) (hF : Ew w) :
    Calls Tryz.prog 70 #[.agg #[.int .i64 1, vn, .int .i64 ev]] w (TksPost (scTks ⟨1, names, ev⟩) w) := by
  have HR := Lib.hid hr
  obtain ⟨p, c, rfl, _⟩ := hr.ex
  have HV := Lib.hid (show scTks ⟨1, names, ev⟩ = [opT3, atT [115, 101, 108, 101, 99, 116, 101, 100]] ++ nmTks ⟨1, names, ev⟩ ++ grpT (evWs ev) ++ [clT4] from scTks_eq ⟨1, names, ev⟩)
  obtain ⟨_, _, hev1, hev15, hn3⟩ := scope_parts hok
  simp only at hev1 hev15 hn3
  have HNM := Lib.hid (show nmTks ⟨1, names, ev⟩ = [] from rfl)
  have hb1 : Below w.heap.size w (w.alloc (.cells #[.int .i64 1, .slice p names.length c, .int .i64 ev] 78)) := (Below.refl _ _).alloc (Nat.le_refl _) _
  have hA : (w.alloc (.cells #[.int .i64 1, .slice p names.length c, .int .i64 ev] 78)).heap[w.heap.size]? = some (.cells #[.int .i64 1, .slice p names.length c, .int .i64 ev] 78 (0, 0)) := heap_alloc_new w _
  have hz1 : (w.alloc (.cells #[.int .i64 1, .slice p names.length c, .int .i64 ev] 78)).heap.size = w.heap.size + 1 := by simp
  obtain ⟨W0, hW0⟩ : ∃ W0, w.alloc (.cells #[.int .i64 1, .slice p names.length c, .int .i64 ev] 78) = W0 := ⟨_, rfl⟩
  have HW0 := Lib.hid hW0
  have HB1 := Lib.hid (hW0 ▸ hb1)
  have HA := Lib.hid (hW0 ▸ hA)
  have HZ1 := Lib.hid (hW0 ▸ hz1)
  have HE := Lib.hid (hF.below HB1.out)
  have C := Lib.hid (fun W => reach_1 (.slice p names.length c) ev W ⟨_, _, _, rfl⟩)
  have CE := Lib.hid (fun W h => eventsIn_any ev W hev1 hev15 h)
  clear hr hok hb1 hA hz1 hW0 hF
  have a1 := as13
  have a2 := as14
  have hm := method_1
  go_enter Tryz.func70, Tryz.ntmps70
  go_wp2_with fail
  rw [HW0.out]
  refine (C.out _).mono ?_
  rintro e w1 ⟨rfl, b1⟩
  go_wp2_with fail
  refine (keyword_1 _).mono ?_
  rintro e w2 ⟨rfl, b2⟩
  have hb2 := b1.trans (b2.mono b1.size)
  have TK0 := Lib.hid (show TkB W0 w.heap.size #[.int .i64 1, .slice p names.length c, .int .i64 ev] (.slice (some ⟨w2.heap.size, 0, none⟩) 2 2) [opT3, atT [115, 101, 108, 101, 99, 116, 101, 100]] (w2.alloc (.cells #[.int .i64 3, sv [], .int .i64 1, sv [115, 101, 108, 101, 99, 116, 101, 100]] 48)) from
    ⟨own_lit w2 #[.int .i64 3, sv [], .int .i64 1, sv [115, 101, 108, 101, 99, 116, 101, 100]] 2 48 2 _ hb2.size (by unfold maxLen; omega) rfl, hb2.alloc hb2.size _, ((hb2.alloc hb2.size _).block w.heap.size (by rw [HZ1.out]; omega)).trans HA.out⟩)
  clear b1 b2 C hm
  have TK4 := Lib.hid (show TkB W0 w.heap.size #[.int .i64 1, .slice p names.length c, .int .i64 ev] (.slice (some ⟨w2.heap.size, 0, none⟩) 2 2) ([opT3, atT [115, 101, 108, 101, 99, 116, 101, 100]] ++ nmTks ⟨1, names, ev⟩) (w2.alloc (.cells #[.int .i64 3, sv [], .int .i64 1, sv [115, 101, 108, 101, 99, 116, 101, 100]] 48)) by rw [HNM.out, List.append_nil]; exact TK0.out)
  have q2 : (w2.alloc (.cells #[.int .i64 3, sv [], .int .i64 1, sv [115, 101, 108, 101, 99, 116, 101, 100]] 48)).cell? ⟨w.heap.size, 2, none⟩ = some (.int .i64 ev) := (Lib.cell_of_heap TK0.out.blk 2).trans rfl
  clear TK0 HNM
  go_wp2_with fail
  generalize (w2.alloc (.cells #[.int .i64 3, sv [], .int .i64 1, sv [115, 101, 108, 101, 99, 116, 101, 100]] 48)) = w4 at *
  generalize (Value.slice (some ⟨w2.heap.size, 0, none⟩) 2 2) = u4 at *
  refine (CE.out _ (HE.out.below TK4.out.below)).mono ?_
  rintro e w5 ⟨v5, rfl, o5, b5⟩
  have TK5 := Lib.hid (TK4.out.call b5)
  have R5 := Lib.hid (show Rd1 sv w5 v5 (evWs ev) from Rd1.of_own (enc := sv) o5)
  clear o5 b5 TK4 q2
  go_wp2_with fail
  refine (atomGroup_any _ _ _ R5.out (by have := evWs_len ev; omega)).mono ?_
  rintro e w6 ⟨v6, rfl, o6, b6⟩
  have TK6 := Lib.hid (TK5.out.call b6)
  have R6 := Lib.hid (Rd.of_own (enc := tokc) (fun _ => rfl) rfl o6)
  have HL6 := Lib.hid (show (nmTks ⟨1, names, ev⟩).length ≤ 5 by unfold nmTks; split <;> simp <;> omega)
  have HL7 := Lib.hid (by have := evWs_len ev; omega)
  clear o6 b6 TK5 R5
  go_wp2_with (at_builtin; refine wpList_tksR rfl TK6.out (grpT (evWs ev)) (.tmp 31) (.tmp 35) rfl rfl _ rfl R6.out (by have := HL6.out; have := HL7.out; rw [grpT_len]; simp; omega) ?_)
  intro u7 w7 TK7'
  have TK7 := Lib.hid TK7'
  clear TK7' TK6 R6
  go_wp2_with (at_builtin; refine wpList_tks rfl TK7.out [clT4] 1 (.tmp 37) (.tmp 39) rfl rfl _ (.inr rfl) rfl rfl rfl (by omega) (by have := HL6.out; have := HL7.out; simp [grpT]; omega) ?_)
  intro u8 w8 TK8
  go_wp2
  go_ret
  have TK9 : TkB W0 w.heap.size #[.int .i64 1, .slice p names.length c, .int .i64 ev] u8 (scTks ⟨1, names, ev⟩) w8 := by rw [HV.out]; simpa using TK8
  exact ⟨_, rfl, own_lower TK9.own (by rw [HZ1.out]; omega), HB1.out.trans (TK8.below.mono (by rw [HZ1.out]; omega))⟩

set_option maxRecDepth 20000 in
set_option maxHeartbeats 3200000 in
theorem scopeTokens_2 (names : List (List UInt8)) (ev : Int) (vn : Value) (w : World) (hok : scopeB ⟨2, names, ev⟩ = true) (hr : Rd1 sv w vn names) (hF : Ew w) :
    Calls Tryz.prog 70 #[.agg #[.int .i64 2, vn, .int .i64 ev]] w (TksPost (scTks ⟨2, names, ev⟩) w) := by
  have HR := Lib.hid hr
  obtain ⟨p, c, rfl, _⟩ := hr.ex
  have HV := Lib.hid (show scTks ⟨2, names, ev⟩ = [opT3, atT [112, 101, 114, 115, 111, 110, 97, 108]] ++ nmTks ⟨2, names, ev⟩ ++ grpT (evWs ev) ++ [clT4] from scTks_eq ⟨2, names, ev⟩)
  obtain ⟨_, _, hev1, hev15, hn3⟩ := scope_parts hok
  simp only at hev1 hev15 hn3
  have HNM := Lib.hid (show nmTks ⟨2, names, ev⟩ = [] from rfl)
  have hb1 : Below w.heap.size w (w.alloc (.cells #[.int .i64 2, .slice p names.length c, .int .i64 ev] 78)) := (Below.refl _ _).alloc (Nat.le_refl _) _
  have hA : (w.alloc (.cells #[.int .i64 2, .slice p names.length c, .int .i64 ev] 78)).heap[w.heap.size]? = some (.cells #[.int .i64 2, .slice p names.length c, .int .i64 ev] 78 (0, 0)) := heap_alloc_new w _
  have hz1 : (w.alloc (.cells #[.int .i64 2, .slice p names.length c, .int .i64 ev] 78)).heap.size = w.heap.size + 1 := by simp
  obtain ⟨W0, hW0⟩ : ∃ W0, w.alloc (.cells #[.int .i64 2, .slice p names.length c, .int .i64 ev] 78) = W0 := ⟨_, rfl⟩
  have HW0 := Lib.hid hW0
  have HB1 := Lib.hid (hW0 ▸ hb1)
  have HA := Lib.hid (hW0 ▸ hA)
  have HZ1 := Lib.hid (hW0 ▸ hz1)
  have HE := Lib.hid (hF.below HB1.out)
  have C := Lib.hid (fun W => reach_2 (.slice p names.length c) ev W ⟨_, _, _, rfl⟩)
  have CE := Lib.hid (fun W h => eventsIn_any ev W hev1 hev15 h)
  clear hr hok hb1 hA hz1 hW0 hF
  have a1 := as23
  have a2 := as24
  have hm := method_2
  go_enter Tryz.func70, Tryz.ntmps70
  go_wp2_with fail
  rw [HW0.out]
  refine (C.out _).mono ?_
  rintro e w1 ⟨rfl, b1⟩
  go_wp2_with fail
  refine (keyword_2 _).mono ?_
  rintro e w2 ⟨rfl, b2⟩
  have hb2 := b1.trans (b2.mono b1.size)
  have TK0 := Lib.hid (show TkB W0 w.heap.size #[.int .i64 2, .slice p names.length c, .int .i64 ev] (.slice (some ⟨w2.heap.size, 0, none⟩) 2 2) [opT3, atT [112, 101, 114, 115, 111, 110, 97, 108]] (w2.alloc (.cells #[.int .i64 3, sv [], .int .i64 1, sv [112, 101, 114, 115, 111, 110, 97, 108]] 48)) from
    ⟨own_lit w2 #[.int .i64 3, sv [], .int .i64 1, sv [112, 101, 114, 115, 111, 110, 97, 108]] 2 48 2 _ hb2.size (by unfold maxLen; omega) rfl, hb2.alloc hb2.size _, ((hb2.alloc hb2.size _).block w.heap.size (by rw [HZ1.out]; omega)).trans HA.out⟩)
  clear b1 b2 C hm
  have TK4 := Lib.hid (show TkB W0 w.heap.size #[.int .i64 2, .slice p names.length c, .int .i64 ev] (.slice (some ⟨w2.heap.size, 0, none⟩) 2 2) ([opT3, atT [112, 101, 114, 115, 111, 110, 97, 108]] ++ nmTks ⟨2, names, ev⟩) (w2.alloc (.cells #[.int .i64 3, sv [], .int .i64 1, sv [112, 101, 114, 115, 111, 110, 97, 108]] 48)) by rw [HNM.out, List.append_nil]; exact TK0.out)
  have q2 : (w2.alloc (.cells #[.int .i64 3, sv [], .int .i64 1, sv [112, 101, 114, 115, 111, 110, 97, 108]] 48)).cell? ⟨w.heap.size, 2, none⟩ = some (.int .i64 ev) := (Lib.cell_of_heap TK0.out.blk 2).trans rfl
  clear TK0 HNM
  go_wp2_with fail
  generalize (w2.alloc (.cells #[.int .i64 3, sv [], .int .i64 1, sv [112, 101, 114, 115, 111, 110, 97, 108]] 48)) = w4 at *
  generalize (Value.slice (some ⟨w2.heap.size, 0, none⟩) 2 2) = u4 at *
  refine (CE.out _ (HE.out.below TK4.out.below)).mono ?_
  rintro e w5 ⟨v5, rfl, o5, b5⟩
  have TK5 := Lib.hid (TK4.out.call b5)
  have R5 := Lib.hid (show Rd1 sv w5 v5 (evWs ev) from Rd1.of_own (enc := sv) o5)
  clear o5 b5 TK4 q2
  go_wp2_with fail
  refine (atomGroup_any _ _ _ R5.out (by have := evWs_len ev; omega)).mono ?_
  rintro e w6 ⟨v6, rfl, o6, b6⟩
  have TK6 := Lib.hid (TK5.out.call b6)
  have R6 := Lib.hid (Rd.of_own (enc := tokc) (fun _ => rfl) rfl o6)
  have HL6 := Lib.hid (show (nmTks ⟨2, names, ev⟩).length ≤ 5 by unfold nmTks; split <;> simp <;> omega)
  have HL7 := Lib.hid (by have := evWs_len ev; omega)
  clear o6 b6 TK5 R5
  go_wp2_with (at_builtin; refine wpList_tksR rfl TK6.out (grpT (evWs ev)) (.tmp 31) (.tmp 35) rfl rfl _ rfl R6.out (by have := HL6.out; have := HL7.out; rw [grpT_len]; simp; omega) ?_)
  intro u7 w7 TK7'
  have TK7 := Lib.hid TK7'
  clear TK7' TK6 R6
  go_wp2_with (at_builtin; refine wpList_tks rfl TK7.out [clT4] 1 (.tmp 37) (.tmp 39) rfl rfl _ (.inr rfl) rfl rfl rfl (by omega) (by have := HL6.out; have := HL7.out; simp [grpT]; omega) ?_)
  intro u8 w8 TK8
  go_wp2
  go_ret
  have TK9 : TkB W0 w.heap.size #[.int .i64 2, .slice p names.length c, .int .i64 ev] u8 (scTks ⟨2, names, ev⟩) w8 := by rw [HV.out]; simpa using TK8
  exact ⟨_, rfl, own_lower TK9.own (by rw [HZ1.out]; omega), HB1.out.trans (TK8.below.mono (by rw [HZ1.out]; omega))⟩

set_option maxRecDepth 20000 in
set_option maxHeartbeats 3200000 in
theorem scopeTokens_3 (names : List (List UInt8)) (ev : Int) (vn : Value) (w : World) (hok : scopeB ⟨3, names, ev⟩ = true) (hr : Rd1 sv w vn names) (hF : Ew w) :
    Calls Tryz.prog 70 #[.agg #[.int .i64 3, vn, .int .i64 ev]] w (TksPost (scTks ⟨3, names, ev⟩) w) := by
  have HR := Lib.hid hr
  obtain ⟨p, c, rfl, _⟩ := hr.ex
  have HV := Lib.hid (show scTks ⟨3, names, ev⟩ = [opT3, atT [115, 117, 98, 116, 114, 101, 101]] ++ nmTks ⟨3, names, ev⟩ ++ grpT (evWs ev) ++ [clT4] from scTks_eq ⟨3, names, ev⟩)
  obtain ⟨_, _, hev1, hev15, hn3⟩ := scope_parts hok
  simp only at hev1 hev15 hn3
  have HNM := Lib.hid (show nmTks ⟨3, names, ev⟩ = grpT names from rfl)
  have hb1 : Below w.heap.size w (w.alloc (.cells #[.int .i64 3, .slice p names.length c, .int .i64 ev] 78)) := (Below.refl _ _).alloc (Nat.le_refl _) _
  have hA : (w.alloc (.cells #[.int .i64 3, .slice p names.length c, .int .i64 ev] 78)).heap[w.heap.size]? = some (.cells #[.int .i64 3, .slice p names.length c, .int .i64 ev] 78 (0, 0)) := heap_alloc_new w _
  have hz1 : (w.alloc (.cells #[.int .i64 3, .slice p names.length c, .int .i64 ev] 78)).heap.size = w.heap.size + 1 := by simp
  obtain ⟨W0, hW0⟩ : ∃ W0, w.alloc (.cells #[.int .i64 3, .slice p names.length c, .int .i64 ev] 78) = W0 := ⟨_, rfl⟩
  have HW0 := Lib.hid hW0
  have HB1 := Lib.hid (hW0 ▸ hb1)
  have HA := Lib.hid (hW0 ▸ hA)
  have HZ1 := Lib.hid (hW0 ▸ hz1)
  have HE := Lib.hid (hF.below HB1.out)
  have C := Lib.hid (fun W => reach_3 (.slice p names.length c) ev W ⟨_, _, _, rfl⟩)
  have CE := Lib.hid (fun W h => eventsIn_any ev W hev1 hev15 h)
  clear hr hok hb1 hA hz1 hW0 hF
  have a1 := as33
  have hm := method_3
  go_enter Tryz.func70, Tryz.ntmps70
  go_wp2_with fail
  rw [HW0.out]
  refine (C.out _).mono ?_
  rintro e w1 ⟨rfl, b1⟩
  go_wp2_with fail
  refine (keyword_3 p names.length c _).mono ?_
  rintro e w2 ⟨rfl, b2⟩
  have hb2 := b1.trans (b2.mono b1.size)
  have TK0 := Lib.hid (show TkB W0 w.heap.size #[.int .i64 3, .slice p names.length c, .int .i64 ev] (.slice (some ⟨w2.heap.size, 0, none⟩) 2 2) [opT3, atT [115, 117, 98, 116, 114, 101, 101]] (w2.alloc (.cells #[.int .i64 3, sv [], .int .i64 1, sv [115, 117, 98, 116, 114, 101, 101]] 48)) from
    ⟨own_lit w2 #[.int .i64 3, sv [], .int .i64 1, sv [115, 117, 98, 116, 114, 101, 101]] 2 48 2 _ hb2.size (by unfold maxLen; omega) rfl, hb2.alloc hb2.size _, ((hb2.alloc hb2.size _).block w.heap.size (by rw [HZ1.out]; omega)).trans HA.out⟩)
  clear b1 b2 C hm
  have hba := TK0.out.call ((Below.refl _ _).alloc (Nat.le_refl _) (.cells #[.slice p names.length c] 116))
  have TKa := Lib.hid hba
  clear hba
  go_wp2_with fail
  refine (atomGroup_any _ _ _ (HR.out.below (HB1.out.trans (TKa.out.below.mono (by rw [HZ1.out]; omega)))) (by omega)).mono ?_
  rintro e w3 ⟨v3, rfl, o3, b3⟩
  have TKb := Lib.hid (TKa.out.call b3)
  have R3 := Lib.hid (Rd.of_own (enc := tokc) (fun _ => rfl) rfl o3)
  clear o3 b3 TKa TK0
  go_wp2_with (at_builtin; refine wpList_tksR rfl TKb.out (grpT names) (.tmp 18) (.tmp 21) rfl rfl _ rfl R3.out (by rw [grpT_len]; simp; omega) ?_)
  intro u4 w4 TK4'
  have TK4 := Lib.hid (show TkB W0 w.heap.size #[.int .i64 3, .slice p names.length c, .int .i64 ev] u4 ([opT3, atT [115, 117, 98, 116, 114, 101, 101]] ++ nmTks ⟨3, names, ev⟩) w4 by rw [HNM.out]; exact TK4')
  have q2 : w4.cell? ⟨w.heap.size, 2, none⟩ = some (.int .i64 ev) := (Lib.cell_of_heap TK4'.blk 2).trans rfl
  clear TK4' TKb R3 HNM
  go_wp2_with fail
  refine (CE.out _ (HE.out.below TK4.out.below)).mono ?_
  rintro e w5 ⟨v5, rfl, o5, b5⟩
  have TK5 := Lib.hid (TK4.out.call b5)
  have R5 := Lib.hid (show Rd1 sv w5 v5 (evWs ev) from Rd1.of_own (enc := sv) o5)
  clear o5 b5 TK4 q2
  go_wp2_with fail
  refine (atomGroup_any _ _ _ R5.out (by have := evWs_len ev; omega)).mono ?_
  rintro e w6 ⟨v6, rfl, o6, b6⟩
  have TK6 := Lib.hid (TK5.out.call b6)
  have R6 := Lib.hid (Rd.of_own (enc := tokc) (fun _ => rfl) rfl o6)
  have HL6 := Lib.hid (show (nmTks ⟨3, names, ev⟩).length ≤ 5 by unfold nmTks; split <;> simp <;> omega)
  have HL7 := Lib.hid (by have := evWs_len ev; omega)
  clear o6 b6 TK5 R5
  go_wp2_with (at_builtin; refine wpList_tksR rfl TK6.out (grpT (evWs ev)) (.tmp 31) (.tmp 35) rfl rfl _ rfl R6.out (by have := HL6.out; have := HL7.out; rw [grpT_len]; simp; omega) ?_)
  intro u7 w7 TK7'
  have TK7 := Lib.hid TK7'
  clear TK7' TK6 R6
  go_wp2_with (at_builtin; refine wpList_tks rfl TK7.out [clT4] 1 (.tmp 37) (.tmp 39) rfl rfl _ (.inr rfl) rfl rfl rfl (by omega) (by have := HL6.out; have := HL7.out; simp [grpT]; omega) ?_)
  intro u8 w8 TK8
  go_wp2
  go_ret
  have TK9 : TkB W0 w.heap.size #[.int .i64 3, .slice p names.length c, .int .i64 ev] u8 (scTks ⟨3, names, ev⟩) w8 := by rw [HV.out]; simpa using TK8
  exact ⟨_, rfl, own_lower TK9.own (by rw [HZ1.out]; omega), HB1.out.trans (TK8.below.mono (by rw [HZ1.out]; omega))⟩

set_option maxRecDepth 20000 in
set_option maxHeartbeats 3200000 in
theorem scopeTokens_4 (names : List (List UInt8)) (ev : Int) (vn : Value) (w : World) (hok : scopeB ⟨4, names, ev⟩ = true) (hr : Rd1 sv w vn names) (hF : Ew w) :
    Calls Tryz.prog 70 #[.agg #[.int .i64 4, vn, .int .i64 ev]] w (TksPost (scTks ⟨4, names, ev⟩) w) := by
  have HR := Lib.hid hr
  obtain ⟨p, c, rfl, _⟩ := hr.ex
  have HV := Lib.hid (show scTks ⟨4, names, ev⟩ = [opT3, atT [98, 111, 120, 101, 115]] ++ nmTks ⟨4, names, ev⟩ ++ grpT (evWs ev) ++ [clT4] from scTks_eq ⟨4, names, ev⟩)
  obtain ⟨_, _, hev1, hev15, hn3⟩ := scope_parts hok
  simp only at hev1 hev15 hn3
  have HNM := Lib.hid (show nmTks ⟨4, names, ev⟩ = grpT names from rfl)
  have hb1 : Below w.heap.size w (w.alloc (.cells #[.int .i64 4, .slice p names.length c, .int .i64 ev] 78)) := (Below.refl _ _).alloc (Nat.le_refl _) _
  have hA : (w.alloc (.cells #[.int .i64 4, .slice p names.length c, .int .i64 ev] 78)).heap[w.heap.size]? = some (.cells #[.int .i64 4, .slice p names.length c, .int .i64 ev] 78 (0, 0)) := heap_alloc_new w _
  have hz1 : (w.alloc (.cells #[.int .i64 4, .slice p names.length c, .int .i64 ev] 78)).heap.size = w.heap.size + 1 := by simp
  obtain ⟨W0, hW0⟩ : ∃ W0, w.alloc (.cells #[.int .i64 4, .slice p names.length c, .int .i64 ev] 78) = W0 := ⟨_, rfl⟩
  have HW0 := Lib.hid hW0
  have HB1 := Lib.hid (hW0 ▸ hb1)
  have HA := Lib.hid (hW0 ▸ hA)
  have HZ1 := Lib.hid (hW0 ▸ hz1)
  have HE := Lib.hid (hF.below HB1.out)
  have C := Lib.hid (fun W => reach_4 (.slice p names.length c) ev W ⟨_, _, _, rfl⟩)
  have CE := Lib.hid (fun W h => eventsIn_any ev W hev1 hev15 h)
  clear hr hok hb1 hA hz1 hW0 hF
  have a1 := as43
  have a2 := as44
  have hm := method_4
  go_enter Tryz.func70, Tryz.ntmps70
  go_wp2_with fail
  rw [HW0.out]
  refine (C.out _).mono ?_
  rintro e w1 ⟨rfl, b1⟩
  go_wp2_with fail
  refine (keyword_4 p names.length c _).mono ?_
  rintro e w2 ⟨rfl, b2⟩
  have hb2 := b1.trans (b2.mono b1.size)
  have TK0 := Lib.hid (show TkB W0 w.heap.size #[.int .i64 4, .slice p names.length c, .int .i64 ev] (.slice (some ⟨w2.heap.size, 0, none⟩) 2 2) [opT3, atT [98, 111, 120, 101, 115]] (w2.alloc (.cells #[.int .i64 3, sv [], .int .i64 1, sv [98, 111, 120, 101, 115]] 48)) from
    ⟨own_lit w2 #[.int .i64 3, sv [], .int .i64 1, sv [98, 111, 120, 101, 115]] 2 48 2 _ hb2.size (by unfold maxLen; omega) rfl, hb2.alloc hb2.size _, ((hb2.alloc hb2.size _).block w.heap.size (by rw [HZ1.out]; omega)).trans HA.out⟩)
  clear b1 b2 C hm
  have hba := TK0.out.call ((Below.refl _ _).alloc (Nat.le_refl _) (.cells #[.slice p names.length c] 118))
  have TKa := Lib.hid hba
  clear hba
  go_wp2_with fail
  refine (atomGroup_any _ _ _ (HR.out.below (HB1.out.trans (TKa.out.below.mono (by rw [HZ1.out]; omega)))) (by omega)).mono ?_
  rintro e w3 ⟨v3, rfl, o3, b3⟩
  have TKb := Lib.hid (TKa.out.call b3)
  have R3 := Lib.hid (Rd.of_own (enc := tokc) (fun _ => rfl) rfl o3)
  clear o3 b3 TKa TK0
  go_wp2_with (at_builtin; refine wpList_tksR rfl TKb.out (grpT names) (.tmp 26) (.tmp 29) rfl rfl _ rfl R3.out (by rw [grpT_len]; simp; omega) ?_)
  intro u4 w4 TK4'
  have TK4 := Lib.hid (show TkB W0 w.heap.size #[.int .i64 4, .slice p names.length c, .int .i64 ev] u4 ([opT3, atT [98, 111, 120, 101, 115]] ++ nmTks ⟨4, names, ev⟩) w4 by rw [HNM.out]; exact TK4')
  have q2 : w4.cell? ⟨w.heap.size, 2, none⟩ = some (.int .i64 ev) := (Lib.cell_of_heap TK4'.blk 2).trans rfl
  clear TK4' TKb R3 HNM
  go_wp2_with fail
  refine (CE.out _ (HE.out.below TK4.out.below)).mono ?_
  rintro e w5 ⟨v5, rfl, o5, b5⟩
  have TK5 := Lib.hid (TK4.out.call b5)
  have R5 := Lib.hid (show Rd1 sv w5 v5 (evWs ev) from Rd1.of_own (enc := sv) o5)
  clear o5 b5 TK4 q2
  go_wp2_with fail
  refine (atomGroup_any _ _ _ R5.out (by have := evWs_len ev; omega)).mono ?_
  rintro e w6 ⟨v6, rfl, o6, b6⟩
  have TK6 := Lib.hid (TK5.out.call b6)
  have R6 := Lib.hid (Rd.of_own (enc := tokc) (fun _ => rfl) rfl o6)
  have HL6 := Lib.hid (show (nmTks ⟨4, names, ev⟩).length ≤ 5 by unfold nmTks; split <;> simp <;> omega)
  have HL7 := Lib.hid (by have := evWs_len ev; omega)
  clear o6 b6 TK5 R5
  go_wp2_with (at_builtin; refine wpList_tksR rfl TK6.out (grpT (evWs ev)) (.tmp 31) (.tmp 35) rfl rfl _ rfl R6.out (by have := HL6.out; have := HL7.out; rw [grpT_len]; simp; omega) ?_)
  intro u7 w7 TK7'
  have TK7 := Lib.hid TK7'
  clear TK7' TK6 R6
  go_wp2_with (at_builtin; refine wpList_tks rfl TK7.out [clT4] 1 (.tmp 37) (.tmp 39) rfl rfl _ (.inr rfl) rfl rfl rfl (by omega) (by have := HL6.out; have := HL7.out; simp [grpT]; omega) ?_)
  intro u8 w8 TK8
  go_wp2
  go_ret
  have TK9 : TkB W0 w.heap.size #[.int .i64 4, .slice p names.length c, .int .i64 ev] u8 (scTks ⟨4, names, ev⟩) w8 := by rw [HV.out]; simpa using TK8
  exact ⟨_, rfl, own_lower TK9.own (by rw [HZ1.out]; omega), HB1.out.trans (TK8.below.mono (by rw [HZ1.out]; omega))⟩

theorem scopeTokens_any (s : Scp) (vn : Value) (w : World) (hok : scopeB s = true) (hr : Rd1 sv w vn s.names) (hF : Ew w) :
    Calls Tryz.prog 70 #[.agg #[.int .i64 s.kind, vn, .int .i64 s.events]] w (TksPost (scTks s) w) := by
  obtain ⟨kd, names, ev⟩ := s
  obtain ⟨h1, h4, _, _, _⟩ := scope_parts hok
  simp only at h1 h4 hr
  have h : kd = 1 ∨ kd = 2 ∨ kd = 3 ∨ kd = 4 := by omega
  rcases h with rfl | rfl | rfl | rfl
  · exact scopeTokens_1 names ev vn w hok hr hF
  · exact scopeTokens_2 names ev vn w hok hr hF
  · exact scopeTokens_3 names ev vn w hok hr hF
  · exact scopeTokens_4 names ev vn w hok hr hF

set_option maxRecDepth 20000 in
set_option maxHeartbeats 6400000 in
theorem implFilterTokens_any : ImplFilterTokens Ew := by
  intro f vs w hF hr hl hx hi
  obtain ⟨on, l⟩ := f
  simp only at *
  obtain ⟨p, c, rfl, _⟩ := scps_at hr
  have HR := Lib.hid hr
  have hb1 : Below w.heap.size w (w.alloc (.cells #[.bool on, .slice p l.length c] 34)) := (Below.refl _ _).alloc (Nat.le_refl _) _
  have hA : (w.alloc (.cells #[.bool on, .slice p l.length c] 34)).heap[w.heap.size]? = some (.cells #[.bool on, .slice p l.length c] 34 (0, 0)) := heap_alloc_new w _
  have hz1 : (w.alloc (.cells #[.bool on, .slice p l.length c] 34)).heap.size = w.heap.size + 1 := by simp
  have CO := Lib.hid (fun W h => implFilterOk_any ⟨on, l⟩ (.slice p l.length c) W trivial h hl hx hi)
  have HA := Lib.hid hA
  have HZ1 := Lib.hid hz1
  have HF := Lib.hid hF
  clear hr hx hA hz1 hF hi
  cases hok : filterB ⟨on, l⟩ with
  | false =>
    have HV := Lib.hid (show fTks ⟨on, l⟩ = [] by unfold fTks; rw [hok]; rfl)
    rw [hok] at CO
    clear hok
    go_enter Tryz.func33, Tryz.ntmps33
    go_wp2_with fail
    refine (CO.out _ (LfRd.below hb1 _ _ HR.out)).mono ?_
    rintro e w1 ⟨rfl, b1⟩
    have hb2 := hb1.trans (b1.mono hb1.size)
    go_wp2
    go_ret
    exact ⟨_, rfl, by rw [HV.out]; exact World.ownsRow_nil _ _ _ _, hb2⟩
  | true =>
    have HFT := Lib.hid (show fTks ⟨on, l⟩ = if on = true then atT [115, 101, 116] :: l.flatMap scTks else [atT [110, 111, 110, 101]] by unfold fTks; rw [hok]; rfl)
    obtain ⟨hf1, hf2⟩ := filter_parts hok
    have HF1 := Lib.hid hf1
    rw [hok] at CO
    clear hok hf1
    simp only at hf2
    cases on with
    | false =>
      go_enter Tryz.func33, Tryz.ntmps33
      go_wp2_with fail
      refine (CO.out _ (LfRd.below hb1 _ _ HR.out)).mono ?_
      rintro e w1 ⟨rfl, b1⟩
      have hb2 := hb1.trans (b1.mono hb1.size)
      have q0 : w1.cell? ⟨w.heap.size, 0, none⟩ = some (.bool false) := (Lib.cell_of_heap ((b1.block w.heap.size (by rw [HZ1.out]; omega)).trans HA.out) 0).trans rfl
      clear b1 hb1 CO
      go_wp2
      go_ret
      exact ⟨_, rfl, by rw [HFT.out]; exact own_lit w1 #[.int .i64 1, sv [110, 111, 110, 101]] 1 48 2 _ hb2.size (by unfold maxLen; omega) rfl, hb2.alloc hb2.size _⟩
    | true =>
      go_enter Tryz.func33, Tryz.ntmps33
      go_wp2_with fail
      refine (CO.out _ (LfRd.below hb1 _ _ HR.out)).mono ?_
      rintro e w1 ⟨rfl, b1⟩
      have hb2 := hb1.trans (b1.mono hb1.size)
      have hblk := (b1.block w.heap.size (by rw [HZ1.out]; omega)).trans HA.out
      have q0 : w1.cell? ⟨w.heap.size, 0, none⟩ = some (.bool true) := (Lib.cell_of_heap hblk 0).trans rfl
      have q1 : ∀ o : Obj, (w1.alloc o).cell? ⟨w.heap.size, 1, none⟩ = some (.slice p l.length c) := fun o => (Lib.cell_of_heap ((((Below.refl w1.heap.size w1).alloc (Nat.le_refl _) o).block w.heap.size (Array.getElem?_eq_some_iff.1 hblk).1).trans hblk) 1).trans rfl
      have hb3 := hb2.alloc hb2.size (.cells #[.int .i64 1, sv [115, 101, 116]] 48)
      have HO3 := Lib.hid (show (w1.alloc (.cells #[.int .i64 1, sv [115, 101, 116]] 48)).ownsRow w.heap.size 48 2 (.slice (some ⟨w1.heap.size, 0, none⟩) 1 1) (atT [115, 101, 116] :: (l.take 0).flatMap scTks).length ((atT [115, 101, 116] :: (l.take 0).flatMap scTks).flatMap tokc) from own_lit w1 #[.int .i64 1, sv [115, 101, 116]] 1 48 2 _ hb2.size (by unfold maxLen; omega) rfl)
      clear b1 hb1 CO hblk
      go_wp2
      clear q0 q1
      go_loopg [3, 5, 19] l.length (fun gk u u5 i wr => ∃ k : Nat, k ≤ l.length ∧ gk = l.length - k ∧ i = .int .i64 k ∧ wr.ownsRow w.heap.size 48 2 u (atT [115, 101, 116] :: (l.take k).flatMap scTks).length ((atT [115, 101, 116] :: (l.take k).flatMap scTks).flatMap tokc) ∧ Below w.heap.size w wr)
      case atStart => exact ⟨0, Nat.zero_le _, rfl, rfl, HO3.out, hb3⟩
      case round =>
        obtain ⟨k, hk, rfl, rfl, hown, hbr⟩ := hrel
        have hz := hbr.size
        clear hb3 HO3 hb2
        by_cases hlt : k < l.length
        · obtain ⟨p', c', hv, hp⟩ := scps_at HR.out
          injection hv with e1 _ e2
          subst e1 e2
          obtain ⟨b, off, rfl, hb, hcell⟩ := hp.resolve_left (by intro h; subst h; simp at hlt)
          obtain ⟨s, hs⟩ : ∃ s, l[k]? = some s := ⟨_, List.getElem?_eq_getElem hlt⟩
          obtain ⟨vn, n1, x0, x1, x2⟩ := hcell k s hs
          have hsok := HF1.out s (List.mem_of_getElem? hs)
          obtain ⟨pn, cn, rfl, _⟩ := n1.ex
          have e0 : wr.cell? ⟨b, off + k * 3, none⟩ = some (.int .i64 s.kind) := (hbr.cell (p := ⟨b, off + k * 3, none⟩) hb).trans x0
          have e1 : wr.cell? ⟨b, off + k * 3 + 1, none⟩ = some (.slice pn s.names.length cn) := (hbr.cell (p := ⟨b, off + k * 3 + 1, none⟩) hb).trans x1
          have e2 : wr.cell? ⟨b, off + k * 3 + 2, none⟩ = some (.int .i64 s.events) := (hbr.cell (p := ⟨b, off + k * 3 + 2, none⟩) hb).trans x2
          have HT := Lib.hid (show (l.take (k + 1)).flatMap scTks = (l.take k).flatMap scTks ++ scTks s by rw [take_sc hs]; simp)
          have HTL := Lib.hid (scTks_take HF1.out k)
          have HSL := Lib.hid (scTks_len hsok)
          have C := Lib.hid (fun W h => scopeTokens_any s (.slice pn s.names.length cn) W hsok (n1.below h) (HF.out.below h))
          have hba := hbr.alloc hz (.cells #[.int .i64 s.kind, .slice pn s.names.length cn, .int .i64 s.events] 78)
          have HOA := Lib.hid (hown.alloc (.cells #[.int .i64 s.kind, .slice pn s.names.length cn, .int .i64 s.events] 78))
          have HBA := Lib.hid hba
          clear hcell hs n1 x0 x1 x2 hp hsok hown hba
          go_wp2_with fail
          refine (C.out _ HBA.out).mono ?_
          rintro e w3 ⟨v3, rfl, o3, b3⟩
          have ho4 := ownsRow_below HOA.out b3
          have hb4 := HBA.out.trans (b3.mono HBA.out.size)
          have R3 := Lib.hid (Rd.of_own (enc := tokc) (fun _ => rfl) rfl o3)
          have hz4 := hb4.size
          clear o3 b3 HOA HBA C e0 e1 e2 hbr
          have HTZ := Lib.hid (show (atT [115, 101, 116] :: (l.take k).flatMap scTks).length ≤ 50 by have := HTL.out; simp only [List.length_cons]; omega)
          have HTT := Lib.hid (show atT [115, 101, 116] :: (l.take (k + 1)).flatMap scTks = (atT [115, 101, 116] :: (l.take k).flatMap scTks) ++ scTks s by rw [HT.out]; rfl)
          clear HT HTL
          generalize (atT [115, 101, 116] :: (l.take k).flatMap scTks) = T0 at *
          go_wp2_with (at_builtin; refine wpList_appR rfl Tryz.el_tok (enc := tokc) (fun _ => rfl) tok_one (.tmp 23) (.tmp 25) rfl w _ _ _ rfl ho4 hb4 hz4 _ (scTks s) rfl R3.out (by have := HTZ.out; have := HSL.out; omega) (by have := HTZ.out; have := HSL.out; omega) ?_)
          intro v5 w5 o5 b5 _
          clear ho4 hb4 R3
          go_wp2
          go_roundg (l.length - (k + 1))
          case measure => omega
          case rel => exact ⟨k + 1, by omega, rfl, by go_num, by rw [HTT.out, List.length_append, List.flatMap_append]; exact o5, b5⟩
        · obtain rfl : k = l.length := by omega
          rw [List.take_length] at hown
          go_wp2
          go_ret
          exact ⟨_, rfl, by rw [HFT.out]; exact hown, hbr⟩

end Go.Proofs.YtidjebepgpbcnaaGreatDoor

namespace Go.Proofs.YtidjebepgpbcnaaGreatDoor
open Go.RowKit
open Go.Lib (decDigits itoa)

theorem gTab : Tryz.prog.globalNamed "internal/strconv.uint64pow10" = some 5 := by kernel_rfl

theorem gTabType : (Tryz.prog.globals[5]?).map (·.type) = some 168 := by kernel_rfl

theorem gTabUnder : Tryz.prog.underlying 168 = some (.array 20 162) := by kernel_rfl

theorem gTabOne : Tryz.prog.cellsOf 162 = 1 := by kernel_rfl

theorem gTabCells : Tryz.prog.cellsOf 168 = 20 := by kernel_rfl

/-- The table of powers of ten stands in the world. -/
structure Tab (w : World) : Prop where
  tab : Lib.TabIs Tryz.prog w "internal/strconv.uint64pow10" .u64 Lib.pow10Tab
  lt : 5 < w.heap.size

theorem Tab.of_laid {w : World} (h : Lib.TabIs Tryz.prog w "internal/strconv.uint64pow10" .u64 Lib.pow10Tab) : Tab w :=
  ⟨h, World.block_lt_of_cell? w _ (h.cell gTab 0 (by decide))⟩

theorem Tab.below {w w' : World} (h : Tab w) (hb : Below w.heap.size w w') : Tab w' :=
  ⟨var?_below hb gTab h.lt h.tab, Nat.lt_of_lt_of_le h.lt hb.size⟩

theorem implDigits_any (n : Int) (w : World) (hT : Tab w) (h0 : -9223372036854775808 ≤ n) (h1 : n ≤ 9223372036854775807) :
    Calls Tryz.prog 121 #[.int .i64 n] w fun e w' => e = .returned (sv (itoa n)) ∧ Below w.heap.size w w' := by
  have HT := Lib.hid hT
  clear hT
  go_enter Tryz.func121, Tryz.ntmps121
  go_wp2_with fail
  refine (Tryz.strconv_Itoa n h0 h1 _ HT.out.tab).mono ?_
  rintro e w1 ⟨rfl, k, os, hw⟩
  have hb : Below w.heap.size w w1 := by rw [hw]; exact Lib.below_grow _ w (Nat.le_refl _) k os
  clear hw
  go_wp2
  go_ret
  exact ⟨rfl, hb⟩

end Go.Proofs.YtidjebepgpbcnaaGreatDoor
