/-
  Gk: FilQ, FilR, FilS, FilT.
-/
import Derived.Test.YthihjelcakenpaaFilL
import Derived.Test.YthihjelcakenpaaGa
import Derived.Test.YthihjelcakenpaaGh

/-
  Chapter 6: the bits of events' words (the model's l6Bits).
-/
namespace Go.Proofs.Ythihjelcakenpaa
open Go.RowKit

def evW (j : Nat) : List UInt8 := evWords.getD j []
/-- The place of a word among the events' words, the first k of them; -1: none. -/
def evFind (w : List UInt8) : Nat → Int
  | 0 => -1
  | j + 1 => if upper (evW j) = upper w then (j : Int) else evFind w j
def orB (b : Int) (k : Int) : Int := bits .or .i64 b (2 ^ k.toNat : Nat)
def bitsL : Int → Int → List (List UInt8) → Option Int
  | _, b, [] => some b
  | last, b, w :: r => if evFind w 4 ≤ last then none else bitsL (evFind w 4) (orB b (evFind w 4)) r
def bitsV (o : Option Int) : Value := match o with | some b => .tuple #[.int .i64 b, .bool true] | none => .tuple #[.int .i64 0, .bool false]
theorem bitsV_eq (o : Option Int) : bitsV o = .tuple #[.int .i64 (o.getD 0), .bool o.isSome] := by cases o <;> rfl
theorem evFind_le (w : List UInt8) : ∀ k, -1 ≤ evFind w k ∧ evFind w k < (k : Int)
  | 0 => by simp [evFind]
  | k + 1 => by
    have := evFind_le w k
    unfold evFind
    split <;> omega
theorem evW_len (j : Nat) : (evW j).length ≤ 5 := by
  match j with
  | 0 => decide
  | 1 => decide
  | 2 => decide
  | 3 => decide
  | n + 4 => simp [evW, evWords]
theorem bitsL_cons {last b : Int} {l : List (List UInt8)} {k : Nat} {x : List UInt8} (h : l[k]? = some x) : bitsL last b (l.drop k) = if evFind x 4 ≤ last then none else bitsL (evFind x 4) (orB b (evFind x 4)) (l.drop (k + 1)) := by
  obtain ⟨h1, h2⟩ := List.getElem?_eq_some_iff.1 h
  rw [List.drop_eq_getElem_cons h1, h2]
  rfl

end Go.Proofs.Ythihjelcakenpaa

/-
  Chapter 6: tokens taken one by one, as steps of a reader; atoms between parentheses (the model's l6Atoms).
-/
namespace Go.Proofs.Ythihjelcakenpaa
open Go.RowKit

def takeP (kind : Int) : List Tok → Option (List UInt8 × List Tok)
  | [] => none
  | t :: r => if t.kind = kind ∧ (kind = 1 ∨ t.text = []) then some (t.text, r) else none
def isAt (t : Tok) : Bool := t.kind == 1
def atomsP (r : List Tok) : Option (List (List UInt8) × List Tok) :=
  (takeP 3 r).bind fun q => (takeP 4 (q.2.dropWhile isAt)).bind fun z => some ((q.2.takeWhile isAt).map (·.text), z.2)
/-- What a step of the reader did to its place and its mark, against what the text asks. -/
structure Step {α : Type} (P : List Tok → Option (α × List Tok)) (l : List Tok) (at_ : Nat) (bad : Bool) (x : α) (at' : Nat) (bad' : Bool) : Prop where
  yes : bad' = false → bad = false ∧ P (l.drop at_) = some (x, l.drop at')
  no : bad = false → bad' = true → P (l.drop at_) = none
  le : at' ≤ l.length
theorem Step.bind {α β : Type} {P : List Tok → Option (α × List Tok)} {Q : α → List Tok → Option (β × List Tok)} {l : List Tok} {a0 a1 a2 : Nat} {b0 b1 b2 : Bool} {x : α} {y : β} (h : Step P l a0 b0 x a1 b1) (k : Step (Q x) l a1 b1 y a2 b2) :
    Step (fun r => (P r).bind fun q => Q q.1 q.2) l a0 b0 y a2 b2 where
  yes hb := by
    obtain ⟨h1, h2⟩ := k.yes hb
    obtain ⟨h3, h4⟩ := h.yes h1
    exact ⟨h3, by rw [h4]; exact h2⟩
  no h0 hb := by
    cases hb1 : b1 with
    | true => rw [h.no h0 hb1]; rfl
    | false => rw [(h.yes hb1).2]; exact k.no hb1 hb
  le := k.le
theorem takeP_drop (l : List Tok) (at_ : Nat) (kind : Int) : takeP kind (l.drop at_) = (takeV l at_ kind).map fun x => (x, l.drop (at_ + 1)) := by
  unfold takeV
  cases h : l[at_]? with
  | none =>
    rw [List.drop_of_length_le (by simpa using h)]
    rfl
  | some t =>
    obtain ⟨h1, h2⟩ := List.getElem?_eq_some_iff.1 h
    rw [List.drop_eq_getElem_cons h1, h2]
    simp only [takeP]
    split <;> rfl
theorem grown_new {w w1 w2 : World} {r1 r2 : Option Nat} (h : w.grownBy w1 r1) (k : w1.grownBy w2 r2) (hr : ∀ j, r2 = some j → w.heap.size ≤ j) : w.grownBy w2 r1 :=
  ⟨k.os.trans h.os, k.tape.trans h.tape, k.output.trans h.output, Nat.le_trans h.size k.size, fun j hj hne => (k.block j (Nat.lt_of_lt_of_le hj h.size) (fun e => by have := hr j e.symm; omega)).trans (h.block j hj hne)⟩
theorem own_off {w w' : World} {B m n g : Nat} {e : TypeId} {v : Value} {xs : List Value} (h : w.ownsRow B e m v n xs) (hg : w.grownBy w' (some g)) (hB : g < B) : w'.ownsRow B e m v n xs :=
  own_frame h (fun k hk => hg.block k (h.lt k hk).2 (fun e => by have := (h.lt k hk).1; injection e with e; omega))

theorem takeV_at {l : List Tok} {a : Nat} {t : Tok} (h : l[a]? = some t) (hk : t.kind = 1) : takeV l a 1 = some t.text := by
  unfold takeV
  rw [h]
  exact if_pos ⟨hk, .inl rfl⟩
theorem span_at {l : List Tok} {a : Nat} {t : Tok} (h : l[a]? = some t) (hk : isAt t = false) : (l.drop a).takeWhile isAt = [] ∧ (l.drop a).dropWhile isAt = l.drop a := by
  obtain ⟨h1, h2⟩ := List.getElem?_eq_some_iff.1 h
  rw [List.drop_eq_getElem_cons h1, h2, List.takeWhile_cons_of_neg (by rw [hk]; simp), List.dropWhile_cons_of_neg (by rw [hk]; simp)]
  exact ⟨rfl, rfl⟩
theorem span_step {l : List Tok} {a : Nat} {t : Tok} (h : l[a]? = some t) (hk : isAt t = true) : (l.drop a).takeWhile isAt = t :: (l.drop (a + 1)).takeWhile isAt ∧ (l.drop a).dropWhile isAt = (l.drop (a + 1)).dropWhile isAt := by
  obtain ⟨h1, h2⟩ := List.getElem?_eq_some_iff.1 h
  rw [List.drop_eq_getElem_cons h1, h2, List.takeWhile_cons_of_pos hk, List.dropWhile_cons_of_pos hk]
  exact ⟨rfl, rfl⟩

theorem atoms_step {l : List Tok} {a0 a1 a a4 : Nat} {b0 b1 b4 : Bool} {x1 x4 : List UInt8} {xs : List (List UInt8)} (h1 : Step (takeP 3) l a0 b0 x1 a1 b1) (h4 : Step (takeP 4) l a b1 x4 a4 b4) (htw : ((l.drop a1).takeWhile isAt).map (·.text) = xs) (hdw : (l.drop a1).dropWhile isAt = l.drop a) : Step atomsP l a0 b0 xs a4 b4 where
  yes hb := by
    obtain ⟨e1, e2⟩ := h4.yes hb
    obtain ⟨e3, e4⟩ := h1.yes e1
    refine ⟨e3, ?_⟩
    unfold atomsP
    rw [e4]
    simp only [Option.bind_some, hdw, htw, e2]
  no e0 hb := by
    unfold atomsP
    cases hb1 : b1 with
    | true => rw [h1.no e0 hb1]; rfl
    | false =>
      rw [(h1.yes hb1).2]
      simp only [Option.bind_some, hdw, h4.no hb1 hb, Option.bind_none]
  le := h4.le

end Go.Proofs.Ythihjelcakenpaa

/-
  Chapter 6: what a reader of filters has read so far, in memory and in words.
-/
namespace Go.Proofs.Ythihjelcakenpaa
open Go.RowKit

def scW (k : Nat) : List UInt8 := scWords.getD k []
/-- The kind of scope that an upper-case word names; 0: none. -/
def scFind (u : List UInt8) : Nat → Int
  | 0 => 0
  | k + 1 => if upper (scW (k + 1)) = u then ((k + 1 : Nat) : Int) else scFind u k
def nmP (kd : Int) (r : List Tok) : Option (List (List UInt8) × List Tok) := if 3 ≤ kd then atomsP r else some ([], r)
def bitP (ws : List (List UInt8)) (r : List Tok) : Option (Int × List Tok) := (bitsL (-1) 0 ws).map fun b => (b, r)
def scopeP (r : List Tok) : Option (Scp × List Tok) :=
  (takeP 3 r).bind fun q0 => (takeP 1 q0.2).bind fun q1 => (nmP (scFind (upper q1.1) 4) q1.2).bind fun q2 => (atomsP q2.2).bind fun q3 => (takeP 4 q3.2).bind fun q4 => (bitP q3.1 q4.2).bind fun q5 => some (⟨scFind (upper q1.1) 4, q2.1, q5.1⟩, q5.2)
def scopesP : Nat → List Tok → Option (List Scp)
  | 0, _ => none
  | n + 1, r => if r = [] then some [] else (scopeP r).bind fun q => (scopesP n q.2).map (q.1 :: ·)
def finF (f : Flt) : Option Flt := if filterB f = true then some f else none
def setW : List UInt8 := [83, 69, 84]
def noneW : List UInt8 := [78, 79, 78, 69]
def readF (l : List Tok) : Option Flt :=
  (takeP 1 l).bind fun q => if upper q.1 = setW then (scopesP (l.length + 1) q.2).bind fun ss => finF ⟨true, ss⟩ else if upper q.1 = noneW then (if q.2 = [] then finF ⟨false, []⟩ else none) else none

theorem takeP_lt {kind : Int} {r r' : List Tok} {x : List UInt8} (h : takeP kind r = some (x, r')) : r'.length < r.length := by
  cases r with
  | nil => simp [takeP] at h
  | cons t r =>
    simp only [takeP] at h
    split at h
    · injection h with h; injection h with _ h; rw [← h]; simp
    · cases h
theorem atomsP_lt {r r' : List Tok} {x : List (List UInt8)} (h : atomsP r = some (x, r')) : r'.length < r.length := by
  unfold atomsP at h
  obtain ⟨q, h1, h2⟩ := Option.bind_eq_some_iff.1 h
  obtain ⟨z, h3, h4⟩ := Option.bind_eq_some_iff.1 h2
  injection h4 with h4
  injection h4 with _ h4
  have e1 := takeP_lt h1
  have e2 := takeP_lt h3
  have e3 := (List.dropWhile_sublist (l := q.2) (p := isAt)).length_le
  rw [← h4]
  omega
theorem nmP_le {kd : Int} {r r' : List Tok} {x : List (List UInt8)} (h : nmP kd r = some (x, r')) : r'.length ≤ r.length := by
  unfold nmP at h
  split at h
  · exact Nat.le_of_lt (atomsP_lt h)
  · injection h with h; injection h with _ h; rw [h]; exact Nat.le_refl _
theorem scopeP_lt {r r' : List Tok} {s : Scp} (h : scopeP r = some (s, r')) : r'.length < r.length := by
  unfold scopeP at h
  obtain ⟨q0, h0, h⟩ := Option.bind_eq_some_iff.1 h
  obtain ⟨q1, h1, h⟩ := Option.bind_eq_some_iff.1 h
  obtain ⟨q2, h2, h⟩ := Option.bind_eq_some_iff.1 h
  obtain ⟨q3, h3, h⟩ := Option.bind_eq_some_iff.1 h
  obtain ⟨q4, h4, h⟩ := Option.bind_eq_some_iff.1 h
  obtain ⟨q5, h5, h⟩ := Option.bind_eq_some_iff.1 h
  injection h with h
  injection h with _ h
  have e0 := takeP_lt h0
  have e1 := takeP_lt h1
  have e2 := nmP_le h2
  have e3 := atomsP_lt h3
  have e4 := takeP_lt h4
  have e5 : q5.2 = q4.2 := by
    unfold bitP at h5
    obtain ⟨b, _, hb⟩ := Option.map_eq_some_iff.1 h5
    rw [← hb]
  rw [← h, e5]
  omega
/-- A scope's own step, out of its parts'. -/
theorem scope_step {l : List Tok} {a0 a1 a2 a3 a4 a5 : Nat} {b0 b1 b2 b3 b4 b5 b6 : Bool} {x0 x1 x4 : List UInt8} {nm ws : List (List UInt8)} {ev : Int}
    (h0 : Step (takeP 3) l a0 b0 x0 a1 b1) (h1 : Step (takeP 1) l a1 b1 x1 a2 b2) (h2 : Step (nmP (scFind (upper x1) 4)) l a2 b2 nm a3 b3) (h3 : Step atomsP l a3 b3 ws a4 b4) (h4 : Step (takeP 4) l a4 b4 x4 a5 b5) (h5 : Step (bitP ws) l a5 b5 ev a5 b6) :
    Step scopeP l a0 b0 ⟨scFind (upper x1) 4, nm, ev⟩ a5 b6 := by
  have h6 : Step (fun r => some ((⟨scFind (upper x1) 4, nm, ev⟩ : Scp), r)) l a5 b6 ⟨scFind (upper x1) 4, nm, ev⟩ a5 b6 := ⟨fun hb => ⟨hb, rfl⟩, fun e0 e1 => (by rw [e0] at e1; cases e1), h5.le⟩
  exact h0.bind (Q := fun _ r => (takeP 1 r).bind fun q1 => (nmP (scFind (upper q1.1) 4) q1.2).bind fun q2 => (atomsP q2.2).bind fun q3 => (takeP 4 q3.2).bind fun q4 => (bitP q3.1 q4.2).bind fun q5 => some ((⟨scFind (upper q1.1) 4, q2.1, q5.1⟩ : Scp), q5.2))
    (h1.bind (Q := fun x r => (nmP (scFind (upper x) 4) r).bind fun q2 => (atomsP q2.2).bind fun q3 => (takeP 4 q3.2).bind fun q4 => (bitP q3.1 q4.2).bind fun q5 => some ((⟨scFind (upper x) 4, q2.1, q5.1⟩ : Scp), q5.2))
      (h2.bind (Q := fun n r => (atomsP r).bind fun q3 => (takeP 4 q3.2).bind fun q4 => (bitP q3.1 q4.2).bind fun q5 => some ((⟨scFind (upper x1) 4, n, q5.1⟩ : Scp), q5.2))
        (h3.bind (Q := fun u r => (takeP 4 r).bind fun q4 => (bitP u q4.2).bind fun q5 => some ((⟨scFind (upper x1) 4, nm, q5.1⟩ : Scp), q5.2))
          (h4.bind (Q := fun _ r => (bitP ws r).bind fun q5 => some ((⟨scFind (upper x1) 4, nm, q5.1⟩ : Scp), q5.2))
            (h5.bind (Q := fun b r => some ((⟨scFind (upper x1) 4, nm, b⟩ : Scp), r)) h6)))))
theorem bit_step {l : List Tok} {a : Nat} {b : Bool} {ws : List (List UInt8)} (ha : a ≤ l.length) : Step (bitP ws) l a b ((bitsL (-1) 0 ws).getD 0) a (b || (bitsL (-1) 0 ws).isNone) where
  yes h := by
    rw [Bool.or_eq_false_iff] at h
    refine ⟨h.1, ?_⟩
    unfold bitP
    cases hb : bitsL (-1) 0 ws with
    | none => rw [hb] at h; simp at h
    | some v => rfl
  no h0 h1 := by
    rw [h0, Bool.false_or] at h1
    unfold bitP
    cases hb : bitsL (-1) 0 ws with
    | none => rfl
    | some v => rw [hb] at h1; simp at h1
  le := ha
theorem nm_skip {l : List Tok} {a : Nat} {b : Bool} {kd : Int} (ha : a ≤ l.length) (h : ¬ 3 ≤ kd) : Step (nmP kd) l a b [] a b :=
  ⟨fun hb => ⟨hb, by unfold nmP; rw [if_neg h]⟩, fun h0 h1 => (by rw [h0] at h1; cases h1), ha⟩
theorem nm_take {l : List Tok} {a a' : Nat} {b b' : Bool} {kd : Int} {xs : List (List UInt8)} (h : 3 ≤ kd) (hs : Step atomsP l a b xs a' b') : Step (nmP kd) l a b xs a' b' :=
  ⟨fun hb => ⟨(hs.yes hb).1, by unfold nmP; rw [if_pos h]; exact (hs.yes hb).2⟩, fun h0 h1 => (by unfold nmP; rw [if_pos h]; exact hs.no h0 h1), hs.le⟩

/-- How far the list of scopes is read. -/
structure Far (l : List Tok) (at_ : Nat) (bad : Bool) (scs : List Scp) : Prop where
  yes : bad = false → scopesP (l.length + 1) (l.drop 1) = (scopesP (l.length + 1 - scs.length) (l.drop at_)).map (scs ++ ·)
  no : bad = true → scopesP (l.length + 1) (l.drop 1) = none
  le : at_ ≤ l.length
  num : bad = false → scs.length < at_
theorem Far.start {l : List Tok} (h : 1 ≤ l.length) : Far l 1 false [] := ⟨fun _ => by simp, fun h => (by cases h), h, fun _ => by simp⟩
theorem Far.step {l : List Tok} {at_ at' : Nat} {bad' : Bool} {scs : List Scp} {s : Scp} (h : Far l at_ false scs) (hlt : at_ < l.length) (hs : Step scopeP l at_ false s at' bad') : Far l at' bad' (scs ++ [s]) ∧ (bad' = false → at_ < at') := by
  have hn := h.num rfl
  have hne : ¬ l.drop at_ = [] := by
    intro e
    have := congrArg List.length e
    simp at this
    omega
  have hgt : bad' = false → at_ < at' := by
    intro hb
    have h1 := scopeP_lt (hs.yes hb).2
    simp only [List.length_drop] at h1
    have := hs.le
    omega
  refine ⟨⟨fun hb => ?_, fun hb => ?_, hs.le, fun hb => ?_⟩, hgt⟩
  · rw [h.yes rfl, show l.length + 1 - scs.length = (l.length + 1 - (scs ++ [s]).length) + 1 by simp; omega]
    simp only [scopesP, if_neg hne, (hs.yes hb).2, Option.bind_some, Option.map_map]
    congr 1
    funext y
    simp
  · rw [h.yes rfl, show l.length + 1 - scs.length = (l.length + 1 - (scs ++ [s]).length) + 1 by simp; omega]
    simp only [scopesP, if_neg hne, hs.no rfl hb, Option.bind_none, Option.map_none]
  · have := hgt hb
    simp
    omega
theorem Far.done {l : List Tok} {scs : List Scp} (h : Far l l.length false scs) : scopesP (l.length + 1) (l.drop 1) = some scs := by
  have hn := h.num rfl
  rw [h.yes rfl, List.drop_length, show l.length + 1 - scs.length = (l.length - scs.length) + 1 by omega]
  simp [scopesP]

end Go.Proofs.Ythihjelcakenpaa

/-
  Chapter 6: what a reader of filters has in memory.
-/
namespace Go.Proofs.Ythihjelcakenpaa
open Go.RowKit

theorem blk_two6 {w : World} {b : Nat} {x0 x1 : Value} {e : TypeId} (h : w.heap[b]? = some (.cells #[x0, x1] e (0, 0))) :
    w.cell? ⟨b, 0, none⟩ = some x0 ∧ w.cell? ⟨b, 1, none⟩ = some x1 ∧ w.frozen? ⟨b, 0, none⟩ = false ∧ w.frozen? ⟨b, 1, none⟩ = false ∧
    (∀ v, (w.setCell ⟨b, 0, none⟩ v).cell? ⟨b, 0, none⟩ = some v) ∧ (∀ v v', ((w.setCell ⟨b, 0, none⟩ v).setCell ⟨b, 1, none⟩ v').cell? ⟨b, 1, none⟩ = some v') := by
  have h0 : w.cell? ⟨b, 0, none⟩ = some x0 := (Lib.cell_of_heap h 0).trans rfl
  have h1 : w.cell? ⟨b, 1, none⟩ = some x1 := (Lib.cell_of_heap h 1).trans rfl
  refine ⟨h0, h1, Lib.frozen_of_heap h 0, Lib.frozen_of_heap h 1, fun v => World.cell?_setCell_same w _ _ h0, fun v v' => World.cell?_setCell_same _ _ _ (u := x1) ?_⟩
  rw [World.cell?_setCell_other w _ _ _ (by intro hh; injection hh with _ h2; cases h2)]
  exact h1

end Go.Proofs.Ythihjelcakenpaa

