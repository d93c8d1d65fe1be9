/-
  Chapter 6, the program: one scope is read.
-/
import Derived.Test.YthihjelcakenpaaDoorFipH
import Derived.Test.YthihjelcakenpaaDoorFilX
namespace Go.Proofs.YthihjelcakenpaaDoor
open Go.RowKit

def ScPost (U : Option (Scp × List Tok)) (w0 w : World) (e : Ending) (w' : World) : Prop := match U with
  | some (s, r) => ∃ vn vr, e = .returned (.tuple #[.agg #[.int .i64 s.kind, vn, .int .i64 s.events], vr, .bool true]) ∧ w'.ownsRow w.heap.size 9 1 vn s.names.length (s.names.map sv) ∧ Rd 2 tokc w0 vr r ∧ CapOk vr ∧ Below w.heap.size w w'
  | none => e = .returned (.tuple #[.agg #[.int .i64 0, .slice none 0 0, .int .i64 0], .slice none 0 0, .bool false]) ∧ Below w.heap.size w w'
theorem ScPost.none_ {w0 w w' : World} {e : Ending} (h : e = .returned (.tuple #[.agg #[.int .i64 0, .slice none 0 0, .int .i64 0], .slice none 0 0, .bool false]) ∧ Below w.heap.size w w') : ScPost none w0 w e w' := h
theorem ScPost.some_ {s : Scp} {r : List Tok} {w0 w w' : World} {e : Ending} (h : ∃ vn vr, e = .returned (.tuple #[.agg #[.int .i64 s.kind, vn, .int .i64 s.events], vr, .bool true]) ∧ w'.ownsRow w.heap.size 9 1 vn s.names.length (s.names.map sv) ∧ Rd 2 tokc w0 vr r ∧ CapOk vr ∧ Below w.heap.size w w') : ScPost (some (s, r)) w0 w e w' := h

/-- A scope that is being read, in its own cell, and the result's. -/
structure ScF (w : World) (sB : Nat) (kd : Int) (vn : Value) (nm : List (List UInt8)) (ev : Int) (W : World) : Prop where
  blks : W.heap[sB]? = some (.cells #[.int .i64 kd, vn, .int .i64 ev] 55 (0, 0))
  blkr : W.heap[w.heap.size]? = some (.cells #[.int .i64 0, .slice none 0 0, .int .i64 0] 55 (0, 0))
  nam : W.ownsRow w.heap.size 9 1 vn nm.length (nm.map sv)
  below : Below w.heap.size w W
  lt : w.heap.size < sB
  apart : ∀ k, vn.ownBlock = some k → k ≠ sB ∧ k ≠ w.heap.size
section
variable {w W W' : World} {sB : Nat} {kd ev : Int} {vn : Value} {nm : List (List UInt8)}
theorem ScF.slt (h : ScF w sB kd vn nm ev W) : sB < W.heap.size := (Array.getElem?_eq_some_iff.1 h.blks).1
theorem ScF.call (h : ScF w sB kd vn nm ev W) (hb : Below W.heap.size W W') : ScF w sB kd vn nm ev W' where
  blks := (hb.block sB h.slt).trans h.blks
  blkr := (hb.block w.heap.size (by have := h.slt; have := h.lt; omega)).trans h.blkr
  nam := ownsRow_below h.nam hb
  below := h.below.trans (hb.mono h.below.size)
  lt := h.lt
  apart := h.apart
theorem ScF.drew (h : ScF w sB kd vn nm ev W) : ScF w sB kd vn nm ev W.drew := h.call ((Below.refl _ _).drew)
theorem ScF.cells (h : ScF w sB kd vn nm ev W) : W.cell? ⟨sB, 0, none⟩ = some (.int .i64 kd) ∧ W.cell? ⟨sB, 1, none⟩ = some vn ∧ W.cell? ⟨sB, 2, none⟩ = some (.int .i64 ev) := blk_three h.blks
theorem ScF.free (h : ScF w sB kd vn nm ev W) (j : Nat) : W.frozen? ⟨sB, j, none⟩ = false := Lib.frozen_of_heap h.blks j
theorem ScF.setN {vn' : Value} {nm' : List (List UInt8)} {B : Nat} (h : ScF w sB kd vn nm ev W) (hn : W.ownsRow B 9 1 vn' nm'.length (nm'.map sv)) (hB : sB < B) : ScF w sB kd vn' nm' ev (W.setCell ⟨sB, 1, none⟩ vn') where
  blks := by rw [set_heap h.blks]; rfl
  blkr := (set_other (by have := h.lt; omega)).trans h.blkr
  nam := own_put2 (own_lower hn (by have := h.lt; omega)) (fun k hk => by have := (hn.lt k hk).1; omega)
  below := h.below.setCell (p := ⟨sB, 1, none⟩) (by have := h.lt; show w.heap.size ≤ sB; omega) _
  lt := h.lt
  apart := fun k hk => by have h1 := (hn.lt k hk).1; have h2 := h.lt; exact ⟨by omega, by omega⟩
theorem ScF.clrN (h : ScF w sB kd vn nm ev W) : ScF w sB kd (.slice none 0 0) [] ev (W.setCell ⟨sB, 1, none⟩ (.slice none 0 0)) where
  blks := by rw [set_heap h.blks]; rfl
  blkr := (set_other (by have := h.lt; omega)).trans h.blkr
  nam := World.ownsRow_nil _ _ _ _
  below := h.below.setCell (p := ⟨sB, 1, none⟩) (by have := h.lt; show w.heap.size ≤ sB; omega) _
  lt := h.lt
  apart := fun k hk => by simp [Value.ownBlock] at hk
theorem ScF.setE (h : ScF w sB kd vn nm ev W) (ev' : Int) : ScF w sB kd vn nm ev' (W.setCell ⟨sB, 2, none⟩ (.int .i64 ev')) where
  blks := by rw [set_heap h.blks]; rfl
  blkr := (set_other (by have := h.lt; omega)).trans h.blkr
  nam := own_put2 h.nam (fun k hk => (h.apart k hk).1)
  below := h.below.setCell (p := ⟨sB, 2, none⟩) (by have := h.lt; show w.heap.size ≤ sB; omega) _
  lt := h.lt
  apart := h.apart
/-- The scope is handed back: the result's cell is set. -/
theorem ScF.res (h : ScF w sB kd vn nm ev W) : (((W.setCell ⟨w.heap.size, 0, none⟩ (.int .i64 kd)).setCell ⟨w.heap.size, 1, none⟩ vn).setCell ⟨w.heap.size, 2, none⟩ (.int .i64 ev)).ownsRow w.heap.size 9 1 vn nm.length (nm.map sv) ∧ Below w.heap.size w (((W.setCell ⟨w.heap.size, 0, none⟩ (.int .i64 kd)).setCell ⟨w.heap.size, 1, none⟩ vn).setCell ⟨w.heap.size, 2, none⟩ (.int .i64 ev)) :=
  ⟨own_put2 (own_put2 (own_put2 h.nam (fun k hk => (h.apart k hk).2)) (fun k hk => (h.apart k hk).2)) (fun k hk => (h.apart k hk).2), ((h.below.setCell (p := ⟨w.heap.size, 0, none⟩) (Nat.le_refl _) _).setCell (p := ⟨w.heap.size, 1, none⟩) (Nat.le_refl _) _).setCell (p := ⟨w.heap.size, 2, none⟩) (Nat.le_refl _) _⟩
theorem ScF.zero (h : ScF w sB kd vn nm ev W) (a b c : Value) : Below w.heap.size w (((W.setCell ⟨w.heap.size, 0, none⟩ a).setCell ⟨w.heap.size, 1, none⟩ b).setCell ⟨w.heap.size, 2, none⟩ c) :=
  ((h.below.setCell (p := ⟨w.heap.size, 0, none⟩) (Nat.le_refl _) _).setCell (p := ⟨w.heap.size, 1, none⟩) (Nat.le_refl _) _).setCell (p := ⟨w.heap.size, 2, none⟩) (Nat.le_refl _) _
end

/-- How a group of names was read, or not. -/
def GrS (U : Option (List (List UInt8) × List Tok)) (w0 w : World) (sB : Nat) (kd : Int) (u6 u7 : Value) (W : World) : Prop := match U with
  | some (nm, r) => ∃ vn, u7 = .bool true ∧ Rd 2 tokc w0 u6 r ∧ CapOk u6 ∧ ScF w sB kd vn nm 0 W
  | none => u7 = .bool false ∧ ScF w sB kd (.slice none 0 0) [] 0 W

def reachV (kd : Int) (vn : Value) : Value := if kd = 1 then .iface 118 (.agg #[]) else if kd = 2 then .iface 119 (.agg #[]) else if kd = 3 then .iface 99 (.agg #[vn]) else if kd = 4 then .iface 102 (.agg #[vn]) else .nilIface
theorem reachV_any (kd : Int) (vn : Value) (ev : Int) (w : World) (hv : ∃ p n c, vn = .slice p n c) (h0 : 0 ≤ kd) (h4 : kd ≤ 4) :
    Calls Tryd.prog 63 #[.agg #[.int .i64 kd, vn, .int .i64 ev]] w fun e w' => e = .returned (reachV kd vn) ∧ Below w.heap.size w w' := by
  have h : kd = 0 ∨ kd = 1 ∨ kd = 2 ∨ kd = 3 ∨ kd = 4 := by omega
  rcases h with rfl | rfl | rfl | rfl | rfl
  · exact reach_0 0 vn ev w hv rfl rfl rfl rfl
  · exact reach_1 vn ev w hv
  · exact reach_2 vn ev w hv
  · exact reach_3 vn ev w hv
  · exact reach_4 vn ev w hv

theorem scopeI_short {l : List Tok} (h : l.length < 2) : scopeI l = none := by
  match l, h with
  | [], _ => rfl
  | [a], _ =>
    unfold scopeI
    simp only [takeP]
    split <;> rfl
theorem scopeI_open {a : Tok} {r : List Tok} (h : ¬ (a.kind = 3 ∧ a.text = [])) : scopeI (a :: r) = none := by
  unfold scopeI
  have e3 : takeP 3 (a :: r) = none := by simp only [takeP]; rw [if_neg (by intro e; exact h ⟨e.1, by simpa using e.2⟩)]
  rw [e3]; rfl
theorem scopeI_two {a t : Tok} {r : List Tok} (h : a.kind = 3 ∧ a.text = []) : scopeI (a :: t :: r) = (nmP (kindN t) r).bind fun q2 => (atomsP q2.2).bind fun q3 => (takeP 4 q3.2).bind fun q4 => some (⟨kindN t, q2.1, eN q3.1⟩, q4.2) := by
  unfold scopeI
  have e0 : takeP 3 (a :: t :: r) = some (a.text, t :: r) := by simp [takeP, h.1, h.2]
  rw [e0]; rfl

/-- What scopeFrom owes. -/
def ScContr : Prop := ∀ (v : Value) (l : List Tok) (w0 w : World), Rd 2 tokc w0 v l → Below w0.heap.size w0 w → CapOk v → l.length ≤ 1048576 → (∀ t ∈ l, t.text.length ≤ 1048576) → Ew w →
  Calls Tryd.prog 32 #[v] w (ScPost (scopeI l) w0 w)

end Go.Proofs.YthihjelcakenpaaDoor
