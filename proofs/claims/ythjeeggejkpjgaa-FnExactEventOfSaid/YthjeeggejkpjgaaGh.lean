/-
  Gh: FilA, FilB, FilC, FilD, FilE.
-/
import Derived.Test.YthjeeggejkpjgaaGb
import Derived.Test.YthjeeggejkpjgaaJoined
import Derived.Handy
import Derived.IntWalk

/-
  Chapter 6: scopes and filters as data; the laws' helpers on scopes.
-/
namespace Go.Proofs.Ythjeeggejkpjgaa
open Go.RowKit

structure Scp where
  kind : Int
  names : List (List UInt8)
  events : Int

structure Flt where
  on : Bool
  scopes : List Scp

def strsLf (l : List (List UInt8)) : Lf := .rows 9 1 l.length (l.map Lf.str)
def Scp.lf (s : Scp) : List Lf := [.int s.kind, strsLf s.names, .int s.events]

theorem lsRd_strs {W : World} : ∀ (l : List (List UInt8)) (xs : List Value), LsRd W (l.map Lf.str) xs ↔ xs = l.map sv
  | [], xs => Iff.rfl
  | a :: l, xs => by
    constructor
    · rintro ⟨v, us, rfl, h1, h2⟩
      rw [(lsRd_strs l us).1 h2, h1]; rfl
    · rintro rfl
      exact ⟨sv a, l.map sv, rfl, rfl, (lsRd_strs l _).2 rfl⟩
theorem lsIn_strs {W : World} : ∀ (l : List (List UInt8)) (xs : List Value) (fp : List Nat), LsIn W (l.map Lf.str) xs fp ↔ xs = l.map sv ∧ fp = []
  | [], xs, fp => Iff.rfl
  | a :: l, xs, fp => by
    constructor
    · rintro ⟨v, us, f1, f2, rfl, h1, h2, rfl⟩
      obtain ⟨e1, e2⟩ := (lsIn_strs l us f2).1 h2
      rw [e1, h1.1, h1.2, e2]; exact ⟨rfl, rfl⟩
    · rintro ⟨rfl, rfl⟩
      exact ⟨sv a, l.map sv, [], [], rfl, ⟨rfl, rfl⟩, (lsIn_strs l _ _).2 ⟨rfl, rfl⟩, rfl⟩
theorem strs_rd {W : World} {l : List (List UInt8)} {v : Value} : LfRd W (strsLf l) v ↔ Rd1 sv W v l := by
  constructor
  · rintro ⟨_, p, cap, hv, h⟩
    refine ⟨p, cap, hv, ?_⟩
    rcases h with h0 | ⟨b, off, hp, hlt, xs, hc, hx⟩
    · exact .inl (List.eq_nil_of_length_eq_zero h0)
    · refine .inr ⟨b, off, hp, hlt, fun i x hi => hc i (sv x) ?_⟩
      rw [(lsRd_strs l xs).1 hx, List.getElem?_map, hi]; rfl
  · intro h
    obtain ⟨p, cap, hv, hc⟩ := h.ex
    refine ⟨by simp, p, cap, hv, ?_⟩
    rcases hc with h0 | ⟨b, off, hp, hlt, hc⟩
    · exact .inl (by rw [h0]; rfl)
    · refine .inr ⟨b, off, hp, hlt, l.map sv, fun j u hu => ?_, (lsRd_strs l _).2 rfl⟩
      rw [List.getElem?_map] at hu
      cases hl : l[j]? with
      | none => rw [hl] at hu; cases hu
      | some x => rw [hl] at hu; injection hu with hu; rw [← hu]; exact hc j x hl
theorem strs_in {W : World} {l : List (List UInt8)} {v : Value} {fp : List Nat} : LfIn W (strsLf l) v fp ↔ W.ownsRow 0 9 1 v l.length (l.map sv) ∧ fp = v.ownBlock.toList := by
  constructor
  · rintro ⟨_, xs, fq, ho, hx, rfl⟩
    obtain ⟨e1, e2⟩ := (lsIn_strs l xs fq).1 hx
    rw [e1] at ho
    exact ⟨ho, by rw [e2, List.append_nil]⟩
  · rintro ⟨ho, rfl⟩
    exact ⟨by simp, l.map sv, [], ho, (lsIn_strs l _ _).2 ⟨rfl, rfl⟩, by rw [List.append_nil]⟩
theorem own_base {W : World} {B m n : Nat} {e : TypeId} {v : Value} {xs : List Value} (h : W.ownsRow B e m v n xs) : W.ownsRow 0 e m v n xs := ⟨h.1, h.2.imp id fun ⟨g, cap, cur, h1, _, h3⟩ => ⟨g, cap, cur, h1, Nat.zero_le _, h3⟩⟩
theorem own_rebase {W : World} {B m n : Nat} {e : TypeId} {v : Value} {xs : List Value} (h : W.ownsRow 0 e m v n xs) (hb : ∀ k, v.ownBlock = some k → B ≤ k) : W.ownsRow B e m v n xs := ⟨h.1, h.2.imp id fun ⟨g, cap, cur, h1, _, h3⟩ => ⟨g, cap, cur, h1, hb g (by rw [h1]; rfl), h3⟩⟩
theorem tree_strs {W : World} {B : Nat} {l : List (List UInt8)} {v : Value} (h : W.ownsRow B 9 1 v l.length (l.map sv)) : Tree W B (strsLf l) v v.ownBlock.toList :=
  ⟨strs_in.2 ⟨own_base h, rfl⟩, by cases v.ownBlock <;> simp, fun k hk => (h.lt k (by simpa using hk)).1⟩

/-- A scope's value reads as it. -/
def ScpRd (W : World) (s : Scp) (v : Value) : Prop := ∃ vn, v = .agg #[.int .i64 s.kind, vn, .int .i64 s.events] ∧ Rd1 sv W vn s.names
theorem ScpRd.ls {W : World} {s : Scp} {vs : List Value} : LsRd W s.lf vs ↔ ∃ vn, vs = [.int .i64 s.kind, vn, .int .i64 s.events] ∧ Rd1 sv W vn s.names := by
  constructor
  · rintro ⟨a, r1, rfl, h1, b, r2, rfl, h2, c, r3, rfl, h3, rfl⟩
    exact ⟨b, by rw [h1, h3], strs_rd.1 h2⟩
  · rintro ⟨vn, rfl, h⟩
    exact ⟨_, _, rfl, rfl, _, _, rfl, strs_rd.2 h, _, _, rfl, rfl, rfl⟩

/-- A cell is set in a block whose cells are known. -/
theorem set_heap {W : World} {b j : Nat} {cs : Array Value} {T : TypeId} {u : Value} (h : W.heap[b]? = some (.cells cs T (0, 0))) : (W.setCell ⟨b, j, none⟩ u).heap[b]? = some (.cells (cs.setIfInBounds j u) T (0, 0)) := by
  simp [World.setCell, Array.getElem?_modify, h]
theorem set_other {W : World} {b b' j : Nat} {u : Value} (h : b' ≠ b) : (W.setCell ⟨b, j, none⟩ u).heap[b']? = W.heap[b']? := Below.heap_setCell W ⟨b, j, none⟩ u b' h

theorem own_put2 {w : World} {B n s b j : Nat} {e : TypeId} {v x : Value} {xs : List Value} (h : w.ownsRow B e s v n xs) (hb : ∀ k, v.ownBlock = some k → k ≠ b) : (w.setCell ⟨b, j, none⟩ x).ownsRow B e s v n xs :=
  own_frame h (fun k hk => set_other (hb k hk))

end Go.Proofs.Ythjeeggejkpjgaa

/-
  Chapter 6: the laws' helpers on slices of scopes.
-/
namespace Go.Proofs.Ythjeeggejkpjgaa
open Go.RowKit

theorem scp_in {W : World} {B : Nat} {s : Scp} {v : Value} (h : W.ownsRow B 9 1 v s.names.length (s.names.map sv)) : LsIn W s.lf [.int .i64 s.kind, v, .int .i64 s.events] v.ownBlock.toList :=
  ⟨_, _, [], v.ownBlock.toList, rfl, ⟨rfl, rfl⟩, ⟨v, _, v.ownBlock.toList, [], rfl, strs_in.2 ⟨own_base h, rfl⟩, ⟨_, _, [], [], rfl, ⟨rfl, rfl⟩, ⟨rfl, rfl⟩, rfl⟩, by simp⟩, rfl⟩

end Go.Proofs.Ythjeeggejkpjgaa

/-
  Chapter 6: the laws' marks on slices of scopes; their sizes.
-/
namespace Go.Proofs.Ythjeeggejkpjgaa
open Go.RowKit

def scw : List Scp → Nat
  | [] => 0
  | s :: r => (s.names.length + szl s.names) + scw r
theorem scw_snoc : ∀ (l : List Scp) (s : Scp), scw (l ++ [s]) = scw l + (s.names.length + szl s.names)
  | [], s => by simp [scw]
  | a :: l, s => by simp [scw, scw_snoc l s]; omega
theorem scw_take (l : List Scp) (k : Nat) : scw (l.take k) ≤ scw l := by
  have h : ∀ a b : List Scp, scw (a ++ b) = scw a + scw b := by
    intro a
    induction a with
    | nil => intro b; simp [scw]
    | cons x a ih => intro b; simp [scw, ih b]; omega
  have := h (l.take k) (l.drop k)
  rw [List.take_append_drop] at this
  omega
theorem take_sc {l : List Scp} {k : Nat} {s : Scp} (h : l[k]? = some s) : l.take (k + 1) = l.take k ++ [s] := by
  obtain ⟨h1, h2⟩ := List.getElem?_eq_some_iff.1 h
  rw [List.take_succ_eq_append_getElem h1, h2]
def scR (left : Nat) (l : List Scp) : Int := if l.length + scw l ≤ left then ((left - (l.length + scw l) : Nat) : Int) else -1
theorem scR_yes {left : Nat} {l : List Scp} (h : l.length + scw l ≤ left) : scR left l = ((left - (l.length + scw l) : Nat) : Int) := if_pos h
theorem scR_no {left : Nat} {l : List Scp} (h : ¬ l.length + scw l ≤ left) : scR left l = -1 := if_neg h

def mkScp (s : Scp) (k : Nat) : Scp := ⟨(k : Int), marks (k + 1) s.names.length, ((k + 1 + s.names.length : Nat) : Int)⟩
def mkEnd : List Scp → Nat → Nat
  | [], k => k
  | s :: r, k => mkEnd r (k + 2 + s.names.length)
def mkScps : List Scp → Nat → List Scp
  | [], _ => []
  | s :: r, k => mkScp s k :: mkScps r (k + 2 + s.names.length)
theorem mkEnd_snoc : ∀ (l : List Scp) (s : Scp) (k : Nat), mkEnd (l ++ [s]) k = mkEnd l k + 2 + s.names.length
  | [], s, k => rfl
  | a :: l, s, k => by simp [mkEnd, mkEnd_snoc l s]
theorem mkScps_snoc : ∀ (l : List Scp) (s : Scp) (k : Nat), mkScps (l ++ [s]) k = mkScps l k ++ [mkScp s (mkEnd l k)]
  | [], s, k => rfl
  | a :: l, s, k => by simp [mkScps, mkEnd, mkScps_snoc l s]
theorem mkScps_length : ∀ (l : List Scp) (k : Nat), (mkScps l k).length = l.length
  | [], k => rfl
  | a :: l, k => by simp [mkScps, mkScps_length l]
theorem mkEnd_le : ∀ (l : List Scp) (k : Nat), k ≤ mkEnd l k
  | [], k => Nat.le_refl _
  | a :: l, k => by have := mkEnd_le l (k + 2 + a.names.length); simp only [mkEnd]; omega
theorem mkEnd_take (l : List Scp) (k : Nat) : ∀ j, mkEnd (l.take j) k ≤ mkEnd l k := by
  intro j
  have h : ∀ (a b : List Scp) (k : Nat), mkEnd (a ++ b) k = mkEnd b (mkEnd a k) := by
    intro a
    induction a with
    | nil => intro b k; rfl
    | cons x a ih => intro b k; simp [mkEnd, ih]
  have h2 := h (l.take j) (l.drop j) k
  rw [List.take_append_drop] at h2
  rw [h2]
  exact mkEnd_le _ _
theorem mkScps_get : ∀ (l : List Scp) (k j : Nat) (s : Scp), l[j]? = some s → (mkScps l k)[j]? = some (mkScp s (mkEnd (l.take j) k))
  | [], k, j, s, h => by simp at h
  | a :: l, k, 0, s, h => by simp only [List.getElem?_cons_zero, Option.some.injEq] at h; subst h; rfl
  | a :: l, k, j + 1, s, h => by simp only [List.getElem?_cons_succ] at h; simpa [mkScps, mkEnd] using mkScps_get l (k + 2 + a.names.length) j s h

end Go.Proofs.Ythjeeggejkpjgaa

/-
  Chapter 6: the laws' marks on slices of scopes, written and held.
-/
namespace Go.Proofs.Ythjeeggejkpjgaa
open Go.RowKit

theorem GrownIn.of_row {W W' : World} {row : Option Nat} (h : W.grownBy W' row) : GrownIn W W' row.toList :=
  ⟨h.os, h.tape, h.output, h.size, fun k hk hn => h.block k hk (fun e => hn (by rw [← e]; simp))⟩
theorem GrownIn.refl (W : World) (fp : List Nat) : GrownIn W W fp := ⟨rfl, rfl, rfl, Nat.le_refl _, fun _ _ _ => rfl⟩
theorem LsIn.apart {W W' : World} {xs : List Lf} {vs : List Value} {fp fq : List Nat} (h : LsIn W xs vs fp) (hg : GrownIn W W' fq) (hd : ∀ k ∈ fp, k ∉ fq) : LsIn W' xs vs fp :=
  h.frame xs vs fp (fun k hk => hg.block k (LsIn.lt xs vs fp h k hk) (hd k hk))
theorem own_apart {W W' : World} {B m n : Nat} {e : TypeId} {v : Value} {xs : List Value} {fq : List Nat} (h : W.ownsRow B e m v n xs) (hg : GrownIn W W' fq) (hd : ∀ k, v.ownBlock = some k → k ∉ fq) : W'.ownsRow B e m v n xs :=
  own_frame h (fun k hk => hg.block k (h.lt k hk).2 (hd k hk))

theorem scp_of {W : World} {s : Scp} {vs : List Value} {fp : List Nat} (h : LsIn W s.lf vs fp) : ∃ vn, vs = [.int .i64 s.kind, vn, .int .i64 s.events] ∧ W.ownsRow 0 9 1 vn s.names.length (s.names.map sv) ∧ fp = vn.ownBlock.toList := by
  obtain ⟨a, r1, f1, g1, rfl, h1, ⟨b, r2, f2, g2, rfl, h2, ⟨c, r3, f3, g3, rfl, h3, h4, rfl⟩, rfl⟩, rfl⟩ := h
  obtain ⟨e1, e2⟩ := strs_in.1 h2
  obtain ⟨rfl, rfl⟩ := h4
  exact ⟨b, by rw [h1.1, h3.1], e1, by rw [h1.2, h3.2, e2]; simp⟩
theorem scp_mk {W : World} {s : Scp} {vn : Value} {fp : List Nat} (h : W.ownsRow 0 9 1 vn s.names.length (s.names.map sv)) (hf : fp = vn.ownBlock.toList) : LsIn W s.lf [.int .i64 s.kind, vn, .int .i64 s.events] fp := hf ▸ scp_in h

end Go.Proofs.Ythjeeggejkpjgaa

/-
  Chapter 6: the laws' helpers on filters.
-/
namespace Go.Proofs.Ythjeeggejkpjgaa
open Go.RowKit

end Go.Proofs.Ythjeeggejkpjgaa

