/-
  Sd: Lg Joined Gh Gg LgB (what the claim needs of them).
-/
import Derived.Test.YtbfgdbpfecffcaaGreatDoorRows
import Derived.WalkKit
import Derived.WalkSpells
import Derived.WalkLawsBesides
import Derived.Laws.IdiomStrings
import Derived.Lib.Hide
import Derived.Deep.AppendLies
import Derived.OrdersHeld
import Derived.Lib.ItoaNum
import Derived.Lib.ItoaMem
import Derived.Lib.AppendStr
import Derived.Lib.ItoaLen
import Derived.Lib.Strings
import Derived.Lib.Bytealg
import Derived.Lib.OthersKept
import Derived.Laws.RangeAny
import Derived.Laws.BitsAllLaws
import Derived.Laws.BitsLemmas
import Derived.IntWalk
import Derived.Test.YtbfgdbpfecffcaaGreatDoorProg
import Derived.Handy
import Derived.Lib.Join
import Derived.Deep.Strs
import Derived.Test.YtbfgdbpfecffcaaGreatDoorSb
import Derived.Test.YtbfgdbpfecffcaaGreatDoorSc

namespace Go.Proofs.YtbfgdbpfecffcaaGreatDoor
open Go.RowKit

mutual
def cntLf : Lf → Nat
  | .int _ => 1
  | .bool _ => 1
  | .str _ => 1
  | .rows _ _ _ flat => cntLs flat
def cntLs : List Lf → Nat
  | [] => 0
  | x :: xs => cntLf x + cntLs xs
end
theorem cntLs_append : ∀ (a b : List Lf), cntLs (a ++ b) = cntLs a + cntLs b
  | [], b => by simp [cntLs]
  | x :: a, b => by simp [cntLs, cntLs_append a b]; omega
mutual
theorem markLf_cnt : ∀ (x : Lf) (k : Nat), (markLf x k).2 = k + cntLf x
  | .int _, k => rfl
  | .bool _, k => rfl
  | .str _, k => rfl
  | .rows _ _ _ flat, k => by simp only [markLf, cntLf]; exact markLs_cnt flat k
theorem markLs_cnt : ∀ (xs : List Lf) (k : Nat), (markLs xs k).2 = k + cntLs xs
  | [], k => rfl
  | x :: xs, k => by simp only [markLs, cntLs]; rw [markLs_cnt xs, markLf_cnt x]; omega
end
theorem szLf_int (n : Int) : szLf (.int n) = 0 := rfl
theorem szLf_bool (b : Bool) : szLf (.bool b) = 0 := rfl
theorem szLf_str (l : List UInt8) : szLf (.str l) = l.length := rfl
theorem cntLf_int (n : Int) : cntLf (.int n) = 1 := rfl
theorem cntLf_bool (b : Bool) : cntLf (.bool b) = 1 := rfl
theorem cntLf_str (l : List UInt8) : cntLf (.str l) = 1 := rfl
theorem markLf_int (n : Int) (k : Nat) : markLf (.int n) k = (.int (k : Int), k + 1) := rfl
theorem markLf_bool (b : Bool) (k : Nat) : markLf (.bool b) k = (.bool (k % 3 == 0), k + 1) := rfl
theorem markLf_str (l : List UInt8) (k : Nat) : markLf (.str l) k = (.str (markB k), k + 1) := rfl

mutual
/-- Numbers and lengths are such as a machine holds. -/
def LfBnd : Lf → Prop
  | .int n => in64 n
  | .bool _ => True
  | .str l => l.length ≤ 9223372036854775807
  | .rows _ _ n flat => n ≤ 9223372036854775807 ∧ LsBnd flat
def LsBnd : List Lf → Prop
  | [] => True
  | x :: xs => LfBnd x ∧ LsBnd xs
end
theorem LsBnd.append : ∀ {a b : List Lf}, LsBnd (a ++ b) ↔ LsBnd a ∧ LsBnd b
  | [], _ => ⟨fun h => ⟨trivial, h⟩, fun h => h.2⟩
  | _ :: _, _ => ⟨fun h => ⟨⟨h.1, (LsBnd.append.1 h.2).1⟩, (LsBnd.append.1 h.2).2⟩, fun h => ⟨h.1.1, LsBnd.append.2 ⟨h.1.2, h.2⟩⟩⟩
theorem LsBnd.flat {α : Type} {enc : α → List Lf} : ∀ {l : List α}, LsBnd (l.flatMap enc) → ∀ x ∈ l, LsBnd (enc x)
  | [], _, x, h => by cases h
  | a :: l, hb, x, h => by
    rw [List.flatMap_cons] at hb
    obtain ⟨h1, h2⟩ := LsBnd.append.1 hb
    rcases List.mem_cons.1 h with rfl | h
    · exact h1
    · exact LsBnd.flat h2 x h

theorem markLs_app (a b : List Lf) (k : Nat) : (markLs (a ++ b) k).1 = (markLs a k).1 ++ (markLs b (k + cntLs a)).1 := by rw [markLs_append, markLs_cnt]

mutual
/-- Rows are as long as they say, elements are not too wide. -/
def LfFit : Lf → Prop
  | .rows _ m n flat => m ≤ 32 ∧ flat.length = n * m ∧ LsFit flat
  | _ => True
def LsFit : List Lf → Prop
  | [] => True
  | x :: xs => LfFit x ∧ LsFit xs
end
theorem LsFit.append : ∀ {a b : List Lf}, LsFit a → LsFit b → LsFit (a ++ b)
  | [], _, _, h => h
  | _ :: _, _, h, h2 => ⟨h.1, LsFit.append h.2 h2⟩
theorem LsFit.flat {α : Type} {enc : α → List Lf} (h : ∀ x, LsFit (enc x)) : ∀ l : List α, LsFit (l.flatMap enc)
  | [] => trivial
  | a :: l => by rw [List.flatMap_cons]; exact LsFit.append (h a) (LsFit.flat h l)
mutual
theorem cntLf_le : ∀ (x : Lf), LfFit x → cntLf x ≤ 1 + 32 * szLf x
  | .int _, _ => by simp [cntLf, szLf]
  | .bool _, _ => by simp [cntLf, szLf]
  | .str _, _ => by simp only [cntLf, szLf]; omega
  | .rows _ m n flat, h => by
    obtain ⟨h1, h2, h3⟩ := h
    have := cntLs_le flat h3
    simp only [cntLf, szLf]
    have h4 : n * m ≤ n * 32 := Nat.mul_le_mul_left n h1
    omega
theorem cntLs_le : ∀ (xs : List Lf), LsFit xs → cntLs xs ≤ xs.length + 32 * szLs xs
  | [], _ => by simp [cntLs, szLs]
  | x :: xs, h => by
    have h1 := cntLf_le x h.1
    have h2 := cntLs_le xs h.2
    simp only [cntLs, szLs, List.length_cons]
    omega
end
theorem cntRow_le {e : TypeId} {m n : Nat} {flat : List Lf} (h : LfFit (.rows e m n flat)) : cntLf (.rows e m n flat) ≤ 32 * szLf (.rows e m n flat) := by
  obtain ⟨h1, h2, h3⟩ := h
  have := cntLs_le flat h3
  simp only [cntLf, szLf]
  have h4 : n * m ≤ n * 32 := Nat.mul_le_mul_left n h1
  omega

theorem szLs_flat_take {α : Type} (enc : α → List Lf) (l : List α) (j : Nat) : szLs ((l.take j).flatMap enc) ≤ szLs (l.flatMap enc) := by
  have : l.flatMap enc = (l.take j).flatMap enc ++ (l.drop j).flatMap enc := by rw [← List.flatMap_append, List.take_append_drop]
  rw [this, szLs_append]
  omega
theorem cntLs_flat_take {α : Type} (enc : α → List Lf) (l : List α) (j : Nat) : cntLs ((l.take j).flatMap enc) ≤ cntLs (l.flatMap enc) := by
  have : l.flatMap enc = (l.take j).flatMap enc ++ (l.drop j).flatMap enc := by rw [← List.flatMap_append, List.take_append_drop]
  rw [this, cntLs_append]
  omega
theorem flat_take_succ {α : Type} (enc : α → List Lf) {l : List α} {j : Nat} {x : α} (h : l[j]? = some x) : (l.take (j + 1)).flatMap enc = (l.take j).flatMap enc ++ enc x := by
  obtain ⟨h1, h2⟩ := List.getElem?_eq_some_iff.1 h
  rw [List.take_succ_eq_append_getElem h1, h2, List.flatMap_append, List.flatMap_singleton]
theorem szLs_mem {α : Type} (enc : α → List Lf) {l : List α} {x : α} (h : x ∈ l) : szLs (enc x) ≤ szLs (l.flatMap enc) := by
  induction l with
  | nil => cases h
  | cons a l ih =>
    rw [List.flatMap_cons, szLs_append]
    rcases List.mem_cons.1 h with rfl | h
    · omega
    · have := ih h; omega
theorem cntLs_mem {α : Type} (enc : α → List Lf) {l : List α} {x : α} (h : x ∈ l) : cntLs (enc x) ≤ cntLs (l.flatMap enc) := by
  induction l with
  | nil => cases h
  | cons a l ih =>
    rw [List.flatMap_cons, cntLs_append]
    rcases List.mem_cons.1 h with rfl | h
    · omega
    · have := ih h; omega

/-- The elements of a row, marked one behind the other. -/
def mkEls {α : Type} (enc : α → List Lf) : List α → Nat → List (List Lf)
  | [], _ => []
  | a :: l, k => (markLs (enc a) k).1 :: mkEls enc l (k + cntLs (enc a))
theorem mkEls_length {α : Type} (enc : α → List Lf) : ∀ (l : List α) (k : Nat), (mkEls enc l k).length = l.length
  | [], _ => rfl
  | a :: l, k => by simp [mkEls, mkEls_length enc l]
theorem mkEls_flat {α : Type} (enc : α → List Lf) : ∀ (l : List α) (k : Nat), (mkEls enc l k).flatMap id = (markLs (l.flatMap enc) k).1
  | [], _ => by simp [mkEls, markLs]
  | a :: l, k => by rw [List.flatMap_cons, markLs_app]; simp only [mkEls, List.flatMap_cons, mkEls_flat enc l, id]
theorem mkEls_get {α : Type} (enc : α → List Lf) : ∀ (l : List α) (k j : Nat) (x : α), l[j]? = some x → (mkEls enc l k)[j]? = some (markLs (enc x) (k + cntLs ((l.take j).flatMap enc))).1
  | [], k, j, x, h => by simp at h
  | a :: l, k, 0, x, h => by simp only [List.getElem?_cons_zero, Option.some.injEq] at h; subst h; simp [mkEls, cntLs]
  | a :: l, k, j + 1, x, h => by
    simp only [List.getElem?_cons_succ] at h
    have := mkEls_get enc l (k + cntLs (enc a)) j x h
    simp only [mkEls, List.getElem?_cons_succ, List.take_succ_cons, List.flatMap_cons, cntLs_append]
    rw [this, Nat.add_assoc]

/-- Element i of a slice of marked records that is read. -/
theorem rows_at_mark {W : World} {α : Type} {enc : α → List Lf} {e : TypeId} {m : Nat} (hm : ∀ x, (enc x).length = m) {l : List α} {v : Value} {k : Nat} (h : LfRd W (markLf (.rows e m l.length (l.flatMap enc)) k).1 v) :
    ∃ p cap, v = .slice p l.length cap ∧ (l = [] ∨ ∃ b off, p = some ⟨b, off, none⟩ ∧ b < W.heap.size ∧ ∀ i x, l[i]? = some x → ∃ us, LsRd W (markLs (enc x) (k + cntLs ((l.take i).flatMap enc))).1 us ∧ ∀ j u, us[j]? = some u → W.cell? ⟨b, off + i * m + j, none⟩ = some u) := by
  simp only [markLf] at h
  rw [← mkEls_flat] at h
  obtain ⟨hl, p, cap, hv, h⟩ := h
  refine ⟨p, cap, hv, ?_⟩
  rcases h with h0 | ⟨b, off, hp, hlt, xs, hc, hx⟩
  · exact .inl (List.eq_nil_of_length_eq_zero h0)
  · refine .inr ⟨b, off, hp, hlt, fun i x hi => ?_⟩
    have hlen : ∀ y ∈ mkEls enc l k, y.length = m := by
      intro y hy
      obtain ⟨i, hi, rfl⟩ := List.getElem_of_mem hy
      have hi2 : i < l.length := by rwa [mkEls_length] at hi
      have := mkEls_get enc l k i l[i] (List.getElem?_eq_getElem hi2)
      rw [List.getElem?_eq_getElem hi] at this
      rw [Option.some.inj this, markLs_length, hm]
    have key : ∀ (els : List (List Lf)) (xs : List Value), (∀ y ∈ els, y.length = m) → LsRd W (els.flatMap id) xs → ∀ i y, els[i]? = some y → ∃ us, LsRd W y us ∧ ∀ j u, us[j]? = some u → xs[i * m + j]? = some u := by
      intro els
      induction els with
      | nil => intro xs _ _ i y h; simp at h
      | cons a els ih =>
        intro xs hall h i y hy
        rw [List.flatMap_cons] at h
        obtain ⟨u1, u2, rfl, h1, h2⟩ := LsRd.append.1 h
        have hl := LsRd.length h1
        rw [show (id a).length = m from hall a (by simp)] at hl
        cases i with
        | zero =>
          simp only [List.getElem?_cons_zero, Option.some.injEq] at hy
          subst hy
          refine ⟨u1, h1, fun j u hu => ?_⟩
          rw [Nat.zero_mul, Nat.zero_add, List.getElem?_append_left (List.getElem?_eq_some_iff.1 hu).1]
          exact hu
        | succ i =>
          simp only [List.getElem?_cons_succ] at hy
          obtain ⟨us, h3, h4⟩ := ih u2 (fun y hy => hall y (by simp [hy])) h2 i y hy
          refine ⟨us, h3, fun j u hu => ?_⟩
          have := h4 j u hu
          rw [List.getElem?_append_right (by rw [hl, Nat.succ_mul]; omega), show (i + 1) * m + j - u1.length = i * m + j by rw [hl, Nat.succ_mul]; omega]
          exact this
    obtain ⟨us, h1, h2⟩ := key _ xs hlen hx i _ (mkEls_get enc l k i x hi)
    exact ⟨us, h1, fun j u hu => by have := hc _ u (h2 j u hu); rwa [← Nat.add_assoc] at this⟩

theorem LfIn.set {W : World} {x : Lf} {v : Value} {fp : List Nat} {g i : Nat} {u : Value} (h : LfIn W x v fp) (hg : g ∉ fp) : LfIn (W.setCell ⟨g, i, none⟩ u) x v fp :=
  h.frame x v fp (fun k hk => Below.heap_setCell W _ u k (by intro e; exact hg (by rw [← show k = g from e]; exact hk)))
theorem LfIn.away {W W' : World} {x : Lf} {v : Value} {fp fq : List Nat} (h : LfIn W x v fp) (hg : GrownIn W W' fq) (hd : ∀ k ∈ fp, k ∉ fq) : LfIn W' x v fp :=
  h.frame x v fp (fun k hk => hg.block k (LfIn.lt x v fp h k hk) (hd k hk))
theorem LfIn.below {W W' : World} {x : Lf} {v : Value} {fp : List Nat} (h : LfIn W x v fp) (hb : Below W.heap.size W W') : LfIn W' x v fp :=
  h.frame x v fp (fun k hk => hb.block k (LfIn.lt x v fp h k hk))
/-- The value of a row is a slice. -/
theorem LfIn.slice {W : World} {e : TypeId} {m n : Nat} {flat : List Lf} {v : Value} {fp : List Nat} (h : LfIn W (.rows e m n flat) v fp) : ∃ p c, v = .slice p n c := by
  obtain ⟨p, c, hv, _⟩ := (LfIn.rd _ _ _ h).2
  exact ⟨p, c, hv⟩
theorem LfRd.slice {W : World} {e : TypeId} {m n : Nat} {flat : List Lf} {v : Value} (h : LfRd W (.rows e m n flat) v) : ∃ p c, v = .slice p n c := by
  obtain ⟨p, c, hv, _⟩ := h.2
  exact ⟨p, c, hv⟩

end Go.Proofs.YtbfgdbpfecffcaaGreatDoor

namespace Go.Proofs.YtbfgdbpfecffcaaGreatDoor
open Go.RowKit

structure Scp where
  kind : Int
  names : List (List UInt8)
  events : Int

def strsLf (l : List (List UInt8)) : Lf := .rows 9 1 l.length (l.map Lf.str)
def Scp.lf (s : Scp) : List Lf := [.int s.kind, strsLf s.names, .int s.events]

theorem lsRd_strs {W : World} : ∀ (l : List (List UInt8)) (xs : List Value), LsRd W (l.map Lf.str) xs ↔ xs = l.map sv
  | [], xs => Iff.rfl
  | a :: l, xs => by
    constructor
    · rintro ⟨v, us, rfl, h1, h2⟩
      rw [(lsRd_strs l us).1 h2, h1]; rfl
    · rintro rfl
      exact ⟨sv a, l.map sv, rfl, rfl, (lsRd_strs l _).2 rfl⟩
theorem lsIn_strs {W : World} : ∀ (l : List (List UInt8)) (xs : List Value) (fp : List Nat), LsIn W (l.map Lf.str) xs fp ↔ xs = l.map sv ∧ fp = []
  | [], xs, fp => Iff.rfl
  | a :: l, xs, fp => by
    constructor
    · rintro ⟨v, us, f1, f2, rfl, h1, h2, rfl⟩
      obtain ⟨e1, e2⟩ := (lsIn_strs l us f2).1 h2
      rw [e1, h1.1, h1.2, e2]; exact ⟨rfl, rfl⟩
    · rintro ⟨rfl, rfl⟩
      exact ⟨sv a, l.map sv, [], [], rfl, ⟨rfl, rfl⟩, (lsIn_strs l _ _).2 ⟨rfl, rfl⟩, rfl⟩
theorem strs_rd {W : World} {l : List (List UInt8)} {v : Value} : LfRd W (strsLf l) v ↔ Rd1 sv W v l := by
  constructor
  · rintro ⟨_, p, cap, hv, h⟩
    refine ⟨p, cap, hv, ?_⟩
    rcases h with h0 | ⟨b, off, hp, hlt, xs, hc, hx⟩
    · exact .inl (List.eq_nil_of_length_eq_zero h0)
    · refine .inr ⟨b, off, hp, hlt, fun i x hi => hc i (sv x) ?_⟩
      rw [(lsRd_strs l xs).1 hx, List.getElem?_map, hi]; rfl
  · intro h
    obtain ⟨p, cap, hv, hc⟩ := h.ex
    refine ⟨by simp, p, cap, hv, ?_⟩
    rcases hc with h0 | ⟨b, off, hp, hlt, hc⟩
    · exact .inl (by rw [h0]; rfl)
    · refine .inr ⟨b, off, hp, hlt, l.map sv, fun j u hu => ?_, (lsRd_strs l _).2 rfl⟩
      rw [List.getElem?_map] at hu
      cases hl : l[j]? with
      | none => rw [hl] at hu; cases hu
      | some x => rw [hl] at hu; injection hu with hu; rw [← hu]; exact hc j x hl
theorem strs_in {W : World} {l : List (List UInt8)} {v : Value} {fp : List Nat} : LfIn W (strsLf l) v fp ↔ W.ownsRow 0 9 1 v l.length (l.map sv) ∧ fp = v.ownBlock.toList := by
  constructor
  · rintro ⟨_, xs, fq, ho, hx, rfl⟩
    obtain ⟨e1, e2⟩ := (lsIn_strs l xs fq).1 hx
    rw [e1] at ho
    exact ⟨ho, by rw [e2, List.append_nil]⟩
  · rintro ⟨ho, rfl⟩
    exact ⟨by simp, l.map sv, [], ho, (lsIn_strs l _ _).2 ⟨rfl, rfl⟩, by rw [List.append_nil]⟩
theorem own_base {W : World} {B m n : Nat} {e : TypeId} {v : Value} {xs : List Value} (h : W.ownsRow B e m v n xs) : W.ownsRow 0 e m v n xs := ⟨h.1, h.2.imp id fun ⟨g, cap, cur, h1, _, h3⟩ => ⟨g, cap, cur, h1, Nat.zero_le _, h3⟩⟩
theorem own_rebase {W : World} {B m n : Nat} {e : TypeId} {v : Value} {xs : List Value} (h : W.ownsRow 0 e m v n xs) (hb : ∀ k, v.ownBlock = some k → B ≤ k) : W.ownsRow B e m v n xs := ⟨h.1, h.2.imp id fun ⟨g, cap, cur, h1, _, h3⟩ => ⟨g, cap, cur, h1, hb g (by rw [h1]; rfl), h3⟩⟩
theorem tree_strs {W : World} {B : Nat} {l : List (List UInt8)} {v : Value} (h : W.ownsRow B 9 1 v l.length (l.map sv)) : Tree W B (strsLf l) v v.ownBlock.toList :=
  ⟨strs_in.2 ⟨own_base h, rfl⟩, by cases v.ownBlock <;> simp, fun k hk => (h.lt k (by simpa using hk)).1⟩

/-- A cell is set in a block whose cells are known. -/
theorem set_heap {W : World} {b j : Nat} {cs : Array Value} {T : TypeId} {u : Value} (h : W.heap[b]? = some (.cells cs T (0, 0))) : (W.setCell ⟨b, j, none⟩ u).heap[b]? = some (.cells (cs.setIfInBounds j u) T (0, 0)) := by
  simp [World.setCell, Array.getElem?_modify, h]
theorem set_other {W : World} {b b' j : Nat} {u : Value} (h : b' ≠ b) : (W.setCell ⟨b, j, none⟩ u).heap[b']? = W.heap[b']? := Below.heap_setCell W ⟨b, j, none⟩ u b' h

theorem own_put2 {w : World} {B n s b j : Nat} {e : TypeId} {v x : Value} {xs : List Value} (h : w.ownsRow B e s v n xs) (hb : ∀ k, v.ownBlock = some k → k ≠ b) : (w.setCell ⟨b, j, none⟩ x).ownsRow B e s v n xs :=
  own_frame h (fun k hk => set_other (hb k hk))

theorem GrownIn.of_row {W W' : World} {row : Option Nat} (h : W.grownBy W' row) : GrownIn W W' row.toList :=
  ⟨h.os, h.tape, h.output, h.size, fun k hk hn => h.block k hk (fun e => hn (by rw [← e]; simp))⟩
theorem GrownIn.refl (W : World) (fp : List Nat) : GrownIn W W fp := ⟨rfl, rfl, rfl, Nat.le_refl _, fun _ _ _ => rfl⟩
theorem LsIn.apart {W W' : World} {xs : List Lf} {vs : List Value} {fp fq : List Nat} (h : LsIn W xs vs fp) (hg : GrownIn W W' fq) (hd : ∀ k ∈ fp, k ∉ fq) : LsIn W' xs vs fp :=
  h.frame xs vs fp (fun k hk => hg.block k (LsIn.lt xs vs fp h k hk) (hd k hk))
theorem own_apart {W W' : World} {B m n : Nat} {e : TypeId} {v : Value} {xs : List Value} {fq : List Nat} (h : W.ownsRow B e m v n xs) (hg : GrownIn W W' fq) (hd : ∀ k, v.ownBlock = some k → k ∉ fq) : W'.ownsRow B e m v n xs :=
  own_frame h (fun k hk => hg.block k (h.lt k hk).2 (hd k hk))

end Go.Proofs.YtbfgdbpfecffcaaGreatDoor

namespace Go.Proofs.YtbfgdbpfecffcaaGreatDoor
open Go.RowKit

structure Spn where
  low : Int
  high : Int

abbrev spnv (s : Spn) : Value := .agg #[.int .i64 s.low, .int .i64 s.high]
def spnc (s : Spn) : List Value := [.int .i64 s.low, .int .i64 s.high]
def numB (n : Int) : Bool := decide (0 ≤ n) && decide (n ≤ 999999999)
def spnB (s : Spn) : Bool := numB s.low && numB s.high
def setB (l : List Spn) : Bool := l.all spnB && (decide (1 ≤ l.length) && decide (l.length ≤ 5))
def minI (a b : Int) : Int := if a < b then a else b
def maxI (a b : Int) : Int := if b < a then a else b
def endI (x last : Int) : Int := if x = 0 then last else x
def inSpn (x last : Int) (s : Spn) : Bool := decide (minI (endI s.low last) (endI s.high last) ≤ x) && decide (x ≤ maxI (endI s.low last) (endI s.high last))
def inB (l : List Spn) (x last : Int) : Bool := l.any (inSpn x last)
/-- The numbers from 1 on, as many as k. -/
def upTo (k : Nat) : List Int := (List.range k).map fun (i : Nat) => (i : Int) + 1
def membersL (l : List Spn) (n : Int) : List Int := (upTo (minI n 999).toNat).filter fun x => inB l x (minI n 999)
def lastId : List Int → Int
  | [] => 0
  | a :: r => (a :: r).foldl maxI a
def membersOfL (l : List Spn) (ids : List Int) : List Int := ids.filter fun x => inB l x (lastId ids)
theorem upTo_succ (k : Nat) : upTo (k + 1) = upTo k ++ [(k : Int) + 1] := by simp [upTo, List.range_succ]
theorem all_not_at {α : Type} {p : α → Bool} {l : List α} {k : Nat} {x : α} (h : l[k]? = some x) (hp : p x = false) : l.all p = false := by
  rw [Bool.eq_false_iff]
  intro hc
  rw [List.all_eq_true] at hc
  rw [hc x (List.mem_of_getElem? h)] at hp
  cases hp
theorem any_at {α : Type} {p : α → Bool} {l : List α} {k : Nat} {x : α} (h : l[k]? = some x) (hp : p x = true) : l.any p = true := List.any_eq_true.2 ⟨x, List.mem_of_getElem? h, hp⟩
theorem take_at {α : Type} {l : List α} {k : Nat} {x : α} (h : l[k]? = some x) : l.take (k + 1) = l.take k ++ [x] := by
  obtain ⟨h1, h2⟩ := List.getElem?_eq_some_iff.1 h
  rw [List.take_succ_eq_append_getElem h1, h2]
/-- Element k of a slice of pairs. -/
theorem Rd.pair {w : World} {b off k : Nat} {l : List Spn} {x : Spn} (hc : ∀ i x, l[i]? = some x → ∀ j u, (spnc x)[j]? = some u → w.cell? ⟨b, off + i * 2 + j, none⟩ = some u) (h : l[k]? = some x) :
    w.cell? ⟨b, off + k * 2, none⟩ = some (.int .i64 x.low) ∧ w.cell? ⟨b, off + k * 2 + 1, none⟩ = some (.int .i64 x.high) := ⟨hc k x h 0 _ rfl, hc k x h 1 _ rfl⟩

theorem l1Min_any (a b : Int) (w : World) :
    Calls Tryz.prog 89 #[.int .i64 a, .int .i64 b] w fun e w' => e = .returned (.int .i64 (minI a b)) ∧ w = w' := by
  by_cases h : a < b
  · have hg := Lib.hid (show minI a b = a from if_pos h)
    go_enter Tryz.func89, Tryz.ntmps89
    go_wp2
    go_ret
    exact ⟨by rw [hg.out]; rfl, rfl⟩
  · have hg := Lib.hid (show minI a b = b from if_neg h)
    go_enter Tryz.func89, Tryz.ntmps89
    go_wp2
    go_ret
    exact ⟨by rw [hg.out]; rfl, rfl⟩

theorem l1Max_any (a b : Int) (w : World) :
    Calls Tryz.prog 88 #[.int .i64 a, .int .i64 b] w fun e w' => e = .returned (.int .i64 (maxI a b)) ∧ w = w' := by
  by_cases h : b < a
  · have hg := Lib.hid (show maxI a b = a from if_pos h)
    go_enter Tryz.func88, Tryz.ntmps88
    go_wp2
    go_ret
    exact ⟨by rw [hg.out]; rfl, rfl⟩
  · have hg := Lib.hid (show maxI a b = b from if_neg h)
    go_enter Tryz.func88, Tryz.ntmps88
    go_wp2
    go_ret
    exact ⟨by rw [hg.out]; rfl, rfl⟩

end Go.Proofs.YtbfgdbpfecffcaaGreatDoor

namespace Go.Proofs.YtbfgdbpfecffcaaGreatDoor
open Go.RowKit

theorem below_drew {w w' : World} (h : Below w.drew.heap.size w.drew w') : Below w.heap.size w w' := (Below.refl _ _).drew.trans h
theorem nd_parts {A B : List Nat} (h : (A ++ B).Nodup) : (∀ q ∈ A, q ∉ B) ∧ A.Nodup ∧ B.Nodup := by
  obtain ⟨h1, h2, h3⟩ := List.nodup_append.1 h
  exact ⟨fun q hq hm => h3 q hq q hm rfl, h1, h2⟩
theorem mark_slice {W : World} {e : TypeId} {m n k : Nat} {flat : List Lf} {v : Value} (h : LfRd W (markLf (.rows e m n flat) k).1 v) : ∃ p c, v = .slice p n c := by
  obtain ⟨p, c, hv, _⟩ := h.2
  exact ⟨p, c, hv⟩

end Go.Proofs.YtbfgdbpfecffcaaGreatDoor
