/-
  Uk: ComF BoxM ComG ComH ComI ComL ComJ ComK ComM ComN ComO ComP ComQ (what the claim needs of them).
-/
import Derived.Handy
import Derived.Test.YtbfgdbpfecffcaaRows
import Derived.WalkKit
import Derived.WalkSpells
import Derived.WalkLawsBesides
import Derived.Laws.IdiomStrings
import Derived.Lib.Hide
import Derived.Deep.AppendLies
import Derived.OrdersHeld
import Derived.Lib.ItoaNum
import Derived.Lib.ItoaMem
import Derived.Lib.AppendStr
import Derived.Lib.ItoaLen
import Derived.Lib.Strings
import Derived.Lib.Bytealg
import Derived.Lib.OthersKept
import Derived.Laws.RangeAny
import Derived.Laws.BitsAllLaws
import Derived.Laws.BitsLemmas
import Derived.IntWalk
import Derived.Lib.Join
import Derived.Deep.Strs
import Derived.Test.YtbfgdbpfecffcaaProg
import Derived.Deep.DeepCutAuto
import Derived.Laws.Tables
import Derived.Test.YtbfgdbpfecffcaaUa
import Derived.Test.YtbfgdbpfecffcaaUb
import Derived.Test.YtbfgdbpfecffcaaUc
import Derived.Test.YtbfgdbpfecffcaaUd
import Derived.Test.YtbfgdbpfecffcaaUe
import Derived.Test.YtbfgdbpfecffcaaUi
import Derived.Test.YtbfgdbpfecffcaaUj

namespace Go.Proofs.Ytbfgdbpfecffcaa
open Go.RowKit

/-- A box as it lies in a row: what it is, where its messages lie. -/
structure BP where
  box : BoxD
  pt : Option Addr
  cp : Nat
  fp : List Nat
abbrev BP.val (p : BP) : Value := .slice p.pt p.box.msgs.length p.cp
def encP (p : BP) : List Value := [sv p.box.name, .int .i64 p.box.validity, .int .i64 p.box.next, p.val]
theorem encP_len (p : BP) : (encP p).length = 4 := rfl
theorem encP_one : ∀ p : BP, ∀ u ∈ encP p, u.oneCell' = true := by
  intro p u hu
  simp only [encP, List.mem_cons, List.not_mem_nil, or_false] at hu
  rcases hu with rfl | rfl | rfl | rfl <;> rfl
/-- Each box's messages lie where it says. -/
def BpOk (W : World) (ps : List BP) : Prop := ∀ p ∈ ps, LfIn W (msgsLf p.box.msgs) p.val p.fp
theorem bps_in {W : World} : ∀ {ps : List BP}, BpOk W ps → LsIn W ((ps.map BP.box).flatMap BoxD.lf) (ps.flatMap encP) (ps.flatMap BP.fp)
  | [], _ => ⟨rfl, rfl⟩
  | p :: ps, h => by
    simp only [List.map_cons, List.flatMap_cons]
    exact LsIn.append.2 ⟨_, _, _, _, rfl, BoxD.in_mk (h p (List.mem_cons_self ..)), bps_in (fun q hq => h q (List.mem_cons_of_mem _ hq)), rfl⟩
theorem bps_of {W : World} : ∀ {l : List BoxD} {xs : List Value} {fq : List Nat}, LsIn W (l.flatMap BoxD.lf) xs fq → ∃ ps : List BP, ps.map BP.box = l ∧ xs = ps.flatMap encP ∧ fq = ps.flatMap BP.fp ∧ BpOk W ps
  | [], _, _, h => ⟨[], rfl, h.1, h.2, fun _ h => by cases h⟩
  | b :: l, xs, fq, h => by
    rw [List.flatMap_cons] at h
    obtain ⟨u, r, f1, f2, rfl, h1, h2, rfl⟩ := LsIn.append.1 h
    obtain ⟨r3, f3, rfl, h3, rfl⟩ := BoxD.in_of h1
    obtain ⟨p, c, rfl⟩ := LfIn.slice h3
    obtain ⟨ps, rfl, rfl, rfl, hk⟩ := bps_of h2
    exact ⟨⟨b, p, c, f1⟩ :: ps, rfl, rfl, rfl, fun q hq => by
      rcases List.mem_cons.1 hq with rfl | hq
      · exact h3
      · exact hk q hq⟩
theorem BpOk.below {W W' : World} {ps : List BP} (h : BpOk W ps) (hb : Below W.heap.size W W') : BpOk W' ps := fun p hp => (h p hp).below hb
/-- A row of boxes of one's own. -/
structure Own9 (B : Nat) (W : World) (v : Value) (ps : List BP) : Prop where
  row : W.ownsRow B 61 4 v ps.length (ps.flatMap encP)
  ok : BpOk W ps
  nd : (v.ownBlock.toList ++ ps.flatMap BP.fp).Nodup
  low : ∀ q ∈ ps.flatMap BP.fp, B ≤ q
theorem Own9.tree {B : Nat} {W : World} {v : Value} {ps : List BP} (h : Own9 B W v ps) : Tree W B (boxsLf (ps.map BP.box)) v (v.ownBlock.toList ++ ps.flatMap BP.fp) :=
  ⟨⟨flat_lenM BoxD.len _, _, _, by rw [List.length_map]; exact own_base h.row, bps_in h.ok, rfl⟩, h.nd, fun q hq => by
    rcases List.mem_append.1 hq with hq | hq
    · exact (h.row.lt q (by simpa using hq)).1
    · exact h.low q hq⟩
theorem Own9.below {B : Nat} {W W' : World} {v : Value} {ps : List BP} (h : Own9 B W v ps) (hb : Below W.heap.size W W') : Own9 B W' v ps := ⟨ownsRow_below h.row hb, h.ok.below hb, h.nd, h.low⟩
theorem Own9.rd {B : Nat} {W : World} {v : Value} {ps : List BP} (h : Own9 B W v ps) : Rd 4 encP W v ps := Rd.of_own encP_len rfl h.row
theorem msgc9_rd {W : World} {l : List MsgD} {v : Value} (h : LfRd W (msgsLf l) v) : Rd 3 (fun m : MsgD => [.int .i64 m.uid, .int .i64 m.flags, sv m.text]) W v l := by
  obtain ⟨p, c, rfl, hc⟩ := MsgD.at h
  refine ⟨p, c, rfl, hc.imp id fun ⟨b, off, hp, hb, hx⟩ => ⟨b, off, hp, hb, fun i x hi j u hu => ?_⟩⟩
  obtain ⟨x0, x1, x2⟩ := hx i x hi
  match j, hu with
  | 0, hu => cases hu; exact x0
  | 1, hu => cases hu; exact x1
  | 2, hu => cases hu; exact x2
  | j + 3, hu => simp at hu
theorem wpList_app9 {P : Program} {α : Type} {w : World} {ops : Array Oper} {rest : List Oper} {o : Oper} {a : Act} {t e : TypeId} {size bytes B : Nat} {Q : Exit → Act → World → Prop} {enc : α → List Value} (hgd : o.guard = none) (E : Elem P t e size bytes) (hm : ∀ x, (enc x).length = size) (h1 : ∀ x, ∀ u ∈ enc x, u.oneCell' = true) (s x : Operand) (ho : o.op = .call { callee := .builtin .append, args := #[s, x], argTypes := #[t, t] })
    (W : World) (v : Value) (n : Nat) (xs : List Value) (hs : a.eval s = v) (hown : w.ownsRow B e size v n xs) (hb : Below B W w) (hB : B ≤ w.heap.size)
    (u : Value) (l : List α) (hx : a.eval x = u) (hu : Rd size enc w u l) (hbytes : (n + l.length) * bytes ≤ 140737488355328) (h63 : n + l.length ≤ 140737488355328)
    (h : ∀ v' w', w'.ownsRow B e size v' (n + l.length) (xs ++ l.flatMap enc) → Below B W w' → w.grownBy w' v.ownBlock → wpList P ops Q rest (a.put o.dst v') w') : wpList P ops Q (o :: rest) a w :=
  wpList_plain hgd fun _ hK => wp_appR E hm h1 s x ho W v n xs hs hown hb hB u l hx hu hbytes h63 fun v' w' k1 k2 k3 => hK _ _ (h v' w' k1 k2 k3)
theorem own9_lower {w : World} {B B' n s : Nat} {e : TypeId} {v : Value} {xs : List Value} (h : w.ownsRow B e s v n xs) (hb : B' ≤ B) : w.ownsRow B' e s v n xs :=
  ⟨h.1, h.2.imp id fun ⟨g, cap, cur, h1, h2, h3⟩ => ⟨g, cap, cur, h1, Nat.le_trans hb h2, h3⟩⟩
theorem own9_form {W : World} {B n : Nat} {e : TypeId} {s : Nat} {v : Value} {xs : List Value} (h : W.ownsRow B e s v n xs) : ∃ p c, v = .slice p n c ∧ n ≤ c := by
  rcases h.2 with ⟨h1, h2⟩ | ⟨b, cap, cur, h1, _, _, h3, _⟩
  · rw [h2]; exact ⟨none, 0, h1, Nat.le_refl _⟩
  · exact ⟨_, _, h1, h3⟩

theorem blk_4c {w : World} {b : Nat} {x0 x1 x2 x3 : Value} {e : TypeId} (h : w.heap[b]? = some (.cells #[x0, x1, x2, x3] e (0, 0))) :
    (w.cell? ⟨b, 0, none⟩ = some x0 ∧ w.cell? ⟨b, 1, none⟩ = some x1 ∧ w.cell? ⟨b, 2, none⟩ = some x2 ∧ w.cell? ⟨b, 3, none⟩ = some x3) ∧ (w.frozen? ⟨b, 0, none⟩ = false ∧ w.frozen? ⟨b, 1, none⟩ = false ∧ w.frozen? ⟨b, 2, none⟩ = false ∧ w.frozen? ⟨b, 3, none⟩ = false) ∧
    (∀ v, (w.setCell ⟨b, 0, none⟩ v).cell? ⟨b, 0, none⟩ = some v) ∧ (∀ v v', ((w.setCell ⟨b, 0, none⟩ v).setCell ⟨b, 1, none⟩ v').cell? ⟨b, 1, none⟩ = some v') ∧ (∀ v v' v'', (((w.setCell ⟨b, 0, none⟩ v).setCell ⟨b, 1, none⟩ v').setCell ⟨b, 2, none⟩ v'').cell? ⟨b, 2, none⟩ = some v'') ∧
    (∀ v v' v'' u, ((((w.setCell ⟨b, 0, none⟩ v).setCell ⟨b, 1, none⟩ v').setCell ⟨b, 2, none⟩ v'').setCell ⟨b, 3, none⟩ u).cell? ⟨b, 3, none⟩ = some u) := by
  refine ⟨⟨(Lib.cell_of_heap h 0).trans rfl, (Lib.cell_of_heap h 1).trans rfl, (Lib.cell_of_heap h 2).trans rfl, (Lib.cell_of_heap h 3).trans rfl⟩, ⟨Lib.frozen_of_heap h 0, Lib.frozen_of_heap h 1, Lib.frozen_of_heap h 2, Lib.frozen_of_heap h 3⟩, fun v => ?_, fun v v' => ?_, fun v v' v'' => ?_, fun v v' v'' u => ?_⟩
  · exact (Lib.cell_of_heap (set_heap h) 0).trans rfl
  · exact (Lib.cell_of_heap (set_heap (set_heap h)) 1).trans rfl
  · exact (Lib.cell_of_heap (set_heap (set_heap (set_heap h))) 2).trans rfl
  · exact (Lib.cell_of_heap (set_heap (set_heap (set_heap (set_heap h)))) 3).trans rfl

end Go.Proofs.Ytbfgdbpfecffcaa

namespace Go.Proofs.Ytbfgdbpfecffcaa
open Go.RowKit

def msgc (m : MsgD) : List Value := [.int .i64 m.uid, .int .i64 m.flags, sv m.text]
theorem msgs_plain {W : World} : ∀ {l : List MsgD} {xs : List Value} {fq : List Nat}, LsIn W (l.flatMap MsgD.lf) xs fq → xs = l.flatMap msgc ∧ fq = []
  | [], _, _, h => ⟨h.1, h.2⟩
  | m :: l, xs, fq, h => by
    rw [List.flatMap_cons] at h
    obtain ⟨a, r, f1, f2, rfl, h1, h2, rfl⟩ := LsIn.append.1 h
    obtain ⟨rfl, rfl⟩ := msgs_plain h2
    obtain ⟨v0, u0, g0, g1, rfl, ⟨rfl, rfl⟩, ⟨v1, u1, g2, g3, rfl, ⟨rfl, rfl⟩, ⟨v2, u2, g4, g5, rfl, ⟨rfl, rfl⟩, ⟨rfl, rfl⟩, rfl⟩, rfl⟩, rfl⟩ := h1
    exact ⟨rfl, rfl⟩
theorem msgs_plain' {W : World} : ∀ l : List MsgD, LsIn W (l.flatMap MsgD.lf) (l.flatMap msgc) []
  | [] => ⟨rfl, rfl⟩
  | m :: l => by
    rw [List.flatMap_cons, List.flatMap_cons]
    exact LsIn.append.2 ⟨msgc m, l.flatMap msgc, [], [], rfl, ⟨_, _, [], [], rfl, ⟨rfl, rfl⟩, ⟨_, _, [], [], rfl, ⟨rfl, rfl⟩, ⟨_, _, [], [], rfl, ⟨rfl, rfl⟩, ⟨rfl, rfl⟩, rfl⟩, rfl⟩, rfl⟩, msgs_plain' l, rfl⟩
theorem msgs_in {W : World} {l : List MsgD} {v : Value} {fp : List Nat} : LfIn W (msgsLf l) v fp ↔ W.ownsRow 0 74 3 v l.length (l.flatMap msgc) ∧ fp = v.ownBlock.toList := by
  constructor
  · rintro ⟨_, xs, fq, ho, hx, hf⟩
    obtain ⟨rfl, rfl⟩ := msgs_plain hx
    exact ⟨ho, by simpa using hf⟩
  · rintro ⟨ho, hf⟩
    exact ⟨flat_lenM MsgD.len l, _, [], ho, msgs_plain' l, by simpa using hf⟩

def MsgSm (m : MsgD) : Prop := in64 m.uid ∧ in64 m.flags ∧ m.text.length ≤ 40
def BoxQ (q : Nat) (x : BoxD) : Prop := x.name.length ≤ 41 ∧ in64 x.validity ∧ in64 x.next ∧ x.msgs.length ≤ q ∧ ∀ m ∈ x.msgs, MsgSm m
theorem BoxQ.mono {q q' : Nat} {x : BoxD} (h : BoxQ q x) (hq : q ≤ q') : BoxQ q' x := ⟨h.1, h.2.1, h.2.2.1, Nat.le_trans h.2.2.2.1 hq, h.2.2.2.2⟩
theorem msgs_sz {q : Nat} : ∀ {l : List MsgD}, l.length ≤ q → (∀ m ∈ l, MsgSm m) → szLs (l.flatMap MsgD.lf) ≤ 40 * l.length ∧ LsBnd (l.flatMap MsgD.lf)
  | [], _, _ => ⟨by simp [szLs], trivial⟩
  | m :: l, hl, h => by
    obtain ⟨h1, h2⟩ := msgs_sz (q := q) (l := l) (by simp at hl; omega) (fun x hx => h x (List.mem_cons_of_mem _ hx))
    obtain ⟨a, b, c⟩ := h m (List.mem_cons_self ..)
    rw [List.flatMap_cons]
    refine ⟨?_, LsBnd.append.2 ⟨⟨a, b, by show m.text.length ≤ _; omega, trivial⟩, h2⟩⟩
    rw [szLs_append, MsgD.sz, List.length_cons]
    omega
theorem box_sz {x : BoxD} (h : BoxQ 6 x) : szLs x.lf ≤ 300 ∧ LsBnd x.lf := by
  obtain ⟨h1, h2, h3, h4, h5⟩ := h
  obtain ⟨m1, m2⟩ := msgs_sz h4 h5
  have h6 : szLf (msgsLf x.msgs) = x.msgs.length + szLs (x.msgs.flatMap MsgD.lf) := rfl
  refine ⟨?_, by show x.name.length ≤ _; omega, h2, h3, ⟨by omega, m2⟩, trivial⟩
  rw [BoxD.sz]
  omega
theorem boxes_sz : ∀ {l : List BoxD}, l.length ≤ 1000 → (∀ x ∈ l, BoxQ 6 x) → szLs (l.flatMap BoxD.lf) ≤ 300 * l.length ∧ LsBnd (l.flatMap BoxD.lf)
  | [], _, _ => ⟨by simp [szLs], trivial⟩
  | x :: l, hl, h => by
    obtain ⟨h1, h2⟩ := boxes_sz (l := l) (by simp at hl; omega) (fun y hy => h y (List.mem_cons_of_mem _ hy))
    obtain ⟨a, b⟩ := box_sz (h x (List.mem_cons_self ..))
    rw [List.flatMap_cons]
    refine ⟨?_, LsBnd.append.2 ⟨b, h2⟩⟩
    rw [szLs_append, List.length_cons]
    omega
theorem boxes_fine {l : List BoxD} (hl : l.length ≤ 5) (h : ∀ x ∈ l, BoxQ 6 x) : szLf (boxsLf l) ≤ 1048576 ∧ LfBnd (boxsLf l) := by
  obtain ⟨h1, h2⟩ := boxes_sz (by omega) h
  have h6 : szLf (boxsLf l) = l.length + szLs (l.flatMap BoxD.lf) := rfl
  exact ⟨by omega, by omega, h2⟩

end Go.Proofs.Ytbfgdbpfecffcaa

namespace Go.Proofs.Ytbfgdbpfecffcaa
open Go.RowKit

theorem tw_take {α : Type} (p : α → Bool) : ∀ l : List α, l.take (l.takeWhile p).length = l.takeWhile p
  | [] => rfl
  | x :: l => by cases h : p x <;> simp [h, tw_take p l]
theorem tw_drop {α : Type} (p : α → Bool) : ∀ l : List α, l.drop (l.takeWhile p).length = l.dropWhile p
  | [] => rfl
  | x :: l => by cases h : p x <;> simp [h, tw_drop p l]
theorem tw_lo {α : Type} (p : α → Bool) : ∀ (l : List α) (i : Nat) (y : α), i < (l.takeWhile p).length → l[i]? = some y → p y = true
  | [], i, y, h, _ => by simp at h
  | x :: l, i, y, h, hy => by
    cases hx : p x with
    | false => simp [hx] at h
    | true =>
      simp only [List.takeWhile_cons, hx, if_true, List.length_cons] at h
      match i, hy with
      | 0, hy => cases hy; exact hx
      | i + 1, hy => exact tw_lo p l i y (by omega) hy
theorem tw_hi {α : Type} (p : α → Bool) : ∀ (l : List α) (y : α), l[(l.takeWhile p).length]? = some y → p y = false
  | [], y, h => by simp at h
  | x :: l, y, h => by
    cases hx : p x with
    | false => simp only [List.takeWhile_cons, hx] at h; cases h; exact hx
    | true =>
      simp only [List.takeWhile_cons, hx, if_true, List.length_cons, List.getElem?_cons_succ] at h
      exact tw_hi p l y h
theorem tw_le {α : Type} (p : α → Bool) : ∀ l : List α, (l.takeWhile p).length ≤ l.length
  | [] => Nat.le_refl _
  | x :: l => by
    cases hx : p x with
    | false => simp [hx]
    | true => simp [hx, tw_le p l]
def layAt (ps : List BP) (q : BP) : Nat := (ps.takeWhile fun y => Op.bytesLess y.box.name q.box.name).length
def layP (ps : List BP) (q : BP) : List BP := ps.take (layAt ps q) ++ q :: ps.drop (layAt ps q)
theorem layP_box (ps : List BP) (q : BP) : (layP ps q).map BP.box = layL (ps.map BP.box) q.box := by
  unfold layP layAt layL
  rw [tw_take, tw_drop, List.map_append, List.map_cons, List.takeWhile_map, List.dropWhile_map]
  rfl
theorem layP_len (ps : List BP) (q : BP) : (layP ps q).length = ps.length + 1 := by
  unfold layP
  have := tw_le (fun y => Op.bytesLess y.box.name q.box.name) ps
  rw [List.length_append, List.length_cons, List.length_take, List.length_drop]
  unfold layAt
  omega
theorem rd_takeP {W : World} {p : Option Addr} {c k : Nat} {ps : List BP} (h : Rd 4 encP W (.slice p ps.length c) ps) (hk : k ≤ ps.length) (c' : Nat) : Rd 4 encP W (.slice p k c') (ps.take k) := by
  obtain ⟨p1, cap, hv, hc⟩ := h.ex
  injection hv with hp _ _
  subst hp
  rcases hc with rfl | ⟨b, off, rfl, _⟩
  · obtain rfl : k = 0 := by simpa using hk
    exact ⟨_, _, rfl, .inl rfl⟩
  · exact Rd.takeS h hk c'
theorem add9 (b o j : Nat) : (⟨b, o, none⟩ : Addr).add j = ⟨b, o + j, none⟩ := by unfold Addr.add; split <;> simp_all
theorem rd_dropP {W : World} {p : Option Addr} {c k : Nat} {ps : List BP} (h : Rd 4 encP W (.slice p ps.length c) ps) (hk : k ≤ ps.length) (hc : ps.length ≤ c) : Rd 4 encP W (.slice (if c = k then p else Option.map (fun x => x.add (k * 4)) p) (ps.length - k) (c - k)) (ps.drop k) := by
  by_cases hck : ps.length = k
  · have hn : ps.drop k = [] := List.drop_eq_nil_of_le (by omega)
    rw [hn, show ps.length - k = 0 by omega]
    exact ⟨_, _, rfl, .inl rfl⟩
  · rw [if_neg (by omega)]
    obtain ⟨p1, cap, hv, hc⟩ := h.ex
    injection hv with hp _ _
    subst hp
    rcases hc with rfl | ⟨b, off, rfl, _⟩
    · have h1 : k ≤ 0 := hk
      have h2 : ¬ 0 = k := hck
      omega
    · show Rd 4 encP W (.slice (some ((⟨b, off, none⟩ : Addr).add (k * 4))) (ps.length - k) (c - k)) (ps.drop k)
      rw [add9]
      exact Rd.dropS h (c - k)
theorem rd_one {W : World} {b : Nat} (q : BP) (h : W.heap[b]? = some (.cells #[sv q.box.name, .int .i64 q.box.validity, .int .i64 q.box.next, .slice q.pt q.box.msgs.length q.cp] 61 (0, 0))) : Rd 4 encP W (.slice (some ⟨b, 0, none⟩) 1 1) [q] := by
  obtain ⟨⟨c0, c1, c2, c3⟩, _⟩ := blk_4c h
  refine ⟨_, _, rfl, .inr ⟨b, 0, rfl, (Array.getElem?_eq_some_iff.1 h).1, fun i y hi j u hu => ?_⟩⟩
  match i, hi with
  | 0, hi =>
    cases hi
    match j, hu with
    | 0, hu => cases hu; exact c0
    | 1, hu => cases hu; exact c1
    | 2, hu => cases hu; exact c2
    | 3, hu => cases hu; exact c3
    | j + 4, hu => simp [encP] at hu
  | i + 1, hi => simp at hi

end Go.Proofs.Ytbfgdbpfecffcaa

namespace Go.Proofs.Ytbfgdbpfecffcaa
open Go.RowKit

theorem own9_new {B B' : Nat} {W : World} {v : Value} {ps : List BP} (ho : W.ownsRow B' 61 4 v ps.length (ps.flatMap encP)) (hB : B ≤ B') (hk : BpOk W ps) (hn : (ps.flatMap BP.fp).Nodup) (hlo : ∀ q ∈ ps.flatMap BP.fp, B ≤ q ∧ q < B') : Own9 B W v ps :=
  ⟨own9_lower ho hB, hk, List.nodup_append.2 ⟨by cases v.ownBlock <;> simp, hn, fun a ha b hb e => by have h1 := (ho.lt a (by simpa using ha)).1; have h2 := (hlo b hb).2; omega⟩, fun q hq => (hlo q hq).1⟩
theorem Own9.fps {B : Nat} {W : World} {v : Value} {ps : List BP} (h : Own9 B W v ps) : (ps.flatMap BP.fp).Nodup ∧ ∀ q ∈ ps.flatMap BP.fp, B ≤ q ∧ q < W.heap.size :=
  ⟨(List.nodup_append.1 h.nd).2.1, fun q hq => ⟨h.low q hq, LsIn.lt _ _ _ (bps_in h.ok) q hq⟩⟩
theorem Own9.cap {B : Nat} {W : World} {v : Value} {ps : List BP} (h : Own9 B W v ps) : CapLe v := CapLe.of_in h.tree.is
theorem lay_fps (ps : List BP) (q : BP) : ((layP ps q).flatMap BP.fp).Perm (q.fp ++ ps.flatMap BP.fp) := by
  have h : (layP ps q).Perm (q :: ps) := by
    unfold layP
    refine List.perm_middle.trans ?_
    rw [List.take_append_drop]
  have := h.flatMap_right BP.fp
  rwa [List.flatMap_cons] at this
theorem erase_fps {ps : List BP} {k : Nat} {x : BP} (h : ps[k]? = some x) : (ps.flatMap BP.fp).Perm (x.fp ++ (ps.eraseIdx k).flatMap BP.fp) := by
  have h1 : ps.Perm (x :: ps.eraseIdx k) := by
    rw [List.eraseIdx_eq_take_drop_succ]
    have h2 := List.perm_middle (a := x) (l₁ := ps.take k) (l₂ := ps.drop (k + 1))
    rwa [← take_drop_at h] at h2
  have := h1.flatMap_right BP.fp
  rwa [List.flatMap_cons] at this
theorem erase_mem {ps : List BP} {k : Nat} {p : BP} (h : p ∈ ps.eraseIdx k) : p ∈ ps := List.mem_of_mem_eraseIdx h
theorem erase_box (ps : List BP) (k : Nat) : (ps.eraseIdx k).map BP.box = (ps.map BP.box).eraseIdx k := by
  rw [List.eraseIdx_eq_take_drop_succ, List.eraseIdx_eq_take_drop_succ, List.map_append, List.map_take, List.map_drop]
theorem layP_mem {ps : List BP} {q p : BP} (h : p ∈ layP ps q) : p = q ∨ p ∈ ps := by
  unfold layP at h
  rcases List.mem_append.1 h with h | h
  · exact .inr (List.mem_of_mem_take h)
  · rcases List.mem_cons.1 h with h | h
    · exact .inl h
    · exact .inr (List.mem_of_mem_drop h)
/-- One box left out. -/
theorem Own9.without {B : Nat} {W W' : World} {v v' : Value} {ps : List BP} {k : Nat} {x : BP} (h : Own9 B W v ps) (hx : ps[k]? = some x) (hB : B ≤ W.heap.size) (ho : W'.ownsRow W.heap.size 61 4 v' (ps.eraseIdx k).length ((ps.eraseIdx k).flatMap encP)) (hb : Below W.heap.size W W') : Own9 B W' v' (ps.eraseIdx k) := by
  obtain ⟨h1, h2⟩ := h.fps
  have hp := erase_fps hx
  have hn := List.nodup_append.1 (hp.nodup_iff.1 h1)
  exact own9_new ho hB (fun p hp => (h.ok.below hb) p (erase_mem hp)) hn.2.1 (fun q hq => h2 q (hp.mem_iff.2 (List.mem_append_right _ hq)))
/-- One box laid in. -/
theorem Own9.lay {B : Nat} {W W' : World} {v v' : Value} {ps : List BP} {q : BP} (h : Own9 B W v ps) (hB : B ≤ W.heap.size) (hq : LfIn W (msgsLf q.box.msgs) q.val q.fp) (hn : q.fp.Nodup) (hl : ∀ b ∈ q.fp, B ≤ b ∧ b < W.heap.size) (hd : ∀ b ∈ q.fp, b ∉ ps.flatMap BP.fp) (ho : W'.ownsRow W.heap.size 61 4 v' (layP ps q).length ((layP ps q).flatMap encP)) (hb : Below W.heap.size W W') : Own9 B W' v' (layP ps q) := by
  obtain ⟨h1, h2⟩ := h.fps
  have hp := lay_fps ps q
  refine own9_new ho hB (fun p hp => ?_) (hp.nodup_iff.2 (List.nodup_append.2 ⟨hn, h1, fun a ha b hb e => hd a ha (e ▸ hb)⟩)) (fun b hb => ?_)
  · rcases layP_mem hp with rfl | hp
    · exact hq.below hb
    · exact (h.ok.below hb) p hp
  · rcases List.mem_append.1 (hp.mem_iff.1 hb) with hb | hb
    · exact hl b hb
    · exact h2 b hb

end Go.Proofs.Ytbfgdbpfecffcaa

namespace Go.Proofs.Ytbfgdbpfecffcaa
open Go.RowKit

theorem set_mid9 {α : Type} {A us R : List α} {k j : Nat} (hA : A.length = k) (hj : j < us.length) (u : α) : (A ++ us ++ R).set (k + j) u = A ++ us.set j u ++ R := by
  rw [List.append_assoc, List.set_append_right _ _ (by omega), hA, Nat.add_sub_cancel_left, List.set_append_left _ _ hj, ← List.append_assoc]
theorem encs_len : ∀ ps : List BP, (ps.flatMap encP).length = ps.length * 4
  | [] => rfl
  | p :: ps => by rw [List.flatMap_cons, List.length_append, encs_len ps, List.length_cons, encP_len]; omega
theorem encs_set {ps : List BP} {k j : Nat} {z z' : BP} {u : Value} (hz : ps[k]? = some z) (hj : j < 4) (he : encP z' = (encP z).set j u) : (ps.set k z').flatMap encP = (ps.flatMap encP).set (k * 4 + j) u := by
  have hlt := (List.getElem?_eq_some_iff.1 hz).1
  have hA : ((ps.take k).flatMap encP).length = k * 4 := by rw [encs_len, List.length_take, Nat.min_eq_left (by omega)]
  rw [set_at hlt]
  conv => rhs; rw [take_drop_at hz]
  rw [List.flatMap_append, List.flatMap_append, List.flatMap_cons, List.flatMap_cons, he, ← List.append_assoc, ← List.append_assoc, set_mid9 hA hj]
theorem set_fps {ps : List BP} {k : Nat} {z z' : BP} (hz : ps[k]? = some z) : ((ps.set k z').flatMap BP.fp).Perm (z'.fp ++ (ps.eraseIdx k).flatMap BP.fp) := by
  have hlt := (List.getElem?_eq_some_iff.1 hz).1
  have h1 : (ps.set k z')[k]? = some z' := by rw [List.getElem?_set_self hlt]
  have := erase_fps h1
  rwa [List.eraseIdx_set_eq] at this
theorem set_mem {ps : List BP} {k : Nat} {z' p : BP} (h : p ∈ ps.set k z') : p = z' ∨ p ∈ ps.eraseIdx k := by
  obtain ⟨i, hi⟩ := List.mem_iff_getElem?.1 h
  by_cases hik : i = k
  · subst hik
    obtain ⟨h1, _⟩ := List.getElem?_eq_some_iff.1 hi
    rw [List.getElem?_set_self (by simpa using h1)] at hi
    injection hi with hi
    exact .inl hi.symm
  · rw [List.getElem?_set_ne (fun e => hik e.symm)] at hi
    exact .inr (List.mem_eraseIdx_iff_getElem?.2 ⟨i, hik, hi⟩)
theorem Own9.num {B : Nat} {W : World} {p : Option Addr} {n c : Nat} {ps : List BP} (h : Own9 B W (.slice p n c) ps) : n = ps.length := by
  rcases h.row.2 with ⟨h0, h1⟩ | ⟨g, cap, cur, h0, _⟩
  · injection h0 with _ h2 _
    omega
  · injection h0
/-- The messages of one box are others: their row was changed in its own blocks or lies in new ones. -/
theorem Own9.msgs {B : Nat} {W W' : World} {b n c k : Nat} {ps : List BP} {z z' : BP} (h : Own9 B W (.slice (some ⟨b, 0, none⟩) n c) ps) (hz : ps[k]? = some z) (hg : GrownIn W W' z.fp)
    (he : encP z' = (encP z).set 3 z'.val) (hi : LfIn W' (msgsLf z'.box.msgs) z'.val z'.fp) (hn : z'.fp.Nodup) (hf : ∀ q ∈ z'.fp, q ∈ z.fp ∨ W.heap.size ≤ q) :
    Own9 B (W'.setCell ⟨b, k * 4 + 3, none⟩ z'.val) (.slice (some ⟨b, 0, none⟩) n c) (ps.set k z') ∧ W'.cell? ⟨b, k * 4 + 3, none⟩ = some z.val ∧ W'.frozen? ⟨b, k * 4 + 3, none⟩ = false := by
  have hlt := (List.getElem?_eq_some_iff.1 hz).1
  obtain rfl := h.num
  obtain ⟨h1, h2⟩ := h.fps
  have hp := erase_fps hz
  obtain ⟨d1, d2, d3⟩ := nd_parts (hp.nodup_iff.1 h1)
  have hob : (Value.slice (some ⟨b, 0, none⟩) ps.length c).ownBlock = some b := rfl
  have hnd := h.nd
  rw [hob] at hnd
  simp only [Option.toList_some, List.singleton_append, List.nodup_cons] at hnd
  have hbz : b ∉ z.fp := fun hm => hnd.1 (hp.mem_iff.2 (List.mem_append_left _ hm))
  have hbe : b ∉ (ps.eraseIdx k).flatMap BP.fp := fun hm => hnd.1 (hp.mem_iff.2 (List.mem_append_right _ hm))
  have hbW := h.row.lt b rfl
  have hbz' : b ∉ z'.fp := fun hm => (hf b hm).elim hbz (fun h0 => by omega)
  have hrow : W'.ownsRow B 61 4 (.slice (some ⟨b, 0, none⟩) ps.length c) ps.length (ps.flatMap encP) := own_apart h.row hg (fun q hq => by rw [hob] at hq; injection hq with hq; rw [← hq]; exact hbz)
  have hcell : W'.cell? ⟨b, k * 4 + 3, none⟩ = some z.val := by
    rw [hrow.cellAt (k * 4 + 3) (by omega)]
    conv => lhs; rw [take_drop_at hz]
    have hA : ((ps.take k).flatMap encP).length = k * 4 := by rw [encs_len, List.length_take, Nat.min_eq_left (by omega)]
    rw [List.flatMap_append, List.getElem?_append_right (by omega), hA, Nat.add_sub_cancel_left]
    rfl
  have hst := (hrow.stored (k * 4 + 3) z'.val).1
  rw [← encs_set hz (by omega) he] at hst
  have hsp := set_fps (z' := z') hz
  have hzl : ∀ q ∈ z'.fp, B ≤ q := fun q hq => (hf q hq).elim (fun h0 => (h2 q (hp.mem_iff.2 (List.mem_append_left _ h0))).1) (fun h0 => by omega)
  have hdz : ∀ q ∈ z'.fp, q ∉ (ps.eraseIdx k).flatMap BP.fp := fun q hq hm => (hf q hq).elim (fun h0 => d1 q h0 hm) (fun h0 => by have := (h2 q (hp.mem_iff.2 (List.mem_append_right _ hm))).2; omega)
  refine ⟨⟨by rw [List.length_set]; exact hst, fun p hpm => ?_, ?_, fun q hq => ?_⟩, hcell, hrow.frozenAt _⟩
  · rcases set_mem hpm with rfl | hpm
    · exact hi.set hbz'
    · have hpf : ∀ q ∈ p.fp, q ∈ (ps.eraseIdx k).flatMap BP.fp := fun q hq => List.mem_flatMap.2 ⟨p, hpm, hq⟩
      exact LfIn.set (LfIn.away (h.ok p (erase_mem hpm)) hg (fun q hq hm => d1 q hm (hpf q hq))) (fun hm => hbe (hpf b hm))
  · rw [hob]
    simp only [Option.toList_some, List.singleton_append, List.nodup_cons]
    refine ⟨fun hm => ?_, hsp.nodup_iff.2 (List.nodup_append.2 ⟨hn, d3, fun a ha c hc e => hdz a ha (e ▸ hc)⟩)⟩
    rcases List.mem_append.1 (hsp.mem_iff.1 hm) with hm | hm
    · exact hbz' hm
    · exact hbe hm
  · rcases List.mem_append.1 (hsp.mem_iff.1 hq) with hq | hq
    · exact hzl q hq
    · exact (h2 q (hp.mem_iff.2 (List.mem_append_right _ hq))).1
/-- A plain cell of one box is another. -/
theorem Own9.plain {B : Nat} {W : World} {b n c k j : Nat} {ps : List BP} {z z' : BP} {u : Value} (h : Own9 B W (.slice (some ⟨b, 0, none⟩) n c) ps) (hz : ps[k]? = some z) (hj : j < 4) (he : encP z' = (encP z).set j u) (hv : z'.val = z.val) (hm : z'.box.msgs = z.box.msgs) (hf : z'.fp = z.fp) :
    Own9 B (W.setCell ⟨b, k * 4 + j, none⟩ u) (.slice (some ⟨b, 0, none⟩) n c) (ps.set k z') := by
  obtain rfl := h.num
  obtain ⟨h1, h2⟩ := h.fps
  have hp := erase_fps hz
  have hsp := set_fps (z' := z') hz
  rw [hf] at hsp
  have hob : (Value.slice (some ⟨b, 0, none⟩) ps.length c).ownBlock = some b := rfl
  have hnd := h.nd
  rw [hob] at hnd
  simp only [Option.toList_some, List.singleton_append, List.nodup_cons] at hnd
  have hpp := hsp.trans hp.symm
  have hst := (h.row.stored (k * 4 + j) u).1
  rw [← encs_set hz hj he] at hst
  refine ⟨by rw [List.length_set]; exact hst, fun p hpm => ?_, ?_, fun q hq => (h2 q (hpp.mem_iff.1 hq)).1⟩
  · rcases set_mem hpm with rfl | hpm
    · have := h.ok z (List.mem_of_getElem? hz)
      rw [hm, hv, hf]
      exact LfIn.set this (fun hm => hnd.1 (hp.mem_iff.2 (List.mem_append_left _ hm)))
    · exact LfIn.set (h.ok p (erase_mem hpm)) (fun hm => hnd.1 (List.mem_flatMap.2 ⟨p, erase_mem hpm, hm⟩))
  · rw [hob]
    simp only [Option.toList_some, List.singleton_append, List.nodup_cons]
    exact ⟨fun hm => hnd.1 (hpp.mem_iff.1 hm), hpp.nodup_iff.2 h1⟩

end Go.Proofs.Ytbfgdbpfecffcaa

namespace Go.Proofs.Ytbfgdbpfecffcaa
open Go.RowKit

def ApplPost (l : List BoxD) (x : ComD) (w : World) (e : Ending) (w' : World) : Prop :=
  ∃ z0 f0, e = .returned (.tuple #[z0, .bool (appB l x)]) ∧ Tree w' w.heap.size (boxsLf (appliedL l x)) z0 f0 ∧ Below w.heap.size w w'
theorem appl_post {l L : List BoxD} {x : ComD} {w w' : World} {z : Value} {f : List Nat} (hb : appB l x = true) (hd : appliedL l x = L) (ht : Tree w' w.heap.size (boxsLf L) z f) (hB : Below w.heap.size w w') : ApplPost l x w (.returned (.tuple #[z, .bool true])) w' :=
  ⟨z, f, by rw [hb], hd ▸ ht, hB⟩
theorem tree_lower {W : World} {lo lo' : Nat} {t : Lf} {v : Value} {fp : List Nat} (h : Tree W lo t v fp) (hl : lo' ≤ lo) : Tree W lo' t v fp := ⟨h.is, h.nodup, fun q hq => Nat.le_trans hl (h.low q hq)⟩
theorem box_msgs {l : List BoxD} (hsl : ∀ x ∈ l, szLs x.lf ≤ 1048576 ∧ LsBnd x.lf) : ∀ x ∈ l, x.msgs.length ≤ 1048576 := fun x hx => by
  have h0 := (hsl x hx).1
  have h1 := BoxD.sz x
  have h2 : szLf (msgsLf x.msgs) = x.msgs.length + szLs (x.msgs.flatMap MsgD.lf) := rfl
  omega
theorem applied_no {l : List BoxD} {m : ComD} (h : appB l m = false) : appliedL l m = l := by unfold appliedL; rw [h]; rfl
theorem applied_yes {l : List BoxD} {m : ComD} (h : appB l m = true) : appliedL l m = doneL l m := by unfold appliedL; rw [if_pos h]
theorem done_1 {l : List BoxD} {m : ComD} (h : m.kind = 1) : doneL l m = layL l ⟨m.name, m.validity, 1, []⟩ := by unfold doneL; rw [if_pos h]
theorem done_2 {l : List BoxD} {m : ComD} {b : BoxD} (h : m.kind = 2) (hb : l[whereB l m.validity]? = some b) : doneL l m = l.eraseIdx (whereB l m.validity) := by unfold doneL; rw [if_neg (by omega), hb]; simp only [if_pos h]
theorem app_kinds {l : List BoxD} {m : ComD} (h : appB l m = true) (hk : m.kind ≠ 1) : ∃ b, l[whereB l m.validity]? = some b ∧ bxWith l m.validity = ((whereB l m.validity : Nat) : Int) := by
  have hn : ¬ bxWith l m.validity < 0 := fun hn => by rw [app_neg hk hn] at h; cases h
  obtain ⟨b, hb, _⟩ := with_at hn
  exact ⟨b, hb, whereB_eq hn⟩

end Go.Proofs.Ytbfgdbpfecffcaa

namespace Go.Proofs.Ytbfgdbpfecffcaa
open Go.RowKit

theorem done_4 {l : List BoxD} {m : ComD} {b : BoxD} (h : 4 ≤ m.kind) (hb : l[whereB l m.validity]? = some b) : doneL l m = l.set (whereB l m.validity) (boxAfter b m) := by unfold doneL; rw [if_neg (by omega), hb]; simp only [if_neg (show ¬ m.kind = 2 by omega), if_neg (show ¬ m.kind = 3 by omega)]
def BP.more (z : BP) (m : MsgD) (g c : Nat) : BP := ⟨{ z.box with msgs := z.box.msgs ++ [m] }, some ⟨g, 0, none⟩, c, [g]⟩
def BP.nextd (z : BP) (n : Int) : BP := { z with box := { z.box with next := n } }
theorem Own9.off {B : Nat} {W : World} {b off n c : Nat} {ps : List BP} (h : Own9 B W (.slice (some ⟨b, off, none⟩) n c) ps) : off = 0 := by
  rcases h.row.2 with ⟨h0, h1⟩ | ⟨g, cap, cur, h0, _⟩
  · injection h0 with h0; cases h0
  · injection h0 with h0
    injection h0 with h0
    injection h0
theorem Own9.cell {B : Nat} {W : World} {b n c k j : Nat} {ps : List BP} {z : BP} (h : Own9 B W (.slice (some ⟨b, 0, none⟩) n c) ps) (hz : ps[k]? = some z) (hj : j < 4) : W.cell? ⟨b, k * 4 + j, none⟩ = (encP z)[j]? ∧ W.frozen? ⟨b, k * 4 + j, none⟩ = false := by
  have hlt := (List.getElem?_eq_some_iff.1 hz).1
  obtain rfl := h.num
  refine ⟨?_, h.row.frozenAt _⟩
  rw [h.row.cellAt (k * 4 + j) (by omega)]
  conv => lhs; rw [take_drop_at hz]
  have hA : ((ps.take k).flatMap encP).length = k * 4 := by rw [encs_len, List.length_take, Nat.min_eq_left (by omega)]
  rw [List.flatMap_append, List.getElem?_append_right (by omega), hA, Nat.add_sub_cancel_left, List.flatMap_cons, List.getElem?_append_left (by rw [encP_len]; exact hj)]
/-- A message more at one box. -/
theorem Own9.more {B : Nat} {W W' : World} {b n c k g cap : Nat} {ps : List BP} {z : BP} {m : MsgD} (h : Own9 B W (.slice (some ⟨b, 0, none⟩) n c) ps) (hz : ps[k]? = some z) (hg : W.grownBy W' z.val.ownBlock)
    (ho : W'.ownsRow B 74 3 (.slice (some ⟨g, 0, none⟩) (z.box.msgs.length + 1) cap) (z.box.msgs.length + 1) (z.box.msgs.flatMap msgc ++ msgc m)) (hor : z.val.ownBlock = some g ∨ W.heap.size ≤ g) :
    Own9 B (W'.setCell ⟨b, k * 4 + 3, none⟩ (.slice (some ⟨g, 0, none⟩) (z.box.msgs.length + 1) cap)) (.slice (some ⟨b, 0, none⟩) n c) (ps.set k (z.more m g cap)) ∧ W'.cell? ⟨b, k * 4 + 3, none⟩ = some z.val ∧ W'.frozen? ⟨b, k * 4 + 3, none⟩ = false := by
  have hi := h.ok z (List.mem_of_getElem? hz)
  obtain ⟨_, hf⟩ := msgs_in.1 hi
  have hv : (z.more m g cap).val = .slice (some ⟨g, 0, none⟩) (z.box.msgs.length + 1) cap := by unfold BP.more BP.val; simp
  have := h.msgs (z' := z.more m g cap) hz (by rw [hf]; exact GrownIn.of_row hg) rfl (by
    rw [hv]
    refine msgs_in.2 ⟨?_, rfl⟩
    show W'.ownsRow 0 _ 3 _ (z.box.msgs ++ [m]).length ((z.box.msgs ++ [m]).flatMap msgc)
    rw [List.length_append, List.length_singleton, List.flatMap_append, List.flatMap_cons, List.flatMap_nil, List.append_nil]
    exact own_base ho) (by simp [BP.more]) (fun q hq => by
    have hq2 : q = g := by simpa [BP.more] using hq
    subst hq2
    rw [hf]
    exact hor.imp (fun h0 => by rw [h0]; simp) id)
  rwa [hv] at this

end Go.Proofs.Ytbfgdbpfecffcaa

namespace Go.Proofs.Ytbfgdbpfecffcaa
open Go.RowKit

/-- Right boxes are small. -/
theorem right_small {l : List BoxD} (h : boxesB l = true) : szLf (boxsLf l) ≤ 1048576 ∧ LfBnd (boxsLf l) := by
  obtain ⟨h1, h2, _, _⟩ := (boxes_iff l).1 h
  refine boxes_fine (by omega) (fun b hb => ?_)
  obtain ⟨n1, v1, x1, m1, _, m2⟩ := (box_iff b).1 (h2 b hb)
  refine ⟨?_, ⟨by omega, by omega⟩, ⟨by omega, by omega⟩, m1, fun m hm => ?_⟩
  · unfold nameB at n1
    simp only [Bool.and_eq_true, decide_eq_true_eq] at n1
    omega
  · obtain ⟨u1, f1, t1⟩ := m2 m hm
    unfold flB at f1
    simp only [Bool.and_eq_true, decide_eq_true_eq] at f1
    exact ⟨⟨by omega, by omega⟩, ⟨by omega, by omega⟩, t1⟩
theorem applied_small {l : List BoxD} {x : ComD} (hs : szLf (boxsLf l) ≤ 1048576) (hb : LfBnd (boxsLf l)) : szLf (boxsLf (appliedL l x)) ≤ 1048576 ∧ LfBnd (boxsLf (appliedL l x)) := by
  cases ha : appB l x with
  | false => rw [applied_no ha]; exact ⟨hs, hb⟩
  | true => rw [applied_yes ha]; exact right_small (done_right ha)

end Go.Proofs.Ytbfgdbpfecffcaa

namespace Go.Proofs.Ytbfgdbpfecffcaa
open Go.RowKit

theorem all_end (m : List BoxD) (lg : List ComD) : allL m (lg.drop lg.length) = (m, true) := by rw [List.drop_length]; rfl
theorem drop_at {lg : List ComD} {k : Nat} {x : ComD} (h : lg[k]? = some x) : lg.drop k = x :: lg.drop (k + 1) := by
  obtain ⟨hk, rfl⟩ := List.getElem?_eq_some_iff.1 h
  exact List.drop_eq_getElem_cons hk
theorem all_no {m : List BoxD} {lg : List ComD} {k : Nat} {x : ComD} (h : lg[k]? = some x) (ha : appB m x = false) : allL m (lg.drop k) = (m, false) := by
  rw [drop_at h]; unfold allL; rw [ha]; rfl
theorem all_yes {m : List BoxD} {lg : List ComD} {k : Nat} {x : ComD} (h : lg[k]? = some x) (ha : appB m x = true) : allL m (lg.drop k) = allL (appliedL m x) (lg.drop (k + 1)) := by
  rw [drop_at h, applied_yes ha]; conv => lhs; unfold allL
  rw [ha]; rfl
theorem coms_small {lg : List ComD} (hs : szLf (commitsLf lg) ≤ 1048576) (hbd : LfBnd (commitsLf lg)) : lg.length ≤ 1048576 ∧ ∀ x ∈ lg, szLs x.lf ≤ 1048576 ∧ LsBnd x.lf :=
  ⟨Nat.le_trans (Nat.le_add_right _ _) hs, fun x hx => ⟨by have h1 := szLs_mem ComD.lf hx; have h2 : szLf (commitsLf lg) = lg.length + szLs (lg.flatMap ComD.lf) := rfl; omega, LsBnd.flat hbd.2 x hx⟩⟩
theorem all_small : ∀ (lg : List ComD) {l : List BoxD}, szLf (boxsLf l) ≤ 1048576 → LfBnd (boxsLf l) → szLf (boxsLf (allL l lg).1) ≤ 1048576
  | [], _, hs, _ => hs
  | x :: lg, l, hs, hb => by
    unfold allL
    cases ha : appB l x with
    | false => exact hs
    | true =>
      obtain ⟨h1, h2⟩ := right_small (done_right ha)
      exact all_small lg h1 h2

end Go.Proofs.Ytbfgdbpfecffcaa
