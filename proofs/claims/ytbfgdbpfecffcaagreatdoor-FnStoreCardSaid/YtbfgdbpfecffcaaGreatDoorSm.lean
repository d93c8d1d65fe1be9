/-
  Sm: ComF BoxM ComG (what the claim needs of them).
-/
import Derived.Handy
import Derived.Test.YtbfgdbpfecffcaaGreatDoorRows
import Derived.WalkKit
import Derived.WalkSpells
import Derived.WalkLawsBesides
import Derived.Laws.IdiomStrings
import Derived.Lib.Hide
import Derived.Deep.AppendLies
import Derived.OrdersHeld
import Derived.Lib.ItoaNum
import Derived.Lib.ItoaMem
import Derived.Lib.AppendStr
import Derived.Lib.ItoaLen
import Derived.Lib.Strings
import Derived.Lib.Bytealg
import Derived.Lib.OthersKept
import Derived.Laws.RangeAny
import Derived.Laws.BitsAllLaws
import Derived.Laws.BitsLemmas
import Derived.IntWalk
import Derived.Lib.Join
import Derived.Deep.Strs
import Derived.Test.YtbfgdbpfecffcaaGreatDoorProg
import Derived.Test.YtbfgdbpfecffcaaGreatDoorSb
import Derived.Test.YtbfgdbpfecffcaaGreatDoorSc
import Derived.Test.YtbfgdbpfecffcaaGreatDoorSd
import Derived.Test.YtbfgdbpfecffcaaGreatDoorSe
import Derived.Test.YtbfgdbpfecffcaaGreatDoorSf
import Derived.Test.YtbfgdbpfecffcaaGreatDoorSl

namespace Go.Proofs.YtbfgdbpfecffcaaGreatDoor
open Go.RowKit

/-- A box as it lies in a row: what it is, where its messages lie. -/
structure BP where
  box : BoxD
  pt : Option Addr
  cp : Nat
  fp : List Nat
abbrev BP.val (p : BP) : Value := .slice p.pt p.box.msgs.length p.cp
def encP (p : BP) : List Value := [sv p.box.name, .int .i64 p.box.validity, .int .i64 p.box.next, p.val]
theorem encP_len (p : BP) : (encP p).length = 4 := rfl
theorem encP_one : ∀ p : BP, ∀ u ∈ encP p, u.oneCell' = true := by
  intro p u hu
  simp only [encP, List.mem_cons, List.not_mem_nil, or_false] at hu
  rcases hu with rfl | rfl | rfl | rfl <;> rfl
/-- Each box's messages lie where it says. -/
def BpOk (W : World) (ps : List BP) : Prop := ∀ p ∈ ps, LfIn W (msgsLf p.box.msgs) p.val p.fp
theorem bps_in {W : World} : ∀ {ps : List BP}, BpOk W ps → LsIn W ((ps.map BP.box).flatMap BoxD.lf) (ps.flatMap encP) (ps.flatMap BP.fp)
  | [], _ => ⟨rfl, rfl⟩
  | p :: ps, h => by
    simp only [List.map_cons, List.flatMap_cons]
    exact LsIn.append.2 ⟨_, _, _, _, rfl, BoxD.in_mk (h p (List.mem_cons_self ..)), bps_in (fun q hq => h q (List.mem_cons_of_mem _ hq)), rfl⟩
theorem bps_of {W : World} : ∀ {l : List BoxD} {xs : List Value} {fq : List Nat}, LsIn W (l.flatMap BoxD.lf) xs fq → ∃ ps : List BP, ps.map BP.box = l ∧ xs = ps.flatMap encP ∧ fq = ps.flatMap BP.fp ∧ BpOk W ps
  | [], _, _, h => ⟨[], rfl, h.1, h.2, fun _ h => by cases h⟩
  | b :: l, xs, fq, h => by
    rw [List.flatMap_cons] at h
    obtain ⟨u, r, f1, f2, rfl, h1, h2, rfl⟩ := LsIn.append.1 h
    obtain ⟨r3, f3, rfl, h3, rfl⟩ := BoxD.in_of h1
    obtain ⟨p, c, rfl⟩ := LfIn.slice h3
    obtain ⟨ps, rfl, rfl, rfl, hk⟩ := bps_of h2
    exact ⟨⟨b, p, c, f1⟩ :: ps, rfl, rfl, rfl, fun q hq => by
      rcases List.mem_cons.1 hq with rfl | hq
      · exact h3
      · exact hk q hq⟩
theorem BpOk.below {W W' : World} {ps : List BP} (h : BpOk W ps) (hb : Below W.heap.size W W') : BpOk W' ps := fun p hp => (h p hp).below hb
/-- A row of boxes of one's own. -/
structure Own9 (B : Nat) (W : World) (v : Value) (ps : List BP) : Prop where
  row : W.ownsRow B 38 4 v ps.length (ps.flatMap encP)
  ok : BpOk W ps
  nd : (v.ownBlock.toList ++ ps.flatMap BP.fp).Nodup
  low : ∀ q ∈ ps.flatMap BP.fp, B ≤ q
theorem Own9.tree {B : Nat} {W : World} {v : Value} {ps : List BP} (h : Own9 B W v ps) : Tree W B (boxsLf (ps.map BP.box)) v (v.ownBlock.toList ++ ps.flatMap BP.fp) :=
  ⟨⟨flat_lenM BoxD.len _, _, _, by rw [List.length_map]; exact own_base h.row, bps_in h.ok, rfl⟩, h.nd, fun q hq => by
    rcases List.mem_append.1 hq with hq | hq
    · exact (h.row.lt q (by simpa using hq)).1
    · exact h.low q hq⟩
theorem Own9.below {B : Nat} {W W' : World} {v : Value} {ps : List BP} (h : Own9 B W v ps) (hb : Below W.heap.size W W') : Own9 B W' v ps := ⟨ownsRow_below h.row hb, h.ok.below hb, h.nd, h.low⟩
theorem Own9.rd {B : Nat} {W : World} {v : Value} {ps : List BP} (h : Own9 B W v ps) : Rd 4 encP W v ps := Rd.of_own encP_len rfl h.row
theorem msgc9_rd {W : World} {l : List MsgD} {v : Value} (h : LfRd W (msgsLf l) v) : Rd 3 (fun m : MsgD => [.int .i64 m.uid, .int .i64 m.flags, sv m.text]) W v l := by
  obtain ⟨p, c, rfl, hc⟩ := MsgD.at h
  refine ⟨p, c, rfl, hc.imp id fun ⟨b, off, hp, hb, hx⟩ => ⟨b, off, hp, hb, fun i x hi j u hu => ?_⟩⟩
  obtain ⟨x0, x1, x2⟩ := hx i x hi
  match j, hu with
  | 0, hu => cases hu; exact x0
  | 1, hu => cases hu; exact x1
  | 2, hu => cases hu; exact x2
  | j + 3, hu => simp at hu
theorem wpList_app9 {P : Program} {α : Type} {w : World} {ops : Array Oper} {rest : List Oper} {o : Oper} {a : Act} {t e : TypeId} {size bytes B : Nat} {Q : Exit → Act → World → Prop} {enc : α → List Value} (hgd : o.guard = none) (E : Elem P t e size bytes) (hm : ∀ x, (enc x).length = size) (h1 : ∀ x, ∀ u ∈ enc x, u.oneCell' = true) (s x : Operand) (ho : o.op = .call { callee := .builtin .append, args := #[s, x], argTypes := #[t, t] })
    (W : World) (v : Value) (n : Nat) (xs : List Value) (hs : a.eval s = v) (hown : w.ownsRow B e size v n xs) (hb : Below B W w) (hB : B ≤ w.heap.size)
    (u : Value) (l : List α) (hx : a.eval x = u) (hu : Rd size enc w u l) (hbytes : (n + l.length) * bytes ≤ 140737488355328) (h63 : n + l.length ≤ 140737488355328)
    (h : ∀ v' w', w'.ownsRow B e size v' (n + l.length) (xs ++ l.flatMap enc) → Below B W w' → w.grownBy w' v.ownBlock → wpList P ops Q rest (a.put o.dst v') w') : wpList P ops Q (o :: rest) a w :=
  wpList_plain hgd fun _ hK => wp_appR E hm h1 s x ho W v n xs hs hown hb hB u l hx hu hbytes h63 fun v' w' k1 k2 k3 => hK _ _ (h v' w' k1 k2 k3)
theorem own9_lower {w : World} {B B' n s : Nat} {e : TypeId} {v : Value} {xs : List Value} (h : w.ownsRow B e s v n xs) (hb : B' ≤ B) : w.ownsRow B' e s v n xs :=
  ⟨h.1, h.2.imp id fun ⟨g, cap, cur, h1, h2, h3⟩ => ⟨g, cap, cur, h1, Nat.le_trans hb h2, h3⟩⟩
theorem own9_form {W : World} {B n : Nat} {e : TypeId} {s : Nat} {v : Value} {xs : List Value} (h : W.ownsRow B e s v n xs) : ∃ p c, v = .slice p n c ∧ n ≤ c := by
  rcases h.2 with ⟨h1, h2⟩ | ⟨b, cap, cur, h1, _, _, h3, _⟩
  · rw [h2]; exact ⟨none, 0, h1, Nat.le_refl _⟩
  · exact ⟨_, _, h1, h3⟩

set_option maxHeartbeats 1600000 in
theorem l10Without_any (v : Value) (ps : List BP) (k : Nat) (w : World) (hr : Rd 4 encP w v ps) (hcap : CapLe v) (hk : k < ps.length) (hl : ps.length ≤ 1048576) :
    Calls Tryz.prog 67 #[v, .int .i64 (k : Int)] w fun e w' => ∃ v', e = .returned v' ∧ w'.ownsRow w.heap.size 38 4 v' (ps.eraseIdx k).length ((ps.eraseIdx k).flatMap encP) ∧ Below w.heap.size w w' := by
  obtain ⟨p, c, rfl, hc⟩ := hr.ex
  obtain ⟨b, off, rfl, _⟩ := hc.resolve_left (by intro h; subst h; simp at hk)
  have hcl := hcap _ _ _ rfl
  have h1 := Rd.takeS (k := k) hr (by omega) c
  have h2 := Rd.dropS (k := k + 1) hr (c - (k + 1))
  have hwk : IntKind.i64.wrap ((k : Int) + 1) = (k : Int) + 1 := IntWalk.i64_in _ (by omega)
  have H1 := Lib.hid h1
  have H2 := Lib.hid h2
  have HE := Lib.hid (show ps.eraseIdx k = ps.take k ++ ps.drop (k + 1) from List.eraseIdx_eq_take_drop_succ ps k)
  have hd0 : (w.drew.alloc (.cells #[] 38)).ownsRow w.heap.size 38 4 (.slice (some ⟨w.heap.size, 0, none⟩) 0 0) 0 [] := World.ownsRow_made w.drew #[] 0 (Nat.le_refl _) (by unfold maxLen; omega) (by simp)
  have HD := Lib.hid hd0
  clear hc hr hcap h1 h2 hd0
  go_enter Tryz.func67, Tryz.ntmps67
  go_wp2
  refine ord_start [(1, true), (2, true), (3, true), (5, true), (6, true), (7, true), (8, true), (0, false), (4, false), (9, false), (10, true)] (fun _ => True) (by kernel_rfl) (by kernel_rfl) rfl (by kernel_rfl) ?_
  intro ops' hops
  clear hops
  simp only [List.map_cons, List.map_nil, pickOp_zero, pickOp_succ]
  iterate 2 (refine ord_flo ?_ (fun _ _ _ h => h) rfl ?_ trivial ?_; rotate_left; focus (intro _ _; go_simp; rfl))
  refine ord_flo (.slice (some ⟨b, off, none⟩) k c) (fun _ _ _ h => h) rfl ?_ trivial ?_
  · intro W hS
    go_simp <;> omega
  iterate 3 (refine ord_flo ?_ (fun _ _ _ h => h) rfl ?_ trivial ?_; rotate_left; focus (intro _ _; go_simp; rfl))
  refine ord_flo (.slice (if c = k + 1 then some (⟨b, off, none⟩ : Addr) else some ⟨b, off + (k + 1) * 4, none⟩) (ps.length - (k + 1)) (c - (k + 1))) (fun _ _ _ h => h) rfl ?_ trivial ?_
  · intro W hS
    go_simp
    intro h
    omega
  refine ord_ev rfl ?_
  go_simp
  have hb0 : Below w.heap.size w (w.drew.alloc (.cells #[] 38)) := (Below.refl _ _).drew.alloc (Nat.le_refl _) _
  refine ord_ev rfl ?_
  refine wp_appR Tryz.el_box encP_len encP_one (.tmp 5) (.tmp 8) rfl w (.slice (some ⟨w.heap.size, 0, none⟩) 0 0) 0 [] rfl HD.out hb0 hb0.size _ (ps.take k) rfl (H1.out.below hb0) (by simp; omega) (by simp; omega) ?_
  intro v1 w1 ho1 hb1 _
  refine ⟨trivial, ?_⟩
  refine ord_ev rfl ?_
  have h2 : Rd 4 encP w1 (.slice (if c = k + 1 then some (⟨b, off, none⟩ : Addr) else some ⟨b, off + (k + 1) * 4, none⟩) (ps.length - (k + 1)) (c - (k + 1))) (ps.drop (k + 1)) := by
    by_cases hck : c = k + 1
    · rw [if_pos hck]
      have hn : ps.drop (k + 1) = [] := List.drop_eq_nil_of_le (by omega)
      rw [hn]
      exact ⟨_, _, by rw [show ps.length - (k + 1) = 0 by omega]; rfl, .inl rfl⟩
    · rw [if_neg hck]
      exact H2.out.below hb1
  refine wp_appR Tryz.el_box encP_len encP_one (.tmp 9) (.tmp 13) rfl w v1 _ _ rfl ho1 hb1 hb1.size _ (ps.drop (k + 1)) rfl h2 (by simp; omega) (by simp; omega) ?_
  intro v2 w2 ho2 hb2 _
  refine ⟨trivial, ?_⟩
  have ho3 : w2.ownsRow w.heap.size 38 4 v2 (ps.eraseIdx k).length ((ps.eraseIdx k).flatMap encP) := by
    rw [HE.out, List.flatMap_append, List.length_append]
    simpa using ho2
  have HO := Lib.hid ho3
  clear ho1 ho2 ho3 h2 hb0 hb1 HD H1 H2
  iterate 1 (refine ord_flo ?_ (fun _ _ _ h => h) rfl ?_ trivial ?_; rotate_left; focus (intro _ _; go_simp; rfl))
  refine ord_done ?_
  go_simp
  go_wp2
  all_goals (go_ret; exact ⟨_, rfl, HO.out, hb2⟩)

theorem blk_4c {w : World} {b : Nat} {x0 x1 x2 x3 : Value} {e : TypeId} (h : w.heap[b]? = some (.cells #[x0, x1, x2, x3] e (0, 0))) :
    (w.cell? ⟨b, 0, none⟩ = some x0 ∧ w.cell? ⟨b, 1, none⟩ = some x1 ∧ w.cell? ⟨b, 2, none⟩ = some x2 ∧ w.cell? ⟨b, 3, none⟩ = some x3) ∧ (w.frozen? ⟨b, 0, none⟩ = false ∧ w.frozen? ⟨b, 1, none⟩ = false ∧ w.frozen? ⟨b, 2, none⟩ = false ∧ w.frozen? ⟨b, 3, none⟩ = false) ∧
    (∀ v, (w.setCell ⟨b, 0, none⟩ v).cell? ⟨b, 0, none⟩ = some v) ∧ (∀ v v', ((w.setCell ⟨b, 0, none⟩ v).setCell ⟨b, 1, none⟩ v').cell? ⟨b, 1, none⟩ = some v') ∧ (∀ v v' v'', (((w.setCell ⟨b, 0, none⟩ v).setCell ⟨b, 1, none⟩ v').setCell ⟨b, 2, none⟩ v'').cell? ⟨b, 2, none⟩ = some v'') ∧
    (∀ v v' v'' u, ((((w.setCell ⟨b, 0, none⟩ v).setCell ⟨b, 1, none⟩ v').setCell ⟨b, 2, none⟩ v'').setCell ⟨b, 3, none⟩ u).cell? ⟨b, 3, none⟩ = some u) := by
  refine ⟨⟨(Lib.cell_of_heap h 0).trans rfl, (Lib.cell_of_heap h 1).trans rfl, (Lib.cell_of_heap h 2).trans rfl, (Lib.cell_of_heap h 3).trans rfl⟩, ⟨Lib.frozen_of_heap h 0, Lib.frozen_of_heap h 1, Lib.frozen_of_heap h 2, Lib.frozen_of_heap h 3⟩, fun v => ?_, fun v v' => ?_, fun v v' v'' => ?_, fun v v' v'' u => ?_⟩
  · exact (Lib.cell_of_heap (set_heap h) 0).trans rfl
  · exact (Lib.cell_of_heap (set_heap (set_heap h)) 1).trans rfl
  · exact (Lib.cell_of_heap (set_heap (set_heap (set_heap h))) 2).trans rfl
  · exact (Lib.cell_of_heap (set_heap (set_heap (set_heap (set_heap h)))) 3).trans rfl

set_option maxHeartbeats 1600000 in
theorem l9Copy_any (x : BoxD) (r : Value) (w : World) (hr : LfRd w (msgsLf x.msgs) r) (hl : x.msgs.length ≤ 1048576) :
    Calls Tryz.prog 107 #[.agg #[sv x.name, .int .i64 x.validity, .int .i64 x.next, r]] w fun e w' => ∃ p c, e = .returned (.agg #[sv x.name, .int .i64 x.validity, .int .i64 x.next, .slice p x.msgs.length c]) ∧ w'.ownsRow w.heap.size 87 3 (.slice p x.msgs.length c) x.msgs.length (x.msgs.flatMap fun m : MsgD => [.int .i64 m.uid, .int .i64 m.flags, sv m.text]) ∧ Below w.heap.size w w' := by
  have hrd := msgc9_rd hr
  obtain ⟨p, c, rfl⟩ := LfRd.slice hr
  have h3 : Below w.heap.size w (((w.alloc (.cells #[sv x.name, .int .i64 x.validity, .int .i64 x.next, .slice p x.msgs.length c] 38)).alloc (.cells #[.string ⟨#[]⟩, .int .i64 0, .int .i64 0, .slice none 0 0] 38)).alloc (.cells #[] 87)) := (((Below.refl _ _).alloc (Nat.le_refl _) _).alloc (by simp) _).alloc (by simp; omega) _
  have hz3 : (((w.alloc (.cells #[sv x.name, .int .i64 x.validity, .int .i64 x.next, .slice p x.msgs.length c] 38)).alloc (.cells #[.string ⟨#[]⟩, .int .i64 0, .int .i64 0, .slice none 0 0] 38)).alloc (.cells #[] 87)).heap.size = w.heap.size + 3 := by simp
  have hA3 : (((w.alloc (.cells #[sv x.name, .int .i64 x.validity, .int .i64 x.next, .slice p x.msgs.length c] 38)).alloc (.cells #[.string ⟨#[]⟩, .int .i64 0, .int .i64 0, .slice none 0 0] 38)).alloc (.cells #[] 87)).heap[w.heap.size]? = some (.cells #[sv x.name, .int .i64 x.validity, .int .i64 x.next, .slice p x.msgs.length c] 38 (0, 0)) := (Below.heap_alloc _ _ _ (by simp; omega)).trans ((Below.heap_alloc _ _ _ (by simp)).trans (heap_alloc_new w _))
  have hZ3 : (((w.alloc (.cells #[sv x.name, .int .i64 x.validity, .int .i64 x.next, .slice p x.msgs.length c] 38)).alloc (.cells #[.string ⟨#[]⟩, .int .i64 0, .int .i64 0, .slice none 0 0] 38)).alloc (.cells #[] 87)).heap[w.heap.size + 1]? = some (.cells #[.string ⟨#[]⟩, .int .i64 0, .int .i64 0, .slice none 0 0] 38 (0, 0)) := by
    refine (Below.heap_alloc _ _ _ (by simp)).trans ?_
    have := heap_alloc_new (w.alloc (.cells #[sv x.name, .int .i64 x.validity, .int .i64 x.next, .slice p x.msgs.length c] 38)) (.cells #[.string ⟨#[]⟩, .int .i64 0, .int .i64 0, .slice none 0 0] 38)
    rwa [World.size_alloc] at this
  have ho3 : (((w.alloc (.cells #[sv x.name, .int .i64 x.validity, .int .i64 x.next, .slice p x.msgs.length c] 38)).alloc (.cells #[.string ⟨#[]⟩, .int .i64 0, .int .i64 0, .slice none 0 0] 38)).alloc (.cells #[] 87)).ownsRow (w.heap.size + 2) 87 3 (.slice (some ⟨w.heap.size + 2, 0, none⟩) 0 0) 0 [] := by
    have := World.ownsRow_made (base := w.heap.size + 2) (e := 87) (size := 3) ((w.alloc (.cells #[sv x.name, .int .i64 x.validity, .int .i64 x.next, .slice p x.msgs.length c] 38)).alloc (.cells #[.string ⟨#[]⟩, .int .i64 0, .int .i64 0, .slice none 0 0] 38)) #[] 0 (by simp) (by unfold maxLen; omega) (by simp)
    simpa using this
  obtain ⟨X, hX⟩ : ∃ X, (((w.alloc (.cells #[sv x.name, .int .i64 x.validity, .int .i64 x.next, .slice p x.msgs.length c] 38)).alloc (.cells #[.string ⟨#[]⟩, .int .i64 0, .int .i64 0, .slice none 0 0] 38)).alloc (.cells #[] 87)) = X := ⟨_, rfl⟩
  rw [hX] at h3 hz3 hA3 hZ3 ho3
  have HX := Lib.hid (And.intro h3 (And.intro hz3 (And.intro hA3 (And.intro hZ3 (And.intro ho3 (hrd.below h3))))))
  have a3 := (Lib.cell_of_heap hA3 3).trans (show _ = some (.slice p x.msgs.length c) from rfl)
  clear h3 hz3 hA3 hZ3 ho3 hrd hr
  go_enter Tryz.func107, Tryz.ntmps107
  go_wp2_with (at_builtin; obtain ⟨h3, hz3, hA3, hZ3, ho3, hrd3⟩ := HX.out; refine wpList_app9 rfl Tryz.el_msg (enc := fun m : MsgD => [.int .i64 m.uid, .int .i64 m.flags, sv m.text]) (fun _ => rfl) (fun m u hu => by simp at hu; rcases hu with rfl | rfl | rfl <;> rfl) (.tmp 3) (.tmp 5) rfl X _ 0 [] rfl ho3 (Below.refl _ _) (by omega) _ x.msgs rfl hrd3 (by omega) (by omega) ?_)
  intro v1 w1 ho1 hb1 hg1
  obtain ⟨h3, hz3, hA3, hZ3, ho3, hrd3⟩ := HX.out
  obtain ⟨p1, c1, rfl, hc1⟩ := own9_form ho1
  have hA4 := (hg1.block _ (show w.heap.size < X.heap.size by omega) (by intro e; injection e with e; dsimp only at e; omega)).trans hA3
  have hZ4 := (hg1.block _ (show w.heap.size + 1 < X.heap.size by omega) (by intro e; injection e with e; dsimp only at e; omega)).trans hZ3
  have hz4 := hb1.size
  have hZ5 : (w1.setCell ⟨w.heap.size, 3, none⟩ (.slice p1 x.msgs.length c1)).heap[w.heap.size + 1]? = _ := (set_other (by omega)).trans hZ4
  have hne : ∀ (d : Nat), d ≤ w.heap.size + 1 → ∀ k, (Value.slice p1 x.msgs.length c1).ownBlock = some k → k ≠ d := fun d hd k hk e => by
    have := (ho1.lt k hk).1
    omega
  have HD := Lib.hid (show ∀ u a b c d : Value, (((((w1.setCell ⟨w.heap.size, 3, none⟩ u).setCell ⟨w.heap.size + 1, 0, none⟩ a).setCell ⟨w.heap.size + 1, 1, none⟩ b).setCell ⟨w.heap.size + 1, 2, none⟩ c).setCell ⟨w.heap.size + 1, 3, none⟩ d).ownsRow w.heap.size 87 3 (.slice p1 x.msgs.length c1) x.msgs.length (x.msgs.flatMap fun m : MsgD => [.int .i64 m.uid, .int .i64 m.flags, sv m.text]) ∧ Below w.heap.size w (((((w1.setCell ⟨w.heap.size, 3, none⟩ u).setCell ⟨w.heap.size + 1, 0, none⟩ a).setCell ⟨w.heap.size + 1, 1, none⟩ b).setCell ⟨w.heap.size + 1, 2, none⟩ c).setCell ⟨w.heap.size + 1, 3, none⟩ d) from fun u a b c d =>
    ⟨own_put2 (own_put2 (own_put2 (own_put2 (own_put2 (own9_lower ho1 (by omega)) (hne _ (by omega))) (hne _ (Nat.le_refl _))) (hne _ (Nat.le_refl _))) (hne _ (Nat.le_refl _))) (hne _ (Nat.le_refl _)),
     (((((h3.trans (hb1.mono (by omega))).setCell (Nat.le_refl _) _).setCell (by simp) _).setCell (by simp) _).setCell (by simp) _).setCell (by simp) _⟩)
  obtain ⟨⟨e0, e1, e2, e3⟩, ⟨f0, f1, f2, f3⟩, s0, s1, s2, s3⟩ := blk_4c hA4
  obtain ⟨⟨q0, q1, q2, q3⟩, ⟨r0, r1, r2, r3⟩, -⟩ := blk_4c hZ4
  obtain ⟨-, -, t0, t1, t2, t3⟩ := blk_4c hZ5
  clear ho1 hb1 hg1 h3 hz3 hA3 hZ3 ho3 hrd3 HX hz4 hA4 hZ4 hZ5 hne s0 s1 s2 s3
  go_wp2_with fail
  exact bodyPost_ret (v := .agg #[sv x.name, .int .i64 x.validity, .int .i64 x.next, .slice p1 x.msgs.length c1]) (by simp [results, Tryz.results107, go_sem, t0, t1, t2, t3]) rfl ⟨p1, c1, rfl, (HD.out _ _ _ _ _).1, (HD.out _ _ _ _ _).2⟩

end Go.Proofs.YtbfgdbpfecffcaaGreatDoor

namespace Go.Proofs.YtbfgdbpfecffcaaGreatDoor
open Go.RowKit

def msgc (m : MsgD) : List Value := [.int .i64 m.uid, .int .i64 m.flags, sv m.text]
theorem msgs_plain {W : World} : ∀ {l : List MsgD} {xs : List Value} {fq : List Nat}, LsIn W (l.flatMap MsgD.lf) xs fq → xs = l.flatMap msgc ∧ fq = []
  | [], _, _, h => ⟨h.1, h.2⟩
  | m :: l, xs, fq, h => by
    rw [List.flatMap_cons] at h
    obtain ⟨a, r, f1, f2, rfl, h1, h2, rfl⟩ := LsIn.append.1 h
    obtain ⟨rfl, rfl⟩ := msgs_plain h2
    obtain ⟨v0, u0, g0, g1, rfl, ⟨rfl, rfl⟩, ⟨v1, u1, g2, g3, rfl, ⟨rfl, rfl⟩, ⟨v2, u2, g4, g5, rfl, ⟨rfl, rfl⟩, ⟨rfl, rfl⟩, rfl⟩, rfl⟩, rfl⟩ := h1
    exact ⟨rfl, rfl⟩
theorem msgs_plain' {W : World} : ∀ l : List MsgD, LsIn W (l.flatMap MsgD.lf) (l.flatMap msgc) []
  | [] => ⟨rfl, rfl⟩
  | m :: l => by
    rw [List.flatMap_cons, List.flatMap_cons]
    exact LsIn.append.2 ⟨msgc m, l.flatMap msgc, [], [], rfl, ⟨_, _, [], [], rfl, ⟨rfl, rfl⟩, ⟨_, _, [], [], rfl, ⟨rfl, rfl⟩, ⟨_, _, [], [], rfl, ⟨rfl, rfl⟩, ⟨rfl, rfl⟩, rfl⟩, rfl⟩, rfl⟩, msgs_plain' l, rfl⟩
theorem msgs_in {W : World} {l : List MsgD} {v : Value} {fp : List Nat} : LfIn W (msgsLf l) v fp ↔ W.ownsRow 0 87 3 v l.length (l.flatMap msgc) ∧ fp = v.ownBlock.toList := by
  constructor
  · rintro ⟨_, xs, fq, ho, hx, hf⟩
    obtain ⟨rfl, rfl⟩ := msgs_plain hx
    exact ⟨ho, by simpa using hf⟩
  · rintro ⟨ho, hf⟩
    exact ⟨flat_lenM MsgD.len l, _, [], ho, msgs_plain' l, by simpa using hf⟩

/-- A drawn box as a record of a row. -/
theorem box_rec {W : World} {B : Nat} {nm : List UInt8} {v nx : Int} {vm : Value} {ms : List MsgD} (ho : W.ownsRow B 87 3 vm ms.length (ms.flatMap msgc)) :
    LsIn W (⟨nm, v, nx, ms⟩ : BoxD).lf [sv nm, .int .i64 v, .int .i64 nx, vm] vm.ownBlock.toList ∧ vm.ownBlock.toList.Nodup ∧ ∀ q ∈ vm.ownBlock.toList, B ≤ q ∧ q < W.heap.size :=
  ⟨BoxD.in_mk (msgs_in.2 ⟨own_base ho, rfl⟩), by cases vm.ownBlock <;> simp, fun q hq => ho.lt q (by simpa using hq)⟩
theorem own_form {W : World} {B n : Nat} {e : TypeId} {s : Nat} {v : Value} {xs : List Value} (h : W.ownsRow B e s v n xs) : ∃ p c, v = .slice p n c := by
  rcases h.2 with ⟨h1, h2⟩ | ⟨b, cap, cur, h1, _⟩
  · rw [h2]; exact ⟨none, 0, h1⟩
  · exact ⟨_, _, h1⟩
theorem own_cell1 {W : World} {B n : Nat} {e : TypeId} {s : Nat} {v : Value} {xs : List Value} (h : W.ownsRow B e s v n xs) : v.oneCell' = true := by
  rcases h.2 with ⟨rfl, _⟩ | ⟨g, cap, cur, rfl, _⟩ <;> rfl

def MsgSm (m : MsgD) : Prop := in64 m.uid ∧ in64 m.flags ∧ m.text.length ≤ 40
def BoxQ (q : Nat) (x : BoxD) : Prop := x.name.length ≤ 41 ∧ in64 x.validity ∧ in64 x.next ∧ x.msgs.length ≤ q ∧ ∀ m ∈ x.msgs, MsgSm m
theorem BoxQ.mono {q q' : Nat} {x : BoxD} (h : BoxQ q x) (hq : q ≤ q') : BoxQ q' x := ⟨h.1, h.2.1, h.2.2.1, Nat.le_trans h.2.2.2.1 hq, h.2.2.2.2⟩
theorem msgs_sz {q : Nat} : ∀ {l : List MsgD}, l.length ≤ q → (∀ m ∈ l, MsgSm m) → szLs (l.flatMap MsgD.lf) ≤ 40 * l.length ∧ LsBnd (l.flatMap MsgD.lf)
  | [], _, _ => ⟨by simp [szLs], trivial⟩
  | m :: l, hl, h => by
    obtain ⟨h1, h2⟩ := msgs_sz (q := q) (l := l) (by simp at hl; omega) (fun x hx => h x (List.mem_cons_of_mem _ hx))
    obtain ⟨a, b, c⟩ := h m (List.mem_cons_self ..)
    rw [List.flatMap_cons]
    refine ⟨?_, LsBnd.append.2 ⟨⟨a, b, by show m.text.length ≤ _; omega, trivial⟩, h2⟩⟩
    rw [szLs_append, MsgD.sz, List.length_cons]
    omega
theorem box_sz {x : BoxD} (h : BoxQ 6 x) : szLs x.lf ≤ 300 ∧ LsBnd x.lf := by
  obtain ⟨h1, h2, h3, h4, h5⟩ := h
  obtain ⟨m1, m2⟩ := msgs_sz h4 h5
  have h6 : szLf (msgsLf x.msgs) = x.msgs.length + szLs (x.msgs.flatMap MsgD.lf) := rfl
  refine ⟨?_, by show x.name.length ≤ _; omega, h2, h3, ⟨by omega, m2⟩, trivial⟩
  rw [BoxD.sz]
  omega
theorem boxes_sz : ∀ {l : List BoxD}, l.length ≤ 1000 → (∀ x ∈ l, BoxQ 6 x) → szLs (l.flatMap BoxD.lf) ≤ 300 * l.length ∧ LsBnd (l.flatMap BoxD.lf)
  | [], _, _ => ⟨by simp [szLs], trivial⟩
  | x :: l, hl, h => by
    obtain ⟨h1, h2⟩ := boxes_sz (l := l) (by simp at hl; omega) (fun y hy => h y (List.mem_cons_of_mem _ hy))
    obtain ⟨a, b⟩ := box_sz (h x (List.mem_cons_self ..))
    rw [List.flatMap_cons]
    refine ⟨?_, LsBnd.append.2 ⟨b, h2⟩⟩
    rw [szLs_append, List.length_cons]
    omega
theorem boxes_fine {l : List BoxD} (hl : l.length ≤ 5) (h : ∀ x ∈ l, BoxQ 6 x) : szLf (boxsLf l) ≤ 1048576 ∧ LfBnd (boxsLf l) := by
  obtain ⟨h1, h2⟩ := boxes_sz (by omega) h
  have h6 : szLf (boxsLf l) = l.length + szLs (l.flatMap BoxD.lf) := rfl
  exact ⟨by omega, by omega, h2⟩

end Go.Proofs.YtbfgdbpfecffcaaGreatDoor

namespace Go.Proofs.YtbfgdbpfecffcaaGreatDoor
open Go.RowKit

theorem tree_own9 {B : Nat} {W : World} {l : List BoxD} {v : Value} {fp : List Nat} (h : Tree W B (boxsLf l) v fp) : ∃ ps : List BP, ps.map BP.box = l ∧ Own9 B W v ps := by
  obtain ⟨_, xs, fq, ho, hx, hf⟩ := h.is
  obtain ⟨ps, rfl, rfl, rfl, hk⟩ := bps_of hx
  have hnd := h.nodup
  rw [hf] at hnd
  exact ⟨ps, rfl, by rw [List.length_map] at ho; exact own_rebase ho (fun k hk => h.low k (by rw [hf, hk]; simp)), hk, hnd, fun q hq => h.low q (by rw [hf]; exact List.mem_append_right _ hq)⟩

def CopiesPost (l : List BoxD) (w : World) (e : Ending) (w' : World) : Prop := ∃ v fp, e = .returned v ∧ Tree w' w.heap.size (boxsLf l) v fp ∧ Below w.heap.size w w'

set_option maxHeartbeats 1600000 in
theorem l9Copies_any (l : List BoxD) (v : Value) (w : World) (hr : LfRd w (boxsLf l) v) (hl : l.length ≤ 1048576) (hm : ∀ x ∈ l, x.msgs.length ≤ 1048576) :
    Calls Tryz.prog 65 #[v] w fun e w' => CopiesPost l w e w' := by
  obtain ⟨p, c, rfl, hp⟩ := BoxD.at hr
  have HP := Lib.hid hp
  have HL := Lib.hid hl
  have HM := Lib.hid hm
  have hst : Tree (w.alloc (.cells #[] 38)) w.heap.size (boxsLf (l.take 0)) (.slice (some ⟨w.heap.size, 0, none⟩) 0 0) [w.heap.size] := by
    rw [List.take_zero]
    exact ⟨⟨rfl, [], [], own_base (World.ownsRow_made w #[] 0 (Nat.le_refl _) (by unfold maxLen; omega) (by simp)), ⟨rfl, rfl⟩, rfl⟩, by simp, by simp⟩
  have HST := Lib.hid (And.intro hst ((Below.refl w.heap.size w).alloc (Nat.le_refl _) (.cells #[] 38)))
  clear hp hr hst hm
  go_enter Tryz.func65, Tryz.ntmps65
  go_wp2_with fail
  go_loopw [3, 4] (fun v i wr => ∃ (k : Nat) (m : List BoxD) (fp : List Nat), k ≤ l.length ∧ i = .int .i64 k ∧ m = l.take k ∧ Tree wr w.heap.size (boxsLf m) v fp ∧ Below w.heap.size w wr) (fun _ i _ => l.length - (intOf i).toNat)
  case atStart => exact ⟨0, _, _, by omega, rfl, rfl, HST.out.1, HST.out.2⟩
  case round =>
    obtain ⟨k, m, fp, hk, rfl, hmk, hs, hbr⟩ := hrel
    obtain ⟨pv, cv, rfl⟩ := LfIn.slice hs.is
    have HMK := Lib.hid (And.intro hmk (show m.length = k by rw [hmk, List.length_take]; omega))
    clear HST hmk
    by_cases hlt : k < l.length
    case neg =>
      obtain rfl : k = l.length := by omega
      have HS := Lib.hid (show Tree wr w.heap.size (boxsLf l) (.slice pv m.length cv) fp by have := HMK.out.1; rw [List.take_length] at this; rw [← this]; exact hs)
      clear hs
      go_wp2
      go_ret
      exact ⟨_, _, rfl, HS.out, hbr⟩
    obtain ⟨b, off, rfl, hb1, hc⟩ := HP.out.resolve_left (by intro h; subst h; simp at hlt)
    obtain ⟨x, hx⟩ : ∃ x, l[k]? = some x := ⟨_, List.getElem?_eq_getElem hlt⟩
    obtain ⟨r3, n3, x0, x1, x2, x3⟩ := hc k x hx
    have e0 : wr.cell? ⟨b, off + k * 4, none⟩ = some (sv x.name) := (hbr.cell (p := ⟨b, off + k * 4, none⟩) hb1).trans x0
    have e1 : wr.cell? ⟨b, off + k * 4 + 1, none⟩ = some (.int .i64 x.validity) := (hbr.cell (p := ⟨b, off + k * 4 + 1, none⟩) hb1).trans x1
    have e2 : wr.cell? ⟨b, off + k * 4 + 2, none⟩ = some (.int .i64 x.next) := (hbr.cell (p := ⟨b, off + k * 4 + 2, none⟩) hb1).trans x2
    have e3 : wr.cell? ⟨b, off + k * 4 + 3, none⟩ = some r3 := (hbr.cell (p := ⟨b, off + k * 4 + 3, none⟩) hb1).trans x3
    have hn : LfRd wr (msgsLf x.msgs) r3 := LfRd.below hbr _ _ n3
    have hxm := HM.out x (List.mem_of_getElem? hx)
    have HTK := Lib.hid (show m ++ [x] = l.take (k + 1) by rw [HMK.out.1, List.take_succ_eq_append_getElem hlt, (List.getElem?_eq_some_iff.1 hx).2])
    have HC1 := Lib.hid (fun W (g : Below wr.heap.size wr W) => l9Copy_any x r3 W (LfRd.below g _ _ hn) hxm)
    have HS := Lib.hid hs
    have HB := Lib.hid hbr
    clear hc x0 x1 x2 x3 n3 hx hs hbr hn hxm
    go_wp2_with fail
    refine (HC1.out _ (Below.refl _ _)).mono ?_
    rintro e w2 ⟨p2, c2, rfl, ho2, hb2⟩
    obtain ⟨hu, hfx, hfq⟩ := box_rec (nm := x.name) (v := x.validity) (nx := x.next) ho2
    have hs2 : Tree w2 w.heap.size (boxsLf m) (.slice pv m.length cv) fp := HS.out.below hb2
    have hfl := HS.out.lt
    have hzw := HB.out.size
    have hzw2 := hb2.size
    have HB2 := Lib.hid (HB.out.trans (hb2.mono hzw))
    obtain ⟨_, xs, fq, hrow0, hx, hf⟩ := hs2.is
    have hrow := own_rebase hrow0 (fun k hk => hs2.low k (by rw [hf, hk]; simp))
    have HS2 := Lib.hid hs2
    have HLM := Lib.hid (show m.length ≤ 1048576 by rw [HMK.out.2]; have := HL.out; omega)
    clear ho2 HC1 hrow0 HS HB hb2 e0 e1 e2 e3 hs2
    go_wp2_with (at_builtin; refine wpList_app1 Tryz.el_box rfl (.tmp 12) (.tmp 18) rfl w2 w2 (.slice pv m.length cv) m.length xs rfl hrow (Below.refl _ _) (by omega) #[sv x.name, .int .i64 x.validity, .int .i64 x.next, .slice p2 x.msgs.length c2] (.inr rfl) 1 1 rfl rfl (by simp [Value.oneCell']) (by omega) (by have := HLM.out; omega) (by have := HLM.out; omega) ?_)
    intro gn cap w4 ho4 hb4 hg4 hor4 hlt4
    obtain ⟨fp', hs4, -⟩ := tree_snoc (lo := w.heap.size) (enc := BoxD.lf) (x := x) BoxD.len (e := 38) HS2.out.nodup HS2.out.low hx hf hu (fun q hq hm => by have := (hfq q hq).1; have := hfl q hm; omega) hfx (fun q hq => by have := (hfq q hq).1; omega) rfl ho4 (GrownIn.of_row hg4) hor4
    have HS4 := Lib.hid (And.intro hs4 (HB2.out.trans hb4))
    clear ho4 hb4 hg4 hor4 hlt4 hs4 HS2 HB2 hu hfx hfq hx hf hrow hfl hzw hzw2
    go_wp2
    go_roundw
    case rel => exact ⟨k + 1, _, fp', by omega, by go_num, HTK.out, HS4.out.1, HS4.out.2⟩
    case measure => simp [intOf]; omega

end Go.Proofs.YtbfgdbpfecffcaaGreatDoor
