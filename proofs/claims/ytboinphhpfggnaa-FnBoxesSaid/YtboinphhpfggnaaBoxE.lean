/-
  Chapter 9's draws: right boxes.
-/
import Derived.Test.YtboinphhpfggnaaBoxD
namespace Go.Proofs.Ytboinphhpfggnaa
open Go.RowKit

def BoxQ (q : Nat) (x : BoxD) : Prop := x.name.length ≤ 41 ∧ in64 x.validity ∧ in64 x.next ∧ x.msgs.length ≤ q ∧ ∀ m ∈ x.msgs, MsgSm m
theorem BoxQ.mono {q q' : Nat} {x : BoxD} (h : BoxQ q x) (hq : q ≤ q') : BoxQ q' x := ⟨h.1, h.2.1, h.2.2.1, Nat.le_trans h.2.2.2.1 hq, h.2.2.2.2⟩
theorem msgs_plain {W : World} : ∀ {l : List MsgD} {xs : List Value} {fq : List Nat}, LsIn W (l.flatMap MsgD.lf) xs fq → xs = l.flatMap msgc ∧ fq = []
  | [], _, _, h => ⟨h.1, h.2⟩
  | m :: l, xs, fq, h => by
    rw [List.flatMap_cons] at h
    obtain ⟨a, r, f1, f2, rfl, h1, h2, rfl⟩ := LsIn.append.1 h
    obtain ⟨rfl, rfl⟩ := msgs_plain h2
    obtain ⟨v0, u0, g0, g1, rfl, ⟨rfl, rfl⟩, ⟨v1, u1, g2, g3, rfl, ⟨rfl, rfl⟩, ⟨v2, u2, g4, g5, rfl, ⟨rfl, rfl⟩, ⟨rfl, rfl⟩, rfl⟩, rfl⟩, rfl⟩ := h1
    exact ⟨rfl, rfl⟩
theorem msgs_plain' {W : World} : ∀ l : List MsgD, LsIn W (l.flatMap MsgD.lf) (l.flatMap msgc) []
  | [] => ⟨rfl, rfl⟩
  | m :: l => by
    rw [List.flatMap_cons, List.flatMap_cons]
    exact LsIn.append.2 ⟨msgc m, l.flatMap msgc, [], [], rfl, ⟨_, _, [], [], rfl, ⟨rfl, rfl⟩, ⟨_, _, [], [], rfl, ⟨rfl, rfl⟩, ⟨_, _, [], [], rfl, ⟨rfl, rfl⟩, ⟨rfl, rfl⟩, rfl⟩, rfl⟩, rfl⟩, msgs_plain' l, rfl⟩
theorem msgs_in {W : World} {l : List MsgD} {v : Value} {fp : List Nat} : LfIn W (msgsLf l) v fp ↔ W.ownsRow 0 67 3 v l.length (l.flatMap msgc) ∧ fp = v.ownBlock.toList := by
  constructor
  · rintro ⟨_, xs, fq, ho, hx, hf⟩
    obtain ⟨rfl, rfl⟩ := msgs_plain hx
    exact ⟨ho, by simpa using hf⟩
  · rintro ⟨ho, hf⟩
    exact ⟨flat_lenM MsgD.len l, _, [], ho, msgs_plain' l, by simpa using hf⟩

/-- Boxes that are being drawn: their rows are the call's own. -/
structure BsS (w : World) (g : Nat) (code : List UInt8) (l : List BoxD) (v : Value) (fp : List Nat) (W : World) : Prop where
  cur : Cur W g code
  tree : Tree W w.heap.size (boxsLf l) v fp
  grown : w.grownBy W (some g)
  og : g < w.heap.size
section
variable {w W W' : World} {g : Nat} {code : List UInt8} {l : List BoxD} {v : Value} {fp : List Nat}
theorem BsS.draw (h : BsS w g code l v fp W) (hg : W.grownBy W' (some g)) (hc : Cur W' g code) : BsS w g code l v fp W' where
  cur := hc
  tree := h.tree.apart (fq := [g]) (by have := GrownIn.of_row hg; simpa using this) (fun k hk hm => by have h1 := h.tree.low k hk; have h2 := h.og; have h3 : k = g := (by simpa using hm); omega)
  grown := grown_grown h.grown hg
  og := h.og
theorem BsS.below (h : BsS w g code l v fp W) (hb : Below W.heap.size W W') : BsS w g code l v fp W' := h.draw (grown_of_below hb) (h.cur.below hb)
theorem BsS.drew (h : BsS w g code l v fp W) : BsS w g code l v fp W.drew := h.below (Below.refl _ _).drew
theorem BsS.alloc (h : BsS w g code l v fp W) (o : Obj) : BsS w g code l v fp (W.alloc o) := h.below ((Below.refl _ _).alloc (Nat.le_refl _) _)
theorem BsS.row (h : BsS w g code l v fp W) : ∃ xs fq, W.ownsRow w.heap.size 30 4 v l.length xs ∧ LsIn W (l.flatMap BoxD.lf) xs fq ∧ fp = v.ownBlock.toList ++ fq := by
  obtain ⟨_, xs, fq, ho, hx, hf⟩ := h.tree.is
  exact ⟨xs, fq, own_rebase ho (fun k hk => h.tree.low k (by rw [hf, hk]; simp)), hx, hf⟩
theorem BsS.slice (h : BsS w g code l v fp W) : ∃ p c, v = .slice p l.length c := LfIn.slice h.tree.is
/-- A box more. -/
theorem BsS.snoc (h : BsS w g code l v fp W) {x : BoxD} {us xs : List Value} {fx fq : List Nat} (hu : LsIn W x.lf us fx) (hfx : fx.Nodup) (hlo : ∀ q ∈ fx, w.heap.size ≤ q) (hd : ∀ q ∈ fx, q ∉ fp)
    (hx : LsIn W (l.flatMap BoxD.lf) xs fq) (hf : fp = v.ownBlock.toList ++ fq) {gn cap : Nat} (ho : W'.ownsRow w.heap.size 30 4 (.slice (some ⟨gn, 0, none⟩) (l.length + 1) cap) (l.length + 1) (xs ++ us))
    (hg : W.grownBy W' v.ownBlock) (hor : v.ownBlock = some gn ∨ W.heap.size ≤ gn) :
    ∃ fp', BsS w g code (l ++ [x]) (.slice (some ⟨gn, 0, none⟩) (l.length + 1) cap) fp' W' ∧ ∀ q ∈ fp', q ∈ fp ∨ q ∈ fx ∨ q = gn := by
  obtain ⟨fq', ht, hq⟩ := tree_snoc (lo := w.heap.size) (enc := BoxD.lf) BoxD.len (e := 30) h.tree.nodup h.tree.low hx hf hu hd hfx hlo rfl ho (GrownIn.of_row hg) hor
  have hlv : ∀ k, v.ownBlock = some k → w.heap.size ≤ k := fun k hk => h.tree.low k (by rw [hf, hk]; simp)
  exact ⟨fq', ⟨h.cur.grown hg (fun k hk => by have := hlv k hk; have := h.og; omega), ht, grown_young h.grown hg hlv, h.og⟩, hq⟩
end

/-- A drawn box as a record of a row. -/
theorem box_rec {W : World} {B : Nat} {nm : List UInt8} {v nx : Int} {vm : Value} {ms : List MsgD} (ho : W.ownsRow B 67 3 vm ms.length (ms.flatMap msgc)) :
    LsIn W (⟨nm, v, nx, ms⟩ : BoxD).lf [sv nm, .int .i64 v, .int .i64 nx, vm] vm.ownBlock.toList ∧ vm.ownBlock.toList.Nodup ∧ ∀ q ∈ vm.ownBlock.toList, B ≤ q ∧ q < W.heap.size :=
  ⟨BoxD.in_mk (msgs_in.2 ⟨own_base ho, rfl⟩), by cases vm.ownBlock <;> simp, fun q hq => ho.lt q (by simpa using hq)⟩
theorem own_form {W : World} {B n : Nat} {e : TypeId} {s : Nat} {v : Value} {xs : List Value} (h : W.ownsRow B e s v n xs) : ∃ p c, v = .slice p n c := by
  rcases h.2 with ⟨h1, h2⟩ | ⟨b, cap, cur, h1, _⟩
  · rw [h2]; exact ⟨none, 0, h1⟩
  · exact ⟨_, _, h1⟩
theorem own_cell1 {W : World} {B n : Nat} {e : TypeId} {s : Nat} {v : Value} {xs : List Value} (h : W.ownsRow B e s v n xs) : v.oneCell' = true := by
  rcases h.2 with ⟨rfl, _⟩ | ⟨g, cap, cur, rfl, _⟩ <;> rfl

def BoxesPost (m : Nat) (g : Nat) (code : List UInt8) (w : World) (e : Ending) (w' : World) : Prop :=
  ∃ (l : List BoxD) (v : Value) (fp : List Nat), e = .returned v ∧ l.length ≤ m ∧ (∀ x ∈ l, BoxQ 5 x) ∧ BsS w g code l v fp w'

set_option maxRecDepth 20000 in
set_option maxHeartbeats 3200000 in
theorem l9Right_any (g : Nat) (code : List UInt8) (w : World) (hc : Cur w g code) :
    Calls Try.prog 61 #[.pointer (some ⟨g, 0, none⟩)] w fun e w' => BoxesPost 4 g code w e w' := by
  have hlt := hc.lt
  have hst : BsS w g code [] (.slice (some ⟨w.heap.size, 0, none⟩) 0 0) [w.heap.size] ((w.alloc (.cells #[] 30)).alloc (.cells #[.string ⟨#[97]⟩, .string ⟨#[97, 47, 98]⟩, .string ⟨#[97, 98]⟩, .string ⟨#[105, 110, 98, 111, 120]⟩] 9)) :=
    ⟨hc.below (((Below.refl _ _).alloc (Nat.le_refl _) _).alloc (by simp) _),
     ⟨⟨rfl, [], [], own_base ((World.ownsRow_made w #[] 0 (Nat.le_refl _) (by unfold maxLen; omega) (by simp)).alloc _), ⟨rfl, rfl⟩, rfl⟩, by simp, by simp⟩,
     grown_grown (World.grownBy_alloc w _ (some g)) (World.grownBy_alloc _ _ (some g)), hlt⟩
  have hN : ((w.alloc (.cells #[] 30)).alloc (.cells #[.string ⟨#[97]⟩, .string ⟨#[97, 47, 98]⟩, .string ⟨#[97, 98]⟩, .string ⟨#[105, 110, 98, 111, 120]⟩] 9)).heap[w.heap.size + 1]? = some (.cells #[.string ⟨#[97]⟩, .string ⟨#[97, 47, 98]⟩, .string ⟨#[97, 98]⟩, .string ⟨#[105, 110, 98, 111, 120]⟩] 9 (0, 0)) := by
    have := heap_alloc_new (w.alloc (.cells #[] 30)) (.cells #[.string ⟨#[97]⟩, .string ⟨#[97, 47, 98]⟩, .string ⟨#[97, 98]⟩, .string ⟨#[105, 110, 98, 111, 120]⟩] 9)
    rwa [World.size_alloc] at this
  have HST := Lib.hid hst
  have HN := Lib.hid hN
  have HL := Lib.hid hlt
  clear hc hst hN hlt
  go_enter Try.func61, Try.ntmps61
  go_wp2_with fail
  go_loopw [3, 5, 6] (fun v n i wr => ∃ (k j : Nat) (l : List BoxD) (fp : List Nat), k ≤ 4 ∧ j ≤ k ∧ i = .int .i64 k ∧ n = .int .i64 j ∧ l.length ≤ k ∧ (∀ x ∈ l, BoxQ 5 x) ∧ BsS w g code l v fp wr ∧ wr.heap[w.heap.size + 1]? = some (.cells #[.string ⟨#[97]⟩, .string ⟨#[97, 47, 98]⟩, .string ⟨#[97, 98]⟩, .string ⟨#[105, 110, 98, 111, 120]⟩] 9 (0, 0)) ∧ w.heap.size + 1 ∉ fp) (fun _ _ i _ => 4 - (intOf i).toNat)
  case atStart => exact ⟨0, 0, [], _, by omega, by omega, rfl, rfl, by simp, by simp, HST.out, HN.out, by simp⟩
  case round =>
    obtain ⟨k, j, l, fp, hk, hj, rfl, rfl, hll, hsm, hs, hN, hnf⟩ := hrel
    obtain ⟨p, c, rfl⟩ := hs.slice
    have HLL := Lib.hid hll
    have HSM := Lib.hid hsm
    have HNF := Lib.hid hnf
    clear HST HN hll hsm hnf
    by_cases hlt2 : k < 4
    case neg =>
      obtain rfl : k = 4 := by omega
      go_wp2
      go_ret
      exact ⟨l, _, fp, rfl, HLL.out, HSM.out, hs⟩
    go_wp2_with fail
    refine (l1Once_any g code _ 3 (by omega) _ hs.cur (by omega) (by omega)).mono ?_
    rintro e w1 ⟨b, rfl, hc1, hg1⟩
    have hs1 := hs.draw hg1 hc1
    have hN1 := (hg1.block _ (Array.getElem?_eq_some_iff.1 hN).1 (by intro e; injection e with e; have := HL.out; omega)).trans hN
    clear hs hc1 hg1 hN
    cases b with
    | true =>
      go_wp2
      go_roundw
      case rel => exact ⟨k + 1, j, l, fp, by omega, by omega, by go_num, rfl, by have := HLL.out; omega, HSM.out, hs1, hN1, HNF.out⟩
      case measure => simp [intOf]; omega
    | false =>
      have HN1 := Lib.hid hN1
      obtain ⟨nm, hnm, hnl⟩ : ∃ nm : List UInt8, w1.cell? ⟨w.heap.size + 1, k, none⟩ = some (sv nm) ∧ nm.length ≤ 41 := by
        rcases (show k = 0 ∨ k = 1 ∨ k = 2 ∨ k = 3 by omega) with rfl | rfl | rfl | rfl
        · exact ⟨[97], (Lib.cell_of_heap hN1 0).trans rfl, by decide⟩
        · exact ⟨[97, 47, 98], (Lib.cell_of_heap hN1 1).trans rfl, by decide⟩
        · exact ⟨[97, 98], (Lib.cell_of_heap hN1 2).trans rfl, by decide⟩
        · exact ⟨[105, 110, 98, 111, 120], (Lib.cell_of_heap hN1 3).trans rfl, by decide⟩
      clear hN1
      go_wp2_with fail
      refine (l9Box_any g code nm _ _ hs1.cur).mono ?_
      rintro e w2 ⟨nx, vm, ms, rfl, hnx, hml, hms, hom, hc2, hg2⟩
      obtain ⟨pm, cm, rfl⟩ := own_form hom
      have hs2 := hs1.draw hg2 hc2
      have hz2 := hg2.size
      have hg1z := (Array.getElem?_eq_some_iff.1 HN1.out).1
      have HN2 := Lib.hid ((hg2.block _ hg1z (by intro e; injection e with e; have := HL.out; omega)).trans HN1.out)
      have hfl : ∀ q ∈ fp, q < w1.heap.size := hs1.tree.lt
      clear hs1 hc2 hg2 HN1 hnm
      have hzw := hs2.grown.size
      have hvb : in64 (1 + ((j : Int) + 1) * 3 % 7) := ⟨by omega, by omega⟩
      obtain ⟨v0, hv0⟩ : ∃ v0, 1 + ((j : Int) + 1) * 3 % 7 = v0 := ⟨_, rfl⟩
      rw [hv0] at hvb ⊢
      clear hv0
      obtain ⟨hu, hfx, hfq⟩ := box_rec (nm := nm) (v := v0) (nx := nx) hom
      obtain ⟨xs, fq, hrow, hx, hf⟩ := hs2.row
      have hsmx : BoxQ 5 ⟨nm, v0, nx, ms⟩ := ⟨hnl, hvb, ⟨by simp only; omega, by simp only; omega⟩, by simp only; omega, hms⟩
      have HSX := Lib.hid hsmx
      clear hsmx hvb hnl hnx hms
      go_wp2_with (at_builtin; refine wpList_app1 Try.el_box rfl (.tmp 18) (.tmp 29) rfl w2 w2 (.slice p l.length c) l.length xs rfl hrow (Below.refl _ _) hzw #[sv nm, .int .i64 v0, .int .i64 nx, .slice pm ms.length cm] (.inr rfl) 1 1 rfl rfl (by simp [Value.oneCell']) (by omega) (by have := HLL.out; omega) (by have := HLL.out; omega) ?_)
      intro gn cap w4 ho4 hb4 hg4 hor4 hlt4
      obtain ⟨fp', hs4, hfp'⟩ := hs2.snoc hu hfx (fun q hq => by have := (hfq q hq).1; omega) (fun q hq hm => by have := (hfq q hq).1; have := hfl q hm; omega) hx hf ho4 hg4 hor4
      have hvo : ∀ q, (Value.slice p l.length c).ownBlock = some q → q ≠ w.heap.size + 1 := fun q hq e => HNF.out (by rw [hf, hq, e]; simp)
      have hN4 := (hg4.block _ (Array.getElem?_eq_some_iff.1 HN2.out).1 (by intro e; exact hvo _ e.symm rfl)).trans HN2.out
      have hnf4 : w.heap.size + 1 ∉ fp' := fun hm => by
        rcases hfp' _ hm with h | h | h
        · exact HNF.out h
        · have := (hfq _ h).1; omega
        · rcases hor4 with h1 | h1
          · exact hvo _ h1 h.symm
          · omega
      have HN4 := Lib.hid hN4
      clear hb4 hg4 hor4 hlt4 ho4 hs2 hrow hx hf hu hfx hfq hom hfl hfp' hvo hN4
      go_wp2
      go_roundw
      case rel => exact ⟨k + 1, j + 1, _, fp', by omega, by omega, by go_num, by go_num, by have := HLL.out; simp; omega, by
        intro x hx
        rcases List.mem_append.1 hx with hx | hx
        · exact HSM.out x hx
        · rw [List.mem_singleton.1 hx]; exact HSX.out, hs4, HN4.out, hnf4⟩
      case measure => simp [intOf]; omega
end Go.Proofs.Ytboinphhpfggnaa
