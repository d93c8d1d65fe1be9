/-
  Chapter 4's walks: the program's ReadSet.
-/
import Derived.Test.YtkajjkjimpdbbaaDoorSetT
import Derived.Test.YtkajjkjimpdbbaaDoorMx
import Derived.WalkSmall
namespace Go.Proofs.YtkajjkjimpdbbaaDoor
open Go.RowKit
open Go.Lib (decDigits itoa)

/-! ### What is before and behind the first separator -/

theorem idx1_eq (b c : UInt8) (l : List UInt8) : Lib.index (b :: l) [c] = if [c].isPrefixOf (b :: l) = true then 0 else if (Lib.index l [c] == -1) = true then -1 else Lib.index l [c] + 1 := by rw [Lib.index]
theorem idx1_none (c : UInt8) : ∀ (l : List UInt8), (∀ b ∈ l, b ≠ c) → Lib.index l [c] = -1
  | [], _ => rfl
  | b :: l, h => by
    have hp : [c].isPrefixOf (b :: l) = false := by
      have : (c == b) = false := beq_eq_false_iff_ne.2 (h b (by simp)).symm
      simp [List.isPrefixOf, this]
    rw [idx1_eq, hp, idx1_none c l (fun x hx => h x (by simp [hx]))]
    rfl
theorem idx1_hit (c : UInt8) : ∀ (m r : List UInt8), (∀ b ∈ m, b ≠ c) → Lib.index (m ++ c :: r) [c] = (m.length : Int)
  | [], r, _ => by
    have hp : [c].isPrefixOf (c :: r) = true := by simp [List.isPrefixOf]
    rw [List.nil_append, idx1_eq, hp]
    rfl
  | b :: m, r, h => by
    have hp : [c].isPrefixOf (b :: (m ++ c :: r)) = false := by
      have : (c == b) = false := beq_eq_false_iff_ne.2 (h b (by simp)).symm
      simp [List.isPrefixOf, this]
    rw [List.cons_append, idx1_eq, hp, idx1_hit c m r (fun x hx => h x (by simp [hx]))]
    have : (((m.length : Int) == -1) = true) = False := by simp <;> omega
    simp only [this, if_false, List.length_cons]
    rfl
theorem cut1_none {c : UInt8} {l : List UInt8} (h : ∀ b ∈ l, b ≠ c) : Lib.cut l [c] = (l, [], false) := by
  unfold Lib.cut
  rw [idx1_none c l h]
  rfl
theorem cut1_hit {c : UInt8} {m r : List UInt8} (h : ∀ b ∈ m, b ≠ c) : Lib.cut (m ++ c :: r) [c] = (m, r, true) := by
  unfold Lib.cut
  rw [idx1_hit c m r h, if_pos (by omega)]
  simp only [Int.toNat_natCast, List.length_singleton, List.take_left]
  rw [show m.length + 1 = m.length + 1 from rfl, List.drop_append, List.drop_of_length_le (by omega)]
  simp
theorem cut_le (l sep : List UInt8) : (Lib.cut l sep).1.length ≤ l.length ∧ (Lib.cut l sep).2.1.length ≤ l.length := by
  unfold Lib.cut
  split
  · exact ⟨by simp only [List.length_take]; omega, by simp only [List.length_drop]; omega⟩
  · exact ⟨Nat.le_refl _, by simp⟩

theorem own_mono' {w : World} {B B' n s : Nat} {e : TypeId} {v : Value} {xs : List Value} (h : w.ownsRow B e s v n xs) (hb : B' ≤ B) : w.ownsRow B' e s v n xs := by
  refine ⟨h.1, ?_⟩
  rcases h.2 with h0 | ⟨g, cap, cur, hv, h1, h2⟩
  · exact .inl h0
  · exact .inr ⟨g, cap, cur, hv, Nat.le_trans hb h1, h2⟩

/-- What the program reads of a word. -/
def cutS (w : List UInt8) : Spn := ⟨l4n (Lib.cut w [58]).1, if (Lib.cut w [58]).2.2 = true then l4n (Lib.cut w [58]).2.1 else l4n (Lib.cut w [58]).1⟩
theorem cutS_spn {s : Spn} (h : spnB s = true) : cutS (spnT s) = s := by
  unfold spnB at h
  simp only [Bool.and_eq_true] at h
  unfold cutS spnT
  by_cases he : s.high = s.low
  · rw [if_pos he, cut1_none (fun b hb => (numT_bytes h.1 b hb).1)]
    show (⟨l4n (numT s.low), l4n (numT s.low)⟩ : Spn) = s
    rw [l4n_num h.1]
    cases s
    simp only at he
    rw [he]
  · rw [if_neg he, cut1_hit (fun b hb => (numT_bytes h.1 b hb).1)]
    show (⟨l4n (numT s.low), l4n (numT s.high)⟩ : Spn) = s
    rw [l4n_num h.1, l4n_num h.2]
def progS (s : List UInt8) : List Spn := (partsl 44 s).map cutS
theorem progS_setT {l : List Spn} (h : setB l = true) : progS (setT l) = l := by
  obtain ⟨h1, h2, h3⟩ := setB_parts h
  unfold progS
  rw [setT_parts h, List.map_map]
  conv => rhs; rw [← List.map_id l]
  exact List.map_congr_left fun s hs => cutS_spn (h1 s hs)
theorem progS_yes {s : List UInt8} (h : setT (progS s) = s) : readS s = some (progS s) := by
  rw [readS_iff]
  refine ⟨?_, h⟩
  cases hb : setB (progS s) with
  | true => rfl
  | false =>
    have h0 : setT (progS s) = [] := by unfold setT; rw [hb]; rfl
    have hs : s = [] := by rw [← h, h0]
    rw [hs] at hb
    exact absurd hb (by decide)
theorem progS_no {s : List UInt8} (h : ¬ setT (progS s) = s) : readS s = none :=
  readS_none fun l hl ht => h (by rw [← ht, progS_setT hl])
theorem numV_l4n (l : List UInt8) : ∃ b, numV l = .tuple #[.int .i64 (l4n l), .bool b] := by
  unfold numV l4n
  cases numl l with
  | none => exact ⟨_, rfl⟩
  | some n => exact ⟨_, rfl⟩
theorem l4n_in64 (l : List UInt8) : 0 ≤ l4n l := by
  unfold l4n
  cases numl l with
  | none => exact Int.le_refl _
  | some n => exact Int.natCast_nonneg _

theorem blk_two {w : World} {b : Nat} {x0 x1 : Value} {e : TypeId} (h : w.heap[b]? = some (.cells #[x0, x1] e (0, 0))) :
    w.cell? ⟨b, 0, none⟩ = some x0 ∧ w.cell? ⟨b, 1, none⟩ = some x1 ∧ w.frozen? ⟨b, 0, none⟩ = false ∧ w.frozen? ⟨b, 1, none⟩ = false ∧
    (∀ v, (w.setCell ⟨b, 0, none⟩ v).cell? ⟨b, 0, none⟩ = some v) ∧ (∀ v v', ((w.setCell ⟨b, 0, none⟩ v).setCell ⟨b, 1, none⟩ v').cell? ⟨b, 1, none⟩ = some v') := by
  have h0 : w.cell? ⟨b, 0, none⟩ = some x0 := (Lib.cell_of_heap h 0).trans rfl
  have h1 : w.cell? ⟨b, 1, none⟩ = some x1 := (Lib.cell_of_heap h 1).trans rfl
  refine ⟨h0, h1, frozen_of_row w b 0 _ e h, frozen_of_row w b 1 _ e h, fun v => World.cell?_setCell_same w _ _ h0, fun v v' => World.cell?_setCell_same _ _ _ (u := x1) ?_⟩
  rw [World.cell?_setCell_other w _ _ _ (by intro hh; injection hh with _ h2; cases h2)]
  exact h1

def TM (W : World) : Prop := Tab W ∧ Mx W
theorem TM.keeps : Keeps TM := fun _ _ h hb => ⟨h.1.below hb, h.2.below hb⟩

set_option maxHeartbeats 1600000 in
theorem spanIn_any (s : ByteArray) (w : World) (hM : Mx w) (hs : s.size ≤ 1048576) :
    Calls Tryd.prog 18 #[.string s] w fun e w' => e = .returned (spnv (cutS s.data.toList)) ∧ Below w.heap.size w w' := by
  obtain ⟨m, hm⟩ := hM
  have hbA : Below w.heap.size w (w.alloc (.cells #[.int .i64 0, .int .i64 0] 37)) := (Below.refl _ _).alloc (Nat.le_refl _) _
  have hmA := (hbA.cell (p := ⟨0, 0, none⟩) (World.block_lt_of_cell? _ _ hm)).trans hm
  have c1 := Tryd.strings_Cut s ⟨#[58]⟩ m _ (by omega) hmA
  rw [show (ByteArray.mk #[58]).data.toList = [58] from rfl] at c1
  have hle := cut_le s.data.toList [58]
  have HV : cutS s.data.toList = ⟨l4n (Lib.cut s.data.toList [58]).1, if (Lib.cut s.data.toList [58]).2.2 = true then l4n (Lib.cut s.data.toList [58]).2.1 else l4n (Lib.cut s.data.toList [58]).1⟩ := rfl
  obtain ⟨⟨a, b, f⟩, hcut⟩ : ∃ q, Lib.cut s.data.toList [58] = q := ⟨_, rfl⟩
  rw [hcut] at c1 hle HV
  simp only at c1 hle HV
  rw [str_len] at hle
  have haz : (ByteArray.mk a.toArray).size ≤ 1048576 := by show a.toArray.size ≤ _; simp; omega
  have hbz : (ByteArray.mk b.toArray).size ≤ 1048576 := by show b.toArray.size ≤ _; simp; omega
  have c2 := fun W => implNumber_any ⟨a.toArray⟩ W haz
  have c3 := fun W => implNumber_any ⟨b.toArray⟩ W hbz
  obtain ⟨q1, hq1⟩ := numV_l4n a
  obtain ⟨q2, hq2⟩ := numV_l4n b
  rw [show (ByteArray.mk a.toArray).data.toList = a from rfl, hq1] at c2
  rw [show (ByteArray.mk b.toArray).data.toList = b from rfl, hq2] at c3
  have C1 := Lib.hid c1
  have C2 := Lib.hid c2
  have C3 := Lib.hid c3
  clear c1 c2 c3 hcut hle haz hbz hq1 hq2 hm hmA
  generalize cutS s.data.toList = R at *
  generalize l4n a = x at *
  generalize l4n b = y at *
  have hblkA : (w.alloc (.cells #[.int .i64 0, .int .i64 0] 37)).heap[w.heap.size]? = some (.cells #[.int .i64 0, .int .i64 0] 37 (0, 0)) := heap_alloc_new w _
  have HA := Lib.hid hblkA
  have HZ := Lib.hid (show (w.alloc (.cells #[.int .i64 0, .int .i64 0] 37)).heap.size = w.heap.size + 1 by simp)
  clear hblkA
  cases f with
  | false =>
    have HV2 := Lib.hid (show R = ⟨x, x⟩ from HV)
    clear HV
    go_enter Tryd.func18, Tryd.ntmps18
    go_wp2_with fail
    refine (C1.out).mono ?_
    rintro e w1 ⟨rfl, k, rfl⟩
    go_wp2_with fail
    refine (C2.out _).mono ?_
    rintro e w2 ⟨rfl, b2⟩
    have hb := (below_drewN hbA k).trans (b2.mono (by show _ ≤ (w.alloc _).heap.size; rw [HZ.out]; omega))
    have hblk := (b2.block w.heap.size (by show _ < (w.alloc _).heap.size; rw [HZ.out]; omega)).trans HA.out
    obtain ⟨hc0, hc1, hf0, hf1, hs0, hs1⟩ := blk_two hblk
    clear b2 hblk
    go_wp2
    exact bodyPost_ret (v := spnv ⟨x, x⟩) (by simp [results, Tryd.results18, go_sem, hs0, hs1]) rfl ⟨by rw [HV2.out], (hb.setCell (Nat.le_refl _) _).setCell (Nat.le_refl _) _⟩
  | true =>
    have HV2 := Lib.hid (show R = ⟨x, y⟩ from HV)
    clear HV
    go_enter Tryd.func18, Tryd.ntmps18
    go_wp2_with fail
    refine (C1.out).mono ?_
    rintro e w1 ⟨rfl, k, rfl⟩
    go_wp2_with fail
    refine (C2.out _).mono ?_
    rintro e w2 ⟨rfl, b2⟩
    have hb := (below_drewN hbA k).trans (b2.mono (by show _ ≤ (w.alloc _).heap.size; rw [HZ.out]; omega))
    have hblk := (b2.block w.heap.size (by show _ < (w.alloc _).heap.size; rw [HZ.out]; omega)).trans HA.out
    have hz2 := hb.size
    have hlt2 : w.heap.size < w2.heap.size := (Array.getElem?_eq_some_iff.1 hblk).1
    clear b2 hbA
    go_wp2_with fail
    refine (C3.out _).mono ?_
    rintro e w3 ⟨rfl, b3⟩
    have hb3 := hb.trans (b3.mono hz2)
    have hblk3 := (b3.block w.heap.size hlt2).trans hblk
    obtain ⟨hc0, hc1, hf0, hf1, hs0, hs1⟩ := blk_two hblk3
    clear b3 hblk hblk3 hb
    go_wp2
    exact bodyPost_ret (v := spnv ⟨x, y⟩) (by simp [results, Tryd.results18, go_sem, hs0, hs1]) rfl ⟨by rw [HV2.out], (hb3.setCell (Nat.le_refl _) _).setCell (Nat.le_refl _) _⟩

set_option maxHeartbeats 3200000 in
theorem implReadSet_any : ImplReadSet TM := by
  intro s w hG hs
  obtain ⟨l, rfl⟩ : ∃ l : List UInt8, s = ⟨l.toArray⟩ := ⟨s.data.toList, by cases s; simp⟩
  have C1 := Lib.hid (implParts_any ⟨l.toArray⟩ 44 w hs)
  have hll : l.length ≤ 1048576 := by have : l.toArray.size ≤ 1048576 := hs; simpa using this
  rw [show (ByteArray.mk l.toArray).data.toList = l from rfl] at C1 ⊢
  have HG := Lib.hid hG
  have hpl : (partsl 44 l).length ≤ 1048577 := by have := partsl_length 44 l; omega
  have HPL := Lib.hid (fun x hx => part_le 44 l x hx)
  have HSL := Lib.hid hll
  have HPr := Lib.hid (show progS l = (partsl 44 l).map cutS from rfl)
  generalize hws : partsl 44 l = ws at *
  clear hws hG
  go_enter Tryd.func7, Tryd.ntmps7
  go_wp2_with fail
  refine (C1.out).mono ?_
  rintro e w1 ⟨v1, rfl, o1, b1⟩
  have HB1 := Lib.hid b1
  have hz1 := b1.size
  have HRW := Lib.hid (Rd1.of_own (enc := sv) o1)
  obtain ⟨pw, cw, rfl, _⟩ := HRW.out.ex
  clear b1 o1 C1
  go_wp2
  go_loopw [4, 10] (fun u i wr => ∃ k : Nat, k ≤ ws.length ∧ i = .int .i64 k ∧ wr.ownsRow w1.heap.size 37 2 u k (((ws.take k).map cutS).flatMap spnc) ∧ Below w1.heap.size w1 wr) (fun _ i _ => ws.length - (intOf i).toNat)
  case atStart => exact ⟨0, by omega, rfl, World.ownsRow_nil _ _ _ _, Below.refl _ _⟩
  case round =>
    obtain ⟨k, hk, rfl, hown, hbr⟩ := hrel
    have hbr0 := hbr.size
    by_cases hlt : k < ws.length
    · obtain ⟨p', c', hv, hp⟩ := HRW.out.ex
      injection hv with e1 _ e2
      subst e1 e2
      obtain ⟨b, off, rfl, hb1, hcell⟩ := hp.resolve_left (by intro h; subst h; simp at hlt)
      obtain ⟨x, hx⟩ : ∃ x, ws[k]? = some x := ⟨_, List.getElem?_eq_getElem hlt⟩
      have e1 : wr.cell? ⟨b, off + k, none⟩ = some (sv x) := (hbr.cell (p := ⟨b, off + k, none⟩) hb1).trans (hcell k x hx)
      have hxz : (ByteArray.mk x.toArray).size ≤ 1048576 := by
        have h1 := HPL.out x (List.mem_of_getElem? hx)
        have h2 := HSL.out
        show x.toArray.size ≤ _
        simp
        omega
      have c2 := spanIn_any ⟨x.toArray⟩ wr ((TM.keeps _ _ HG.out (HB1.out.trans (hbr.mono hz1))).2) hxz
      rw [show (ByteArray.mk x.toArray).data.toList = x from rfl] at c2
      have C2 := Lib.hid c2
      have HTK := Lib.hid (show ((ws.take (k + 1)).map cutS).flatMap spnc = ((ws.take k).map cutS).flatMap spnc ++ spnc (cutS x) by rw [take_at hx]; simp)
      generalize cutS x = q at *
      clear hcell hx hp hxz c2
      go_wp2_with fail
      refine (C2.out).mono ?_
      rintro e w2 ⟨rfl, b2⟩
      have o2 := ownsRow_below hown b2
      have hb2 := hbr.trans (b2.mono hbr0)
      have hz2 := hb2.size
      clear hown hbr b2 C2 e1
      go_wp2_with (at_builtin; refine wpList_app1 Tryd.el_spn rfl (.tmp 14) (.tmp 17) rfl w1 w2 u4 k _ rfl o2 hb2 hz2 #[.int .i64 q.low, .int .i64 q.high] (.inr rfl) 1 1 rfl rfl (by simp [Value.oneCell']) (by omega) (by omega) (by omega) ?_)
      intro g cap w3 hown3 hb3 _ _ _
      clear o2 hb2
      go_wp2
      go_roundw
      case rel => exact ⟨k + 1, by omega, by go_num, by rw [HTK.out]; simpa [spnc] using hown3, hb3⟩
      case measure => simp [intOf]; omega
    · obtain rfl : k = ws.length := by omega
      rw [List.take_length, ← HPr.out] at hown
      have hbw := HB1.out.trans (hbr.mono hz1)
      have hpz : (progS l).length = ws.length := by rw [HPr.out]; simp
      have HPZ := Lib.hid hpz
      have HY := Lib.hid (fun h => progS_yes (s := l) h)
      have HN := Lib.hid (fun h => progS_no (s := l) h)
      have CS := Lib.hid (implSetText_big u4 (progS l) wr (TM.keeps _ _ HG.out hbw).1 (Rd.of_own (fun _ => rfl) hpz hown) (by omega))
      clear hpz HPr HPL HRW
      generalize progS l = P at *
      obtain ⟨q, hq⟩ : ∃ q, setT P = q := ⟨_, rfl⟩
      rw [hq] at CS HY HN
      have hbwz := hbw.size
      clear hq
      by_cases he : q = l
      · have hne : (q == l) = true := by rw [he]; simp
        have HR := Lib.hid (HY.out he)
        clear HY HN he
        go_wp2_with fail
        refine (CS.out).mono ?_
        rintro e w2 ⟨rfl, b2⟩
        have o2 := ownsRow_below hown b2
        have hb2 := hbw.trans (b2.mono hbwz)
        clear hown b2 CS hbw
        go_wp2
        go_ret2
        exact ⟨_, by rw [HR.out]; rfl, by rw [HR.out]; show World.ownsRow _ _ _ _ _ P.length _; rw [HPZ.out]; exact own_mono' o2 hz1, hb2⟩
      · have hne : (q == l) = false := by simpa using he
        have HR := Lib.hid (HN.out he)
        clear HY HN he
        go_wp2_with fail
        refine (CS.out).mono ?_
        rintro e w2 ⟨rfl, b2⟩
        have hb2 := hbw.trans (b2.mono hbwz)
        clear hown b2 CS hbw
        go_wp2
        go_ret2
        exact ⟨_, by rw [HR.out]; rfl, by rw [HR.out]; exact World.ownsRow_nil _ _ _ _, hb2⟩

end Go.Proofs.YtkajjkjimpdbbaaDoor
