/-
  Uu: CmdS SetN SetO SetP SetT (what the claim needs of them).
-/
import Derived.Handy
import Derived.Laws.IdiomRangeMap
import Derived.Maps.RangeRun
import Derived.WalkKit
import Derived.Maps.RangeWalk
import Derived.Deep.DeepCutAuto
import Derived.Deep.Cut
import Derived.Deep.CutRange
import Derived.Lib.Fields
import Derived.Lib.OwnKind
import Derived.Deep.LoopGhost
import Derived.Test.YtidjebepgpbcnaaGreatDoorRows
import Derived.WalkSpells
import Derived.WalkLawsBesides
import Derived.Laws.IdiomStrings
import Derived.Lib.Hide
import Derived.Deep.AppendLies
import Derived.OrdersHeld
import Derived.Lib.ItoaNum
import Derived.Lib.ItoaMem
import Derived.Lib.AppendStr
import Derived.Lib.ItoaLen
import Derived.Lib.Strings
import Derived.Lib.Bytealg
import Derived.Lib.OthersKept
import Derived.Laws.RangeAny
import Derived.Laws.BitsAllLaws
import Derived.Laws.BitsLemmas
import Derived.IntWalk
import Derived.Lib.Join
import Derived.Deep.Strs
import Derived.ProofKit
import Derived.Lib.SmallJoins
import Derived.Deep.SlicePairs
import Derived.Laws.CopyOwn
import Derived.Test.YtidjebepgpbcnaaGreatDoorProg
import Derived.Lib.LaidTab
import Derived.Lib.AppendIntMem
import Derived.OpenShut
import Derived.WalkSmall
import Derived.ChangeKeysEq
import Derived.Test.YtidjebepgpbcnaaGreatDoorUa
import Derived.Test.YtidjebepgpbcnaaGreatDoorUb
import Derived.Test.YtidjebepgpbcnaaGreatDoorUc
import Derived.Test.YtidjebepgpbcnaaGreatDoorUd
import Derived.Test.YtidjebepgpbcnaaGreatDoorUe
import Derived.Test.YtidjebepgpbcnaaGreatDoorUg
import Derived.Test.YtidjebepgpbcnaaGreatDoorUi
import Derived.Test.YtidjebepgpbcnaaGreatDoorUj
import Derived.Test.YtidjebepgpbcnaaGreatDoorUr
import Derived.Test.YtidjebepgpbcnaaGreatDoorUs
import Derived.Test.YtidjebepgpbcnaaGreatDoorUt

namespace Go.Proofs.YtidjebepgpbcnaaGreatDoor
open Go.RowKit

/-- Tokens that the call made. -/
structure TkC (W0 : World) (u : Value) (toks : List Tok) (wr : World) : Prop where
  own : wr.ownsRow W0.heap.size 48 2 u toks.length (toks.flatMap tokc)
  below : Below W0.heap.size W0 wr
theorem TkC.call {W0 wr w' : World} {u : Value} {toks : List Tok} (h : TkC W0 u toks wr) (hb : Below wr.heap.size wr w') : TkC W0 u toks w' :=
  ⟨ownsRow_below h.own hb, h.below.trans (hb.mono h.below.size)⟩
theorem TkC.drew {W0 wr : World} {u : Value} {toks : List Tok} (h : TkC W0 u toks wr) : TkC W0 u toks wr.drew := ⟨h.own.drew, h.below.drew⟩

/-- Blocks of another type than a token's stay. -/
def StayT (w w' : World) : Prop := ∀ (b : Nat) (cs : Array Value) (e : TypeId) (fz : Nat × Nat), e ≠ 48 → w.heap[b]? = some (.cells cs e fz) → w'.heap[b]? = some (.cells cs e fz)

section
variable {w w0 W0 : World} {ops : Array Oper} {rest : List Oper} {o : Oper} {a : Act} {u : Value} {toks : List Tok}
theorem wpList_tkc {Q : Exit → Act → World → Prop} (hgd : o.guard = none) (h : TkC W0 u toks w0) (t : Tok) (s x : Operand) (ho : o.op = .call { callee := .builtin .append, args := #[s, x], argTypes := #[29, 29] })
    (hs : a.eval s = u) (hw : w = (w0.alloc (.cells #[.int .i64 t.kind, sv t.text] 48)).drew ∨ w = w0.alloc (.cells #[.int .i64 t.kind, sv t.text] 48)) (hx : a.eval x = .slice (some ⟨w0.heap.size, 0, none⟩) 1 1) (hl : toks.length ≤ 100000)
    (hK : ∀ u' w', TkC W0 u' (toks ++ [t]) w' → StayT w0 w' → wpList Tryz.prog ops Q rest (a.put o.dst u') w') : wpList Tryz.prog ops Q (o :: rest) a w := by
  refine wpList_app1 Tryz.el_tok hgd s x ho W0 w0 u toks.length _ hs h.own h.below h.below.size #[.int .i64 t.kind, sv t.text] hw 1 1 hx rfl (by simp [Value.oneCell']) (by omega) (by omega) (by omega) ?_
  intro g cap w' h1 h2 h3 _ _
  refine hK _ _ ⟨?_, h2⟩ (fun b cs e fz he hb => ?_)
  · rw [List.length_append, List.flatMap_append]
    exact h1
  · refine (h3.block b (Array.getElem?_eq_some_iff.1 hb).1 ?_).trans hb
    intro hc
    obtain ⟨cz, fz', hk⟩ := Lib.ownsRow_kind h.own b hc.symm
    rw [hb] at hk
    injection hk with hk
    injection hk with _ hk _
    exact he hk
theorem wpList_tkcR {Q : Exit → Act → World → Prop} (hgd : o.guard = none) (h : TkC W0 u toks w) (l : List Tok) (s x : Operand) (ho : o.op = .call { callee := .builtin .append, args := #[s, x], argTypes := #[29, 29] })
    (hs : a.eval s = u) (v : Value) (hx : a.eval x = v) (hv : Rd 2 tokc w v l) (hl : toks.length + l.length ≤ 100000)
    (hK : ∀ u' w', TkC W0 u' (toks ++ l) w' → wpList Tryz.prog ops Q rest (a.put o.dst u') w') : wpList Tryz.prog ops Q (o :: rest) a w := by
  refine wpList_appR hgd Tryz.el_tok (enc := tokc) (fun _ => rfl) tok_one s x ho W0 u toks.length _ hs h.own h.below h.below.size v l hx hv (by omega) (by omega) ?_
  intro v' w' h1 h2 _
  refine hK _ _ ⟨?_, h2⟩
  rw [List.length_append, List.flatMap_append]
  exact h1
end

theorem gAsp : Tryz.prog.globalNamed "strings.asciiSpace" = some 0 := by kernel_rfl

/-- Go's own table of ASCII's spaces stands in the world. -/
structure Asp (w : World) : Prop where
  tab : Lib.TabIs Tryz.prog w "strings.asciiSpace" .u8 Lib.asciiSpaceTab
  lt : 0 < w.heap.size

theorem Asp.of_laid {w : World} (h : Lib.TabIs Tryz.prog w "strings.asciiSpace" .u8 Lib.asciiSpaceTab) : Asp w :=
  ⟨h, World.block_lt_of_cell? w _ (h.cell gAsp 0 (of_decide_eq_true (by kernel_rfl)))⟩

theorem Asp.below {w w' : World} (h : Asp w) (hb : Below w.heap.size w w') : Asp w' :=
  ⟨var?_below hb gAsp h.lt h.tab, Nat.lt_of_lt_of_le h.lt hb.size⟩

theorem sv_row_own {w : World} (l : List (List UInt8)) (hl : l.length ≤ 1000) : (w.alloc (.cells (l.map fun l => Value.string ⟨l.toArray⟩).toArray 9)).ownsRow w.heap.size 9 1 (.slice (some ⟨w.heap.size, 0, none⟩) l.length l.length) l.length (l.map sv) := by
  have := own_lit w (l.map fun l => Value.string ⟨l.toArray⟩).toArray l.length 9 1 w.heap.size (Nat.le_refl _) (by unfold maxLen; omega) (by simp)
  simpa using this

set_option maxHeartbeats 1600000 in
theorem flagGroup_any (n : Int) (w : World) (hF : Fw w) (hA : Asp w) (hn : flB n = true) :
    Calls Tryz.prog 32 #[.int .i64 n] w (TksPost (grpF (flTo n.toNat 5)) w) := by
  have C1 := Lib.hid (fun W h => implFlagsText_at n W h)
  have HF := Lib.hid hF
  have HA := Lib.hid hA
  have HN := Lib.hid hn
  clear hF hA hn
  go_enter Tryz.func32, Tryz.ntmps32
  go_wp2_with fail
  refine (C1.out _ HF.out).mono ?_
  rintro e w1 ⟨rfl, b1⟩
  have HB1 := Lib.hid b1
  have hc := Tryz.strings_Fields ⟨(flT n).toArray⟩ w1 (by show (flT n).toArray.size < _; have := flT_len n; simp; omega) (fun j b hb => flT_ascii n b (List.mem_of_getElem? (by simpa using hb))) (HA.out.below b1).tab
  rw [show (ByteArray.mk (flT n).toArray).data.toList = flT n by simp, flT_fields HN.out] at hc
  have HC := Lib.hid hc
  clear b1 hc
  go_wp2_with fail
  refine HC.out.mono ?_
  rintro e w2 ⟨rfl, hw2⟩
  have hl5 := flTo_len n.toNat 5
  have ho := sv_row_own (w := w1) (flTo n.toNat 5) (by omega)
  have b2 : Below w1.heap.size w1 w2 := by rw [hw2]; exact (Below.refl _ _).alloc (Nat.le_refl _) _
  rw [← hw2] at ho
  have hr : Rd1 sv w2 (.slice (some ⟨w1.heap.size, 0, none⟩) (flTo n.toNat 5).length (flTo n.toNat 5).length) (flTo n.toNat 5) := Rd1.of_own (enc := sv) ho
  have hb2 := HB1.out.trans (b2.mono HB1.out.size)
  have C3 := Lib.hid (atomGroup_any _ (flTo n.toNat 5) w2 hr (by omega))
  clear hw2 ho b2 hr
  go_wp2_with fail
  refine C3.out.mono ?_
  rintro e w3 ⟨v, rfl, o3, b3⟩
  have hb3 := hb2.trans (b3.mono hb2.size)
  have o3' := own_lower o3 hb2.size
  clear b3 hb2 o3
  go_wp2
  go_ret
  exact ⟨_, rfl, o3', hb3⟩

end Go.Proofs.YtidjebepgpbcnaaGreatDoor

namespace Go.Proofs.YtidjebepgpbcnaaGreatDoor
open Go.RowKit
open Go.Lib (decDigits itoa)

theorem l4Text_any (n : Int) (w : World) (hn : in64 n) :
    Calls Tryz.prog 53 #[.int .i64 n] w fun e w' => e = .returned (sv (numT n)) ∧ Below w.heap.size w w' := by
  have C1 := Lib.hid (fun W => specDigits_any n W hn.1 hn.2)
  cases h : (n == 0) with
  | true =>
    have HV := Lib.hid (show numT n = [42] by unfold numT; rw [if_pos (beq_iff_eq.1 h)])
    go_enter Tryz.func53, Tryz.ntmps53
    go_wp2
    go_ret
    exact ⟨by rw [HV.out]; rfl, Below.refl _ _⟩
  | false =>
    have HV := Lib.hid (show numT n = itoa n by unfold numT; rw [if_neg (beq_eq_false_iff_ne.1 h)])
    go_enter Tryz.func53, Tryz.ntmps53
    go_wp2_with fail
    refine (C1.out _).mono ?_
    rintro e w1 ⟨rfl, b1⟩
    go_wp2
    go_ret
    exact ⟨by rw [HV.out]; rfl, b1⟩

theorem szl_le {m : Nat} : ∀ (l : List (List UInt8)), (∀ x ∈ l, x.length ≤ m) → szl l ≤ m * l.length
  | [], _ => by simp [szl]
  | a :: l, h => by
    have h1 := h a (by simp)
    have h2 := szl_le l (fun x hx => h x (by simp [hx]))
    have e : szl (a :: l) = a.length + szl l := by simp [szl]
    rw [e, List.length_cons, Nat.mul_succ]
    omega
theorem numB_in64 {n : Int} (h : numB n = true) : in64 n := by
  obtain ⟨k, rfl, hk⟩ := num_nat h
  exact ⟨by omega, by omega⟩

set_option maxHeartbeats 1600000 in
theorem specSetText_any (v : Value) (l : List Spn) (w : World) (hr : Rd 2 spnc w v l) (hl : l.length ≤ 140737488355328) :
    Calls Tryz.prog 21 #[v] w fun e w' => e = .returned (sv (setT l)) ∧ Below w.heap.size w w' := by
  have c1 := specSetOk_any v l w hr hl
  cases hb : setB l with
  | false =>
    rw [hb] at c1
    have C1 := Lib.hid c1
    have HV := Lib.hid (show setT l = [] by unfold setT; rw [if_neg (by rw [hb]; simp)])
    clear c1 hb
    go_enter Tryz.func21, Tryz.ntmps21
    go_wp2_with fail
    refine (C1.out).mono ?_
    rintro e w1 ⟨rfl, rfl⟩
    go_wp2
    go_ret
    exact ⟨by rw [HV.out]; rfl, Below.refl _ _⟩
  | true =>
    rw [hb] at c1
    have C1 := Lib.hid c1
    obtain ⟨hs1, hs2, hs3⟩ := setB_parts hb
    have HS := Lib.hid hs1
    have HV := Lib.hid (show setT l = Lib.join (l.map spnT) [44] by unfold setT; rw [if_pos hb])
    obtain ⟨p, c, rfl, hp⟩ := hr.ex
    have HP := Lib.hid hp
    have hoA : (w.alloc (.cells #[] 9)).ownsRow w.heap.size 9 1 (.slice (some ⟨w.heap.size, 0, none⟩) 0 0) 0 [] := World.ownsRow_made w #[] 0 (Nat.le_refl _) (by unfold maxLen; omega) (by simp)
    have HOA := Lib.hid hoA
    clear c1 hb hp hr hs1 hoA
    go_enter Tryz.func21, Tryz.ntmps21
    go_wp2_with fail
    refine (C1.out).mono ?_
    rintro e w1 ⟨rfl, rfl⟩
    clear C1
    go_wp2
    go_loopw [3, 4] (fun v i wr => ∃ k : Nat, k ≤ l.length ∧ i = .int .i64 k ∧ wr.ownsRow w.heap.size 9 1 v k (((l.take k).map spnT).map sv) ∧ Below w.heap.size w wr) (fun _ i _ => l.length - (intOf i).toNat)
    case atStart => exact ⟨0, by omega, rfl, HOA.out, (Below.refl _ _).alloc (Nat.le_refl _) _⟩
    case round =>
      obtain ⟨k, hk, rfl, hown, hbr⟩ := hrel
      have hbr0 := hbr.size
      clear HOA
      by_cases hlt : k < l.length
      · obtain ⟨b, off, rfl, hb1, hcell⟩ := HP.out.resolve_left (by intro h; subst h; simp at hlt)
        obtain ⟨t, ht⟩ : ∃ t, l[k]? = some t := ⟨_, List.getElem?_eq_getElem hlt⟩
        have htb := HS.out t (List.mem_of_getElem? ht)
        have hnb := htb
        unfold spnB at hnb
        simp only [Bool.and_eq_true] at hnb
        have e1 : wr.cell? ⟨b, off + k * 2, none⟩ = some (.int .i64 t.low) := (hbr.cell (p := ⟨b, off + k * 2, none⟩) hb1).trans (hcell k t ht 0 _ rfl)
        have e2 : wr.cell? ⟨b, off + k * 2 + 1, none⟩ = some (.int .i64 t.high) := (hbr.cell (p := ⟨b, off + k * 2 + 1, none⟩) hb1).trans (hcell k t ht 1 _ rfl)
        have hbw : b < wr.heap.size := Nat.lt_of_lt_of_le hb1 hbr0
        have D1 := Lib.hid (fun W => l4Text_any t.low W (numB_in64 hnb.1))
        have D2 := Lib.hid (fun W => l4Text_any t.high W (numB_in64 hnb.2))
        have hl1 := (numT_len hnb.1).2
        have hl2 := (numT_len hnb.2).2
        have hq1 : (ByteArray.mk (numT t.low).toArray).size = (numT t.low).length := by show (numT t.low).toArray.size = _; simp
        have hq2 : (ByteArray.mk (numT t.high).toArray).size = (numT t.high).length := by show (numT t.high).toArray.size = _; simp
        have HTK := Lib.hid (show ((l.take (k + 1)).map spnT).map sv = ((l.take k).map spnT).map sv ++ [sv (spnT t)] by rw [take_at ht]; simp)
        clear hcell HP ht hnb htb
        go_wp2_with fail
        refine (D1.out _).mono ?_
        rintro e w2 ⟨rfl, b2⟩
        have f1 := (b2.cell (p := ⟨b, off + k * 2, none⟩) hbw).trans e1
        have f2 := (b2.cell (p := ⟨b, off + k * 2 + 1, none⟩) hbw).trans e2
        have o2 := ownsRow_below hown b2
        have hb2 := hbr.trans (b2.mono hbr0)
        have hz2 := hb2.size
        have hbw2 : b < w2.heap.size := Nat.lt_of_lt_of_le hbw b2.size
        clear e1 e2 hown hbr b2 D1
        cases hne : (t.high == t.low) with
        | true =>
          have hne2 : (t.high != t.low) = false := by simp only [bne, hne]; rfl
          have HW := Lib.hid (show sv (spnT t) = sv (numT t.low) by unfold spnT; rw [if_pos (beq_iff_eq.1 hne)])
          go_wp2
          refine ord_start [(0, true), (1, true), (2, true), (3, true), (4, true), (5, true), (6, true), (7, true), (8, true), (9, true), (10, true)] (fun W => W.cell? ⟨b, off + k * 2, none⟩ = some (.int .i64 t.low) ∧ W.cell? ⟨b, off + k * 2 + 1, none⟩ = some (.int .i64 t.high)) (by kernel_rfl) (by kernel_rfl) rfl (by kernel_rfl) ?_
          intro ops' hops
          clear hops
          simp only [List.map_cons, List.map_nil, pickOp_zero, pickOp_succ]
          iterate 11 (refine ord_flo ?_ (fun _ _ _ h => h) rfl ?_ ⟨f1, f2⟩ ?_; rotate_left; focus (intro W hS; obtain ⟨s1, s2⟩ := hS; go_simp; rfl))
          refine ord_done ?_
          go_simp
          clear f1 f2
          go_wp2_with (at_builtin; refine wpList_app1 Tryz.el_string rfl (.tmp 42) (.tmp 44) rfl w w2.drew u3 k _ rfl o2.drew hb2.drew hz2 #[sv (numT t.low)] (.inr rfl) 1 1 rfl rfl (by simp [Value.oneCell']) (by omega) (by omega) (by omega) ?_)
          intro g cap w3 hown3 hb3 _ _ _
          clear o2 hb2
          go_wp2
          go_roundw
          case rel => exact ⟨k + 1, by omega, by go_num, by rw [HTK.out, HW.out]; simpa using hown3, hb3⟩
          case measure => simp [intOf]; omega
        | false =>
          have hne2 : (t.high != t.low) = true := by simp only [bne, hne]; rfl
          have HW := Lib.hid (show sv (spnT t) = .string (((⟨(numT t.low).toArray⟩ : ByteArray) ++ ⟨#[58]⟩) ++ ⟨(numT t.high).toArray⟩) by
            unfold spnT
            rw [if_neg (beq_eq_false_iff_ne.1 hne)]
            unfold sv
            congr 1
            apply ByteArray.ext
            apply Array.ext'
            simp)
          go_wp2
          refine ord_start [(0, true), (1, true), (2, true), (3, true), (4, true), (5, true), (6, true), (7, true), (8, true), (9, true), (10, true)] (fun W => W.cell? ⟨b, off + k * 2, none⟩ = some (.int .i64 t.low) ∧ W.cell? ⟨b, off + k * 2 + 1, none⟩ = some (.int .i64 t.high)) (by kernel_rfl) (by kernel_rfl) rfl (by kernel_rfl) ?_
          intro ops' hops
          clear hops
          simp only [List.map_cons, List.map_nil, pickOp_zero, pickOp_succ]
          iterate 11 (refine ord_flo ?_ (fun _ _ _ h => h) rfl ?_ ⟨f1, f2⟩ ?_; rotate_left; focus (intro W hS; obtain ⟨s1, s2⟩ := hS; go_simp; rfl))
          refine ord_done ?_
          go_simp
          have f3 : w2.drew.cell? ⟨b, off + k * 2 + 1, none⟩ = some (.int .i64 t.high) := f2
          have o3 := o2.drew
          have hb3 := hb2.drew
          clear f1 f2 o2 hb2
          go_wp2_with fail
          refine (D2.out _).mono ?_
          rintro e w3 ⟨rfl, b3⟩
          have o4 := ownsRow_below o3 b3
          have hb4 := hb3.trans (b3.mono hb3.size)
          have hz4 := hb4.size
          clear o3 hb3 b3 f3
          go_wp2_with (at_builtin; refine wpList_app1 Tryz.el_string rfl (.tmp 42) (.tmp 44) rfl w w3 u3 k _ rfl o4 hb4 hz4 #[.string (((⟨(numT t.low).toArray⟩ : ByteArray) ++ ⟨#[58]⟩) ++ ⟨(numT t.high).toArray⟩)] (.inr rfl) 1 1 rfl rfl (by simp [Value.oneCell']) (by omega) (by omega) (by omega) ?_)
          intro g cap w5 hown5 hb5 _ _ _
          clear o4 hb4
          go_wp2
          go_roundw
          case rel => exact ⟨k + 1, by omega, by go_num, by rw [HTK.out, HW.out]; simpa using hown5, hb5⟩
          case measure => simp [intOf]; omega
      · obtain rfl : k = l.length := by omega
        rw [List.take_length] at hown
        have hlen : (l.map spnT).length = l.length := by simp
        have hru : Rd1 sv wr u3 (l.map spnT) := Rd1.of_own (enc := sv) hown
        have hsz : szl (l.map spnT) ≤ 43 * (l.map spnT).length := szl_le _ (fun x hx => by
          obtain ⟨s, hs, rfl⟩ := List.mem_map.1 hx
          exact (spnT_len (HS.out s hs)).2)
        have CJ := Lib.hid (specJoined_any u3 (l.map spnT) [44] wr hru (by rw [hlen] at hsz ⊢; omega) (by simp))
        clear hown hru hsz
        go_wp2_with fail
        refine (CJ.out).mono ?_
        rintro e w2 ⟨rfl, b2⟩
        have hb2 := hbr.trans (b2.mono hbr0)
        go_wp2
        go_ret
        exact ⟨by rw [HV.out]; rfl, hb2⟩

end Go.Proofs.YtidjebepgpbcnaaGreatDoor

namespace Go.Proofs.YtidjebepgpbcnaaGreatDoor
open Go.RowKit

def ImplSetText (G : World → Prop) : Prop := ∀ (v : Value) (l : List Spn) (W : World), G W → Rd 2 spnc W v l → l.length ≤ 1048576 → (∀ t ∈ l, rgS t) →
  Calls Tryz.prog 64 #[v] W fun e w' => e = .returned (sv (setT l)) ∧ Below W.heap.size W w'

end Go.Proofs.YtidjebepgpbcnaaGreatDoor

namespace Go.Proofs.YtidjebepgpbcnaaGreatDoor
open Go.RowKit
open Go.Lib (decDigits itoa)

theorem endText_any (n : Int) (w : World) (hT : Tab w) (hn : in64 n) :
    Calls Tryz.prog 114 #[.int .i64 n] w fun e w' => e = .returned (sv (numT n)) ∧ Below w.heap.size w w' := by
  by_cases h : n = 0
  · have hg := Lib.hid (show numT n = [42] from if_pos h)
    subst h
    go_enter Tryz.func114, Tryz.ntmps114
    go_wp2
    go_ret
    exact ⟨by rw [hg.out]; rfl, Below.refl _ _⟩
  · have hg := Lib.hid (show numT n = itoa n from if_neg h)
    have h2 : (n == 0) = false := by simpa using h
    have C1 := Lib.hid (implDigits_any n w hT hn.1 hn.2)
    go_enter Tryz.func114, Tryz.ntmps114
    go_wp2_with fail
    refine (C1.out).mono ?_
    rintro e w1 ⟨rfl, b1⟩
    go_wp2
    go_ret
    exact ⟨by rw [hg.out]; rfl, b1⟩

set_option maxHeartbeats 800000 in
theorem spanText_any (s : Spn) (w : World) (hT : Tab w) (hn1 : numB s.low = true) (hn2 : numB s.high = true) :
    Calls Tryz.prog 93 #[spnv s] w fun e w' => e = .returned (sv (spnT s)) ∧ Below w.heap.size w w' := by
  have D1 := Lib.hid (fun W hT => endText_any s.low W hT (numB_in64 hn1))
  have D2 := Lib.hid (fun W hT => endText_any s.high W hT (numB_in64 hn2))
  have hl1 := (numT_len hn1).2
  have hl2 := (numT_len hn2).2
  have hq1 : (ByteArray.mk (numT s.low).toArray).size = (numT s.low).length := by show (numT s.low).toArray.size = _; simp
  have hq2 : (ByteArray.mk (numT s.high).toArray).size = (numT s.high).length := by show (numT s.high).toArray.size = _; simp
  clear hn1 hn2
  have hbA : Below w.heap.size w (w.alloc (.cells #[.int .i64 s.low, .int .i64 s.high] 73)) := (Below.refl _ _).alloc (Nat.le_refl _) _
  have TA := Lib.hid (hT.below hbA)
  have hblkA : (w.alloc (.cells #[.int .i64 s.low, .int .i64 s.high] 73)).heap[w.heap.size]? = some (.cells #[.int .i64 s.low, .int .i64 s.high] 73 (0, 0)) := heap_alloc_new w _
  have f1 : (w.alloc (.cells #[.int .i64 s.low, .int .i64 s.high] 73)).cell? ⟨w.heap.size, 0, none⟩ = some (.int .i64 s.low) := (Lib.cell_of_heap hblkA 0).trans rfl
  have f2 : (w.alloc (.cells #[.int .i64 s.low, .int .i64 s.high] 73)).cell? ⟨w.heap.size, 1, none⟩ = some (.int .i64 s.high) := (Lib.cell_of_heap hblkA 1).trans rfl
  have hlt : w.heap.size < (w.alloc (.cells #[.int .i64 s.low, .int .i64 s.high] 73)).heap.size := by simp
  clear hblkA
  cases he : (s.low == s.high) with
  | true =>
    have HW := Lib.hid (show sv (spnT s) = sv (numT s.low) by unfold spnT; rw [if_pos (beq_iff_eq.1 he).symm])
    clear f1 f2 hlt
    go_enter Tryz.func93, Tryz.ntmps93
    go_wp2_with fail
    refine (D1.out _ TA.out).mono ?_
    rintro e w1 ⟨rfl, b1⟩
    have hb := hbA.trans (b1.mono hbA.size)
    clear b1 hbA
    go_wp2
    go_ret
    exact ⟨by rw [HW.out]; rfl, hb⟩
  | false =>
    have HW := Lib.hid (show sv (spnT s) = .string (((⟨(numT s.low).toArray⟩ : ByteArray) ++ ⟨#[58]⟩) ++ ⟨(numT s.high).toArray⟩) by
      unfold spnT
      rw [if_neg (fun h => beq_eq_false_iff_ne.1 he h.symm)]
      unfold sv
      congr 1
      apply ByteArray.ext
      apply Array.ext'
      simp)
    go_enter Tryz.func93, Tryz.ntmps93
    have TD := Lib.hid (hT.below hbA.drew)
    go_wp2
    refine ord_start [(0, true), (1, true), (4, true), (5, true), (2, false), (3, true), (6, false), (7, true), (8, true)] (fun W => W.cell? ⟨w.heap.size, 0, none⟩ = some (.int .i64 s.low) ∧ W.cell? ⟨w.heap.size, 1, none⟩ = some (.int .i64 s.high)) (by kernel_rfl) (by kernel_rfl) rfl (by kernel_rfl) ?_
    intro ops' hops
    clear hops
    simp only [List.map_cons, List.map_nil, pickOp_zero, pickOp_succ]
    iterate 4 (refine ord_flo ?_ (fun _ _ _ h => h) rfl ?_ ⟨f1, f2⟩ ?_; rotate_left; focus (intro W hS; obtain ⟨s1, s2⟩ := hS; go_simp; rfl))
    refine ord_ev rfl ?_
    go_simp
    refine (D1.out _ TD.out).mono ?_
    rintro e w1 ⟨rfl, b1⟩
    have g1 := (b1.cell (p := ⟨w.heap.size, 0, none⟩) hlt).trans f1
    have g2 := (b1.cell (p := ⟨w.heap.size, 1, none⟩) hlt).trans f2
    have hb1 := hbA.drew.trans (b1.mono hbA.size)
    have T1 := Lib.hid (TD.out.below b1)
    have hlt1 := Nat.lt_of_lt_of_le hlt b1.size
    refine ⟨⟨g1, g2⟩, ?_⟩
    clear b1 f1 f2 hlt
    refine ord_flo (.string ((⟨(numT s.low).toArray⟩ : ByteArray) ++ ⟨#[58]⟩)) (fun _ _ _ h => h) rfl ?_ ⟨g1, g2⟩ ?_
    · intro W hS
      go_simp
      omega
    refine ord_ev rfl ?_
    go_simp
    refine (D2.out _ T1.out).mono ?_
    rintro e w2 ⟨rfl, b2⟩
    have k1 := (b2.cell (p := ⟨w.heap.size, 0, none⟩) hlt1).trans g1
    have k2 := (b2.cell (p := ⟨w.heap.size, 1, none⟩) hlt1).trans g2
    have hb2 := hb1.trans (b2.mono hb1.size)
    refine ⟨⟨k1, k2⟩, ?_⟩
    clear b2 g1 g2
    refine ord_flo (.string (((⟨(numT s.low).toArray⟩ : ByteArray) ++ ⟨#[58]⟩) ++ ⟨(numT s.high).toArray⟩)) (fun _ _ _ h => h) rfl ?_ ⟨k1, k2⟩ ?_
    · intro W hS
      go_simp
      omega
    iterate 1 (refine ord_flo ?_ (fun _ _ _ h => h) rfl ?_ ⟨k1, k2⟩ ?_; rotate_left; focus (intro W hS; obtain ⟨s1, s2⟩ := hS; go_simp; rfl))
    refine ord_done ?_
    go_simp
    clear k1 k2
    go_wp2
    go_ret
    exact ⟨by rw [HW.out]; rfl, hb2⟩

set_option maxHeartbeats 1600000 in
theorem implSetText_big (v : Value) (l : List Spn) (w : World) (hT : Tab w) (hr : Rd 2 spnc w v l) (hl : l.length ≤ 140737488355328) :
    Calls Tryz.prog 64 #[v] w fun e w' => e = .returned (sv (setT l)) ∧ Below w.heap.size w w' := by
  have c1 := fun W h => implSetOk_big v l W h hl
  have HR := Lib.hid hr
  have HT := Lib.hid hT
  obtain ⟨p, c, rfl, _⟩ := hr.ex
  clear hr hT
  cases hok : setB l with
  | false =>
    have HV := Lib.hid (show setT l = [] by unfold setT; rw [hok]; rfl)
    rw [hok] at c1
    have C1 := Lib.hid c1
    clear c1 hok
    go_enter Tryz.func64, Tryz.ntmps64
    go_wp2_with fail
    refine (C1.out _ HR.out).mono ?_
    rintro e w1 ⟨rfl, b1⟩
    go_wp2
    go_ret
    exact ⟨by rw [HV.out]; rfl, b1⟩
  | true =>
    have HV := Lib.hid (show setT l = Lib.join (l.map spnT) [44] by unfold setT; rw [hok]; rfl)
    obtain ⟨hs1, hs2, hs3⟩ := setB_parts hok
    have HS := Lib.hid hs1
    rw [hok] at c1
    have C1 := Lib.hid c1
    clear c1 hok hs1
    go_enter Tryz.func64, Tryz.ntmps64
    go_wp2_with fail
    refine (C1.out _ HR.out).mono ?_
    rintro e w1 ⟨rfl, b1⟩
    have hz1 := b1.size
    have HB1 := Lib.hid b1
    clear b1
    go_wp2
    go_loopw [3, 11] (fun u i wr => ∃ k : Nat, k ≤ l.length ∧ i = .int .i64 k ∧ wr.ownsRow w.heap.size 9 1 u k (((l.take k).map spnT).map sv) ∧ Below w.heap.size w wr) (fun _ i _ => l.length - (intOf i).toNat)
    case atStart => exact ⟨0, by omega, rfl, World.ownsRow_nil _ _ _ _, HB1.out⟩
    case round =>
      obtain ⟨k, hk, rfl, hown, hbr⟩ := hrel
      have hbr0 := hbr.size
      by_cases hlt : k < l.length
      · obtain ⟨p', c', hv, hp⟩ := HR.out.ex
        injection hv with e1 _ e2
        subst e1 e2
        obtain ⟨b, off, rfl, hb1, hcell⟩ := hp.resolve_left (by intro h; subst h; simp at hlt)
        obtain ⟨t, ht⟩ : ∃ t, l[k]? = some t := ⟨_, List.getElem?_eq_getElem hlt⟩
        obtain ⟨e1', e2'⟩ := Rd.pair hcell ht
        have e1 : wr.cell? ⟨b, off + k * 2, none⟩ = some (.int .i64 t.low) := (hbr.cell (p := ⟨b, off + k * 2, none⟩) hb1).trans e1'
        have e2 : wr.cell? ⟨b, off + k * 2 + 1, none⟩ = some (.int .i64 t.high) := (hbr.cell (p := ⟨b, off + k * 2 + 1, none⟩) hb1).trans e2'
        have hbA : Below w.heap.size w (wr.alloc (.cells #[.int .i64 t.low, .int .i64 t.high] 73)) := hbr.alloc hbr0 _
        have hoA := hown.alloc (.cells #[.int .i64 t.low, .int .i64 t.high] 73)
        have hsp := HS.out t (List.mem_of_getElem? ht)
        have hsp2 : numB t.low = true ∧ numB t.high = true := by unfold spnB at hsp; simpa using hsp
        have C2 := Lib.hid (spanText_any t _ (HT.out.below hbA) hsp2.1 hsp2.2)
        have HTK := Lib.hid (show ((l.take (k + 1)).map spnT).map sv = ((l.take k).map spnT).map sv ++ [sv (spnT t)] by rw [take_at ht]; simp)
        have HZ := Lib.hid (show (wr.alloc (.cells #[.int .i64 t.low, .int .i64 t.high] 73)).heap.size = wr.heap.size + 1 by simp)
        clear e1' e2' hcell ht hp hsp hsp2 hown
        go_wp2_with fail
        refine (C2.out).mono ?_
        rintro e w2 ⟨rfl, b2⟩
        have o2 := ownsRow_below hoA b2
        have hb2 := hbA.trans (b2.mono hbA.size)
        have hz2 := hb2.size
        clear hoA hbA b2 C2 e1 e2
        go_wp2_with (at_builtin; refine wpList_app1 Tryz.el_string rfl (.tmp 15) (.tmp 18) rfl w w2 u3 k _ rfl o2 hb2 hz2 #[sv (spnT t)] (.inr rfl) 1 1 rfl rfl (by simp [Value.oneCell']) (by omega) (by omega) (by omega) ?_)
        intro g cap w3 hown3 hb3 _ _ _
        clear o2 hb2
        go_wp2
        go_roundw
        case rel => exact ⟨k + 1, by omega, by go_num, by rw [HTK.out]; simpa using hown3, hb3⟩
        case measure => simp [intOf]; omega
      · obtain rfl : k = l.length := by omega
        rw [List.take_length] at hown
        have hlen : (l.map spnT).length = l.length := by simp
        have hsz : szl (l.map spnT) ≤ 43 * (l.map spnT).length := szl_le _ (fun x hx => by
          obtain ⟨s, hs, rfl⟩ := List.mem_map.1 hx
          exact (spnT_len (HS.out s hs)).2)
        rcases hown.2 with ⟨_, h0⟩ | ⟨g, cap, cur, rfl, hbg, hg, hnc, hrest⟩
        · omega
        · have CJ := Lib.hid (implJoined_any g cap (l.map spnT) [44] wr (own_cells hown) (Array.getElem?_eq_some_iff.1 hg).1 (by rw [hlen]; exact hnc) (by rw [hlen] at hsz ⊢; omega) (by simp))
          rw [hlen] at CJ
          clear hown hsz hg hrest
          go_wp2_with fail
          refine (CJ.out).mono ?_
          rintro e w2 ⟨rfl, b2⟩
          have hb2 := hbr.trans (b2.mono hbr0)
          go_wp2
          go_ret
          exact ⟨by rw [HV.out]; rfl, hb2⟩
theorem implSetText_any : ImplSetText Tab := fun v l w hG hr hl _ => implSetText_big v l w hG hr (by omega)

end Go.Proofs.YtidjebepgpbcnaaGreatDoor
