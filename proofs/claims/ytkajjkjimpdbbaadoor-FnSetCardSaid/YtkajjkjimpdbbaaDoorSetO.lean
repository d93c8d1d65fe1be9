/-
  Chapter 4: the model's ReadSet.
-/
import Derived.Test.YtkajjkjimpdbbaaDoorSetN
import Derived.Test.YtkajjkjimpdbbaaDoorOrdT
import Derived.Handy
namespace Go.Proofs.YtkajjkjimpdbbaaDoor
open Go.RowKit

/-- What ReadSet hands back. -/
def SetPost (U : Option (List Spn)) (w : World) (e : Ending) (w' : World) : Prop :=
  ∃ v, e = .returned (.tuple #[v, .bool U.isSome]) ∧ w'.ownsRow w.heap.size 37 2 v (U.getD []).length ((U.getD []).flatMap spnc) ∧ Below w.heap.size w w'

theorem l4Number_any (s : ByteArray) (w : World) (hs : s.size ≤ 1048576) :
    Calls Tryd.prog 22 #[.string s] w fun e w' => e = .returned (.int .i64 (l4n s.data.toList)) ∧ Below w.heap.size w w' := by
  have c1 := fun W => specNumber_any s W hs
  cases hn : numl s.data.toList with
  | none =>
    rw [numV_none hn] at c1
    have C1 := Lib.hid c1
    have HV := Lib.hid (show l4n s.data.toList = 0 by unfold l4n; rw [hn])
    clear c1 hn
    go_enter Tryd.func22, Tryd.ntmps22
    go_wp2_with fail
    refine (C1.out _).mono ?_
    rintro e w1 ⟨rfl, b1⟩
    go_wp2
    go_ret
    exact ⟨by rw [HV.out]; rfl, b1⟩
  | some n =>
    rw [numV_some hn] at c1
    have C1 := Lib.hid c1
    have HV := Lib.hid (show l4n s.data.toList = (n : Int) by unfold l4n; rw [hn])
    clear c1 hn
    go_enter Tryd.func22, Tryd.ntmps22
    go_wp2_with fail
    refine (C1.out _).mono ?_
    rintro e w1 ⟨rfl, b1⟩
    go_wp2
    go_ret
    exact ⟨by rw [HV.out]; rfl, b1⟩

theorem part_le (c : UInt8) : ∀ (l : List UInt8), ∀ x ∈ partsl c l, x.length ≤ l.length
  | [], x, h => by simp [partsl] at h; subst h; simp
  | b :: r, x, h => by
    unfold partsl at h
    split at h
    · rcases List.mem_cons.1 h with rfl | h
      · simp
      · have := part_le c r x h; simp; omega
    · split at h
      · rw [List.mem_singleton.1 h]; simp
      · rename_i y ys hy
        have ih := fun z hz => part_le c r z hz
        rw [hy] at ih
        rcases List.mem_cons.1 h with rfl | h
        · have := ih y (by simp); simp; omega
        · have := ih x (by simp [h]); simp; omega
theorem raw_yes {s : List UInt8} (h : (partsl 44 s).length ≤ 5) : rawS s = ((partsl 44 s).take (partsl 44 s).length).map wordS := by unfold rawS; rw [if_pos h, List.take_length]
theorem raw_no {s : List UInt8} (h : ¬ (partsl 44 s).length ≤ 5) : rawS s = ((partsl 44 s).take 0).map wordS := by unfold rawS; rw [if_neg h]; rfl
theorem two_cells_new {w : World} {a b : Value} {e : TypeId} : (w.alloc (.cells #[a, b] e)).cell? ⟨w.heap.size, 0, none⟩ = some a ∧ (w.alloc (.cells #[a, b] e)).cell? ⟨w.heap.size, 1, none⟩ = some b ∧ (∀ j, (w.alloc (.cells #[a, b] e)).frozen? ⟨w.heap.size, j, none⟩ = false) := by
  refine ⟨by simp [go_sem], by simp [go_sem], fun j => by simp [go_sem]⟩
theorem two_puts {W : World} {b : Nat} {x0 x1 : Value} (h0 : W.cell? ⟨b, 0, none⟩ = some x0) (h1 : W.cell? ⟨b, 1, none⟩ = some x1) (v v' : Value) :
    ((W.setCell ⟨b, 0, none⟩ v).setCell ⟨b, 1, none⟩ v').cell? ⟨b, 0, none⟩ = some v ∧ ((W.setCell ⟨b, 0, none⟩ v).setCell ⟨b, 1, none⟩ v').cell? ⟨b, 1, none⟩ = some v' := by
  have e1 : (W.setCell ⟨b, 0, none⟩ v).cell? ⟨b, 1, none⟩ = some x1 := (World.cell?_setCell_other W _ _ _ (by intro e; injection e with _ e2; cases e2)).trans h1
  refine ⟨(World.cell?_setCell_other _ _ _ _ (by intro e; injection e with _ e2; cases e2)).trans (World.cell?_setCell_same W _ _ h0), World.cell?_setCell_same _ _ _ e1⟩

set_option maxHeartbeats 6400000 in
theorem specReadSet_list (l : List UInt8) (w : World) (hs : l.length ≤ 1048576) :
    Calls Tryd.prog 9 #[sv l] w fun e w' => SetPost (readS l) w e w' := by
  have hlz : (ByteArray.mk l.toArray).size ≤ 1048576 := by show l.toArray.size ≤ _; simp; omega
  have hwA : Below w.heap.size w (w.alloc (.cells #[] 37)) := (Below.refl _ _).alloc (Nat.le_refl _) _
  have hoA : (w.alloc (.cells #[] 37)).ownsRow w.heap.size 37 2 (.slice (some ⟨w.heap.size, 0, none⟩) 0 0) 0 [] := World.ownsRow_made w #[] 0 (Nat.le_refl _) (by unfold maxLen; omega) (by simp)
  have hzA : (w.alloc (.cells #[] 37)).heap.size = w.heap.size + 1 := by simp
  have C1 := Lib.hid (specParts_any ⟨l.toArray⟩ 44 (w.alloc (.cells #[] 37)) hlz)
  rw [show (ByteArray.mk l.toArray).data.toList = l from rfl] at C1
  have hpl := part_le 44 l
  have hne := partsl_ne 44 l
  have hPL := partsl_length 44 l
  have HPL := Lib.hid hpl
  have HRY := Lib.hid (raw_yes (s := l))
  have HRN := Lib.hid (raw_no (s := l))
  have HU := Lib.hid (show ∀ L, rawS l = L → readS l = if l = [] ∨ setT L ≠ l then none else some L from fun L e => by unfold readS; rw [e])
  clear hpl hne hlz
  generalize partsl 44 l = ws at *
  go_enter Tryd.func9, Tryd.ntmps9
  go_wp2_with fail
  refine (C1.out).mono ?_
  rintro e w1 ⟨vw, rfl, ow, b1⟩
  have htw : ∀ g, vw.ownBlock = some g → w.heap.size + 1 ≤ g ∧ g < w1.heap.size := fun g hg => by have := ow.lt g hg; omega
  have hb1 := hwA.trans (b1.mono (by omega))
  have ho1 := ownsRow_below hoA b1
  have hz1 : w.heap.size + 1 ≤ w1.heap.size := by have := b1.size; omega
  have HTW := Lib.hid htw
  obtain ⟨pw, cw, rfl⟩ := own_sl ow
  clear C1 b1 hwA hoA htw
  go_wp2
  go_loopw [4, 6] (fun v i wr => ∃ k : Nat, k ≤ ws.length ∧ (ws.length ≤ 5 ∨ k = 0) ∧ i = .int .i64 k ∧ wr.ownsRow w.heap.size 37 2 v k (((ws.take k).map wordS).flatMap spnc) ∧ Below w.heap.size w wr ∧
    wr.ownsRow (w.alloc (.cells #[] 37)).heap.size 9 1 (.slice pw ws.length cw) ws.length (ws.map sv) ∧ (∀ g, v.ownBlock = some g → g = w.heap.size ∨ w1.heap.size ≤ g) ∧ w1.heap.size ≤ wr.heap.size) (fun _ i _ => ws.length - (intOf i).toNat)
  case atStart => exact ⟨0, by omega, .inr rfl, rfl, ho1, hb1, ow, fun g hg => by injection hg with hg; exact .inl hg.symm, Nat.le_refl _⟩
  case round =>
    obtain ⟨k, hk, hk5, rfl, hown, hbr, how, htop, hzr⟩ := hrel
    have hbr0 := hbr.size
    have HTO := Lib.hid htop
    clear ho1 hb1 ow htop
    have hcases : (k < ws.length ∧ ws.length ≤ 5) ∨ (¬ k < ws.length ∧ rawS l = (ws.take k).map wordS) ∨ (k < ws.length ∧ ¬ ws.length ≤ 5 ∧ rawS l = (ws.take k).map wordS) := by
      by_cases h1 : k < ws.length
      · by_cases h2 : ws.length ≤ 5
        · exact .inl ⟨h1, h2⟩
        · have h3 : k = 0 := hk5.resolve_left h2
          exact .inr (.inr ⟨h1, h2, by rw [h3]; exact HRN.out h2⟩)
      · refine .inr (.inl ⟨h1, ?_⟩)
        have hkn : k = ws.length := by omega
        rcases hk5 with h2 | h2
        · rw [hkn]; exact HRY.out h2
        · by_cases h3 : ws.length ≤ 5
          · rw [hkn]; exact HRY.out h3
          · omega
    rcases hcases with ⟨hlt, hle5⟩ | hfin
    · have hle5i : (ws.length : Int) ≤ 5 := by omega
      have hrw := Rd1.of_own (enc := sv) how
      obtain ⟨P, Q, hv, hc⟩ := hrw.ex
      injection hv with e1 _ e3
      subst e1
      subst e3
      obtain ⟨gw, o, rfl, hgw, hcw⟩ := hc.resolve_left (by intro h; rw [h] at hlt; simp at hlt)
      obtain ⟨x, hx⟩ : ∃ x, ws[k]? = some x := ⟨_, List.getElem?_eq_getElem hlt⟩
      have e1 : wr.cell? ⟨gw, o + k, none⟩ = some (sv x) := hcw k x hx
      have hxl := HPL.out x (List.mem_of_getElem? hx)
      have hxz : (ByteArray.mk x.toArray).size ≤ 1048576 := by show x.toArray.size ≤ _; simp; omega
      have C2 := Lib.hid (fun W => specParts_any ⟨x.toArray⟩ 58 W hxz)
      have hpl2 := part_le 58 x
      have hne2 := partsl_ne 58 x
      have hPL2 := partsl_length 58 x
      have HW := Lib.hid (show (ws.take (k + 1)).map wordS = (ws.take k).map wordS ++ [wordS x] by rw [take_at hx]; simp)
      have HWS := Lib.hid (show wordS x = ⟨l4n ((partsl 58 x).headD []), l4n ((partsl 58 x).getLastD [])⟩ from rfl)
      rw [show (ByteArray.mk x.toArray).data.toList = x from rfl] at C2
      have how2 := how
      clear hcw hc hrw hx HRY HRN hk5
      obtain ⟨y0, hy0, hyh⟩ : ∃ y0, (partsl 58 x)[0]? = some y0 ∧ (partsl 58 x).headD [] = y0 := by
        cases hh : partsl 58 x with
        | nil => exact absurd hh hne2
        | cons a r => exact ⟨a, rfl, rfl⟩
      obtain ⟨j, hj⟩ : ∃ j, (partsl 58 x).length = j + 1 := ⟨(partsl 58 x).length - 1, by have := List.length_pos_iff.2 hne2; omega⟩
      obtain ⟨yj, hyj, hyl⟩ : ∃ yj, (partsl 58 x)[j]? = some yj ∧ (partsl 58 x).getLastD [] = yj := by
        refine ⟨(partsl 58 x)[j]'(by omega), List.getElem?_eq_getElem _, ?_⟩
        rw [List.getLastD_eq_getLast?, List.getLast?_eq_getElem?, show (partsl 58 x).length - 1 = j by omega, List.getElem?_eq_getElem (by omega)]
        rfl
      rw [hyh, hyl] at HWS
      have hy0l := hpl2 y0 (List.mem_of_getElem? hy0)
      have hyjl := hpl2 yj (List.mem_of_getElem? hyj)
      have hz0 : (ByteArray.mk y0.toArray).size ≤ 1048576 := by show y0.toArray.size ≤ _; simp; omega
      have hzj : (ByteArray.mk yj.toArray).size ≤ 1048576 := by show yj.toArray.size ≤ _; simp; omega
      have D0 := Lib.hid (fun W => l4Number_any ⟨y0.toArray⟩ W hz0)
      have DJ := Lib.hid (fun W => l4Number_any ⟨yj.toArray⟩ W hzj)
      rw [show (ByteArray.mk y0.toArray).data.toList = y0 from rfl] at D0
      rw [show (ByteArray.mk yj.toArray).data.toList = yj from rfl] at DJ
      have hjw : IntKind.i64.wrap (j : Int) = (j : Int) := IntWalk.i64_in _ (by omega)
      have hjc : ((j + 1 : Nat) : Int) = (j : Int) + 1 := by omega
      clear hpl2 hne2 hPL2 hyh hyl hz0 hzj
      go_wp2_with fail
      refine (C2.out _).mono ?_
      rintro e w2 ⟨v2, rfl, o2, b2⟩
      have ho2 := ownsRow_below hown b2
      have how2' := ownsRow_below how2 b2
      have hb2 := hbr.trans (b2.mono hbr0)
      have hz2 := hb2.size
      have hzw2 : w1.heap.size ≤ w2.heap.size := by have := b2.size; omega
      have hrt := Rd1.of_own (enc := sv) o2
      obtain ⟨P2, Q2, hv2, hc2⟩ := hrt.ex
      obtain ⟨gt, ot, rfl, hgt, hct⟩ := hc2.resolve_left (by intro h; rw [h] at hj; simp at hj)
      rw [hj] at hv2
      subst hv2
      have f0 : w2.drew.cell? ⟨gt, ot, none⟩ = some (sv y0) := by have := hct 0 y0 hy0; rwa [Nat.add_zero] at this
      have fj : w2.drew.cell? ⟨gt, ot + j, none⟩ = some (sv yj) := hct j yj hyj
      have hgd : gt < w2.drew.heap.size := hgt
      have ho3 := ho2.drew
      have how3 := how2'.drew
      have hb3 := hb2.drew
      have hz3 : w1.heap.size ≤ w2.drew.heap.size := hzw2
      clear hct hc2 hrt hy0 hyj C2 hown how how2 hbr b2 o2 ho2 how2' hb2 e1 hj
      go_wp2
      refine ordT_start (OTree.flo 0 (.flo 1 (.flo 2 (.flo 4 (.flo 5 (.flo 6 (.flo 7 (.flo 8 (.flo 9 (.fork 3 (.fork 10 (.flo 11 (.ev 12 (.ev 13 .nil))) 12 (.ev 10 (.flo 11 (.ev 13 .nil)))) 12 (.ev 3 (.ev 10 (.flo 11 (.ev 13 .nil)))))))))))))) (fun W => W.cell? ⟨gt, ot, none⟩ = some (sv y0) ∧ W.cell? ⟨gt, ot + j, none⟩ = some (sv yj)) (by kernel_rfl) (by kernel_rfl) rfl (by kernel_rfl) ?_
      intro ops' hops
      generalize w2.drew = w3 at *
      have g0 := get_of hops 0
      have g1 := get_of hops 1
      have g2 := get_of hops 2
      have g3 := get_of hops 3
      have g4 := get_of hops 4
      have g5 := get_of hops 5
      have g6 := get_of hops 6
      have g7 := get_of hops 7
      have g8 := get_of hops 8
      have g9 := get_of hops 9
      have g10 := get_of hops 10
      have g11 := get_of hops 11
      have g12 := get_of hops 12
      have g13 := get_of hops 13
      simp only [List.getElem?_toArray, List.getElem?_cons_zero, List.getElem?_cons_succ] at g0 g1 g2 g3 g4 g5 g6 g7 g8 g9 g10 g11 g12 g13
      clear hops
      refine ordT_flo _ g0 ?_ (fun _ _ _ h => h) rfl ?_ ⟨f0, fj⟩ ?_; rotate_left; focus (intro W hS; obtain ⟨s0, s1⟩ := hS; go_simp; rfl)
      refine ordT_flo _ g1 ?_ (fun _ _ _ h => h) rfl ?_ ⟨f0, fj⟩ ?_; rotate_left; focus (intro W hS; obtain ⟨s0, s1⟩ := hS; go_simp; rfl)
      refine ordT_flo _ g2 ?_ (fun _ _ _ h => h) rfl ?_ ⟨f0, fj⟩ ?_; rotate_left; focus (intro W hS; obtain ⟨s0, s1⟩ := hS; go_simp; rfl)
      refine ordT_flo _ g4 ?_ (fun _ _ _ h => h) rfl ?_ ⟨f0, fj⟩ ?_; rotate_left; focus (intro W hS; obtain ⟨s0, s1⟩ := hS; go_simp; rfl)
      refine ordT_flo _ g5 ?_ (fun _ _ _ h => h) rfl ?_ ⟨f0, fj⟩ ?_; rotate_left; focus (intro W hS; obtain ⟨s0, s1⟩ := hS; go_simp; rfl)
      refine ordT_flo _ g6 ?_ (fun _ _ _ h => h) rfl ?_ ⟨f0, fj⟩ ?_; rotate_left; focus (intro W hS; obtain ⟨s0, s1⟩ := hS; go_simp; rfl)
      refine ordT_flo _ g7 ?_ (fun _ _ _ h => h) rfl ?_ ⟨f0, fj⟩ ?_; rotate_left; focus (intro W hS; obtain ⟨s0, s1⟩ := hS; go_simp; rfl)
      refine ordT_flo _ g8 (.pointer (some ⟨gt, ot + j, none⟩)) (fun _ _ _ h => h) rfl ?_ ⟨f0, fj⟩ ?_
      · intro W hS
        go_simp
        try (intro h; omega)
      refine ordT_flo _ g9 ?_ (fun _ _ _ h => h) rfl ?_ ⟨f0, fj⟩ ?_; rotate_left; focus (intro W hS; obtain ⟨s0, s1⟩ := hS; go_simp; rfl)
      refine ordT_fork _ _ g3 g12 rfl rfl ?_ ?_
      · go_simp
        refine (D0.out _).mono ?_
        rintro e w4 ⟨rfl, bx⟩
        replace f0 := (bx.cell (p := ⟨gt, ot, none⟩) hgd).trans f0
        replace fj := (bx.cell (p := ⟨gt, ot + j, none⟩) hgd).trans fj
        replace hgd := Nat.lt_of_lt_of_le hgd bx.size
        replace ho3 := ownsRow_below ho3 bx
        replace how3 := ownsRow_below how3 bx
        replace hb3 := hb3.trans (bx.mono hb3.size)
        replace hz3 := Nat.le_trans hz3 bx.size
        refine ⟨⟨f0, fj⟩, ?_⟩
        clear bx
        refine ordT_fork _ _ g10 g12 rfl rfl ?_ ?_
        · go_simp
          refine (DJ.out _).mono ?_
          rintro e w5 ⟨rfl, bx⟩
          replace f0 := (bx.cell (p := ⟨gt, ot, none⟩) hgd).trans f0
          replace fj := (bx.cell (p := ⟨gt, ot + j, none⟩) hgd).trans fj
          replace hgd := Nat.lt_of_lt_of_le hgd bx.size
          replace ho3 := ownsRow_below ho3 bx
          replace how3 := ownsRow_below how3 bx
          replace hb3 := hb3.trans (bx.mono hb3.size)
          replace hz3 := Nat.le_trans hz3 bx.size
          refine ⟨⟨f0, fj⟩, ?_⟩
          clear bx
          refine ordT_flo _ g11 ?_ (fun _ _ _ h => h) rfl ?_ ⟨f0, fj⟩ ?_; rotate_left; focus (intro W hS; obtain ⟨s0, s1⟩ := hS; go_simp; rfl)
          refine ordT_ev _ g12 rfl ?_
          go_simp
          refine ordT_ev _ g13 rfl ?_
          go_simp
          obtain ⟨c0, c1, _⟩ := two_cells_new (w := w5) (a := .int .i64 (l4n y0)) (b := .int .i64 (l4n yj)) (e := 37)
          have oX := ho3.alloc (.cells #[.int .i64 (l4n y0), .int .i64 (l4n yj)] 37)
          have howX := how3.alloc (.cells #[.int .i64 (l4n y0), .int .i64 (l4n yj)] 37)
          have hbX := hb3.alloc hb3.size (.cells #[.int .i64 (l4n y0), .int .i64 (l4n yj)] 37)
          have hszX : (w5.alloc (.cells #[.int .i64 (l4n y0), .int .i64 (l4n yj)] 37)).heap.size = w5.heap.size + 1 := by simp
          clear f0 fj ho3 how3 hb3
          generalize (w5.alloc (.cells #[.int .i64 (l4n y0), .int .i64 (l4n yj)] 37)) = X at *
          refine ordT_done ?_
          clear g0 g1 g2 g3 g4 g5 g6 g7 g8 g9 g10 g11 g12 g13 D0 DJ hjw
          have hzX := hbX.size
          go_wp2_with (at_builtin; refine wpList_app1 Tryd.el_spn rfl (.tmp 40) (.tmp 42) rfl w X u4 k _ rfl oX hbX hzX #[.int .i64 (l4n y0), .int .i64 (l4n yj)] (.inr rfl) 1 1 (by rw [hszX]; rfl) rfl (by simp [Value.oneCell']) (by omega) (by omega) (by omega) ?_)
          intro g cap w9 hown9 hb9 hg9 hor9 _
          have how9 := howX.kept hg9 (by
            by_cases hn : (Value.slice (some ⟨gw, o, none⟩) ws.length cw).ownBlock = none
            · exact .inl hn
            · right
              intro e
              obtain ⟨gg, hgg⟩ := Option.ne_none_iff_exists'.1 hn
              have q1 := HTW.out gg hgg
              have q2 := HTO.out gg (by rw [← e, hgg])
              omega)
          have htop9 : ∀ gg, (Value.slice (some ⟨g, 0, none⟩) (k + 1) cap).ownBlock = some gg → gg = w.heap.size ∨ w1.heap.size ≤ gg := by
            intro gg hgg
            have hgg2 : g = gg := by simpa [Value.ownBlock] using hgg
            subst hgg2
            rcases hor9 with h | h
            · exact HTO.out _ h
            · exact .inr (by omega)
          have hz9 := hg9.size
          clear oX howX hbX hg9 hor9 c0 c1
          go_wp2
          go_roundw
          case rel => exact ⟨k + 1, by omega, .inl hle5, by go_num, by rw [HW.out, List.flatMap_append, HWS.out]; simpa [spnc] using hown9, hb9, how9, htop9, by omega⟩
          case measure => simp [intOf]; omega
        · go_simp
          obtain ⟨z0, z1, zf⟩ := two_cells_new (w := w4) (a := .int .i64 0) (b := .int .i64 0) (e := 37)
          have bx : Below w4.heap.size w4 (w4.alloc (.cells #[.int .i64 0, .int .i64 0] 37)) := (Below.refl _ _).alloc (Nat.le_refl _) _
          replace f0 := (bx.cell (p := ⟨gt, ot, none⟩) hgd).trans f0
          replace fj := (bx.cell (p := ⟨gt, ot + j, none⟩) hgd).trans fj
          have hnew : w4.heap.size < (w4.alloc (.cells #[.int .i64 0, .int .i64 0] 37)).heap.size := by simp
          have hbig : ∀ g, Value.ownBlock u4 = some g → g < w4.heap.size := fun g hg => (ho3.lt g hg).2
          have hbigw : ∀ g, Value.ownBlock (.slice (some ⟨gw, o, none⟩) ws.length cw) = some g → g < w4.heap.size := fun g hg => (how3.lt g hg).2
          have hz4 := hz3
          have hz5 := hb3.size
          have hgtb := hgd
          replace hgd := Nat.lt_of_lt_of_le hgd bx.size
          replace ho3 := ownsRow_below ho3 bx
          replace how3 := ownsRow_below how3 bx
          replace hb3 := hb3.trans (bx.mono hb3.size)
          replace hz3 := Nat.le_trans hz3 bx.size
          clear bx
          refine ordT_ev _ g10 rfl ?_
          go_simp
          refine (DJ.out _).mono ?_
          rintro e w5 ⟨rfl, bx⟩
          replace f0 := (bx.cell (p := ⟨gt, ot, none⟩) hgd).trans f0
          replace fj := (bx.cell (p := ⟨gt, ot + j, none⟩) hgd).trans fj
          replace hgd := Nat.lt_of_lt_of_le hgd bx.size
          replace ho3 := ownsRow_below ho3 bx
          replace how3 := ownsRow_below how3 bx
          replace hb3 := hb3.trans (bx.mono hb3.size)
          replace hz3 := Nat.le_trans hz3 bx.size
          replace z0 := (bx.cell (p := ⟨w4.heap.size, 0, none⟩) hnew).trans z0
          replace z1 := (bx.cell (p := ⟨w4.heap.size, 1, none⟩) hnew).trans z1
          replace zf := fun j => (bx.frozen (p := ⟨w4.heap.size, j, none⟩) hnew).trans (zf j)
          replace hnew := Nat.lt_of_lt_of_le hnew bx.size
          refine ⟨⟨f0, fj⟩, ?_⟩
          clear bx
          refine ordT_flo _ g11 ?_ (fun _ _ _ h => h) rfl ?_ ⟨f0, fj⟩ ?_; rotate_left; focus (intro W hS; obtain ⟨s0, s1⟩ := hS; go_simp; rfl)
          have hq0 := zf 0
          have hq1 := zf 1
          obtain ⟨c0, c1⟩ := two_puts z0 z1 (.int .i64 (l4n y0)) (.int .i64 (l4n yj))
          have p1 : (w5.setCell ⟨w4.heap.size, 0, none⟩ (.int .i64 (l4n y0))).cell? ⟨w4.heap.size, 1, none⟩ = some (.int .i64 0) := (World.cell?_setCell_other w5 _ _ _ (by intro e; injection e with _ e2; cases e2)).trans z1
          have oX := own_put (j := 1) (x := .int .i64 (l4n yj)) (own_put (j := 0) (x := .int .i64 (l4n y0)) ho3 hbig) hbig
          have howX := own_put (j := 1) (x := .int .i64 (l4n yj)) (own_put (j := 0) (x := .int .i64 (l4n y0)) how3 hbigw) hbigw
          have hbX := (hb3.setCell (p := ⟨w4.heap.size, 0, none⟩) hz5 (.int .i64 (l4n y0))).setCell (p := ⟨w4.heap.size, 1, none⟩) hz5 (.int .i64 (l4n yj))
          have hszX : ((w5.setCell ⟨w4.heap.size, 0, none⟩ (.int .i64 (l4n y0))).setCell ⟨w4.heap.size, 1, none⟩ (.int .i64 (l4n yj))).heap.size = w5.heap.size := by simp
          have s0 : ((w5.setCell ⟨w4.heap.size, 0, none⟩ (.int .i64 (l4n y0))).setCell ⟨w4.heap.size, 1, none⟩ (.int .i64 (l4n yj))).cell? ⟨gt, ot, none⟩ = some (sv y0) := (World.cell?_setCell_other _ _ _ _ (by intro e; injection e with e2; omega)).trans ((World.cell?_setCell_other _ _ _ _ (by intro e; injection e with e2; omega)).trans f0)
          have s1 : ((w5.setCell ⟨w4.heap.size, 0, none⟩ (.int .i64 (l4n y0))).setCell ⟨w4.heap.size, 1, none⟩ (.int .i64 (l4n yj))).cell? ⟨gt, ot + j, none⟩ = some (sv yj) := (World.cell?_setCell_other _ _ _ _ (by intro e; injection e with e2; omega)).trans ((World.cell?_setCell_other _ _ _ _ (by intro e; injection e with e2; omega)).trans fj)
          refine ordT_ev _ g13 rfl ?_
          go_simp
          try refine ⟨⟨s0, s1⟩, ?_⟩
          clear s0 s1 p1 z0 z1 zf hq0 hq1 f0 fj ho3 how3 hb3 hbig hbigw
          generalize ((w5.setCell ⟨w4.heap.size, 0, none⟩ (.int .i64 (l4n y0))).setCell ⟨w4.heap.size, 1, none⟩ (.int .i64 (l4n yj))) = X at *
          refine ordT_done ?_
          clear g0 g1 g2 g3 g4 g5 g6 g7 g8 g9 g10 g11 g12 g13 D0 DJ hjw
          have hzX := hbX.size
          go_wp2_with (at_builtin; refine wpList_app1 Tryd.el_spn rfl (.tmp 40) (.tmp 42) rfl w X u4 k _ rfl oX hbX hzX #[.int .i64 (l4n y0), .int .i64 (l4n yj)] (.inr rfl) 1 1 (by rw [hszX]; rfl) rfl (by simp [Value.oneCell']) (by omega) (by omega) (by omega) ?_)
          intro g cap w9 hown9 hb9 hg9 hor9 _
          have how9 := howX.kept hg9 (by
            by_cases hn : (Value.slice (some ⟨gw, o, none⟩) ws.length cw).ownBlock = none
            · exact .inl hn
            · right
              intro e
              obtain ⟨gg, hgg⟩ := Option.ne_none_iff_exists'.1 hn
              have q1 := HTW.out gg hgg
              have q2 := HTO.out gg (by rw [← e, hgg])
              omega)
          have htop9 : ∀ gg, (Value.slice (some ⟨g, 0, none⟩) (k + 1) cap).ownBlock = some gg → gg = w.heap.size ∨ w1.heap.size ≤ gg := by
            intro gg hgg
            have hgg2 : g = gg := by simpa [Value.ownBlock] using hgg
            subst hgg2
            rcases hor9 with h | h
            · exact HTO.out _ h
            · exact .inr (by omega)
          have hz9 := hg9.size
          clear oX howX hbX hg9 hor9 c0 c1
          go_wp2
          go_roundw
          case rel => exact ⟨k + 1, by omega, .inl hle5, by go_num, by rw [HW.out, List.flatMap_append, HWS.out]; simpa [spnc] using hown9, hb9, how9, htop9, by omega⟩
          case measure => simp [intOf]; omega
      · go_simp
        obtain ⟨z0, z1, zf⟩ := two_cells_new (w := w3) (a := .int .i64 0) (b := .int .i64 0) (e := 37)
        have bx : Below w3.heap.size w3 (w3.alloc (.cells #[.int .i64 0, .int .i64 0] 37)) := (Below.refl _ _).alloc (Nat.le_refl _) _
        replace f0 := (bx.cell (p := ⟨gt, ot, none⟩) hgd).trans f0
        replace fj := (bx.cell (p := ⟨gt, ot + j, none⟩) hgd).trans fj
        have hnew : w3.heap.size < (w3.alloc (.cells #[.int .i64 0, .int .i64 0] 37)).heap.size := by simp
        have hbig : ∀ g, Value.ownBlock u4 = some g → g < w3.heap.size := fun g hg => (ho3.lt g hg).2
        have hbigw : ∀ g, Value.ownBlock (.slice (some ⟨gw, o, none⟩) ws.length cw) = some g → g < w3.heap.size := fun g hg => (how3.lt g hg).2
        have hz4 := hz3
        have hz5 := hb3.size
        have hgtb := hgd
        replace hgd := Nat.lt_of_lt_of_le hgd bx.size
        replace ho3 := ownsRow_below ho3 bx
        replace how3 := ownsRow_below how3 bx
        replace hb3 := hb3.trans (bx.mono hb3.size)
        replace hz3 := Nat.le_trans hz3 bx.size
        clear bx
        refine ordT_ev _ g3 rfl ?_
        go_simp
        refine (D0.out _).mono ?_
        rintro e w4 ⟨rfl, bx⟩
        replace f0 := (bx.cell (p := ⟨gt, ot, none⟩) hgd).trans f0
        replace fj := (bx.cell (p := ⟨gt, ot + j, none⟩) hgd).trans fj
        replace hgd := Nat.lt_of_lt_of_le hgd bx.size
        replace ho3 := ownsRow_below ho3 bx
        replace how3 := ownsRow_below how3 bx
        replace hb3 := hb3.trans (bx.mono hb3.size)
        replace hz3 := Nat.le_trans hz3 bx.size
        replace z0 := (bx.cell (p := ⟨w3.heap.size, 0, none⟩) hnew).trans z0
        replace z1 := (bx.cell (p := ⟨w3.heap.size, 1, none⟩) hnew).trans z1
        replace zf := fun j => (bx.frozen (p := ⟨w3.heap.size, j, none⟩) hnew).trans (zf j)
        replace hnew := Nat.lt_of_lt_of_le hnew bx.size
        refine ⟨⟨f0, fj⟩, ?_⟩
        clear bx
        refine ordT_ev _ g10 rfl ?_
        go_simp
        refine (DJ.out _).mono ?_
        rintro e w5 ⟨rfl, bx⟩
        replace f0 := (bx.cell (p := ⟨gt, ot, none⟩) hgd).trans f0
        replace fj := (bx.cell (p := ⟨gt, ot + j, none⟩) hgd).trans fj
        replace hgd := Nat.lt_of_lt_of_le hgd bx.size
        replace ho3 := ownsRow_below ho3 bx
        replace how3 := ownsRow_below how3 bx
        replace hb3 := hb3.trans (bx.mono hb3.size)
        replace hz3 := Nat.le_trans hz3 bx.size
        replace z0 := (bx.cell (p := ⟨w3.heap.size, 0, none⟩) hnew).trans z0
        replace z1 := (bx.cell (p := ⟨w3.heap.size, 1, none⟩) hnew).trans z1
        replace zf := fun j => (bx.frozen (p := ⟨w3.heap.size, j, none⟩) hnew).trans (zf j)
        replace hnew := Nat.lt_of_lt_of_le hnew bx.size
        refine ⟨⟨f0, fj⟩, ?_⟩
        clear bx
        refine ordT_flo _ g11 ?_ (fun _ _ _ h => h) rfl ?_ ⟨f0, fj⟩ ?_; rotate_left; focus (intro W hS; obtain ⟨s0, s1⟩ := hS; go_simp; rfl)
        have hq0 := zf 0
        have hq1 := zf 1
        obtain ⟨c0, c1⟩ := two_puts z0 z1 (.int .i64 (l4n y0)) (.int .i64 (l4n yj))
        have p1 : (w5.setCell ⟨w3.heap.size, 0, none⟩ (.int .i64 (l4n y0))).cell? ⟨w3.heap.size, 1, none⟩ = some (.int .i64 0) := (World.cell?_setCell_other w5 _ _ _ (by intro e; injection e with _ e2; cases e2)).trans z1
        have oX := own_put (j := 1) (x := .int .i64 (l4n yj)) (own_put (j := 0) (x := .int .i64 (l4n y0)) ho3 hbig) hbig
        have howX := own_put (j := 1) (x := .int .i64 (l4n yj)) (own_put (j := 0) (x := .int .i64 (l4n y0)) how3 hbigw) hbigw
        have hbX := (hb3.setCell (p := ⟨w3.heap.size, 0, none⟩) hz5 (.int .i64 (l4n y0))).setCell (p := ⟨w3.heap.size, 1, none⟩) hz5 (.int .i64 (l4n yj))
        have hszX : ((w5.setCell ⟨w3.heap.size, 0, none⟩ (.int .i64 (l4n y0))).setCell ⟨w3.heap.size, 1, none⟩ (.int .i64 (l4n yj))).heap.size = w5.heap.size := by simp
        have s0 : ((w5.setCell ⟨w3.heap.size, 0, none⟩ (.int .i64 (l4n y0))).setCell ⟨w3.heap.size, 1, none⟩ (.int .i64 (l4n yj))).cell? ⟨gt, ot, none⟩ = some (sv y0) := (World.cell?_setCell_other _ _ _ _ (by intro e; injection e with e2; omega)).trans ((World.cell?_setCell_other _ _ _ _ (by intro e; injection e with e2; omega)).trans f0)
        have s1 : ((w5.setCell ⟨w3.heap.size, 0, none⟩ (.int .i64 (l4n y0))).setCell ⟨w3.heap.size, 1, none⟩ (.int .i64 (l4n yj))).cell? ⟨gt, ot + j, none⟩ = some (sv yj) := (World.cell?_setCell_other _ _ _ _ (by intro e; injection e with e2; omega)).trans ((World.cell?_setCell_other _ _ _ _ (by intro e; injection e with e2; omega)).trans fj)
        refine ordT_ev _ g13 rfl ?_
        go_simp
        try refine ⟨⟨s0, s1⟩, ?_⟩
        clear s0 s1 p1 z0 z1 zf hq0 hq1 f0 fj ho3 how3 hb3 hbig hbigw
        generalize ((w5.setCell ⟨w3.heap.size, 0, none⟩ (.int .i64 (l4n y0))).setCell ⟨w3.heap.size, 1, none⟩ (.int .i64 (l4n yj))) = X at *
        refine ordT_done ?_
        clear g0 g1 g2 g3 g4 g5 g6 g7 g8 g9 g10 g11 g12 g13 D0 DJ hjw
        have hzX := hbX.size
        go_wp2_with (at_builtin; refine wpList_app1 Tryd.el_spn rfl (.tmp 40) (.tmp 42) rfl w X u4 k _ rfl oX hbX hzX #[.int .i64 (l4n y0), .int .i64 (l4n yj)] (.inr rfl) 1 1 (by rw [hszX]; rfl) rfl (by simp [Value.oneCell']) (by omega) (by omega) (by omega) ?_)
        intro g cap w9 hown9 hb9 hg9 hor9 _
        have how9 := howX.kept hg9 (by
          by_cases hn : (Value.slice (some ⟨gw, o, none⟩) ws.length cw).ownBlock = none
          · exact .inl hn
          · right
            intro e
            obtain ⟨gg, hgg⟩ := Option.ne_none_iff_exists'.1 hn
            have q1 := HTW.out gg hgg
            have q2 := HTO.out gg (by rw [← e, hgg])
            omega)
        have htop9 : ∀ gg, (Value.slice (some ⟨g, 0, none⟩) (k + 1) cap).ownBlock = some gg → gg = w.heap.size ∨ w1.heap.size ≤ gg := by
          intro gg hgg
          have hgg2 : g = gg := by simpa [Value.ownBlock] using hgg
          subst hgg2
          rcases hor9 with h | h
          · exact HTO.out _ h
          · exact .inr (by omega)
        have hz9 := hg9.size
        clear oX howX hbX hg9 hor9 c0 c1
        go_wp2
        go_roundw
        case rel => exact ⟨k + 1, by omega, .inl hle5, by go_num, by rw [HW.out, List.flatMap_append, HWS.out]; simpa [spnc] using hown9, hb9, how9, htop9, by omega⟩
        case measure => simp [intOf]; omega
    · have hL : rawS l = (ws.take k).map wordS := by rcases hfin with h | h; exact h.2; exact h.2.2
      have HV := Lib.hid (HU.out _ hL)
      have hlen : ((ws.take k).map wordS).length = k := by simp; omega
      generalize (ws.take k).map wordS = L at *
      have CT := Lib.hid (specSetText_any u4 L wr (Rd.of_own (enc := spnc) (fun _ => rfl) hlen hown) (by omega))
      have hg : (¬ k < ws.length) ∨ (k < ws.length ∧ ¬ (ws.length : Int) ≤ 5) := by
        rcases hfin with h | h
        · exact .inl h.1
        · exact .inr ⟨h.1, by omega⟩
      clear hfin hL HU HRY HRN how HTW HTO hk5 HPL
      have hlc : l = [] ∨ (¬ l = [] ∧ (setT L == l) = false) ∨ (¬ l = [] ∧ setT L = l) := by
        by_cases h : l = []
        · exact .inl h
        · by_cases h2 : setT L = l
          · exact .inr (.inr ⟨h, h2⟩)
          · exact .inr (.inl ⟨h, by simpa using h2⟩)
      rcases hlc with rfl | ⟨hl0, hst⟩ | ⟨hl0, hst⟩
      · have HN := Lib.hid (show readS [] = none by rw [HV.out, if_pos (.inl rfl)])
        clear HV CT hown
        rcases hg with hg | ⟨hg, hg2⟩
        all_goals
          go_wp2
          go_ret2
          exact ⟨_, by rw [HN.out]; rfl, by rw [HN.out]; exact World.ownsRow_made wr #[] 0 hbr0 (by unfold maxLen; omega) (by simp), hbr.alloc hbr0 _⟩
      · have HN := Lib.hid (show readS l = none by rw [HV.out, if_pos (.inr (by simpa using hst))])
        have hle : l.isEmpty = false := by cases hh : l with | nil => exact absurd hh hl0 | cons a r => rfl
        have hst2 : (setT L != l) = true := by simp only [bne, hst]; rfl
        generalize setT L = q at *
        clear HV hown hl0
        rcases hg with hg | ⟨hg, hg2⟩
        all_goals
          go_wp2_with fail
          refine (CT.out).mono ?_
          rintro e w2 ⟨rfl, b2⟩
          have hb2 := hbr.trans (b2.mono hbr0)
          go_wp2
          go_ret2
          exact ⟨_, by rw [HN.out]; rfl, by rw [HN.out]; exact World.ownsRow_made w2 #[] 0 hb2.size (by unfold maxLen; omega) (by simp), hb2.alloc hb2.size _⟩
      · have HN := Lib.hid (show readS l = some L by rw [HV.out, if_neg (by rintro (h | h); exact hl0 h; exact h hst)])
        have hle : l.isEmpty = false := by cases hh : l with | nil => exact absurd hh hl0 | cons a r => rfl
        rw [hst] at CT
        clear HV hst hl0
        rcases hg with hg | ⟨hg, hg2⟩
        all_goals
          go_wp2_with fail
          refine (CT.out).mono ?_
          rintro e w2 ⟨rfl, b2⟩
          have hb2 := hbr.trans (b2.mono hbr0)
          have ho2 := ownsRow_below hown b2
          go_wp2
          go_ret2
          exact ⟨_, by rw [HN.out]; rfl, by rw [HN.out]; show w2.ownsRow _ _ _ _ L.length _; rw [hlen]; exact ho2, hb2⟩

theorem specReadSet_any (s : ByteArray) (w : World) (hs : s.size ≤ 1048576) :
    Calls Tryd.prog 9 #[.string s] w fun e w' => SetPost (readS s.data.toList) w e w' := by
  have := specReadSet_list s.data.toList w (by simpa using hs)
  rwa [sv_data] at this

end Go.Proofs.YtkajjkjimpdbbaaDoor
