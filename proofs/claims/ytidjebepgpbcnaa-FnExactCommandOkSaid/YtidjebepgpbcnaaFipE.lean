/-
  Chapter 6, the program: SameFilter.
-/
import Derived.Test.YtidjebepgpbcnaaFipC
import Derived.Test.YtidjebepgpbcnaaFilO
namespace Go.Proofs.Ytidjebepgpbcnaa
open Go.RowKit

set_option maxHeartbeats 1600000 in
theorem sameScope_any (s t : Scp) (va vb : Value) (w : World) (ha : Rd1 sv w va s.names) (hb : Rd1 sv w vb t.names) (hl : s.names.length ≤ 140737488355328) :
    Calls Try.prog 52 #[.agg #[.int .i64 s.kind, va, .int .i64 s.events], .agg #[.int .i64 t.kind, vb, .int .i64 t.events]] w fun e w' => e = .returned (.bool (decide (s = t))) ∧ Below w.heap.size w w' := by
  obtain ⟨k1, n1, e1⟩ := s
  obtain ⟨k2, n2, e2⟩ := t
  simp only at *
  have c4 := fun W (h : Below w.heap.size w W) => strEqual_any va vb n1 n2 W (ha.below h) (hb.below h) hl
  obtain ⟨p, c, rfl, _⟩ := ha.ex
  obtain ⟨q, d, rfl, _⟩ := hb.ex
  have hb1 : Below w.heap.size w ((w.alloc (.cells #[.int .i64 k1, .slice p n1.length c, .int .i64 e1] 64)).alloc (.cells #[.int .i64 k2, .slice q n2.length d, .int .i64 e2] 64)) := ((Below.refl _ _).alloc (Nat.le_refl _) _).alloc (by simp) _
  clear ha hb
  have C4 := Lib.hid c4
  clear c4
  cases h1 : (k1 == k2) with
  | false =>
    have HV := Lib.hid (show decide (Scp.mk k1 n1 e1 = Scp.mk k2 n2 e2) = false from decide_eq_false (by intro e; injection e with e _ _; rw [e] at h1; simp at h1))
    clear C4
    go_enter Try.func52, Try.ntmps52
    go_wp2
    go_ret
    exact ⟨by rw [HV.out]; rfl, hb1⟩
  | true =>
    cases h2 : (e1 == e2) with
    | false =>
      have HV := Lib.hid (show decide (Scp.mk k1 n1 e1 = Scp.mk k2 n2 e2) = false from decide_eq_false (by intro e; injection e with _ _ e; rw [e] at h2; simp at h2))
      clear C4
      go_enter Try.func52, Try.ntmps52
      go_wp2
      go_ret
      exact ⟨by rw [HV.out]; rfl, hb1⟩
    | true =>
      have HV := Lib.hid (show decide (Scp.mk k1 n1 e1 = Scp.mk k2 n2 e2) = decide (n1 = n2) by
        have g1 : k1 = k2 := by simpa using h1
        have g2 : e1 = e2 := by simpa using h2
        subst g1 g2
        by_cases h : n1 = n2
        · subst h; simp
        · rw [decide_eq_false h, decide_eq_false (by intro e; injection e with _ e _; exact h e)])
      go_enter Try.func52, Try.ntmps52
      go_wp2_with fail
      refine (C4.out _ hb1).mono ?_
      rintro e w1 ⟨rfl, b1⟩
      have hb2 := hb1.trans (b1.mono (by simp; omega))
      clear b1 hb1 C4
      go_wp2
      go_ret
      exact ⟨by rw [HV.out]; rfl, hb2⟩

set_option maxHeartbeats 3200000 in
theorem scpEqualFunc_any (a b : Value) (l m : List Scp) (w : World) (ha : LfRd w (scpsLf l) a) (hb : LfRd w (scpsLf m) b) (hl : l.length ≤ 140737488355328) (hx : ∀ s ∈ l, s.names.length ≤ 140737488355328) :
    Calls Try.prog 51 #[a, b, .func (.func 52) #[] #[]] w fun e w' => e = .returned (.bool (decide (l = m))) ∧ Below w.heap.size w w' := by
  obtain ⟨p, c1, rfl, hp⟩ := scps_at ha
  obtain ⟨q, c2, rfl, hq⟩ := scps_at hb
  clear ha hb
  have HP := Lib.hid hp
  have HQ := Lib.hid hq
  have HX := Lib.hid hx
  clear hp hq hx
  by_cases hlen : l.length = m.length
  · rw [← hlen]
    have HL := Lib.hid hlen
    clear hlen
    go_enter Try.func51, Try.ntmps51
    go_wp2
    go_loopw [7, 8, 9, 17] (fun u7 u8 u9 i wr => ∃ k : Nat, k ≤ l.length ∧ i = .int .i64 k ∧ l.take k = m.take k ∧ Below w.heap.size w wr) (fun u7 u8 u9 i _ => l.length - (intOf i).toNat)
    case atStart => exact ⟨0, by omega, rfl, rfl, Below.refl _ _⟩
    case round =>
      obtain ⟨k, hk, rfl, hall, hbr⟩ := hrel
      have Hall := Lib.hid hall
      clear hall
      by_cases hlt : k < l.length
      · obtain ⟨b1, o1, rfl, hb1, hc1⟩ := HP.out.resolve_left (by intro h; subst h; simp at hlt)
        obtain ⟨b2, o2, rfl, hb2, hc2⟩ := HQ.out.resolve_left (by intro h; have hlen := HL.out; rw [h] at hlen; simp at hlen; simp [hlen] at hlt)
        obtain ⟨x, hx⟩ : ∃ x, l[k]? = some x := ⟨_, List.getElem?_eq_getElem hlt⟩
        obtain ⟨y, hy⟩ : ∃ y, m[k]? = some y := ⟨_, List.getElem?_eq_getElem (by have := HL.out; omega)⟩
        obtain ⟨v1, n1, x0, x1, x2⟩ := hc1 k x hx
        obtain ⟨v2, n2, y0, y1, y2⟩ := hc2 k y hy
        obtain ⟨p1, d1, rfl, _⟩ := n1.ex
        obtain ⟨p2, d2, rfl, _⟩ := n2.ex
        have e0 : wr.cell? ⟨b1, o1 + k * 3, none⟩ = some (.int .i64 x.kind) := (hbr.cell (p := ⟨b1, o1 + k * 3, none⟩) hb1).trans x0
        have e1 : wr.cell? ⟨b1, o1 + k * 3 + 1, none⟩ = some (.slice p1 x.names.length d1) := (hbr.cell (p := ⟨b1, o1 + k * 3 + 1, none⟩) hb1).trans x1
        have e2 : wr.cell? ⟨b1, o1 + k * 3 + 2, none⟩ = some (.int .i64 x.events) := (hbr.cell (p := ⟨b1, o1 + k * 3 + 2, none⟩) hb1).trans x2
        have f0 : ∀ o : Obj, (wr.alloc o).cell? ⟨b2, o2 + k * 3, none⟩ = some (.int .i64 y.kind) := fun o => ((hbr.alloc hbr.size o).cell (p := ⟨b2, o2 + k * 3, none⟩) hb2).trans y0
        have f1 : ∀ o : Obj, (wr.alloc o).cell? ⟨b2, o2 + k * 3 + 1, none⟩ = some (.slice p2 y.names.length d2) := fun o => ((hbr.alloc hbr.size o).cell (p := ⟨b2, o2 + k * 3 + 1, none⟩) hb2).trans y1
        have f2 : ∀ o : Obj, (wr.alloc o).cell? ⟨b2, o2 + k * 3 + 2, none⟩ = some (.int .i64 y.events) := fun o => ((hbr.alloc hbr.size o).cell (p := ⟨b2, o2 + k * 3 + 2, none⟩) hb2).trans y2
        have C := Lib.hid (fun W (h : Below w.heap.size w W) => sameScope_any x y (.slice p1 x.names.length d1) (.slice p2 y.names.length d2) W (n1.below h) (n2.below h) (HX.out x (List.mem_of_getElem? hx)))
        have hb3 : ∀ o o' : Obj, Below w.heap.size w ((wr.alloc o).alloc o') := fun o o' => (hbr.alloc hbr.size o).alloc (by have := hbr.size; simp; omega) o'
        have HB3 := Lib.hid hb3
        clear hb3 hc1 hc2 x0 x1 x2 y0 y1 y2 n1 n2
        cases h1 : decide (x = y) with
        | false =>
          rw [h1] at C
          have HV := Lib.hid (show decide (l = m) = false from decide_eq_false (not_same_at hx hy (by intro e; rw [e] at h1; simp at h1)))
          clear hx hy HP HQ HL Hall h1 HX
          go_wp2_with fail
          refine (C.out _ (HB3.out _ _)).mono ?_
          rintro e w1 ⟨rfl, b1'⟩
          have hb4 := (HB3.out _ _).trans (b1'.mono (HB3.out _ _).size)
          clear b1' C HB3 e0 e1 e2 f0 f1 f2
          go_wp2
          go_ret
          exact ⟨by rw [HV.out]; rfl, hb4⟩
        | true =>
          rw [h1] at C
          obtain rfl : x = y := by simpa using h1
          have HN := Lib.hid (take_same_succ hx hy Hall.out)
          clear hx hy Hall h1
          go_wp2_with fail
          refine (C.out _ (HB3.out _ _)).mono ?_
          rintro e w1 ⟨rfl, b1'⟩
          have hb4 := (HB3.out _ _).trans (b1'.mono (HB3.out _ _).size)
          clear b1' C HB3 e0 e1 e2 f0 f1 f2 hbr
          go_wp2
          go_roundw
          case rel => exact ⟨k + 1, by omega, by go_num, HN.out, hb4⟩
          case measure => simp [intOf]; omega
      · obtain rfl : k = l.length := by omega
        have HV := Lib.hid (show decide (l = m) = true from decide_eq_true (by have := Hall.out; rw [List.take_length, HL.out, List.take_length] at this; exact this))
        clear HL
        go_wp2
        go_ret
        exact ⟨by rw [HV.out]; rfl, hbr⟩
  · have HV := Lib.hid (show decide (l = m) = false from decide_eq_false (fun e => hlen (by rw [e])))
    have hne : ((l.length : Int) == (m.length : Int)) = false := by rw [beq_eq_false_iff_ne]; omega
    have hnn := ne_yes' hne
    go_enter Try.func51, Try.ntmps51
    go_wp2
    go_ret
    exact ⟨by rw [HV.out]; rfl, Below.refl _ _⟩

set_option maxHeartbeats 1600000 in
theorem implSameFilter_any : ImplSameFilter (fun _ => True) := by
  intro f g va vb w _ ha hb hl hm hx hy _ _
  obtain ⟨on, l⟩ := f
  obtain ⟨on2, m⟩ := g
  simp only at *
  have c4 := fun W (h : Below w.heap.size w W) => scpEqualFunc_any va vb l m W (LfRd.below h _ _ ha) (LfRd.below h _ _ hb) (by omega) (fun s hs => by have := (hx s hs).1; omega)
  obtain ⟨p, c, rfl, _⟩ := scps_at ha
  obtain ⟨q, d, rfl, _⟩ := scps_at hb
  have hb1 : Below w.heap.size w ((w.alloc (.cells #[.bool on, .slice p l.length c] 34)).alloc (.cells #[.bool on2, .slice q m.length d] 34)) := ((Below.refl _ _).alloc (Nat.le_refl _) _).alloc (by simp) _
  clear ha hb
  have C4 := Lib.hid c4
  clear c4 hx hy
  by_cases h1 : on = on2
  · subst h1
    have HV := Lib.hid (show decide (Flt.mk on l = Flt.mk on m) = decide (l = m) by
      by_cases h : l = m
      · subst h; simp
      · rw [decide_eq_false h, decide_eq_false (by intro e; injection e with _ e; exact h e)])
    have hbb : (on == on) = true := by cases on <;> rfl
    go_enter Try.func37, Try.ntmps37
    go_wp2_with fail
    refine (C4.out _ hb1).mono ?_
    rintro e w1 ⟨rfl, b1⟩
    have hb2 := hb1.trans (b1.mono (by simp; omega))
    clear b1 hb1 C4
    go_wp2
    go_ret
    exact ⟨by rw [HV.out]; rfl, hb2⟩
  · have HV := Lib.hid (show decide (Flt.mk on l = Flt.mk on2 m) = false from decide_eq_false (by intro e; injection e with e _; exact h1 e))
    have hbb : (on == on2) = false := by rw [beq_eq_false_iff_ne]; exact h1
    clear C4
    go_enter Try.func37, Try.ntmps37
    go_wp2
    go_ret
    exact ⟨by rw [HV.out]; rfl, hb1⟩

end Go.Proofs.Ytidjebepgpbcnaa
