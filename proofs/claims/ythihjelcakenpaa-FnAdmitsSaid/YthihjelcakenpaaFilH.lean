/-
  Chapter 6: what a scope covers, what a filter admits.
-/
import Derived.Test.YthihjelcakenpaaFilG
namespace Go.Proofs.Ythihjelcakenpaa
open Go.RowKit

def coversB (s : Scp) (sel nm : List UInt8) : Bool :=
  if s.kind = 1 then nm == sel && !(nm == []) else if s.kind = 2 then nameB nm else if s.kind = 3 then s.names.any (underB nm) else if s.kind = 4 then s.names.any (· == nm) else false
def admitB (sel nm : List UInt8) (ev : Int) (s : Scp) : Bool := !(bits .and .i64 s.events ev == 0) && coversB s sel nm
def admitsB (f : Flt) (sel nm : List UInt8) (ev : Int) : Bool := f.on && f.scopes.any (admitB sel nm ev)

set_option maxHeartbeats 3200000 in
theorem specCovers_any (s : Scp) (vn : Value) (sel nm : List UInt8) (w : World) (hr : Rd1 sv w vn s.names) (hl : s.names.length ≤ 140737488355328) (hx : ∀ x ∈ s.names, x.length ≤ 1048576) (hn : nm.length ≤ 1048576) :
    Calls Try.prog 24 #[.agg #[.int .i64 s.kind, vn, .int .i64 s.events], sv sel, sv nm] w fun e w' => e = .returned (.bool (coversB s sel nm)) ∧ Below w.heap.size w w' := by
  obtain ⟨kd, names, ev⟩ := s
  simp only at *
  have hr0 := hr
  obtain ⟨p, c, rfl, hp⟩ := hr.ex
  have HX := Lib.hid hx
  have hb1 : Below w.heap.size w (w.alloc (.cells #[.int .i64 kd, .slice p names.length c, .int .i64 ev] 32)) := (Below.refl _ _).alloc (Nat.le_refl _) _
  have HA := Lib.hid (show (w.alloc (.cells #[.int .i64 kd, .slice p names.length c, .int .i64 ev] 32)).heap[w.heap.size]? = some (.cells #[.int .i64 kd, .slice p names.length c, .int .i64 ev] 32 (0, 0)) from heap_alloc_new w _)
  have HP := Lib.hid hp
  have c2 : ∀ W, Calls Try.prog 42 #[sv nm] W fun e w' => e = .returned (.bool (nameB nm)) ∧ W = w' := fun W => by have := specNameOk_any ⟨nm.toArray⟩ W (by unfold maxLen; show nm.toArray.size ≤ _; simp; omega); simpa using this
  have C2 := Lib.hid c2
  have C4 := Lib.hid (specHas_any (.slice p names.length c) names nm (w.alloc (.cells #[.int .i64 kd, .slice p names.length c, .int .i64 ev] 32)) (hr0.below hb1) hl)
  have CU : Hid (∀ x ∈ names, ∀ W, Calls Try.prog 49 #[sv nm, sv x] W fun e w' => e = .returned (.bool (underB nm x)) ∧ W = w') := Lib.hid (fun x hm W => by have := specUnder_any ⟨nm.toArray⟩ ⟨x.toArray⟩ W (by show nm.toArray.size ≤ _; simp; omega) (by show x.toArray.size ≤ _; have := HX.out x hm; simp; omega); simpa using this)
  clear hr hr0 hp hx HX c2
  by_cases k1 : kd = 1
  · subst k1
    cases hE : (nm == sel) with
    | false =>
      have HV := Lib.hid (show coversB ⟨1, names, ev⟩ sel nm = false by simp only [coversB, if_true, hE, Bool.false_and])
      clear C2 C4 CU HP
      go_enter Try.func24, Try.ntmps24
      go_wp2
      go_ret
      exact ⟨by rw [HV.out]; rfl, hb1⟩
    | true =>
      cases hZ : (nm == ([] : List UInt8)) with
      | false =>
        have HV := Lib.hid (show coversB ⟨1, names, ev⟩ sel nm = true by simp only [coversB, if_true, hE, hZ, Bool.true_and, Bool.not_false])
        clear C2 C4 CU HP
        go_enter Try.func24, Try.ntmps24
        go_wp2
        go_ret
        exact ⟨by rw [HV.out]; rfl, hb1⟩
      | true =>
        have HV := Lib.hid (show coversB ⟨1, names, ev⟩ sel nm = false by simp only [coversB, if_true, hE, hZ, Bool.true_and, Bool.not_true])
        clear C2 C4 CU HP
        go_enter Try.func24, Try.ntmps24
        go_wp2
        go_ret
        exact ⟨by rw [HV.out]; rfl, hb1⟩
  · by_cases k2 : kd = 2
    · subst k2
      have HV := Lib.hid (show coversB ⟨2, names, ev⟩ sel nm = nameB nm by simp [coversB])
      go_enter Try.func24, Try.ntmps24
      go_wp2_with fail
      refine (C2.out _).mono ?_
      rintro e w1 ⟨rfl, rfl⟩
      go_wp2
      go_ret
      exact ⟨by rw [HV.out]; rfl, hb1⟩
    · by_cases k3 : kd = 3
      · subst k3
        have HV := Lib.hid (show coversB ⟨3, names, ev⟩ sel nm = names.any (underB nm) by simp [coversB])
        have q1 : (w.alloc (.cells #[.int .i64 3, .slice p names.length c, .int .i64 ev] 32)).cell? ⟨w.heap.size, 1, none⟩ = some (.slice p names.length c) := (Lib.cell_of_heap HA.out 1).trans rfl
        clear k1 k2 C2 C4
        go_enter Try.func24, Try.ntmps24
        go_wp2
        go_loop [7] (fun i => ∃ k : Nat, k ≤ names.length ∧ i = .int .i64 k ∧ (names.take k).any (underB nm) = false) (fun i => names.length - (intOf i).toNat)
        case atStart => exact ⟨0, by omega, rfl, rfl⟩
        case round =>
          obtain ⟨k, hk, rfl, hall⟩ := hrel
          have Hall := Lib.hid hall
          clear hall
          by_cases hlt : k < names.length
          · obtain ⟨b, off, rfl, hb, hcell⟩ := HP.out.resolve_left (by intro h; subst h; simp at hlt)
            obtain ⟨y, hy⟩ : ∃ y, names[k]? = some y := ⟨_, List.getElem?_eq_getElem hlt⟩
            have e1 := (hb1.cell (p := ⟨b, off + k, none⟩) hb).trans (hcell k y hy)
            have cu := CU.out y (List.mem_of_getElem? hy)
            cases h1 : underB nm y with
            | true =>
              rw [h1] at cu
              have C5 := Lib.hid cu
              have HV2 := Lib.hid (HV.out.trans (any_at hy h1))
              clear hcell hy Hall HP cu CU HV
              go_wp2_with fail
              refine (C5.out _).mono ?_
              rintro e w1 ⟨rfl, rfl⟩
              go_wp2
              go_ret
              exact ⟨by rw [HV2.out]; rfl, hb1⟩
            | false =>
              rw [h1] at cu
              have C5 := Lib.hid cu
              have HN := Lib.hid (show (names.take (k + 1)).any (underB nm) = false by
                obtain ⟨h3, h2⟩ := List.getElem?_eq_some_iff.1 hy
                rw [List.take_succ_eq_append_getElem h3, h2, List.any_append, Hall.out]
                simp [h1])
              clear hcell hy Hall cu
              go_wp2_with fail
              refine (C5.out _).mono ?_
              rintro e w1 ⟨rfl, rfl⟩
              go_wp2
              go_round
              case rel => exact ⟨k + 1, by omega, by go_num, HN.out⟩
              case measure => simp [intOf]; omega
          · obtain rfl : k = names.length := by omega
            rw [List.take_length] at Hall
            go_wp2
            go_ret
            exact ⟨by rw [HV.out, Hall.out]; rfl, hb1⟩
      · by_cases k4 : kd = 4
        · subst k4
          have HV := Lib.hid (show coversB ⟨4, names, ev⟩ sel nm = names.any (· == nm) by simp [coversB])
          clear k1 k2 k3 C2 CU
          go_enter Try.func24, Try.ntmps24
          go_wp2_with fail
          refine (C4.out).mono ?_
          rintro e w1 ⟨rfl, rfl⟩
          go_wp2
          go_ret
          exact ⟨by rw [HV.out]; rfl, hb1⟩
        · have HV := Lib.hid (show coversB ⟨kd, names, ev⟩ sel nm = false by simp [coversB, k1, k2, k3, k4])
          have t1 : (kd == 1) = false := by rw [beq_eq_false_iff_ne]; exact k1
          have t2 : (kd == 2) = false := by rw [beq_eq_false_iff_ne]; exact k2
          have t3 : (kd == 3) = false := by rw [beq_eq_false_iff_ne]; exact k3
          have t4 : (kd == 4) = false := by rw [beq_eq_false_iff_ne]; exact k4
          clear C2 C4 CU HP
          go_enter Try.func24, Try.ntmps24
          go_wp2
          go_ret
          exact ⟨by rw [HV.out]; rfl, hb1⟩

set_option maxHeartbeats 3200000 in
theorem specAdmits_any (f : Flt) (vs : Value) (sel nm : List UInt8) (en : Int) (w : World) (hr : LfRd w (scpsLf f.scopes) vs) (hl : f.scopes.length ≤ 140737488355328) (hx : ∀ s ∈ f.scopes, s.names.length ≤ 140737488355328 ∧ ∀ x ∈ s.names, x.length ≤ 1048576) (hn : nm.length ≤ 1048576) :
    Calls Try.prog 12 #[.agg #[.bool f.on, vs], sv sel, sv nm, .int .i64 en] w fun e w' => e = .returned (.bool (admitsB f sel nm en)) ∧ Below w.heap.size w w' := by
  obtain ⟨on, l⟩ := f
  simp only at *
  obtain ⟨p, c, rfl, hp⟩ := scps_at hr
  have HX := Lib.hid hx
  have hb1 : Below w.heap.size w (w.alloc (.cells #[.bool on, .slice p l.length c] 26)) := (Below.refl _ _).alloc (Nat.le_refl _) _
  have hA : (w.alloc (.cells #[.bool on, .slice p l.length c] 26)).heap[w.heap.size]? = some (.cells #[.bool on, .slice p l.length c] 26 (0, 0)) := heap_alloc_new w _
  have HA := Lib.hid hA
  have hz1 : (w.alloc (.cells #[.bool on, .slice p l.length c] 26)).heap.size = w.heap.size + 1 := by simp
  have HZ := Lib.hid hz1
  have HP := Lib.hid hp
  clear hr hp hx hA hz1
  have hbb : Below (w.heap.size + 1) (w.alloc (.cells #[.bool on, .slice p l.length c] 26)) (w.alloc (.cells #[.bool on, .slice p l.length c] 26)) := Below.refl _ _
  go_enter Try.func12, Try.ntmps12
  go_wp2
  go_loopw [9] (fun i wr => ∃ k : Nat, k ≤ l.length ∧ i = .int .i64 k ∧ (k = 0 ∨ on = true) ∧ (l.take k).any (admitB sel nm en) = false ∧ Below (w.heap.size + 1) (w.alloc (.cells #[.bool on, .slice p l.length c] 26)) wr) (fun i _ => l.length - (intOf i).toNat)
  case atStart => exact ⟨0, by omega, rfl, .inl rfl, rfl, hbb⟩
  case round =>
    obtain ⟨k, hk, rfl, hon, hall, hbr⟩ := hrel
    have hbw := hb1.trans (hbr.mono (by omega))
    have hzr : w.heap.size + 1 ≤ wr.heap.size := by have := hbr.size; rw [HZ.out] at this; exact this
    have q0 : wr.cell? ⟨w.heap.size, 0, none⟩ = some (.bool on) := (Lib.cell_of_heap ((hbr.block w.heap.size (by omega)).trans HA.out) 0).trans rfl
    have q1 : wr.cell? ⟨w.heap.size, 1, none⟩ = some (.slice p l.length c) := (Lib.cell_of_heap ((hbr.block w.heap.size (by omega)).trans HA.out) 1).trans rfl
    have Hall := Lib.hid hall
    have HON := Lib.hid hon
    clear hall hbb hb1 hon
    by_cases hlt : k < l.length
    · cases on with
      | false =>
        obtain rfl : k = 0 := by rcases HON.out with h | h; exact h; cases h
        have HV := Lib.hid (show admitsB ⟨false, l⟩ sel nm en = false from rfl)
        clear HP HX Hall HA
        go_wp2
        go_ret
        exact ⟨by rw [HV.out]; rfl, hbw⟩
      | true =>
        obtain ⟨b, off, rfl, hb, hcell⟩ := HP.out.resolve_left (by intro h; subst h; simp at hlt)
        obtain ⟨s, hs⟩ : ∃ s, l[k]? = some s := ⟨_, List.getElem?_eq_getElem hlt⟩
        have hsl := HX.out s (List.mem_of_getElem? hs)
        obtain ⟨v1, n1, x0, x1, x2⟩ := hcell k s hs
        have e0 : wr.cell? ⟨b, off + k * 3, none⟩ = some (.int .i64 s.kind) := (hbw.cell (p := ⟨b, off + k * 3, none⟩) hb).trans x0
        have e1 : wr.cell? ⟨b, off + k * 3 + 1, none⟩ = some v1 := (hbw.cell (p := ⟨b, off + k * 3 + 1, none⟩) hb).trans x1
        have e2 : wr.cell? ⟨b, off + k * 3 + 2, none⟩ = some (.int .i64 s.events) := (hbw.cell (p := ⟨b, off + k * 3 + 2, none⟩) hb).trans x2
        have c4 := specCovers_any s v1 sel nm wr (n1.below hbw) hsl.1 hsl.2 hn
        have hno : ∀ h : admitB sel nm en s = false, (l.take (k + 1)).any (admitB sel nm en) = false := fun h => by
          obtain ⟨h3, h2⟩ := List.getElem?_eq_some_iff.1 hs
          rw [List.take_succ_eq_append_getElem h3, h2, List.any_append, Hall.out]
          simp [h]
        cases h3 : (bits .and .i64 s.events en == 0) with
        | true =>
          have HN := Lib.hid (hno (by simp [admitB, h3]))
          clear c4 hs hcell x0 x1 x2 n1 Hall hbw hno
          go_wp2
          go_roundw
          case rel => exact ⟨k + 1, by omega, by go_num, .inr trivial, HN.out, hbr⟩
          case measure => simp [intOf]; omega
        | false =>
          have h3n := ne_yes' h3
          cases h4 : coversB s sel nm with
          | true =>
            have HV := Lib.hid (show admitsB ⟨true, l⟩ sel nm en = true by unfold admitsB; rw [any_at hs (by simp [admitB, h3, h4])]; rfl)
            rw [h4] at c4
            have C4 := Lib.hid c4
            clear c4 hs HP hcell h4 x0 x1 x2 n1 HA HX Hall hno
            go_wp2_with fail
            refine (C4.out).mono ?_
            rintro e w1 ⟨rfl, b1⟩
            have hb2 := hbw.trans (b1.mono (by omega))
            clear b1
            go_wp2
            go_ret
            exact ⟨by rw [HV.out]; rfl, hb2⟩
          | false =>
            have HN := Lib.hid (hno (by simp [admitB, h4]))
            rw [h4] at c4
            have C4 := Lib.hid c4
            clear c4 hs hcell h4 x0 x1 x2 n1 Hall hbw hno
            go_wp2_with fail
            refine (C4.out).mono ?_
            rintro e w1 ⟨rfl, b1⟩
            have hb2 := hbr.trans (b1.mono hzr)
            clear b1 hbr q0 q1 e0 e1 e2 C4
            go_wp2
            go_roundw
            case rel => exact ⟨k + 1, by omega, by go_num, .inr trivial, HN.out, hb2⟩
            case measure => simp [intOf]; omega
    · obtain rfl : k = l.length := by omega
      rw [List.take_length] at Hall
      have HV := Lib.hid (show admitsB ⟨on, l⟩ sel nm en = false by unfold admitsB; rw [Hall.out]; simp)
      go_wp2
      go_ret
      exact ⟨by rw [HV.out]; rfl, hbw⟩

end Go.Proofs.Ythihjelcakenpaa
