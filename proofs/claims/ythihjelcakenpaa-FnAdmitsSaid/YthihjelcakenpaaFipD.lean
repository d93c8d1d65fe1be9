/-
  Chapter 6, the program: what a scope covers, what a filter admits.
-/
import Derived.Test.YthihjelcakenpaaFipC
namespace Go.Proofs.Ythihjelcakenpaa
open Go.RowKit

set_option maxHeartbeats 800000 in
theorem coversFn_any (x nm : List UInt8) (a : Addr) (w : World) (ha : w.cell? a = some (sv nm)) (hx : x.length ≤ 1048576) (hn : nm.length ≤ 1048576) :
    Calls Try.prog 37 #[sv x, .pointer (some a)] w fun e w' => e = .returned (.bool (underB nm x)) ∧ Below w.heap.size w w' := by
  have c := fun W => implUnder_any ⟨nm.toArray⟩ ⟨x.toArray⟩ W (by show nm.toArray.size ≤ _; simp; omega) (by show x.toArray.size ≤ _; simp; omega)
  simp only at c
  have C := Lib.hid c
  clear c
  go_enter Try.func37, Try.ntmps37
  go_wp2_with fail
  refine (C.out _).mono ?_
  rintro e w1 ⟨rfl, b1⟩
  go_wp2
  go_ret
  exact ⟨rfl, b1⟩

set_option maxHeartbeats 3200000 in
theorem implCovers_any : ImplCovers (fun _ => True) := by
  intro s vn sel nm w _ hr hl hx _ _ hsel hn
  obtain ⟨kd, names, ev⟩ := s
  simp only at *
  have hr0 := hr
  obtain ⟨p, c, rfl, hp⟩ := hr.ex
  have hsl : ∃ q n d, Value.slice p names.length c = .slice q n d := ⟨_, _, _, rfl⟩
  have hb1 : Below w.heap.size w ((w.alloc (.cells #[.int .i64 kd, .slice p names.length c, .int .i64 ev] 32)).alloc (.cells #[sv nm] 9)) := ((Below.refl _ _).alloc (Nat.le_refl _) _).alloc (by simp) _
  have hA : ((w.alloc (.cells #[.int .i64 kd, .slice p names.length c, .int .i64 ev] 32)).alloc (.cells #[sv nm] 9)).heap[w.heap.size + 1]? = some (.cells #[sv nm] 9 (0, 0)) := by
    have := heap_alloc_new (w.alloc (.cells #[.int .i64 kd, .slice p names.length c, .int .i64 ev] 32)) (.cells #[sv nm] 9)
    rwa [World.size_alloc] at this
  have HA := Lib.hid hA
  have hz1 : ((w.alloc (.cells #[.int .i64 kd, .slice p names.length c, .int .i64 ev] 32)).alloc (.cells #[sv nm] 9)).heap.size = w.heap.size + 2 := by simp
  have HZ := Lib.hid hz1
  have HN := Lib.hid (fun W => (by have := implNameOk_any ⟨nm.toArray⟩ W (by unfold maxLen; show nm.toArray.size ≤ _; simp; omega); simpa using this : Calls Try.prog 35 #[sv nm] W fun e w' => e = .returned (.bool (nameB nm)) ∧ Below W.heap.size W w'))
  have HR := Lib.hid hr0
  have HX := Lib.hid hx
  clear hr hr0 hp hx hA hz1
  by_cases k1 : kd = 1
  · subst k1
    have C := Lib.hid (fun W => reach_1 (.slice p names.length c) ev W hsl)
    have a1 := as11
    clear hsl HN HR HX
    cases hE : (nm == sel) with
    | false =>
      have HV := Lib.hid (show coversB ⟨1, names, ev⟩ sel nm = false by simp only [coversB, if_true, hE, Bool.false_and])
      go_enter Try.func13, Try.ntmps13
      go_wp2_with fail
      refine (C.out _).mono ?_
      rintro e w1 ⟨rfl, b1⟩
      have q1 : ∀ o : Obj, (w1.alloc o).cell? ⟨w.heap.size + 1, 0, none⟩ = some (sv nm) := fun o => (Lib.cell_of_heap ((((b1.alloc b1.size o).block (w.heap.size + 1) (by rw [HZ.out]; omega))).trans HA.out) 0).trans rfl
      have hb2 := hb1.trans (b1.mono (by rw [HZ.out]; omega))
      clear C b1 hb1 HA HZ
      go_wp2
      go_ret
      exact ⟨by rw [HV.out]; rfl, hb2.alloc hb2.size _⟩
    | true =>
      cases hZ : (nm == ([] : List UInt8)) with
      | false =>
        have HV := Lib.hid (show coversB ⟨1, names, ev⟩ sel nm = true by simp only [coversB, if_true, hE, hZ, Bool.true_and, Bool.not_false])
        go_enter Try.func13, Try.ntmps13
        go_wp2_with fail
        refine (C.out _).mono ?_
        rintro e w1 ⟨rfl, b1⟩
        have q1 : ∀ o : Obj, (w1.alloc o).cell? ⟨w.heap.size + 1, 0, none⟩ = some (sv nm) := fun o => (Lib.cell_of_heap ((((b1.alloc b1.size o).block (w.heap.size + 1) (by rw [HZ.out]; omega))).trans HA.out) 0).trans rfl
        have hb2 := hb1.trans (b1.mono (by rw [HZ.out]; omega))
        clear C b1 hb1 HA HZ
        go_wp2
        go_ret
        exact ⟨by rw [HV.out]; rfl, hb2.alloc hb2.size _⟩
      | true =>
        have HV := Lib.hid (show coversB ⟨1, names, ev⟩ sel nm = false by simp only [coversB, if_true, hE, hZ, Bool.true_and, Bool.not_true])
        go_enter Try.func13, Try.ntmps13
        go_wp2_with fail
        refine (C.out _).mono ?_
        rintro e w1 ⟨rfl, b1⟩
        have q1 : ∀ o : Obj, (w1.alloc o).cell? ⟨w.heap.size + 1, 0, none⟩ = some (sv nm) := fun o => (Lib.cell_of_heap ((((b1.alloc b1.size o).block (w.heap.size + 1) (by rw [HZ.out]; omega))).trans HA.out) 0).trans rfl
        have hb2 := hb1.trans (b1.mono (by rw [HZ.out]; omega))
        clear C b1 hb1 HA HZ
        go_wp2
        go_ret
        exact ⟨by rw [HV.out]; rfl, hb2.alloc hb2.size _⟩
  by_cases k2 : kd = 2
  · subst k2
    have HV := Lib.hid (show coversB ⟨2, names, ev⟩ sel nm = nameB nm by simp [coversB])
    have C := Lib.hid (fun W => reach_2 (.slice p names.length c) ev W hsl)
    have a1 := as21
    have a2 := as22
    clear hsl HR HX
    go_enter Try.func13, Try.ntmps13
    go_wp2_with fail
    refine (C.out _).mono ?_
    rintro e w1 ⟨rfl, b1⟩
    have q1 : ∀ o : Obj, (w1.alloc o).cell? ⟨w.heap.size + 1, 0, none⟩ = some (sv nm) := fun o => (Lib.cell_of_heap ((((b1.alloc b1.size o).block (w.heap.size + 1) (by rw [HZ.out]; omega))).trans HA.out) 0).trans rfl
    have hz2 : w.heap.size + 2 ≤ w1.heap.size := by have := b1.size; rw [HZ.out] at this; exact this
    have hb2 := hb1.trans (b1.mono (by rw [HZ.out]; omega))
    clear C b1 hb1 HA HZ
    go_wp2_with fail
    refine (HN.out _).mono ?_
    rintro e w2 ⟨rfl, b2⟩
    have hb3 := (hb2.alloc hb2.size _).trans (b2.mono (by have := hb2.size; simp; omega))
    clear b2 hb2 HN
    go_wp2
    go_ret
    exact ⟨by rw [HV.out]; rfl, hb3⟩
  by_cases k3 : kd = 3
  · subst k3
    have HV := Lib.hid (show coversB ⟨3, names, ev⟩ sel nm = names.any (underB nm) by simp [coversB])
    have C := Lib.hid (fun W => reach_3 (.slice p names.length c) ev W hsl)
    have CF := Lib.hid (fun W (hB : Below w.heap.size w W) (hq : W.cell? ⟨w.heap.size + 1, 0, none⟩ = some (sv nm)) (hz : w.heap.size + 2 ≤ W.heap.size) =>
      strContainsFunc_any 37 #[.pointer (some ⟨w.heap.size + 1, 0, none⟩)] (fun _ _ => by kernel_rfl) (underB nm) (.slice p names.length c) names W (HR.out.below hB) (by omega)
        (fun W' h' x hm => coversFn_any x nm ⟨w.heap.size + 1, 0, none⟩ W' ((h'.cell (p := ⟨w.heap.size + 1, 0, none⟩) (by show w.heap.size + 1 < _; omega)).trans hq) (HX.out x hm) hn))
    have a1 := as31
    have a2 := as32
    have a3 := as33
    clear hsl HN
    go_enter Try.func13, Try.ntmps13
    go_wp2_with fail
    refine (C.out _).mono ?_
    rintro e w1 ⟨rfl, b1⟩
    have q1 : ∀ o : Obj, (w1.alloc o).cell? ⟨w.heap.size + 1, 0, none⟩ = some (sv nm) := fun o => (Lib.cell_of_heap ((((b1.alloc b1.size o).block (w.heap.size + 1) (by rw [HZ.out]; omega))).trans HA.out) 0).trans rfl
    have hz2 : w.heap.size + 2 ≤ w1.heap.size := by have := b1.size; rw [HZ.out] at this; exact this
    have hb2 := hb1.trans (b1.mono (by rw [HZ.out]; omega))
    clear C b1 hb1 HA HZ
    go_wp2_with fail
    refine (CF.out _ (hb2.alloc hb2.size _) (q1 _) (by simp; omega)).mono ?_
    rintro e w2 ⟨rfl, b2⟩
    have hb3 := (hb2.alloc hb2.size _).trans (b2.mono (by have := hb2.size; simp; omega))
    clear b2 hb2 CF
    go_wp2
    go_ret
    exact ⟨by rw [HV.out]; rfl, hb3⟩
  by_cases k4 : kd = 4
  · subst k4
    have HV := Lib.hid (show coversB ⟨4, names, ev⟩ sel nm = names.any (· == nm) by simp [coversB])
    have C := Lib.hid (fun W => reach_4 (.slice p names.length c) ev W hsl)
    have CF := Lib.hid (fun W (hB : Below w.heap.size w W) => strContains_any (.slice p names.length c) names nm W (HR.out.below hB) (by omega))
    have a1 := as41
    have a2 := as42
    have a3 := as43
    have a4 := as44
    clear hsl HN HR HX
    go_enter Try.func13, Try.ntmps13
    go_wp2_with fail
    refine (C.out _).mono ?_
    rintro e w1 ⟨rfl, b1⟩
    have q1 : ∀ o : Obj, (w1.alloc o).cell? ⟨w.heap.size + 1, 0, none⟩ = some (sv nm) := fun o => (Lib.cell_of_heap ((((b1.alloc b1.size o).block (w.heap.size + 1) (by rw [HZ.out]; omega))).trans HA.out) 0).trans rfl
    have hz2 : w.heap.size + 2 ≤ w1.heap.size := by have := b1.size; rw [HZ.out] at this; exact this
    have hb2 := hb1.trans (b1.mono (by rw [HZ.out]; omega))
    clear C b1 hb1 HA HZ
    go_wp2_with fail
    refine (CF.out _ (hb2.alloc hb2.size _)).mono ?_
    rintro e w2 ⟨rfl, b2⟩
    have hb3 := (hb2.alloc hb2.size _).trans (b2.mono (by have := hb2.size; simp; omega))
    clear b2 hb2 CF
    go_wp2
    go_ret
    exact ⟨by rw [HV.out]; rfl, hb3⟩
  have HV := Lib.hid (show coversB ⟨kd, names, ev⟩ sel nm = false by simp [coversB, k1, k2, k3, k4])
  have C := Lib.hid (fun W => reach_0 kd (.slice p names.length c) ev W hsl (by rw [beq_eq_false_iff_ne]; exact k1) (by rw [beq_eq_false_iff_ne]; exact k2) (by rw [beq_eq_false_iff_ne]; exact k3) (by rw [beq_eq_false_iff_ne]; exact k4))
  clear hsl k1 k2 k3 k4 HN HR HX
  have a1 := asN1
  have a2 := asN2
  have a3 := asN3
  have a4 := asN4
  go_enter Try.func13, Try.ntmps13
  go_wp2_with fail
  refine (C.out _).mono ?_
  rintro e w1 ⟨rfl, b1⟩
  have hb2 := hb1.trans (b1.mono (by rw [HZ.out]; omega))
  clear C b1 hb1 HA HZ
  go_wp2
  go_ret
  exact ⟨by rw [HV.out]; rfl, hb2⟩

set_option maxHeartbeats 1600000 in
theorem scpIndexFunc_any (g : Nat) (lb : Array Value) (eg : ∀ args w, (callFunc g args).run Try.prog w = .ok (.enter g args) w) (p : Scp → Bool) (v : Value) (l : List Scp) (w : World) (hr : LfRd w (scpsLf l) v) (hl : l.length ≤ 140737488355328)
    (hp : ∀ W, Below w.heap.size w W → ∀ s ∈ l, ∀ vn, Rd1 sv W vn s.names → Calls Try.prog g (#[.agg #[.int .i64 s.kind, vn, .int .i64 s.events]] ++ lb) W fun e w' => e = .returned (.bool (p s)) ∧ Below W.heap.size W w') :
    Calls Try.prog 58 #[v, .func (.func g) #[] lb] w (FoundPost (l.any p) w) := by
  obtain ⟨q, c, rfl, hq⟩ := scps_at hr
  have HQ := Lib.hid hq
  have HP := Lib.hid hp
  clear hq hr hp
  go_enter Try.func58, Try.ntmps58
  go_wp2
  go_loopw [5, 8] (fun u i wr => ∃ k : Nat, k ≤ l.length ∧ i = .int .i64 k ∧ (l.take k).any p = false ∧ Below w.heap.size w wr) (fun u i _ => l.length - (intOf i).toNat)
  case atStart => exact ⟨0, by omega, rfl, rfl, Below.refl _ _⟩
  case round =>
    obtain ⟨k, hk, rfl, hall, hbr⟩ := hrel
    have Hall := Lib.hid hall
    clear hall
    by_cases hlt : k < l.length
    · obtain ⟨b, off, rfl, hb1, hcell⟩ := HQ.out.resolve_left (by intro h; subst h; simp at hlt)
      obtain ⟨s, hy⟩ : ∃ y, l[k]? = some y := ⟨_, List.getElem?_eq_getElem (by omega)⟩
      obtain ⟨v1, n1, x0, x1, x2⟩ := hcell k s hy
      have e0 : wr.cell? ⟨b, off + k * 3, none⟩ = some (.int .i64 s.kind) := (hbr.cell (p := ⟨b, off + k * 3, none⟩) hb1).trans x0
      have e1 : wr.cell? ⟨b, off + k * 3 + 1, none⟩ = some v1 := (hbr.cell (p := ⟨b, off + k * 3 + 1, none⟩) hb1).trans x1
      have e2 : wr.cell? ⟨b, off + k * 3 + 2, none⟩ = some (.int .i64 s.events) := (hbr.cell (p := ⟨b, off + k * 3 + 2, none⟩) hb1).trans x2
      have C := Lib.hid (HP.out wr hbr s (List.mem_of_getElem? hy) v1 (n1.below hbr))
      cases h1 : p s with
      | true =>
        rw [h1] at C
        have HV := Lib.hid (show l.any p = true from any_at hy h1)
        clear hcell hy Hall HP h1 HQ x0 x1 x2 n1
        go_wp2_with fail
        refine (C.out).mono ?_
        rintro e w1 ⟨rfl, b1⟩
        go_wp2
        go_ret
        exact ⟨_, rfl, by rw [HV.out, decide_eq_true_eq]; omega, hbr.trans (b1.mono hbr.size)⟩
      | false =>
        rw [h1] at C
        have HN := Lib.hid (take_any_succ hy Hall.out h1)
        clear hcell hy Hall h1 x0 x1 x2 n1
        go_wp2_with fail
        refine (C.out).mono ?_
        rintro e w1 ⟨rfl, b1⟩
        have hb2 := hbr.trans (b1.mono hbr.size)
        clear b1 hbr e0 e1 e2 C
        go_wp2
        go_roundw
        case rel => exact ⟨k + 1, by omega, by go_num, HN.out, hb2⟩
        case measure => simp [intOf]; omega
    · obtain rfl : k = l.length := by omega
      rw [List.take_length] at Hall
      go_wp2
      go_ret
      exact ⟨_, rfl, by rw [Hall.out]; rfl, hbr⟩

set_option maxHeartbeats 800000 in
theorem scpContainsFunc_any (g : Nat) (lb : Array Value) (eg : ∀ args w, (callFunc g args).run Try.prog w = .ok (.enter g args) w) (p : Scp → Bool) (v : Value) (l : List Scp) (w : World) (hr : LfRd w (scpsLf l) v) (hl : l.length ≤ 140737488355328)
    (hp : ∀ W, Below w.heap.size w W → ∀ s ∈ l, ∀ vn, Rd1 sv W vn s.names → Calls Try.prog g (#[.agg #[.int .i64 s.kind, vn, .int .i64 s.events]] ++ lb) W fun e w' => e = .returned (.bool (p s)) ∧ Below W.heap.size W w') :
    Calls Try.prog 32 #[v, .func (.func g) #[] lb] w fun e w' => e = .returned (.bool (l.any p)) ∧ Below w.heap.size w w' := by
  have C := Lib.hid (scpIndexFunc_any g lb eg p v l w hr hl hp)
  obtain ⟨q, c, rfl, _⟩ := scps_at hr
  clear hr hp eg
  go_enter Try.func32, Try.ntmps32
  go_wp2_with fail
  refine (C.out).mono ?_
  rintro e w1 ⟨i, rfl, hi, hb⟩
  have HI := Lib.hid hi
  clear hi C
  go_wp2
  go_ret
  exact ⟨by rw [← HI.out]; rfl, hb⟩

set_option maxHeartbeats 1600000 in
theorem admitsFn_any (s : Scp) (vn : Value) (sel nm : List UInt8) (en : Int) (ae ap an : Nat) (w : World) (hr : Rd1 sv w vn s.names) (hl : s.names.length ≤ 1048576) (hx : ∀ x ∈ s.names, x.length ≤ 1048576) (hk : in64 s.kind) (he : in64 s.events) (hsel : sel.length ≤ 1048576) (hn : nm.length ≤ 1048576)
    (h0 : w.cell? ⟨ae, 0, none⟩ = some (.int .i64 en)) (h1 : w.cell? ⟨ap, 0, none⟩ = some (sv sel)) (h2 : w.cell? ⟨an, 0, none⟩ = some (sv nm)) (z0 : ae < w.heap.size) (z1 : ap < w.heap.size) (z2 : an < w.heap.size) :
    Calls Try.prog 33 #[.agg #[.int .i64 s.kind, vn, .int .i64 s.events], .pointer (some ⟨ae, 0, none⟩), .pointer (some ⟨ap, 0, none⟩), .pointer (some ⟨an, 0, none⟩)] w fun e w' => e = .returned (.bool (admitB sel nm en s)) ∧ Below w.heap.size w w' := by
  have c4 := fun W (h : Below w.heap.size w W) => implCovers_any s vn sel nm W trivial (hr.below h) hl hx hk he hsel hn
  obtain ⟨p, c, rfl, hp⟩ := hr.ex
  obtain ⟨kd, names, ev⟩ := s
  simp only at *
  have hb1 : Below w.heap.size w (w.alloc (.cells #[.int .i64 kd, .slice p names.length c, .int .i64 ev] 32)) := (Below.refl _ _).alloc (Nat.le_refl _) _
  have hz1 : (w.alloc (.cells #[.int .i64 kd, .slice p names.length c, .int .i64 ev] 32)).heap.size = w.heap.size + 1 := by simp
  have HZ := Lib.hid hz1
  have g0 : (w.alloc (.cells #[.int .i64 kd, .slice p names.length c, .int .i64 ev] 32)).cell? ⟨ae, 0, none⟩ = some (.int .i64 en) := (hb1.cell (p := ⟨ae, 0, none⟩) z0).trans h0
  have g1 : (w.alloc (.cells #[.int .i64 kd, .slice p names.length c, .int .i64 ev] 32)).cell? ⟨ap, 0, none⟩ = some (sv sel) := (hb1.cell (p := ⟨ap, 0, none⟩) z1).trans h1
  have g2 : (w.alloc (.cells #[.int .i64 kd, .slice p names.length c, .int .i64 ev] 32)).cell? ⟨an, 0, none⟩ = some (sv nm) := (hb1.cell (p := ⟨an, 0, none⟩) z2).trans h2
  clear hr hp h0 h1 h2 hz1 hx hl hk he
  cases h3 : (bits .and .i64 ev en == 0) with
  | true =>
    have h3n := ne_not' h3
    have HV := Lib.hid (show admitB sel nm en ⟨kd, names, ev⟩ = false by simp [admitB, h3])
    clear c4 HZ
    go_enter Try.func33, Try.ntmps33
    go_wp2
    go_ret
    exact ⟨by rw [HV.out]; rfl, hb1⟩
  | false =>
    have h3n := ne_yes' h3
    have HV := Lib.hid (show admitB sel nm en ⟨kd, names, ev⟩ = coversB ⟨kd, names, ev⟩ sel nm by simp [admitB, h3])
    have C4 := Lib.hid c4
    clear c4
    go_enter Try.func33, Try.ntmps33
    go_wp2_with fail
    refine (C4.out _ hb1).mono ?_
    rintro e w1 ⟨rfl, b1⟩
    have hb2 := hb1.trans (b1.mono (by rw [HZ.out]; omega))
    clear b1 hb1 C4 HZ g0 g1 g2
    go_wp2
    go_ret
    exact ⟨by rw [HV.out]; rfl, hb2⟩

set_option maxHeartbeats 1600000 in
theorem implAdmits_any : ImplAdmits (fun _ => True) := by
  intro f vs sel nm en w _ hr hl hx hi hsel hn _
  obtain ⟨on, l⟩ := f
  simp only at *
  have HR := Lib.hid hr
  obtain ⟨p, c, rfl, hp⟩ := scps_at hr
  have hb1 : Below w.heap.size w ((((w.alloc (.cells #[.bool on, .slice p l.length c] 26)).alloc (.cells #[sv sel] 9)).alloc (.cells #[sv nm] 9)).alloc (.cells #[.int .i64 en] 3)) := ((((Below.refl _ _).alloc (Nat.le_refl _) _).alloc (by simp) _).alloc (by simp; omega) _).alloc (by simp; omega) _
  have hz1 : ((((w.alloc (.cells #[.bool on, .slice p l.length c] 26)).alloc (.cells #[sv sel] 9)).alloc (.cells #[sv nm] 9)).alloc (.cells #[.int .i64 en] 3)).heap.size = w.heap.size + 4 := by simp
  have HZ := Lib.hid hz1
  have hA1 : ((((w.alloc (.cells #[.bool on, .slice p l.length c] 26)).alloc (.cells #[sv sel] 9)).alloc (.cells #[sv nm] 9)).alloc (.cells #[.int .i64 en] 3)).heap[w.heap.size + 1]? = some (.cells #[sv sel] 9 (0, 0)) := (Below.heap_alloc _ _ _ (by simp <;> omega)).trans ((Below.heap_alloc _ _ _ (by simp)).trans (by have := heap_alloc_new (w.alloc (.cells #[.bool on, .slice p l.length c] 26)) (.cells #[sv sel] 9); rwa [World.size_alloc] at this))
  have hA2 : ((((w.alloc (.cells #[.bool on, .slice p l.length c] 26)).alloc (.cells #[sv sel] 9)).alloc (.cells #[sv nm] 9)).alloc (.cells #[.int .i64 en] 3)).heap[w.heap.size + 1 + 1]? = some (.cells #[sv nm] 9 (0, 0)) := (Below.heap_alloc _ _ _ (by simp)).trans (by have := heap_alloc_new ((w.alloc (.cells #[.bool on, .slice p l.length c] 26)).alloc (.cells #[sv sel] 9)) (.cells #[sv nm] 9); rwa [World.size_alloc, World.size_alloc] at this)
  have hA3 : ((((w.alloc (.cells #[.bool on, .slice p l.length c] 26)).alloc (.cells #[sv sel] 9)).alloc (.cells #[sv nm] 9)).alloc (.cells #[.int .i64 en] 3)).heap[w.heap.size + 1 + 1 + 1]? = some (.cells #[.int .i64 en] 3 (0, 0)) := by
    have := heap_alloc_new (((w.alloc (.cells #[.bool on, .slice p l.length c] 26)).alloc (.cells #[sv sel] 9)).alloc (.cells #[sv nm] 9)) (.cells #[.int .i64 en] 3)
    rwa [World.size_alloc, World.size_alloc, World.size_alloc] at this
  have CF := Lib.hid (scpContainsFunc_any 33 #[.pointer (some ⟨w.heap.size + 1 + 1 + 1, 0, none⟩), .pointer (some ⟨w.heap.size + 1, 0, none⟩), .pointer (some ⟨w.heap.size + 1 + 1, 0, none⟩)] (fun _ _ => by kernel_rfl) (admitB sel nm en) (.slice p l.length c) l _ (HR.out.below hb1) (by omega)
    (fun W h s hm vn hv => admitsFn_any s vn sel nm en (w.heap.size + 1 + 1 + 1) (w.heap.size + 1) (w.heap.size + 1 + 1) W hv (hx s hm).1 (hx s hm).2 (hi s hm).1 (hi s hm).2 hsel hn
      ((Lib.cell_of_heap ((h.block (w.heap.size + 1 + 1 + 1) (by rw [hz1]; omega)).trans hA3) 0).trans rfl) ((Lib.cell_of_heap ((h.block (w.heap.size + 1) (by rw [hz1]; omega)).trans hA1) 0).trans rfl) ((Lib.cell_of_heap ((h.block (w.heap.size + 1 + 1) (by rw [hz1]; omega)).trans hA2) 0).trans rfl)
      (by have := h.size; rw [hz1] at this; omega) (by have := h.size; rw [hz1] at this; omega) (by have := h.size; rw [hz1] at this; omega)))
  clear hr hp hx hi HR hz1 hA1 hA2 hA3
  cases on with
  | false =>
    have HV := Lib.hid (show admitsB ⟨false, l⟩ sel nm en = false from rfl)
    clear CF HZ
    go_enter Try.func11, Try.ntmps11
    go_wp2
    go_ret
    exact ⟨by rw [HV.out]; rfl, hb1⟩
  | true =>
    have HV := Lib.hid (show admitsB ⟨true, l⟩ sel nm en = l.any (admitB sel nm en) by simp [admitsB])
    go_enter Try.func11, Try.ntmps11
    go_wp2_with fail
    refine (CF.out).mono ?_
    rintro e w1 ⟨rfl, b1⟩
    have hb2 := hb1.trans (b1.mono (by rw [HZ.out]; omega))
    clear b1 hb1 CF HZ
    go_wp2
    go_ret
    exact ⟨by rw [HV.out]; rfl, hb2⟩

end Go.Proofs.Ythihjelcakenpaa
