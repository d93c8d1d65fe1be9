/-
  Chapter 3's walks: the model's Lex.
-/
import Derived.Test.YtldfakcjimaaaaaDoorLexC
namespace Go.Proofs.YtldfakcjimaaaaaDoor
open Go.RowKit

theorem Tryd.el_tok : Elem Tryd.prog 24 35 2 24 := Elem.mk' (z := .agg #[.int .i64 0, .string ⟨#[]⟩]) Tryd.underlying24 (by kernel_rfl) rfl (by omega)

def LexPost (U : Option (List Tok)) (w : World) (e : Ending) (w' : World) : Prop :=
  ∃ v, e = .returned (.tuple #[v, .bool U.isSome]) ∧ w'.ownsRow w.heap.size 35 2 v (U.getD []).length ((U.getD []).flatMap tokc) ∧ Below w.heap.size w w'

/-- What the loop knows: ts read, the rest from p on. -/
def LxSt (l : List UInt8) (p : Nat) (ts : List Tok) (n : Nat) (U : Option (List Tok)) : Prop :=
  n = ts.length ∧ (lexS (l.length - p + 1) (lastOr none ts) (l.drop p)).map (ts ++ ·) = U
theorem LxSt.start (l : List UInt8) : LxSt l 0 [] 0 (lexL l) := by
  refine ⟨rfl, ?_⟩
  show (lexS (l.length - 0 + 1) none (l.drop 0)).map ([] ++ ·) = _
  unfold lexL
  rw [List.drop_zero, Nat.sub_zero]
  cases lexS (l.length + 1) none l <;> simp
section
variable {s : ByteArray} {p n : Nat} {ts : List Tok} {U : Option (List Tok)}
theorem LxSt.done (h : LxSt s.data.toList p ts n U) (hp : ¬ p < s.size) : U = some ts := by
  rw [← h.2, drop_str_end s p hp]
  simp [lexS]
/-- The token at the head of the rest. -/
def tkAt (s : ByteArray) (p : Nat) (blank : Bool) : Option (Tok × Nat) := tkS (s.data.toList.drop (if blank = true then p + 1 else p))
theorem lexS_at (s : ByteArray) (p n : Nat) (prev : Option Tok) (h : p < s.size) (blank : Bool) (hb : decide (s[p].toNat = 32) = blank) :
    lexS (n + 1) prev (s.data.toList.drop p) = match tkAt s p blank with | none => none | some (t, k) => if fitB prev blank t = true then (lexS n (some t) (s.data.toList.drop ((if blank = true then p + 1 else p) + k))).map (t :: ·) else none := by
  unfold tkAt
  rw [drop_str s p h]
  simp only [lexS]
  cases blank with
  | true =>
    have h32 := of_decide_eq_true hb
    simp only [h32, if_true, decide_true, List.drop_drop]
    cases tkS (s.data.toList.drop (p + 1)) <;> rfl
  | false =>
    have h32 := of_decide_eq_false hb
    simp only [h32, if_false, decide_false, Bool.false_eq_true]
    rw [← drop_str s p h]
    simp only [List.drop_drop]
    cases tkS (s.data.toList.drop p) <;> rfl
theorem LxSt.bad (h : LxSt s.data.toList p ts n U) (hp : p < s.size) (blank : Bool) (hb : decide (s[p].toNat = 32) = blank) (ht : tkAt s p blank = none) : U = none := by
  rw [← h.2, lexS_at s p _ _ hp blank hb, ht]; rfl
theorem LxSt.unfit (h : LxSt s.data.toList p ts n U) (hp : p < s.size) (blank : Bool) (hb : decide (s[p].toNat = 32) = blank) {t : Tok} {k : Nat} (ht : tkAt s p blank = some (t, k)) (hf : fitB (lastOr none ts) blank t = false) : U = none := by
  rw [← h.2, lexS_at s p _ _ hp blank hb, ht]
  simp only [hf]
  rfl
theorem LxSt.step (h : LxSt s.data.toList p ts n U) (hp : p < s.size) (blank : Bool) (hb : decide (s[p].toNat = 32) = blank) {t : Tok} {k : Nat} (ht : tkAt s p blank = some (t, k)) (hf : fitB (lastOr none ts) blank t = true) :
    LxSt s.data.toList ((if blank = true then p + 1 else p) + k) (ts ++ [t]) (n + 1) U ∧ p < (if blank = true then p + 1 else p) + k ∧ (if blank = true then p + 1 else p) + k ≤ s.size := by
  have hk := tkS_pos _ _ _ ht
  rw [List.length_drop, str_len] at hk
  have hq : p < (if blank = true then p + 1 else p) + k ∧ (if blank = true then p + 1 else p) + k ≤ s.size := by cases blank <;> simp at hk ⊢ <;> omega
  refine ⟨⟨by rw [h.1]; simp, ?_⟩, hq⟩
  rw [← h.2, lexS_at s p _ _ hp blank hb, ht]
  simp only [hf, if_true]
  rw [lastOr_snoc]
  rw [lexS_fuel (s.data.toList.length - ((if blank = true then p + 1 else p) + k) + 1) (s.data.toList.length - p) (some t) _ (by rw [List.length_drop]; omega) (by rw [List.length_drop, str_len]; omega)]
  cases lexS (s.data.toList.length - p) (some t) (s.data.toList.drop ((if blank = true then p + 1 else p) + k)) <;> simp
end
theorem lastOr_get : ∀ (l : List Tok) (p : Option Tok) (m : Nat), l.length = m + 1 → ∃ t, l[m]? = some t ∧ lastOr p l = some t
  | [], _, _, h => by simp at h
  | [x], _, m, h => by
    simp only [List.length_cons, List.length_nil] at h
    obtain rfl : m = 0 := by omega
    exact ⟨x, rfl, rfl⟩
  | x :: y :: l, p, m, h => by
    cases m with
    | zero => simp at h
    | succ m =>
      obtain ⟨t, h1, h2⟩ := lastOr_get (y :: l) (some x) m (by simpa using h)
      exact ⟨t, by simpa using h1, h2⟩
theorem lexL_len (l : List UInt8) (ts : List Tok) (h : lexL l = some ts) : ts.length ≤ l.length := (lexS_ok _ _ _ _ h).2.2
theorem own_empty (w : World) (e : TypeId) (B size : Nat) (hb : B ≤ w.heap.size) : (w.alloc (.cells #[] e)).ownsRow B e size (.slice (some ⟨w.heap.size, 0, none⟩) 0 0) 0 [] := World.ownsRow_made w #[] 0 hb (by unfold maxLen; omega) (by simp)

theorem own_empty2 (w1 : World) (o : Obj) (e : TypeId) (B size : Nat) (hB : B ≤ w1.heap.size) : ((w1.alloc o).alloc (.cells #[] e)).drew.ownsRow B e size (.slice (some ⟨w1.heap.size + 1, 0, none⟩) 0 0) 0 [] := by
  have h := own_empty (w1.alloc o) e B size (by simp; omega)
  simp only [World.size_alloc] at h
  exact h.drew

set_option maxHeartbeats 6400000 in
theorem specLex_any (s : ByteArray) (w : World) (hs : s.size ≤ 1048576) :
    Calls Tryd.prog 14 #[.string s] w fun e w' => LexPost (lexL s.data.toList) w e w' := by
  have hst := LxSt.start s.data.toList
  generalize lexL s.data.toList = U at *
  have HS0 := Lib.hid hst
  clear hst
  go_enter Tryd.func14, Tryd.ntmps14
  go_wp2
  go_loopw [4, 5] (fun v i wr => ∃ (p n : Nat) (ts : List Tok), p ≤ s.size ∧ n ≤ p ∧ i = .int .i64 p ∧ LxSt s.data.toList p ts n U ∧ wr.ownsRow w.heap.size 35 2 v n (ts.flatMap tokc) ∧ Below w.heap.size w wr) (fun _ i _ => s.size - (intOf i).toNat)
  case atStart => exact ⟨0, 0, [], by omega, by omega, rfl, HS0.out, own_empty w _ _ 2 (Nat.le_refl _), (Below.refl _ _).alloc (Nat.le_refl _) _⟩
  case round =>
    obtain ⟨p, n, ts, hps, hnp, rfl, hst, hown, hbr⟩ := hrel
    have HS := Lib.hid hst
    have hbr0 := hbr.size
    obtain ⟨pv, cv, rfl⟩ := own_slice hown
    clear hst HS0
    by_cases hlt : p < s.size
    · have hbp : s[p].toNat < 256 := s[p].toNat_lt
      cases h32 : ((s[p].toNat : Int) == 32) with
      | true =>
        have hB : decide (s[p].toNat = 32) = true := decide_eq_true (beq_nat h32)
        have HB := Lib.hid hB
        clear hB
        by_cases hlt2 : p + 1 < s.size
        · have hlt3 : ¬ (s.size : Int) ≤ (p : Int) + 1 := by omega
          have c1 := fun W => l3Take_any s (p + 1) W hs hlt2
          cases ht : tkS (s.data.toList.drop (p + 1)) with
          | none =>
            have HU := Lib.hid (show U = none from HS.out.bad hlt true HB.out ht)
            rw [ht] at c1
            have C1 := Lib.hid c1
            clear c1 ht hown
            go_wp2_with fail
            refine (C1.out _).mono ?_
            rintro e w1 ⟨⟨t0, rfl⟩, b1⟩
            have hb1 := hbr.trans (b1.mono hbr0)
            have hz1 := hb1.size
            have hbX : Below w.heap.size w (w1.alloc (.cells #[.int .i64 t0.kind, sv t0.text] 35)) := hb1.alloc hz1 _
            have hzX := hbX.size
            clear b1 hbr hbr0
            go_wp2
            refine ord_start [(0, true), (1, true), (2, true), (3, true), (4, true), (5, true), (6, true), (7, true), (8, true), (9, true), (10, true), (11, true), (12, true), (13, true), (14, true), (15, true), (16, true), (17, true), (18, true), (19, true), (20, false), (21, true), (22, true), (23, true)] (fun _ => True) (by kernel_rfl) (by kernel_rfl) rfl (by kernel_rfl) ?_
            intro ops' hops
            simp only [List.map_cons, List.map_nil, pickOp_zero, pickOp_succ]
            iterate 3 (refine ord_flo ?_ (fun _ _ _ h => h) rfl ?_ trivial ?_; rotate_left; focus (intro _ _; go_simp; rfl))
            iterate 5 (refine ord_not (fun _ _ _ h => h) (by rw [hops.out]; kernel_rfl) trivial ?_)
            iterate 2 (refine ord_flo ?_ (fun _ _ _ h => h) rfl ?_ trivial ?_; rotate_left; focus (intro _ _; go_simp; rfl))
            iterate 10 (refine ord_not (fun _ _ _ h => h) (by rw [hops.out]; kernel_rfl) trivial ?_)
            refine ord_evnot trivial (by rw [hops.out]; kernel_rfl) ?_
            iterate 2 (refine ord_not (fun _ _ _ h => h) (by rw [hops.out]; kernel_rfl) trivial ?_)
            iterate 1 (refine ord_flo ?_ (fun _ _ _ h => h) rfl ?_ trivial ?_; rotate_left; focus (intro _ _; go_simp; rfl))
            refine ord_done ?_
            go_simp
            go_wp2
            go_ret2
            refine ⟨_, by rw [HU.out]; rfl, ?_, (hbX.alloc hzX _).drew⟩
            rw [HU.out]
            exact own_empty2 _ _ _ _ 2 hz1
          | some x =>
            obtain ⟨t, k⟩ := x
            have hkp := tkS_pos _ _ _ ht
            rw [List.length_drop, str_len] at hkp
            rw [ht] at c1
            have C1 := Lib.hid c1
            have HT := Lib.hid (show tkAt s p true = some (t, k) from ht)
            clear c1 ht
            have hgn : ¬ ((p + 1 + k : Nat) : Int) < 0 := by omega
            by_cases hn0 : n = 0
            · subst hn0
              have hts : ts = [] := List.eq_nil_of_length_eq_zero HS.out.1.symm
              subst hts
              go_wp2_with fail
              refine (C1.out _).mono ?_
              rintro e w1 ⟨rfl, b1⟩
              have hb1 := hbr.trans (b1.mono hbr0)
              have hz1 := hb1.size
              have hown1 := ownsRow_below hown b1
              have hbX : Below w.heap.size w (w1.alloc (.cells #[.int .i64 t.kind, sv t.text] 35)) := hb1.alloc hz1 _
              have hzX := hbX.size
              clear b1 hbr hbr0 hown
              go_wp2
              refine ord_start [(0, true), (1, true), (2, true), (3, true), (4, true), (5, true), (6, true), (7, true), (8, true), (9, true), (10, true), (11, true), (12, true), (13, true), (14, true), (15, true), (16, true), (17, true), (18, true), (19, true), (20, false), (21, true), (22, true), (23, true)] (fun _ => True) (by kernel_rfl) (by kernel_rfl) rfl (by kernel_rfl) ?_
              intro ops' hops
              simp only [List.map_cons, List.map_nil, pickOp_zero, pickOp_succ]
              iterate 3 (refine ord_flo ?_ (fun _ _ _ h => h) rfl ?_ trivial ?_; rotate_left; focus (intro _ _; go_simp; rfl))
              iterate 5 (refine ord_flo ?_ (fun _ _ _ h => h) (by rw [hops.out]; kernel_rfl) ?_ trivial ?_; rotate_left; focus (intro _ _; go_simp; rfl))
              iterate 2 (refine ord_flo ?_ (fun _ _ _ h => h) rfl ?_ trivial ?_; rotate_left; focus (intro _ _; go_simp; rfl))
              iterate 10 (refine ord_not (fun _ _ _ h => h) (by rw [hops.out]; kernel_rfl) trivial ?_)
              refine ord_evnot trivial (by rw [hops.out]; kernel_rfl) ?_
              iterate 2 (refine ord_not (fun _ _ _ h => h) (by rw [hops.out]; kernel_rfl) trivial ?_)
              iterate 1 (refine ord_flo ?_ (fun _ _ _ h => h) rfl ?_ trivial ?_; rotate_left; focus (intro _ _; go_simp; rfl))
              refine ord_done ?_
              go_simp
              have HU := Lib.hid (show U = none from HS.out.unfit hlt true HB.out HT.out rfl)
              clear hown1
              go_wp2
              go_ret2
              refine ⟨_, by rw [HU.out]; rfl, ?_, (hbX.alloc hzX _).drew⟩
              rw [HU.out]
              exact own_empty2 _ _ _ _ 2 hz1
            · obtain ⟨m, rfl⟩ : ∃ m, n = m + 1 := ⟨n - 1, by omega⟩
              obtain ⟨t0, ht0, hlast⟩ := lastOr_get ts none m HS.out.1.symm
              have HL := Lib.hid hlast
              obtain ⟨g0, cap0, hpv, _, _⟩ := hown.form (by omega)
              injection hpv with hpv1 _ hcv
              subst hpv1
              subst hcv
              have hmc : ((m + 1 : Nat) : Int) = (m : Int) + 1 := by omega
              have hwr : IntKind.i64.wrap (m : Int) = (m : Int) := IntWalk.i64_in _ (by omega)
              have hm0 : ((m : Int) + 1 == 0) = false := by simp; omega
              have hm1 : (0 : Int) < (m : Int) + 1 := by omega
              clear hn0
              go_wp2_with fail
              refine (C1.out _).mono ?_
              rintro e w1 ⟨rfl, b1⟩
              have hb1 := hbr.trans (b1.mono hbr0)
              have hz1 := hb1.size
              have hown1 := ownsRow_below hown b1
              have hg0 := (hown1.lt g0 rfl).2
              have q1 : w1.cell? ⟨g0, m * 2, none⟩ = some (.int .i64 t0.kind) := by
                rw [hown1.cellAt (m * 2) (by omega)]
                exact flat_at (m := 2) tokc ts (fun _ => rfl) m t0 ht0 0 _ rfl
              have q2 : w1.cell? ⟨g0, m * 2 + 1, none⟩ = some (sv t0.text) := by
                rw [hown1.cellAt (m * 2 + 1) (by omega)]
                exact flat_at (m := 2) tokc ts (fun _ => rfl) m t0 ht0 1 _ rfl
              have hown2 : ((w1.alloc (.cells #[.int .i64 t.kind, sv t.text] 35)).drew).ownsRow w.heap.size 35 2 (.slice (some ⟨g0, 0, none⟩) (m + 1) cv) (m + 1) (ts.flatMap tokc) := (hown1.alloc _).drew
              have hb2 : Below w.heap.size w (w1.alloc (.cells #[.int .i64 t.kind, sv t.text] 35)).drew := (hb1.alloc hz1 _).drew
              have hz2 := hb2.size
              have f1 : (w1.alloc (.cells #[.int .i64 t.kind, sv t.text] 35)).drew.cell? ⟨w1.heap.size, 0, none⟩ = some (.int .i64 t.kind) := by simp [go_sem]
              have f2 : (w1.alloc (.cells #[.int .i64 t.kind, sv t.text] 35)).drew.cell? ⟨w1.heap.size, 1, none⟩ = some (sv t.text) := by simp [go_sem]
              have p1 : (w1.alloc (.cells #[.int .i64 t.kind, sv t.text] 35)).drew.cell? ⟨g0, m * 2, none⟩ = some (.int .i64 t0.kind) := (World.cell?_alloc_lt w1 _ _ (by exact hg0)).trans q1
              have p2 : (w1.alloc (.cells #[.int .i64 t.kind, sv t.text] 35)).drew.cell? ⟨g0, m * 2 + 1, none⟩ = some (sv t0.text) := (World.cell?_alloc_lt w1 _ _ (by exact hg0)).trans q2
              have hsz2 : (w1.alloc (.cells #[.int .i64 t.kind, sv t.text] 35)).drew.heap.size = w1.heap.size + 1 := by simp
              clear b1 hbr hbr0 hown hown1 q1 q2 ht0 hlast
              go_wp2
              refine ord_start [(0, true), (1, true), (2, true), (3, true), (4, true), (5, true), (6, true), (7, true), (8, true), (9, true), (10, true), (11, true), (12, true), (13, true), (14, true), (15, true), (16, true), (17, true), (18, true), (19, true), (20, false), (21, true), (22, true), (23, true)] (fun W => W.cell? ⟨g0, m * 2, none⟩ = some (.int .i64 t0.kind) ∧ W.cell? ⟨g0, m * 2 + 1, none⟩ = some (sv t0.text) ∧ W.cell? ⟨w1.heap.size, 0, none⟩ = some (.int .i64 t.kind) ∧ W.cell? ⟨w1.heap.size, 1, none⟩ = some (sv t.text)) (by kernel_rfl) (by kernel_rfl) rfl (by kernel_rfl) ?_
              intro ops' hops
              simp only [List.map_cons, List.map_nil, pickOp_zero, pickOp_succ]
              have hF : ∀ W, W = (w1.alloc (.cells #[.int .i64 t.kind, sv t.text] 35)).drew → True := fun _ _ => trivial
              clear hF
              iterate 3 (refine ord_flo ?_ (fun _ _ _ h => h) rfl ?_ ⟨p1, p2, f1, f2⟩ ?_; rotate_left; focus (intro W hS; obtain ⟨s1, s2, s3, s4⟩ := hS; go_simp; rfl))
              iterate 3 (refine ord_flo ?_ (fun _ _ _ h => h) (by rw [hops.out]; kernel_rfl) ?_ ⟨p1, p2, f1, f2⟩ ?_; rotate_left; focus (intro W hS; obtain ⟨s1, s2, s3, s4⟩ := hS; go_simp; rfl))
              iterate 1 (refine ord_not (fun _ _ _ h => h) (by rw [hops.out]; kernel_rfl) ⟨p1, p2, f1, f2⟩ ?_)
              iterate 1 (refine ord_flo ?_ (fun _ _ _ h => h) (by rw [hops.out]; kernel_rfl) ?_ ⟨p1, p2, f1, f2⟩ ?_; rotate_left; focus (intro W hS; obtain ⟨s1, s2, s3, s4⟩ := hS; go_simp; rfl))
              iterate 2 (refine ord_flo ?_ (fun _ _ _ h => h) rfl ?_ ⟨p1, p2, f1, f2⟩ ?_; rotate_left; focus (intro W hS; obtain ⟨s1, s2, s3, s4⟩ := hS; go_simp; rfl))
              iterate 7 (refine ord_flo ?_ (fun _ _ _ h => h) (by rw [hops.out]; kernel_rfl) ?_ ⟨p1, p2, f1, f2⟩ ?_; rotate_left; focus (intro W hS; obtain ⟨s1, s2, s3, s4⟩ := hS; go_simp; rfl))
              refine ord_flo (.pointer (some ⟨g0, m * 2, none⟩)) (fun _ _ _ h => h) (by rw [hops.out]; kernel_rfl) ?_ ⟨p1, p2, f1, f2⟩ ?_
              · intro W hS
                go_simp
                try (intro h; omega)
              iterate 2 (refine ord_flo ?_ (fun _ _ _ h => h) (by rw [hops.out]; kernel_rfl) ?_ ⟨p1, p2, f1, f2⟩ ?_; rotate_left; focus (intro W hS; obtain ⟨s1, s2, s3, s4⟩ := hS; go_simp; rfl))
              refine ord_ev (by rw [hops.out]; kernel_rfl) ?_
              go_simp
              refine (l3Gap_any t0 t _).mono ?_
              rintro e w3 ⟨rfl, b3⟩
              have i1 := (b3.cell (p := ⟨g0, m * 2, none⟩) (by show g0 < _; simp; omega)).trans p1
              have i2 := (b3.cell (p := ⟨g0, m * 2 + 1, none⟩) (by show g0 < _; simp; omega)).trans p2
              have i3 := (b3.cell (p := ⟨w1.heap.size, 0, none⟩) (by show w1.heap.size < _; simp)).trans f1
              have i4 := (b3.cell (p := ⟨w1.heap.size, 1, none⟩) (by show w1.heap.size < _; simp)).trans f2
              have hown3 := ownsRow_below hown2 b3
              have hb3 := hb2.trans (b3.mono hz2)
              have hz3 := hb3.size
              refine ⟨⟨i1, i2, i3, i4⟩, ?_⟩
              clear p1 p2 f1 f2 b3 hown2 hb2 hz2 hsz2
              cases hgap : gapB t0 t with
              | false =>
                have HU := Lib.hid (show U = none from HS.out.unfit hlt true HB.out HT.out (by rw [HL.out]; simp [fitB, hgap]))
                clear hgap
                iterate 2 (refine ord_flo ?_ (fun _ _ _ h => h) (by rw [hops.out]; kernel_rfl) ?_ ⟨i1, i2, i3, i4⟩ ?_; rotate_left; focus (intro W hS; obtain ⟨s1, s2, s3, s4⟩ := hS; go_simp; rfl))
                iterate 1 (refine ord_flo ?_ (fun _ _ _ h => h) rfl ?_ ⟨i1, i2, i3, i4⟩ ?_; rotate_left; focus (intro W hS; obtain ⟨s1, s2, s3, s4⟩ := hS; go_simp; rfl))
                refine ord_done ?_
                go_simp
                clear i1 i2 i3 i4 hown3 hwr
                go_wp2
                go_ret2
                refine ⟨_, by rw [HU.out]; rfl, ?_, hb3.alloc hz3 _⟩
                rw [HU.out]
                exact own_empty _ _ _ 2 hz3
              | true =>
                have HN := Lib.hid (HS.out.step hlt true HB.out HT.out (by rw [HL.out]; simp [fitB, hgap]))
                clear hgap
                iterate 2 (refine ord_flo ?_ (fun _ _ _ h => h) (by rw [hops.out]; kernel_rfl) ?_ ⟨i1, i2, i3, i4⟩ ?_; rotate_left; focus (intro W hS; obtain ⟨s1, s2, s3, s4⟩ := hS; go_simp; rfl))
                iterate 1 (refine ord_flo ?_ (fun _ _ _ h => h) rfl ?_ ⟨i1, i2, i3, i4⟩ ?_; rotate_left; focus (intro W hS; obtain ⟨s1, s2, s3, s4⟩ := hS; go_simp; rfl))
                refine ord_done ?_
                go_simp
                clear i1 i2 hwr
                go_wp2_with (at_builtin; refine wpList_app1 Tryd.el_tok rfl (.tmp 60) (.tmp 62) rfl w w3 (.slice (some ⟨g0, 0, none⟩) (m + 1) cv) (m + 1) _ rfl hown3 hb3 hz3 #[.int .i64 t.kind, sv t.text] (.inr rfl) 1 1 rfl rfl (by simp [Value.oneCell']) (by omega) (by omega) (by omega) ?_)
                intro g cap w4 hown4 hb4 _ _ _
                clear hown3 hb3 hz3 i3 i4
                go_wp2
                go_roundw
                case rel => exact ⟨p + 1 + k, m + 1 + 1, ts ++ [t], by omega, by omega, by go_num, HN.out.1, by rw [List.flatMap_append]; simpa [tokc] using hown4, hb4⟩
                case measure => simp [intOf]; omega
        · have hlt3 : (s.size : Int) ≤ (p : Int) + 1 := by omega
          have HU := Lib.hid (show U = none from HS.out.bad hlt true HB.out (by show tkS (s.data.toList.drop (p + 1)) = none; rw [drop_str_end s (p + 1) hlt2]; rfl))
          clear hown
          go_wp2
          go_ret2
          refine ⟨_, by rw [HU.out]; rfl, ?_, (hbr.alloc hbr0 _)⟩
          rw [HU.out]
          exact own_empty _ _ _ 2 hbr0
      | false =>
        have hB : decide (s[p].toNat = 32) = false := decide_eq_false (beq_nat' h32)
        have HB := Lib.hid hB
        clear hB
        have c1 := fun W => l3Take_any s (p) W hs hlt
        cases ht : tkS (s.data.toList.drop (p)) with
        | none =>
          have HU := Lib.hid (show U = none from HS.out.bad hlt false HB.out ht)
          rw [ht] at c1
          have C1 := Lib.hid c1
          clear c1 ht hown
          go_wp2_with fail
          refine (C1.out _).mono ?_
          rintro e w1 ⟨⟨t0, rfl⟩, b1⟩
          have hb1 := hbr.trans (b1.mono hbr0)
          have hz1 := hb1.size
          have hbX : Below w.heap.size w (w1.alloc (.cells #[.int .i64 t0.kind, sv t0.text] 35)) := hb1.alloc hz1 _
          have hzX := hbX.size
          clear b1 hbr hbr0
          go_wp2
          refine ord_start [(0, true), (1, true), (2, true), (3, true), (4, true), (5, true), (6, true), (7, true), (8, true), (9, true), (10, true), (11, true), (12, true), (13, true), (14, true), (15, true), (16, true), (17, true), (18, true), (19, true), (20, false), (21, true), (22, true), (23, true)] (fun _ => True) (by kernel_rfl) (by kernel_rfl) rfl (by kernel_rfl) ?_
          intro ops' hops
          simp only [List.map_cons, List.map_nil, pickOp_zero, pickOp_succ]
          iterate 3 (refine ord_flo ?_ (fun _ _ _ h => h) rfl ?_ trivial ?_; rotate_left; focus (intro _ _; go_simp; rfl))
          iterate 5 (refine ord_not (fun _ _ _ h => h) (by rw [hops.out]; kernel_rfl) trivial ?_)
          iterate 2 (refine ord_flo ?_ (fun _ _ _ h => h) rfl ?_ trivial ?_; rotate_left; focus (intro _ _; go_simp; rfl))
          iterate 10 (refine ord_not (fun _ _ _ h => h) (by rw [hops.out]; kernel_rfl) trivial ?_)
          refine ord_evnot trivial (by rw [hops.out]; kernel_rfl) ?_
          iterate 2 (refine ord_not (fun _ _ _ h => h) (by rw [hops.out]; kernel_rfl) trivial ?_)
          iterate 1 (refine ord_flo ?_ (fun _ _ _ h => h) rfl ?_ trivial ?_; rotate_left; focus (intro _ _; go_simp; rfl))
          refine ord_done ?_
          go_simp
          go_wp2
          go_ret2
          refine ⟨_, by rw [HU.out]; rfl, ?_, (hbX.alloc hzX _).drew⟩
          rw [HU.out]
          exact own_empty2 _ _ _ _ 2 hz1
        | some x =>
          obtain ⟨t, k⟩ := x
          have hkp := tkS_pos _ _ _ ht
          rw [List.length_drop, str_len] at hkp
          rw [ht] at c1
          have C1 := Lib.hid c1
          have HT := Lib.hid (show tkAt s p false = some (t, k) from ht)
          clear c1 ht
          have hgn : ¬ ((p + k : Nat) : Int) < 0 := by omega
          by_cases hn0 : n = 0
          · subst hn0
            have hts : ts = [] := List.eq_nil_of_length_eq_zero HS.out.1.symm
            subst hts
            go_wp2_with fail
            refine (C1.out _).mono ?_
            rintro e w1 ⟨rfl, b1⟩
            have hb1 := hbr.trans (b1.mono hbr0)
            have hz1 := hb1.size
            have hown1 := ownsRow_below hown b1
            have hbX : Below w.heap.size w (w1.alloc (.cells #[.int .i64 t.kind, sv t.text] 35)) := hb1.alloc hz1 _
            have hzX := hbX.size
            clear b1 hbr hbr0 hown
            go_wp2
            refine ord_start [(0, true), (1, true), (2, true), (3, true), (4, true), (5, true), (6, true), (7, true), (8, true), (9, true), (10, true), (11, true), (12, true), (13, true), (14, true), (15, true), (16, true), (17, true), (18, true), (19, true), (20, false), (21, true), (22, true), (23, true)] (fun _ => True) (by kernel_rfl) (by kernel_rfl) rfl (by kernel_rfl) ?_
            intro ops' hops
            simp only [List.map_cons, List.map_nil, pickOp_zero, pickOp_succ]
            iterate 3 (refine ord_flo ?_ (fun _ _ _ h => h) rfl ?_ trivial ?_; rotate_left; focus (intro _ _; go_simp; rfl))
            iterate 5 (refine ord_flo ?_ (fun _ _ _ h => h) (by rw [hops.out]; kernel_rfl) ?_ trivial ?_; rotate_left; focus (intro _ _; go_simp; rfl))
            iterate 2 (refine ord_flo ?_ (fun _ _ _ h => h) rfl ?_ trivial ?_; rotate_left; focus (intro _ _; go_simp; rfl))
            iterate 3 (refine ord_flo ?_ (fun _ _ _ h => h) (by rw [hops.out]; kernel_rfl) ?_ trivial ?_; rotate_left; focus (intro _ _; go_simp; rfl))
            iterate 7 (refine ord_not (fun _ _ _ h => h) (by rw [hops.out]; kernel_rfl) trivial ?_)
            refine ord_evnot trivial (by rw [hops.out]; kernel_rfl) ?_
            iterate 1 (refine ord_not (fun _ _ _ h => h) (by rw [hops.out]; kernel_rfl) trivial ?_)
            iterate 1 (refine ord_flo ?_ (fun _ _ _ h => h) (by rw [hops.out]; kernel_rfl) ?_ trivial ?_; rotate_left; focus (intro _ _; go_simp; rfl))
            iterate 1 (refine ord_flo ?_ (fun _ _ _ h => h) rfl ?_ trivial ?_; rotate_left; focus (intro _ _; go_simp; rfl))
            refine ord_done ?_
            go_simp
            have HN := Lib.hid (HS.out.step hlt false HB.out HT.out rfl)
            have hown2 : ((w1.alloc (.cells #[.int .i64 t.kind, sv t.text] 35)).drew).ownsRow w.heap.size 35 2 (.slice pv 0 cv) 0 (([] : List Tok).flatMap tokc) := (hown1.alloc _).drew
            have hb2 : Below w.heap.size w (w1.alloc (.cells #[.int .i64 t.kind, sv t.text] 35)).drew := (hb1.alloc hz1 _).drew
            have hz2 := hb2.size
            have f1 : (w1.alloc (.cells #[.int .i64 t.kind, sv t.text] 35)).drew.cell? ⟨w1.heap.size, 0, none⟩ = some (.int .i64 t.kind) := by simp [go_sem]
            have f2 : (w1.alloc (.cells #[.int .i64 t.kind, sv t.text] 35)).drew.cell? ⟨w1.heap.size, 1, none⟩ = some (sv t.text) := by simp [go_sem]
            clear hown1 hb1 hz1
            generalize (w1.alloc (.cells #[.int .i64 t.kind, sv t.text] 35)).drew = w2 at *
            go_wp2_with (at_builtin; refine wpList_app1 Tryd.el_tok rfl (.tmp 60) (.tmp 62) rfl w w2 (.slice pv 0 cv) 0 _ rfl hown2 hb2 hz2 #[.int .i64 t.kind, sv t.text] (.inr rfl) 1 1 rfl rfl (by simp [Value.oneCell']) (by omega) (by omega) (by omega) ?_)
            intro g cap w3 hown3 hb3 _ _ _
            clear hown2 hb2 hz2 f1 f2
            go_wp2
            go_roundw
            case rel => exact ⟨p + k, 1, [t], by omega, by omega, rfl, HN.out.1, hown3, hb3⟩
            case measure => simp [intOf]; omega
          · obtain ⟨m, rfl⟩ : ∃ m, n = m + 1 := ⟨n - 1, by omega⟩
            obtain ⟨t0, ht0, hlast⟩ := lastOr_get ts none m HS.out.1.symm
            have HL := Lib.hid hlast
            obtain ⟨g0, cap0, hpv, _, _⟩ := hown.form (by omega)
            injection hpv with hpv1 _ hcv
            subst hpv1
            subst hcv
            have hmc : ((m + 1 : Nat) : Int) = (m : Int) + 1 := by omega
            have hwr : IntKind.i64.wrap (m : Int) = (m : Int) := IntWalk.i64_in _ (by omega)
            have hm0 : ((m : Int) + 1 == 0) = false := by simp; omega
            have hm1 : (0 : Int) < (m : Int) + 1 := by omega
            clear hn0
            go_wp2_with fail
            refine (C1.out _).mono ?_
            rintro e w1 ⟨rfl, b1⟩
            have hb1 := hbr.trans (b1.mono hbr0)
            have hz1 := hb1.size
            have hown1 := ownsRow_below hown b1
            have hg0 := (hown1.lt g0 rfl).2
            have q1 : w1.cell? ⟨g0, m * 2, none⟩ = some (.int .i64 t0.kind) := by
              rw [hown1.cellAt (m * 2) (by omega)]
              exact flat_at (m := 2) tokc ts (fun _ => rfl) m t0 ht0 0 _ rfl
            have q2 : w1.cell? ⟨g0, m * 2 + 1, none⟩ = some (sv t0.text) := by
              rw [hown1.cellAt (m * 2 + 1) (by omega)]
              exact flat_at (m := 2) tokc ts (fun _ => rfl) m t0 ht0 1 _ rfl
            have hown2 : ((w1.alloc (.cells #[.int .i64 t.kind, sv t.text] 35)).drew).ownsRow w.heap.size 35 2 (.slice (some ⟨g0, 0, none⟩) (m + 1) cv) (m + 1) (ts.flatMap tokc) := (hown1.alloc _).drew
            have hb2 : Below w.heap.size w (w1.alloc (.cells #[.int .i64 t.kind, sv t.text] 35)).drew := (hb1.alloc hz1 _).drew
            have hz2 := hb2.size
            have f1 : (w1.alloc (.cells #[.int .i64 t.kind, sv t.text] 35)).drew.cell? ⟨w1.heap.size, 0, none⟩ = some (.int .i64 t.kind) := by simp [go_sem]
            have f2 : (w1.alloc (.cells #[.int .i64 t.kind, sv t.text] 35)).drew.cell? ⟨w1.heap.size, 1, none⟩ = some (sv t.text) := by simp [go_sem]
            have p1 : (w1.alloc (.cells #[.int .i64 t.kind, sv t.text] 35)).drew.cell? ⟨g0, m * 2, none⟩ = some (.int .i64 t0.kind) := (World.cell?_alloc_lt w1 _ _ (by exact hg0)).trans q1
            have p2 : (w1.alloc (.cells #[.int .i64 t.kind, sv t.text] 35)).drew.cell? ⟨g0, m * 2 + 1, none⟩ = some (sv t0.text) := (World.cell?_alloc_lt w1 _ _ (by exact hg0)).trans q2
            have hsz2 : (w1.alloc (.cells #[.int .i64 t.kind, sv t.text] 35)).drew.heap.size = w1.heap.size + 1 := by simp
            clear b1 hbr hbr0 hown hown1 q1 q2 ht0 hlast
            go_wp2
            refine ord_start [(0, true), (1, true), (2, true), (3, true), (4, true), (5, true), (6, true), (7, true), (8, true), (9, true), (10, true), (11, true), (12, true), (13, true), (14, true), (15, true), (16, true), (17, true), (18, true), (19, true), (20, false), (21, true), (22, true), (23, true)] (fun W => W.cell? ⟨g0, m * 2, none⟩ = some (.int .i64 t0.kind) ∧ W.cell? ⟨g0, m * 2 + 1, none⟩ = some (sv t0.text) ∧ W.cell? ⟨w1.heap.size, 0, none⟩ = some (.int .i64 t.kind) ∧ W.cell? ⟨w1.heap.size, 1, none⟩ = some (sv t.text)) (by kernel_rfl) (by kernel_rfl) rfl (by kernel_rfl) ?_
            intro ops' hops
            simp only [List.map_cons, List.map_nil, pickOp_zero, pickOp_succ]
            have hF : ∀ W, W = (w1.alloc (.cells #[.int .i64 t.kind, sv t.text] 35)).drew → True := fun _ _ => trivial
            clear hF
            iterate 3 (refine ord_flo ?_ (fun _ _ _ h => h) rfl ?_ ⟨p1, p2, f1, f2⟩ ?_; rotate_left; focus (intro W hS; obtain ⟨s1, s2, s3, s4⟩ := hS; go_simp; rfl))
            iterate 3 (refine ord_flo ?_ (fun _ _ _ h => h) (by rw [hops.out]; kernel_rfl) ?_ ⟨p1, p2, f1, f2⟩ ?_; rotate_left; focus (intro W hS; obtain ⟨s1, s2, s3, s4⟩ := hS; go_simp; rfl))
            iterate 1 (refine ord_not (fun _ _ _ h => h) (by rw [hops.out]; kernel_rfl) ⟨p1, p2, f1, f2⟩ ?_)
            iterate 1 (refine ord_flo ?_ (fun _ _ _ h => h) (by rw [hops.out]; kernel_rfl) ?_ ⟨p1, p2, f1, f2⟩ ?_; rotate_left; focus (intro W hS; obtain ⟨s1, s2, s3, s4⟩ := hS; go_simp; rfl))
            iterate 2 (refine ord_flo ?_ (fun _ _ _ h => h) rfl ?_ ⟨p1, p2, f1, f2⟩ ?_; rotate_left; focus (intro W hS; obtain ⟨s1, s2, s3, s4⟩ := hS; go_simp; rfl))
            iterate 7 (refine ord_flo ?_ (fun _ _ _ h => h) (by rw [hops.out]; kernel_rfl) ?_ ⟨p1, p2, f1, f2⟩ ?_; rotate_left; focus (intro W hS; obtain ⟨s1, s2, s3, s4⟩ := hS; go_simp; rfl))
            refine ord_flo (.pointer (some ⟨g0, m * 2, none⟩)) (fun _ _ _ h => h) (by rw [hops.out]; kernel_rfl) ?_ ⟨p1, p2, f1, f2⟩ ?_
            · intro W hS
              go_simp
              try (intro h; omega)
            iterate 2 (refine ord_flo ?_ (fun _ _ _ h => h) (by rw [hops.out]; kernel_rfl) ?_ ⟨p1, p2, f1, f2⟩ ?_; rotate_left; focus (intro W hS; obtain ⟨s1, s2, s3, s4⟩ := hS; go_simp; rfl))
            refine ord_ev (by rw [hops.out]; kernel_rfl) ?_
            go_simp
            refine (l3Gap_any t0 t _).mono ?_
            rintro e w3 ⟨rfl, b3⟩
            have i1 := (b3.cell (p := ⟨g0, m * 2, none⟩) (by show g0 < _; simp; omega)).trans p1
            have i2 := (b3.cell (p := ⟨g0, m * 2 + 1, none⟩) (by show g0 < _; simp; omega)).trans p2
            have i3 := (b3.cell (p := ⟨w1.heap.size, 0, none⟩) (by show w1.heap.size < _; simp)).trans f1
            have i4 := (b3.cell (p := ⟨w1.heap.size, 1, none⟩) (by show w1.heap.size < _; simp)).trans f2
            have hown3 := ownsRow_below hown2 b3
            have hb3 := hb2.trans (b3.mono hz2)
            have hz3 := hb3.size
            refine ⟨⟨i1, i2, i3, i4⟩, ?_⟩
            clear p1 p2 f1 f2 b3 hown2 hb2 hz2 hsz2
            cases hgap : gapB t0 t with
            | true =>
              have HU := Lib.hid (show U = none from HS.out.unfit hlt false HB.out HT.out (by rw [HL.out]; simp [fitB, hgap]))
              clear hgap
              iterate 2 (refine ord_flo ?_ (fun _ _ _ h => h) (by rw [hops.out]; kernel_rfl) ?_ ⟨i1, i2, i3, i4⟩ ?_; rotate_left; focus (intro W hS; obtain ⟨s1, s2, s3, s4⟩ := hS; go_simp; rfl))
              iterate 1 (refine ord_flo ?_ (fun _ _ _ h => h) rfl ?_ ⟨i1, i2, i3, i4⟩ ?_; rotate_left; focus (intro W hS; obtain ⟨s1, s2, s3, s4⟩ := hS; go_simp; rfl))
              refine ord_done ?_
              go_simp
              clear i1 i2 i3 i4 hown3 hwr
              go_wp2
              go_ret2
              refine ⟨_, by rw [HU.out]; rfl, ?_, hb3.alloc hz3 _⟩
              rw [HU.out]
              exact own_empty _ _ _ 2 hz3
            | false =>
              have HN := Lib.hid (HS.out.step hlt false HB.out HT.out (by rw [HL.out]; simp [fitB, hgap]))
              clear hgap
              iterate 2 (refine ord_flo ?_ (fun _ _ _ h => h) (by rw [hops.out]; kernel_rfl) ?_ ⟨i1, i2, i3, i4⟩ ?_; rotate_left; focus (intro W hS; obtain ⟨s1, s2, s3, s4⟩ := hS; go_simp; rfl))
              iterate 1 (refine ord_flo ?_ (fun _ _ _ h => h) rfl ?_ ⟨i1, i2, i3, i4⟩ ?_; rotate_left; focus (intro W hS; obtain ⟨s1, s2, s3, s4⟩ := hS; go_simp; rfl))
              refine ord_done ?_
              go_simp
              clear i1 i2 hwr
              go_wp2_with (at_builtin; refine wpList_app1 Tryd.el_tok rfl (.tmp 60) (.tmp 62) rfl w w3 (.slice (some ⟨g0, 0, none⟩) (m + 1) cv) (m + 1) _ rfl hown3 hb3 hz3 #[.int .i64 t.kind, sv t.text] (.inr rfl) 1 1 rfl rfl (by simp [Value.oneCell']) (by omega) (by omega) (by omega) ?_)
              intro g cap w4 hown4 hb4 _ _ _
              clear hown3 hb3 hz3 i3 i4
              go_wp2
              go_roundw
              case rel => exact ⟨p + k, m + 1 + 1, ts ++ [t], by omega, by omega, by go_num, HN.out.1, by rw [List.flatMap_append]; simpa [tokc] using hown4, hb4⟩
              case measure => simp [intOf]; omega
    · obtain rfl : p = s.size := by omega
      have HU := Lib.hid (HS.out.done hlt)
      have HN := Lib.hid HS.out.1
      go_wp2
      go_ret2
      refine ⟨_, by rw [HU.out]; rfl, ?_, hbr⟩
      rw [HU.out]
      show wr.ownsRow _ _ _ _ ts.length (ts.flatMap tokc)
      rw [← HN.out]
      exact hown

end Go.Proofs.YtldfakcjimaaaaaDoor
