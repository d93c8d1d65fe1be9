/-
  Chapter 6: the exact laws of ScopeOk, FilterOk, Covers, Admits, out of what the program's functions answer.
-/
import Derived.Test.YthihjelcakenpaaFilH
import Derived.Test.YthihjelcakenpaaGd
namespace Go.Proofs.Ythihjelcakenpaa
open Go.RowKit

theorem szl_in {l : List (List UInt8)} {x : List UInt8} (h : x ∈ l) : x.length ≤ szl l := by
  induction l with
  | nil => cases h
  | cons a l ih =>
    have e : szl (a :: l) = a.length + szl l := by simp [szl]
    rcases List.mem_cons.1 h with rfl | h
    · omega
    · have := ih h; omega

theorem blk_three {W : World} {b : Nat} {x0 x1 x2 : Value} {T : TypeId} (h : W.heap[b]? = some (.cells #[x0, x1, x2] T (0, 0))) :
    W.cell? ⟨b, 0, none⟩ = some x0 ∧ W.cell? ⟨b, 1, none⟩ = some x1 ∧ W.cell? ⟨b, 2, none⟩ = some x2 :=
  ⟨(Lib.cell_of_heap h 0).trans rfl, (Lib.cell_of_heap h 1).trans rfl, (Lib.cell_of_heap h 2).trans rfl⟩

theorem blk_pair {W : World} {b : Nat} {x0 x1 : Value} {T : TypeId} (h : W.heap[b]? = some (.cells #[x0, x1] T (0, 0))) :
    W.cell? ⟨b, 0, none⟩ = some x0 ∧ W.cell? ⟨b, 1, none⟩ = some x1 :=
  ⟨(Lib.cell_of_heap h 0).trans rfl, (Lib.cell_of_heap h 1).trans rfl⟩
theorem scw_in {l : List Scp} {s : Scp} (h : s ∈ l) : s.names.length + szl s.names ≤ scw l := by
  induction l with
  | nil => cases h
  | cons a l ih =>
    have e : scw (a :: l) = a.names.length + szl a.names + scw l := rfl
    rcases List.mem_cons.1 h with rfl | h
    · omega
    · have := ih h; omega
/-- A slice's length is at most its capacity. -/
def CapOk (v : Value) : Prop := ∀ p n c, v = .slice p n c → n ≤ c
theorem CapOk.of_own {W : World} {B m n : Nat} {e : TypeId} {v : Value} {xs : List Value} (h : W.ownsRow B e m v n xs) : CapOk v := by
  intro p k c hv
  rcases h.2 with ⟨h1, h0⟩ | ⟨b, cap, cur, h1, _, _, hcap, _⟩
  · rw [h1] at hv; injection hv with _ h2 h3; omega
  · rw [h1] at hv; injection hv with _ h2 h3; omega
theorem below_of_drew {w w' : World} (h : Below w.drew.heap.size w.drew w') : Below w.heap.size w w' := (Below.refl _ _).drew.trans h

def ImplScopeOk (G : World → Prop) : Prop := ∀ (s : Scp) (vn : Value)   (W : World), G W → Rd1 sv W vn s.names → s.names.length ≤ 1048576 → (∀ x ∈ s.names, x.length ≤ 1048576) → in64 s.kind → in64 s.events →
  Calls Try.prog 17 #[.agg #[.int .i64 s.kind, vn, .int .i64 s.events]] W fun e w' => e = .returned (.bool (scopeB s)) ∧ Below W.heap.size W w'

def ImplFilterOk (G : World → Prop) : Prop := ∀ (f : Flt) (vs : Value)   (W : World), G W → LfRd W (scpsLf f.scopes) vs → f.scopes.length ≤ 1048576 → (∀ s ∈ f.scopes, s.names.length ≤ 1048576 ∧ ∀ x ∈ s.names, x.length ≤ 1048576) → (∀ s ∈ f.scopes, in64 s.kind ∧ in64 s.events) →
  Calls Try.prog 22 #[.agg #[.bool f.on, vs]] W fun e w' => e = .returned (.bool (filterB f)) ∧ Below W.heap.size W w'

def ImplCovers (G : World → Prop) : Prop := ∀ (s : Scp) (vn : Value) (sel : List UInt8) (nn : List UInt8)  (W : World), G W → Rd1 sv W vn s.names → s.names.length ≤ 1048576 → (∀ x ∈ s.names, x.length ≤ 1048576) → in64 s.kind → in64 s.events → sel.length ≤ 1048576 → nn.length ≤ 1048576 →
  Calls Try.prog 13 #[.agg #[.int .i64 s.kind, vn, .int .i64 s.events], sv sel, sv nn] W fun e w' => e = .returned (.bool (coversB s sel nn)) ∧ Below W.heap.size W w'

def ImplAdmits (G : World → Prop) : Prop := ∀ (f : Flt) (vs : Value) (sel : List UInt8) (nn : List UInt8) (en : Int) (W : World), G W → LfRd W (scpsLf f.scopes) vs → f.scopes.length ≤ 1048576 → (∀ s ∈ f.scopes, s.names.length ≤ 1048576 ∧ ∀ x ∈ s.names, x.length ≤ 1048576) → (∀ s ∈ f.scopes, in64 s.kind ∧ in64 s.events) → sel.length ≤ 1048576 → nn.length ≤ 1048576 → in64 en →
  Calls Try.prog 11 #[.agg #[.bool f.on, vs], sv sel, sv nn, .int .i64 en] W fun e w' => e = .returned (.bool (admitsB f sel nn en)) ∧ Below W.heap.size W w'

set_option maxRecDepth 20000 in
set_option maxHeartbeats 3200000 in
theorem FnExactScopeOk_of {G : World → Prop} (hK : Keeps G) (IS : ImplScopeOk G) (s : Scp) (vn : Value)   (w : World) (hG : G w) (hr : Rd1 sv w vn s.names) (hl : s.names.length ≤ 9223372036854775807) (hx : ∀ x ∈ s.names, x.length ≤ 9223372036854775807) (hk : in64 s.kind) (he : in64 s.events)   :
    Calls Try.prog 4 #[.agg #[.int .i64 s.kind, vn, .int .i64 s.events]] w fun e w' => e = .returned (.bool true) ∧ Below w.heap.size w w' := by
  have hb1 : Below w.heap.size w (w.alloc (.cells #[.int .i64 s.kind, vn, .int .i64 s.events] 34)) := (Below.refl _ _).alloc (Nat.le_refl _) _
  have hA : (w.alloc (.cells #[.int .i64 s.kind, vn, .int .i64 s.events] 34)).heap[w.heap.size]? = some (.cells #[.int .i64 s.kind, vn, .int .i64 s.events] 34 (0, 0)) := heap_alloc_new w _
  have hz1 : (w.alloc (.cells #[.int .i64 s.kind, vn, .int .i64 s.events] 34)).heap.size = w.heap.size + 1 := by simp
  have c1 := fun W (h : Rd1 sv W vn s.names) => szScope_any s vn 1048576 W h hl hx (by omega)
  have HR := Lib.hid hr
  have hsl : ∃ p c, vn = .slice p s.names.length c := by obtain ⟨p, c, h, _⟩ := hr.ex; exact ⟨p, c, h⟩
  by_cases hok : s.names.length + szl s.names ≤ 1048576
  · have CT := Lib.hid (fun W (h : Rd1 sv W vn s.names) => toScope_any s vn W h (by omega))
    have CS := Lib.hid (fun u W (h : Rd1 sv W u s.names) => specScopeOk_any s u W h (by omega) (fun x hx => by have := szl_in hx; omega))
    have CI := Lib.hid (fun u W (hg : G W) (h : Rd1 sv W u s.names) => IS s u W hg h (by omega) (fun x hx => by have := szl_in hx; omega) hk he)
    have CE := Lib.hid (fun u v W (h : Rd1 sv W u s.names) (h2 : Rd1 sv W v s.names) => eqScope_same s u v W h h2 (by omega))
    rw [szR_yes hok] at c1
    have hnn : ¬ ((1048576 - (s.names.length + szl s.names) : Nat) : Int) < 0 := by omega
    have C1 := Lib.hid c1
    clear hr IS c1 hx hk he
    obtain ⟨kd, nm, ev⟩ := s
    simp only at *
    generalize scopeB ⟨kd, nm, ev⟩ = ok at *
    obtain ⟨pn, cn, rfl⟩ := hsl
    obtain ⟨a0, a1, a2⟩ := blk_three hA
    have HA := Lib.hid hA
    clear hA
    go_enter Try.func4, Try.ntmps4
    go_wp2_with fail
    generalize (w.alloc (.cells #[.int .i64 kd, .slice pn nm.length cn, .int .i64 ev] 34)) = W1 at *
    refine (C1.out _ (HR.out.below hb1)).mono ?_
    rintro e w1 ⟨rfl, b1⟩
    have hb2 := hb1.trans (b1.mono (by omega))
    have HA1 := Lib.hid ((b1.block w.heap.size (by omega)).trans HA.out)
    obtain ⟨a0, a1, a2⟩ := blk_three HA1.out
    have hz2 := Nat.le_trans (Nat.le_of_eq hz1.symm) b1.size
    clear b1
    go_wp2_with fail
    refine (CT.out _ (HR.out.below hb2)).mono ?_
    rintro e w2 ⟨v2, rfl, o2, b2⟩
    have hb3 := hb2.trans (b2.mono (by omega))
    have HA2 := Lib.hid ((b2.block w.heap.size (by omega)).trans HA1.out)
    have R2 := Lib.hid (Rd1.of_own (enc := sv) o2)
    have hz3 := Nat.le_trans hz2 b2.size
    obtain ⟨p2, q2, rfl, _⟩ := R2.out.ex
    clear b2 o2 a0 a1 a2
    go_wp2_with fail
    refine (CS.out _ _ R2.out).mono ?_
    rintro e w3 ⟨rfl, b3⟩
    have hb4 := hb3.trans (b3.mono (by omega))
    have HA3 := Lib.hid ((b3.block w.heap.size (by omega)).trans HA2.out)
    obtain ⟨a0, a1, a2⟩ := blk_three HA3.out
    have hz4 := Nat.le_trans hz3 b3.size
    clear b3
    go_wp2_with fail
    refine (CT.out _ (HR.out.below hb4)).mono ?_
    rintro e w4 ⟨v4, rfl, o4, b4⟩
    have hb5 := hb4.trans (b4.mono (by omega))
    have HA4 := Lib.hid ((b4.block w.heap.size (by omega)).trans HA3.out)
    have R4 := Lib.hid (Rd1.of_own (enc := sv) o4)
    have hz5 := Nat.le_trans hz4 b4.size
    obtain ⟨p4, q4, rfl, _⟩ := R4.out.ex
    clear b4 o4 a0 a1 a2
    have hbX : Below w4.heap.size w4 (w4.alloc (.cells #[.int .i64 kd, .slice p4 nm.length q4, .int .i64 ev] 32)) := (Below.refl _ _).alloc (Nat.le_refl _) _
    have HX5 := Lib.hid (show (w4.alloc (.cells #[.int .i64 kd, .slice p4 nm.length q4, .int .i64 ev] 32)).heap[w4.heap.size]? = some (.cells #[.int .i64 kd, .slice p4 nm.length q4, .int .i64 ev] 32 (0, 0)) from heap_alloc_new w4 _)
    have hzX : (w4.alloc (.cells #[.int .i64 kd, .slice p4 nm.length q4, .int .i64 ev] 32)).heap.size = w4.heap.size + 1 := by simp
    go_wp2_with fail
    generalize (w4.alloc (.cells #[.int .i64 kd, .slice p4 nm.length q4, .int .i64 ev] 32)) = X at *
    have hb6 := hb5.trans (hbX.mono (by omega))
    have HA5 := Lib.hid ((hbX.block w.heap.size (by omega)).trans HA4.out)
    have R5 := Lib.hid (R4.out.below hbX)
    refine (CI.out _ _ (hK _ _ hG hb6) R5.out).mono ?_
    rintro e w6 ⟨rfl, b6⟩
    have hb7 := hb6.trans (b6.mono (by omega))
    have HA6 := Lib.hid ((b6.block w.heap.size (by omega)).trans HA5.out)
    have HX6 := Lib.hid ((b6.block w4.heap.size (by omega)).trans HX5.out)
    have R6 := Lib.hid (R5.out.below b6)
    have hz6 := Nat.le_trans (Nat.le_of_eq hzX.symm) b6.size
    have hne : (ok != ok) = false := by simp
    clear b6
    go_wp2
    refine ord_start [(0, true), (1, true), (2, false), (3, false), (4, true)] (fun W => W.heap[w.heap.size]? = some (.cells #[.int .i64 kd, .slice pn nm.length cn, .int .i64 ev] 34 (0, 0)) ∧ W.heap[w4.heap.size]? = some (.cells #[.int .i64 kd, .slice p4 nm.length q4, .int .i64 ev] 32 (0, 0))) (by kernel_rfl) (by kernel_rfl) rfl (by kernel_rfl) ?_
    intro ops' hops
    clear hops
    simp only [List.map_cons, List.map_nil, pickOp_zero, pickOp_succ]
    refine ord_flo (.agg #[.int .i64 kd, .slice p4 nm.length q4, .int .i64 ev]) (fun _ _ _ h => h) rfl ?_ ⟨HA6.out, HX6.out⟩ ?_
    · intro W hS
      obtain ⟨y0, y1, y2⟩ := blk_three hS.2
      clear hS
      go_simp
    refine ord_flo (.agg #[.int .i64 kd, .slice pn nm.length cn, .int .i64 ev]) (fun _ _ _ h => h) rfl ?_ ⟨HA6.out, HX6.out⟩ ?_
    · intro W hS
      obtain ⟨y0, y1, y2⟩ := blk_three hS.1
      clear hS
      go_simp
    refine ord_ev rfl ?_
    go_simp
    refine (CT.out _ (HR.out.below hb7.drew)).mono ?_
    rintro e w7 ⟨v7, rfl, o7, b7⟩
    have HA7 := Lib.hid ((b7.block w.heap.size (by show _ < w6.heap.size; omega)).trans HA6.out)
    have HX7 := Lib.hid ((b7.block w4.heap.size (by show _ < w6.heap.size; omega)).trans HX6.out)
    have hb8 := hb7.drew.trans (b7.mono (by show w.heap.size ≤ w6.heap.size; omega))
    have CEE := Lib.hid (CE.out _ _ _ (Rd1.below (w := w6.drew) ⟨R6.out.ex⟩ b7) (Rd1.of_own (enc := sv) o7))
    have hz7 : w6.heap.size ≤ w7.heap.size := b7.size
    refine ⟨⟨HA7.out, HX7.out⟩, ?_⟩
    clear b7 o7
    refine ord_ev rfl ?_
    go_simp
    refine (CEE.out).mono ?_
    rintro e w8 ⟨rfl, b8⟩
    have HA8 := Lib.hid ((b8.block w.heap.size (by omega)).trans HA7.out)
    have HX8 := Lib.hid ((b8.block w4.heap.size (by omega)).trans HX7.out)
    have hb9 := hb8.trans (b8.mono (by omega))
    refine ⟨⟨HA8.out, HX8.out⟩, ?_⟩
    clear b8
    iterate 1 (refine ord_flo ?_ (fun _ _ _ h => h) rfl ?_ ⟨HA8.out, HX8.out⟩ ?_; rotate_left; focus (intro W hS; obtain ⟨s1, s2⟩ := hS; go_simp; rfl))
    refine ord_done ?_
    go_simp
    go_wp2
    go_ret
    exact ⟨rfl, hb9⟩
  · rw [szR_no hok] at c1
    have C1 := Lib.hid c1
    clear c1 IS hx hk he hr
    obtain ⟨kd, nm, ev⟩ := s
    simp only at *
    obtain ⟨pn, cn, rfl⟩ := hsl
    go_enter Try.func4, Try.ntmps4
    go_wp2_with fail
    refine (C1.out _ (HR.out.below hb1)).mono ?_
    rintro e w1 ⟨rfl, b1⟩
    have hb := hb1.trans (b1.mono (by omega))
    go_wp2
    go_ret
    exact ⟨rfl, hb⟩

set_option maxRecDepth 20000 in
set_option maxHeartbeats 3200000 in
theorem FnExactFilterOk_of {G : World → Prop} (hK : Keeps G) (IS : ImplFilterOk G) (f : Flt) (vs : Value)   (w : World) (hG : G w) (hr : LfRd w (scpsLf f.scopes) vs) (hl : f.scopes.length ≤ 9223372036854775807) (hx : ∀ s ∈ f.scopes, s.names.length ≤ 9223372036854775807 ∧ ∀ x ∈ s.names, x.length ≤ 9223372036854775807) (hi : ∀ s ∈ f.scopes, in64 s.kind ∧ in64 s.events)   :
    Calls Try.prog 5 #[.agg #[.bool f.on, vs]] w fun e w' => e = .returned (.bool true) ∧ Below w.heap.size w w' := by
  have hb1 : Below w.heap.size w (w.alloc (.cells #[.bool f.on, vs] 42)) := (Below.refl _ _).alloc (Nat.le_refl _) _
  have hA : (w.alloc (.cells #[.bool f.on, vs] 42)).heap[w.heap.size]? = some (.cells #[.bool f.on, vs] 42 (0, 0)) := heap_alloc_new w _
  have hz1 : (w.alloc (.cells #[.bool f.on, vs] 42)).heap.size = w.heap.size + 1 := by simp
  have c1 := fun W (h : LfRd W (scpsLf f.scopes) vs) => szFilter_any f vs 1048576 W h hl hx (by omega)
  have HR := Lib.hid hr
  have hsl : ∃ p c, vs = .slice p f.scopes.length c := by obtain ⟨p, c, h, _⟩ := scps_at hr; exact ⟨p, c, h⟩
  by_cases hok : f.scopes.length + scw f.scopes ≤ 1048576
  · have CT := Lib.hid (fun W (h : LfRd W (scpsLf f.scopes) vs) => toFilter_any f vs W h (by omega) (fun s hs => by have := scw_in hs; omega))
    have CS := Lib.hid (fun u W (h : LfRd W (scpsLf f.scopes) u) => specFilterOk_any f u W h (by omega) (fun s hs => by have := scw_in hs; exact ⟨by omega, fun x hx => by have := szl_in hx; omega⟩))
    have CI := Lib.hid (fun u W (hg : G W) (h : LfRd W (scpsLf f.scopes) u) => IS f u W hg h (by omega) (fun s hs => by have := scw_in hs; exact ⟨by omega, fun x hx => by have := szl_in hx; omega⟩) hi)
    have CE := Lib.hid (fun u v W (h : LfRd W (scpsLf f.scopes) u) (h2 : LfRd W (scpsLf f.scopes) v) => eqFilter_same f u v W h h2 (by omega) (fun s hs => by have := scw_in hs; omega))
    rw [scR_yes hok] at c1
    have hnn : ¬ ((1048576 - (f.scopes.length + scw f.scopes) : Nat) : Int) < 0 := by omega
    have C1 := Lib.hid c1
    clear hr IS c1 hx hi
    obtain ⟨on, l⟩ := f
    simp only at *
    generalize filterB ⟨on, l⟩ = ok at *
    obtain ⟨pn, cn, rfl⟩ := hsl
    obtain ⟨a0, a1⟩ := blk_pair hA
    have HA := Lib.hid hA
    clear hA
    go_enter Try.func5, Try.ntmps5
    go_wp2_with fail
    generalize (w.alloc (.cells #[.bool on, .slice pn l.length cn] 42)) = W1 at *
    refine (C1.out _ (LfRd.below hb1 _ _ HR.out)).mono ?_
    rintro e w1 ⟨rfl, b1⟩
    have hb2 := hb1.trans (b1.mono (by omega))
    have HA1 := Lib.hid ((b1.block w.heap.size (by omega)).trans HA.out)
    obtain ⟨a0, a1⟩ := blk_pair HA1.out
    have hz2 := Nat.le_trans (Nat.le_of_eq hz1.symm) b1.size
    clear b1
    go_wp2_with fail
    refine (CT.out _ (LfRd.below hb2 _ _ HR.out)).mono ?_
    rintro e w2 ⟨v2, f2, rfl, o2, b2⟩
    have hb3 := hb2.trans (b2.mono (by omega))
    have HA2 := Lib.hid ((b2.block w.heap.size (by omega)).trans HA1.out)
    have R2 := Lib.hid o2.rd
    have hz3 := Nat.le_trans hz2 b2.size
    obtain ⟨p2, q2, rfl, _⟩ := scps_at R2.out
    clear b2 o2 a0 a1
    go_wp2_with fail
    refine (CS.out _ _ R2.out).mono ?_
    rintro e w3 ⟨rfl, b3⟩
    have hb4 := hb3.trans (b3.mono (by omega))
    have HA3 := Lib.hid ((b3.block w.heap.size (by omega)).trans HA2.out)
    obtain ⟨a0, a1⟩ := blk_pair HA3.out
    have hz4 := Nat.le_trans hz3 b3.size
    clear b3
    go_wp2_with fail
    refine (CT.out _ (LfRd.below hb4 _ _ HR.out)).mono ?_
    rintro e w4 ⟨v4, f4, rfl, o4, b4⟩
    have hb5 := hb4.trans (b4.mono (by omega))
    have HA4 := Lib.hid ((b4.block w.heap.size (by omega)).trans HA3.out)
    have R4 := Lib.hid o4.rd
    have hz5 := Nat.le_trans hz4 b4.size
    obtain ⟨p4, q4, rfl, _⟩ := scps_at R4.out
    clear b4 o4 a0 a1
    have hbX : Below w4.heap.size w4 (w4.alloc (.cells #[.bool on, .slice p4 l.length q4] 26)) := (Below.refl _ _).alloc (Nat.le_refl _) _
    have HX5 := Lib.hid (show (w4.alloc (.cells #[.bool on, .slice p4 l.length q4] 26)).heap[w4.heap.size]? = some (.cells #[.bool on, .slice p4 l.length q4] 26 (0, 0)) from heap_alloc_new w4 _)
    have hzX : (w4.alloc (.cells #[.bool on, .slice p4 l.length q4] 26)).heap.size = w4.heap.size + 1 := by simp
    go_wp2_with fail
    generalize (w4.alloc (.cells #[.bool on, .slice p4 l.length q4] 26)) = X at *
    have hb6 := hb5.trans (hbX.mono (by omega))
    have HA5 := Lib.hid ((hbX.block w.heap.size (by omega)).trans HA4.out)
    have R5 := Lib.hid (LfRd.below hbX _ _ R4.out)
    refine (CI.out _ _ (hK _ _ hG hb6) R5.out).mono ?_
    rintro e w6 ⟨rfl, b6⟩
    have hb7 := hb6.trans (b6.mono (by omega))
    have HA6 := Lib.hid ((b6.block w.heap.size (by omega)).trans HA5.out)
    have HX6 := Lib.hid ((b6.block w4.heap.size (by omega)).trans HX5.out)
    have R6 := Lib.hid (LfRd.below b6 _ _ R5.out)
    have hz6 := Nat.le_trans (Nat.le_of_eq hzX.symm) b6.size
    have hne : (ok != ok) = false := by simp
    clear b6
    go_wp2
    refine ord_start [(0, true), (1, true), (2, false), (3, false), (4, true)] (fun W => W.heap[w.heap.size]? = some (.cells #[.bool on, .slice pn l.length cn] 42 (0, 0)) ∧ W.heap[w4.heap.size]? = some (.cells #[.bool on, .slice p4 l.length q4] 26 (0, 0))) (by kernel_rfl) (by kernel_rfl) rfl (by kernel_rfl) ?_
    intro ops' hops
    clear hops
    simp only [List.map_cons, List.map_nil, pickOp_zero, pickOp_succ]
    refine ord_flo (.agg #[.bool on, .slice p4 l.length q4]) (fun _ _ _ h => h) rfl ?_ ⟨HA6.out, HX6.out⟩ ?_
    · intro W hS
      obtain ⟨y0, y1⟩ := blk_pair hS.2
      clear hS
      go_simp
    refine ord_flo (.agg #[.bool on, .slice pn l.length cn]) (fun _ _ _ h => h) rfl ?_ ⟨HA6.out, HX6.out⟩ ?_
    · intro W hS
      obtain ⟨y0, y1⟩ := blk_pair hS.1
      clear hS
      go_simp
    refine ord_ev rfl ?_
    go_simp
    refine (CT.out _ (LfRd.below hb7.drew _ _ HR.out)).mono ?_
    rintro e w7 ⟨v7, f7, rfl, o7, b7⟩
    have HA7 := Lib.hid ((b7.block w.heap.size (by show _ < w6.heap.size; omega)).trans HA6.out)
    have HX7 := Lib.hid ((b7.block w4.heap.size (by show _ < w6.heap.size; omega)).trans HX6.out)
    have hb8 := hb7.drew.trans (b7.mono (by show w.heap.size ≤ w6.heap.size; omega))
    have CEE := Lib.hid (CE.out _ _ _ (LfRd.below (show Below w6.heap.size w6 _ from below_of_drew b7) _ _ R6.out) o7.rd)
    have hz7 : w6.heap.size ≤ w7.heap.size := b7.size
    refine ⟨⟨HA7.out, HX7.out⟩, ?_⟩
    clear b7 o7
    refine ord_ev rfl ?_
    go_simp
    refine (CEE.out).mono ?_
    rintro e w8 ⟨rfl, b8⟩
    have HA8 := Lib.hid ((b8.block w.heap.size (by omega)).trans HA7.out)
    have HX8 := Lib.hid ((b8.block w4.heap.size (by omega)).trans HX7.out)
    have hb9 := hb8.trans (b8.mono (by omega))
    refine ⟨⟨HA8.out, HX8.out⟩, ?_⟩
    clear b8
    iterate 1 (refine ord_flo ?_ (fun _ _ _ h => h) rfl ?_ ⟨HA8.out, HX8.out⟩ ?_; rotate_left; focus (intro W hS; obtain ⟨s1, s2⟩ := hS; go_simp; rfl))
    refine ord_done ?_
    go_simp
    go_wp2
    go_ret
    exact ⟨rfl, hb9⟩
  · rw [scR_no hok] at c1
    have C1 := Lib.hid c1
    clear c1 IS hx hi hr
    obtain ⟨on, l⟩ := f
    simp only at *
    obtain ⟨pn, cn, rfl⟩ := hsl
    go_enter Try.func5, Try.ntmps5
    go_wp2_with fail
    refine (C1.out _ (LfRd.below hb1 _ _ HR.out)).mono ?_
    rintro e w1 ⟨rfl, b1⟩
    have hb := hb1.trans (b1.mono (by omega))
    go_wp2
    go_ret
    exact ⟨rfl, hb⟩

set_option maxRecDepth 20000 in
set_option maxHeartbeats 3200000 in
theorem FnExactCovers_of {G : World → Prop} (hK : Keeps G) (IS : ImplCovers G) (s : Scp) (vn : Value) (sel : List UInt8) (nn : List UInt8)  (w : World) (hG : G w) (hr : Rd1 sv w vn s.names) (hl : s.names.length ≤ 9223372036854775807) (hx : ∀ x ∈ s.names, x.length ≤ 9223372036854775807) (hk : in64 s.kind) (he : in64 s.events) (_hsel : sel.length ≤ 9223372036854775807) (_hnn : nn.length ≤ 9223372036854775807)  :
    Calls Try.prog 6 #[.agg #[.int .i64 s.kind, vn, .int .i64 s.events], sv sel, sv nn] w fun e w' => e = .returned (.bool true) ∧ Below w.heap.size w w' := by
  have hb1 : Below w.heap.size w (w.alloc (.cells #[.int .i64 s.kind, vn, .int .i64 s.events] 34)) := (Below.refl _ _).alloc (Nat.le_refl _) _
  have hA : (w.alloc (.cells #[.int .i64 s.kind, vn, .int .i64 s.events] 34)).heap[w.heap.size]? = some (.cells #[.int .i64 s.kind, vn, .int .i64 s.events] 34 (0, 0)) := heap_alloc_new w _
  have hz1 : (w.alloc (.cells #[.int .i64 s.kind, vn, .int .i64 s.events] 34)).heap.size = w.heap.size + 1 := by simp
  have c1 := fun W (h : Rd1 sv W vn s.names) => szScope_any s vn 1048576 W h hl hx (by omega)
  have HR := Lib.hid hr
  have hsl : ∃ p c, vn = .slice p s.names.length c := by obtain ⟨p, c, h, _⟩ := hr.ex; exact ⟨p, c, h⟩
  by_cases hzsel : sel.length ≤ 1048576
  case neg =>
    clear IS c1 hx hr
    obtain ⟨kd, nm, ev⟩ := s
    simp only at *
    obtain ⟨pn, cn, rfl⟩ := hsl
    go_enter Try.func6, Try.ntmps6
    go_wp2
    go_ret
    exact ⟨rfl, hb1⟩
  by_cases hznn : nn.length ≤ 1048576
  case neg =>
    clear IS c1 hx hr
    obtain ⟨kd, nm, ev⟩ := s
    simp only at *
    obtain ⟨pn, cn, rfl⟩ := hsl
    go_enter Try.func6, Try.ntmps6
    go_wp2
    go_ret
    exact ⟨rfl, hb1⟩
  by_cases hok : s.names.length + szl s.names ≤ 1048576
  · have CT := Lib.hid (fun W (h : Rd1 sv W vn s.names) => toScope_any s vn W h (by omega))
    have CS := Lib.hid (fun u W (h : Rd1 sv W u s.names) => specCovers_any s u sel nn W h (by omega) (fun x hx => by have := szl_in hx; omega) hznn)
    have CI := Lib.hid (fun u W (hg : G W) (h : Rd1 sv W u s.names) => IS s u sel nn W hg h (by omega) (fun x hx => by have := szl_in hx; omega) hk he hzsel hznn)
    have CE := Lib.hid (fun u v W (h : Rd1 sv W u s.names) (h2 : Rd1 sv W v s.names) => eqScope_same s u v W h h2 (by omega))
    rw [szR_yes hok] at c1
    have hnn : ¬ ((1048576 - (s.names.length + szl s.names) : Nat) : Int) < 0 := by omega
    have C1 := Lib.hid c1
    clear hr IS c1 hx hk he
    obtain ⟨kd, nm, ev⟩ := s
    simp only at *
    generalize coversB ⟨kd, nm, ev⟩ sel nn = ok at *
    obtain ⟨pn, cn, rfl⟩ := hsl
    obtain ⟨a0, a1, a2⟩ := blk_three hA
    have HA := Lib.hid hA
    clear hA
    go_enter Try.func6, Try.ntmps6
    go_wp2_with fail
    generalize (w.alloc (.cells #[.int .i64 kd, .slice pn nm.length cn, .int .i64 ev] 34)) = W1 at *
    refine (C1.out _ (HR.out.below hb1)).mono ?_
    rintro e w1 ⟨rfl, b1⟩
    have hb2 := hb1.trans (b1.mono (by omega))
    have HA1 := Lib.hid ((b1.block w.heap.size (by omega)).trans HA.out)
    obtain ⟨a0, a1, a2⟩ := blk_three HA1.out
    have hz2 := Nat.le_trans (Nat.le_of_eq hz1.symm) b1.size
    clear b1
    go_wp2_with fail
    refine (CT.out _ (HR.out.below hb2)).mono ?_
    rintro e w2 ⟨v2, rfl, o2, b2⟩
    have hb3 := hb2.trans (b2.mono (by omega))
    have HA2 := Lib.hid ((b2.block w.heap.size (by omega)).trans HA1.out)
    have R2 := Lib.hid (Rd1.of_own (enc := sv) o2)
    have hz3 := Nat.le_trans hz2 b2.size
    obtain ⟨p2, q2, rfl, _⟩ := R2.out.ex
    clear b2 o2 a0 a1 a2
    go_wp2_with fail
    refine (CS.out _ _ R2.out).mono ?_
    rintro e w3 ⟨rfl, b3⟩
    have hb4 := hb3.trans (b3.mono (by omega))
    have HA3 := Lib.hid ((b3.block w.heap.size (by omega)).trans HA2.out)
    obtain ⟨a0, a1, a2⟩ := blk_three HA3.out
    have hz4 := Nat.le_trans hz3 b3.size
    clear b3
    go_wp2_with fail
    refine (CT.out _ (HR.out.below hb4)).mono ?_
    rintro e w4 ⟨v4, rfl, o4, b4⟩
    have hb5 := hb4.trans (b4.mono (by omega))
    have HA4 := Lib.hid ((b4.block w.heap.size (by omega)).trans HA3.out)
    have R4 := Lib.hid (Rd1.of_own (enc := sv) o4)
    have hz5 := Nat.le_trans hz4 b4.size
    obtain ⟨p4, q4, rfl, _⟩ := R4.out.ex
    clear b4 o4 a0 a1 a2
    have hbX : Below w4.heap.size w4 (w4.alloc (.cells #[.int .i64 kd, .slice p4 nm.length q4, .int .i64 ev] 32)) := (Below.refl _ _).alloc (Nat.le_refl _) _
    have HX5 := Lib.hid (show (w4.alloc (.cells #[.int .i64 kd, .slice p4 nm.length q4, .int .i64 ev] 32)).heap[w4.heap.size]? = some (.cells #[.int .i64 kd, .slice p4 nm.length q4, .int .i64 ev] 32 (0, 0)) from heap_alloc_new w4 _)
    have hzX : (w4.alloc (.cells #[.int .i64 kd, .slice p4 nm.length q4, .int .i64 ev] 32)).heap.size = w4.heap.size + 1 := by simp
    go_wp2_with fail
    generalize (w4.alloc (.cells #[.int .i64 kd, .slice p4 nm.length q4, .int .i64 ev] 32)) = X at *
    have hb6 := hb5.trans (hbX.mono (by omega))
    have HA5 := Lib.hid ((hbX.block w.heap.size (by omega)).trans HA4.out)
    have R5 := Lib.hid (R4.out.below hbX)
    refine (CI.out _ _ (hK _ _ hG hb6) R5.out).mono ?_
    rintro e w6 ⟨rfl, b6⟩
    have hb7 := hb6.trans (b6.mono (by omega))
    have HA6 := Lib.hid ((b6.block w.heap.size (by omega)).trans HA5.out)
    have HX6 := Lib.hid ((b6.block w4.heap.size (by omega)).trans HX5.out)
    have R6 := Lib.hid (R5.out.below b6)
    have hz6 := Nat.le_trans (Nat.le_of_eq hzX.symm) b6.size
    have hne : (ok != ok) = false := by simp
    clear b6
    go_wp2
    refine ord_start [(0, true), (1, true), (2, false), (3, false), (4, true)] (fun W => W.heap[w.heap.size]? = some (.cells #[.int .i64 kd, .slice pn nm.length cn, .int .i64 ev] 34 (0, 0)) ∧ W.heap[w4.heap.size]? = some (.cells #[.int .i64 kd, .slice p4 nm.length q4, .int .i64 ev] 32 (0, 0))) (by kernel_rfl) (by kernel_rfl) rfl (by kernel_rfl) ?_
    intro ops' hops
    clear hops
    simp only [List.map_cons, List.map_nil, pickOp_zero, pickOp_succ]
    refine ord_flo (.agg #[.int .i64 kd, .slice p4 nm.length q4, .int .i64 ev]) (fun _ _ _ h => h) rfl ?_ ⟨HA6.out, HX6.out⟩ ?_
    · intro W hS
      obtain ⟨y0, y1, y2⟩ := blk_three hS.2
      clear hS
      go_simp
    refine ord_flo (.agg #[.int .i64 kd, .slice pn nm.length cn, .int .i64 ev]) (fun _ _ _ h => h) rfl ?_ ⟨HA6.out, HX6.out⟩ ?_
    · intro W hS
      obtain ⟨y0, y1, y2⟩ := blk_three hS.1
      clear hS
      go_simp
    refine ord_ev rfl ?_
    go_simp
    refine (CT.out _ (HR.out.below hb7.drew)).mono ?_
    rintro e w7 ⟨v7, rfl, o7, b7⟩
    have HA7 := Lib.hid ((b7.block w.heap.size (by show _ < w6.heap.size; omega)).trans HA6.out)
    have HX7 := Lib.hid ((b7.block w4.heap.size (by show _ < w6.heap.size; omega)).trans HX6.out)
    have hb8 := hb7.drew.trans (b7.mono (by show w.heap.size ≤ w6.heap.size; omega))
    have CEE := Lib.hid (CE.out _ _ _ (Rd1.below (w := w6.drew) ⟨R6.out.ex⟩ b7) (Rd1.of_own (enc := sv) o7))
    have hz7 : w6.heap.size ≤ w7.heap.size := b7.size
    refine ⟨⟨HA7.out, HX7.out⟩, ?_⟩
    clear b7 o7
    refine ord_ev rfl ?_
    go_simp
    refine (CEE.out).mono ?_
    rintro e w8 ⟨rfl, b8⟩
    have HA8 := Lib.hid ((b8.block w.heap.size (by omega)).trans HA7.out)
    have HX8 := Lib.hid ((b8.block w4.heap.size (by omega)).trans HX7.out)
    have hb9 := hb8.trans (b8.mono (by omega))
    refine ⟨⟨HA8.out, HX8.out⟩, ?_⟩
    clear b8
    iterate 1 (refine ord_flo ?_ (fun _ _ _ h => h) rfl ?_ ⟨HA8.out, HX8.out⟩ ?_; rotate_left; focus (intro W hS; obtain ⟨s1, s2⟩ := hS; go_simp; rfl))
    refine ord_done ?_
    go_simp
    go_wp2
    go_ret
    exact ⟨rfl, hb9⟩
  · rw [szR_no hok] at c1
    have C1 := Lib.hid c1
    clear c1 IS hx hk he hr
    obtain ⟨kd, nm, ev⟩ := s
    simp only at *
    obtain ⟨pn, cn, rfl⟩ := hsl
    go_enter Try.func6, Try.ntmps6
    go_wp2_with fail
    refine (C1.out _ (HR.out.below hb1)).mono ?_
    rintro e w1 ⟨rfl, b1⟩
    have hb := hb1.trans (b1.mono (by omega))
    go_wp2
    go_ret
    exact ⟨rfl, hb⟩

set_option maxRecDepth 20000 in
set_option maxHeartbeats 3200000 in
theorem FnExactAdmits_of {G : World → Prop} (hK : Keeps G) (IS : ImplAdmits G) (f : Flt) (vs : Value) (sel : List UInt8) (nn : List UInt8) (en : Int) (w : World) (hG : G w) (hr : LfRd w (scpsLf f.scopes) vs) (hl : f.scopes.length ≤ 9223372036854775807) (hx : ∀ s ∈ f.scopes, s.names.length ≤ 9223372036854775807 ∧ ∀ x ∈ s.names, x.length ≤ 9223372036854775807) (hi : ∀ s ∈ f.scopes, in64 s.kind ∧ in64 s.events) (_hsel : sel.length ≤ 9223372036854775807) (_hnn : nn.length ≤ 9223372036854775807) (hen : in64 en) :
    Calls Try.prog 7 #[.agg #[.bool f.on, vs], sv sel, sv nn, .int .i64 en] w fun e w' => e = .returned (.bool true) ∧ Below w.heap.size w w' := by
  have hb1 : Below w.heap.size w (w.alloc (.cells #[.bool f.on, vs] 42)) := (Below.refl _ _).alloc (Nat.le_refl _) _
  have hA : (w.alloc (.cells #[.bool f.on, vs] 42)).heap[w.heap.size]? = some (.cells #[.bool f.on, vs] 42 (0, 0)) := heap_alloc_new w _
  have hz1 : (w.alloc (.cells #[.bool f.on, vs] 42)).heap.size = w.heap.size + 1 := by simp
  have c1 := fun W (h : LfRd W (scpsLf f.scopes) vs) => szFilter_any f vs 1048576 W h hl hx (by omega)
  have HR := Lib.hid hr
  have hsl : ∃ p c, vs = .slice p f.scopes.length c := by obtain ⟨p, c, h, _⟩ := scps_at hr; exact ⟨p, c, h⟩
  by_cases hzsel : sel.length ≤ 1048576
  case neg =>
    clear IS c1 hx hr
    obtain ⟨on, l⟩ := f
    simp only at *
    obtain ⟨pn, cn, rfl⟩ := hsl
    go_enter Try.func7, Try.ntmps7
    go_wp2
    go_ret
    exact ⟨rfl, hb1⟩
  by_cases hznn : nn.length ≤ 1048576
  case neg =>
    clear IS c1 hx hr
    obtain ⟨on, l⟩ := f
    simp only at *
    obtain ⟨pn, cn, rfl⟩ := hsl
    go_enter Try.func7, Try.ntmps7
    go_wp2
    go_ret
    exact ⟨rfl, hb1⟩
  by_cases hok : f.scopes.length + scw f.scopes ≤ 1048576
  · have CT := Lib.hid (fun W (h : LfRd W (scpsLf f.scopes) vs) => toFilter_any f vs W h (by omega) (fun s hs => by have := scw_in hs; omega))
    have CS := Lib.hid (fun u W (h : LfRd W (scpsLf f.scopes) u) => specAdmits_any f u sel nn en W h (by omega) (fun s hs => by have := scw_in hs; exact ⟨by omega, fun x hx => by have := szl_in hx; omega⟩) hznn)
    have CI := Lib.hid (fun u W (hg : G W) (h : LfRd W (scpsLf f.scopes) u) => IS f u sel nn en W hg h (by omega) (fun s hs => by have := scw_in hs; exact ⟨by omega, fun x hx => by have := szl_in hx; omega⟩) hi hzsel hznn hen)
    have CE := Lib.hid (fun u v W (h : LfRd W (scpsLf f.scopes) u) (h2 : LfRd W (scpsLf f.scopes) v) => eqFilter_same f u v W h h2 (by omega) (fun s hs => by have := scw_in hs; omega))
    rw [scR_yes hok] at c1
    have hnn : ¬ ((1048576 - (f.scopes.length + scw f.scopes) : Nat) : Int) < 0 := by omega
    have C1 := Lib.hid c1
    clear hr IS c1 hx hi
    obtain ⟨on, l⟩ := f
    simp only at *
    generalize admitsB ⟨on, l⟩ sel nn en = ok at *
    obtain ⟨pn, cn, rfl⟩ := hsl
    obtain ⟨a0, a1⟩ := blk_pair hA
    have HA := Lib.hid hA
    clear hA
    go_enter Try.func7, Try.ntmps7
    go_wp2_with fail
    generalize (w.alloc (.cells #[.bool on, .slice pn l.length cn] 42)) = W1 at *
    refine (C1.out _ (LfRd.below hb1 _ _ HR.out)).mono ?_
    rintro e w1 ⟨rfl, b1⟩
    have hb2 := hb1.trans (b1.mono (by omega))
    have HA1 := Lib.hid ((b1.block w.heap.size (by omega)).trans HA.out)
    obtain ⟨a0, a1⟩ := blk_pair HA1.out
    have hz2 := Nat.le_trans (Nat.le_of_eq hz1.symm) b1.size
    clear b1
    go_wp2_with fail
    refine (CT.out _ (LfRd.below hb2 _ _ HR.out)).mono ?_
    rintro e w2 ⟨v2, f2, rfl, o2, b2⟩
    have hb3 := hb2.trans (b2.mono (by omega))
    have HA2 := Lib.hid ((b2.block w.heap.size (by omega)).trans HA1.out)
    have R2 := Lib.hid o2.rd
    have hz3 := Nat.le_trans hz2 b2.size
    obtain ⟨p2, q2, rfl, _⟩ := scps_at R2.out
    clear b2 o2 a0 a1
    go_wp2_with fail
    refine (CS.out _ _ R2.out).mono ?_
    rintro e w3 ⟨rfl, b3⟩
    have hb4 := hb3.trans (b3.mono (by omega))
    have HA3 := Lib.hid ((b3.block w.heap.size (by omega)).trans HA2.out)
    obtain ⟨a0, a1⟩ := blk_pair HA3.out
    have hz4 := Nat.le_trans hz3 b3.size
    clear b3
    go_wp2_with fail
    refine (CT.out _ (LfRd.below hb4 _ _ HR.out)).mono ?_
    rintro e w4 ⟨v4, f4, rfl, o4, b4⟩
    have hb5 := hb4.trans (b4.mono (by omega))
    have HA4 := Lib.hid ((b4.block w.heap.size (by omega)).trans HA3.out)
    have R4 := Lib.hid o4.rd
    have hz5 := Nat.le_trans hz4 b4.size
    obtain ⟨p4, q4, rfl, _⟩ := scps_at R4.out
    clear b4 o4 a0 a1
    have hbX : Below w4.heap.size w4 (w4.alloc (.cells #[.bool on, .slice p4 l.length q4] 26)) := (Below.refl _ _).alloc (Nat.le_refl _) _
    have HX5 := Lib.hid (show (w4.alloc (.cells #[.bool on, .slice p4 l.length q4] 26)).heap[w4.heap.size]? = some (.cells #[.bool on, .slice p4 l.length q4] 26 (0, 0)) from heap_alloc_new w4 _)
    have hzX : (w4.alloc (.cells #[.bool on, .slice p4 l.length q4] 26)).heap.size = w4.heap.size + 1 := by simp
    go_wp2_with fail
    generalize (w4.alloc (.cells #[.bool on, .slice p4 l.length q4] 26)) = X at *
    have hb6 := hb5.trans (hbX.mono (by omega))
    have HA5 := Lib.hid ((hbX.block w.heap.size (by omega)).trans HA4.out)
    have R5 := Lib.hid (LfRd.below hbX _ _ R4.out)
    refine (CI.out _ _ (hK _ _ hG hb6) R5.out).mono ?_
    rintro e w6 ⟨rfl, b6⟩
    have hb7 := hb6.trans (b6.mono (by omega))
    have HA6 := Lib.hid ((b6.block w.heap.size (by omega)).trans HA5.out)
    have HX6 := Lib.hid ((b6.block w4.heap.size (by omega)).trans HX5.out)
    have R6 := Lib.hid (LfRd.below b6 _ _ R5.out)
    have hz6 := Nat.le_trans (Nat.le_of_eq hzX.symm) b6.size
    have hne : (ok != ok) = false := by simp
    clear b6
    go_wp2
    refine ord_start [(0, true), (1, true), (2, false), (3, false), (4, true)] (fun W => W.heap[w.heap.size]? = some (.cells #[.bool on, .slice pn l.length cn] 42 (0, 0)) ∧ W.heap[w4.heap.size]? = some (.cells #[.bool on, .slice p4 l.length q4] 26 (0, 0))) (by kernel_rfl) (by kernel_rfl) rfl (by kernel_rfl) ?_
    intro ops' hops
    clear hops
    simp only [List.map_cons, List.map_nil, pickOp_zero, pickOp_succ]
    refine ord_flo (.agg #[.bool on, .slice p4 l.length q4]) (fun _ _ _ h => h) rfl ?_ ⟨HA6.out, HX6.out⟩ ?_
    · intro W hS
      obtain ⟨y0, y1⟩ := blk_pair hS.2
      clear hS
      go_simp
    refine ord_flo (.agg #[.bool on, .slice pn l.length cn]) (fun _ _ _ h => h) rfl ?_ ⟨HA6.out, HX6.out⟩ ?_
    · intro W hS
      obtain ⟨y0, y1⟩ := blk_pair hS.1
      clear hS
      go_simp
    refine ord_ev rfl ?_
    go_simp
    refine (CT.out _ (LfRd.below hb7.drew _ _ HR.out)).mono ?_
    rintro e w7 ⟨v7, f7, rfl, o7, b7⟩
    have HA7 := Lib.hid ((b7.block w.heap.size (by show _ < w6.heap.size; omega)).trans HA6.out)
    have HX7 := Lib.hid ((b7.block w4.heap.size (by show _ < w6.heap.size; omega)).trans HX6.out)
    have hb8 := hb7.drew.trans (b7.mono (by show w.heap.size ≤ w6.heap.size; omega))
    have CEE := Lib.hid (CE.out _ _ _ (LfRd.below (show Below w6.heap.size w6 _ from below_of_drew b7) _ _ R6.out) o7.rd)
    have hz7 : w6.heap.size ≤ w7.heap.size := b7.size
    refine ⟨⟨HA7.out, HX7.out⟩, ?_⟩
    clear b7 o7
    refine ord_ev rfl ?_
    go_simp
    refine (CEE.out).mono ?_
    rintro e w8 ⟨rfl, b8⟩
    have HA8 := Lib.hid ((b8.block w.heap.size (by omega)).trans HA7.out)
    have HX8 := Lib.hid ((b8.block w4.heap.size (by omega)).trans HX7.out)
    have hb9 := hb8.trans (b8.mono (by omega))
    refine ⟨⟨HA8.out, HX8.out⟩, ?_⟩
    clear b8
    iterate 1 (refine ord_flo ?_ (fun _ _ _ h => h) rfl ?_ ⟨HA8.out, HX8.out⟩ ?_; rotate_left; focus (intro W hS; obtain ⟨s1, s2⟩ := hS; go_simp; rfl))
    refine ord_done ?_
    go_simp
    go_wp2
    go_ret
    exact ⟨rfl, hb9⟩
  · rw [scR_no hok] at c1
    have C1 := Lib.hid c1
    clear c1 IS hx hi hr
    obtain ⟨on, l⟩ := f
    simp only at *
    obtain ⟨pn, cn, rfl⟩ := hsl
    go_enter Try.func7, Try.ntmps7
    go_wp2_with fail
    refine (C1.out _ (LfRd.below hb1 _ _ HR.out)).mono ?_
    rintro e w1 ⟨rfl, b1⟩
    have hb := hb1.trans (b1.mono (by omega))
    go_wp2
    go_ret
    exact ⟨rfl, hb⟩


end Go.Proofs.Ythihjelcakenpaa
