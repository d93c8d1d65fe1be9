/-
  The laws FnQuote and FnUnder.
-/
import Derived.Test.YteoalgjmcienjaaWordH
namespace Go.Proofs.Yteoalgjmcienjaa
open Go.RowKit

def TailPost (code : List UInt8) (w : World) (e : Ending) (w' : World) : Prop := ∃ v, e = .returned v ∧ Rd1 bv w v code.tail ∧ w = w'

theorem tail_any (v : Value) (code : List UInt8) (w : World) (hr : Rd1 bv w v code) (hcap : ∀ p n c, v = .slice p n c → n ≤ c) :
    Calls Try.prog 19 #[v] w fun e w' => TailPost code w e w' := by
  obtain ⟨p, c, rfl, hp⟩ := hr.ex
  have hc := hcap p _ c rfl
  have HR := Lib.hid hr
  clear hr hcap
  cases code with
  | nil =>
    clear hp
    go_enter Try.func19, Try.ntmps19
    go_wp2
    go_ret
    exact ⟨_, rfl, HR.out, rfl⟩
  | cons x r =>
    obtain ⟨b, off, rfl, hb, hcell⟩ := hp.resolve_left (by simp)
    have HC := Lib.hid hcell
    clear hp hcell
    simp only [List.length_cons] at hc
    by_cases hcc : c = 1
    · subst hcc
      obtain rfl : r = [] := List.eq_nil_of_length_eq_zero (by omega)
      go_enter Try.func19, Try.ntmps19
      go_wp2
      go_ret
      exact ⟨_, rfl, ⟨_, _, rfl, .inl rfl⟩, rfl⟩
    · have hlen : (x :: r).length = r.length + 1 := rfl
      have hne : ¬ (1 : Int) = (c : Int) := by omega
      have hne2 : ¬ c = 1 := hcc
      have hpos : ((r.length + 1 : Nat) : Int) ≠ 0 := by omega
      clear hcc
      go_enter Try.func19, Try.ntmps19
      go_wp2
      go_ret
      refine ⟨_, rfl, ⟨some ⟨b, off + 1, none⟩, c - 1, ?_, .inr ⟨b, off + 1, rfl, hb, fun i y hy => ?_⟩⟩, rfl⟩
      · simp
      · have := HC.out (i + 1) y (by simpa using hy)
        rw [show off + 1 + i = off + (i + 1) by omega]
        exact this

theorem quoteL_nil_iff (s : List UInt8) : (quoteL s = []) ∨ ¬ (quoteL s = []) := Classical.em _
theorem abc_list (q : List UInt8) : (((⟨#[97, 98]⟩ : ByteArray) ++ ⟨q.toArray⟩) ++ ⟨#[99]⟩).data.toList = [97, 98] ++ (q ++ [99]) := by simp
theorem abc_none : uqO ([97, 98] ++ ([] ++ [99])) 2 = none := by rfl

set_option maxHeartbeats 1600000 in
theorem FnQuote_any (v : Value) (code : List UInt8) (w : World) (hr : Rd1 bv w v code) :
    Calls Try.prog 3 #[v] w fun e w' => e = .returned (.bool true) ∧ Below w.heap.size w w' := by
  have HR := Lib.hid hr
  have HB := Lib.hid (big_any v code w hr)
  clear hr
  by_cases hbig : code.length ≤ 1048576
  · have hq : ¬ (1048576 : Int) < (code.length : Int) := by omega
    go_enter Try.func3, Try.ntmps3
    go_wp2_with fail
    refine (HB.out).mono ?_
    rintro e w' ⟨rfl, rfl⟩
    go_wp2_with fail
    refine (DrawQuote_any v code _ HR.out hbig).mono ?_
    rintro e w1 ⟨s, rfl, hs, b1⟩
    have hsz : (ByteArray.mk s.toArray).size ≤ maxLen := by show s.toArray.size ≤ _; unfold maxLen; simp; omega
    have C1 := Lib.hid (fun W => implQuote_any ⟨s.toArray⟩ W hsz)
    have C2 := Lib.hid (fun W => specQuote_any ⟨s.toArray⟩ W hsz)
    rw [show (ByteArray.mk s.toArray).data.toList = s from rfl] at C1 C2
    have hql := quoteL_le s
    have hqz : (ByteArray.mk (quoteL s).toArray).size = (quoteL s).length := by show (quoteL s).toArray.size = _; simp
    have c3 := fun W => implUnquote_any (((⟨#[97, 98]⟩ : ByteArray) ++ ⟨(quoteL s).toArray⟩) ++ ⟨#[99]⟩) 2 W (by rw [← str_len, abc_list]; simp; omega)
    rw [abc_list] at c3
    -- what the first Unquote hands back
    have hfirst : ∃ (x : List UInt8) (n : Int), uqV (uqO ([97, 98] ++ (quoteL s ++ [99])) 2) = .tuple #[sv x, .int .i64 n] ∧ (quoteL s = [] ∧ n = -1 ∨ ¬ quoteL s = [] ∧ x = s ∧ n = 2 + ((quoteL s).length : Int)) := by
      rcases quoteL_nil_iff s with h | h
      · refine ⟨[], -1, ?_, .inl ⟨h, rfl⟩⟩
        rw [h, abc_none]; rfl
      · refine ⟨s, 2 + ((quoteL s).length : Int), ?_, .inr ⟨h, rfl, rfl⟩⟩
        have := uqO_quote s h [97, 98] [99]
        rw [show ((([97, 98] : List UInt8).length : Nat) : Int) = 2 from rfl] at this
        rw [this, uqV_some]
        simp only [List.length_cons, List.length_nil]
        congr 3
    obtain ⟨x, n, hx, hxn⟩ := hfirst
    rw [hx] at c3
    have C3 := Lib.hid c3
    clear c3 hx hsz
    generalize quoteL s = q at *
    go_wp2_with fail
    refine (C1.out _).mono ?_
    rintro e w2 ⟨rfl, b2⟩
    go_wp2_with fail
    refine (C2.out _).mono ?_
    rintro e w3 ⟨rfl, b3⟩
    have hb3 := b1.trans ((b2.trans (b3.mono b2.size)).mono b1.size)
    clear b1 b2 b3 C1 C2
    go_wp2_with fail
    refine (C3.out _).mono ?_
    rintro e w4 ⟨rfl, b4⟩
    have hb4 := hb3.trans (b4.mono hb3.size)
    have HR4 := Lib.hid (HR.out.below hb4)
    clear b4 hb3 C3 HR
    go_wp2_with fail
    refine (DrawUnquote_any v code _ HR4.out hbig).mono ?_
    rintro e w5 ⟨t, a, rfl, ht, b5⟩
    have hb5 := hb4.trans (b5.mono hb4.size)
    clear b5 hb4 HR4
    have hszt : (ByteArray.mk t.toArray).size ≤ 1048576 := by show t.toArray.size ≤ _; simpa using ht
    have htz : (ByteArray.mk t.toArray).size = t.length := by show t.toArray.size = _; simp
    have c4 := fun W => implUnquote_any ⟨t.toArray⟩ a W hszt
    have c5 := fun W => specUnquote_any ⟨t.toArray⟩ a W hszt
    rw [show (ByteArray.mk t.toArray).data.toList = t from rfl] at c4 c5
    have HX := Lib.hid hxn
    clear hxn
    cases hu : uqO t a with
    | none =>
      rw [hu, uqV_none] at c4 c5
      have C4 := Lib.hid c4
      have C5 := Lib.hid c5
      clear c4 c5 hu
      go_wp2_with fail
      refine (C4.out _).mono ?_
      rintro e w6 ⟨rfl, b6⟩
      go_wp2_with fail
      refine (C5.out _).mono ?_
      rintro e w7 ⟨rfl, b7⟩
      have hb7 := hb5.trans ((b6.trans (b7.mono b6.size)).mono hb5.size)
      clear hb5 b6 b7 C4 C5
      go_wp2
      refine ord_start [(0, true), (1, true), (2, true), (3, true), (4, true), (5, true), (6, true), (7, true), (8, true), (9, true), (10, true), (11, true), (12, false), (13, true), (14, true), (15, true)] (fun _ => True) (by kernel_rfl) (by kernel_rfl) rfl (by kernel_rfl) ?_
      intro ops' hops
      simp only [List.map_cons, List.map_nil, pickOp_zero, pickOp_succ]
      iterate 4 (refine ord_flo ?_ (fun _ _ _ h => h) rfl ?_ trivial ?_; rotate_left; focus (intro _ _; go_simp; rfl))
      iterate 3 (refine ord_flo ?_ (fun _ _ _ h => h) (by rw [hops.out]; kernel_rfl) ?_ trivial ?_; rotate_left; focus (intro _ _; go_simp; rfl))
      iterate 5 (refine ord_not (fun _ _ _ h => h) (by rw [hops.out]; kernel_rfl) trivial ?_)
      refine ord_evnot trivial (by rw [hops.out]; kernel_rfl) ?_
      iterate 1 (refine ord_not (fun _ _ _ h => h) (by rw [hops.out]; kernel_rfl) trivial ?_)
      iterate 2 (refine ord_flo ?_ (fun _ _ _ h => h) (by rw [hops.out]; kernel_rfl) ?_ trivial ?_; rotate_left; focus (intro _ _; go_simp; rfl))
      refine ord_done ?_
      go_simp
      rcases HX.out with ⟨hq0, hn⟩ | ⟨hq0, hxs, hn⟩
      · subst hq0
        subst hn
        go_wp2
        go_ret
        exact ⟨rfl, hb7.drew⟩
      · subst hxs
        subst hn
        go_wp2
        go_ret
        exact ⟨rfl, hb7.drew⟩
    | some r =>
      obtain ⟨y, e2⟩ := r
      obtain ⟨ha0, ha1, he1, hyl, hslice⟩ := uqO_back t a y e2 hu
      rw [hu, uqV_some] at c4 c5
      have C4 := Lib.hid c4
      have C5 := Lib.hid c5
      clear c4 c5 hu
      obtain ⟨i, rfl⟩ := Int.eq_ofNat_of_zero_le ha0
      rw [Int.toNat_natCast] at hslice
      have hyz : (ByteArray.mk y.toArray).size ≤ maxLen := by show y.toArray.size ≤ _; unfold maxLen; simp; omega
      have C6 := Lib.hid (fun W => implQuote_any ⟨y.toArray⟩ W hyz)
      rw [show (ByteArray.mk y.toArray).data.toList = y from rfl, ← hslice] at C6
      have HS := Lib.hid hslice
      clear hslice
      go_wp2_with fail
      refine (C4.out _).mono ?_
      rintro e w6 ⟨rfl, b6⟩
      go_wp2_with fail
      refine (C5.out _).mono ?_
      rintro e w7 ⟨rfl, b7⟩
      have hb7 := hb5.trans ((b6.trans (b7.mono b6.size)).mono hb5.size)
      clear hb5 b6 b7 C4 C5
      go_wp2
      have hie : ¬ (e2 : Int) < 0 := by omega
      refine ord_start [(0, true), (1, true), (2, true), (3, true), (4, true), (5, true), (6, true), (7, true), (8, true), (9, true), (10, true), (11, true), (12, false), (13, true), (14, true), (15, true)] (fun _ => True) (by kernel_rfl) (by kernel_rfl) rfl (by kernel_rfl) ?_
      intro ops' hops
      simp only [List.map_cons, List.map_nil, pickOp_zero, pickOp_succ]
      iterate 4 (refine ord_flo ?_ (fun _ _ _ h => h) rfl ?_ trivial ?_; rotate_left; focus (intro _ _; go_simp; rfl))
      iterate 6 (refine ord_flo ?_ (fun _ _ _ h => h) (by rw [hops.out]; kernel_rfl) ?_ trivial ?_; rotate_left; focus (intro _ _; go_simp; rfl))
      have hext := Lib.extract_eq (ByteArray.mk t.toArray) i e2
      rw [show (ByteArray.mk t.toArray).data.toList = t from rfl] at hext
      refine ord_flo (sv (List.take (e2 - i) (List.drop i t))) (fun _ _ _ h => h) (by rw [hops.out]; kernel_rfl) ?_ trivial ?_
      · intro _ _
        go_simp
        done
      clear hext
      iterate 1 (refine ord_flo ?_ (fun _ _ _ h => h) (by rw [hops.out]; kernel_rfl) ?_ trivial ?_; rotate_left; focus (intro _ _; go_simp; rfl))
      refine ord_ev (by rw [hops.out]; kernel_rfl) ?_
      go_simp
      refine (C6.out _).mono ?_
      rintro e w8 ⟨rfl, b8⟩
      have hb8 := hb7.drew.trans (b8.mono hb7.drew.size)
      iterate 3 (refine ord_flo ?_ (fun _ _ _ h => h) (by rw [hops.out]; kernel_rfl) ?_ trivial ?_; rotate_left; focus (intro _ _; go_simp; rfl))
      refine ord_done ?_
      go_simp
      rcases HX.out with ⟨hq0, hn⟩ | ⟨hq0, hxs, hn⟩
      · subst hq0
        subst hn
        go_wp2
        go_ret
        exact ⟨rfl, hb8⟩
      · subst hxs
        subst hn
        go_wp2
        go_ret
        exact ⟨rfl, hb8⟩
  · have hq : (1048576 : Int) < (code.length : Int) := by omega
    go_enter Try.func3, Try.ntmps3
    go_wp2_with fail
    refine (HB.out).mono ?_
    rintro e w' ⟨rfl, rfl⟩
    go_wp2
    go_ret
    exact ⟨rfl, Below.refl _ _⟩

end Go.Proofs.Yteoalgjmcienjaa
