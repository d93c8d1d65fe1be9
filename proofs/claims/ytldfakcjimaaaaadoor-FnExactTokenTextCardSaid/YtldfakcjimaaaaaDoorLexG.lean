/-
  The laws FnLex and FnLexBack, out of what the program's LineOf and Lex answer.
-/
import Derived.Test.YtldfakcjimaaaaaDoorLexF
import Derived.Test.YtldfakcjimaaaaaDoorMx
namespace Go.Proofs.YtldfakcjimaaaaaDoor
open Go.RowKit

def ImplLineOf : Prop := ∀ (v : Value) (l : List Tok) (W : World), Rd 2 tokc W v l → l.length ≤ 1048576 → (∀ t ∈ l, t.text.length ≤ 1048576) →
  Calls Tryd.prog 9 #[v] W fun e w' => e = .returned (sv (lineL l)) ∧ Below W.heap.size W w'

def ImplLex : Prop := ∀ (s : ByteArray) (W : World), Mx W → s.size ≤ 1048576 → Calls Tryd.prog 11 #[.string s] W fun e w' => LexPost (lexL s.data.toList) W e w'


theorem lexL_nil : lexL [] = some [] := rfl
theorem lineL_cases (l : List Tok) : lineL l = [] ∨ ¬ lineL l = [] ∧ lexL (lineL l) = some l := by
  by_cases h : lineL l = []
  · exact .inl h
  · refine .inr ⟨h, lexL_lineL l ?_⟩
    unfold lineL at h
    cases hok : okLine l with
    | true => rfl
    | false => rw [hok] at h; exact absurd rfl h

theorem LexPost.ok {ts : List Tok} {w w' : World} {e : Ending} (h : LexPost (some ts) w e w') : ∃ v, e = .returned (.tuple #[v, .bool true]) ∧ w'.ownsRow w.heap.size 35 2 v ts.length (ts.flatMap tokc) ∧ Below w.heap.size w w' := h
theorem LexPost.no {w w' : World} {e : Ending} (h : LexPost none w e w') : ∃ v, e = .returned (.tuple #[v, .bool false]) ∧ w'.ownsRow w.heap.size 35 2 v 0 ([] : List Value) ∧ Below w.heap.size w w' := h

set_option maxHeartbeats 1600000 in
theorem FnLex_of (IL : ImplLineOf) (IX : ImplLex) (v : Value) (code : List UInt8) (w : World) (hM : Mx w) (hr : Rd1 bv w v code) :
    Calls Tryd.prog 3 #[v] w fun e w' => e = .returned (.bool true) ∧ Below w.heap.size w w' := by
  have HR := Lib.hid hr
  have HB := Lib.hid (big_any v code w hr)
  have HIL := Lib.hid IL
  have HIX := Lib.hid IX
  clear hr IL IX
  by_cases hbig : code.length ≤ 1048576
  · have hq : ¬ (1048576 : Int) < (code.length : Int) := by omega
    go_enter Tryd.func3, Tryd.ntmps3
    go_wp2_with fail
    refine (HB.out).mono ?_
    rintro e w' ⟨rfl, rfl⟩
    go_wp2_with fail
    refine (DrawLineOf_any v code _ HR.out hbig).mono ?_
    rintro e w1 ⟨v1, n, l, rfl, hn, hn7, htl, ho1, b1⟩
    have hrd := Rd.of_own (enc := tokc) (fun _ => rfl) hn.symm ho1
    have hls := line_le l 7 (by omega)
    have hlz : (ByteArray.mk (lineL l).toArray).size ≤ 1048576 := by show (lineL l).toArray.size ≤ _; simp; omega
    have hsmall : ∀ t ∈ l, t.text.length ≤ 1048576 := fun t ht => by have := htl t ht; omega
    have C1 := Lib.hid (HIL.out v1 l w1 hrd (by omega) hsmall)
    have C2 := Lib.hid (fun W (h : Rd 2 tokc W v1 l) => specLineOf_any v1 l W h (by omega) hsmall)
    have c3 := fun W hm => HIX.out ⟨(lineL l).toArray⟩ W hm hlz
    rw [show (ByteArray.mk (lineL l).toArray).data.toList = lineL l from rfl] at c3
    have hcs := lineL_cases l
    have HRD := Lib.hid hrd
    have HN := Lib.hid hn
    have hlen : l.length ≤ 7 := by omega
    clear htl hsmall hlz hrd ho1 hn HIL HIX
    go_wp2_with fail
    refine (C1.out).mono ?_
    rintro e w2 ⟨rfl, b2⟩
    have HRD2 := Lib.hid (HRD.out.below b2)
    go_wp2_with fail
    refine (C2.out _ HRD2.out).mono ?_
    rintro e w3 ⟨rfl, b3⟩
    have hb3 := b1.trans ((b2.trans (b3.mono b2.size)).mono b1.size)
    have HRD3 := Lib.hid (HRD2.out.below b3)
    clear b1 b2 b3 C1 C2 HRD HRD2
    rcases hcs with hnil | ⟨hnil, hlex⟩
    · rw [hnil, lexL_nil] at c3
      have C3 := Lib.hid c3
      clear c3
      rw [hnil]
      clear hnil hls
      go_wp2_with fail
      refine (C3.out _ (hM.below hb3)).mono ?_
      rintro e w4 hpost
      obtain ⟨v4, rfl, ho4, b4⟩ := LexPost.ok hpost
      obtain ⟨p4, c4, rfl⟩ := own_slice ho4
      have hb4 := hb3.trans (b4.mono hb3.size)
      clear hpost ho4 b4 hb3 C3
      go_wp2
      go_ret
      exact ⟨rfl, hb4⟩
    · rw [hlex] at c3
      have C3 := Lib.hid c3
      have hqe : (lineL l).isEmpty = false := by cases hh : lineL l with | nil => exact absurd hh hnil | cons a r => rfl
      clear c3 hnil hlex
      generalize lineL l = q at *
      go_wp2_with fail
      refine (C3.out _ (hM.below hb3)).mono ?_
      rintro e w4 hpost
      obtain ⟨v4, rfl, ho4, b4⟩ := LexPost.ok hpost
      have hrd4 := Rd.of_own (enc := tokc) (fun _ => rfl) rfl ho4
      have hrd5 := HRD3.out.below b4
      have C4 := Lib.hid (sameTokens_same v4 v1 l w4 hrd4 hrd5 (by omega))
      have hb4 := hb3.trans (b4.mono hb3.size)
      clear hpost ho4 b4 hb3 C3 hrd4 hrd5
      go_wp2_with fail
      refine (C4.out).mono ?_
      rintro e w5 ⟨rfl, b5⟩
      have hb5 := hb4.trans (b5.mono hb4.size)
      clear hb4 b5 C4
      go_wp2
      go_ret
      exact ⟨rfl, hb5⟩
  · have hq : (1048576 : Int) < (code.length : Int) := by omega
    go_enter Tryd.func3, Tryd.ntmps3
    go_wp2_with fail
    refine (HB.out).mono ?_
    rintro e w' ⟨rfl, rfl⟩
    go_wp2
    go_ret
    exact ⟨rfl, Below.refl _ _⟩

set_option maxHeartbeats 1600000 in
theorem FnLexBack_of (IL : ImplLineOf) (IX : ImplLex) (v : Value) (code : List UInt8) (w : World) (hM : Mx w) (hr : Rd1 bv w v code) :
    Calls Tryd.prog 4 #[v] w fun e w' => e = .returned (.bool true) ∧ Below w.heap.size w w' := by
  have HR := Lib.hid hr
  have HB := Lib.hid (big_any v code w hr)
  have HIL := Lib.hid IL
  have HIX := Lib.hid IX
  clear hr IL IX
  by_cases hbig : code.length ≤ 1048576
  · have hq : ¬ (1048576 : Int) < (code.length : Int) := by omega
    go_enter Tryd.func4, Tryd.ntmps4
    go_wp2_with fail
    refine (HB.out).mono ?_
    rintro e w' ⟨rfl, rfl⟩
    go_wp2_with fail
    refine (DrawLex_any v code _ HR.out hbig).mono ?_
    rintro e w1 ⟨s, rfl, hs, b1⟩
    have hsz : (ByteArray.mk s.toArray).size ≤ 1048576 := by show s.toArray.size ≤ _; simp; omega
    have c1 := fun W hm => HIX.out ⟨s.toArray⟩ W hm hsz
    have c2 := fun W => specLex_any ⟨s.toArray⟩ W hsz
    rw [show (ByteArray.mk s.toArray).data.toList = s from rfl] at c1 c2
    cases hU : lexL s with
    | none =>
      rw [hU] at c1 c2
      have C1 := Lib.hid c1
      have C2 := Lib.hid c2
      clear c1 c2 hU
      go_wp2_with fail
      refine (C1.out _ (hM.below b1)).mono ?_
      rintro e w2 hpost
      obtain ⟨v2, rfl, ho2, b2⟩ := LexPost.no hpost
      obtain ⟨p2, k2, rfl⟩ := own_slice ho2
      clear hpost ho2
      go_wp2_with fail
      refine (C2.out _).mono ?_
      rintro e w3 hpost
      obtain ⟨v3, rfl, ho3, b3⟩ := LexPost.no hpost
      have hb3 := b1.trans ((b2.trans (b3.mono b2.size)).mono b1.size)
      clear hpost ho3 b1 b2 b3 C1 C2
      go_wp2
      go_ret
      exact ⟨rfl, hb3⟩
    | some ts =>
      rw [hU] at c1 c2
      have C1 := Lib.hid c1
      have C2 := Lib.hid c2
      obtain ⟨_, htl, hlen⟩ := lexS_ok _ _ _ _ hU
      have hback := lexL_back s ts hU
      have hls := line_le ts 4000 (by omega)
      have hlz : (ByteArray.mk (lineL ts).toArray).size ≤ 1048576 := by show (lineL ts).toArray.size ≤ _; simp; omega
      have c4 := fun W hm => HIX.out ⟨(lineL ts).toArray⟩ W hm hlz
      rw [show (ByteArray.mk (lineL ts).toArray).data.toList = lineL ts from rfl, hback] at c4
      have C4 := Lib.hid c4
      have hsmall : ∀ t ∈ ts, t.text.length ≤ 1048576 := fun t ht => by have := htl t ht; omega
      have C3 := Lib.hid (fun v W (h : Rd 2 tokc W v ts) => HIL.out v ts W h (by omega) hsmall)
      have hlen2 : ts.length ≤ 4000 := by omega
      clear c1 c2 c4 hU hback htl hsmall hlen HIL HIX hlz
      generalize lineL ts = q at *
      go_wp2_with fail
      refine (C1.out _ (hM.below b1)).mono ?_
      rintro e w2 hpost
      obtain ⟨v2, rfl, ho2, b2⟩ := LexPost.ok hpost
      have hrd2 := Lib.hid (Rd.of_own (enc := tokc) (fun _ => rfl) rfl ho2)
      clear hpost ho2
      go_wp2_with fail
      refine (C2.out _).mono ?_
      rintro e w3 hpost
      obtain ⟨v3, rfl, ho3, b3⟩ := LexPost.ok hpost
      have hb3 := b1.trans ((b2.trans (b3.mono b2.size)).mono b1.size)
      have hrd3 := Lib.hid (hrd2.out.below b3)
      clear hpost ho3 b1 b2 b3 C1 C2 hrd2
      go_wp2_with fail
      refine (C3.out v2 _ hrd3.out).mono ?_
      rintro e w4 ⟨rfl, b4⟩
      have hb4 := hb3.trans (b4.mono hb3.size)
      have hrd4 := Lib.hid (hrd3.out.below b4)
      clear hb3 b4 hrd3 C3
      go_wp2_with fail
      refine (C4.out _ (hM.below hb4)).mono ?_
      rintro e w5 hpost
      obtain ⟨v5, rfl, ho5, b5⟩ := LexPost.ok hpost
      have hb5 := hb4.trans (b5.mono hb4.size)
      have C5 := Lib.hid (sameTokens_same v5 v2 ts w5 (Rd.of_own (enc := tokc) (fun _ => rfl) rfl ho5) (hrd4.out.below b5) (by omega))
      clear hpost ho5 hb4 b5 hrd4 C4
      go_wp2_with fail
      refine (C5.out).mono ?_
      rintro e w6 ⟨rfl, b6⟩
      have hb6 := hb5.trans (b6.mono hb5.size)
      clear hb5 b6 C5
      go_wp2
      go_ret
      exact ⟨rfl, hb6⟩
  · have hq : (1048576 : Int) < (code.length : Int) := by omega
    go_enter Tryd.func4, Tryd.ntmps4
    go_wp2_with fail
    refine (HB.out).mono ?_
    rintro e w' ⟨rfl, rfl⟩
    go_wp2
    go_ret
    exact ⟨rfl, Below.refl _ _⟩

end Go.Proofs.YtldfakcjimaaaaaDoor
