/-
  The exact laws of chapter 3, out of what the program's functions answer.
-/
import Derived.Test.YtldfakcjimaaaaaDoorLexH
import Derived.Test.YtldfakcjimaaaaaDoorLexG
namespace Go.Proofs.YtldfakcjimaaaaaDoor
open Go.RowKit

def ImplTokenText : Prop := ∀ (t : Tok) (W : World), t.text.length ≤ 1048576 → Calls Tryd.prog 18 #[tokv t] W fun e w' => e = .returned (sv (tokText t)) ∧ Below W.heap.size W w'


/-- What Lex hands back, in parts. -/
def LexPost2 (ts : List Tok) (ok : Bool) (w : World) (e : Ending) (w' : World) : Prop :=
  ∃ v, e = .returned (.tuple #[v, .bool ok]) ∧ w'.ownsRow w.heap.size 35 2 v ts.length (ts.flatMap tokc) ∧ Below w.heap.size w w'
theorem lexL_parts (l : List UInt8) (h : l.length ≤ 1048576) : ∃ (ts : List Tok) (ok : Bool), ts.length ≤ 1048576 ∧ ∀ w e w', LexPost (lexL l) w e w' = LexPost2 ts ok w e w' := by
  refine ⟨(lexL l).getD [], (lexL l).isSome, ?_, fun _ _ _ => rfl⟩
  cases hU : lexL l with
  | none => simp
  | some ts => have := lexL_len l ts hU; simp; omega
theorem own_kept_apart {w w1 : World} {B B2 n m : Nat} {e e2 : TypeId} {v v2 : Value} {xs ys : List Value} {top : Nat} (h : w.ownsRow B e 2 v n xs) (htop : ∀ k, v.ownBlock = some k → k < top) (h2 : w.ownsRow B2 e2 2 v2 m ys) (hB : top ≤ B2) (hg : w.grownBy w1 v2.ownBlock) : w1.ownsRow B e 2 v n xs :=
  h.kept hg (by
    by_cases hv1 : v.ownBlock = none
    · exact .inl hv1
    · right
      intro e
      obtain ⟨k, hk⟩ := Option.ne_none_iff_exists'.1 hv1
      have q1 := htop k hk
      have q2 := (h2.lt k (by rw [← e, hk])).1
      omega)

set_option maxHeartbeats 800000 in
theorem FnExactTokenText_of (IT : ImplTokenText) (t : Tok) (w : World) (ht : t.text.length ≤ 9223372036854775807) :
    Calls Tryd.prog 5 #[tokv t] w fun e w' => e = .returned (.bool true) ∧ Below w.heap.size w w' := by
  have hb0 : Below w.heap.size w (w.alloc (.cells #[.int .i64 t.kind, sv t.text] 32)) := (Below.refl _ _).alloc (Nat.le_refl _) _
  have c1 := fun W => szToken_any t 1048576 W ht (by omega)
  by_cases hbig : t.text.length ≤ 1048576
  · rw [tkR_yes hbig] at c1
    have C1 := Lib.hid c1
    have C2 := Lib.hid (fun W => toToken_any t W)
    have C3 := Lib.hid (fun W => specTokenText_any t W hbig)
    have C4 := Lib.hid (fun W => IT t W hbig)
    have hnn : ¬ ((1048576 - t.text.length : Nat) : Int) < 0 := by omega
    clear c1 IT
    go_enter Tryd.func5, Tryd.ntmps5
    go_wp2_with fail
    refine (C1.out _).mono ?_
    rintro e w1 ⟨rfl, b1⟩
    have hb1 := hb0.trans (b1.mono (by simp))
    have p0 : w1.cell? ⟨w.heap.size, 0, none⟩ = some (.int .i64 t.kind) := (b1.cell (p := ⟨w.heap.size, 0, none⟩) (by simp)).trans (by simp [go_sem])
    have p1 : w1.cell? ⟨w.heap.size, 1, none⟩ = some (sv t.text) := (b1.cell (p := ⟨w.heap.size, 1, none⟩) (by simp)).trans (by simp [go_sem])
    have hlt1 : w.heap.size < w1.heap.size := World.block_lt_of_cell? _ _ p0
    clear b1 hb0
    go_wp2_with fail
    refine (C2.out _).mono ?_
    rintro e w2 ⟨rfl, b2⟩
    have hb2 := hb1.trans (b2.mono hb1.size)
    have q0 := (b2.cell (p := ⟨w.heap.size, 0, none⟩) hlt1).trans p0
    have q1 := (b2.cell (p := ⟨w.heap.size, 1, none⟩) hlt1).trans p1
    have hlt2 : w.heap.size < w2.heap.size := World.block_lt_of_cell? _ _ q0
    clear b2 hb1 p0 p1
    go_wp2_with fail
    refine (C3.out _).mono ?_
    rintro e w3 ⟨rfl, b3⟩
    have hb3 := hb2.trans (b3.mono hb2.size)
    have r0 := (b3.cell (p := ⟨w.heap.size, 0, none⟩) hlt2).trans q0
    have r1 := (b3.cell (p := ⟨w.heap.size, 1, none⟩) hlt2).trans q1
    clear b3 hb2 q0 q1
    go_wp2_with fail
    refine (C2.out _).mono ?_
    rintro e w4 ⟨rfl, b4⟩
    have hb4 := hb3.trans (b4.mono hb3.size)
    clear b4 hb3 r0 r1
    go_wp2_with fail
    refine (C4.out _).mono ?_
    rintro e w5 ⟨rfl, b5⟩
    have hb5 := hb4.trans (b5.mono hb4.size)
    clear b5 hb4 C1 C2 C3 C4
    go_wp2
    go_ret
    exact ⟨rfl, hb5⟩
  · rw [tkR_no hbig] at c1
    have C1 := Lib.hid c1
    clear c1
    go_enter Tryd.func5, Tryd.ntmps5
    go_wp2_with fail
    refine (C1.out _).mono ?_
    rintro e w1 ⟨rfl, b1⟩
    have hb1 := hb0.trans (b1.mono (by simp))
    clear b1 hb0
    go_wp2
    go_ret
    exact ⟨rfl, hb1⟩

set_option maxHeartbeats 1600000 in
theorem FnExactLineOf_of (IL : ImplLineOf) (v : Value) (l : List Tok) (w : World) (hr : Rd 2 tokc w v l) (hl : l.length ≤ 9223372036854775807) (hx : ∀ t ∈ l, t.text.length ≤ 9223372036854775807) :
    Calls Tryd.prog 6 #[v] w fun e w' => e = .returned (.bool true) ∧ Below w.heap.size w w' := by
  have c1 := fun W (h : Rd 2 tokc W v l) => szTokenS_any v l 1048576 W h hl hx (by omega)
  have HR := Lib.hid hr
  clear hr
  by_cases hok : l.length + tkw l ≤ 1048576
  · rw [tkR_yes hok] at c1
    have C1 := Lib.hid c1
    have hsmall : ∀ t ∈ l, t.text.length ≤ 1048576 := fun t ht => by have := tkw_mem l t ht; omega
    have CT := Lib.hid (fun W (h : Rd 2 tokc W v l) => toTokenS_any v l W h (by omega))
    have CS := Lib.hid (fun u W (h : Rd 2 tokc W u l) => specLineOf_any u l W h (by omega) hsmall)
    have CI := Lib.hid (fun u W (h : Rd 2 tokc W u l) => IL u l W h (by omega) hsmall)
    have hnn : ¬ ((1048576 - (l.length + tkw l) : Nat) : Int) < 0 := by omega
    have hlen : l.length ≤ 1048576 := by omega
    clear c1 IL hsmall hx
    go_enter Tryd.func6, Tryd.ntmps6
    go_wp2_with fail
    refine (C1.out _ HR.out).mono ?_
    rintro e w1 ⟨rfl, b1⟩
    have r1 := Lib.hid (HR.out.below b1)
    go_wp2_with fail
    refine (CT.out _ r1.out).mono ?_
    rintro e w2 ⟨g2, rfl, o2, b2⟩
    have r2 := Lib.hid (r1.out.below b2)
    have S2 := Lib.hid (CS.out _ _ (Rd.of_own (fun _ => rfl) rfl o2))
    clear o2
    go_wp2_with fail
    refine (S2.out).mono ?_
    rintro e w3 ⟨rfl, b3⟩
    have r3 := Lib.hid (r2.out.below b3)
    have hb3 := b1.trans ((b2.trans (b3.mono b2.size)).mono b1.size)
    clear b1 b2 b3 r1 r2 S2 HR
    go_wp2_with fail
    refine (CT.out _ r3.out).mono ?_
    rintro e w4 ⟨g4, rfl, o4, b4⟩
    have r4 := Lib.hid (r3.out.below b4)
    have S4 := Lib.hid (CI.out _ _ (Rd.of_own (fun _ => rfl) rfl o4))
    have hb4 := hb3.trans (b4.mono hb3.size)
    clear b4 hb3 r3
    go_wp2_with fail
    refine (S4.out).mono ?_
    rintro e w5 ⟨rfl, b5⟩
    have o5 := ownsRow_below o4 b5
    have r5 := Lib.hid (r4.out.below b5)
    have hb5 := hb4.trans (b5.mono hb4.size)
    clear b5 hb4 r4 o4 S4
    go_wp2_with fail
    refine (CT.out _ r5.out).mono ?_
    rintro e w6 ⟨g6, rfl, o6, b6⟩
    have o5' := ownsRow_below o5 b6
    have E6 := Lib.hid (eqTokenS_same _ _ l _ (Rd.of_own (fun _ => rfl) rfl o5') (Rd.of_own (fun _ => rfl) rfl o6) (by omega))
    have hb6 := hb5.trans (b6.mono hb5.size)
    clear b6 hb5 r5 o5 o5' o6
    go_wp2_with fail
    refine (E6.out).mono ?_
    rintro e w7 ⟨rfl, b7⟩
    have hb7 := hb6.trans (b7.mono hb6.size)
    clear b7 hb6 E6 C1 CT CS CI
    go_wp2
    go_ret
    exact ⟨rfl, hb7⟩
  · rw [tkR_no hok] at c1
    have C1 := Lib.hid c1
    clear c1
    go_enter Tryd.func6, Tryd.ntmps6
    go_wp2_with fail
    refine (C1.out _ HR.out).mono ?_
    rintro e w1 ⟨rfl, b1⟩
    go_wp2
    go_ret
    exact ⟨rfl, b1⟩

end Go.Proofs.YtldfakcjimaaaaaDoor
