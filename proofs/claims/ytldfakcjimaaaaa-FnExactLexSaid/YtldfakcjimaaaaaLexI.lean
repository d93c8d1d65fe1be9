/-
  The exact laws of chapter 3, out of what the program's functions answer.
-/
import Derived.Test.YtldfakcjimaaaaaLexH
import Derived.Test.YtldfakcjimaaaaaLexG
namespace Go.Proofs.Ytldfakcjimaaaaa
open Go.RowKit


/-- What Lex hands back, in parts. -/
def LexPost2 (ts : List Tok) (ok : Bool) (w : World) (e : Ending) (w' : World) : Prop :=
  ∃ v, e = .returned (.tuple #[v, .bool ok]) ∧ w'.ownsRow w.heap.size 30 2 v ts.length (ts.flatMap tokc) ∧ Below w.heap.size w w'
theorem lexL_parts (l : List UInt8) (h : l.length ≤ 1048576) : ∃ (ts : List Tok) (ok : Bool), ts.length ≤ 1048576 ∧ ∀ w e w', LexPost (lexL l) w e w' = LexPost2 ts ok w e w' := by
  refine ⟨(lexL l).getD [], (lexL l).isSome, ?_, fun _ _ _ => rfl⟩
  cases hU : lexL l with
  | none => simp
  | some ts => have := lexL_len l ts hU; simp; omega
theorem own_kept_apart {w w1 : World} {B B2 n m : Nat} {e e2 : TypeId} {v v2 : Value} {xs ys : List Value} {top : Nat} (h : w.ownsRow B e 2 v n xs) (htop : ∀ k, v.ownBlock = some k → k < top) (h2 : w.ownsRow B2 e2 2 v2 m ys) (hB : top ≤ B2) (hg : w.grownBy w1 v2.ownBlock) : w1.ownsRow B e 2 v n xs :=
  h.kept hg (by
    by_cases hv1 : v.ownBlock = none
    · exact .inl hv1
    · right
      intro e
      obtain ⟨k, hk⟩ := Option.ne_none_iff_exists'.1 hv1
      have q1 := htop k hk
      have q2 := (h2.lt k (by rw [← e, hk])).1
      omega)

set_option maxHeartbeats 1600000 in
theorem FnExactLex_of (IX : ImplLex) (s : ByteArray) (w : World) (hM : Mx w) (_hs : s.size ≤ maxLen) :
    Calls Try.prog 3 #[.string s] w fun e w' => e = .returned (.bool true) ∧ Below w.heap.size w w' := by
  by_cases hbig : s.size ≤ 1048576
  · have c1 := fun W => specLex_any s W hbig
    have c2 := fun W hm => IX s W hm hbig
    obtain ⟨ts, ok, hlen, hP⟩ := lexL_parts s.data.toList (by simpa using hbig)
    simp only [hP] at c1 c2
    have C1 := Lib.hid c1
    have C2 := Lib.hid c2
    clear c1 c2 hP IX
    go_enter Try.func3, Try.ntmps3
    go_wp2_with fail
    refine (C1.out _).mono ?_
    rintro e w1 ⟨v1, rfl, o1, b1⟩
    go_wp2_with fail
    refine (C2.out _ (hM.below b1)).mono ?_
    rintro e w2 ⟨v2, rfl, o2, b2⟩
    have o1' := ownsRow_below o1 b2
    have h21 : ∀ k, v1.ownBlock = some k → k < w1.heap.size := fun k hk => (o1.lt k hk).2
    have E1 := Lib.hid (eqTokenS_same v2 v1 ts _ (Rd.of_own (fun _ => rfl) rfl o2) (Rd.of_own (fun _ => rfl) rfl o1') (by omega))
    have z1 := b1.size
    have z2 := b2.size
    clear o1
    go_wp2_with fail
    refine (E1.out).mono ?_
    rintro e w3 ⟨rfl, b3⟩
    have o2' := ownsRow_below o2 b3
    have o1'' := ownsRow_below o1' b3
    have z3 := b3.size
    clear o1' o2 E1
    go_wp2_with fail
    refine (markTokenS_any v2 ts.length _ 1 1 _ rfl _ o2' (by omega) (by omega)).mono ?_
    rintro e w4 ⟨rfl, o4, g4⟩
    have b4 : Below w1.heap.size w1 w4 := (b2.trans (b3.mono z2)).grown g4 (by omega) (fun k hk => (o2'.lt k hk).1)
    have o1w := own_kept_apart o1'' h21 o2' (Nat.le_refl _) g4
    have H1 := Lib.hid (heldTokenS_any v2 1 ts.length 1 rfl _ (Rd.of_own (fun _ => rfl) (tmarks_length _ _) o4) (by omega) (by omega))
    clear o1'' o2' g4
    go_wp2_with fail
    refine (H1.out).mono ?_
    rintro e w5 ⟨rfl, b5⟩
    have o4' := ownsRow_below o4 b5
    have o1x := ownsRow_below o1w b5
    clear o4 o1w H1
    go_wp2_with fail
    refine (C2.out _ (((hM.below b1).below b4).below b5)).mono ?_
    rintro e w6 ⟨v3, rfl, o3, b6⟩
    have o4'' := ownsRow_below o4' b6
    have o1y := ownsRow_below o1x b6
    have E2 := Lib.hid (eqTokenS_same v3 v1 ts _ (Rd.of_own (fun _ => rfl) rfl o3) (Rd.of_own (fun _ => rfl) rfl o1y) (by omega))
    clear o4' o1x o1y o3
    go_wp2_with fail
    refine (E2.out).mono ?_
    rintro e w7 ⟨rfl, b7⟩
    have o4z := ownsRow_below o4'' b7
    have H2 := Lib.hid (heldTokenS_any v2 1 ts.length 1 rfl _ (Rd.of_own (fun _ => rfl) (tmarks_length _ _) o4z) (by omega) (by omega))
    clear o4'' E2 o4z
    go_wp2_with fail
    refine (H2.out).mono ?_
    rintro e w8 ⟨rfl, b8⟩
    have z4 := b4.size
    have z5 := b5.size
    have z6 := b6.size
    have z7 := b7.size
    have hfin : Below w.heap.size w w8 := b1.trans ((b4.trans ((b5.mono (by omega)).trans ((b6.mono (by omega)).trans ((b7.mono (by omega)).trans (b8.mono (by omega)))))).mono z1)
    clear b1 b2 b3 b4 b5 b6 b7 b8 C1 C2 H2
    go_wp2
    go_ret
    exact ⟨rfl, hfin⟩
  · go_enter Try.func3, Try.ntmps3
    go_wp2
    go_ret
    exact ⟨rfl, Below.refl _ _⟩

end Go.Proofs.Ytldfakcjimaaaaa
