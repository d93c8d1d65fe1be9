/-
  Chapter 4's draws.
-/
import Derived.Test.YtkajjkjimpdbbaaDoorSetC
import Derived.Test.YtkajjkjimpdbbaaDoorDrawW
import Derived.Handy
namespace Go.Proofs.YtkajjkjimpdbbaaDoor
open Go.RowKit

theorem Tryd.el_spn : Elem Tryd.prog 24 37 2 16 := Elem.mk' (z := .agg #[.int .i64 0, .int .i64 0]) Tryd.underlying24 (by kernel_rfl) rfl (by omega)

def rgS (s : Spn) : Prop := in64 s.low ∧ in64 s.high
theorem rgS_small {a b : Int} (h1 : 0 ≤ a) (h2 : a ≤ 1000) (h3 : 0 ≤ b) (h4 : b ≤ 1000) : rgS ⟨a, b⟩ := ⟨⟨by show -9223372036854775808 ≤ a; omega, by show a ≤ 9223372036854775807; omega⟩, by show -9223372036854775808 ≤ b; omega, by show b ≤ 9223372036854775807; omega⟩
theorem rgS_snoc {l : List Spn} {s : Spn} (h : ∀ t ∈ l, rgS t) (hs : rgS s) : ∀ t ∈ l ++ [s], rgS t := by
  intro t ht
  rcases List.mem_append.1 ht with ht | ht
  · exact h t ht
  · rw [List.mem_singleton.1 ht]; exact hs
/-- A row that the draws made. -/
def SpansPost (m : Nat) (g : Nat) (code : List UInt8) (w : World) (e : Ending) (w' : World) : Prop := ∃ (v : Value) (n : Nat) (l : List Spn), e = .returned v ∧ n = l.length ∧ n ≤ m ∧ (∀ t ∈ l, rgS t) ∧ w'.ownsRow w.heap.size 37 2 v n (l.flatMap spnc) ∧ Cur w' g code ∧ w.grownBy w' (some g)
theorem grown_put {w w1 : World} {row : Option Nat} {b : Nat} (h : w.grownBy w1 row) (hb : w.heap.size ≤ b) (j : Nat) (v : Value) : w.grownBy (w1.setCell ⟨b, j, none⟩ v) row :=
  grown_young h (⟨rfl, rfl, rfl, by simp, fun k _ hne => Below.heap_setCell w1 _ v k (by intro e; subst e; exact hne rfl)⟩ : w1.grownBy (w1.setCell ⟨b, j, none⟩ v) (some b)) (fun k hk => by injection hk with hk; omega)
theorem Cur.put {w : World} {g b : Nat} {code : List UInt8} (h : Cur w g code) (hb : g < b) (j : Nat) (v : Value) : Cur (w.setCell ⟨b, j, none⟩ v) g code :=
  h.grown (⟨rfl, rfl, rfl, by simp, fun k _ hne => Below.heap_setCell w _ v k (by intro e; subst e; exact hne rfl)⟩ : w.grownBy (w.setCell ⟨b, j, none⟩ v) (some b)) (fun k hk => by injection hk with hk; omega)
/-- A row above the cursor stands behind a draw. -/
theorem own_draw {w w1 : World} {B g n s : Nat} {e : TypeId} {v : Value} {xs : List Value} (h : w.ownsRow B e s v n xs) (hB : g < B) (hg : w.grownBy w1 (some g)) : w1.ownsRow B e s v n xs :=
  h.kept hg (by
    by_cases hv1 : v.ownBlock = none
    · exact .inl hv1
    · right
      intro e
      have := (h.lt g e).1
      omega)
theorem own_put {w : World} {B n s b j : Nat} {e : TypeId} {v x : Value} {xs : List Value} (h : w.ownsRow B e s v n xs) (hb : ∀ k, v.ownBlock = some k → k < b) : (w.setCell ⟨b, j, none⟩ x).ownsRow B e s v n xs :=
  h.kept (⟨rfl, rfl, rfl, by simp, fun k _ hne => Below.heap_setCell w _ x k (by intro e; subst e; exact hne rfl)⟩ : w.grownBy (w.setCell ⟨b, j, none⟩ x) (some b)) (by
    by_cases hv1 : v.ownBlock = none
    · exact .inl hv1
    · right
      intro e
      have := hb b e
      omega)

set_option maxHeartbeats 1600000 in
theorem l4Set_any (g : Nat) (code : List UInt8) (w : World) (hc : Cur w g code) :
    Calls Tryd.prog 25 #[.pointer (some ⟨g, 0, none⟩)] w fun e w' => SpansPost 3 g code w e w' := by
  have hlt := hc.lt
  have hc0 : Cur (w.alloc (.cells #[] 37)) g code := hc.below ((Below.refl _ _).alloc (Nat.le_refl _) _)
  have hg0 : w.grownBy (w.alloc (.cells #[] 37)) (some g) := World.grownBy_alloc w _ (some g)
  have ho0 : (w.alloc (.cells #[] 37)).ownsRow w.heap.size 37 2 (.slice (some ⟨w.heap.size, 0, none⟩) 0 0) 0 [] := World.ownsRow_made w #[] 0 (Nat.le_refl _) (by unfold maxLen; omega) (by simp)
  have HC := Lib.hid hc0
  clear hc hc0
  go_enter Tryd.func25, Tryd.ntmps25
  go_wp2_with fail
  refine (l1Below_any g code _ 3 (by omega) _ HC.out (by omega) (by omega)).mono ?_
  rintro e w1 ⟨x, rfl, hx, hc1, hg1⟩
  have ho1 := own_draw ho0 hlt hg1
  have hgg := grown_trans hg0 hg1
  clear HC hg0 ho0 hg1
  go_wp2
  go_loopw [3, 5] (fun v i wr => ∃ (k n : Nat) (l : List Spn), k ≤ x + 1 ∧ i = .int .i64 k ∧ n = k ∧ n = l.length ∧ (∀ t ∈ l, rgS t) ∧ wr.ownsRow w.heap.size 37 2 v n (l.flatMap spnc) ∧ Cur wr g code ∧ w.grownBy wr (some g)) (fun _ i _ => x + 1 - (intOf i).toNat)
  case atStart => exact ⟨0, 0, [], by omega, rfl, rfl, rfl, by simp, ho1, hc1, hgg⟩
  case round =>
    obtain ⟨k, n, l, hk, rfl, hnk, hn, htl, hown, hcr, hgr⟩ := hrel
    have HN := Lib.hid hn
    have HT := Lib.hid htl
    have hnle : n ≤ k := by omega
    have HK := Lib.hid hnk
    clear hn htl ho1 hc1 hgg hnk
    by_cases hlt2 : k < x + 1
    · have hlt3 : (k : Int) < 1 + (x : Int) := by omega
      go_wp2_with fail
      refine (l1Below_any g code _ 6 (by omega) _ hcr (by omega) (by omega)).mono ?_
      rintro e w2 ⟨y1, rfl, hy1, hc2, hg2⟩
      have ho2 := own_draw hown hlt hg2
      have hgr2 := grown_trans hgr hg2
      clear hown hcr hgr hg2
      go_wp2_with fail
      refine (l1Below_any g code _ 8 (by omega) _ hc2 (by omega) (by omega)).mono ?_
      rintro e w3 ⟨y2, rfl, hy2, hc3, hg3⟩
      have ho3 := own_draw ho2 hlt hg3
      have hgr3 := grown_trans hgr2 hg3
      have hlt4 := hc3.lt
      have hz3 := hgr3.size
      have htop3 := fun k hk => (ho3.lt k hk).2
      clear ho2 hc2 hgr2 hg3
      have hcA : Cur (w3.alloc (.cells #[.int .i64 (y1 : Int), .int .i64 (y2 : Int)] 37)) g code := hc3.below ((Below.refl _ _).alloc (Nat.le_refl _) _)
      have hgA : w.grownBy (w3.alloc (.cells #[.int .i64 (y1 : Int), .int .i64 (y2 : Int)] 37)) (some g) := grown_trans hgr3 (World.grownBy_alloc w3 _ (some g))
      have hoA : (w3.alloc (.cells #[.int .i64 (y1 : Int), .int .i64 (y2 : Int)] 37)).ownsRow w.heap.size 37 2 u3 n (l.flatMap spnc) := ho3.alloc _
      have hbA : (w3.alloc (.cells #[.int .i64 (y1 : Int), .int .i64 (y2 : Int)] 37)).heap[w3.heap.size]? = some (.cells #[.int .i64 (y1 : Int), .int .i64 (y2 : Int)] 37 (0, 0)) := heap_alloc_new w3 _
      have hsA : (w3.alloc (.cells #[.int .i64 (y1 : Int), .int .i64 (y2 : Int)] 37)).heap.size = w3.heap.size + 1 := by simp
      have HB := Lib.hid hbA
      have HS := Lib.hid hsA
      clear hc3 hgr3 ho3 hbA hsA
      go_wp2_with fail
      refine (l1Once_any g code _ 2 (by omega) _ hcA (by omega) (by omega)).mono ?_
      rintro e w4 ⟨b, rfl, hc4, hg4⟩
      have ho4 := own_draw hoA hlt hg4
      have hgr4 := grown_trans hgA hg4
      have hb4 : w4.heap[w3.heap.size]? = some (.cells #[.int .i64 (y1 : Int), .int .i64 (y2 : Int)] 37 (0, 0)) := (hg4.block w3.heap.size (by rw [HS.out]; omega) (by intro e; injection e with e; omega)).trans HB.out
      have k0 : w4.cell? ⟨w3.heap.size, 0, none⟩ = some (.int .i64 (y1 : Int)) := by simp [World.cell?, hb4]
      have k1 : w4.cell? ⟨w3.heap.size, 1, none⟩ = some (.int .i64 (y2 : Int)) := by simp [World.cell?, hb4]
      have kf : w4.frozen? ⟨w3.heap.size, 1, none⟩ = false := by simp [World.frozen?, hb4]
      clear hcA hgA hoA hg4 HB HS hb4
      have hz4 := hgr4.size
      cases b with
      | true =>
        have q0 : (w4.setCell ⟨w3.heap.size, 1, none⟩ (.int .i64 (y1 : Int))).cell? ⟨w3.heap.size, 0, none⟩ = some (.int .i64 (y1 : Int)) := (World.cell?_setCell_other w4 _ _ _ (by intro e; injection e with _ e2; omega)).trans k0
        have q1 : (w4.setCell ⟨w3.heap.size, 1, none⟩ (.int .i64 (y1 : Int))).cell? ⟨w3.heap.size, 1, none⟩ = some (.int .i64 (y1 : Int)) := World.cell?_setCell_same w4 _ _ k1
        have o5 := own_put (j := 1) (x := .int .i64 (y1 : Int)) ho4 htop3
        have c5 := hc4.put hlt4 1 (.int .i64 (y1 : Int))
        have g5 := grown_put hgr4 hz3 1 (.int .i64 (y1 : Int))
        have z5 : (w4.setCell ⟨w3.heap.size, 1, none⟩ (.int .i64 (y1 : Int))).heap.size = w4.heap.size := by simp
        have Q0 := Lib.hid q0
        have Q1 := Lib.hid q1
        clear ho4 hc4 hgr4 q0 q1 htop3
        have q0 := Q0.out
        have q1 := Q1.out
        go_wp2_with (at_builtin; refine wpList_app1 Tryd.el_spn rfl (.tmp 26) (.tmp 28) rfl (w4.setCell ⟨w3.heap.size, 1, none⟩ (.int .i64 (y1 : Int))) (w4.setCell ⟨w3.heap.size, 1, none⟩ (.int .i64 (y1 : Int))) u3 n _ rfl o5 (Below.refl _ _) (by rw [z5]; omega) #[.int .i64 (y1 : Int), .int .i64 (y1 : Int)] (.inr rfl) 1 1 (by rw [z5]; rfl) rfl (by simp [Value.oneCell']) (by omega) (by omega) (by omega) ?_)
        intro g2 cap w' hown' _ hg3 _ _
        have hlo : ∀ j, u3.ownBlock = some j → w.heap.size ≤ j := fun j hj => (o5.lt j hj).1
        have hc6 := c5.grown hg3 (fun j hj => by have := hlo j hj; omega)
        have hgw2 := grown_young g5 hg3 hlo
        clear o5 c5 g5 hg3 hlo k0 k1 kf q0 q1 Q0 Q1
        go_wp2
        go_roundw
        case rel => exact ⟨k + 1, n + 1, l ++ [⟨y1, y1⟩], by omega, by go_num, by rw [HK.out], by rw [HN.out]; simp, rgS_snoc HT.out (rgS_small (a := (y1 : Int)) (b := (y1 : Int)) (by omega) (by omega) (by omega) (by omega)), by rw [List.flatMap_append]; simpa [spnc] using hown', hc6, hgw2⟩
        case measure => simp [intOf]; omega
      | false =>
        go_wp2_with (at_builtin; refine wpList_app1 Tryd.el_spn rfl (.tmp 26) (.tmp 28) rfl w4 w4 u3 n _ rfl ho4 (Below.refl _ _) (by omega) #[.int .i64 (y1 : Int), .int .i64 (y2 : Int)] (.inr rfl) 1 1 rfl rfl (by simp [Value.oneCell']) (by omega) (by omega) (by omega) ?_)
        intro g2 cap w' hown' _ hg3 _ _
        have hlo : ∀ j, u3.ownBlock = some j → w.heap.size ≤ j := fun j hj => (ho4.lt j hj).1
        have hc6 := hc4.grown hg3 (fun j hj => by have := hlo j hj; omega)
        have hgw2 := grown_young hgr4 hg3 hlo
        clear ho4 hc4 hgr4 hg3 hlo k0 k1 kf htop3
        go_wp2
        go_roundw
        case rel => exact ⟨k + 1, n + 1, l ++ [⟨y1, y2⟩], by omega, by go_num, by rw [HK.out], by rw [HN.out]; simp, rgS_snoc HT.out (rgS_small (a := (y1 : Int)) (b := (y2 : Int)) (by omega) (by omega) (by omega) (by omega)), by rw [List.flatMap_append]; simpa [spnc] using hown', hc6, hgw2⟩
        case measure => simp [intOf]; omega
    · have hlt3 : ¬ (k : Int) < 1 + (x : Int) := by omega
      go_wp2
      go_ret
      exact ⟨_, n, l, rfl, HN.out, by omega, HT.out, hown, hcr, hgr⟩

def slen : Value → Nat | .slice _ n _ => n | _ => 0
theorem own_sl {w : World} {B n size : Nat} {e : TypeId} {v : Value} {xs : List Value} (h : w.ownsRow B e size v n xs) : ∃ p c, v = .slice p n c := by
  rcases h.2 with ⟨hv, h0⟩ | ⟨g, cap, cur, hv, _⟩
  · exact ⟨none, 0, by rw [hv, h0]⟩
  · exact ⟨_, cap, hv⟩

set_option maxHeartbeats 1600000 in
theorem l4Bent_any (g : Nat) (code : List UInt8) (w : World) (hc : Cur w g code) :
    Calls Tryd.prog 13 #[.pointer (some ⟨g, 0, none⟩)] w fun e w' => SpansPost 6 g code w e w' := by
  have hlt := hc.lt
  go_enter Tryd.func13, Tryd.ntmps13
  go_wp2_with fail
  refine (l4Set_any g code _ hc).mono ?_
  rintro e w1 ⟨v, n, l, rfl, hn, hn3, htl, ho1, hc1, hg1⟩
  clear hc
  have HN := Lib.hid hn
  have HT := Lib.hid htl
  clear hn htl
  go_wp2_with fail
  refine (l1Below_any g code _ 6 (by omega) _ hc1 (by omega) (by omega)).mono ?_
  rintro e w2 ⟨x, rfl, hx, hc2, hg2⟩
  have ho2 := own_draw ho1 hlt hg2
  have hgr2 := grown_trans hg1 hg2
  clear ho1 hc1 hg1 hg2
  by_cases hx0 : x = 0
  · subst hx0
    clear hx
    go_wp2_with fail
    refine (l1Whole_grown g code _ hc2).mono ?_
    rintro e w3 ⟨a, rfl, ha, hc3, hg3⟩
    have ho3 := own_draw ho2 hlt hg3
    have hgr3 := grown_trans hgr2 hg3
    clear ho2 hc2 hgr2 hg3
    go_wp2_with fail
    refine (l1Whole_grown g code _ hc3).mono ?_
    rintro e w4 ⟨b, rfl, hb, hc4, hg4⟩
    have ho4 := own_draw ho3 hlt hg4
    have hgr4 := grown_trans hgr3 hg4
    have hz4 := hgr4.size
    clear ho3 hc3 hgr3 hg4
    go_wp2_with (at_builtin; refine wpList_app1 Tryd.el_spn rfl (.tmp 10) (.tmp 16) rfl w4 w4 v n _ rfl ho4 (Below.refl _ _) (by omega) #[.int .i64 a, .int .i64 b] (.inr rfl) 1 1 rfl rfl (by simp [Value.oneCell']) (by omega) (by omega) (by omega) ?_)
    intro g2 cap w' hown' _ hg5 _ _
    have hlo : ∀ j, v.ownBlock = some j → w.heap.size ≤ j := fun j hj => (ho4.lt j hj).1
    have hc6 := hc4.grown hg5 (fun j hj => by have := hlo j hj; omega)
    have hgw2 := grown_young hgr4 hg5 hlo
    clear ho4 hc4 hgr4 hg5 hlo
    go_wp2
    go_ret
    exact ⟨_, n + 1, l ++ [⟨a, b⟩], rfl, by rw [HN.out]; simp, by omega, rgS_snoc HT.out ⟨ha, hb⟩, by rw [List.flatMap_append]; simpa [spnc] using hown', hc6, hgw2⟩
  · have hx0' : ((x : Int) == 0) = false := by simp; omega
    by_cases hx1 : x = 1
    · subst hx1
      clear hx
      go_wp2
      go_loopw [3] (fun v wr => ∃ (n : Nat) (l : List Spn), n ≤ 6 ∧ n = l.length ∧ (∀ t ∈ l, rgS t) ∧ wr.ownsRow w.heap.size 37 2 v n (l.flatMap spnc) ∧ Cur wr g code ∧ w.grownBy wr (some g)) (fun v _ => 6 - slen v)
      case atStart => exact ⟨n, l, by omega, HN.out, HT.out, ho2, hc2, hgr2⟩
      case round =>
        obtain ⟨n, l, hn6, hn, htl, hown, hcr, hgr⟩ := hrel
        obtain ⟨p, c, rfl⟩ := own_sl hown
        have HN := Lib.hid hn
        have HT := Lib.hid htl
        clear hn htl ho2 hc2 hgr2
        go_wp2_with fail
        refine (l1Below_any g code _ 2 (by omega) _ hcr (by omega) (by omega)).mono ?_
        rintro e w3 ⟨y, rfl, hy, hc3, hg3⟩
        have ho3 := own_draw hown hlt hg3
        have hgr3 := grown_trans hgr hg3
        have hz3 := hgr3.size
        clear hown hcr hgr hg3
        by_cases hmore : (n : Int) < 5 + (y : Int)
        · go_wp2_with (at_builtin; refine wpList_app1 Tryd.el_spn rfl (.tmp 26) (.tmp 28) rfl w3 w3 (.slice p n c) n _ rfl ho3 (Below.refl _ _) (by omega) #[.int .i64 7, .int .i64 7] (.inr rfl) 1 1 rfl rfl (by simp [Value.oneCell']) (by omega) (by omega) (by omega) ?_)
          intro g2 cap w' hown' _ hg5 _ _
          have hlo : ∀ j, (Value.slice p n c).ownBlock = some j → w.heap.size ≤ j := fun j hj => (ho3.lt j hj).1
          have hc6 := hc3.grown hg5 (fun j hj => by have := hlo j hj; omega)
          have hgw2 := grown_young hgr3 hg5 hlo
          clear ho3 hc3 hgr3 hg5 hlo
          go_wp2
          go_roundw
          case rel => exact ⟨n + 1, l ++ [⟨7, 7⟩], by omega, by rw [HN.out]; simp, rgS_snoc HT.out (rgS_small (a := 7) (b := 7) (by omega) (by omega) (by omega) (by omega)), by rw [List.flatMap_append]; simpa [spnc] using hown', hc6, hgw2⟩
          case measure => simp [slen]; omega
        · go_wp2
          go_ret
          exact ⟨_, n, l, rfl, HN.out, hn6, HT.out, ho3, hc3, hgr3⟩
    · have hx1' : ((x : Int) == 1) = false := by simp; omega
      by_cases hx2 : x = 2
      · subst hx2
        have hcA : Cur (w2.alloc (.cells #[] 37)) g code := hc2.below ((Below.refl _ _).alloc (Nat.le_refl _) _)
        have hgA : w.grownBy (w2.alloc (.cells #[] 37)) (some g) := grown_trans hgr2 (World.grownBy_alloc w2 _ (some g))
        have hoA : (w2.alloc (.cells #[] 37)).ownsRow w.heap.size 37 2 (.slice (some ⟨w2.heap.size, 0, none⟩) 0 0) 0 [] := World.ownsRow_made w2 #[] 0 hgr2.size (by unfold maxLen; omega) (by simp)
        clear hx ho2 hc2 hgr2
        go_wp2
        go_ret
        exact ⟨_, 0, [], rfl, rfl, by omega, by simp, hoA, hcA, hgA⟩
      · have hx2' : ((x : Int) == 2) = false := by simp; omega
        go_wp2
        go_ret
        exact ⟨_, n, l, rfl, HN.out, by omega, HT.out, ho2, hc2, hgr2⟩

def DrawMembersPost (w : World) (e : Ending) (w' : World) : Prop := ∃ (v : Value) (l : List Spn) (x : Int), e = .returned (.tuple #[v, .int .i64 x]) ∧ l.length ≤ 6 ∧ (∀ t ∈ l, rgS t) ∧ in64 x ∧ w'.ownsRow w.heap.size 37 2 v l.length (l.flatMap spnc) ∧ Below w.heap.size w w'
theorem drawnMembers : ∀ x ∈ ([0, 1, 3, 5, 8, -1, 1000, 9223372036854775807] : List Int), -9223372036854775808 ≤ x ∧ x ≤ 9223372036854775807 := by decide

end Go.Proofs.YtkajjkjimpdbbaaDoor
