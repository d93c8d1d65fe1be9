/-
  Chapter 6: the laws' marks on slices of scopes; their sizes.
-/
import Derived.Test.YthihjelcakenpaaFilB
namespace Go.Proofs.Ythihjelcakenpaa
open Go.RowKit

def scw : List Scp → Nat
  | [] => 0
  | s :: r => (s.names.length + szl s.names) + scw r
theorem scw_snoc : ∀ (l : List Scp) (s : Scp), scw (l ++ [s]) = scw l + (s.names.length + szl s.names)
  | [], s => by simp [scw]
  | a :: l, s => by simp [scw, scw_snoc l s]; omega
theorem scw_take (l : List Scp) (k : Nat) : scw (l.take k) ≤ scw l := by
  have h : ∀ a b : List Scp, scw (a ++ b) = scw a + scw b := by
    intro a
    induction a with
    | nil => intro b; simp [scw]
    | cons x a ih => intro b; simp [scw, ih b]; omega
  have := h (l.take k) (l.drop k)
  rw [List.take_append_drop] at this
  omega
theorem take_sc {l : List Scp} {k : Nat} {s : Scp} (h : l[k]? = some s) : l.take (k + 1) = l.take k ++ [s] := by
  obtain ⟨h1, h2⟩ := List.getElem?_eq_some_iff.1 h
  rw [List.take_succ_eq_append_getElem h1, h2]
def scR (left : Nat) (l : List Scp) : Int := if l.length + scw l ≤ left then ((left - (l.length + scw l) : Nat) : Int) else -1
theorem scR_yes {left : Nat} {l : List Scp} (h : l.length + scw l ≤ left) : scR left l = ((left - (l.length + scw l) : Nat) : Int) := if_pos h
theorem scR_no {left : Nat} {l : List Scp} (h : ¬ l.length + scw l ≤ left) : scR left l = -1 := if_neg h

set_option maxHeartbeats 1600000 in
theorem szScopeS_any (v : Value) (l : List Scp) (left : Nat) (w : World) (hr : LfRd w (scpsLf l) v) (hl : l.length ≤ 9223372036854775807) (hx : ∀ s ∈ l, s.names.length ≤ 9223372036854775807 ∧ ∀ x ∈ s.names, x.length ≤ 9223372036854775807) (hL : left ≤ 1000000000000) :
    Calls Try.prog 46 #[v, .int .i64 left] w fun e w' => e = .returned (.int .i64 (scR left l)) ∧ Below w.heap.size w w' := by
  obtain ⟨p, c, rfl, hp⟩ := scps_at hr
  have HP := Lib.hid hp
  have HX := Lib.hid hx
  clear hr hp hx
  by_cases hbig : l.length ≤ left
  · have h1 : ¬ (left : Int) - (l.length : Int) < 0 := by omega
    go_enter Try.func46, Try.ntmps46
    go_wp2
    go_loopw [1, 5] (fun lf i wr => ∃ j : Nat, j ≤ l.length ∧ i = .int .i64 j ∧ lf = .int .i64 ((left - (l.length + scw (l.take j)) : Nat) : Int) ∧ l.length + scw (l.take j) ≤ left ∧ Below w.heap.size w wr) (fun _ i _ => l.length - (intOf i).toNat)
    case atStart => exact ⟨0, by omega, rfl, by simp [scw]; omega, by simp [scw]; omega, Below.refl _ _⟩
    case round =>
      obtain ⟨j, hj, rfl, rfl, hle, hbr⟩ := hrel
      have hbr0 := hbr.size
      by_cases hlt : j < l.length
      · obtain ⟨b1, o1, rfl, hb1, hc1⟩ := HP.out.resolve_left (by intro h; subst h; simp at hlt)
        obtain ⟨s, hs⟩ : ∃ s, l[j]? = some s := ⟨_, List.getElem?_eq_getElem hlt⟩
        obtain ⟨v1, n1, x0, x1, x2⟩ := hc1 j s hs
        have e0 : wr.cell? ⟨b1, o1 + j * 3, none⟩ = some (.int .i64 s.kind) := (hbr.cell (p := ⟨b1, o1 + j * 3, none⟩) hb1).trans x0
        have e1 : wr.cell? ⟨b1, o1 + j * 3 + 1, none⟩ = some v1 := (hbr.cell (p := ⟨b1, o1 + j * 3 + 1, none⟩) hb1).trans x1
        have e2 : wr.cell? ⟨b1, o1 + j * 3 + 2, none⟩ = some (.int .i64 s.events) := (hbr.cell (p := ⟨b1, o1 + j * 3 + 2, none⟩) hb1).trans x2
        have hsx := HX.out s (List.mem_of_getElem? hs)
        have cz := szScope_any s v1 (left - (l.length + scw (l.take j))) wr (n1.below hbr) hsx.1 hsx.2 (by omega)
        have htk : scw (l.take (j + 1)) = scw (l.take j) + (s.names.length + szl s.names) := by rw [take_sc hs, scw_snoc]
        have hmono := scw_take l (j + 1)
        by_cases hok : s.names.length + szl s.names ≤ left - (l.length + scw (l.take j))
        · rw [szR_yes hok] at cz
          have CZ := Lib.hid cz
          have hnn : ¬ ((left - (l.length + scw (l.take j)) - (s.names.length + szl s.names) : Nat) : Int) < 0 := by omega
          have HTK := Lib.hid htk
          clear cz hc1 hs HP x0 x1 x2 n1 htk hsx
          generalize hq : left - (l.length + scw (l.take j)) = q at *
          have HQ := Lib.hid hq
          clear hq
          go_wp2_with fail
          refine (CZ.out).mono ?_
          rintro e w2 ⟨rfl, b2⟩
          have hb2 := hbr.trans (b2.mono hbr0)
          clear CZ b2 hbr e0 e1 e2
          go_wp2
          go_roundw
          case rel =>
            refine ⟨j + 1, by omega, by go_num, ?_, by rw [HTK.out]; have := HQ.out; omega, hb2⟩
            have h1 := HTK.out
            have h2 := HQ.out
            congr 1
            omega
          case measure => simp [intOf]; omega
        · rw [szR_no hok] at cz
          have CZ := Lib.hid cz
          have HV := Lib.hid (scR_no (left := left) (l := l) (by omega))
          clear cz hc1 hs HP x0 x1 x2 n1 htk hsx hmono hok
          generalize left - (l.length + scw (l.take j)) = q at *
          go_wp2_with fail
          refine (CZ.out).mono ?_
          rintro e w2 ⟨rfl, b2⟩
          have hb2 := hbr.trans (b2.mono hbr0)
          clear CZ b2 hbr e0 e1 e2
          go_wp2
          go_ret
          exact ⟨by rw [HV.out]; rfl, hb2⟩
      · obtain rfl : j = l.length := by omega
        rw [List.take_length] at hle ⊢
        have HV := Lib.hid (scR_yes hle)
        generalize left - (l.length + scw l) = q at *
        go_wp2
        go_ret
        exact ⟨by rw [HV.out]; rfl, hbr⟩
  · have h1 : (left : Int) - (l.length : Int) < 0 := by omega
    have HV := Lib.hid (scR_no (left := left) (l := l) (by omega))
    go_enter Try.func46, Try.ntmps46
    go_wp2
    go_ret
    exact ⟨by rw [HV.out]; rfl, Below.refl _ _⟩

def mkScp (s : Scp) (k : Nat) : Scp := ⟨(k : Int), marks (k + 1) s.names.length, ((k + 1 + s.names.length : Nat) : Int)⟩
def mkEnd : List Scp → Nat → Nat
  | [], k => k
  | s :: r, k => mkEnd r (k + 2 + s.names.length)
def mkScps : List Scp → Nat → List Scp
  | [], _ => []
  | s :: r, k => mkScp s k :: mkScps r (k + 2 + s.names.length)
theorem mkEnd_snoc : ∀ (l : List Scp) (s : Scp) (k : Nat), mkEnd (l ++ [s]) k = mkEnd l k + 2 + s.names.length
  | [], s, k => rfl
  | a :: l, s, k => by simp [mkEnd, mkEnd_snoc l s]
theorem mkScps_snoc : ∀ (l : List Scp) (s : Scp) (k : Nat), mkScps (l ++ [s]) k = mkScps l k ++ [mkScp s (mkEnd l k)]
  | [], s, k => rfl
  | a :: l, s, k => by simp [mkScps, mkEnd, mkScps_snoc l s]
theorem mkScps_length : ∀ (l : List Scp) (k : Nat), (mkScps l k).length = l.length
  | [], k => rfl
  | a :: l, k => by simp [mkScps, mkScps_length l]
theorem mkEnd_le : ∀ (l : List Scp) (k : Nat), k ≤ mkEnd l k
  | [], k => Nat.le_refl _
  | a :: l, k => by have := mkEnd_le l (k + 2 + a.names.length); simp only [mkEnd]; omega
theorem mkEnd_take (l : List Scp) (k : Nat) : ∀ j, mkEnd (l.take j) k ≤ mkEnd l k := by
  intro j
  have h : ∀ (a b : List Scp) (k : Nat), mkEnd (a ++ b) k = mkEnd b (mkEnd a k) := by
    intro a
    induction a with
    | nil => intro b k; rfl
    | cons x a ih => intro b k; simp [mkEnd, ih]
  have h2 := h (l.take j) (l.drop j) k
  rw [List.take_append_drop] at h2
  rw [h2]
  exact mkEnd_le _ _
theorem mkScps_get : ∀ (l : List Scp) (k j : Nat) (s : Scp), l[j]? = some s → (mkScps l k)[j]? = some (mkScp s (mkEnd (l.take j) k))
  | [], k, j, s, h => by simp at h
  | a :: l, k, 0, s, h => by simp only [List.getElem?_cons_zero, Option.some.injEq] at h; subst h; rfl
  | a :: l, k, j + 1, s, h => by simp only [List.getElem?_cons_succ] at h; simpa [mkScps, mkEnd] using mkScps_get l (k + 2 + a.names.length) j s h

end Go.Proofs.Ythihjelcakenpaa
