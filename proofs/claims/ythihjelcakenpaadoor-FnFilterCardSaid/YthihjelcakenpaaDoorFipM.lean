/-
  Chapter 6, the program's way of reading a filter, in words: it reads what the model's way reads. No program is read here.
-/
import Derived.Test.YthihjelcakenpaaDoorFilW
namespace Go.Proofs.YthihjelcakenpaaDoor
open Go.RowKit

/-! ### events -/

theorem evW_apart : ∀ i : Fin 4, ∀ j : Fin 4, upper (evW i.val) = upper (evW j.val) → i = j := by decide +kernel
theorem evFind_hit {x : List UInt8} {j : Nat} (hj : j < 4) (h : upper (evW j) = upper x) : evFind x 4 = (j : Int) := by
  have hi : ∀ n, n ≤ 4 → j < n → evFind x n = (j : Int) := by
    intro n
    induction n with
    | zero => intro _ h; omega
    | succ n ih =>
      intro hn hjn
      unfold evFind
      by_cases he : upper (evW n) = upper x
      · have e := evW_apart ⟨j, hj⟩ ⟨n, by omega⟩ (h.trans he.symm)
        have : j = n := congrArg Fin.val e
        rw [if_pos he, this]
      · rw [if_neg he]
        exact ih (by omega) (by
          by_cases hjn' : j = n
          · subst hjn'; exact absurd h he
          · omega)
  exact hi 4 (by omega) hj
theorem evFind_low {x : List UInt8} {last : Int} (h0 : -1 ≤ last) : ∀ n : Nat, (∀ j : Nat, last < (j : Int) → j < n → ¬ upper x = upper (evW j)) → evFind x n ≤ last
  | 0, _ => by simpa [evFind] using h0
  | n + 1, h => by
    unfold evFind
    by_cases he : upper (evW n) = upper x
    · rw [if_pos he]
      by_cases hl : last < (n : Int)
      · exact absurd he.symm (h n hl (by omega))
      · omega
    · rw [if_neg he]
      exact evFind_low h0 n fun j h1 h2 => h j h1 (by omega)

/-- How far the words of the events are matched: the first k of them against the first a words of the list; their bits are b. -/
def EvI (ws : List (List UInt8)) (k : Nat) (b : Int) (a : Nat) : Prop :=
  a ≤ ws.length ∧ ∃ last : Int, -1 ≤ last ∧ last < (k : Int) ∧ bitsL (-1) 0 ws = bitsL last b (ws.drop a) ∧ ∀ x, ws[a]? = some x → ∀ j : Nat, last < (j : Int) → j < k → ¬ upper x = upper (evW j)
theorem EvI.start (ws : List (List UInt8)) : EvI ws 0 0 0 := ⟨Nat.zero_le _, -1, by omega, by omega, by rw [List.drop_zero], fun _ _ j _ h => by omega⟩
theorem EvI.yes {ws : List (List UInt8)} {k a : Nat} {b : Int} {x : List UInt8} (h : EvI ws k b a) (hk : k < 4) (hx : ws[a]? = some x) (hu : upper x = upper (evW k)) : EvI ws (k + 1) (orB b (k : Int)) (a + 1) := by
  obtain ⟨ha, last, h1, h2, h3, h4⟩ := h
  have hlt := (List.getElem?_eq_some_iff.1 hx).1
  refine ⟨hlt, (k : Int), by omega, by omega, ?_, fun _ _ j h5 h6 => by omega⟩
  rw [h3, bitsL_cons hx, evFind_hit hk hu.symm, if_neg (by omega)]
theorem EvI.no {ws : List (List UInt8)} {k a : Nat} {b : Int} (h : EvI ws k b a) (hu : ∀ x, ws[a]? = some x → ¬ upper x = upper (evW k)) : EvI ws (k + 1) b a := by
  obtain ⟨ha, last, h1, h2, h3, h4⟩ := h
  refine ⟨ha, last, h1, by omega, h3, fun x hx j h5 h6 => ?_⟩
  by_cases hj : j = k
  · subst hj; exact hu x hx
  · exact h4 x hx j h5 (by omega)
/-- The number that the program hands back. -/
def eN (ws : List (List UInt8)) : Int := (bitsL (-1) 0 ws).getD 0
theorem EvI.done_yes {ws : List (List UInt8)} {b : Int} {a : Nat} (h : EvI ws 4 b a) (ha : ¬ a < ws.length) : eN ws = b := by
  obtain ⟨h0, last, h1, h2, h3, h4⟩ := h
  unfold eN
  rw [h3, List.drop_of_length_le (by omega)]
  rfl
theorem EvI.done_no {ws : List (List UInt8)} {b : Int} {a : Nat} (h : EvI ws 4 b a) (ha : a < ws.length) : eN ws = 0 := by
  obtain ⟨h0, last, h1, h2, h3, h4⟩ := h
  obtain ⟨x, hx⟩ : ∃ x, ws[a]? = some x := ⟨_, List.getElem?_eq_getElem ha⟩
  unfold eN
  rw [h3, bitsL_cons hx, if_pos (evFind_low h1 4 (h4 x hx))]
  rfl
theorem bitsL_le : ∀ (ws : List (List UInt8)) (last : Int) (m : Nat), -1 ≤ last → m ≤ 15 → ∀ v, bitsL last (m : Int) ws = some v → 0 ≤ v ∧ v ≤ 15
  | [], last, m, _, hm, v, h => by simp [bitsL] at h; omega
  | w :: r, last, m, h0, hm, v, h => by
    unfold bitsL at h
    split at h
    · cases h
    · rename_i hn
      have hf := evFind_le w 4
      obtain ⟨j, hj⟩ : ∃ j : Nat, evFind w 4 = (j : Int) := ⟨(evFind w 4).toNat, by omega⟩
      rw [hj] at h hn hf
      have ho : ∀ m : Fin 16, ∀ j : Fin 4, ∃ q : Fin 16, orB (m.val : Int) (j.val : Int) = (q.val : Int) := by decide +kernel
      obtain ⟨q, hq⟩ := ho ⟨m, by omega⟩ ⟨j, by omega⟩
      simp only at hq
      rw [hq] at h
      exact bitsL_le r _ q.val (by omega) (by omega) v h
theorem eN_bd (ws : List (List UInt8)) : 0 ≤ eN ws ∧ eN ws ≤ 15 := by
  unfold eN
  cases h : bitsL (-1) 0 ws with
  | none => simp
  | some v => exact bitsL_le ws (-1) 0 (by omega) (by omega) v (by simpa using h)

/-! ### kinds -/

theorem scW_apart : ∀ i : Fin 4, ∀ j : Fin 4, upper (scW (i.val + 1)) = upper (scW (j.val + 1)) → i = j := by decide +kernel
theorem scFind_hit {u : List UInt8} {j : Nat} (hj : j < 4) (h : upper (scW (j + 1)) = u) : scFind u 4 = ((j + 1 : Nat) : Int) := by
  have hi : ∀ n, n ≤ 4 → j < n → scFind u n = ((j + 1 : Nat) : Int) := by
    intro n
    induction n with
    | zero => intro _ h; omega
    | succ n ih =>
      intro hn hjn
      unfold scFind
      by_cases he : upper (scW (n + 1)) = u
      · have e := scW_apart ⟨j, hj⟩ ⟨n, by omega⟩ (h.trans he.symm)
        have : j = n := congrArg Fin.val e
        rw [if_pos he, this]
      · rw [if_neg he]
        exact ih (by omega) (by
          by_cases hjn' : j = n
          · subst hjn'; exact absurd h he
          · omega)
  exact hi 4 (by omega) hj
theorem scFind_none {u : List UInt8} : ∀ n, (∀ j, j < n → ¬ upper (scW (j + 1)) = u) → scFind u n = 0
  | 0, _ => rfl
  | n + 1, h => by
    unfold scFind
    rw [if_neg (h n (by omega))]
    exact scFind_none n fun j hj => h j (by omega)
theorem scFind_bd (u : List UInt8) : ∀ n, 0 ≤ scFind u n ∧ scFind u n ≤ (n : Int)
  | 0 => by simp [scFind]
  | n + 1 => by
    have := scFind_bd u n
    unfold scFind
    split <;> omega
def kindN (t : Tok) : Int := if t.kind = 1 then scFind (upper t.text) 4 else 0
theorem kindN_bd (t : Tok) : 0 ≤ kindN t ∧ kindN t ≤ 4 := by
  unfold kindN
  split
  · exact scFind_bd _ 4
  · omega

/-! ### scopes -/

def scopeI (r : List Tok) : Option (Scp × List Tok) :=
  (takeP 3 r).bind fun q0 => match q0.2 with
    | [] => none
    | t :: r2 => (nmP (kindN t) r2).bind fun q2 => (atomsP q2.2).bind fun q3 => (takeP 4 q3.2).bind fun q4 => some (⟨kindN t, q2.1, eN q3.1⟩, q4.2)
def ScRel (o : Option (Scp × List Tok)) (i : Option (Scp × List Tok)) : Prop := match o with
  | some q => i = some q
  | none => i = none ∨ ∃ s r, i = some (s, r) ∧ scopeB s = false
theorem scopeB_kind0 {nm : List (List UInt8)} {ev : Int} : scopeB ⟨0, nm, ev⟩ = false := by simp [scopeB]
theorem scopeB_ev0 {kd : Int} {nm : List (List UInt8)} : scopeB ⟨kd, nm, 0⟩ = false := by simp [scopeB]
theorem scope_rel (r : List Tok) : ScRel (scopeP r) (scopeI r) := by
  unfold scopeP scopeI
  cases h0 : takeP 3 r with
  | none => exact .inl rfl
  | some q0 =>
    obtain ⟨x0, r1⟩ := q0
    simp only [Option.bind_some]
    cases r1 with
    | nil => exact .inl rfl
    | cons t r2 =>
      by_cases ht : t.kind = 1
      · have h1 : takeP 1 (t :: r2) = some (t.text, r2) := by simp [takeP, ht]
        have hk : kindN t = scFind (upper t.text) 4 := by unfold kindN; rw [if_pos ht]
        simp only [h1, Option.bind_some, hk]
        cases h2 : nmP (scFind (upper t.text) 4) r2 with
        | none => exact .inl rfl
        | some q2 =>
          simp only [Option.bind_some]
          cases h3 : atomsP q2.2 with
          | none => exact .inl rfl
          | some q3 =>
            simp only [Option.bind_some]
            cases h4 : takeP 4 q3.2 with
            | none => exact .inl rfl
            | some q4 =>
              simp only [Option.bind_some]
              unfold bitP eN
              cases h5 : bitsL (-1) 0 q3.1 with
              | none => exact .inr ⟨_, _, rfl, scopeB_ev0⟩
              | some b => rfl
      · have h1 : takeP 1 (t :: r2) = none := by simp [takeP, ht]
        have hk : kindN t = 0 := by unfold kindN; rw [if_neg ht]
        simp only [h1, Option.bind_none, hk]
        show _ ∨ _
        cases h2 : nmP 0 r2 with
        | none => exact .inl rfl
        | some q2 =>
          simp only [Option.bind_some]
          cases h3 : atomsP q2.2 with
          | none => exact .inl rfl
          | some q3 =>
            simp only [Option.bind_some]
            cases h4 : takeP 4 q3.2 with
            | none => exact .inl rfl
            | some q4 => exact .inr ⟨_, _, rfl, scopeB_kind0⟩
def scopesI : Nat → List Tok → Option (List Scp)
  | 0, _ => none
  | n + 1, r => if r = [] then some [] else (scopeI r).bind fun q => (scopesI n q.2).map (q.1 :: ·)
def ScsRel (o : Option (List Scp)) (i : Option (List Scp)) : Prop := match o with
  | some q => i = some q
  | none => i = none ∨ ∃ ss, i = some ss ∧ ss.all scopeB = false
theorem scopes_rel : ∀ (n : Nat) (r : List Tok), ScsRel (scopesP n r) (scopesI n r)
  | 0, r => .inl rfl
  | n + 1, r => by
    unfold scopesP scopesI
    by_cases hr : r = []
    · rw [if_pos hr, if_pos hr]; rfl
    · rw [if_neg hr, if_neg hr]
      have h1 := scope_rel r
      cases hp : scopeP r with
      | some q =>
        rw [hp] at h1
        rw [show scopeI r = some q from h1]
        simp only [Option.bind_some]
        have h2 := scopes_rel n q.2
        cases hq : scopesP n q.2 with
        | some ss =>
          rw [hq] at h2
          rw [show scopesI n q.2 = some ss from h2]
          rfl
        | none =>
          rw [hq] at h2
          rcases h2 with h2 | ⟨ss, h2, h3⟩
          · rw [h2]; exact .inl rfl
          · rw [h2]; exact .inr ⟨_, rfl, by simp [h3]⟩
      | none =>
        rw [hp] at h1
        simp only [Option.bind_none]
        rcases h1 with h1 | ⟨s, r', h1, h3⟩
        · rw [h1]; exact .inl rfl
        · rw [h1]
          simp only [Option.bind_some]
          cases hq : scopesI n r' with
          | none => exact .inl rfl
          | some ss => exact .inr ⟨_, rfl, by simp [h3]⟩
theorem fin_rel (n : Nat) (r : List Tok) : ((scopesI n r).bind fun ss => finF ⟨true, ss⟩) = (scopesP n r).bind fun ss => finF ⟨true, ss⟩ := by
  have h := scopes_rel n r
  cases hp : scopesP n r with
  | some ss =>
    rw [hp] at h
    rw [show scopesI n r = some ss from h]
  | none =>
    rw [hp] at h
    rcases h with h | ⟨ss, h, h2⟩
    · rw [h]
    · rw [h]
      simp only [Option.bind_some, Option.bind_none]
      unfold finF filterB
      rw [h2]
      rfl
theorem readI_set {t : Tok} {r : List Tok} (hk : t.kind = 1) (hu : upper t.text = setW) : readF (t :: r) = (scopesI (r.length + 2) r).bind fun ss => finF ⟨true, ss⟩ := by
  unfold readF
  have h1 : takeP 1 (t :: r) = some (t.text, r) := by simp [takeP, hk]
  rw [h1]
  simp only [Option.bind_some, List.length_cons]
  rw [if_pos hu, fin_rel]
theorem readI_none {t : Tok} (hk : t.kind = 1) (hu : upper t.text = noneW) : readF [t] = some ⟨false, []⟩ := by
  unfold readF
  have h1 : takeP 1 [t] = some (t.text, []) := by simp [takeP, hk]
  rw [h1]
  simp only [Option.bind_some]
  rw [if_neg (by rw [hu]; decide), if_pos hu]
  rfl
theorem readI_bad {t : Tok} {r : List Tok} (hs : (t.kind == 1 && upper t.text == setW) = false) (hn : r = [] → (t.kind == 1 && upper t.text == noneW) = false) : readF (t :: r) = none := by
  unfold readF
  by_cases hk : t.kind = 1
  · have h1 : takeP 1 (t :: r) = some (t.text, r) := by simp [takeP, hk]
    rw [h1]
    simp only [Option.bind_some]
    rw [if_neg (by intro e; rw [e, hk] at hs; simp at hs)]
    by_cases hu : upper t.text = noneW
    · rw [if_pos hu, if_neg (fun e => by have := hn e; rw [hu, hk] at this; simp at this)]
    · rw [if_neg hu]
  · have h1 : takeP 1 (t :: r) = none := by simp [takeP, hk]
    rw [h1]
    rfl
theorem scopeI_lt {r r' : List Tok} {s : Scp} (h : scopeI r = some (s, r')) : r'.length < r.length := by
  unfold scopeI at h
  obtain ⟨⟨x0, r1⟩, h0, h⟩ := Option.bind_eq_some_iff.1 h
  have e0 := takeP_lt h0
  cases r1 with
  | nil => cases h
  | cons t r2 =>
    simp only at h
    obtain ⟨q2, h2, h⟩ := Option.bind_eq_some_iff.1 h
    obtain ⟨q3, h3, h⟩ := Option.bind_eq_some_iff.1 h
    obtain ⟨q4, h4, h⟩ := Option.bind_eq_some_iff.1 h
    injection h with h
    injection h with _ h
    have e2 := nmP_le h2
    have e3 := atomsP_lt h3
    have e4 := takeP_lt h4
    simp only [List.length_cons] at e0
    rw [← h]
    omega
/-- What holds of every scope that is read from tokens of bounded texts. -/
theorem atomsP_in {r r' : List Tok} {x : List (List UInt8)} (h : atomsP r = some (x, r')) : x.length ≤ r.length ∧ (∀ y ∈ x, ∃ t ∈ r, y = t.text) ∧ ∀ t ∈ r', t ∈ r := by
  unfold atomsP at h
  obtain ⟨q, h1, h2⟩ := Option.bind_eq_some_iff.1 h
  obtain ⟨z, h3, h4⟩ := Option.bind_eq_some_iff.1 h2
  injection h4 with h4
  injection h4 with h5 h6
  have hq : ∀ t ∈ q.2, t ∈ r := by
    cases r with
    | nil => simp [takeP] at h1
    | cons a r =>
      simp only [takeP] at h1
      split at h1
      · injection h1 with h1; rw [← h1]; exact fun t ht => List.mem_cons_of_mem _ ht
      · cases h1
  have hz : ∀ t ∈ z.2, t ∈ q.2.dropWhile isAt := by
    generalize q.2.dropWhile isAt = Z at h3
    cases Z with
    | nil => simp [takeP] at h3
    | cons a Z =>
      simp only [takeP] at h3
      split at h3
      · injection h3 with h3; rw [← h3]; exact fun t ht => List.mem_cons_of_mem _ ht
      · cases h3
  have e1 := takeP_lt h1
  have e2 := (List.takeWhile_sublist (l := q.2) (p := isAt)).length_le
  refine ⟨by rw [← h5, List.length_map]; omega, fun y hy => ?_, fun t ht => ?_⟩
  · rw [← h5] at hy
    obtain ⟨t, ht, rfl⟩ := List.mem_map.1 hy
    exact ⟨t, hq t ((List.takeWhile_sublist _).subset ht), rfl⟩
  · rw [← h6] at ht
    exact hq t ((List.dropWhile_sublist _).subset (hz t ht))
theorem scopeI_in {r r' : List Tok} {s : Scp} (h : scopeI r = some (s, r')) : s.names.length ≤ r.length ∧ (∀ y ∈ s.names, ∃ t ∈ r, y = t.text) ∧ (∀ t ∈ r', t ∈ r) ∧ 0 ≤ s.kind ∧ s.kind ≤ 4 ∧ 0 ≤ s.events ∧ s.events ≤ 15 := by
  unfold scopeI at h
  obtain ⟨⟨x0, r1⟩, h0, h⟩ := Option.bind_eq_some_iff.1 h
  have e0 := takeP_lt h0
  have hr1 : ∀ t ∈ r1, t ∈ r := by
    cases r with
    | nil => simp [takeP] at h0
    | cons a r =>
      simp only [takeP] at h0
      split at h0
      · injection h0 with h0; injection h0 with _ h0; rw [← h0]; exact fun t ht => List.mem_cons_of_mem _ ht
      · cases h0
  cases r1 with
  | nil => cases h
  | cons t r2 =>
    simp only at h
    obtain ⟨q2, h2, h⟩ := Option.bind_eq_some_iff.1 h
    obtain ⟨q3, h3, h⟩ := Option.bind_eq_some_iff.1 h
    obtain ⟨q4, h4, h⟩ := Option.bind_eq_some_iff.1 h
    injection h with h
    injection h with hs h
    have hk := kindN_bd t
    have he := eN_bd q3.1
    have hn : q2.1.length ≤ r2.length ∧ (∀ y ∈ q2.1, ∃ t ∈ r2, y = t.text) ∧ ∀ t ∈ q2.2, t ∈ r2 := by
      unfold nmP at h2
      split at h2
      · exact atomsP_in h2
      · injection h2 with h2; rw [← h2]; exact ⟨by simp, by simp, fun t ht => ht⟩
    obtain ⟨n1, n2, n3⟩ := hn
    obtain ⟨_, _, m3⟩ := atomsP_in h3
    have hz : ∀ t ∈ q4.2, t ∈ q3.2 := by
      generalize q3.2 = Z at h4
      cases Z with
      | nil => simp [takeP] at h4
      | cons a Z =>
        simp only [takeP] at h4
        split at h4
        · injection h4 with h4; rw [← h4]; exact fun t ht => List.mem_cons_of_mem _ ht
        · cases h4
    simp only [List.length_cons] at e0
    rw [← hs, ← h]
    exact ⟨by show q2.1.length ≤ _; omega, fun y hy => by obtain ⟨u, hu, e⟩ := n2 y hy; exact ⟨u, hr1 u (List.mem_cons_of_mem _ hu), e⟩, fun u hu => hr1 u (List.mem_cons_of_mem _ (n3 u (m3 u (hz u hu)))), hk.1, hk.2, he.1, he.2⟩

end Go.Proofs.YthihjelcakenpaaDoor
