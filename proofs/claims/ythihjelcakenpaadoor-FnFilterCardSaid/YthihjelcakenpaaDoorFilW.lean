/-
  Chapter 6: a filter is read as it was written. No program is read here.
-/
import Derived.Test.YthihjelcakenpaaDoorGk
namespace Go.Proofs.YthihjelcakenpaaDoor
open Go.RowKit

theorem takeP_atT (x : List UInt8) (r : List Tok) : takeP 1 (atT x :: r) = some (x, r) := by simp [takeP, atT]
theorem takeP_op (r : List Tok) : takeP 3 (opT3 :: r) = some ([], r) := by simp [takeP, opT3]
theorem takeP_cl (r : List Tok) : takeP 4 (clT4 :: r) = some ([], r) := by simp [takeP, clT4]
theorem span_atoms (ws : List (List UInt8)) (r : List Tok) : (ws.map atT ++ clT4 :: r).takeWhile isAt = ws.map atT ∧ (ws.map atT ++ clT4 :: r).dropWhile isAt = clT4 :: r := by
  induction ws with
  | nil => exact ⟨rfl, rfl⟩
  | cons a ws ih =>
    simp only [List.map_cons, List.cons_append]
    rw [List.takeWhile_cons_of_pos (show isAt (atT a) = true from rfl), List.dropWhile_cons_of_pos (show isAt (atT a) = true from rfl), ih.1, ih.2]
    exact ⟨rfl, rfl⟩
theorem atomsP_wrote (ws : List (List UInt8)) (r : List Tok) : atomsP (opT3 :: (ws.map atT ++ clT4 :: r)) = some (ws, r) := by
  unfold atomsP
  rw [takeP_op]
  simp only [Option.bind_some]
  rw [(span_atoms ws r).1, (span_atoms ws r).2, takeP_cl]
  simp [atT, Function.comp_def]
def evWs (ev : Int) : List (List UInt8) := (List.range 4).flatMap fun k => if evB ev k = true then [evW k] else []
theorem evTks_ws (ev : Int) : evTks ev 4 = (evWs ev).map atT := by
  unfold evTks evWs
  rw [List.map_flatMap]
  congr 1
  funext k
  unfold evTk
  split <;> rfl
theorem bits_wrote {ev : Int} (h1 : 1 ≤ ev) (h2 : ev ≤ 15) : bitsL (-1) 0 (evWs ev) = some ev := by
  have h : ∀ n : Fin 16, n.val ≠ 0 → bitsL (-1) 0 (evWs (n.val : Int)) = some (n.val : Int) := by decide +kernel
  have := h ⟨ev.toNat, by omega⟩ (by show ev.toNat ≠ 0; omega)
  rwa [show ((ev.toNat : Nat) : Int) = ev by omega] at this
theorem kind_wrote {kd : Int} (h1 : 1 ≤ kd) (h2 : kd ≤ 4) : scFind (upper (scWords.getD kd.toNat [])) 4 = kd := by
  have h : ∀ n : Fin 5, n.val ≠ 0 → scFind (upper (scWords.getD n.val [])) 4 = (n.val : Int) := by decide +kernel
  have := h ⟨kd.toNat, by omega⟩ (by show kd.toNat ≠ 0; omega)
  rwa [show ((kd.toNat : Nat) : Int) = kd by omega] at this
theorem nmP_wrote {s : Scp} (h : scopeB s = true) (r : List Tok) : nmP s.kind (nmTks s ++ r) = some (s.names, r) := by
  unfold nmP nmTks
  by_cases h3 : 3 ≤ s.kind
  · rw [if_pos h3, if_pos h3]
    have := atomsP_wrote s.names r
    simpa using this
  · rw [if_neg h3, if_neg h3]
    have hn : s.names = [] := by
      unfold scopeB at h
      rw [if_pos (by omega)] at h
      simp only [Bool.and_eq_true, decide_eq_true_eq] at h
      exact List.eq_nil_of_length_eq_zero h.2
    rw [hn]
    rfl
theorem scopeP_wrote {s : Scp} (h : scopeB s = true) (r : List Tok) : scopeP (scTks s ++ r) = some (s, r) := by
  obtain ⟨h1, h2, h3, h4, _⟩ := scope_parts h
  unfold scopeP scTks
  rw [List.cons_append, takeP_op]
  simp only [Option.bind_some]
  rw [List.cons_append, takeP_atT]
  simp only [Option.bind_some]
  rw [kind_wrote h1 h2, List.append_assoc, nmP_wrote h]
  simp only [Option.bind_some]
  rw [evTks_ws]
  have ha := atomsP_wrote (evWs s.events) (clT4 :: r)
  rw [show opT3 :: ((evWs s.events).map atT ++ [clT4, clT4]) ++ r = opT3 :: ((evWs s.events).map atT ++ clT4 :: clT4 :: r) by simp, ha]
  simp only [Option.bind_some]
  rw [takeP_cl]
  simp only [Option.bind_some, bitP, bits_wrote h3 h4, Option.map_some]
theorem scopesP_wrote : ∀ (ss : List Scp) (n : Nat), (∀ s ∈ ss, scopeB s = true) → ss.length < n → scopesP n (ss.flatMap scTks) = some ss
  | [], n + 1, _, _ => by simp [scopesP]
  | s :: ss, n + 1, h, hn => by
    have ih := scopesP_wrote ss n (fun t ht => h t (by simp [ht])) (by simp at hn; omega)
    unfold scopesP
    rw [List.flatMap_cons, if_neg (by unfold scTks; simp), scopeP_wrote (h s (by simp))]
    simp only [Option.bind_some, ih, Option.map_some]
theorem readF_wrote {f : Flt} (h : filterB f = true) : readF (fTks f) = some f := by
  obtain ⟨on, ss⟩ := f
  obtain ⟨h1, h2⟩ := filter_parts h
  have hf : finF ⟨on, ss⟩ = some ⟨on, ss⟩ := by unfold finF; rw [if_pos h]
  unfold readF fTks
  rw [if_pos h]
  cases on with
  | true =>
    simp only [if_true]
    rw [takeP_atT]
    simp only [Option.bind_some]
    rw [if_pos (by decide +kernel), scopesP_wrote ss _ h1 ?_]
    · exact hf
    · have : ∀ ss : List Scp, ss.length ≤ (ss.flatMap scTks).length := by
        intro ss
        induction ss with
        | nil => simp
        | cons s r ih =>
          rw [List.flatMap_cons, List.length_append]
          have : 1 ≤ (scTks s).length := by unfold scTks; simp
          simp only [List.length_cons]
          omega
      have := this ss
      simp only [List.length_cons]
      omega
  | false =>
    simp only [Bool.false_eq_true, if_false]
    rw [takeP_atT]
    simp only [Option.bind_some]
    have hs : ss = [] := by
      unfold filterB at h
      simp only [Bool.and_eq_true, Bool.false_eq_true, if_false, decide_eq_true_eq] at h
      exact List.eq_nil_of_length_eq_zero h.2
    rw [if_neg (by decide +kernel), if_pos (by decide +kernel)]
    simp only [if_true]
    rw [← hs]
    exact hf
theorem readF_none {f : Flt} (h : filterB f = false) : readF (fTks f) = none := by
  unfold fTks
  rw [h]
  rfl

end Go.Proofs.YthihjelcakenpaaDoor
