/-
  Chapter 6, the program: a group of atoms in parentheses.
-/
import Derived.Test.YthihjelcakenpaaDoorFipG
namespace Go.Proofs.YthihjelcakenpaaDoor
open Go.RowKit

set_option maxRecDepth 20000 in
set_option maxHeartbeats 6400000 in
theorem groupFrom_any (v : Value) (l : List Tok) (w0 w : World) (hr : Rd 2 tokc w0 v l) (hw : Below w0.heap.size w0 w) (hcp : CapOk v) (hl : l.length ≤ 1048576) :
    Calls Tryd.prog 68 #[v] w (GrpPost (atomsP l) w0 w) := by
  have hr0 := hr
  replace hr := hr.below hw
  clear hw
  obtain ⟨p, c, rfl, hp⟩ := hr.ex
  have hc : l.length ≤ c := hcp _ _ _ rfl
  have HR := Lib.hid hr0
  clear hr hr0 hcp
  cases l with
  | nil =>
    have HV := Lib.hid (atomsP_open (l := []) (fun t h => by simp at h))
    rw [HV.out]
    go_enter Tryd.func68, Tryd.ntmps68
    go_wp2
    exact bodyPost_ret (v := .tuple #[.slice none 0 0, .slice none 0 0, .bool false]) (by simp [results, Tryd.results68, go_sem]) rfl (GrpPost.none_ ⟨rfl, Below.refl _ _⟩)
  | cons a r =>
    obtain ⟨b, off, rfl, hb, hcell⟩ := hp.resolve_left (by simp)
    have a0 : w.cell? ⟨b, off, none⟩ = some (.int .i64 a.kind) := hcell 0 a rfl 0 _ rfl
    have a1 : w.cell? ⟨b, off + 1, none⟩ = some (sv a.text) := hcell 0 a rfl 1 _ rfl
    have HC := Lib.hid (show ∀ k t, r[k]? = some t → w.cell? ⟨b, off + 2 + k * 2, none⟩ = some (.int .i64 t.kind) ∧ w.cell? ⟨b, off + 2 + k * 2 + 1, none⟩ = some (sv t.text) from fun k t ht => by
      have h1 := hcell (k + 1) t (by simpa using ht) 0 _ rfl
      have h2 := hcell (k + 1) t (by simpa using ht) 1 _ rfl
      rw [show off + (k + 1) * 2 + 0 = off + 2 + k * 2 by omega] at h1
      rw [show off + (k + 1) * 2 + 1 = off + 2 + k * 2 + 1 by omega] at h2
      exact ⟨h1, h2⟩)
    have hlen : (a :: r).length = r.length + 1 := rfl
    generalize hn : (a :: r).length = n at *
    have hne : ((n : Int) == 0) = false := by rw [beq_eq_false_iff_ne]; omega
    have HN := Lib.hid hlen
    clear hcell hp hlen
    by_cases hop : a.kind = 3 ∧ a.text = []
    · have HOP := Lib.hid hop
      rw [hop.1] at a0
      rw [hop.2] at a1
      clear hop
      have hcc : c = 1 ∨ ¬ c = 1 := Classical.em _
      rcases hcc with hc1 | hc1
      · have hr0 : r = [] := List.eq_nil_of_length_eq_zero (by have := HN.out; omega)
        subst hr0
        have HV := Lib.hid (atomsP_bad (a := a) (AtB.start []) (fun t h => by simp at h))
        rw [HV.out]
        obtain rfl : n = 1 := HN.out
        subst hc1
        go_enter Tryd.func68, Tryd.ntmps68
        go_wp2
        refine wp_loop_rounds 1 ?_
        rw [rounds_succ]
        go_wp2
        exact bodyPost_ret (v := .tuple #[.slice none 0 0, .slice none 0 0, .bool false]) (by simp [results, Tryd.results68, go_sem]) rfl (GrpPost.none_ ⟨rfl, Below.refl _ _⟩)
      · obtain rfl : n = r.length + 1 := HN.out
        go_enter Tryd.func68, Tryd.ntmps68
        go_wp2
        clear a0 a1 hne
        go_loopw [5, 6, 7, 21] (fun u5 u6 u7 i wr => ∃ (k n : Nat) (ws : List (List UInt8)), k ≤ r.length ∧ n = ws.length ∧ n ≤ k ∧ i = .int .i64 k ∧ AtB r k ws ∧ wr.ownsRow w.heap.size 9 1 u5 n (ws.map sv) ∧ Below w.heap.size w wr) (fun _ _ _ i _ => r.length - (intOf i).toNat)
        case atStart => exact ⟨0, 0, [], by omega, rfl, by omega, rfl, AtB.start r, World.ownsRow_nil _ _ _ _, Below.refl _ _⟩
        case round =>
          obtain ⟨k, n, ws, hk, hn, hnk, rfl, hat, hown, hbr⟩ := hrel
          have HAT := Lib.hid hat
          have HNW := Lib.hid hn
          have hz := hbr.size
          clear hat hn
          by_cases hlt : k < r.length
          · obtain ⟨t, ht⟩ : ∃ t, r[k]? = some t := ⟨_, List.getElem?_eq_getElem hlt⟩
            obtain ⟨h0, h1⟩ := HC.out k t ht
            have e0 : wr.cell? ⟨b, off + 2 + k * 2, none⟩ = some (.int .i64 t.kind) := (hbr.cell (p := ⟨b, off + 2 + k * 2, none⟩) hb).trans h0
            have e1 : wr.cell? ⟨b, off + 2 + k * 2 + 1, none⟩ = some (sv t.text) := (hbr.cell (p := ⟨b, off + 2 + k * 2 + 1, none⟩) hb).trans h1
            have HTK := Lib.hid ht
            clear h0 h1 ht
            by_cases hcl : t.kind = 4 ∧ t.text = []
            · have HV := Lib.hid (atomsP_end HOP.out HAT.out HTK.out hcl)
              rw [HV.out]
              rw [hcl.1] at e0
              rw [hcl.2] at e1
              have HD := Lib.hid (show Rd 2 tokc w0 (.slice (if c = k + 2 then some (⟨b, off, none⟩ : Addr) else Option.map (fun x : Addr => x.add ((k + 2) * 2)) (some (⟨b, off, none⟩ : Addr))) (r.length + 1 - (k + 2)) (c - (k + 2))) (r.drop (k + 1)) ∧ CapOk (.slice (if c = k + 2 then some (⟨b, off, none⟩ : Addr) else Option.map (fun x : Addr => x.add ((k + 2) * 2)) (some (⟨b, off, none⟩ : Addr))) (r.length + 1 - (k + 2)) (c - (k + 2))) from rd_drop (l := a :: r) (k := k + 2) (show Rd 2 tokc w0 (.slice (some ⟨b, off, none⟩) (a :: r).length c) (a :: r) from HR.out) hc (by show k + 2 ≤ r.length + 1; omega))
              clear hcl
              have hwr : IntKind.i64.wrap ((k : Int) + 2) = (k : Int) + 2 := IntWalk.i64_in _ (by omega)
              have hw0 : 0 ≤ (k : Int) + 2 := by omega
              have hwt : ((k : Int) + 2).toNat = k + 2 := by omega
              have ho2 := (hown.alloc (.cells #[.int .i64 4, sv []] 52)).drew
              have hb2 := (hbr.alloc hz (.cells #[.int .i64 4, sv []] 52)).drew
              go_wp2
              refine ord_start [(0, true), (1, true), (2, true), (3, true), (4, true), (5, true), (6, true), (7, true)] (fun _ => True) (by kernel_rfl) (by kernel_rfl) rfl (by kernel_rfl) ?_
              intro ops' hops
              clear hops
              simp only [List.map_cons, List.map_nil, pickOp_zero, pickOp_succ]
              iterate 4 (refine ord_flo ?_ (fun _ _ _ h => h) rfl ?_ trivial ?_; rotate_left; focus (intro _ _; go_simp; rfl))
              refine ord_flo (.slice (if c = k + 2 then some (⟨b, off, none⟩ : Addr) else Option.map (fun x : Addr => x.add ((k + 2) * 2)) (some (⟨b, off, none⟩ : Addr))) (r.length + 1 - (k + 2)) (c - (k + 2))) (fun _ _ _ h => h) rfl ?_ trivial ?_
              · intro W hS
                go_simp
                try (intro h; omega)
              generalize (Value.slice (if c = k + 2 then some (⟨b, off, none⟩ : Addr) else Option.map (fun x : Addr => x.add ((k + 2) * 2)) (some (⟨b, off, none⟩ : Addr))) (r.length + 1 - (k + 2)) (c - (k + 2))) = vr at *
              iterate 3 (refine ord_flo ?_ (fun _ _ _ h => h) rfl ?_ trivial ?_; rotate_left; focus (intro _ _; go_simp; rfl))
              refine ord_done ?_
              go_simp
              go_wp2
              exact bodyPost_ret (v := .tuple #[u5, vr, .bool true]) (by simp [results, Tryd.results68, go_sem]) rfl (GrpPost.some_ ⟨_, _, rfl, by rw [← HNW.out]; exact ho2, HD.out.1, HD.out.2, hb2⟩)
            · cases g4 : (t.kind == 4) with
              | true =>
                have g5 : (t.text == ([] : List UInt8)) = false := by rw [beq_eq_false_iff_ne]; exact fun h => hcl ⟨beq_iff_eq.1 g4, h⟩
                have hk4 : t.kind = 4 := beq_iff_eq.1 g4
                have HV := Lib.hid (atomsP_bad (a := a) HAT.out (fun u hu => by rw [HTK.out] at hu; injection hu with hu; rw [← hu]; exact ⟨by omega, hcl⟩))
                rw [HV.out]
                have hb2 := hbr.alloc hz (.cells #[.int .i64 4, sv t.text] 52)
                rw [hk4] at e0
                clear hcl g4 hk4 hown
                go_wp2
                exact bodyPost_ret (v := .tuple #[.slice none 0 0, .slice none 0 0, .bool false]) (by simp [results, Tryd.results68, go_sem]) rfl (GrpPost.none_ ⟨rfl, hb2⟩)
              | false =>
                cases g1 : (t.kind == 1) with
                | false =>
                  have g1n := ne_yes' g1
                  have HV := Lib.hid (atomsP_bad (a := a) HAT.out (fun u hu => by rw [HTK.out] at hu; injection hu with hu; rw [← hu]; exact ⟨beq_eq_false_iff_ne.1 g1, hcl⟩))
                  rw [HV.out]
                  have hb2 := hbr.alloc hz (.cells #[.int .i64 t.kind, sv t.text] 52)
                  clear hcl hown
                  go_wp2
                  exact bodyPost_ret (v := .tuple #[.slice none 0 0, .slice none 0 0, .bool false]) (by simp [results, Tryd.results68, go_sem]) rfl (GrpPost.none_ ⟨rfl, hb2⟩)
                | true =>
                  have hk1 : t.kind = 1 := beq_iff_eq.1 g1
                  have HAN := Lib.hid (HAT.out.step HTK.out hk1)
                  rw [hk1] at e0
                  have ho2 := hown.alloc (.cells #[.int .i64 1, sv t.text] 52)
                  have hb2 := hbr.alloc hz (.cells #[.int .i64 1, sv t.text] 52)
                  have hz2 := hb2.size
                  have HSZ := Lib.hid (show (wr.alloc (.cells #[.int .i64 1, sv t.text] 52)).heap.size = wr.heap.size + 1 by simp)
                  have HO2 := Lib.hid ho2
                  have HB2 := Lib.hid hb2
                  clear hcl g4 g1 hk1 hown ho2 hb2 hbr
                  go_wp2_with (at_builtin; refine wpList_app1 Tryd.el_string rfl (.tmp 37) (.tmp 40) rfl w _ u5 n _ rfl HO2.out HB2.out hz2 #[sv t.text] (.inr rfl) 1 1 (by rw [HSZ.out]; rfl) rfl (by simp [Value.oneCell']) (by omega) (by omega) (by omega) ?_)
                  intro g cap w3 o3 hb3 _ _ _
                  clear HO2 HB2 e0 e1
                  go_wp2
                  go_roundw
                  case rel => exact ⟨k + 1, n + 1, ws ++ [t.text], by omega, by rw [HNW.out]; simp, by omega, by go_num, HAN.out, by rw [List.map_append]; exact o3, hb3⟩
                  case measure => simp [intOf]; omega
          · obtain rfl : k = r.length := by omega
            have HV := Lib.hid (atomsP_bad (a := a) HAT.out (fun u hu => by rw [List.getElem?_eq_none (Nat.le_refl _)] at hu; cases hu))
            clear hown
            go_wp2
            exact bodyPost_ret (v := .tuple #[.slice none 0 0, .slice none 0 0, .bool false]) (by simp [results, Tryd.results68, go_sem]) rfl (by rw [HV.out]; exact GrpPost.none_ ⟨rfl, hbr⟩)
    · have HV := Lib.hid (atomsP_open (l := a :: r) (fun t h => by simp only [List.getElem?_cons_zero, Option.some.injEq] at h; rw [← h]; exact hop))
      rw [HV.out]
      obtain rfl : n = r.length + 1 := HN.out
      cases g3 : (a.kind == 3) with
      | false =>
        clear hop
        go_enter Tryd.func68, Tryd.ntmps68
        go_wp2
        exact bodyPost_ret (v := .tuple #[.slice none 0 0, .slice none 0 0, .bool false]) (by simp [results, Tryd.results68, go_sem]) rfl (GrpPost.none_ ⟨rfl, Below.refl _ _⟩)
      | true =>
        have g5 : (a.text == ([] : List UInt8)) = false := by rw [beq_eq_false_iff_ne]; exact fun h => hop ⟨beq_iff_eq.1 g3, h⟩
        rw [beq_iff_eq.1 g3] at a0
        clear hop g3
        go_enter Tryd.func68, Tryd.ntmps68
        go_wp2
        exact bodyPost_ret (v := .tuple #[.slice none 0 0, .slice none 0 0, .bool false]) (by simp [results, Tryd.results68, go_sem]) rfl (GrpPost.none_ ⟨rfl, Below.refl _ _⟩)

end Go.Proofs.YthihjelcakenpaaDoor
