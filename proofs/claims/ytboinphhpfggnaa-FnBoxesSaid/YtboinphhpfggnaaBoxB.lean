/-
  Chapter 9, the model: BoxNamed, BoxWith, PlaceOf, UidsOf.
-/
import Derived.Test.YtboinphhpfggnaaLawBoxNamed
import Derived.Test.YtboinphhpfggnaaLawBoxWith
import Derived.Test.YtboinphhpfggnaaLawPlaceOf
import Derived.Test.YtboinphhpfggnaaLawUidsOf
import Derived.Test.YtboinphhpfggnaaGg
namespace Go.Proofs.Ytboinphhpfggnaa
open Go.RowKit

set_option maxHeartbeats 800000 in
theorem specBoxNamed_c : CtrBoxNamed 35 (fun _ => True) := by
  intro l v s w _ hr hs _ _
  have hl : l.length ≤ 1048576 := Nat.le_trans (Nat.le_add_right _ _) hs
  obtain ⟨p, c, rfl, hp⟩ := BoxD.at hr
  have HP := Lib.hid hp
  have h0 : firstAt (fun b : BoxD => b.name == s) (l.drop 0) 0 = bxNamed l s := by rw [List.drop_zero]; rfl
  generalize bxNamed l s = R at *
  have H0 := Lib.hid h0
  clear hp hr hs h0
  go_enter Try.func35, Try.ntmps35
  go_wp2
  go_loopw [5] (fun i wr => ∃ k : Nat, k ≤ l.length ∧ i = .int .i64 k ∧ firstAt (fun b : BoxD => b.name == s) (l.drop k) k = R ∧ Below w.heap.size w wr) (fun i _ => l.length - (intOf i).toNat)
  case atStart => exact ⟨0, by omega, rfl, H0.out, Below.refl _ _⟩
  case round =>
    obtain ⟨k, hk, rfl, hst, hbr⟩ := hrel
    by_cases hlt : k < l.length
    · obtain ⟨b, off, rfl, hb1, hc⟩ := HP.out.resolve_left (by intro h; subst h; simp at hlt)
      obtain ⟨x, hx⟩ : ∃ x, l[k]? = some x := ⟨_, List.getElem?_eq_getElem hlt⟩
      obtain ⟨v3, n3, x0, x1, x2, x3⟩ := hc k x hx
      have e0 : wr.cell? ⟨b, off + k * 4, none⟩ = some (sv x.name) := (hbr.cell (p := ⟨b, off + k * 4, none⟩) hb1).trans x0
      have hstep := hst ▸ firstAt_step (p := fun b : BoxD => b.name == s) hx
      clear hst hc HP x0 x1 x2 x3 n3
      cases hq : (x.name == s) with
      | true =>
        have HV := Lib.hid (show R = (k : Int) by rw [hstep]; simp only [hq, if_true])
        clear hstep
        go_wp2
        go_ret
        exact ⟨by rw [HV.out]; rfl, hbr⟩
      | false =>
        have HN := Lib.hid (show firstAt (fun b : BoxD => b.name == s) (l.drop (k + 1)) (k + 1) = R by rw [hstep]; simp [hq])
        clear hstep
        go_wp2
        go_roundw
        case rel => exact ⟨k + 1, by omega, by go_num, HN.out, hbr⟩
        case measure => simp [intOf]; omega
    · obtain rfl : k = l.length := by omega
      have HV := Lib.hid (show R = -1 by rw [← hst]; exact firstAt_end l)
      clear hst
      go_wp2
      go_ret
      exact ⟨by rw [HV.out]; rfl, hbr⟩

set_option maxHeartbeats 800000 in
theorem specBoxWith_c : CtrBoxWith 36 (fun _ => True) := by
  intro l v s w _ hr hs _ _
  have hl : l.length ≤ 1048576 := Nat.le_trans (Nat.le_add_right _ _) hs
  obtain ⟨p, c, rfl, hp⟩ := BoxD.at hr
  have HP := Lib.hid hp
  have h0 : firstAt (fun b : BoxD => b.validity == s) (l.drop 0) 0 = bxWith l s := by rw [List.drop_zero]; rfl
  generalize bxWith l s = R at *
  have H0 := Lib.hid h0
  clear hp hr hs h0
  go_enter Try.func36, Try.ntmps36
  go_wp2
  go_loopw [5] (fun i wr => ∃ k : Nat, k ≤ l.length ∧ i = .int .i64 k ∧ firstAt (fun b : BoxD => b.validity == s) (l.drop k) k = R ∧ Below w.heap.size w wr) (fun i _ => l.length - (intOf i).toNat)
  case atStart => exact ⟨0, by omega, rfl, H0.out, Below.refl _ _⟩
  case round =>
    obtain ⟨k, hk, rfl, hst, hbr⟩ := hrel
    by_cases hlt : k < l.length
    · obtain ⟨b, off, rfl, hb1, hc⟩ := HP.out.resolve_left (by intro h; subst h; simp at hlt)
      obtain ⟨x, hx⟩ : ∃ x, l[k]? = some x := ⟨_, List.getElem?_eq_getElem hlt⟩
      obtain ⟨v3, n3, x0, x1, x2, x3⟩ := hc k x hx
      have e0 : wr.cell? ⟨b, off + k * 4 + 1, none⟩ = some (.int .i64 x.validity) := (hbr.cell (p := ⟨b, off + k * 4 + 1, none⟩) hb1).trans x1
      have hstep := hst ▸ firstAt_step (p := fun b : BoxD => b.validity == s) hx
      clear hst hc HP x0 x1 x2 x3 n3
      cases hq : (x.validity == s) with
      | true =>
        have HV := Lib.hid (show R = (k : Int) by rw [hstep]; simp only [hq, if_true])
        clear hstep
        go_wp2
        go_ret
        exact ⟨by rw [HV.out]; rfl, hbr⟩
      | false =>
        have HN := Lib.hid (show firstAt (fun b : BoxD => b.validity == s) (l.drop (k + 1)) (k + 1) = R by rw [hstep]; simp [hq])
        clear hstep
        go_wp2
        go_roundw
        case rel => exact ⟨k + 1, by omega, by go_num, HN.out, hbr⟩
        case measure => simp [intOf]; omega
    · obtain rfl : k = l.length := by omega
      have HV := Lib.hid (show R = -1 by rw [← hst]; exact firstAt_end l)
      clear hst
      go_wp2
      go_ret
      exact ⟨by rw [HV.out]; rfl, hbr⟩

set_option maxHeartbeats 800000 in
theorem specPlaceOf_c : CtrPlaceOf 31 (fun _ => True) := by
  intro x r u w _ hr hs _ _
  have hl : x.msgs.length ≤ 1048576 := by
    have h1 := BoxD.sz x
    have h2 : szLf (msgsLf x.msgs) = x.msgs.length + szLs (x.msgs.flatMap MsgD.lf) := rfl
    omega
  obtain ⟨p, c, rfl, hp⟩ := MsgD.at hr
  have HP := Lib.hid hp
  have h0 : firstAt (fun m : MsgD => m.uid == u) (x.msgs.drop 0) 0 = bxPlace x u := by rw [List.drop_zero]; rfl
  generalize bxPlace x u = R at *
  have H0 := Lib.hid h0
  have hbA : Below w.heap.size w (w.alloc (.cells #[sv x.name, .int .i64 x.validity, .int .i64 x.next, .slice p x.msgs.length c] 30)) := (Below.refl _ _).alloc (Nat.le_refl _) _
  have hA := heap_alloc_new w (.cells #[sv x.name, .int .i64 x.validity, .int .i64 x.next, .slice p x.msgs.length c] 30)
  generalize hW : (w.alloc (.cells #[sv x.name, .int .i64 x.validity, .int .i64 x.next, .slice p x.msgs.length c] 30)) = W at *
  have HA := Lib.hid hA
  clear hp hr hs h0 hA
  go_enter Try.func31, Try.ntmps31
  go_wp2
  clear hW
  go_loopw [5] (fun i wr => ∃ k : Nat, k ≤ x.msgs.length ∧ i = .int .i64 k ∧ firstAt (fun m : MsgD => m.uid == u) (x.msgs.drop k) k = R ∧ wr = W) (fun i _ => x.msgs.length - (intOf i).toNat)
  case atStart => exact ⟨0, by omega, rfl, H0.out, rfl⟩
  case round =>
    obtain ⟨k, hk, rfl, hst, rfl⟩ := hrel
    have a3 := (Lib.cell_of_heap HA.out 3).trans (show _ = some (Value.slice p x.msgs.length c) from rfl)
    by_cases hlt : k < x.msgs.length
    · obtain ⟨b, off, rfl, hb1, hc⟩ := HP.out.resolve_left (by intro h; rw [h] at hlt; simp at hlt)
      obtain ⟨m, hm⟩ : ∃ m, x.msgs[k]? = some m := ⟨_, List.getElem?_eq_getElem hlt⟩
      obtain ⟨x0, x1, x2⟩ := hc k m hm
      have e0 := (hbA.cell (p := ⟨b, off + k * 3, none⟩) hb1).trans x0
      have hstep := hst ▸ firstAt_step (p := fun m : MsgD => m.uid == u) hm
      clear hst hc HP x0 x1 x2
      cases hq : (m.uid == u) with
      | true =>
        have HV := Lib.hid (show R = (k : Int) by rw [hstep]; simp only [hq, if_true])
        clear hstep
        go_wp2
        go_ret
        exact ⟨by rw [HV.out]; rfl, hbA⟩
      | false =>
        have HN := Lib.hid (show firstAt (fun m : MsgD => m.uid == u) (x.msgs.drop (k + 1)) (k + 1) = R by rw [hstep]; simp [hq])
        clear hstep
        go_wp2
        go_roundw
        case rel => exact ⟨k + 1, by omega, by go_num, HN.out, trivial⟩
        case measure => simp [intOf]; omega
    · obtain rfl : k = x.msgs.length := by omega
      have HV := Lib.hid (show R = -1 by rw [← hst]; exact firstAt_end x.msgs)
      clear hst
      go_wp2
      go_ret
      exact ⟨by rw [HV.out]; rfl, hbA⟩

theorem uids_take {l : List MsgD} {k : Nat} {m : MsgD} (h : l[k]? = some m) : (l.take (k + 1)).map (·.uid) = (l.take k).map (·.uid) ++ [m.uid] := by
  obtain ⟨h1, h2⟩ := List.getElem?_eq_some_iff.1 h
  rw [List.take_succ_eq_append_getElem h1, h2, List.map_append]; rfl

set_option maxHeartbeats 800000 in
theorem specUidsOf_c : CtrUidsOf 26 (fun _ => True) := by
  intro x r w _ hr hs _
  have hl : x.msgs.length ≤ 1048576 := by
    have h1 := BoxD.sz x
    have h2 : szLf (msgsLf x.msgs) = x.msgs.length + szLs (x.msgs.flatMap MsgD.lf) := rfl
    omega
  obtain ⟨p, c, rfl, hp⟩ := MsgD.at hr
  have HP := Lib.hid hp
  have hbA : Below w.heap.size w (w.alloc (.cells #[sv x.name, .int .i64 x.validity, .int .i64 x.next, .slice p x.msgs.length c] 30)) := (Below.refl _ _).alloc (Nat.le_refl _) _
  have hA := heap_alloc_new w (.cells #[sv x.name, .int .i64 x.validity, .int .i64 x.next, .slice p x.msgs.length c] 30)
  generalize hW : (w.alloc (.cells #[sv x.name, .int .i64 x.validity, .int .i64 x.next, .slice p x.msgs.length c] 30)) = W at *
  have HA := Lib.hid hA
  clear hp hr hs hA
  have hoA : (W.alloc (.cells #[] 3)).ownsRow W.heap.size 3 1 (.slice (some ⟨W.heap.size, 0, none⟩) 0 0) 0 [] := World.ownsRow_made W #[] 0 (Nat.le_refl _) (by unfold maxLen; omega) (by simp)
  have HOA := Lib.hid hoA
  have hbB : Below W.heap.size W (W.alloc (.cells #[] 3)) := (Below.refl _ _).alloc (Nat.le_refl _) _
  clear hoA
  go_enter Try.func26, Try.ntmps26
  go_wp2
  clear hW
  go_loopw [3, 4] (fun v i wr => ∃ k : Nat, k ≤ x.msgs.length ∧ i = .int .i64 k ∧ wr.ownsRow W.heap.size 3 1 v k (((x.msgs.take k).map (·.uid)).map iv) ∧ Below W.heap.size W wr) (fun _ i _ => x.msgs.length - (intOf i).toNat)
  case atStart => exact ⟨0, by omega, rfl, HOA.out, hbB⟩
  case round =>
    obtain ⟨k, hk, rfl, hown, hbr⟩ := hrel
    have hbr0 := hbr.size
    clear HOA hbB
    have a3 : wr.cell? ⟨w.heap.size, 3, none⟩ = some (.slice p x.msgs.length c) := (Lib.cell_of_heap ((hbr.block w.heap.size (Array.getElem?_eq_some_iff.1 HA.out).1).trans HA.out) 3).trans rfl
    by_cases hlt : k < x.msgs.length
    · obtain ⟨b, off, rfl, hb1, hc⟩ := HP.out.resolve_left (by intro h; rw [h] at hlt; simp at hlt)
      obtain ⟨m, hm⟩ : ∃ m, x.msgs[k]? = some m := ⟨_, List.getElem?_eq_getElem hlt⟩
      obtain ⟨x0, x1, x2⟩ := hc k m hm
      have e0 : wr.cell? ⟨b, off + k * 3, none⟩ = some (.int .i64 m.uid) := (hbr.cell (p := ⟨b, off + k * 3, none⟩) (Nat.lt_of_lt_of_le hb1 hbA.size)).trans ((hbA.cell (p := ⟨b, off + k * 3, none⟩) hb1).trans x0)
      have HT := Lib.hid (uids_take hm)
      clear hc HP x0 x1 x2 hm
      go_wp2_with (at_builtin; refine wpList_app1 Try.el_int rfl (.tmp 13) (.tmp 20) rfl W wr u3 k _ rfl hown hbr hbr0 #[.int .i64 m.uid] (.inr rfl) 1 1 rfl rfl (by simp [Value.oneCell']) (by omega) (by omega) (by omega) ?_)
      intro g cap w3 hown3 hb3 _ _ _
      clear hown hbr e0 a3
      go_wp2
      go_roundw
      case rel => exact ⟨k + 1, by omega, by go_num, by rw [HT.out, List.map_append]; simpa [List.map_take] using hown3, hb3⟩
      case measure => simp [intOf]; omega
    · obtain rfl : k = x.msgs.length := by omega
      rw [List.take_length] at hown
      have hT := tree_ints (l := bxUids x) (B := W.heap.size) (by unfold bxUids; rw [List.length_map]; exact hown)
      have HT := Lib.hid hT
      have hbf := hbA.trans (hbr.mono hbA.size)
      clear hT hown
      go_wp2
      go_ret
      exact ⟨_, _, rfl, HT.out.is, HT.out.nodup, fun q hq => Nat.le_trans hbA.size (HT.out.low q hq), hbf⟩

end Go.Proofs.Ytboinphhpfggnaa
