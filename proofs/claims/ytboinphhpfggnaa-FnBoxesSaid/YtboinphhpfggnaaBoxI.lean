/-
  Chapter 9, the program: BoxNamed, BoxWith (made by tools/gen_boxi.py).
-/
import Derived.Maps.OwnSet
import Derived.Test.YtboinphhpfggnaaBoxH
namespace Go.Proofs.Ytboinphhpfggnaa
open Go.RowKit

theorem boxes_small {l : List BoxD} (hs : szLf (boxsLf l) ≤ 1048576) (hbd : LfBnd (boxsLf l)) : l.length ≤ 1048576 ∧ (∀ x ∈ l, x.name.length ≤ 1048576) ∧ (∀ x ∈ l, in64 x.validity) ∧ ∀ x ∈ l, szLs x.lf ≤ 1048576 ∧ LsBnd x.lf := by
  have hsl : ∀ x ∈ l, szLs x.lf ≤ 1048576 ∧ LsBnd x.lf := fun x hx => ⟨by have h1 := szLs_mem BoxD.lf hx; have h2 : szLf (boxsLf l) = l.length + szLs (l.flatMap BoxD.lf) := rfl; omega, LsBnd.flat hbd.2 x hx⟩
  refine ⟨Nat.le_trans (Nat.le_add_right _ _) hs, fun x hx => ?_, fun x hx => (hsl x hx).2.2.1, hsl⟩
  have h1 := (hsl x hx).1
  rw [BoxD.sz] at h1
  omega
theorem in64_wf {n : Int} (h : in64 n) : (Lit.int .i64 n).wf = true := by
  simpa [in64, Lit.wf, IntKind.min, IntKind.max, IntKind.signed, IntKind.bits] using h
theorem lit_int {a b : Int} (h : (DataW.lit (.int .i64 a) : DataW Unit) = .lit (.int .i64 b)) : a = b := by
  injection h with h
  injection h

theorem placesByName_any (l : List BoxD) (v : Value) (W : World) (hr : LfRd W (boxsLf l) v) (hs : szLf (boxsLf l) ≤ 1048576) (hbd : LfBnd (boxsLf l)) :
    Calls Try.prog 44 #[v] W fun e W' => e = .returned (.map (some W.heap.size)) ∧ W'.ownsMap Try.prog 9 (plainElem (H := Unit) Try.prog 3) W.heap.size l.length (mapOf nKey l 0) ∧ Below W.heap.size W W' := by
  obtain ⟨hl, hkn, hkv, _⟩ := boxes_small hs hbd
  exact callsIn_wide.1 (placesByName_in Fence.wide 3 trivial trivial trivial rfl (by omega) l v W hr hl hkn)
set_option maxHeartbeats 1600000 in
theorem implBoxNamed_c {G : World → Prop} : CtrBoxNamed 16 G := by
  intro l v s w _ hr hs hbd hsl
  have hl : l.length ≤ 1048576 := (boxes_small hs hbd).1
  have C := Lib.hid (placesByName_any l v w hr hs hbd)
  obtain ⟨p, c, rfl⟩ := LfRd.slice hr
  have hkey : keyOf Try.prog 9 (sv s) = some (.string s) := Go.WideMaps.keyOf_string_mk Try.underlying9 (s := ⟨s.toArray⟩) (by show s.toArray.size ≤ maxLen; unfold maxLen; simp; omega)
  clear hr hs hbd hsl
  cases hh : l.any (fun b => b.name == s) with
  | true =>
    have H1 : Maps.has (mapOf nKey l 0) (.string s) = true := (nMap_has l s).trans hh
    have HA := Lib.hid (fun z => nMap_at z hh)
    clear hh
    generalize mapOf nKey l 0 = D at *
    generalize bxNamed l s = R at *
    go_enter Try.func16, Try.ntmps16
    go_wp2_with fail
    refine (C.out).mono ?_
    rintro e w1 ⟨rfl, hown, b1⟩
    go_wp2_with (at_lookup; refine wpList_lookup_own_ok_int _ rfl _ _ 59 rfl 9 3 .i64 (Maps.string_keyed Try.underlying9) Try.underlying59 Try.underlying3 (Try.zeroValue3 _) w.heap.size l.length D rfl hown _ _ rfl hkey ?_; intro c hat hwc)
    go_ret
    exact ⟨by rw [lit_int ((HA.out _).symm.trans hat)]; rfl, b1⟩
  | false =>
    have H1 : Maps.has (mapOf nKey l 0) (.string s) = false := (nMap_has l s).trans hh
    have HV := Lib.hid (show bxNamed l s = -1 from firstAt_no l 0 hh)
    clear hh
    generalize mapOf nKey l 0 = D at *
    generalize bxNamed l s = R at *
    go_enter Try.func16, Try.ntmps16
    go_wp2_with fail
    refine (C.out).mono ?_
    rintro e w1 ⟨rfl, hown, b1⟩
    go_wp2_with (at_lookup; refine wpList_lookup_own_ok_int _ rfl _ _ 59 rfl 9 3 .i64 (Maps.string_keyed Try.underlying9) Try.underlying59 Try.underlying3 (Try.zeroValue3 _) w.heap.size l.length D rfl hown _ _ rfl hkey ?_; intro c hat hwc)
    go_ret
    exact ⟨by rw [HV.out]; rfl, b1⟩

theorem placesByValidity_any (l : List BoxD) (v : Value) (W : World) (hr : LfRd W (boxsLf l) v) (hs : szLf (boxsLf l) ≤ 1048576) (hbd : LfBnd (boxsLf l)) :
    Calls Try.prog 45 #[v] W fun e W' => e = .returned (.map (some W.heap.size)) ∧ W'.ownsMap Try.prog 3 (plainElem (H := Unit) Try.prog 3) W.heap.size l.length (mapOf vKey l 0) ∧ Below W.heap.size W W' := by
  obtain ⟨hl, hkn, hkv, _⟩ := boxes_small hs hbd
  exact callsIn_wide.1 (placesByValidity_in Fence.wide 3 trivial trivial trivial rfl (by omega) l v W hr hl hkv)
set_option maxHeartbeats 1600000 in
theorem implBoxWith_c {G : World → Prop} : CtrBoxWith 17 G := by
  intro l v s w _ hr hs hbd hsl
  have hl : l.length ≤ 1048576 := (boxes_small hs hbd).1
  have C := Lib.hid (placesByValidity_any l v w hr hs hbd)
  obtain ⟨p, c, rfl⟩ := LfRd.slice hr
  have hkey : keyOf Try.prog 3 (.int .i64 s) = some (.int .i64 s) := Maps.keyOf_int_mk Try.underlying3 (in64_wf hsl)
  clear hr hs hbd hsl
  cases hh : l.any (fun b => b.validity == s) with
  | true =>
    have H1 : Maps.has (mapOf vKey l 0) (.int .i64 s) = true := (vMap_has l s).trans hh
    have HA := Lib.hid (fun z => vMap_at z hh)
    clear hh
    generalize mapOf vKey l 0 = D at *
    generalize bxWith l s = R at *
    go_enter Try.func17, Try.ntmps17
    go_wp2_with fail
    refine (C.out).mono ?_
    rintro e w1 ⟨rfl, hown, b1⟩
    go_wp2_with (at_lookup; refine wpList_lookup_own_ok_int _ rfl _ _ 61 rfl 3 3 .i64 (Maps.int_keyed Try.underlying3) Try.underlying61 Try.underlying3 (Try.zeroValue3 _) w.heap.size l.length D rfl hown _ _ rfl hkey ?_; intro c hat hwc)
    go_ret
    exact ⟨by rw [lit_int ((HA.out _).symm.trans hat)]; rfl, b1⟩
  | false =>
    have H1 : Maps.has (mapOf vKey l 0) (.int .i64 s) = false := (vMap_has l s).trans hh
    have HV := Lib.hid (show bxWith l s = -1 from firstAt_no l 0 hh)
    clear hh
    generalize mapOf vKey l 0 = D at *
    generalize bxWith l s = R at *
    go_enter Try.func17, Try.ntmps17
    go_wp2_with fail
    refine (C.out).mono ?_
    rintro e w1 ⟨rfl, hown, b1⟩
    go_wp2_with (at_lookup; refine wpList_lookup_own_ok_int _ rfl _ _ 61 rfl 3 3 .i64 (Maps.int_keyed Try.underlying3) Try.underlying61 Try.underlying3 (Try.zeroValue3 _) w.heap.size l.length D rfl hown _ _ rfl hkey ?_; intro c hat hwc)
    go_ret
    exact ⟨by rw [HV.out]; rfl, b1⟩

end Go.Proofs.Ytboinphhpfggnaa
