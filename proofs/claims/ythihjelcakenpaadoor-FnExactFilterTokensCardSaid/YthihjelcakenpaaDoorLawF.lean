/-
  How the arguments of a law are opened: scopes, filters.
-/
import Derived.Test.YthihjelcakenpaaDoorLawL
import Derived.Test.YthihjelcakenpaaDoorGh
namespace Go.Proofs.YthihjelcakenpaaDoor
open Go.ChangeShapes Go.WideShapes Go.ChangeAt Go.RowKit Go.Deep Go.Joins

def strSh : Sh := .rows 9 1 [.str]
def scpSh : List Sh := [.int, strSh, .int]
theorem strs_is {x : Lf} (h : LfIs strSh x) : ∃ l, x = strsLf l ∧ l.length ≤ 9223372036854775807 ∧ ∀ y ∈ l, y.length ≤ 9223372036854775807 := by
  obtain ⟨els, rfl, hl, hel⟩ := h
  have : ∀ els : List (List Lf), (∀ y ∈ els, LsIs [Sh.str] y) → ∃ l : List (List UInt8), els.flatten = l.map Lf.str ∧ l.length = els.length ∧ ∀ y ∈ l, y.length ≤ 9223372036854775807 := by
    intro els
    induction els with
    | nil => exact fun _ => ⟨[], rfl, rfl, by simp⟩
    | cons a r ih =>
      intro h
      obtain ⟨l, h1, h2, h3⟩ := ih (fun y hy => h y (by simp [hy]))
      obtain ⟨y, ys, rfl, ⟨s, rfl, hs⟩, rfl⟩ := h a (by simp)
      refine ⟨s :: l, by simp [h1], by simp [h2], ?_⟩
      intro z hz
      rcases List.mem_cons.1 hz with rfl | hz
      · exact hs
      · exact h3 z hz
  obtain ⟨l, h1, h2, h3⟩ := this els hel
  exact ⟨l, by unfold strsLf; rw [h1, h2], by rw [h2]; exact hl, h3⟩
/-- A scope's numbers and texts are such as a machine holds. -/
def ScpIn (s : Scp) : Prop := in64 s.kind ∧ in64 s.events ∧ s.names.length ≤ 9223372036854775807 ∧ ∀ y ∈ s.names, y.length ≤ 9223372036854775807
theorem scp_is {xs : List Lf} (h : LsIs scpSh xs) : ∃ s : Scp, xs = s.lf ∧ ScpIn s := by
  obtain ⟨a, r1, rfl, ⟨k, rfl, hk⟩, b, r2, rfl, hb, c, r3, rfl, ⟨e, rfl, he⟩, rfl⟩ := h
  obtain ⟨l, rfl, h1, h2⟩ := strs_is hb
  exact ⟨⟨k, l, e⟩, rfl, hk, he, h1, h2⟩
theorem scps_is {x : Lf} (h : LfIs (.rows 113 3 scpSh) x) : ∃ l : List Scp, x = .rows 113 3 l.length (l.flatMap Scp.lf) ∧ l.length ≤ 9223372036854775807 ∧ ∀ s ∈ l, ScpIn s := by
  obtain ⟨els, rfl, hl, hel⟩ := h
  have : ∀ els : List (List Lf), (∀ y ∈ els, LsIs scpSh y) → ∃ l : List Scp, els.flatten = l.flatMap Scp.lf ∧ l.length = els.length ∧ ∀ y ∈ l, ScpIn y := by
    intro els
    induction els with
    | nil => exact fun _ => ⟨[], rfl, rfl, by simp⟩
    | cons a r ih =>
      intro h
      obtain ⟨l, h1, h2, h3⟩ := ih (fun y hy => h y (by simp [hy]))
      obtain ⟨s, rfl, hs⟩ := scp_is (h a (by simp))
      refine ⟨s :: l, by simp [h1], by simp [h2], ?_⟩
      intro z hz
      rcases List.mem_cons.1 hz with rfl | hz
      · exact hs
      · exact h3 z hz
  obtain ⟨l, h1, h2, h3⟩ := this els hel
  exact ⟨l, by rw [h1, h2], by rw [h2]; exact hl, h3⟩
/-- The element's type is read by none: any will do. -/
theorem rd_retype {W : World} {e e' : TypeId} {m n : Nat} {flat : List Lf} {v : Value} (h : LfRd W (.rows e m n flat) v) : LfRd W (.rows e' m n flat) v := h

set_option maxRecDepth 100000 in
theorem sh_scope : shOf Tryd.prog 4 113 = some scpSh := by kernel_rfl
set_option maxRecDepth 100000 in
theorem sh_filter : shOf Tryd.prog 6 38 = some [.bool, .rows 113 3 scpSh] := by kernel_rfl

theorem trodAll_four {H : Type} {enc : TypeId × Value → H} {P : Program} {w : World} {base : Nat} {spare : Nat → Bool} {held : Bool} {t0 t1 t2 t3 : TypeId} {args : Array Value} {ds : List (DataW H)} {ps : List MemPlace} (h : DataW.TrodAll enc P w base spare held [t0, t1, t2, t3] args.toList ds ps) :
    ∃ v0 v1 v2 v3 d0 d1 d2 d3 p0 p1 p2 p3, args = #[v0, v1, v2, v3] ∧ ds = [d0, d1, d2, d3] ∧ ps = p0 ++ p1 ++ p2 ++ p3 ∧ DataW.Trod enc P w base spare held t0 v0 d0 p0 ∧ DataW.Trod enc P w base spare held t1 v1 d1 p1 ∧ DataW.Trod enc P w base spare held t2 v2 d2 p2 ∧ DataW.Trod enc P w base spare held t3 v3 d3 p3 := by
  obtain ⟨v0, x0, d0, y0, p0, q0, hargs, rfl, rfl, g0, h0⟩ := trodAll_cons h
  obtain ⟨v1, x1, d1, y1, p1, q1, rfl, rfl, rfl, g1, h1⟩ := trodAll_cons h0
  obtain ⟨v2, x2, d2, y2, p2, q2, rfl, rfl, rfl, g2, h2⟩ := trodAll_cons h1
  obtain ⟨v3, x3, d3, y3, p3, q3, rfl, rfl, rfl, g3, h3⟩ := trodAll_cons h2
  obtain ⟨rfl, rfl, rfl⟩ := trodAll_nil h3
  exact ⟨v0, v1, v2, v3, d0, d1, d2, d3, p0, p1, p2, p3, by cases args; simp_all, rfl, by simp, g0, g1, g2, g3⟩

section
variable {H : Type} {enc : TypeId × Value → H} {P : Program} {W : World} {v : Value} {d : DataW H} {ps : List MemPlace} {t : TypeId}
theorem open_scope {r : Reach} {b0 : Nat} {f0 f1 f2 : Field} (hsh : shOf P 4 t = some scpSh) (hs : P.underlying t = some (.struct #[f0, f1, f2])) (hone : oneCellFields P #[f0, f1, f2] = true) (hC : P.cellsOf t = 3)
    (hv : Value.okWide P W r b0 t v) (h : DataW.Trod enc P W 0 (fun _ => true) true t v d ps) :
    ∃ (s : Scp) (vn : Value), v = .agg #[.int .i64 s.kind, vn, .int .i64 s.events] ∧ Rd1 sv W vn s.names ∧ ScpIn s := by
  obtain ⟨ls, h1, h2⟩ := open_leaves 4 scpSh hsh h
  obtain ⟨s, rfl, hin⟩ := scp_is h2
  obtain ⟨vn, h3, h4⟩ := ScpRd.ls.1 h1
  obtain ⟨v0, v1, v2, y0, y1, y2, n, rfl, _⟩ := open_agg3 hs hone hC hv h
  simp [Value.cells] at h3
  obtain ⟨rfl, rfl, rfl⟩ := h3
  exact ⟨s, v1, rfl, h4, hin⟩
theorem open_filter {r : Reach} {b0 : Nat} {f0 f1 : Field} (hsh : shOf P 6 t = some [.bool, .rows 113 3 scpSh]) (hs : P.underlying t = some (.struct #[f0, f1])) (hone : oneCellFields P #[f0, f1] = true) (hC : P.cellsOf t = 2)
    (hv : Value.okWide P W r b0 t v) (h : DataW.Trod enc P W 0 (fun _ => true) true t v d ps) :
    ∃ (f : Flt) (vs : Value), v = .agg #[.bool f.on, vs] ∧ LfRd W (scpsLf f.scopes) vs ∧ f.scopes.length ≤ 9223372036854775807 ∧ ∀ s ∈ f.scopes, ScpIn s := by
  obtain ⟨ls, h1, h2⟩ := open_leaves 6 [.bool, .rows 113 3 scpSh] hsh h
  obtain ⟨a, r1, rfl, ⟨on, rfl⟩, b, r2, rfl, hb, rfl⟩ := h2
  obtain ⟨l, rfl, hl, hin⟩ := scps_is hb
  obtain ⟨v0, v1, y0, y1, n, rfl, _⟩ := open_agg2 hs hone hC hv h
  obtain ⟨u0, us, h3, h4, u1, us1, h5, h6, h7⟩ := h1
  simp [Value.cells] at h3
  obtain ⟨rfl, rfl⟩ := h3
  simp at h5
  obtain ⟨rfl, _⟩ := h5
  exact ⟨⟨on, l⟩, v1, by rw [show v0 = .bool on from h4], rd_retype h6, hl, hin⟩
end
end Go.Proofs.YthihjelcakenpaaDoor
