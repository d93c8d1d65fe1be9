/-
  How the arguments of a law are opened, any records: leaves but for the elements' types. No program is read here.
-/
import Derived.Test.YthjeeggejkpjgaaLawL
import Derived.Test.YthjeeggejkpjgaaLgB
namespace Go.Proofs.Ythjeeggejkpjgaa
open Go.ChangeShapes Go.WideShapes Go.ChangeAt Go.RowKit Go.Deep Go.Joins

mutual
/-- The same leaf, but for the types of rows' elements. -/
def LfSame : Lf → Lf → Prop
  | .int a, .int b => a = b
  | .bool a, .bool b => a = b
  | .str a, .str b => a = b
  | .rows _ m n fl, .rows _ m' n' fl' => m = m' ∧ n = n' ∧ LsSame fl fl'
  | _, _ => False
def LsSame : List Lf → List Lf → Prop
  | [], [] => True
  | x :: xs, y :: ys => LfSame x y ∧ LsSame xs ys
  | _, _ => False
end
theorem LsSame.append : ∀ {a b c d : List Lf}, LsSame a b → LsSame c d → LsSame (a ++ c) (b ++ d)
  | [], [], _, _, _, h => h
  | _ :: _, _ :: _, _, _, h, h2 => ⟨h.1, LsSame.append h.2 h2⟩
  | [], _ :: _, _, _, h, _ => h.elim
  | _ :: _, [], _, _, h, _ => h.elim
theorem LsSame.length : ∀ {a b : List Lf}, LsSame a b → a.length = b.length
  | [], [], _ => rfl
  | _ :: _, _ :: _, h => by simp [LsSame.length h.2]
  | [], _ :: _, h => h.elim
  | _ :: _, [], h => h.elim
mutual
theorem LfRd.same {W : World} : ∀ {x y : Lf} {v : Value}, LfSame x y → LfRd W x v → LfRd W y v
  | .int a, .int b, v, h, hr => by rw [show b = a from h.symm]; exact hr
  | .bool a, .bool b, v, h, hr => by rw [show b = a from h.symm]; exact hr
  | .str a, .str b, v, h, hr => by rw [show b = a from h.symm]; exact hr
  | .rows _ m n fl, .rows _ m' n' fl', v, h, hr => by
    obtain ⟨rfl, rfl, hs⟩ := h
    obtain ⟨hl, p, cap, hv, hc⟩ := hr
    exact ⟨by rw [← hs.length]; exact hl, p, cap, hv, hc.imp id fun ⟨b, off, hp, hlt, xs, h1, h2⟩ => ⟨b, off, hp, hlt, xs, h1, LsRd.same hs h2⟩⟩
  | .int _, .bool _, _, h, _ => h.elim
  | .int _, .str _, _, h, _ => h.elim
  | .int _, .rows _ _ _ _, _, h, _ => h.elim
  | .bool _, .int _, _, h, _ => h.elim
  | .bool _, .str _, _, h, _ => h.elim
  | .bool _, .rows _ _ _ _, _, h, _ => h.elim
  | .str _, .int _, _, h, _ => h.elim
  | .str _, .bool _, _, h, _ => h.elim
  | .str _, .rows _ _ _ _, _, h, _ => h.elim
  | .rows _ _ _ _, .int _, _, h, _ => h.elim
  | .rows _ _ _ _, .bool _, _, h, _ => h.elim
  | .rows _ _ _ _, .str _, _, h, _ => h.elim
theorem LsRd.same {W : World} : ∀ {xs ys : List Lf} {vs : List Value}, LsSame xs ys → LsRd W xs vs → LsRd W ys vs
  | [], [], _, _, h => h
  | _ :: _, _ :: _, _, hs, h => by
    obtain ⟨v, us, hv, h1, h2⟩ := h
    exact ⟨v, us, hv, LfRd.same hs.1 h1, LsRd.same hs.2 h2⟩
  | [], _ :: _, _, h, _ => h.elim
  | _ :: _, [], _, h, _ => h.elim
end

theorem rows_is {α : Type} {enc : α → List Lf} {sh : List Sh} {e e' : TypeId} {m : Nat} (one : ∀ y, LsIs sh y → ∃ x : α, LsSame y (enc x) ∧ LsBnd (enc x)) {y : Lf} (h : LfIs (.rows e m sh) y) :
    ∃ l : List α, LfSame y (.rows e' m l.length (l.flatMap enc)) ∧ LfBnd (.rows e' m l.length (l.flatMap enc)) := by
  obtain ⟨els, rfl, hl, hel⟩ := h
  have : ∀ els : List (List Lf), (∀ y ∈ els, LsIs sh y) → ∃ l : List α, LsSame els.flatten (l.flatMap enc) ∧ LsBnd (l.flatMap enc) ∧ l.length = els.length := by
    intro els
    induction els with
    | nil => exact fun _ => ⟨[], trivial, trivial, rfl⟩
    | cons a r ih =>
      intro h
      obtain ⟨l, h1, h2, h3⟩ := ih (fun y hy => h y (by simp [hy]))
      obtain ⟨x, h4, h5⟩ := one a (h a (by simp))
      exact ⟨x :: l, by rw [List.flatten_cons, List.flatMap_cons]; exact LsSame.append h4 h1, by rw [List.flatMap_cons]; exact LsBnd.append.2 ⟨h5, h2⟩, by simp [h3]⟩
  obtain ⟨l, h1, h2, h3⟩ := this els hel
  exact ⟨l, ⟨rfl, h3.symm, h1⟩, ⟨by omega, h2⟩⟩

theorem flat_sing {α : Type} (f : α → Lf) : ∀ l : List α, l.flatMap (fun s => [f s]) = l.map f
  | [] => rfl
  | a :: l => by rw [List.flatMap_cons, flat_sing f l]; rfl

theorem strs_row_is {e : TypeId} {y : Lf} (h : LfIs (.rows e 1 [.str]) y) : ∃ l : List (List UInt8), LfSame y (strsLf l) ∧ LfBnd (strsLf l) := by
  obtain ⟨l, h1, h2⟩ := rows_is (α := List UInt8) (enc := fun s => [.str s]) (e' := 9) (fun y hy => by obtain ⟨a, s, rfl, ⟨l, rfl, hl⟩, rfl⟩ := hy; exact ⟨l, ⟨rfl, trivial⟩, ⟨hl, trivial⟩⟩) h
  rw [flat_sing] at h1 h2
  exact ⟨l, h1, h2⟩

section
variable {H : Type} {enc : TypeId × Value → H} {P : Program} {W : World} {v : Value} {d : DataW H} {ps : List MemPlace} {t : TypeId}
/-- A record: its value is its leaves. -/
theorem open_rec {r : Reach} {b0 n : Nat} {fs : Array Field} {shs : List Sh} (hsh : shOf P n t = some shs) (hs : P.underlying t = some (.struct fs)) (hv : Value.okWide P W r b0 t v) (h : DataW.Trod enc P W 0 (fun _ => true) true t v d ps) :
    ∃ cs ls, v = .agg cs ∧ LsRd W ls cs.toList ∧ LsIs shs ls := by
  obtain ⟨cs, rfl, _⟩ := okWide_struct hs hv
  obtain ⟨ls, h1, h2⟩ := open_leaves n shs hsh h
  exact ⟨cs, ls, rfl, by simpa [Value.cells] using h1, h2⟩
/-- A slice: one leaf. -/
theorem open_row {r : Reach} {b0 n : Nat} {e : TypeId} {sh : Sh} (hsh : shOf P n t = some [sh]) (hs : P.underlying t = some (.slice e)) (hv : Value.okWide P W r b0 t v) (h : DataW.Trod enc P W 0 (fun _ => true) true t v d ps) :
    ∃ y, LfRd W y v ∧ LfIs sh y := by
  obtain ⟨ls, h1, h2⟩ := open_leaves n [sh] hsh h
  obtain ⟨y, r1, rfl, h3, rfl⟩ := h2
  obtain ⟨u, us, h4, h5, _⟩ := h1
  obtain ⟨a, len, cap, rfl⟩ := okWide_slice hs hv
  simp [Value.cells] at h4
  obtain ⟨rfl, rfl⟩ := h4
  exact ⟨y, h5, h3⟩
end

end Go.Proofs.Ythjeeggejkpjgaa
