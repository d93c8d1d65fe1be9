/-
  Ui: ComD ComE (what the claim needs of them).
-/
import Derived.Deep.DeepCutAuto
import Derived.Test.YtbfgdbpfecffcaaRows
import Derived.WalkKit
import Derived.WalkSpells
import Derived.WalkLawsBesides
import Derived.Laws.IdiomStrings
import Derived.Lib.Hide
import Derived.Deep.AppendLies
import Derived.OrdersHeld
import Derived.Lib.ItoaNum
import Derived.Lib.ItoaMem
import Derived.Lib.AppendStr
import Derived.Lib.ItoaLen
import Derived.Lib.Strings
import Derived.Lib.Bytealg
import Derived.Lib.OthersKept
import Derived.Laws.RangeAny
import Derived.Laws.BitsAllLaws
import Derived.Laws.BitsLemmas
import Derived.IntWalk
import Derived.Handy
import Derived.Lib.Join
import Derived.Deep.Strs
import Derived.Test.YtbfgdbpfecffcaaProg
import Derived.Laws.Tables
import Derived.Test.YtbfgdbpfecffcaaUa
import Derived.Test.YtbfgdbpfecffcaaUb
import Derived.Test.YtbfgdbpfecffcaaUc
import Derived.Test.YtbfgdbpfecffcaaUd
import Derived.Test.YtbfgdbpfecffcaaUe

namespace Go.Proofs.Ytbfgdbpfecffcaa
open Go.RowKit

theorem app_no1 {l : List BoxD} {m : ComD} (h : boxesB l = false) : appB l m = false := by unfold appB; rw [h]; rfl
theorem app_no2 {l : List BoxD} {m : ComD} (h : commitB m = false) : appB l m = false := by unfold appB; rw [h]; simp
theorem app_1 {l : List BoxD} {m : ComD} (h1 : boxesB l = true) (h2 : commitB m = true) (hk : m.kind = 1) : appB l m = (decide ((l.length : Int) < 4) && decide (bxWith l m.validity < 0) && decide (bxNamed l m.name < 0)) := by unfold appB; rw [h1, h2, if_pos hk]; rfl
theorem app_neg {l : List BoxD} {m : ComD} (hk : ¬ m.kind = 1) (h : bxWith l m.validity < 0) : appB l m = false := by unfold appB; rw [if_neg hk, decide_eq_true h]; simp
theorem app_3 {l : List BoxD} {m : ComD} (h1 : boxesB l = true) (h2 : commitB m = true) (hk : m.kind = 3) (h : ¬ bxWith l m.validity < 0) : appB l m = decide (bxNamed l m.name < 0) := by unfold appB; rw [h1, h2, if_neg (by omega), decide_eq_false h, if_pos hk]; rfl
theorem app_4 {l : List BoxD} {m : ComD} {b : BoxD} (h1 : boxesB l = true) (h2 : commitB m = true) (hk : m.kind = 4) (h : ¬ bxWith l m.validity < 0) (hb : l[whereB l m.validity]? = some b) : appB l m = ((b.next == m.uid) && decide ((b.msgs.length : Int) < 6)) := by unfold appB; rw [h1, h2, if_neg (by omega), decide_eq_false h, if_neg (by omega), hb]; simp only [if_pos hk]; rfl
theorem app_56 {l : List BoxD} {m : ComD} {b : BoxD} (h1 : boxesB l = true) (h2 : commitB m = true) (hk : m.kind = 5 ∨ m.kind = 6) (h : ¬ bxWith l m.validity < 0) (hb : l[whereB l m.validity]? = some b) : appB l m = decide (0 ≤ bxPlace b m.uid) := by unfold appB; rw [h1, h2, if_neg (by omega), decide_eq_false h, if_neg (by omega), hb]; simp only [if_neg (show ¬ m.kind = 4 by omega), if_pos hk]; rfl
theorem app_2 {l : List BoxD} {m : ComD} {b : BoxD} (h1 : boxesB l = true) (h2 : commitB m = true) (hk : m.kind = 2) (h : ¬ bxWith l m.validity < 0) (hb : l[whereB l m.validity]? = some b) : appB l m = true := by unfold appB; rw [h1, h2, if_neg (by omega), decide_eq_false h, if_neg (by omega), hb]; simp only [if_neg (show ¬ m.kind = 4 by omega), if_neg (show ¬ (m.kind = 5 ∨ m.kind = 6) by omega)]; rfl
theorem whereB_eq {l : List BoxD} {v : Int} (h : ¬ bxWith l v < 0) : bxWith l v = ((whereB l v : Nat) : Int) := by unfold whereB; omega
theorem com_fit {x : ComD} (hs : szLs x.lf ≤ 1048576) (hbd : LsBnd x.lf) : x.name.length ≤ 1048576 ∧ in64 x.validity ∧ in64 x.uid := by
  rw [ComD.sz] at hs
  exact ⟨by omega, hbd.2.1, hbd.2.2.1⟩

end Go.Proofs.Ytbfgdbpfecffcaa
