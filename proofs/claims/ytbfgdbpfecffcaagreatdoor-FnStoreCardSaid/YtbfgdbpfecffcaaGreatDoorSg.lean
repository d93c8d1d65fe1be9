/-
  Sg: LawAppliedAll LawApplied LawApplies LawCommitOk LawEventOf (what the claim needs of them).
-/
import Derived.Test.YtbfgdbpfecffcaaGreatDoorRows
import Derived.WalkKit
import Derived.WalkSpells
import Derived.WalkLawsBesides
import Derived.Laws.IdiomStrings
import Derived.Lib.Hide
import Derived.Deep.AppendLies
import Derived.OrdersHeld
import Derived.Lib.ItoaNum
import Derived.Lib.ItoaMem
import Derived.Lib.AppendStr
import Derived.Lib.ItoaLen
import Derived.Lib.Strings
import Derived.Lib.Bytealg
import Derived.Lib.OthersKept
import Derived.Laws.RangeAny
import Derived.Laws.BitsAllLaws
import Derived.Laws.BitsLemmas
import Derived.IntWalk
import Derived.Handy
import Derived.Lib.Join
import Derived.Deep.Strs
import Derived.Test.YtbfgdbpfecffcaaGreatDoorProg
import Derived.Test.YtbfgdbpfecffcaaGreatDoorSb
import Derived.Test.YtbfgdbpfecffcaaGreatDoorSd
import Derived.Test.YtbfgdbpfecffcaaGreatDoorSe
import Derived.Test.YtbfgdbpfecffcaaGreatDoorSf

namespace Go.Proofs.YtbfgdbpfecffcaaGreatDoor
open Go.RowKit

def CtrAppliedAll (f : FuncId) (G : World → Prop) : Prop := ∀ (l_List : List BoxD) (v_List : Value) (l_Log : List ComD) (v_Log : Value) (W : World), G W → LfRd W (boxsLf l_List) v_List → CapLe v_List → szLf (boxsLf l_List) ≤ 1048576 → LfBnd (boxsLf l_List) → LfRd W (commitsLf l_Log) v_Log → CapLe v_Log → szLf (commitsLf l_Log) ≤ 1048576 → LfBnd (commitsLf l_Log) → 
  Calls Tryz.prog f #[v_List, v_Log] W fun e w' => ∃ z0 f0, e = .returned (.tuple #[z0, .bool ((allL l_List l_Log).2)]) ∧ LfIn w' (boxsLf ((allL l_List l_Log).1)) z0 f0 ∧ f0.Nodup ∧ (∀ q ∈ f0, W.heap.size ≤ q) ∧ Below W.heap.size W w'

end Go.Proofs.YtbfgdbpfecffcaaGreatDoor

namespace Go.Proofs.YtbfgdbpfecffcaaGreatDoor
open Go.RowKit

def CtrApplied (f : FuncId) (G : World → Prop) : Prop := ∀ (l_List : List BoxD) (v_List : Value) (x_M : ComD) (W : World), G W → LfRd W (boxsLf l_List) v_List → CapLe v_List → szLf (boxsLf l_List) ≤ 1048576 → LfBnd (boxsLf l_List) → szLs x_M.lf ≤ 1048576 → LsBnd x_M.lf → 
  Calls Tryz.prog f #[v_List, .agg #[.int .i64 x_M.kind, .int .i64 x_M.validity, .int .i64 x_M.uid, .int .i64 x_M.flags, sv x_M.name, sv x_M.text]] W fun e w' => ∃ z0 f0, e = .returned (.tuple #[z0, .bool (appB l_List x_M)]) ∧ LfIn w' (boxsLf (appliedL l_List x_M)) z0 f0 ∧ f0.Nodup ∧ (∀ q ∈ f0, W.heap.size ≤ q) ∧ Below W.heap.size W w'

end Go.Proofs.YtbfgdbpfecffcaaGreatDoor

namespace Go.Proofs.YtbfgdbpfecffcaaGreatDoor
open Go.RowKit

def CtrApplies (f : FuncId) (G : World → Prop) : Prop := ∀ (l_List : List BoxD) (v_List : Value) (x_M : ComD) (W : World), G W → LfRd W (boxsLf l_List) v_List → CapLe v_List → szLf (boxsLf l_List) ≤ 1048576 → LfBnd (boxsLf l_List) → szLs x_M.lf ≤ 1048576 → LsBnd x_M.lf → 
  Calls Tryz.prog f #[v_List, .agg #[.int .i64 x_M.kind, .int .i64 x_M.validity, .int .i64 x_M.uid, .int .i64 x_M.flags, sv x_M.name, sv x_M.text]] W fun e w' => e = .returned (.bool (appB l_List x_M)) ∧ Below W.heap.size W w'

end Go.Proofs.YtbfgdbpfecffcaaGreatDoor

namespace Go.Proofs.YtbfgdbpfecffcaaGreatDoor
open Go.RowKit

def CtrCommitOk (f : FuncId) (G : World → Prop) : Prop := ∀ (x_M : ComD) (W : World), G W → szLs x_M.lf ≤ 1048576 → LsBnd x_M.lf → 
  Calls Tryz.prog f #[.agg #[.int .i64 x_M.kind, .int .i64 x_M.validity, .int .i64 x_M.uid, .int .i64 x_M.flags, sv x_M.name, sv x_M.text]] W fun e w' => e = .returned (.bool (commitB x_M)) ∧ Below W.heap.size W w'

end Go.Proofs.YtbfgdbpfecffcaaGreatDoor
