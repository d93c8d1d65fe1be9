/-
  NARROWER THAN 'FOR EVERY INPUT', by the rows' own cells (each row's printed sentence says how): FnExactApplies: ifaces, laid · FnExactApplied: ifaces, laid · FnExactAppliedAll: ifaces, laid · FnApplied: ifaces, laid · FnApart: ifaces, laid · FnAppliedAll: ifaces, laid.
  DERIVED. THE GIVEN ROWS OF THIS SEAT. 6 by the template 'for every input the law returns true; each argument reads behind the call as it read before'; 0 by the template 'total and deterministic' (their statements: YthjeeggejkpjgaaGreatDoorTotals.lean).
  GIVEN WITH THE SEED: the statements are not yours to turn. If you find one false, say at which input.
  Laid BY PROGRAM, IN A SANDBOX (cutbox-rows.mjs): the forced cells as the released guide's own fill.sh prints them over the translation 6668fcd4b31598d9… (all of the seat's roots in one cut). By AI agents, Wed Nov 11 2026. No macro, syntax, notation, axiom, sorry.
-/
import Derived.Test.YthjeeggejkpjgaaGreatDoorChecked
import GoSem.Claim
import GoSem.ClaimJoined
import GoSem.ClaimMapViews
import Derived.JoinedTies
import Derived.KernelRfl
namespace Go.Proofs.YthjeeggejkpjgaaGreatDoor
/- THE CELL 'sum', in the pinned program and in every row, IS THE sha256 OF THE DUMP (.gsa) THAT YthjeeggejkpjgaaGreatDoorProg.lean LOADS. Nothing in Lean hashes anything: it is a label: what it is worth is what the hold of that sum in a sandbox is worth. -/
noncomputable def Tryz.pinned : Pinned := { name := "ythjeeggejkpjgaagreatdoor", sum := "6668fcd4b31598d9cbec41c04dc11d00bbf7ee300b6f45f5ab86253e579faf55", checked := Tryz.checked }
namespace Rows
def none {H : Type} : Left H := { results := [], args := [] }

/- WHAT THE LISTED PACKAGE-LEVEL VARIABLES READ AS WHEN THE CALL BEGINS. Each datum BY PROGRAM (the guide's laid-datum.mjs) off the statement by which the dump's own 'gosem.cut.vars' lays the variable. In a bare row this is a premise. The card (YthjeeggejkpjgaaGreatDoorCards.lean) ties it to the program's text. -/
def laid_loop_example_g00501_impl_errInapplicable {H : Type} : DataW H := .iface "*errors.errorString" (.ptr (.agg [.lit (.string [116, 104, 101, 32, 99, 111, 109, 109, 105, 116, 32, 100, 111, 101, 115, 32, 110, 111, 116, 32, 97, 112, 112, 108, 121])]))

/-- 'laws.FnExactApplies': WHATEVER THE INPUT: true; the input reads as it did. -/
def fnExactAppliesSpec : ChangeSpec := { name := "fnExactApplies", vars := ["loop.example/g00501/impl.errInapplicable"], fn := fun _ => fun
  | [d1, d2, g1] => { results := [.lit (.bool true)], args := [d1, d2], vars := [g1] }
  | _ => none }
def fnExactAppliesRow : OpenClaim := { program := "ythjeeggejkpjgaagreatdoor", sum := "6668fcd4b31598d9cbec41c04dc11d00bbf7ee300b6f45f5ab86253e579faf55", func := "loop.example/g00501/laws.FnExactApplies", spec := "fnExactApplies", inPlace := ["internal/bytealg.abigen_runtime_cmpstring", "internal/reflectlite.TypeOf"], unfollowed := true, recurses := true, named := ["loop.example/g00501/impl.errInapplicable"], ifaces := true, apart := false, laid := [("loop.example/g00501/impl.errInapplicable", laid_loop_example_g00501_impl_errInapplicable)] }
def FnExactAppliesSaid : Prop := fnExactAppliesRow.holds Tryz.pinned (OpenSpec.ofChange fnExactAppliesSpec)

/-- ITS FALSE NEIGHBOUR: 'it returns false'. Refute it at one input. -/
def fnExactAppliesWrong : ChangeSpec := { name := "fnExactApplies", vars := ["loop.example/g00501/impl.errInapplicable"], fn := fun _ => fun
  | [d1, d2, g1] => { results := [.lit (.bool false)], args := [d1, d2], vars := [g1] }
  | _ => none }
def FnExactAppliesWrongFalsely : Prop := fnExactAppliesRow.holds Tryz.pinned (OpenSpec.ofChange fnExactAppliesWrong)

/-- 'laws.FnExactApplied': WHATEVER THE INPUT: true; the input reads as it did. -/
def fnExactAppliedSpec : ChangeSpec := { name := "fnExactApplied", vars := ["loop.example/g00501/impl.errInapplicable"], fn := fun _ => fun
  | [d1, d2, g1] => { results := [.lit (.bool true)], args := [d1, d2], vars := [g1] }
  | _ => none }
def fnExactAppliedRow : OpenClaim := { program := "ythjeeggejkpjgaagreatdoor", sum := "6668fcd4b31598d9cbec41c04dc11d00bbf7ee300b6f45f5ab86253e579faf55", func := "loop.example/g00501/laws.FnExactApplied", spec := "fnExactApplied", inPlace := ["internal/bytealg.abigen_runtime_cmpstring", "internal/reflectlite.TypeOf"], unfollowed := true, recurses := true, named := ["loop.example/g00501/impl.errInapplicable"], ifaces := true, apart := false, laid := [("loop.example/g00501/impl.errInapplicable", laid_loop_example_g00501_impl_errInapplicable)] }
def FnExactAppliedSaid : Prop := fnExactAppliedRow.holds Tryz.pinned (OpenSpec.ofChange fnExactAppliedSpec)

/-- ITS FALSE NEIGHBOUR: 'it returns false'. Refute it at one input. -/
def fnExactAppliedWrong : ChangeSpec := { name := "fnExactApplied", vars := ["loop.example/g00501/impl.errInapplicable"], fn := fun _ => fun
  | [d1, d2, g1] => { results := [.lit (.bool false)], args := [d1, d2], vars := [g1] }
  | _ => none }
def FnExactAppliedWrongFalsely : Prop := fnExactAppliedRow.holds Tryz.pinned (OpenSpec.ofChange fnExactAppliedWrong)

/-- 'laws.FnExactAppliedAll': WHATEVER THE INPUT: true; the input reads as it did. -/
def fnExactAppliedAllSpec : ChangeSpec := { name := "fnExactAppliedAll", vars := ["loop.example/g00501/impl.errInapplicable"], fn := fun _ => fun
  | [d1, d2, g1] => { results := [.lit (.bool true)], args := [d1, d2], vars := [g1] }
  | _ => none }
def fnExactAppliedAllRow : OpenClaim := { program := "ythjeeggejkpjgaagreatdoor", sum := "6668fcd4b31598d9cbec41c04dc11d00bbf7ee300b6f45f5ab86253e579faf55", func := "loop.example/g00501/laws.FnExactAppliedAll", spec := "fnExactAppliedAll", inPlace := ["internal/bytealg.abigen_runtime_cmpstring", "internal/reflectlite.TypeOf"], unfollowed := true, recurses := true, named := ["loop.example/g00501/impl.errInapplicable"], ifaces := true, apart := false, laid := [("loop.example/g00501/impl.errInapplicable", laid_loop_example_g00501_impl_errInapplicable)] }
def FnExactAppliedAllSaid : Prop := fnExactAppliedAllRow.holds Tryz.pinned (OpenSpec.ofChange fnExactAppliedAllSpec)

/-- ITS FALSE NEIGHBOUR: 'it returns false'. Refute it at one input. -/
def fnExactAppliedAllWrong : ChangeSpec := { name := "fnExactAppliedAll", vars := ["loop.example/g00501/impl.errInapplicable"], fn := fun _ => fun
  | [d1, d2, g1] => { results := [.lit (.bool false)], args := [d1, d2], vars := [g1] }
  | _ => none }
def FnExactAppliedAllWrongFalsely : Prop := fnExactAppliedAllRow.holds Tryz.pinned (OpenSpec.ofChange fnExactAppliedAllWrong)

/-- 'laws.FnApplied': WHATEVER THE INPUT: true; the input reads as it did. -/
def fnAppliedSpec : ChangeSpec := { name := "fnApplied", vars := ["loop.example/g00501/impl.errInapplicable"], fn := fun _ => fun
  | [d, g1] => { results := [.lit (.bool true)], args := [d], vars := [g1] }
  | _ => none }
def fnAppliedRow : OpenClaim := { program := "ythjeeggejkpjgaagreatdoor", sum := "6668fcd4b31598d9cbec41c04dc11d00bbf7ee300b6f45f5ab86253e579faf55", func := "loop.example/g00501/laws.FnApplied", spec := "fnApplied", inPlace := ["internal/bytealg.abigen_runtime_cmpstring", "internal/reflectlite.TypeOf"], unfollowed := true, recurses := true, named := ["loop.example/g00501/impl.errInapplicable"], ifaces := true, apart := false, laid := [("loop.example/g00501/impl.errInapplicable", laid_loop_example_g00501_impl_errInapplicable)] }
def FnAppliedSaid : Prop := fnAppliedRow.holds Tryz.pinned (OpenSpec.ofChange fnAppliedSpec)

/-- ITS FALSE NEIGHBOUR: 'it returns false'. Refute it at one input. -/
def fnAppliedWrong : ChangeSpec := { name := "fnApplied", vars := ["loop.example/g00501/impl.errInapplicable"], fn := fun _ => fun
  | [d, g1] => { results := [.lit (.bool false)], args := [d], vars := [g1] }
  | _ => none }
def FnAppliedWrongFalsely : Prop := fnAppliedRow.holds Tryz.pinned (OpenSpec.ofChange fnAppliedWrong)

/-- 'laws.FnApart': WHATEVER THE INPUT: true; the input reads as it did. -/
def fnApartSpec : ChangeSpec := { name := "fnApart", vars := ["loop.example/g00501/impl.errInapplicable"], fn := fun _ => fun
  | [d, g1] => { results := [.lit (.bool true)], args := [d], vars := [g1] }
  | _ => none }
def fnApartRow : OpenClaim := { program := "ythjeeggejkpjgaagreatdoor", sum := "6668fcd4b31598d9cbec41c04dc11d00bbf7ee300b6f45f5ab86253e579faf55", func := "loop.example/g00501/laws.FnApart", spec := "fnApart", inPlace := ["internal/bytealg.abigen_runtime_cmpstring", "internal/reflectlite.TypeOf"], unfollowed := true, recurses := true, named := ["loop.example/g00501/impl.errInapplicable"], ifaces := true, apart := false, laid := [("loop.example/g00501/impl.errInapplicable", laid_loop_example_g00501_impl_errInapplicable)] }
def FnApartSaid : Prop := fnApartRow.holds Tryz.pinned (OpenSpec.ofChange fnApartSpec)

/-- ITS FALSE NEIGHBOUR: 'it returns false'. Refute it at one input. -/
def fnApartWrong : ChangeSpec := { name := "fnApart", vars := ["loop.example/g00501/impl.errInapplicable"], fn := fun _ => fun
  | [d, g1] => { results := [.lit (.bool false)], args := [d], vars := [g1] }
  | _ => none }
def FnApartWrongFalsely : Prop := fnApartRow.holds Tryz.pinned (OpenSpec.ofChange fnApartWrong)

/-- 'laws.FnAppliedAll': WHATEVER THE INPUT: true; the input reads as it did. -/
def fnAppliedAllSpec : ChangeSpec := { name := "fnAppliedAll", vars := ["loop.example/g00501/impl.errInapplicable"], fn := fun _ => fun
  | [d, g1] => { results := [.lit (.bool true)], args := [d], vars := [g1] }
  | _ => none }
def fnAppliedAllRow : OpenClaim := { program := "ythjeeggejkpjgaagreatdoor", sum := "6668fcd4b31598d9cbec41c04dc11d00bbf7ee300b6f45f5ab86253e579faf55", func := "loop.example/g00501/laws.FnAppliedAll", spec := "fnAppliedAll", inPlace := ["internal/bytealg.abigen_runtime_cmpstring", "internal/reflectlite.TypeOf"], unfollowed := true, recurses := true, named := ["loop.example/g00501/impl.errInapplicable"], ifaces := true, apart := false, laid := [("loop.example/g00501/impl.errInapplicable", laid_loop_example_g00501_impl_errInapplicable)] }
def FnAppliedAllSaid : Prop := fnAppliedAllRow.holds Tryz.pinned (OpenSpec.ofChange fnAppliedAllSpec)

/-- ITS FALSE NEIGHBOUR: 'it returns false'. Refute it at one input. -/
def fnAppliedAllWrong : ChangeSpec := { name := "fnAppliedAll", vars := ["loop.example/g00501/impl.errInapplicable"], fn := fun _ => fun
  | [d, g1] => { results := [.lit (.bool false)], args := [d], vars := [g1] }
  | _ => none }
def FnAppliedAllWrongFalsely : Prop := fnAppliedAllRow.holds Tryz.pinned (OpenSpec.ofChange fnAppliedAllWrong)

/- THE SECOND FORM. 'bulk': how many values and letters a reading holds, each counted each time it is reached (what is shared counts as often as it is met; a slice's spare places count too). A statement '..UptoSaid' is the law's where the arguments, and the package variables that the reading takes, are together of bulk at most 1048576: NARROWER than '..Said'. Prove '..Said' where nothing that the law and all that it calls make is longer than what came in: it says more and counts as full. Else prove '..UptoSaid'. A law counts once. -/
mutual
def uptoBulk {H : Type} : DataW H → Nat
  | .lit (.string bytes) => bytes.length + 1
  | .lit _ => 1
  | .nil => 1
  | .ptr d => uptoBulk d + 1
  | .slice elems spare => uptoBulkAll elems + uptoBulkAll spare + 1
  | .agg parts => uptoBulkAll parts + 1
  | .iface _ d => uptoBulk d + 1
  | .map entries => uptoBulkEntries entries + 1
  | .held _ => 1
def uptoBulkAll {H : Type} : List (DataW H) → Nat
  | [] => 0
  | d :: r => uptoBulk d + uptoBulkAll r
def uptoBulkEntries {H : Type} : List (Lit × DataW H) → Nat
  | [] => 0
  | x :: r => uptoBulkEntry x + uptoBulkEntries r
def uptoBulkEntry {H : Type} : Lit × DataW H → Nat
  | (.string bytes, d) => bytes.length + uptoBulk d + 1
  | (_, d) => uptoBulk d + 1
 end
def uptoSmall : (H : Type) → List (DataW H) → Bool := fun _ ds => decide (uptoBulkAll ds ≤ 1048576)
def OpenSpec.upto (s : _root_.Go.ChangeSpec) : _root_.Go.OpenSpec := { _root_.Go.OpenSpec.ofChange s with cond := some uptoSmall }

/-- 'laws.FnExactApplies', WHERE WHAT IT READS IS OF BULK AT MOST 1048576: true; the input reads as it did. -/
def fnExactAppliesUptoRow : OpenClaim := { program := "ythjeeggejkpjgaagreatdoor", sum := "6668fcd4b31598d9cbec41c04dc11d00bbf7ee300b6f45f5ab86253e579faf55", func := "loop.example/g00501/laws.FnExactApplies", spec := "fnExactApplies", inPlace := ["internal/bytealg.abigen_runtime_cmpstring", "internal/reflectlite.TypeOf"], unfollowed := true, recurses := true, named := ["loop.example/g00501/impl.errInapplicable"], ifaces := true, apart := false, laid := [("loop.example/g00501/impl.errInapplicable", laid_loop_example_g00501_impl_errInapplicable)], narrowed := true }
def FnExactAppliesUptoSaid : Prop := fnExactAppliesUptoRow.holds Tryz.pinned (OpenSpec.upto fnExactAppliesSpec)

/-- 'laws.FnExactApplied', WHERE WHAT IT READS IS OF BULK AT MOST 1048576: true; the input reads as it did. -/
def fnExactAppliedUptoRow : OpenClaim := { program := "ythjeeggejkpjgaagreatdoor", sum := "6668fcd4b31598d9cbec41c04dc11d00bbf7ee300b6f45f5ab86253e579faf55", func := "loop.example/g00501/laws.FnExactApplied", spec := "fnExactApplied", inPlace := ["internal/bytealg.abigen_runtime_cmpstring", "internal/reflectlite.TypeOf"], unfollowed := true, recurses := true, named := ["loop.example/g00501/impl.errInapplicable"], ifaces := true, apart := false, laid := [("loop.example/g00501/impl.errInapplicable", laid_loop_example_g00501_impl_errInapplicable)], narrowed := true }
def FnExactAppliedUptoSaid : Prop := fnExactAppliedUptoRow.holds Tryz.pinned (OpenSpec.upto fnExactAppliedSpec)

/-- 'laws.FnExactAppliedAll', WHERE WHAT IT READS IS OF BULK AT MOST 1048576: true; the input reads as it did. -/
def fnExactAppliedAllUptoRow : OpenClaim := { program := "ythjeeggejkpjgaagreatdoor", sum := "6668fcd4b31598d9cbec41c04dc11d00bbf7ee300b6f45f5ab86253e579faf55", func := "loop.example/g00501/laws.FnExactAppliedAll", spec := "fnExactAppliedAll", inPlace := ["internal/bytealg.abigen_runtime_cmpstring", "internal/reflectlite.TypeOf"], unfollowed := true, recurses := true, named := ["loop.example/g00501/impl.errInapplicable"], ifaces := true, apart := false, laid := [("loop.example/g00501/impl.errInapplicable", laid_loop_example_g00501_impl_errInapplicable)], narrowed := true }
def FnExactAppliedAllUptoSaid : Prop := fnExactAppliedAllUptoRow.holds Tryz.pinned (OpenSpec.upto fnExactAppliedAllSpec)

/-- 'laws.FnApplied', WHERE WHAT IT READS IS OF BULK AT MOST 1048576: true; the input reads as it did. -/
def fnAppliedUptoRow : OpenClaim := { program := "ythjeeggejkpjgaagreatdoor", sum := "6668fcd4b31598d9cbec41c04dc11d00bbf7ee300b6f45f5ab86253e579faf55", func := "loop.example/g00501/laws.FnApplied", spec := "fnApplied", inPlace := ["internal/bytealg.abigen_runtime_cmpstring", "internal/reflectlite.TypeOf"], unfollowed := true, recurses := true, named := ["loop.example/g00501/impl.errInapplicable"], ifaces := true, apart := false, laid := [("loop.example/g00501/impl.errInapplicable", laid_loop_example_g00501_impl_errInapplicable)], narrowed := true }
def FnAppliedUptoSaid : Prop := fnAppliedUptoRow.holds Tryz.pinned (OpenSpec.upto fnAppliedSpec)

/-- 'laws.FnApart', WHERE WHAT IT READS IS OF BULK AT MOST 1048576: true; the input reads as it did. -/
def fnApartUptoRow : OpenClaim := { program := "ythjeeggejkpjgaagreatdoor", sum := "6668fcd4b31598d9cbec41c04dc11d00bbf7ee300b6f45f5ab86253e579faf55", func := "loop.example/g00501/laws.FnApart", spec := "fnApart", inPlace := ["internal/bytealg.abigen_runtime_cmpstring", "internal/reflectlite.TypeOf"], unfollowed := true, recurses := true, named := ["loop.example/g00501/impl.errInapplicable"], ifaces := true, apart := false, laid := [("loop.example/g00501/impl.errInapplicable", laid_loop_example_g00501_impl_errInapplicable)], narrowed := true }
def FnApartUptoSaid : Prop := fnApartUptoRow.holds Tryz.pinned (OpenSpec.upto fnApartSpec)

/-- 'laws.FnAppliedAll', WHERE WHAT IT READS IS OF BULK AT MOST 1048576: true; the input reads as it did. -/
def fnAppliedAllUptoRow : OpenClaim := { program := "ythjeeggejkpjgaagreatdoor", sum := "6668fcd4b31598d9cbec41c04dc11d00bbf7ee300b6f45f5ab86253e579faf55", func := "loop.example/g00501/laws.FnAppliedAll", spec := "fnAppliedAll", inPlace := ["internal/bytealg.abigen_runtime_cmpstring", "internal/reflectlite.TypeOf"], unfollowed := true, recurses := true, named := ["loop.example/g00501/impl.errInapplicable"], ifaces := true, apart := false, laid := [("loop.example/g00501/impl.errInapplicable", laid_loop_example_g00501_impl_errInapplicable)], narrowed := true }
def FnAppliedAllUptoSaid : Prop := fnAppliedAllUptoRow.holds Tryz.pinned (OpenSpec.upto fnAppliedAllSpec)

end Rows
end Go.Proofs.YthjeeggejkpjgaaGreatDoor
