/-
  NARROWER THAN 'FOR EVERY INPUT', by the rows' own cells (each row's printed sentence says how): FnApplied: ifaces, laid · FnApart: ifaces, laid · FnAppliedAll: ifaces, laid · FnStore: ifaces, laid · FnCommitted: ifaces, laid · FnExactApplies: ifaces, laid · FnExactApplied: ifaces, laid · FnExactAppliedAll: ifaces, laid · FnExactStoreNew: ifaces, laid · FnExactStoreOk: ifaces, laid · FnExactBoxesAt: ifaces, laid · FnExactBoxAt: ifaces, laid · FnExactCommitted: ifaces, laid.
  DERIVED. THE GIVEN ROWS OF THIS SEAT. 13 by the template 'for every input the law returns true; each argument reads behind the call as it read before'; 0 by the template 'total and deterministic' (their statements: YtbfgdbpfecffcaaGreatDoorTotals.lean).
  GIVEN WITH THE SEED: the statements are not yours to turn. If you find one false, say at which input.
  Laid BY PROGRAM, IN A SANDBOX (cutbox-rows.mjs): the forced cells as the released guide's own fill.sh prints them over the translation 66e4497d11f8ab33… (all of the seat's roots in one cut). By AI agents, Wed Nov 11 2026. No macro, syntax, notation, axiom, sorry.
-/
import Derived.Test.YtbfgdbpfecffcaaGreatDoorChecked
import GoSem.Claim
import GoSem.ClaimJoined
import GoSem.ClaimMapViews
import Derived.JoinedTies
import Derived.KernelRfl
namespace Go.Proofs.YtbfgdbpfecffcaaGreatDoor
/- THE CELL 'sum', in the pinned program and in every row, IS THE sha256 OF THE DUMP (.gsa) THAT YtbfgdbpfecffcaaGreatDoorProg.lean LOADS. Nothing in Lean hashes anything: it is a label: what it is worth is what the hold of that sum in a sandbox is worth. -/
noncomputable def Tryz.pinned : Pinned := { name := "ytbfgdbpfecffcaagreatdoor", sum := "66e4497d11f8ab33528f7b1cdc5df4c5d58a34156c7489ed05007c77b01b6c0d", checked := Tryz.checked }
namespace Rows
def none {H : Type} : Left H := { results := [], args := [] }

/- WHAT THE LISTED PACKAGE-LEVEL VARIABLES READ AS WHEN THE CALL BEGINS. Each datum BY PROGRAM (the guide's laid-datum.mjs) off the statement by which the dump's own 'gosem.cut.vars' lays the variable. In a bare row this is a premise. The card (YtbfgdbpfecffcaaGreatDoorCards.lean) ties it to the program's text. -/
def laid_loop_example_g00501_impl_errInapplicable {H : Type} : DataW H := .iface "*errors.errorString" (.ptr (.agg [.lit (.string [116, 104, 101, 32, 99, 111, 109, 109, 105, 116, 32, 100, 111, 101, 115, 32, 110, 111, 116, 32, 97, 112, 112, 108, 121])]))

/-- 'laws.FnApplied': WHATEVER THE INPUT: true; the input reads as it did. -/
def fnAppliedSpec : ChangeSpec := { name := "fnApplied", vars := ["loop.example/g00501/impl.errInapplicable"], fn := fun _ => fun
  | [d, g1] => { results := [.lit (.bool true)], args := [d], vars := [g1] }
  | _ => none }
def fnAppliedRow : OpenClaim := { program := "ytbfgdbpfecffcaagreatdoor", sum := "66e4497d11f8ab33528f7b1cdc5df4c5d58a34156c7489ed05007c77b01b6c0d", func := "loop.example/g00501/laws.FnApplied", spec := "fnApplied", inPlace := ["internal/bytealg.abigen_runtime_cmpstring", "internal/reflectlite.TypeOf"], unfollowed := true, recurses := true, named := ["loop.example/g00501/impl.errInapplicable"], ifaces := true, apart := false, laid := [("loop.example/g00501/impl.errInapplicable", laid_loop_example_g00501_impl_errInapplicable)] }
def FnAppliedSaid : Prop := fnAppliedRow.holds Tryz.pinned (OpenSpec.ofChange fnAppliedSpec)

/-- ITS FALSE NEIGHBOUR: 'it returns false'. Refute it at one input. -/
def fnAppliedWrong : ChangeSpec := { name := "fnApplied", vars := ["loop.example/g00501/impl.errInapplicable"], fn := fun _ => fun
  | [d, g1] => { results := [.lit (.bool false)], args := [d], vars := [g1] }
  | _ => none }
def FnAppliedWrongFalsely : Prop := fnAppliedRow.holds Tryz.pinned (OpenSpec.ofChange fnAppliedWrong)

/-- 'laws.FnApart': WHATEVER THE INPUT: true; the input reads as it did. -/
def fnApartSpec : ChangeSpec := { name := "fnApart", vars := ["loop.example/g00501/impl.errInapplicable"], fn := fun _ => fun
  | [d, g1] => { results := [.lit (.bool true)], args := [d], vars := [g1] }
  | _ => none }
def fnApartRow : OpenClaim := { program := "ytbfgdbpfecffcaagreatdoor", sum := "66e4497d11f8ab33528f7b1cdc5df4c5d58a34156c7489ed05007c77b01b6c0d", func := "loop.example/g00501/laws.FnApart", spec := "fnApart", inPlace := ["internal/bytealg.abigen_runtime_cmpstring", "internal/reflectlite.TypeOf"], unfollowed := true, recurses := true, named := ["loop.example/g00501/impl.errInapplicable"], ifaces := true, apart := false, laid := [("loop.example/g00501/impl.errInapplicable", laid_loop_example_g00501_impl_errInapplicable)] }
def FnApartSaid : Prop := fnApartRow.holds Tryz.pinned (OpenSpec.ofChange fnApartSpec)

/-- ITS FALSE NEIGHBOUR: 'it returns false'. Refute it at one input. -/
def fnApartWrong : ChangeSpec := { name := "fnApart", vars := ["loop.example/g00501/impl.errInapplicable"], fn := fun _ => fun
  | [d, g1] => { results := [.lit (.bool false)], args := [d], vars := [g1] }
  | _ => none }
def FnApartWrongFalsely : Prop := fnApartRow.holds Tryz.pinned (OpenSpec.ofChange fnApartWrong)

/-- 'laws.FnAppliedAll': WHATEVER THE INPUT: true; the input reads as it did. -/
def fnAppliedAllSpec : ChangeSpec := { name := "fnAppliedAll", vars := ["loop.example/g00501/impl.errInapplicable"], fn := fun _ => fun
  | [d, g1] => { results := [.lit (.bool true)], args := [d], vars := [g1] }
  | _ => none }
def fnAppliedAllRow : OpenClaim := { program := "ytbfgdbpfecffcaagreatdoor", sum := "66e4497d11f8ab33528f7b1cdc5df4c5d58a34156c7489ed05007c77b01b6c0d", func := "loop.example/g00501/laws.FnAppliedAll", spec := "fnAppliedAll", inPlace := ["internal/bytealg.abigen_runtime_cmpstring", "internal/reflectlite.TypeOf"], unfollowed := true, recurses := true, named := ["loop.example/g00501/impl.errInapplicable"], ifaces := true, apart := false, laid := [("loop.example/g00501/impl.errInapplicable", laid_loop_example_g00501_impl_errInapplicable)] }
def FnAppliedAllSaid : Prop := fnAppliedAllRow.holds Tryz.pinned (OpenSpec.ofChange fnAppliedAllSpec)

/-- ITS FALSE NEIGHBOUR: 'it returns false'. Refute it at one input. -/
def fnAppliedAllWrong : ChangeSpec := { name := "fnAppliedAll", vars := ["loop.example/g00501/impl.errInapplicable"], fn := fun _ => fun
  | [d, g1] => { results := [.lit (.bool false)], args := [d], vars := [g1] }
  | _ => none }
def FnAppliedAllWrongFalsely : Prop := fnAppliedAllRow.holds Tryz.pinned (OpenSpec.ofChange fnAppliedAllWrong)

/-- 'laws.FnStore': WHATEVER THE INPUT: true; the input reads as it did. -/
def fnStoreSpec : ChangeSpec := { name := "fnStore", vars := ["loop.example/g00501/impl.errInapplicable"], fn := fun _ => fun
  | [d, g1] => { results := [.lit (.bool true)], args := [d], vars := [g1] }
  | _ => none }
def fnStoreRow : OpenClaim := { program := "ytbfgdbpfecffcaagreatdoor", sum := "66e4497d11f8ab33528f7b1cdc5df4c5d58a34156c7489ed05007c77b01b6c0d", func := "loop.example/g00501/laws.FnStore", spec := "fnStore", inPlace := ["internal/bytealg.abigen_runtime_cmpstring", "internal/reflectlite.TypeOf"], unfollowed := true, recurses := true, named := ["loop.example/g00501/impl.errInapplicable"], ifaces := true, apart := false, laid := [("loop.example/g00501/impl.errInapplicable", laid_loop_example_g00501_impl_errInapplicable)] }
def FnStoreSaid : Prop := fnStoreRow.holds Tryz.pinned (OpenSpec.ofChange fnStoreSpec)

/-- ITS FALSE NEIGHBOUR: 'it returns false'. Refute it at one input. -/
def fnStoreWrong : ChangeSpec := { name := "fnStore", vars := ["loop.example/g00501/impl.errInapplicable"], fn := fun _ => fun
  | [d, g1] => { results := [.lit (.bool false)], args := [d], vars := [g1] }
  | _ => none }
def FnStoreWrongFalsely : Prop := fnStoreRow.holds Tryz.pinned (OpenSpec.ofChange fnStoreWrong)

/-- 'laws.FnCommitted': WHATEVER THE INPUT: true; the input reads as it did. -/
def fnCommittedSpec : ChangeSpec := { name := "fnCommitted", vars := ["loop.example/g00501/impl.errInapplicable"], fn := fun _ => fun
  | [d, g1] => { results := [.lit (.bool true)], args := [d], vars := [g1] }
  | _ => none }
def fnCommittedRow : OpenClaim := { program := "ytbfgdbpfecffcaagreatdoor", sum := "66e4497d11f8ab33528f7b1cdc5df4c5d58a34156c7489ed05007c77b01b6c0d", func := "loop.example/g00501/laws.FnCommitted", spec := "fnCommitted", inPlace := ["internal/bytealg.abigen_runtime_cmpstring", "internal/reflectlite.TypeOf"], unfollowed := true, recurses := true, named := ["loop.example/g00501/impl.errInapplicable"], ifaces := true, apart := false, laid := [("loop.example/g00501/impl.errInapplicable", laid_loop_example_g00501_impl_errInapplicable)] }
def FnCommittedSaid : Prop := fnCommittedRow.holds Tryz.pinned (OpenSpec.ofChange fnCommittedSpec)

/-- ITS FALSE NEIGHBOUR: 'it returns false'. Refute it at one input. -/
def fnCommittedWrong : ChangeSpec := { name := "fnCommitted", vars := ["loop.example/g00501/impl.errInapplicable"], fn := fun _ => fun
  | [d, g1] => { results := [.lit (.bool false)], args := [d], vars := [g1] }
  | _ => none }
def FnCommittedWrongFalsely : Prop := fnCommittedRow.holds Tryz.pinned (OpenSpec.ofChange fnCommittedWrong)

/-- 'laws.FnExactApplies': WHATEVER THE INPUT: true; the input reads as it did. -/
def fnExactAppliesSpec : ChangeSpec := { name := "fnExactApplies", vars := ["loop.example/g00501/impl.errInapplicable"], fn := fun _ => fun
  | [d1, d2, g1] => { results := [.lit (.bool true)], args := [d1, d2], vars := [g1] }
  | _ => none }
def fnExactAppliesRow : OpenClaim := { program := "ytbfgdbpfecffcaagreatdoor", sum := "66e4497d11f8ab33528f7b1cdc5df4c5d58a34156c7489ed05007c77b01b6c0d", func := "loop.example/g00501/laws.FnExactApplies", spec := "fnExactApplies", inPlace := ["internal/bytealg.abigen_runtime_cmpstring", "internal/reflectlite.TypeOf"], unfollowed := true, recurses := true, named := ["loop.example/g00501/impl.errInapplicable"], ifaces := true, apart := false, laid := [("loop.example/g00501/impl.errInapplicable", laid_loop_example_g00501_impl_errInapplicable)] }
def FnExactAppliesSaid : Prop := fnExactAppliesRow.holds Tryz.pinned (OpenSpec.ofChange fnExactAppliesSpec)

/-- ITS FALSE NEIGHBOUR: 'it returns false'. Refute it at one input. -/
def fnExactAppliesWrong : ChangeSpec := { name := "fnExactApplies", vars := ["loop.example/g00501/impl.errInapplicable"], fn := fun _ => fun
  | [d1, d2, g1] => { results := [.lit (.bool false)], args := [d1, d2], vars := [g1] }
  | _ => none }
def FnExactAppliesWrongFalsely : Prop := fnExactAppliesRow.holds Tryz.pinned (OpenSpec.ofChange fnExactAppliesWrong)

/-- 'laws.FnExactApplied': WHATEVER THE INPUT: true; the input reads as it did. -/
def fnExactAppliedSpec : ChangeSpec := { name := "fnExactApplied", vars := ["loop.example/g00501/impl.errInapplicable"], fn := fun _ => fun
  | [d1, d2, g1] => { results := [.lit (.bool true)], args := [d1, d2], vars := [g1] }
  | _ => none }
def fnExactAppliedRow : OpenClaim := { program := "ytbfgdbpfecffcaagreatdoor", sum := "66e4497d11f8ab33528f7b1cdc5df4c5d58a34156c7489ed05007c77b01b6c0d", func := "loop.example/g00501/laws.FnExactApplied", spec := "fnExactApplied", inPlace := ["internal/bytealg.abigen_runtime_cmpstring", "internal/reflectlite.TypeOf"], unfollowed := true, recurses := true, named := ["loop.example/g00501/impl.errInapplicable"], ifaces := true, apart := false, laid := [("loop.example/g00501/impl.errInapplicable", laid_loop_example_g00501_impl_errInapplicable)] }
def FnExactAppliedSaid : Prop := fnExactAppliedRow.holds Tryz.pinned (OpenSpec.ofChange fnExactAppliedSpec)

/-- ITS FALSE NEIGHBOUR: 'it returns false'. Refute it at one input. -/
def fnExactAppliedWrong : ChangeSpec := { name := "fnExactApplied", vars := ["loop.example/g00501/impl.errInapplicable"], fn := fun _ => fun
  | [d1, d2, g1] => { results := [.lit (.bool false)], args := [d1, d2], vars := [g1] }
  | _ => none }
def FnExactAppliedWrongFalsely : Prop := fnExactAppliedRow.holds Tryz.pinned (OpenSpec.ofChange fnExactAppliedWrong)

/-- 'laws.FnExactAppliedAll': WHATEVER THE INPUT: true; the input reads as it did. -/
def fnExactAppliedAllSpec : ChangeSpec := { name := "fnExactAppliedAll", vars := ["loop.example/g00501/impl.errInapplicable"], fn := fun _ => fun
  | [d1, d2, g1] => { results := [.lit (.bool true)], args := [d1, d2], vars := [g1] }
  | _ => none }
def fnExactAppliedAllRow : OpenClaim := { program := "ytbfgdbpfecffcaagreatdoor", sum := "66e4497d11f8ab33528f7b1cdc5df4c5d58a34156c7489ed05007c77b01b6c0d", func := "loop.example/g00501/laws.FnExactAppliedAll", spec := "fnExactAppliedAll", inPlace := ["internal/bytealg.abigen_runtime_cmpstring", "internal/reflectlite.TypeOf"], unfollowed := true, recurses := true, named := ["loop.example/g00501/impl.errInapplicable"], ifaces := true, apart := false, laid := [("loop.example/g00501/impl.errInapplicable", laid_loop_example_g00501_impl_errInapplicable)] }
def FnExactAppliedAllSaid : Prop := fnExactAppliedAllRow.holds Tryz.pinned (OpenSpec.ofChange fnExactAppliedAllSpec)

/-- ITS FALSE NEIGHBOUR: 'it returns false'. Refute it at one input. -/
def fnExactAppliedAllWrong : ChangeSpec := { name := "fnExactAppliedAll", vars := ["loop.example/g00501/impl.errInapplicable"], fn := fun _ => fun
  | [d1, d2, g1] => { results := [.lit (.bool false)], args := [d1, d2], vars := [g1] }
  | _ => none }
def FnExactAppliedAllWrongFalsely : Prop := fnExactAppliedAllRow.holds Tryz.pinned (OpenSpec.ofChange fnExactAppliedAllWrong)

/-- 'laws.FnExactStoreNew': WHATEVER THE INPUT: true; the input reads as it did. -/
def fnExactStoreNewSpec : ChangeSpec := { name := "fnExactStoreNew", vars := ["loop.example/g00501/impl.errInapplicable"], fn := fun _ => fun
  | [g1] => { results := [.lit (.bool true)], args := [], vars := [g1] }
  | _ => none }
def fnExactStoreNewRow : OpenClaim := { program := "ytbfgdbpfecffcaagreatdoor", sum := "66e4497d11f8ab33528f7b1cdc5df4c5d58a34156c7489ed05007c77b01b6c0d", func := "loop.example/g00501/laws.FnExactStoreNew", spec := "fnExactStoreNew", inPlace := ["internal/bytealg.abigen_runtime_cmpstring", "internal/reflectlite.TypeOf"], unfollowed := true, recurses := true, named := ["loop.example/g00501/impl.errInapplicable"], ifaces := true, apart := false, laid := [("loop.example/g00501/impl.errInapplicable", laid_loop_example_g00501_impl_errInapplicable)] }
def FnExactStoreNewSaid : Prop := fnExactStoreNewRow.holds Tryz.pinned (OpenSpec.ofChange fnExactStoreNewSpec)

/-- ITS FALSE NEIGHBOUR: 'it returns false'. Refute it at one input. -/
def fnExactStoreNewWrong : ChangeSpec := { name := "fnExactStoreNew", vars := ["loop.example/g00501/impl.errInapplicable"], fn := fun _ => fun
  | [g1] => { results := [.lit (.bool false)], args := [], vars := [g1] }
  | _ => none }
def FnExactStoreNewWrongFalsely : Prop := fnExactStoreNewRow.holds Tryz.pinned (OpenSpec.ofChange fnExactStoreNewWrong)

/-- 'laws.FnExactStoreOk': WHATEVER THE INPUT: true; the input reads as it did. -/
def fnExactStoreOkSpec : ChangeSpec := { name := "fnExactStoreOk", vars := ["loop.example/g00501/impl.errInapplicable"], fn := fun _ => fun
  | [d, g1] => { results := [.lit (.bool true)], args := [d], vars := [g1] }
  | _ => none }
def fnExactStoreOkRow : OpenClaim := { program := "ytbfgdbpfecffcaagreatdoor", sum := "66e4497d11f8ab33528f7b1cdc5df4c5d58a34156c7489ed05007c77b01b6c0d", func := "loop.example/g00501/laws.FnExactStoreOk", spec := "fnExactStoreOk", inPlace := ["internal/bytealg.abigen_runtime_cmpstring", "internal/reflectlite.TypeOf"], unfollowed := true, recurses := true, named := ["loop.example/g00501/impl.errInapplicable"], ifaces := true, apart := false, laid := [("loop.example/g00501/impl.errInapplicable", laid_loop_example_g00501_impl_errInapplicable)] }
def FnExactStoreOkSaid : Prop := fnExactStoreOkRow.holds Tryz.pinned (OpenSpec.ofChange fnExactStoreOkSpec)

/-- ITS FALSE NEIGHBOUR: 'it returns false'. Refute it at one input. -/
def fnExactStoreOkWrong : ChangeSpec := { name := "fnExactStoreOk", vars := ["loop.example/g00501/impl.errInapplicable"], fn := fun _ => fun
  | [d, g1] => { results := [.lit (.bool false)], args := [d], vars := [g1] }
  | _ => none }
def FnExactStoreOkWrongFalsely : Prop := fnExactStoreOkRow.holds Tryz.pinned (OpenSpec.ofChange fnExactStoreOkWrong)

/-- 'laws.FnExactBoxesAt': WHATEVER THE INPUT: true; the input reads as it did. -/
def fnExactBoxesAtSpec : ChangeSpec := { name := "fnExactBoxesAt", vars := ["loop.example/g00501/impl.errInapplicable"], fn := fun _ => fun
  | [d1, d2, g1] => { results := [.lit (.bool true)], args := [d1, d2], vars := [g1] }
  | _ => none }
def fnExactBoxesAtRow : OpenClaim := { program := "ytbfgdbpfecffcaagreatdoor", sum := "66e4497d11f8ab33528f7b1cdc5df4c5d58a34156c7489ed05007c77b01b6c0d", func := "loop.example/g00501/laws.FnExactBoxesAt", spec := "fnExactBoxesAt", inPlace := ["internal/bytealg.abigen_runtime_cmpstring", "internal/reflectlite.TypeOf"], unfollowed := true, recurses := true, named := ["loop.example/g00501/impl.errInapplicable"], ifaces := true, apart := false, laid := [("loop.example/g00501/impl.errInapplicable", laid_loop_example_g00501_impl_errInapplicable)] }
def FnExactBoxesAtSaid : Prop := fnExactBoxesAtRow.holds Tryz.pinned (OpenSpec.ofChange fnExactBoxesAtSpec)

/-- ITS FALSE NEIGHBOUR: 'it returns false'. Refute it at one input. -/
def fnExactBoxesAtWrong : ChangeSpec := { name := "fnExactBoxesAt", vars := ["loop.example/g00501/impl.errInapplicable"], fn := fun _ => fun
  | [d1, d2, g1] => { results := [.lit (.bool false)], args := [d1, d2], vars := [g1] }
  | _ => none }
def FnExactBoxesAtWrongFalsely : Prop := fnExactBoxesAtRow.holds Tryz.pinned (OpenSpec.ofChange fnExactBoxesAtWrong)

/-- 'laws.FnExactBoxAt': WHATEVER THE INPUT: true; the input reads as it did. -/
def fnExactBoxAtSpec : ChangeSpec := { name := "fnExactBoxAt", vars := ["loop.example/g00501/impl.errInapplicable"], fn := fun _ => fun
  | [d1, d2, d3, g1] => { results := [.lit (.bool true)], args := [d1, d2, d3], vars := [g1] }
  | _ => none }
def fnExactBoxAtRow : OpenClaim := { program := "ytbfgdbpfecffcaagreatdoor", sum := "66e4497d11f8ab33528f7b1cdc5df4c5d58a34156c7489ed05007c77b01b6c0d", func := "loop.example/g00501/laws.FnExactBoxAt", spec := "fnExactBoxAt", inPlace := ["internal/bytealg.abigen_runtime_cmpstring", "internal/reflectlite.TypeOf"], unfollowed := true, recurses := true, named := ["loop.example/g00501/impl.errInapplicable"], ifaces := true, apart := false, laid := [("loop.example/g00501/impl.errInapplicable", laid_loop_example_g00501_impl_errInapplicable)] }
def FnExactBoxAtSaid : Prop := fnExactBoxAtRow.holds Tryz.pinned (OpenSpec.ofChange fnExactBoxAtSpec)

/-- ITS FALSE NEIGHBOUR: 'it returns false'. Refute it at one input. -/
def fnExactBoxAtWrong : ChangeSpec := { name := "fnExactBoxAt", vars := ["loop.example/g00501/impl.errInapplicable"], fn := fun _ => fun
  | [d1, d2, d3, g1] => { results := [.lit (.bool false)], args := [d1, d2, d3], vars := [g1] }
  | _ => none }
def FnExactBoxAtWrongFalsely : Prop := fnExactBoxAtRow.holds Tryz.pinned (OpenSpec.ofChange fnExactBoxAtWrong)

/-- 'laws.FnExactCommitted': WHATEVER THE INPUT: true; the input reads as it did. -/
def fnExactCommittedSpec : ChangeSpec := { name := "fnExactCommitted", vars := ["loop.example/g00501/impl.errInapplicable"], fn := fun _ => fun
  | [d1, d2, g1] => { results := [.lit (.bool true)], args := [d1, d2], vars := [g1] }
  | _ => none }
def fnExactCommittedRow : OpenClaim := { program := "ytbfgdbpfecffcaagreatdoor", sum := "66e4497d11f8ab33528f7b1cdc5df4c5d58a34156c7489ed05007c77b01b6c0d", func := "loop.example/g00501/laws.FnExactCommitted", spec := "fnExactCommitted", inPlace := ["internal/bytealg.abigen_runtime_cmpstring", "internal/reflectlite.TypeOf"], unfollowed := true, recurses := true, named := ["loop.example/g00501/impl.errInapplicable"], ifaces := true, apart := false, laid := [("loop.example/g00501/impl.errInapplicable", laid_loop_example_g00501_impl_errInapplicable)] }
def FnExactCommittedSaid : Prop := fnExactCommittedRow.holds Tryz.pinned (OpenSpec.ofChange fnExactCommittedSpec)

/-- ITS FALSE NEIGHBOUR: 'it returns false'. Refute it at one input. -/
def fnExactCommittedWrong : ChangeSpec := { name := "fnExactCommitted", vars := ["loop.example/g00501/impl.errInapplicable"], fn := fun _ => fun
  | [d1, d2, g1] => { results := [.lit (.bool false)], args := [d1, d2], vars := [g1] }
  | _ => none }
def FnExactCommittedWrongFalsely : Prop := fnExactCommittedRow.holds Tryz.pinned (OpenSpec.ofChange fnExactCommittedWrong)

/- THE SECOND FORM. 'bulk': how many values and letters a reading holds, each counted each time it is reached (what is shared counts as often as it is met; a slice's spare places count too). A statement '..UptoSaid' is the law's where the arguments, and the package variables that the reading takes, are together of bulk at most 1048576: NARROWER than '..Said'. Prove '..Said' where nothing that the law and all that it calls make is longer than what came in: it says more and counts as full. Else prove '..UptoSaid'. A law counts once. -/
mutual
def uptoBulk {H : Type} : DataW H → Nat
  | .lit (.string bytes) => bytes.length + 1
  | .lit _ => 1
  | .nil => 1
  | .ptr d => uptoBulk d + 1
  | .slice elems spare => uptoBulkAll elems + uptoBulkAll spare + 1
  | .agg parts => uptoBulkAll parts + 1
  | .iface _ d => uptoBulk d + 1
  | .map entries => uptoBulkEntries entries + 1
  | .held _ => 1
def uptoBulkAll {H : Type} : List (DataW H) → Nat
  | [] => 0
  | d :: r => uptoBulk d + uptoBulkAll r
def uptoBulkEntries {H : Type} : List (Lit × DataW H) → Nat
  | [] => 0
  | x :: r => uptoBulkEntry x + uptoBulkEntries r
def uptoBulkEntry {H : Type} : Lit × DataW H → Nat
  | (.string bytes, d) => bytes.length + uptoBulk d + 1
  | (_, d) => uptoBulk d + 1
 end
def uptoSmall : (H : Type) → List (DataW H) → Bool := fun _ ds => decide (uptoBulkAll ds ≤ 1048576)
def OpenSpec.upto (s : _root_.Go.ChangeSpec) : _root_.Go.OpenSpec := { _root_.Go.OpenSpec.ofChange s with cond := some uptoSmall }

/-- 'laws.FnApplied', WHERE WHAT IT READS IS OF BULK AT MOST 1048576: true; the input reads as it did. -/
def fnAppliedUptoRow : OpenClaim := { program := "ytbfgdbpfecffcaagreatdoor", sum := "66e4497d11f8ab33528f7b1cdc5df4c5d58a34156c7489ed05007c77b01b6c0d", func := "loop.example/g00501/laws.FnApplied", spec := "fnApplied", inPlace := ["internal/bytealg.abigen_runtime_cmpstring", "internal/reflectlite.TypeOf"], unfollowed := true, recurses := true, named := ["loop.example/g00501/impl.errInapplicable"], ifaces := true, apart := false, laid := [("loop.example/g00501/impl.errInapplicable", laid_loop_example_g00501_impl_errInapplicable)], narrowed := true }
def FnAppliedUptoSaid : Prop := fnAppliedUptoRow.holds Tryz.pinned (OpenSpec.upto fnAppliedSpec)

/-- 'laws.FnApart', WHERE WHAT IT READS IS OF BULK AT MOST 1048576: true; the input reads as it did. -/
def fnApartUptoRow : OpenClaim := { program := "ytbfgdbpfecffcaagreatdoor", sum := "66e4497d11f8ab33528f7b1cdc5df4c5d58a34156c7489ed05007c77b01b6c0d", func := "loop.example/g00501/laws.FnApart", spec := "fnApart", inPlace := ["internal/bytealg.abigen_runtime_cmpstring", "internal/reflectlite.TypeOf"], unfollowed := true, recurses := true, named := ["loop.example/g00501/impl.errInapplicable"], ifaces := true, apart := false, laid := [("loop.example/g00501/impl.errInapplicable", laid_loop_example_g00501_impl_errInapplicable)], narrowed := true }
def FnApartUptoSaid : Prop := fnApartUptoRow.holds Tryz.pinned (OpenSpec.upto fnApartSpec)

/-- 'laws.FnAppliedAll', WHERE WHAT IT READS IS OF BULK AT MOST 1048576: true; the input reads as it did. -/
def fnAppliedAllUptoRow : OpenClaim := { program := "ytbfgdbpfecffcaagreatdoor", sum := "66e4497d11f8ab33528f7b1cdc5df4c5d58a34156c7489ed05007c77b01b6c0d", func := "loop.example/g00501/laws.FnAppliedAll", spec := "fnAppliedAll", inPlace := ["internal/bytealg.abigen_runtime_cmpstring", "internal/reflectlite.TypeOf"], unfollowed := true, recurses := true, named := ["loop.example/g00501/impl.errInapplicable"], ifaces := true, apart := false, laid := [("loop.example/g00501/impl.errInapplicable", laid_loop_example_g00501_impl_errInapplicable)], narrowed := true }
def FnAppliedAllUptoSaid : Prop := fnAppliedAllUptoRow.holds Tryz.pinned (OpenSpec.upto fnAppliedAllSpec)

/-- 'laws.FnStore', WHERE WHAT IT READS IS OF BULK AT MOST 1048576: true; the input reads as it did. -/
def fnStoreUptoRow : OpenClaim := { program := "ytbfgdbpfecffcaagreatdoor", sum := "66e4497d11f8ab33528f7b1cdc5df4c5d58a34156c7489ed05007c77b01b6c0d", func := "loop.example/g00501/laws.FnStore", spec := "fnStore", inPlace := ["internal/bytealg.abigen_runtime_cmpstring", "internal/reflectlite.TypeOf"], unfollowed := true, recurses := true, named := ["loop.example/g00501/impl.errInapplicable"], ifaces := true, apart := false, laid := [("loop.example/g00501/impl.errInapplicable", laid_loop_example_g00501_impl_errInapplicable)], narrowed := true }
def FnStoreUptoSaid : Prop := fnStoreUptoRow.holds Tryz.pinned (OpenSpec.upto fnStoreSpec)

/-- 'laws.FnCommitted', WHERE WHAT IT READS IS OF BULK AT MOST 1048576: true; the input reads as it did. -/
def fnCommittedUptoRow : OpenClaim := { program := "ytbfgdbpfecffcaagreatdoor", sum := "66e4497d11f8ab33528f7b1cdc5df4c5d58a34156c7489ed05007c77b01b6c0d", func := "loop.example/g00501/laws.FnCommitted", spec := "fnCommitted", inPlace := ["internal/bytealg.abigen_runtime_cmpstring", "internal/reflectlite.TypeOf"], unfollowed := true, recurses := true, named := ["loop.example/g00501/impl.errInapplicable"], ifaces := true, apart := false, laid := [("loop.example/g00501/impl.errInapplicable", laid_loop_example_g00501_impl_errInapplicable)], narrowed := true }
def FnCommittedUptoSaid : Prop := fnCommittedUptoRow.holds Tryz.pinned (OpenSpec.upto fnCommittedSpec)

/-- 'laws.FnExactApplies', WHERE WHAT IT READS IS OF BULK AT MOST 1048576: true; the input reads as it did. -/
def fnExactAppliesUptoRow : OpenClaim := { program := "ytbfgdbpfecffcaagreatdoor", sum := "66e4497d11f8ab33528f7b1cdc5df4c5d58a34156c7489ed05007c77b01b6c0d", func := "loop.example/g00501/laws.FnExactApplies", spec := "fnExactApplies", inPlace := ["internal/bytealg.abigen_runtime_cmpstring", "internal/reflectlite.TypeOf"], unfollowed := true, recurses := true, named := ["loop.example/g00501/impl.errInapplicable"], ifaces := true, apart := false, laid := [("loop.example/g00501/impl.errInapplicable", laid_loop_example_g00501_impl_errInapplicable)], narrowed := true }
def FnExactAppliesUptoSaid : Prop := fnExactAppliesUptoRow.holds Tryz.pinned (OpenSpec.upto fnExactAppliesSpec)

/-- 'laws.FnExactApplied', WHERE WHAT IT READS IS OF BULK AT MOST 1048576: true; the input reads as it did. -/
def fnExactAppliedUptoRow : OpenClaim := { program := "ytbfgdbpfecffcaagreatdoor", sum := "66e4497d11f8ab33528f7b1cdc5df4c5d58a34156c7489ed05007c77b01b6c0d", func := "loop.example/g00501/laws.FnExactApplied", spec := "fnExactApplied", inPlace := ["internal/bytealg.abigen_runtime_cmpstring", "internal/reflectlite.TypeOf"], unfollowed := true, recurses := true, named := ["loop.example/g00501/impl.errInapplicable"], ifaces := true, apart := false, laid := [("loop.example/g00501/impl.errInapplicable", laid_loop_example_g00501_impl_errInapplicable)], narrowed := true }
def FnExactAppliedUptoSaid : Prop := fnExactAppliedUptoRow.holds Tryz.pinned (OpenSpec.upto fnExactAppliedSpec)

/-- 'laws.FnExactAppliedAll', WHERE WHAT IT READS IS OF BULK AT MOST 1048576: true; the input reads as it did. -/
def fnExactAppliedAllUptoRow : OpenClaim := { program := "ytbfgdbpfecffcaagreatdoor", sum := "66e4497d11f8ab33528f7b1cdc5df4c5d58a34156c7489ed05007c77b01b6c0d", func := "loop.example/g00501/laws.FnExactAppliedAll", spec := "fnExactAppliedAll", inPlace := ["internal/bytealg.abigen_runtime_cmpstring", "internal/reflectlite.TypeOf"], unfollowed := true, recurses := true, named := ["loop.example/g00501/impl.errInapplicable"], ifaces := true, apart := false, laid := [("loop.example/g00501/impl.errInapplicable", laid_loop_example_g00501_impl_errInapplicable)], narrowed := true }
def FnExactAppliedAllUptoSaid : Prop := fnExactAppliedAllUptoRow.holds Tryz.pinned (OpenSpec.upto fnExactAppliedAllSpec)

/-- 'laws.FnExactStoreNew', WHERE WHAT IT READS IS OF BULK AT MOST 1048576: true; the input reads as it did. -/
def fnExactStoreNewUptoRow : OpenClaim := { program := "ytbfgdbpfecffcaagreatdoor", sum := "66e4497d11f8ab33528f7b1cdc5df4c5d58a34156c7489ed05007c77b01b6c0d", func := "loop.example/g00501/laws.FnExactStoreNew", spec := "fnExactStoreNew", inPlace := ["internal/bytealg.abigen_runtime_cmpstring", "internal/reflectlite.TypeOf"], unfollowed := true, recurses := true, named := ["loop.example/g00501/impl.errInapplicable"], ifaces := true, apart := false, laid := [("loop.example/g00501/impl.errInapplicable", laid_loop_example_g00501_impl_errInapplicable)], narrowed := true }
def FnExactStoreNewUptoSaid : Prop := fnExactStoreNewUptoRow.holds Tryz.pinned (OpenSpec.upto fnExactStoreNewSpec)

/-- 'laws.FnExactStoreOk', WHERE WHAT IT READS IS OF BULK AT MOST 1048576: true; the input reads as it did. -/
def fnExactStoreOkUptoRow : OpenClaim := { program := "ytbfgdbpfecffcaagreatdoor", sum := "66e4497d11f8ab33528f7b1cdc5df4c5d58a34156c7489ed05007c77b01b6c0d", func := "loop.example/g00501/laws.FnExactStoreOk", spec := "fnExactStoreOk", inPlace := ["internal/bytealg.abigen_runtime_cmpstring", "internal/reflectlite.TypeOf"], unfollowed := true, recurses := true, named := ["loop.example/g00501/impl.errInapplicable"], ifaces := true, apart := false, laid := [("loop.example/g00501/impl.errInapplicable", laid_loop_example_g00501_impl_errInapplicable)], narrowed := true }
def FnExactStoreOkUptoSaid : Prop := fnExactStoreOkUptoRow.holds Tryz.pinned (OpenSpec.upto fnExactStoreOkSpec)

/-- 'laws.FnExactBoxesAt', WHERE WHAT IT READS IS OF BULK AT MOST 1048576: true; the input reads as it did. -/
def fnExactBoxesAtUptoRow : OpenClaim := { program := "ytbfgdbpfecffcaagreatdoor", sum := "66e4497d11f8ab33528f7b1cdc5df4c5d58a34156c7489ed05007c77b01b6c0d", func := "loop.example/g00501/laws.FnExactBoxesAt", spec := "fnExactBoxesAt", inPlace := ["internal/bytealg.abigen_runtime_cmpstring", "internal/reflectlite.TypeOf"], unfollowed := true, recurses := true, named := ["loop.example/g00501/impl.errInapplicable"], ifaces := true, apart := false, laid := [("loop.example/g00501/impl.errInapplicable", laid_loop_example_g00501_impl_errInapplicable)], narrowed := true }
def FnExactBoxesAtUptoSaid : Prop := fnExactBoxesAtUptoRow.holds Tryz.pinned (OpenSpec.upto fnExactBoxesAtSpec)

/-- 'laws.FnExactBoxAt', WHERE WHAT IT READS IS OF BULK AT MOST 1048576: true; the input reads as it did. -/
def fnExactBoxAtUptoRow : OpenClaim := { program := "ytbfgdbpfecffcaagreatdoor", sum := "66e4497d11f8ab33528f7b1cdc5df4c5d58a34156c7489ed05007c77b01b6c0d", func := "loop.example/g00501/laws.FnExactBoxAt", spec := "fnExactBoxAt", inPlace := ["internal/bytealg.abigen_runtime_cmpstring", "internal/reflectlite.TypeOf"], unfollowed := true, recurses := true, named := ["loop.example/g00501/impl.errInapplicable"], ifaces := true, apart := false, laid := [("loop.example/g00501/impl.errInapplicable", laid_loop_example_g00501_impl_errInapplicable)], narrowed := true }
def FnExactBoxAtUptoSaid : Prop := fnExactBoxAtUptoRow.holds Tryz.pinned (OpenSpec.upto fnExactBoxAtSpec)

/-- 'laws.FnExactCommitted', WHERE WHAT IT READS IS OF BULK AT MOST 1048576: true; the input reads as it did. -/
def fnExactCommittedUptoRow : OpenClaim := { program := "ytbfgdbpfecffcaagreatdoor", sum := "66e4497d11f8ab33528f7b1cdc5df4c5d58a34156c7489ed05007c77b01b6c0d", func := "loop.example/g00501/laws.FnExactCommitted", spec := "fnExactCommitted", inPlace := ["internal/bytealg.abigen_runtime_cmpstring", "internal/reflectlite.TypeOf"], unfollowed := true, recurses := true, named := ["loop.example/g00501/impl.errInapplicable"], ifaces := true, apart := false, laid := [("loop.example/g00501/impl.errInapplicable", laid_loop_example_g00501_impl_errInapplicable)], narrowed := true }
def FnExactCommittedUptoSaid : Prop := fnExactCommittedUptoRow.holds Tryz.pinned (OpenSpec.upto fnExactCommittedSpec)

end Rows
end Go.Proofs.YtbfgdbpfecffcaaGreatDoor
