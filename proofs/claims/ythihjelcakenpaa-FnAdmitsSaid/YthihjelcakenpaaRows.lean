/-
  No cell of these rows narrows 'for every input' (looked for: loops, veiled, ifaces, maps, wideKeys, modest, calm, conditions, laid).
  DERIVED. THE GIVEN ROWS OF THIS SEAT. 6 by the template 'for every input the law returns true; each argument reads behind the call as it read before'; 0 by the template 'total and deterministic' (their statements: YthihjelcakenpaaTotals.lean).
  GIVEN WITH THE SEED: the statements are not yours to turn. If you find one false, say at which input.
  Laid BY PROGRAM, IN A SANDBOX (cutbox-rows.mjs): the forced cells as the released guide's own fill.sh prints them over the translation 957fa1cc4a320b6b… (all of the seat's roots in one cut). By AI agents, Wed Nov 11 2026. No macro, syntax, notation, axiom, sorry.
-/
import Derived.Test.YthihjelcakenpaaChecked
import GoSem.Claim
import GoSem.ClaimJoined
import GoSem.ClaimMapViews
import Derived.JoinedTies
import Derived.KernelRfl
namespace Go.Proofs.Ythihjelcakenpaa
/- THE CELL 'sum', in the pinned program and in every row, IS THE sha256 OF THE DUMP (.gsa) THAT YthihjelcakenpaaProg.lean LOADS. Nothing in Lean hashes anything: it is a label: what it is worth is what the hold of that sum in a sandbox is worth. -/
noncomputable def Try.pinned : Pinned := { name := "ythihjelcakenpaa", sum := "957fa1cc4a320b6b40f41d2bd23879e4ac120ae755334f9f0d00ce0fd5e43dc1", checked := Try.checked }
namespace Rows
def none {H : Type} : Left H := { results := [], args := [] }

/-- 'laws.FnAdmits': WHATEVER THE INPUT: true; the input reads as it did. -/
def fnAdmitsSpec : ChangeSpec := { name := "fnAdmits", fn := fun _ => fun
  | [d] => { results := [.lit (.bool true)], args := [d] }
  | _ => none }
def fnAdmitsRow : OpenClaim := { program := "ythihjelcakenpaa", sum := "957fa1cc4a320b6b40f41d2bd23879e4ac120ae755334f9f0d00ce0fd5e43dc1", func := "loop.example/g00501/laws.FnAdmits", spec := "fnAdmits", unfollowed := true, recurses := true, apart := false }
def FnAdmitsSaid : Prop := fnAdmitsRow.holds Try.pinned (OpenSpec.ofChange fnAdmitsSpec)

/-- ITS FALSE NEIGHBOUR: 'it returns false'. Refute it at one input. -/
def fnAdmitsWrong : ChangeSpec := { name := "fnAdmits", fn := fun _ => fun
  | [d] => { results := [.lit (.bool false)], args := [d] }
  | _ => none }
def FnAdmitsWrongFalsely : Prop := fnAdmitsRow.holds Try.pinned (OpenSpec.ofChange fnAdmitsWrong)

/-- 'laws.FnExactScopeOk': WHATEVER THE INPUT: true; the input reads as it did. -/
def fnExactScopeOkSpec : ChangeSpec := { name := "fnExactScopeOk", fn := fun _ => fun
  | [d] => { results := [.lit (.bool true)], args := [d] }
  | _ => none }
def fnExactScopeOkRow : OpenClaim := { program := "ythihjelcakenpaa", sum := "957fa1cc4a320b6b40f41d2bd23879e4ac120ae755334f9f0d00ce0fd5e43dc1", func := "loop.example/g00501/laws.FnExactScopeOk", spec := "fnExactScopeOk", apart := false }
def FnExactScopeOkSaid : Prop := fnExactScopeOkRow.holds Try.pinned (OpenSpec.ofChange fnExactScopeOkSpec)

/-- ITS FALSE NEIGHBOUR: 'it returns false'. Refute it at one input. -/
def fnExactScopeOkWrong : ChangeSpec := { name := "fnExactScopeOk", fn := fun _ => fun
  | [d] => { results := [.lit (.bool false)], args := [d] }
  | _ => none }
def FnExactScopeOkWrongFalsely : Prop := fnExactScopeOkRow.holds Try.pinned (OpenSpec.ofChange fnExactScopeOkWrong)

/-- 'laws.FnExactFilterOk': WHATEVER THE INPUT: true; the input reads as it did. -/
def fnExactFilterOkSpec : ChangeSpec := { name := "fnExactFilterOk", fn := fun _ => fun
  | [d] => { results := [.lit (.bool true)], args := [d] }
  | _ => none }
def fnExactFilterOkRow : OpenClaim := { program := "ythihjelcakenpaa", sum := "957fa1cc4a320b6b40f41d2bd23879e4ac120ae755334f9f0d00ce0fd5e43dc1", func := "loop.example/g00501/laws.FnExactFilterOk", spec := "fnExactFilterOk", apart := false }
def FnExactFilterOkSaid : Prop := fnExactFilterOkRow.holds Try.pinned (OpenSpec.ofChange fnExactFilterOkSpec)

/-- ITS FALSE NEIGHBOUR: 'it returns false'. Refute it at one input. -/
def fnExactFilterOkWrong : ChangeSpec := { name := "fnExactFilterOk", fn := fun _ => fun
  | [d] => { results := [.lit (.bool false)], args := [d] }
  | _ => none }
def FnExactFilterOkWrongFalsely : Prop := fnExactFilterOkRow.holds Try.pinned (OpenSpec.ofChange fnExactFilterOkWrong)

/-- 'laws.FnExactCovers': WHATEVER THE INPUT: true; the input reads as it did. -/
def fnExactCoversSpec : ChangeSpec := { name := "fnExactCovers", fn := fun _ => fun
  | [d1, d2, d3] => { results := [.lit (.bool true)], args := [d1, d2, d3] }
  | _ => none }
def fnExactCoversRow : OpenClaim := { program := "ythihjelcakenpaa", sum := "957fa1cc4a320b6b40f41d2bd23879e4ac120ae755334f9f0d00ce0fd5e43dc1", func := "loop.example/g00501/laws.FnExactCovers", spec := "fnExactCovers", unfollowed := true, recurses := true, apart := false }
def FnExactCoversSaid : Prop := fnExactCoversRow.holds Try.pinned (OpenSpec.ofChange fnExactCoversSpec)

/-- ITS FALSE NEIGHBOUR: 'it returns false'. Refute it at one input. -/
def fnExactCoversWrong : ChangeSpec := { name := "fnExactCovers", fn := fun _ => fun
  | [d1, d2, d3] => { results := [.lit (.bool false)], args := [d1, d2, d3] }
  | _ => none }
def FnExactCoversWrongFalsely : Prop := fnExactCoversRow.holds Try.pinned (OpenSpec.ofChange fnExactCoversWrong)

/-- 'laws.FnExactAdmits': WHATEVER THE INPUT: true; the input reads as it did. -/
def fnExactAdmitsSpec : ChangeSpec := { name := "fnExactAdmits", fn := fun _ => fun
  | [d1, d2, d3, d4] => { results := [.lit (.bool true)], args := [d1, d2, d3, d4] }
  | _ => none }
def fnExactAdmitsRow : OpenClaim := { program := "ythihjelcakenpaa", sum := "957fa1cc4a320b6b40f41d2bd23879e4ac120ae755334f9f0d00ce0fd5e43dc1", func := "loop.example/g00501/laws.FnExactAdmits", spec := "fnExactAdmits", unfollowed := true, recurses := true, apart := false }
def FnExactAdmitsSaid : Prop := fnExactAdmitsRow.holds Try.pinned (OpenSpec.ofChange fnExactAdmitsSpec)

/-- ITS FALSE NEIGHBOUR: 'it returns false'. Refute it at one input. -/
def fnExactAdmitsWrong : ChangeSpec := { name := "fnExactAdmits", fn := fun _ => fun
  | [d1, d2, d3, d4] => { results := [.lit (.bool false)], args := [d1, d2, d3, d4] }
  | _ => none }
def FnExactAdmitsWrongFalsely : Prop := fnExactAdmitsRow.holds Try.pinned (OpenSpec.ofChange fnExactAdmitsWrong)

/-- 'laws.FnExactSameFilter': WHATEVER THE INPUT: true; the input reads as it did. -/
def fnExactSameFilterSpec : ChangeSpec := { name := "fnExactSameFilter", fn := fun _ => fun
  | [d1, d2] => { results := [.lit (.bool true)], args := [d1, d2] }
  | _ => none }
def fnExactSameFilterRow : OpenClaim := { program := "ythihjelcakenpaa", sum := "957fa1cc4a320b6b40f41d2bd23879e4ac120ae755334f9f0d00ce0fd5e43dc1", func := "loop.example/g00501/laws.FnExactSameFilter", spec := "fnExactSameFilter", unfollowed := true, recurses := true, apart := false }
def FnExactSameFilterSaid : Prop := fnExactSameFilterRow.holds Try.pinned (OpenSpec.ofChange fnExactSameFilterSpec)

/-- ITS FALSE NEIGHBOUR: 'it returns false'. Refute it at one input. -/
def fnExactSameFilterWrong : ChangeSpec := { name := "fnExactSameFilter", fn := fun _ => fun
  | [d1, d2] => { results := [.lit (.bool false)], args := [d1, d2] }
  | _ => none }
def FnExactSameFilterWrongFalsely : Prop := fnExactSameFilterRow.holds Try.pinned (OpenSpec.ofChange fnExactSameFilterWrong)

/- THE SECOND FORM. 'bulk': how many values and letters a reading holds, each counted each time it is reached (what is shared counts as often as it is met; a slice's spare places count too). A statement '..UptoSaid' is the law's where the arguments, and the package variables that the reading takes, are together of bulk at most 1048576: NARROWER than '..Said'. Prove '..Said' where nothing that the law and all that it calls make is longer than what came in: it says more and counts as full. Else prove '..UptoSaid'. A law counts once. -/
mutual
def uptoBulk {H : Type} : DataW H → Nat
  | .lit (.string bytes) => bytes.length + 1
  | .lit _ => 1
  | .nil => 1
  | .ptr d => uptoBulk d + 1
  | .slice elems spare => uptoBulkAll elems + uptoBulkAll spare + 1
  | .agg parts => uptoBulkAll parts + 1
  | .iface _ d => uptoBulk d + 1
  | .map entries => uptoBulkEntries entries + 1
  | .held _ => 1
def uptoBulkAll {H : Type} : List (DataW H) → Nat
  | [] => 0
  | d :: r => uptoBulk d + uptoBulkAll r
def uptoBulkEntries {H : Type} : List (Lit × DataW H) → Nat
  | [] => 0
  | x :: r => uptoBulkEntry x + uptoBulkEntries r
def uptoBulkEntry {H : Type} : Lit × DataW H → Nat
  | (.string bytes, d) => bytes.length + uptoBulk d + 1
  | (_, d) => uptoBulk d + 1
 end
def uptoSmall : (H : Type) → List (DataW H) → Bool := fun _ ds => decide (uptoBulkAll ds ≤ 1048576)
def OpenSpec.upto (s : _root_.Go.ChangeSpec) : _root_.Go.OpenSpec := { _root_.Go.OpenSpec.ofChange s with cond := some uptoSmall }

/-- 'laws.FnAdmits', WHERE WHAT IT READS IS OF BULK AT MOST 1048576: true; the input reads as it did. -/
def fnAdmitsUptoRow : OpenClaim := { program := "ythihjelcakenpaa", sum := "957fa1cc4a320b6b40f41d2bd23879e4ac120ae755334f9f0d00ce0fd5e43dc1", func := "loop.example/g00501/laws.FnAdmits", spec := "fnAdmits", unfollowed := true, recurses := true, apart := false, narrowed := true }
def FnAdmitsUptoSaid : Prop := fnAdmitsUptoRow.holds Try.pinned (OpenSpec.upto fnAdmitsSpec)

/-- 'laws.FnExactScopeOk', WHERE WHAT IT READS IS OF BULK AT MOST 1048576: true; the input reads as it did. -/
def fnExactScopeOkUptoRow : OpenClaim := { program := "ythihjelcakenpaa", sum := "957fa1cc4a320b6b40f41d2bd23879e4ac120ae755334f9f0d00ce0fd5e43dc1", func := "loop.example/g00501/laws.FnExactScopeOk", spec := "fnExactScopeOk", apart := false, narrowed := true }
def FnExactScopeOkUptoSaid : Prop := fnExactScopeOkUptoRow.holds Try.pinned (OpenSpec.upto fnExactScopeOkSpec)

/-- 'laws.FnExactFilterOk', WHERE WHAT IT READS IS OF BULK AT MOST 1048576: true; the input reads as it did. -/
def fnExactFilterOkUptoRow : OpenClaim := { program := "ythihjelcakenpaa", sum := "957fa1cc4a320b6b40f41d2bd23879e4ac120ae755334f9f0d00ce0fd5e43dc1", func := "loop.example/g00501/laws.FnExactFilterOk", spec := "fnExactFilterOk", apart := false, narrowed := true }
def FnExactFilterOkUptoSaid : Prop := fnExactFilterOkUptoRow.holds Try.pinned (OpenSpec.upto fnExactFilterOkSpec)

/-- 'laws.FnExactCovers', WHERE WHAT IT READS IS OF BULK AT MOST 1048576: true; the input reads as it did. -/
def fnExactCoversUptoRow : OpenClaim := { program := "ythihjelcakenpaa", sum := "957fa1cc4a320b6b40f41d2bd23879e4ac120ae755334f9f0d00ce0fd5e43dc1", func := "loop.example/g00501/laws.FnExactCovers", spec := "fnExactCovers", unfollowed := true, recurses := true, apart := false, narrowed := true }
def FnExactCoversUptoSaid : Prop := fnExactCoversUptoRow.holds Try.pinned (OpenSpec.upto fnExactCoversSpec)

/-- 'laws.FnExactAdmits', WHERE WHAT IT READS IS OF BULK AT MOST 1048576: true; the input reads as it did. -/
def fnExactAdmitsUptoRow : OpenClaim := { program := "ythihjelcakenpaa", sum := "957fa1cc4a320b6b40f41d2bd23879e4ac120ae755334f9f0d00ce0fd5e43dc1", func := "loop.example/g00501/laws.FnExactAdmits", spec := "fnExactAdmits", unfollowed := true, recurses := true, apart := false, narrowed := true }
def FnExactAdmitsUptoSaid : Prop := fnExactAdmitsUptoRow.holds Try.pinned (OpenSpec.upto fnExactAdmitsSpec)

/-- 'laws.FnExactSameFilter', WHERE WHAT IT READS IS OF BULK AT MOST 1048576: true; the input reads as it did. -/
def fnExactSameFilterUptoRow : OpenClaim := { program := "ythihjelcakenpaa", sum := "957fa1cc4a320b6b40f41d2bd23879e4ac120ae755334f9f0d00ce0fd5e43dc1", func := "loop.example/g00501/laws.FnExactSameFilter", spec := "fnExactSameFilter", unfollowed := true, recurses := true, apart := false, narrowed := true }
def FnExactSameFilterUptoSaid : Prop := fnExactSameFilterUptoRow.holds Try.pinned (OpenSpec.upto fnExactSameFilterSpec)

end Rows
end Go.Proofs.Ythihjelcakenpaa
