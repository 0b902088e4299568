/-
  No cell of these rows narrows 'for every input' (looked for: loops, veiled, ifaces, maps, wideKeys, modest, calm, conditions, laid).
  DERIVED. THE GIVEN ROWS OF THIS SEAT. 11 by the template 'for every input the law returns true; each argument reads behind the call as it read before'; 0 by the template 'total and deterministic' (their statements: YtoeolgeidpjgbaaTotals.lean).
  GIVEN WITH THE SEED: the statements are not yours to turn. If you find one false, say at which input.
  Laid BY PROGRAM, IN A SANDBOX (cutbox-rows.mjs): the forced cells as the released guide's own fill.sh prints them over the translation 002343e3859d7dcf… (all of the seat's roots in one cut). By AI agents, Wed Nov 11 2026. No macro, syntax, notation, axiom, sorry.
-/
import Derived.Test.YtoeolgeidpjgbaaChecked
import GoSem.Claim
import GoSem.ClaimJoined
import GoSem.ClaimMapViews
import Derived.JoinedTies
import Derived.KernelRfl
namespace Go.Proofs.Ytoeolgeidpjgbaa
/- THE CELL 'sum', in the pinned program and in every row, IS THE sha256 OF THE DUMP (.gsa) THAT YtoeolgeidpjgbaaProg.lean LOADS. Nothing in Lean hashes anything: it is a label: what it is worth is what the hold of that sum in a sandbox is worth. -/
noncomputable def Try.pinned : Pinned := { name := "ytoeolgeidpjgbaa", sum := "002343e3859d7dcfd0d300614343587b56fcc9ae9c383f099a67650884d8041e", checked := Try.checked }
namespace Rows
def none {H : Type} : Left H := { results := [], args := [] }

/-- 'gasworkslaw05.HolderVolumes': WHATEVER THE INPUT: true; the input reads as it did. -/
def holderVolumesSpec : ChangeSpec := { name := "holderVolumes", fn := fun _ => fun
  | [d1, d2, d3, d4] => { results := [.lit (.bool true)], args := [d1, d2, d3, d4] }
  | _ => none }
def holderVolumesRow : OpenClaim := { program := "ytoeolgeidpjgbaa", sum := "002343e3859d7dcfd0d300614343587b56fcc9ae9c383f099a67650884d8041e", func := "gasworks/gasworkslaw05.HolderVolumes", spec := "holderVolumes", unfollowed := true, recurses := true, plainKeys := false, apart := false }
def HolderVolumesSaid : Prop := holderVolumesRow.holds Try.pinned (OpenSpec.ofChange holderVolumesSpec)

/-- ITS FALSE NEIGHBOUR: 'it returns false'. Refute it at one input. -/
def holderVolumesWrong : ChangeSpec := { name := "holderVolumes", fn := fun _ => fun
  | [d1, d2, d3, d4] => { results := [.lit (.bool false)], args := [d1, d2, d3, d4] }
  | _ => none }
def HolderVolumesWrongFalsely : Prop := holderVolumesRow.holds Try.pinned (OpenSpec.ofChange holderVolumesWrong)

/-- 'gasworkslaw05.HolderHolds': WHATEVER THE INPUT: true; the input reads as it did. -/
def holderHoldsSpec : ChangeSpec := { name := "holderHolds", fn := fun _ => fun
  | [d1, d2] => { results := [.lit (.bool true)], args := [d1, d2] }
  | _ => none }
def holderHoldsRow : OpenClaim := { program := "ytoeolgeidpjgbaa", sum := "002343e3859d7dcfd0d300614343587b56fcc9ae9c383f099a67650884d8041e", func := "gasworks/gasworkslaw05.HolderHolds", spec := "holderHolds", unfollowed := true, recurses := true, plainKeys := false, apart := false }
def HolderHoldsSaid : Prop := holderHoldsRow.holds Try.pinned (OpenSpec.ofChange holderHoldsSpec)

/-- ITS FALSE NEIGHBOUR: 'it returns false'. Refute it at one input. -/
def holderHoldsWrong : ChangeSpec := { name := "holderHolds", fn := fun _ => fun
  | [d1, d2] => { results := [.lit (.bool false)], args := [d1, d2] }
  | _ => none }
def HolderHoldsWrongFalsely : Prop := holderHoldsRow.holds Try.pinned (OpenSpec.ofChange holderHoldsWrong)

/-- 'gasworkslaw05.HolderPlans': WHATEVER THE INPUT: true; the input reads as it did. -/
def holderPlansSpec : ChangeSpec := { name := "holderPlans", fn := fun _ => fun
  | [d] => { results := [.lit (.bool true)], args := [d] }
  | _ => none }
def holderPlansRow : OpenClaim := { program := "ytoeolgeidpjgbaa", sum := "002343e3859d7dcfd0d300614343587b56fcc9ae9c383f099a67650884d8041e", func := "gasworks/gasworkslaw05.HolderPlans", spec := "holderPlans", unfollowed := true, recurses := true, plainKeys := false, apart := false }
def HolderPlansSaid : Prop := holderPlansRow.holds Try.pinned (OpenSpec.ofChange holderPlansSpec)

/-- ITS FALSE NEIGHBOUR: 'it returns false'. Refute it at one input. -/
def holderPlansWrong : ChangeSpec := { name := "holderPlans", fn := fun _ => fun
  | [d] => { results := [.lit (.bool false)], args := [d] }
  | _ => none }
def HolderPlansWrongFalsely : Prop := holderPlansRow.holds Try.pinned (OpenSpec.ofChange holderPlansWrong)

/-- 'gasworkslaw05.HolderChecks': WHATEVER THE INPUT: true; the input reads as it did. -/
def holderChecksSpec : ChangeSpec := { name := "holderChecks", fn := fun _ => fun
  | [d1, d2, d3] => { results := [.lit (.bool true)], args := [d1, d2, d3] }
  | _ => none }
def holderChecksRow : OpenClaim := { program := "ytoeolgeidpjgbaa", sum := "002343e3859d7dcfd0d300614343587b56fcc9ae9c383f099a67650884d8041e", func := "gasworks/gasworkslaw05.HolderChecks", spec := "holderChecks", unfollowed := true, recurses := true, plainKeys := false, apart := false }
def HolderChecksSaid : Prop := holderChecksRow.holds Try.pinned (OpenSpec.ofChange holderChecksSpec)

/-- ITS FALSE NEIGHBOUR: 'it returns false'. Refute it at one input. -/
def holderChecksWrong : ChangeSpec := { name := "holderChecks", fn := fun _ => fun
  | [d1, d2, d3] => { results := [.lit (.bool false)], args := [d1, d2, d3] }
  | _ => none }
def HolderChecksWrongFalsely : Prop := holderChecksRow.holds Try.pinned (OpenSpec.ofChange holderChecksWrong)

/-- 'gasworkslaw05.HolderNames': WHATEVER THE INPUT: true; the input reads as it did. -/
def holderNamesSpec : ChangeSpec := { name := "holderNames", fn := fun _ => fun
  | [] => { results := [.lit (.bool true)], args := [] }
  | _ => none }
def holderNamesRow : OpenClaim := { program := "ytoeolgeidpjgbaa", sum := "002343e3859d7dcfd0d300614343587b56fcc9ae9c383f099a67650884d8041e", func := "gasworks/gasworkslaw05.HolderNames", spec := "holderNames", unfollowed := true, recurses := true, plainKeys := false, apart := false }
def HolderNamesSaid : Prop := holderNamesRow.holds Try.pinned (OpenSpec.ofChange holderNamesSpec)

/-- ITS FALSE NEIGHBOUR: 'it returns false'. Refute it at one input. -/
def holderNamesWrong : ChangeSpec := { name := "holderNames", fn := fun _ => fun
  | [] => { results := [.lit (.bool false)], args := [] }
  | _ => none }
def HolderNamesWrongFalsely : Prop := holderNamesRow.holds Try.pinned (OpenSpec.ofChange holderNamesWrong)

/-- 'gasworkslaw05.HolderTrue': WHATEVER THE INPUT: true; the input reads as it did. -/
def holderTrueSpec : ChangeSpec := { name := "holderTrue", fn := fun _ => fun
  | [d1, d2, d3] => { results := [.lit (.bool true)], args := [d1, d2, d3] }
  | _ => none }
def holderTrueRow : OpenClaim := { program := "ytoeolgeidpjgbaa", sum := "002343e3859d7dcfd0d300614343587b56fcc9ae9c383f099a67650884d8041e", func := "gasworks/gasworkslaw05.HolderTrue", spec := "holderTrue", unfollowed := true, recurses := true, plainKeys := false, apart := false }
def HolderTrueSaid : Prop := holderTrueRow.holds Try.pinned (OpenSpec.ofChange holderTrueSpec)

/-- ITS FALSE NEIGHBOUR: 'it returns false'. Refute it at one input. -/
def holderTrueWrong : ChangeSpec := { name := "holderTrue", fn := fun _ => fun
  | [d1, d2, d3] => { results := [.lit (.bool false)], args := [d1, d2, d3] }
  | _ => none }
def HolderTrueWrongFalsely : Prop := holderTrueRow.holds Try.pinned (OpenSpec.ofChange holderTrueWrong)

/-- 'gasworkslaw05.HolderBest': WHATEVER THE INPUT: true; the input reads as it did. -/
def holderBestSpec : ChangeSpec := { name := "holderBest", fn := fun _ => fun
  | [d1, d2] => { results := [.lit (.bool true)], args := [d1, d2] }
  | _ => none }
def holderBestRow : OpenClaim := { program := "ytoeolgeidpjgbaa", sum := "002343e3859d7dcfd0d300614343587b56fcc9ae9c383f099a67650884d8041e", func := "gasworks/gasworkslaw05.HolderBest", spec := "holderBest", unfollowed := true, recurses := true, plainKeys := false, apart := false }
def HolderBestSaid : Prop := holderBestRow.holds Try.pinned (OpenSpec.ofChange holderBestSpec)

/-- ITS FALSE NEIGHBOUR: 'it returns false'. Refute it at one input. -/
def holderBestWrong : ChangeSpec := { name := "holderBest", fn := fun _ => fun
  | [d1, d2] => { results := [.lit (.bool false)], args := [d1, d2] }
  | _ => none }
def HolderBestWrongFalsely : Prop := holderBestRow.holds Try.pinned (OpenSpec.ofChange holderBestWrong)

/-- 'gasworkslaw05.HolderProof': WHATEVER THE INPUT: true; the input reads as it did. -/
def holderProofSpec : ChangeSpec := { name := "holderProof", fn := fun _ => fun
  | [d1, d2, d3, d4, d5] => { results := [.lit (.bool true)], args := [d1, d2, d3, d4, d5] }
  | _ => none }
def holderProofRow : OpenClaim := { program := "ytoeolgeidpjgbaa", sum := "002343e3859d7dcfd0d300614343587b56fcc9ae9c383f099a67650884d8041e", func := "gasworks/gasworkslaw05.HolderProof", spec := "holderProof", unfollowed := true, recurses := true, plainKeys := false, apart := false }
def HolderProofSaid : Prop := holderProofRow.holds Try.pinned (OpenSpec.ofChange holderProofSpec)

/-- ITS FALSE NEIGHBOUR: 'it returns false'. Refute it at one input. -/
def holderProofWrong : ChangeSpec := { name := "holderProof", fn := fun _ => fun
  | [d1, d2, d3, d4, d5] => { results := [.lit (.bool false)], args := [d1, d2, d3, d4, d5] }
  | _ => none }
def HolderProofWrongFalsely : Prop := holderProofRow.holds Try.pinned (OpenSpec.ofChange holderProofWrong)

/-- 'gasworkslaw05.HolderMore': WHATEVER THE INPUT: true; the input reads as it did. -/
def holderMoreSpec : ChangeSpec := { name := "holderMore", fn := fun _ => fun
  | [d1, d2, d3] => { results := [.lit (.bool true)], args := [d1, d2, d3] }
  | _ => none }
def holderMoreRow : OpenClaim := { program := "ytoeolgeidpjgbaa", sum := "002343e3859d7dcfd0d300614343587b56fcc9ae9c383f099a67650884d8041e", func := "gasworks/gasworkslaw05.HolderMore", spec := "holderMore", unfollowed := true, recurses := true, plainKeys := false, apart := false }
def HolderMoreSaid : Prop := holderMoreRow.holds Try.pinned (OpenSpec.ofChange holderMoreSpec)

/-- ITS FALSE NEIGHBOUR: 'it returns false'. Refute it at one input. -/
def holderMoreWrong : ChangeSpec := { name := "holderMore", fn := fun _ => fun
  | [d1, d2, d3] => { results := [.lit (.bool false)], args := [d1, d2, d3] }
  | _ => none }
def HolderMoreWrongFalsely : Prop := holderMoreRow.holds Try.pinned (OpenSpec.ofChange holderMoreWrong)

/-- 'gasworkslaw05.HolderGas': WHATEVER THE INPUT: true; the input reads as it did. -/
def holderGasSpec : ChangeSpec := { name := "holderGas", fn := fun _ => fun
  | [d1, d2, d3, d4, d5] => { results := [.lit (.bool true)], args := [d1, d2, d3, d4, d5] }
  | _ => none }
def holderGasRow : OpenClaim := { program := "ytoeolgeidpjgbaa", sum := "002343e3859d7dcfd0d300614343587b56fcc9ae9c383f099a67650884d8041e", func := "gasworks/gasworkslaw05.HolderGas", spec := "holderGas", unfollowed := true, recurses := true, plainKeys := false, apart := false }
def HolderGasSaid : Prop := holderGasRow.holds Try.pinned (OpenSpec.ofChange holderGasSpec)

/-- ITS FALSE NEIGHBOUR: 'it returns false'. Refute it at one input. -/
def holderGasWrong : ChangeSpec := { name := "holderGas", fn := fun _ => fun
  | [d1, d2, d3, d4, d5] => { results := [.lit (.bool false)], args := [d1, d2, d3, d4, d5] }
  | _ => none }
def HolderGasWrongFalsely : Prop := holderGasRow.holds Try.pinned (OpenSpec.ofChange holderGasWrong)

/-- 'gasworkslaw05.HolderOwns': WHATEVER THE INPUT: true; the input reads as it did. -/
def holderOwnsSpec : ChangeSpec := { name := "holderOwns", fn := fun _ => fun
  | [d1, d2, d3, d4] => { results := [.lit (.bool true)], args := [d1, d2, d3, d4] }
  | _ => none }
def holderOwnsRow : OpenClaim := { program := "ytoeolgeidpjgbaa", sum := "002343e3859d7dcfd0d300614343587b56fcc9ae9c383f099a67650884d8041e", func := "gasworks/gasworkslaw05.HolderOwns", spec := "holderOwns", unfollowed := true, recurses := true, plainKeys := false, apart := false }
def HolderOwnsSaid : Prop := holderOwnsRow.holds Try.pinned (OpenSpec.ofChange holderOwnsSpec)

/-- ITS FALSE NEIGHBOUR: 'it returns false'. Refute it at one input. -/
def holderOwnsWrong : ChangeSpec := { name := "holderOwns", fn := fun _ => fun
  | [d1, d2, d3, d4] => { results := [.lit (.bool false)], args := [d1, d2, d3, d4] }
  | _ => none }
def HolderOwnsWrongFalsely : Prop := holderOwnsRow.holds Try.pinned (OpenSpec.ofChange holderOwnsWrong)

/- THE SECOND FORM. 'bulk': how many values and letters a reading holds, each counted each time it is reached (what is shared counts as often as it is met; a slice's spare places count too). A statement '..UptoSaid' is the law's where the arguments, and the package variables that the reading takes, are together of bulk at most 1048576: NARROWER than '..Said'. Prove '..Said' where nothing that the law and all that it calls make is longer than what came in: it says more and counts as full. Else prove '..UptoSaid'. A law counts once. -/
mutual
def uptoBulk {H : Type} : DataW H → Nat
  | .lit (.string bytes) => bytes.length + 1
  | .lit _ => 1
  | .nil => 1
  | .ptr d => uptoBulk d + 1
  | .slice elems spare => uptoBulkAll elems + uptoBulkAll spare + 1
  | .agg parts => uptoBulkAll parts + 1
  | .iface _ d => uptoBulk d + 1
  | .map entries => uptoBulkEntries entries + 1
  | .held _ => 1
def uptoBulkAll {H : Type} : List (DataW H) → Nat
  | [] => 0
  | d :: r => uptoBulk d + uptoBulkAll r
def uptoBulkEntries {H : Type} : List (Lit × DataW H) → Nat
  | [] => 0
  | x :: r => uptoBulkEntry x + uptoBulkEntries r
def uptoBulkEntry {H : Type} : Lit × DataW H → Nat
  | (.string bytes, d) => bytes.length + uptoBulk d + 1
  | (_, d) => uptoBulk d + 1
 end
def uptoSmall : (H : Type) → List (DataW H) → Bool := fun _ ds => decide (uptoBulkAll ds ≤ 1048576)
def OpenSpec.upto (s : _root_.Go.ChangeSpec) : _root_.Go.OpenSpec := { _root_.Go.OpenSpec.ofChange s with cond := some uptoSmall }

/-- 'gasworkslaw05.HolderVolumes', WHERE WHAT IT READS IS OF BULK AT MOST 1048576: true; the input reads as it did. -/
def holderVolumesUptoRow : OpenClaim := { program := "ytoeolgeidpjgbaa", sum := "002343e3859d7dcfd0d300614343587b56fcc9ae9c383f099a67650884d8041e", func := "gasworks/gasworkslaw05.HolderVolumes", spec := "holderVolumes", unfollowed := true, recurses := true, plainKeys := false, apart := false, narrowed := true }
def HolderVolumesUptoSaid : Prop := holderVolumesUptoRow.holds Try.pinned (OpenSpec.upto holderVolumesSpec)

/-- 'gasworkslaw05.HolderHolds', WHERE WHAT IT READS IS OF BULK AT MOST 1048576: true; the input reads as it did. -/
def holderHoldsUptoRow : OpenClaim := { program := "ytoeolgeidpjgbaa", sum := "002343e3859d7dcfd0d300614343587b56fcc9ae9c383f099a67650884d8041e", func := "gasworks/gasworkslaw05.HolderHolds", spec := "holderHolds", unfollowed := true, recurses := true, plainKeys := false, apart := false, narrowed := true }
def HolderHoldsUptoSaid : Prop := holderHoldsUptoRow.holds Try.pinned (OpenSpec.upto holderHoldsSpec)

/-- 'gasworkslaw05.HolderPlans', WHERE WHAT IT READS IS OF BULK AT MOST 1048576: true; the input reads as it did. -/
def holderPlansUptoRow : OpenClaim := { program := "ytoeolgeidpjgbaa", sum := "002343e3859d7dcfd0d300614343587b56fcc9ae9c383f099a67650884d8041e", func := "gasworks/gasworkslaw05.HolderPlans", spec := "holderPlans", unfollowed := true, recurses := true, plainKeys := false, apart := false, narrowed := true }
def HolderPlansUptoSaid : Prop := holderPlansUptoRow.holds Try.pinned (OpenSpec.upto holderPlansSpec)

/-- 'gasworkslaw05.HolderChecks', WHERE WHAT IT READS IS OF BULK AT MOST 1048576: true; the input reads as it did. -/
def holderChecksUptoRow : OpenClaim := { program := "ytoeolgeidpjgbaa", sum := "002343e3859d7dcfd0d300614343587b56fcc9ae9c383f099a67650884d8041e", func := "gasworks/gasworkslaw05.HolderChecks", spec := "holderChecks", unfollowed := true, recurses := true, plainKeys := false, apart := false, narrowed := true }
def HolderChecksUptoSaid : Prop := holderChecksUptoRow.holds Try.pinned (OpenSpec.upto holderChecksSpec)

/-- 'gasworkslaw05.HolderNames', WHERE WHAT IT READS IS OF BULK AT MOST 1048576: true; the input reads as it did. -/
def holderNamesUptoRow : OpenClaim := { program := "ytoeolgeidpjgbaa", sum := "002343e3859d7dcfd0d300614343587b56fcc9ae9c383f099a67650884d8041e", func := "gasworks/gasworkslaw05.HolderNames", spec := "holderNames", unfollowed := true, recurses := true, plainKeys := false, apart := false, narrowed := true }
def HolderNamesUptoSaid : Prop := holderNamesUptoRow.holds Try.pinned (OpenSpec.upto holderNamesSpec)

/-- 'gasworkslaw05.HolderTrue', WHERE WHAT IT READS IS OF BULK AT MOST 1048576: true; the input reads as it did. -/
def holderTrueUptoRow : OpenClaim := { program := "ytoeolgeidpjgbaa", sum := "002343e3859d7dcfd0d300614343587b56fcc9ae9c383f099a67650884d8041e", func := "gasworks/gasworkslaw05.HolderTrue", spec := "holderTrue", unfollowed := true, recurses := true, plainKeys := false, apart := false, narrowed := true }
def HolderTrueUptoSaid : Prop := holderTrueUptoRow.holds Try.pinned (OpenSpec.upto holderTrueSpec)

/-- 'gasworkslaw05.HolderBest', WHERE WHAT IT READS IS OF BULK AT MOST 1048576: true; the input reads as it did. -/
def holderBestUptoRow : OpenClaim := { program := "ytoeolgeidpjgbaa", sum := "002343e3859d7dcfd0d300614343587b56fcc9ae9c383f099a67650884d8041e", func := "gasworks/gasworkslaw05.HolderBest", spec := "holderBest", unfollowed := true, recurses := true, plainKeys := false, apart := false, narrowed := true }
def HolderBestUptoSaid : Prop := holderBestUptoRow.holds Try.pinned (OpenSpec.upto holderBestSpec)

/-- 'gasworkslaw05.HolderProof', WHERE WHAT IT READS IS OF BULK AT MOST 1048576: true; the input reads as it did. -/
def holderProofUptoRow : OpenClaim := { program := "ytoeolgeidpjgbaa", sum := "002343e3859d7dcfd0d300614343587b56fcc9ae9c383f099a67650884d8041e", func := "gasworks/gasworkslaw05.HolderProof", spec := "holderProof", unfollowed := true, recurses := true, plainKeys := false, apart := false, narrowed := true }
def HolderProofUptoSaid : Prop := holderProofUptoRow.holds Try.pinned (OpenSpec.upto holderProofSpec)

/-- 'gasworkslaw05.HolderMore', WHERE WHAT IT READS IS OF BULK AT MOST 1048576: true; the input reads as it did. -/
def holderMoreUptoRow : OpenClaim := { program := "ytoeolgeidpjgbaa", sum := "002343e3859d7dcfd0d300614343587b56fcc9ae9c383f099a67650884d8041e", func := "gasworks/gasworkslaw05.HolderMore", spec := "holderMore", unfollowed := true, recurses := true, plainKeys := false, apart := false, narrowed := true }
def HolderMoreUptoSaid : Prop := holderMoreUptoRow.holds Try.pinned (OpenSpec.upto holderMoreSpec)

/-- 'gasworkslaw05.HolderGas', WHERE WHAT IT READS IS OF BULK AT MOST 1048576: true; the input reads as it did. -/
def holderGasUptoRow : OpenClaim := { program := "ytoeolgeidpjgbaa", sum := "002343e3859d7dcfd0d300614343587b56fcc9ae9c383f099a67650884d8041e", func := "gasworks/gasworkslaw05.HolderGas", spec := "holderGas", unfollowed := true, recurses := true, plainKeys := false, apart := false, narrowed := true }
def HolderGasUptoSaid : Prop := holderGasUptoRow.holds Try.pinned (OpenSpec.upto holderGasSpec)

/-- 'gasworkslaw05.HolderOwns', WHERE WHAT IT READS IS OF BULK AT MOST 1048576: true; the input reads as it did. -/
def holderOwnsUptoRow : OpenClaim := { program := "ytoeolgeidpjgbaa", sum := "002343e3859d7dcfd0d300614343587b56fcc9ae9c383f099a67650884d8041e", func := "gasworks/gasworkslaw05.HolderOwns", spec := "holderOwns", unfollowed := true, recurses := true, plainKeys := false, apart := false, narrowed := true }
def HolderOwnsUptoSaid : Prop := holderOwnsUptoRow.holds Try.pinned (OpenSpec.upto holderOwnsSpec)

end Rows
end Go.Proofs.Ytoeolgeidpjgbaa
