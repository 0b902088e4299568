/-
  No cell of these rows narrows 'for every input' (looked for: loops, veiled, ifaces, maps, wideKeys, modest, calm, conditions, laid).
  DERIVED. THE GIVEN ROWS OF THIS SEAT. 10 by the template 'for every input the law returns true; each argument reads behind the call as it read before'; 0 by the template 'total and deterministic' (their statements: YtpdcajchppoocaaTotals.lean).
  GIVEN WITH THE SEED: the statements are not yours to turn. If you find one false, say at which input.
  Laid BY PROGRAM, IN A SANDBOX (cutbox-rows.mjs): the forced cells as the released guide's own fill.sh prints them over the translation 6e148b2570982657… (all of the seat's roots in one cut). By AI agents, Wed Nov 11 2026. No macro, syntax, notation, axiom, sorry.
-/
import Derived.Test.YtpdcajchppoocaaChecked
import GoSem.Claim
import GoSem.ClaimJoined
import GoSem.ClaimMapViews
import Derived.JoinedTies
import Derived.KernelRfl
namespace Go.Proofs.Ytpdcajchppoocaa
/- THE CELL 'sum', in the pinned program and in every row, IS THE sha256 OF THE DUMP (.gsa) THAT YtpdcajchppoocaaProg.lean LOADS. Nothing in Lean hashes anything: it is a label: what it is worth is what the hold of that sum in a sandbox is worth. -/
noncomputable def Try.pinned : Pinned := { name := "ytpdcajchppoocaa", sum := "6e148b2570982657903ba4d8cec896d80aebbef38b8457bd9f0327bfc1734756", checked := Try.checked }
namespace Rows
def none {H : Type} : Left H := { results := [], args := [] }

/-- 'gasworkslaw03.BoxRuns': WHATEVER THE INPUT: true; the input reads as it did. -/
def boxRunsSpec : ChangeSpec := { name := "boxRuns", fn := fun _ => fun
  | [d1, d2] => { results := [.lit (.bool true)], args := [d1, d2] }
  | _ => none }
def boxRunsRow : OpenClaim := { program := "ytpdcajchppoocaa", sum := "6e148b2570982657903ba4d8cec896d80aebbef38b8457bd9f0327bfc1734756", func := "gasworks/gasworkslaw03.BoxRuns", spec := "boxRuns", unfollowed := true, recurses := true, plainKeys := false, apart := false }
def BoxRunsSaid : Prop := boxRunsRow.holds Try.pinned (OpenSpec.ofChange boxRunsSpec)

/-- ITS FALSE NEIGHBOUR: 'it returns false'. Refute it at one input. -/
def boxRunsWrong : ChangeSpec := { name := "boxRuns", fn := fun _ => fun
  | [d1, d2] => { results := [.lit (.bool false)], args := [d1, d2] }
  | _ => none }
def BoxRunsWrongFalsely : Prop := boxRunsRow.holds Try.pinned (OpenSpec.ofChange boxRunsWrong)

/-- 'gasworkslaw03.BoxBest': WHATEVER THE INPUT: true; the input reads as it did. -/
def boxBestSpec : ChangeSpec := { name := "boxBest", fn := fun _ => fun
  | [d] => { results := [.lit (.bool true)], args := [d] }
  | _ => none }
def boxBestRow : OpenClaim := { program := "ytpdcajchppoocaa", sum := "6e148b2570982657903ba4d8cec896d80aebbef38b8457bd9f0327bfc1734756", func := "gasworks/gasworkslaw03.BoxBest", spec := "boxBest", unfollowed := true, recurses := true, plainKeys := false, apart := false }
def BoxBestSaid : Prop := boxBestRow.holds Try.pinned (OpenSpec.ofChange boxBestSpec)

/-- ITS FALSE NEIGHBOUR: 'it returns false'. Refute it at one input. -/
def boxBestWrong : ChangeSpec := { name := "boxBest", fn := fun _ => fun
  | [d] => { results := [.lit (.bool false)], args := [d] }
  | _ => none }
def BoxBestWrongFalsely : Prop := boxBestRow.holds Try.pinned (OpenSpec.ofChange boxBestWrong)

/-- 'gasworkslaw03.BoxMargins': WHATEVER THE INPUT: true; the input reads as it did. -/
def boxMarginsSpec : ChangeSpec := { name := "boxMargins", fn := fun _ => fun
  | [d1, d2] => { results := [.lit (.bool true)], args := [d1, d2] }
  | _ => none }
def boxMarginsRow : OpenClaim := { program := "ytpdcajchppoocaa", sum := "6e148b2570982657903ba4d8cec896d80aebbef38b8457bd9f0327bfc1734756", func := "gasworks/gasworkslaw03.BoxMargins", spec := "boxMargins", unfollowed := true, recurses := true, plainKeys := false, apart := false }
def BoxMarginsSaid : Prop := boxMarginsRow.holds Try.pinned (OpenSpec.ofChange boxMarginsSpec)

/-- ITS FALSE NEIGHBOUR: 'it returns false'. Refute it at one input. -/
def boxMarginsWrong : ChangeSpec := { name := "boxMargins", fn := fun _ => fun
  | [d1, d2] => { results := [.lit (.bool false)], args := [d1, d2] }
  | _ => none }
def BoxMarginsWrongFalsely : Prop := boxMarginsRow.holds Try.pinned (OpenSpec.ofChange boxMarginsWrong)

/-- 'gasworkslaw03.BoxNames': WHATEVER THE INPUT: true; the input reads as it did. -/
def boxNamesSpec : ChangeSpec := { name := "boxNames", fn := fun _ => fun
  | [] => { results := [.lit (.bool true)], args := [] }
  | _ => none }
def boxNamesRow : OpenClaim := { program := "ytpdcajchppoocaa", sum := "6e148b2570982657903ba4d8cec896d80aebbef38b8457bd9f0327bfc1734756", func := "gasworks/gasworkslaw03.BoxNames", spec := "boxNames", unfollowed := true, recurses := true, plainKeys := false, apart := false }
def BoxNamesSaid : Prop := boxNamesRow.holds Try.pinned (OpenSpec.ofChange boxNamesSpec)

/-- ITS FALSE NEIGHBOUR: 'it returns false'. Refute it at one input. -/
def boxNamesWrong : ChangeSpec := { name := "boxNames", fn := fun _ => fun
  | [] => { results := [.lit (.bool false)], args := [] }
  | _ => none }
def BoxNamesWrongFalsely : Prop := boxNamesRow.holds Try.pinned (OpenSpec.ofChange boxNamesWrong)

/-- 'gasworkslaw03.BoxTrue': WHATEVER THE INPUT: true; the input reads as it did. -/
def boxTrueSpec : ChangeSpec := { name := "boxTrue", fn := fun _ => fun
  | [d1, d2, d3] => { results := [.lit (.bool true)], args := [d1, d2, d3] }
  | _ => none }
def boxTrueRow : OpenClaim := { program := "ytpdcajchppoocaa", sum := "6e148b2570982657903ba4d8cec896d80aebbef38b8457bd9f0327bfc1734756", func := "gasworks/gasworkslaw03.BoxTrue", spec := "boxTrue", unfollowed := true, recurses := true, plainKeys := false, apart := false }
def BoxTrueSaid : Prop := boxTrueRow.holds Try.pinned (OpenSpec.ofChange boxTrueSpec)

/-- ITS FALSE NEIGHBOUR: 'it returns false'. Refute it at one input. -/
def boxTrueWrong : ChangeSpec := { name := "boxTrue", fn := fun _ => fun
  | [d1, d2, d3] => { results := [.lit (.bool false)], args := [d1, d2, d3] }
  | _ => none }
def BoxTrueWrongFalsely : Prop := boxTrueRow.holds Try.pinned (OpenSpec.ofChange boxTrueWrong)

/-- 'gasworkslaw03.BoxEnds': WHATEVER THE INPUT: true; the input reads as it did. -/
def boxEndsSpec : ChangeSpec := { name := "boxEnds", fn := fun _ => fun
  | [d1, d2] => { results := [.lit (.bool true)], args := [d1, d2] }
  | _ => none }
def boxEndsRow : OpenClaim := { program := "ytpdcajchppoocaa", sum := "6e148b2570982657903ba4d8cec896d80aebbef38b8457bd9f0327bfc1734756", func := "gasworks/gasworkslaw03.BoxEnds", spec := "boxEnds", unfollowed := true, recurses := true, plainKeys := false, apart := false }
def BoxEndsSaid : Prop := boxEndsRow.holds Try.pinned (OpenSpec.ofChange boxEndsSpec)

/-- ITS FALSE NEIGHBOUR: 'it returns false'. Refute it at one input. -/
def boxEndsWrong : ChangeSpec := { name := "boxEnds", fn := fun _ => fun
  | [d1, d2] => { results := [.lit (.bool false)], args := [d1, d2] }
  | _ => none }
def BoxEndsWrongFalsely : Prop := boxEndsRow.holds Try.pinned (OpenSpec.ofChange boxEndsWrong)

/-- 'gasworkslaw03.BoxKeeps': WHATEVER THE INPUT: true; the input reads as it did. -/
def boxKeepsSpec : ChangeSpec := { name := "boxKeeps", fn := fun _ => fun
  | [d1, d2] => { results := [.lit (.bool true)], args := [d1, d2] }
  | _ => none }
def boxKeepsRow : OpenClaim := { program := "ytpdcajchppoocaa", sum := "6e148b2570982657903ba4d8cec896d80aebbef38b8457bd9f0327bfc1734756", func := "gasworks/gasworkslaw03.BoxKeeps", spec := "boxKeeps", unfollowed := true, recurses := true, plainKeys := false, apart := false }
def BoxKeepsSaid : Prop := boxKeepsRow.holds Try.pinned (OpenSpec.ofChange boxKeepsSpec)

/-- ITS FALSE NEIGHBOUR: 'it returns false'. Refute it at one input. -/
def boxKeepsWrong : ChangeSpec := { name := "boxKeeps", fn := fun _ => fun
  | [d1, d2] => { results := [.lit (.bool false)], args := [d1, d2] }
  | _ => none }
def BoxKeepsWrongFalsely : Prop := boxKeepsRow.holds Try.pinned (OpenSpec.ofChange boxKeepsWrong)

/-- 'gasworkslaw03.BoxMore': WHATEVER THE INPUT: true; the input reads as it did. -/
def boxMoreSpec : ChangeSpec := { name := "boxMore", fn := fun _ => fun
  | [d1, d2, d3, d4, d5] => { results := [.lit (.bool true)], args := [d1, d2, d3, d4, d5] }
  | _ => none }
def boxMoreRow : OpenClaim := { program := "ytpdcajchppoocaa", sum := "6e148b2570982657903ba4d8cec896d80aebbef38b8457bd9f0327bfc1734756", func := "gasworks/gasworkslaw03.BoxMore", spec := "boxMore", unfollowed := true, recurses := true, plainKeys := false, apart := false }
def BoxMoreSaid : Prop := boxMoreRow.holds Try.pinned (OpenSpec.ofChange boxMoreSpec)

/-- ITS FALSE NEIGHBOUR: 'it returns false'. Refute it at one input. -/
def boxMoreWrong : ChangeSpec := { name := "boxMore", fn := fun _ => fun
  | [d1, d2, d3, d4, d5] => { results := [.lit (.bool false)], args := [d1, d2, d3, d4, d5] }
  | _ => none }
def BoxMoreWrongFalsely : Prop := boxMoreRow.holds Try.pinned (OpenSpec.ofChange boxMoreWrong)

/-- 'gasworkslaw03.BoxMargin': WHATEVER THE INPUT: true; the input reads as it did. -/
def boxMarginSpec : ChangeSpec := { name := "boxMargin", fn := fun _ => fun
  | [d1, d2] => { results := [.lit (.bool true)], args := [d1, d2] }
  | _ => none }
def boxMarginRow : OpenClaim := { program := "ytpdcajchppoocaa", sum := "6e148b2570982657903ba4d8cec896d80aebbef38b8457bd9f0327bfc1734756", func := "gasworks/gasworkslaw03.BoxMargin", spec := "boxMargin", unfollowed := true, recurses := true, plainKeys := false, apart := false }
def BoxMarginSaid : Prop := boxMarginRow.holds Try.pinned (OpenSpec.ofChange boxMarginSpec)

/-- ITS FALSE NEIGHBOUR: 'it returns false'. Refute it at one input. -/
def boxMarginWrong : ChangeSpec := { name := "boxMargin", fn := fun _ => fun
  | [d1, d2] => { results := [.lit (.bool false)], args := [d1, d2] }
  | _ => none }
def BoxMarginWrongFalsely : Prop := boxMarginRow.holds Try.pinned (OpenSpec.ofChange boxMarginWrong)

/-- 'gasworkslaw03.BoxOwns': WHATEVER THE INPUT: true; the input reads as it did. -/
def boxOwnsSpec : ChangeSpec := { name := "boxOwns", fn := fun _ => fun
  | [d1, d2] => { results := [.lit (.bool true)], args := [d1, d2] }
  | _ => none }
def boxOwnsRow : OpenClaim := { program := "ytpdcajchppoocaa", sum := "6e148b2570982657903ba4d8cec896d80aebbef38b8457bd9f0327bfc1734756", func := "gasworks/gasworkslaw03.BoxOwns", spec := "boxOwns", unfollowed := true, recurses := true, plainKeys := false, apart := false }
def BoxOwnsSaid : Prop := boxOwnsRow.holds Try.pinned (OpenSpec.ofChange boxOwnsSpec)

/-- ITS FALSE NEIGHBOUR: 'it returns false'. Refute it at one input. -/
def boxOwnsWrong : ChangeSpec := { name := "boxOwns", fn := fun _ => fun
  | [d1, d2] => { results := [.lit (.bool false)], args := [d1, d2] }
  | _ => none }
def BoxOwnsWrongFalsely : Prop := boxOwnsRow.holds Try.pinned (OpenSpec.ofChange boxOwnsWrong)

/- THE SECOND FORM. 'bulk': how many values and letters a reading holds, each counted each time it is reached (what is shared counts as often as it is met; a slice's spare places count too). A statement '..UptoSaid' is the law's where the arguments, and the package variables that the reading takes, are together of bulk at most 1048576: NARROWER than '..Said'. Prove '..Said' where nothing that the law and all that it calls make is longer than what came in: it says more and counts as full. Else prove '..UptoSaid'. A law counts once. -/
mutual
def uptoBulk {H : Type} : DataW H → Nat
  | .lit (.string bytes) => bytes.length + 1
  | .lit _ => 1
  | .nil => 1
  | .ptr d => uptoBulk d + 1
  | .slice elems spare => uptoBulkAll elems + uptoBulkAll spare + 1
  | .agg parts => uptoBulkAll parts + 1
  | .iface _ d => uptoBulk d + 1
  | .map entries => uptoBulkEntries entries + 1
  | .held _ => 1
def uptoBulkAll {H : Type} : List (DataW H) → Nat
  | [] => 0
  | d :: r => uptoBulk d + uptoBulkAll r
def uptoBulkEntries {H : Type} : List (Lit × DataW H) → Nat
  | [] => 0
  | x :: r => uptoBulkEntry x + uptoBulkEntries r
def uptoBulkEntry {H : Type} : Lit × DataW H → Nat
  | (.string bytes, d) => bytes.length + uptoBulk d + 1
  | (_, d) => uptoBulk d + 1
 end
def uptoSmall : (H : Type) → List (DataW H) → Bool := fun _ ds => decide (uptoBulkAll ds ≤ 1048576)
def OpenSpec.upto (s : _root_.Go.ChangeSpec) : _root_.Go.OpenSpec := { _root_.Go.OpenSpec.ofChange s with cond := some uptoSmall }

/-- 'gasworkslaw03.BoxRuns', WHERE WHAT IT READS IS OF BULK AT MOST 1048576: true; the input reads as it did. -/
def boxRunsUptoRow : OpenClaim := { program := "ytpdcajchppoocaa", sum := "6e148b2570982657903ba4d8cec896d80aebbef38b8457bd9f0327bfc1734756", func := "gasworks/gasworkslaw03.BoxRuns", spec := "boxRuns", unfollowed := true, recurses := true, plainKeys := false, apart := false, narrowed := true }
def BoxRunsUptoSaid : Prop := boxRunsUptoRow.holds Try.pinned (OpenSpec.upto boxRunsSpec)

/-- 'gasworkslaw03.BoxBest', WHERE WHAT IT READS IS OF BULK AT MOST 1048576: true; the input reads as it did. -/
def boxBestUptoRow : OpenClaim := { program := "ytpdcajchppoocaa", sum := "6e148b2570982657903ba4d8cec896d80aebbef38b8457bd9f0327bfc1734756", func := "gasworks/gasworkslaw03.BoxBest", spec := "boxBest", unfollowed := true, recurses := true, plainKeys := false, apart := false, narrowed := true }
def BoxBestUptoSaid : Prop := boxBestUptoRow.holds Try.pinned (OpenSpec.upto boxBestSpec)

/-- 'gasworkslaw03.BoxMargins', WHERE WHAT IT READS IS OF BULK AT MOST 1048576: true; the input reads as it did. -/
def boxMarginsUptoRow : OpenClaim := { program := "ytpdcajchppoocaa", sum := "6e148b2570982657903ba4d8cec896d80aebbef38b8457bd9f0327bfc1734756", func := "gasworks/gasworkslaw03.BoxMargins", spec := "boxMargins", unfollowed := true, recurses := true, plainKeys := false, apart := false, narrowed := true }
def BoxMarginsUptoSaid : Prop := boxMarginsUptoRow.holds Try.pinned (OpenSpec.upto boxMarginsSpec)

/-- 'gasworkslaw03.BoxNames', WHERE WHAT IT READS IS OF BULK AT MOST 1048576: true; the input reads as it did. -/
def boxNamesUptoRow : OpenClaim := { program := "ytpdcajchppoocaa", sum := "6e148b2570982657903ba4d8cec896d80aebbef38b8457bd9f0327bfc1734756", func := "gasworks/gasworkslaw03.BoxNames", spec := "boxNames", unfollowed := true, recurses := true, plainKeys := false, apart := false, narrowed := true }
def BoxNamesUptoSaid : Prop := boxNamesUptoRow.holds Try.pinned (OpenSpec.upto boxNamesSpec)

/-- 'gasworkslaw03.BoxTrue', WHERE WHAT IT READS IS OF BULK AT MOST 1048576: true; the input reads as it did. -/
def boxTrueUptoRow : OpenClaim := { program := "ytpdcajchppoocaa", sum := "6e148b2570982657903ba4d8cec896d80aebbef38b8457bd9f0327bfc1734756", func := "gasworks/gasworkslaw03.BoxTrue", spec := "boxTrue", unfollowed := true, recurses := true, plainKeys := false, apart := false, narrowed := true }
def BoxTrueUptoSaid : Prop := boxTrueUptoRow.holds Try.pinned (OpenSpec.upto boxTrueSpec)

/-- 'gasworkslaw03.BoxEnds', WHERE WHAT IT READS IS OF BULK AT MOST 1048576: true; the input reads as it did. -/
def boxEndsUptoRow : OpenClaim := { program := "ytpdcajchppoocaa", sum := "6e148b2570982657903ba4d8cec896d80aebbef38b8457bd9f0327bfc1734756", func := "gasworks/gasworkslaw03.BoxEnds", spec := "boxEnds", unfollowed := true, recurses := true, plainKeys := false, apart := false, narrowed := true }
def BoxEndsUptoSaid : Prop := boxEndsUptoRow.holds Try.pinned (OpenSpec.upto boxEndsSpec)

/-- 'gasworkslaw03.BoxKeeps', WHERE WHAT IT READS IS OF BULK AT MOST 1048576: true; the input reads as it did. -/
def boxKeepsUptoRow : OpenClaim := { program := "ytpdcajchppoocaa", sum := "6e148b2570982657903ba4d8cec896d80aebbef38b8457bd9f0327bfc1734756", func := "gasworks/gasworkslaw03.BoxKeeps", spec := "boxKeeps", unfollowed := true, recurses := true, plainKeys := false, apart := false, narrowed := true }
def BoxKeepsUptoSaid : Prop := boxKeepsUptoRow.holds Try.pinned (OpenSpec.upto boxKeepsSpec)

/-- 'gasworkslaw03.BoxMore', WHERE WHAT IT READS IS OF BULK AT MOST 1048576: true; the input reads as it did. -/
def boxMoreUptoRow : OpenClaim := { program := "ytpdcajchppoocaa", sum := "6e148b2570982657903ba4d8cec896d80aebbef38b8457bd9f0327bfc1734756", func := "gasworks/gasworkslaw03.BoxMore", spec := "boxMore", unfollowed := true, recurses := true, plainKeys := false, apart := false, narrowed := true }
def BoxMoreUptoSaid : Prop := boxMoreUptoRow.holds Try.pinned (OpenSpec.upto boxMoreSpec)

/-- 'gasworkslaw03.BoxMargin', WHERE WHAT IT READS IS OF BULK AT MOST 1048576: true; the input reads as it did. -/
def boxMarginUptoRow : OpenClaim := { program := "ytpdcajchppoocaa", sum := "6e148b2570982657903ba4d8cec896d80aebbef38b8457bd9f0327bfc1734756", func := "gasworks/gasworkslaw03.BoxMargin", spec := "boxMargin", unfollowed := true, recurses := true, plainKeys := false, apart := false, narrowed := true }
def BoxMarginUptoSaid : Prop := boxMarginUptoRow.holds Try.pinned (OpenSpec.upto boxMarginSpec)

/-- 'gasworkslaw03.BoxOwns', WHERE WHAT IT READS IS OF BULK AT MOST 1048576: true; the input reads as it did. -/
def boxOwnsUptoRow : OpenClaim := { program := "ytpdcajchppoocaa", sum := "6e148b2570982657903ba4d8cec896d80aebbef38b8457bd9f0327bfc1734756", func := "gasworks/gasworkslaw03.BoxOwns", spec := "boxOwns", unfollowed := true, recurses := true, plainKeys := false, apart := false, narrowed := true }
def BoxOwnsUptoSaid : Prop := boxOwnsUptoRow.holds Try.pinned (OpenSpec.upto boxOwnsSpec)

end Rows
end Go.Proofs.Ytpdcajchppoocaa
