/-
  No cell of these rows narrows 'for every input' (looked for: loops, veiled, ifaces, maps, wideKeys, modest, calm, conditions, laid).
  DERIVED. THE GIVEN ROWS OF THIS SEAT. 8 by the template 'for every input the law returns true; each argument reads behind the call as it read before'; 0 by the template 'total and deterministic' (their statements: YtfjfnpknlkonnaaTotals.lean).
  GIVEN WITH THE SEED: the statements are not yours to turn. If you find one false, say at which input.
  Laid BY PROGRAM, IN A SANDBOX (cutbox-rows.mjs): the forced cells as the released guide's own fill.sh prints them over the translation adc6b9272ad34533… (all of the seat's roots in one cut). By AI agents, Wed Nov 11 2026. No macro, syntax, notation, axiom, sorry.
-/
import Derived.Test.YtfjfnpknlkonnaaChecked
import GoSem.Claim
import GoSem.ClaimJoined
import GoSem.ClaimMapViews
import Derived.JoinedTies
import Derived.KernelRfl
namespace Go.Proofs.Ytfjfnpknlkonnaa
/- THE CELL 'sum', in the pinned program and in every row, IS THE sha256 OF THE DUMP (.gsa) THAT YtfjfnpknlkonnaaProg.lean LOADS. Nothing in Lean hashes anything: it is a label: what it is worth is what the hold of that sum in a sandbox is worth. -/
noncomputable def Try.pinned : Pinned := { name := "ytfjfnpknlkonnaa", sum := "adc6b9272ad34533f4fe05e2f37b73978bd623f6a9bc9214842fda535ff264fb", checked := Try.checked }
namespace Rows
def none {H : Type} : Left H := { results := [], args := [] }

/-- 'gasworkslaw07.LeakSuspects': WHATEVER THE INPUT: true; the input reads as it did. -/
def leakSuspectsSpec : ChangeSpec := { name := "leakSuspects", fn := fun _ => fun
  | [d1, d2] => { results := [.lit (.bool true)], args := [d1, d2] }
  | _ => none }
def leakSuspectsRow : OpenClaim := { program := "ytfjfnpknlkonnaa", sum := "adc6b9272ad34533f4fe05e2f37b73978bd623f6a9bc9214842fda535ff264fb", func := "gasworks/gasworkslaw07.LeakSuspects", spec := "leakSuspects", unfollowed := true, recurses := true, plainKeys := false, apart := false }
def LeakSuspectsSaid : Prop := leakSuspectsRow.holds Try.pinned (OpenSpec.ofChange leakSuspectsSpec)

/-- ITS FALSE NEIGHBOUR: 'it returns false'. Refute it at one input. -/
def leakSuspectsWrong : ChangeSpec := { name := "leakSuspects", fn := fun _ => fun
  | [d1, d2] => { results := [.lit (.bool false)], args := [d1, d2] }
  | _ => none }
def LeakSuspectsWrongFalsely : Prop := leakSuspectsRow.holds Try.pinned (OpenSpec.ofChange leakSuspectsWrong)

/-- 'gasworkslaw07.LeakFewest': WHATEVER THE INPUT: true; the input reads as it did. -/
def leakFewestSpec : ChangeSpec := { name := "leakFewest", fn := fun _ => fun
  | [d] => { results := [.lit (.bool true)], args := [d] }
  | _ => none }
def leakFewestRow : OpenClaim := { program := "ytfjfnpknlkonnaa", sum := "adc6b9272ad34533f4fe05e2f37b73978bd623f6a9bc9214842fda535ff264fb", func := "gasworks/gasworkslaw07.LeakFewest", spec := "leakFewest", unfollowed := true, recurses := true, plainKeys := false, apart := false }
def LeakFewestSaid : Prop := leakFewestRow.holds Try.pinned (OpenSpec.ofChange leakFewestSpec)

/-- ITS FALSE NEIGHBOUR: 'it returns false'. Refute it at one input. -/
def leakFewestWrong : ChangeSpec := { name := "leakFewest", fn := fun _ => fun
  | [d] => { results := [.lit (.bool false)], args := [d] }
  | _ => none }
def LeakFewestWrongFalsely : Prop := leakFewestRow.holds Try.pinned (OpenSpec.ofChange leakFewestWrong)

/-- 'gasworkslaw07.LeakNames': WHATEVER THE INPUT: true; the input reads as it did. -/
def leakNamesSpec : ChangeSpec := { name := "leakNames", fn := fun _ => fun
  | [] => { results := [.lit (.bool true)], args := [] }
  | _ => none }
def leakNamesRow : OpenClaim := { program := "ytfjfnpknlkonnaa", sum := "adc6b9272ad34533f4fe05e2f37b73978bd623f6a9bc9214842fda535ff264fb", func := "gasworks/gasworkslaw07.LeakNames", spec := "leakNames", unfollowed := true, recurses := true, plainKeys := false, apart := false }
def LeakNamesSaid : Prop := leakNamesRow.holds Try.pinned (OpenSpec.ofChange leakNamesSpec)

/-- ITS FALSE NEIGHBOUR: 'it returns false'. Refute it at one input. -/
def leakNamesWrong : ChangeSpec := { name := "leakNames", fn := fun _ => fun
  | [] => { results := [.lit (.bool false)], args := [] }
  | _ => none }
def LeakNamesWrongFalsely : Prop := leakNamesRow.holds Try.pinned (OpenSpec.ofChange leakNamesWrong)

/-- 'gasworkslaw07.LeakTrue': WHATEVER THE INPUT: true; the input reads as it did. -/
def leakTrueSpec : ChangeSpec := { name := "leakTrue", fn := fun _ => fun
  | [d1, d2, d3, d4] => { results := [.lit (.bool true)], args := [d1, d2, d3, d4] }
  | _ => none }
def leakTrueRow : OpenClaim := { program := "ytfjfnpknlkonnaa", sum := "adc6b9272ad34533f4fe05e2f37b73978bd623f6a9bc9214842fda535ff264fb", func := "gasworks/gasworkslaw07.LeakTrue", spec := "leakTrue", unfollowed := true, recurses := true, plainKeys := false, apart := false }
def LeakTrueSaid : Prop := leakTrueRow.holds Try.pinned (OpenSpec.ofChange leakTrueSpec)

/-- ITS FALSE NEIGHBOUR: 'it returns false'. Refute it at one input. -/
def leakTrueWrong : ChangeSpec := { name := "leakTrue", fn := fun _ => fun
  | [d1, d2, d3, d4] => { results := [.lit (.bool false)], args := [d1, d2, d3, d4] }
  | _ => none }
def LeakTrueWrongFalsely : Prop := leakTrueRow.holds Try.pinned (OpenSpec.ofChange leakTrueWrong)

/-- 'gasworkslaw07.LeakHalves': WHATEVER THE INPUT: true; the input reads as it did. -/
def leakHalvesSpec : ChangeSpec := { name := "leakHalves", fn := fun _ => fun
  | [d1, d2] => { results := [.lit (.bool true)], args := [d1, d2] }
  | _ => none }
def leakHalvesRow : OpenClaim := { program := "ytfjfnpknlkonnaa", sum := "adc6b9272ad34533f4fe05e2f37b73978bd623f6a9bc9214842fda535ff264fb", func := "gasworks/gasworkslaw07.LeakHalves", spec := "leakHalves", unfollowed := true, recurses := true, plainKeys := false, apart := false }
def LeakHalvesSaid : Prop := leakHalvesRow.holds Try.pinned (OpenSpec.ofChange leakHalvesSpec)

/-- ITS FALSE NEIGHBOUR: 'it returns false'. Refute it at one input. -/
def leakHalvesWrong : ChangeSpec := { name := "leakHalves", fn := fun _ => fun
  | [d1, d2] => { results := [.lit (.bool false)], args := [d1, d2] }
  | _ => none }
def LeakHalvesWrongFalsely : Prop := leakHalvesRow.holds Try.pinned (OpenSpec.ofChange leakHalvesWrong)

/-- 'gasworkslaw07.LeakMore': WHATEVER THE INPUT: true; the input reads as it did. -/
def leakMoreSpec : ChangeSpec := { name := "leakMore", fn := fun _ => fun
  | [d1, d2, d3] => { results := [.lit (.bool true)], args := [d1, d2, d3] }
  | _ => none }
def leakMoreRow : OpenClaim := { program := "ytfjfnpknlkonnaa", sum := "adc6b9272ad34533f4fe05e2f37b73978bd623f6a9bc9214842fda535ff264fb", func := "gasworks/gasworkslaw07.LeakMore", spec := "leakMore", unfollowed := true, recurses := true, plainKeys := false, apart := false }
def LeakMoreSaid : Prop := leakMoreRow.holds Try.pinned (OpenSpec.ofChange leakMoreSpec)

/-- ITS FALSE NEIGHBOUR: 'it returns false'. Refute it at one input. -/
def leakMoreWrong : ChangeSpec := { name := "leakMore", fn := fun _ => fun
  | [d1, d2, d3] => { results := [.lit (.bool false)], args := [d1, d2, d3] }
  | _ => none }
def LeakMoreWrongFalsely : Prop := leakMoreRow.holds Try.pinned (OpenSpec.ofChange leakMoreWrong)

/-- 'gasworkslaw07.LeakOrder': WHATEVER THE INPUT: true; the input reads as it did. -/
def leakOrderSpec : ChangeSpec := { name := "leakOrder", fn := fun _ => fun
  | [d1, d2] => { results := [.lit (.bool true)], args := [d1, d2] }
  | _ => none }
def leakOrderRow : OpenClaim := { program := "ytfjfnpknlkonnaa", sum := "adc6b9272ad34533f4fe05e2f37b73978bd623f6a9bc9214842fda535ff264fb", func := "gasworks/gasworkslaw07.LeakOrder", spec := "leakOrder", unfollowed := true, recurses := true, plainKeys := false, apart := false }
def LeakOrderSaid : Prop := leakOrderRow.holds Try.pinned (OpenSpec.ofChange leakOrderSpec)

/-- ITS FALSE NEIGHBOUR: 'it returns false'. Refute it at one input. -/
def leakOrderWrong : ChangeSpec := { name := "leakOrder", fn := fun _ => fun
  | [d1, d2] => { results := [.lit (.bool false)], args := [d1, d2] }
  | _ => none }
def LeakOrderWrongFalsely : Prop := leakOrderRow.holds Try.pinned (OpenSpec.ofChange leakOrderWrong)

/-- 'gasworkslaw07.LeakOwns': WHATEVER THE INPUT: true; the input reads as it did. -/
def leakOwnsSpec : ChangeSpec := { name := "leakOwns", fn := fun _ => fun
  | [d1, d2] => { results := [.lit (.bool true)], args := [d1, d2] }
  | _ => none }
def leakOwnsRow : OpenClaim := { program := "ytfjfnpknlkonnaa", sum := "adc6b9272ad34533f4fe05e2f37b73978bd623f6a9bc9214842fda535ff264fb", func := "gasworks/gasworkslaw07.LeakOwns", spec := "leakOwns", unfollowed := true, recurses := true, plainKeys := false, apart := false }
def LeakOwnsSaid : Prop := leakOwnsRow.holds Try.pinned (OpenSpec.ofChange leakOwnsSpec)

/-- ITS FALSE NEIGHBOUR: 'it returns false'. Refute it at one input. -/
def leakOwnsWrong : ChangeSpec := { name := "leakOwns", fn := fun _ => fun
  | [d1, d2] => { results := [.lit (.bool false)], args := [d1, d2] }
  | _ => none }
def LeakOwnsWrongFalsely : Prop := leakOwnsRow.holds Try.pinned (OpenSpec.ofChange leakOwnsWrong)

/- THE SECOND FORM. 'bulk': how many values and letters a reading holds, each counted each time it is reached (what is shared counts as often as it is met; a slice's spare places count too). A statement '..UptoSaid' is the law's where the arguments, and the package variables that the reading takes, are together of bulk at most 1048576: NARROWER than '..Said'. Prove '..Said' where nothing that the law and all that it calls make is longer than what came in: it says more and counts as full. Else prove '..UptoSaid'. A law counts once. -/
mutual
def uptoBulk {H : Type} : DataW H → Nat
  | .lit (.string bytes) => bytes.length + 1
  | .lit _ => 1
  | .nil => 1
  | .ptr d => uptoBulk d + 1
  | .slice elems spare => uptoBulkAll elems + uptoBulkAll spare + 1
  | .agg parts => uptoBulkAll parts + 1
  | .iface _ d => uptoBulk d + 1
  | .map entries => uptoBulkEntries entries + 1
  | .held _ => 1
def uptoBulkAll {H : Type} : List (DataW H) → Nat
  | [] => 0
  | d :: r => uptoBulk d + uptoBulkAll r
def uptoBulkEntries {H : Type} : List (Lit × DataW H) → Nat
  | [] => 0
  | x :: r => uptoBulkEntry x + uptoBulkEntries r
def uptoBulkEntry {H : Type} : Lit × DataW H → Nat
  | (.string bytes, d) => bytes.length + uptoBulk d + 1
  | (_, d) => uptoBulk d + 1
 end
def uptoSmall : (H : Type) → List (DataW H) → Bool := fun _ ds => decide (uptoBulkAll ds ≤ 1048576)
def OpenSpec.upto (s : _root_.Go.ChangeSpec) : _root_.Go.OpenSpec := { _root_.Go.OpenSpec.ofChange s with cond := some uptoSmall }

/-- 'gasworkslaw07.LeakSuspects', WHERE WHAT IT READS IS OF BULK AT MOST 1048576: true; the input reads as it did. -/
def leakSuspectsUptoRow : OpenClaim := { program := "ytfjfnpknlkonnaa", sum := "adc6b9272ad34533f4fe05e2f37b73978bd623f6a9bc9214842fda535ff264fb", func := "gasworks/gasworkslaw07.LeakSuspects", spec := "leakSuspects", unfollowed := true, recurses := true, plainKeys := false, apart := false, narrowed := true }
def LeakSuspectsUptoSaid : Prop := leakSuspectsUptoRow.holds Try.pinned (OpenSpec.upto leakSuspectsSpec)

/-- 'gasworkslaw07.LeakFewest', WHERE WHAT IT READS IS OF BULK AT MOST 1048576: true; the input reads as it did. -/
def leakFewestUptoRow : OpenClaim := { program := "ytfjfnpknlkonnaa", sum := "adc6b9272ad34533f4fe05e2f37b73978bd623f6a9bc9214842fda535ff264fb", func := "gasworks/gasworkslaw07.LeakFewest", spec := "leakFewest", unfollowed := true, recurses := true, plainKeys := false, apart := false, narrowed := true }
def LeakFewestUptoSaid : Prop := leakFewestUptoRow.holds Try.pinned (OpenSpec.upto leakFewestSpec)

/-- 'gasworkslaw07.LeakNames', WHERE WHAT IT READS IS OF BULK AT MOST 1048576: true; the input reads as it did. -/
def leakNamesUptoRow : OpenClaim := { program := "ytfjfnpknlkonnaa", sum := "adc6b9272ad34533f4fe05e2f37b73978bd623f6a9bc9214842fda535ff264fb", func := "gasworks/gasworkslaw07.LeakNames", spec := "leakNames", unfollowed := true, recurses := true, plainKeys := false, apart := false, narrowed := true }
def LeakNamesUptoSaid : Prop := leakNamesUptoRow.holds Try.pinned (OpenSpec.upto leakNamesSpec)

/-- 'gasworkslaw07.LeakTrue', WHERE WHAT IT READS IS OF BULK AT MOST 1048576: true; the input reads as it did. -/
def leakTrueUptoRow : OpenClaim := { program := "ytfjfnpknlkonnaa", sum := "adc6b9272ad34533f4fe05e2f37b73978bd623f6a9bc9214842fda535ff264fb", func := "gasworks/gasworkslaw07.LeakTrue", spec := "leakTrue", unfollowed := true, recurses := true, plainKeys := false, apart := false, narrowed := true }
def LeakTrueUptoSaid : Prop := leakTrueUptoRow.holds Try.pinned (OpenSpec.upto leakTrueSpec)

/-- 'gasworkslaw07.LeakHalves', WHERE WHAT IT READS IS OF BULK AT MOST 1048576: true; the input reads as it did. -/
def leakHalvesUptoRow : OpenClaim := { program := "ytfjfnpknlkonnaa", sum := "adc6b9272ad34533f4fe05e2f37b73978bd623f6a9bc9214842fda535ff264fb", func := "gasworks/gasworkslaw07.LeakHalves", spec := "leakHalves", unfollowed := true, recurses := true, plainKeys := false, apart := false, narrowed := true }
def LeakHalvesUptoSaid : Prop := leakHalvesUptoRow.holds Try.pinned (OpenSpec.upto leakHalvesSpec)

/-- 'gasworkslaw07.LeakMore', WHERE WHAT IT READS IS OF BULK AT MOST 1048576: true; the input reads as it did. -/
def leakMoreUptoRow : OpenClaim := { program := "ytfjfnpknlkonnaa", sum := "adc6b9272ad34533f4fe05e2f37b73978bd623f6a9bc9214842fda535ff264fb", func := "gasworks/gasworkslaw07.LeakMore", spec := "leakMore", unfollowed := true, recurses := true, plainKeys := false, apart := false, narrowed := true }
def LeakMoreUptoSaid : Prop := leakMoreUptoRow.holds Try.pinned (OpenSpec.upto leakMoreSpec)

/-- 'gasworkslaw07.LeakOrder', WHERE WHAT IT READS IS OF BULK AT MOST 1048576: true; the input reads as it did. -/
def leakOrderUptoRow : OpenClaim := { program := "ytfjfnpknlkonnaa", sum := "adc6b9272ad34533f4fe05e2f37b73978bd623f6a9bc9214842fda535ff264fb", func := "gasworks/gasworkslaw07.LeakOrder", spec := "leakOrder", unfollowed := true, recurses := true, plainKeys := false, apart := false, narrowed := true }
def LeakOrderUptoSaid : Prop := leakOrderUptoRow.holds Try.pinned (OpenSpec.upto leakOrderSpec)

/-- 'gasworkslaw07.LeakOwns', WHERE WHAT IT READS IS OF BULK AT MOST 1048576: true; the input reads as it did. -/
def leakOwnsUptoRow : OpenClaim := { program := "ytfjfnpknlkonnaa", sum := "adc6b9272ad34533f4fe05e2f37b73978bd623f6a9bc9214842fda535ff264fb", func := "gasworks/gasworkslaw07.LeakOwns", spec := "leakOwns", unfollowed := true, recurses := true, plainKeys := false, apart := false, narrowed := true }
def LeakOwnsUptoSaid : Prop := leakOwnsUptoRow.holds Try.pinned (OpenSpec.upto leakOwnsSpec)

end Rows
end Go.Proofs.Ytfjfnpknlkonnaa
