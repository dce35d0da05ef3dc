/-
  No cell of these rows narrows 'for every input' (looked for: loops, veiled, ifaces, maps, wideKeys, modest, calm, conditions, laid).
  DERIVED. THE GIVEN ROWS OF THIS SEAT. 11 by the template 'for every input the law returns true; each argument reads behind the call as it read before'; 0 by the template 'total and deterministic' (their statements: YtidofckanadkpaaTotals.lean).
  GIVEN WITH THE SEED: the statements are not yours to turn. If you find one false, say at which input.
  Laid BY PROGRAM, IN A SANDBOX (cutbox-rows.mjs): the forced cells as the released guide's own fill.sh prints them over the translation ab7eef4eafe89204… (all of the seat's roots in one cut). By AI agents, Wed Nov 11 2026. No macro, syntax, notation, axiom, sorry.
-/
import Derived.Test.YtidofckanadkpaaChecked
import GoSem.Claim
import GoSem.ClaimJoined
import GoSem.ClaimMapViews
import Derived.JoinedTies
import Derived.KernelRfl
namespace Go.Proofs.Ytidofckanadkpaa
/- THE CELL 'sum', in the pinned program and in every row, IS THE sha256 OF THE DUMP (.gsa) THAT YtidofckanadkpaaProg.lean LOADS. Nothing in Lean hashes anything: it is a label: what it is worth is what the hold of that sum in a sandbox is worth. -/
noncomputable def Try.pinned : Pinned := { name := "ytidofckanadkpaa", sum := "ab7eef4eafe89204c1299e4682b4b155a0f90a3575faf638f2e1016572f08d30", checked := Try.checked }
namespace Rows
def none {H : Type} : Left H := { results := [], args := [] }

/-- 'laws.FnTeams': WHATEVER THE INPUT: true; the input reads as it did. -/
def fnTeamsSpec : ChangeSpec := { name := "fnTeams", fn := fun _ => fun
  | [d] => { results := [.lit (.bool true)], args := [d] }
  | _ => none }
def fnTeamsRow : OpenClaim := { program := "ytidofckanadkpaa", sum := "ab7eef4eafe89204c1299e4682b4b155a0f90a3575faf638f2e1016572f08d30", func := "loop.example/g00933/laws.FnTeams", spec := "fnTeams", recurses := true, apart := false }
def FnTeamsSaid : Prop := fnTeamsRow.holds Try.pinned (OpenSpec.ofChange fnTeamsSpec)

/-- ITS FALSE NEIGHBOUR: 'it returns false'. Refute it at one input. -/
def fnTeamsWrong : ChangeSpec := { name := "fnTeams", fn := fun _ => fun
  | [d] => { results := [.lit (.bool false)], args := [d] }
  | _ => none }
def FnTeamsWrongFalsely : Prop := fnTeamsRow.holds Try.pinned (OpenSpec.ofChange fnTeamsWrong)

/-- 'laws.FnTeamCounts': WHATEVER THE INPUT: true; the input reads as it did. -/
def fnTeamCountsSpec : ChangeSpec := { name := "fnTeamCounts", fn := fun _ => fun
  | [d] => { results := [.lit (.bool true)], args := [d] }
  | _ => none }
def fnTeamCountsRow : OpenClaim := { program := "ytidofckanadkpaa", sum := "ab7eef4eafe89204c1299e4682b4b155a0f90a3575faf638f2e1016572f08d30", func := "loop.example/g00933/laws.FnTeamCounts", spec := "fnTeamCounts", recurses := true, apart := false }
def FnTeamCountsSaid : Prop := fnTeamCountsRow.holds Try.pinned (OpenSpec.ofChange fnTeamCountsSpec)

/-- ITS FALSE NEIGHBOUR: 'it returns false'. Refute it at one input. -/
def fnTeamCountsWrong : ChangeSpec := { name := "fnTeamCounts", fn := fun _ => fun
  | [d] => { results := [.lit (.bool false)], args := [d] }
  | _ => none }
def FnTeamCountsWrongFalsely : Prop := fnTeamCountsRow.holds Try.pinned (OpenSpec.ofChange fnTeamCountsWrong)

/-- 'laws.FnExactArePeople': WHATEVER THE INPUT: true; the input reads as it did. -/
def fnExactArePeopleSpec : ChangeSpec := { name := "fnExactArePeople", fn := fun _ => fun
  | [d] => { results := [.lit (.bool true)], args := [d] }
  | _ => none }
def fnExactArePeopleRow : OpenClaim := { program := "ytidofckanadkpaa", sum := "ab7eef4eafe89204c1299e4682b4b155a0f90a3575faf638f2e1016572f08d30", func := "loop.example/g00933/laws.FnExactArePeople", spec := "fnExactArePeople", apart := false }
def FnExactArePeopleSaid : Prop := fnExactArePeopleRow.holds Try.pinned (OpenSpec.ofChange fnExactArePeopleSpec)

/-- ITS FALSE NEIGHBOUR: 'it returns false'. Refute it at one input. -/
def fnExactArePeopleWrong : ChangeSpec := { name := "fnExactArePeople", fn := fun _ => fun
  | [d] => { results := [.lit (.bool false)], args := [d] }
  | _ => none }
def FnExactArePeopleWrongFalsely : Prop := fnExactArePeopleRow.holds Try.pinned (OpenSpec.ofChange fnExactArePeopleWrong)

/-- 'laws.FnExactIsTeam': WHATEVER THE INPUT: true; the input reads as it did. -/
def fnExactIsTeamSpec : ChangeSpec := { name := "fnExactIsTeam", fn := fun _ => fun
  | [d1, d2] => { results := [.lit (.bool true)], args := [d1, d2] }
  | _ => none }
def fnExactIsTeamRow : OpenClaim := { program := "ytidofckanadkpaa", sum := "ab7eef4eafe89204c1299e4682b4b155a0f90a3575faf638f2e1016572f08d30", func := "loop.example/g00933/laws.FnExactIsTeam", spec := "fnExactIsTeam", apart := false }
def FnExactIsTeamSaid : Prop := fnExactIsTeamRow.holds Try.pinned (OpenSpec.ofChange fnExactIsTeamSpec)

/-- ITS FALSE NEIGHBOUR: 'it returns false'. Refute it at one input. -/
def fnExactIsTeamWrong : ChangeSpec := { name := "fnExactIsTeam", fn := fun _ => fun
  | [d1, d2] => { results := [.lit (.bool false)], args := [d1, d2] }
  | _ => none }
def FnExactIsTeamWrongFalsely : Prop := fnExactIsTeamRow.holds Try.pinned (OpenSpec.ofChange fnExactIsTeamWrong)

/-- 'laws.FnExactSkillsOf': WHATEVER THE INPUT: true; the input reads as it did. -/
def fnExactSkillsOfSpec : ChangeSpec := { name := "fnExactSkillsOf", fn := fun _ => fun
  | [d1, d2] => { results := [.lit (.bool true)], args := [d1, d2] }
  | _ => none }
def fnExactSkillsOfRow : OpenClaim := { program := "ytidofckanadkpaa", sum := "ab7eef4eafe89204c1299e4682b4b155a0f90a3575faf638f2e1016572f08d30", func := "loop.example/g00933/laws.FnExactSkillsOf", spec := "fnExactSkillsOf", apart := false }
def FnExactSkillsOfSaid : Prop := fnExactSkillsOfRow.holds Try.pinned (OpenSpec.ofChange fnExactSkillsOfSpec)

/-- ITS FALSE NEIGHBOUR: 'it returns false'. Refute it at one input. -/
def fnExactSkillsOfWrong : ChangeSpec := { name := "fnExactSkillsOf", fn := fun _ => fun
  | [d1, d2] => { results := [.lit (.bool false)], args := [d1, d2] }
  | _ => none }
def FnExactSkillsOfWrongFalsely : Prop := fnExactSkillsOfRow.holds Try.pinned (OpenSpec.ofChange fnExactSkillsOfWrong)

/-- 'laws.FnExactWithSkills': WHATEVER THE INPUT: true; the input reads as it did. -/
def fnExactWithSkillsSpec : ChangeSpec := { name := "fnExactWithSkills", fn := fun _ => fun
  | [d1, d2] => { results := [.lit (.bool true)], args := [d1, d2] }
  | _ => none }
def fnExactWithSkillsRow : OpenClaim := { program := "ytidofckanadkpaa", sum := "ab7eef4eafe89204c1299e4682b4b155a0f90a3575faf638f2e1016572f08d30", func := "loop.example/g00933/laws.FnExactWithSkills", spec := "fnExactWithSkills", apart := false }
def FnExactWithSkillsSaid : Prop := fnExactWithSkillsRow.holds Try.pinned (OpenSpec.ofChange fnExactWithSkillsSpec)

/-- ITS FALSE NEIGHBOUR: 'it returns false'. Refute it at one input. -/
def fnExactWithSkillsWrong : ChangeSpec := { name := "fnExactWithSkills", fn := fun _ => fun
  | [d1, d2] => { results := [.lit (.bool false)], args := [d1, d2] }
  | _ => none }
def FnExactWithSkillsWrongFalsely : Prop := fnExactWithSkillsRow.holds Try.pinned (OpenSpec.ofChange fnExactWithSkillsWrong)

/-- 'laws.FnExactSmallestTeam': WHATEVER THE INPUT: true; the input reads as it did. -/
def fnExactSmallestTeamSpec : ChangeSpec := { name := "fnExactSmallestTeam", fn := fun _ => fun
  | [d1, d2] => { results := [.lit (.bool true)], args := [d1, d2] }
  | _ => none }
def fnExactSmallestTeamRow : OpenClaim := { program := "ytidofckanadkpaa", sum := "ab7eef4eafe89204c1299e4682b4b155a0f90a3575faf638f2e1016572f08d30", func := "loop.example/g00933/laws.FnExactSmallestTeam", spec := "fnExactSmallestTeam", recurses := true, apart := false }
def FnExactSmallestTeamSaid : Prop := fnExactSmallestTeamRow.holds Try.pinned (OpenSpec.ofChange fnExactSmallestTeamSpec)

/-- ITS FALSE NEIGHBOUR: 'it returns false'. Refute it at one input. -/
def fnExactSmallestTeamWrong : ChangeSpec := { name := "fnExactSmallestTeam", fn := fun _ => fun
  | [d1, d2] => { results := [.lit (.bool false)], args := [d1, d2] }
  | _ => none }
def FnExactSmallestTeamWrongFalsely : Prop := fnExactSmallestTeamRow.holds Try.pinned (OpenSpec.ofChange fnExactSmallestTeamWrong)

/-- 'laws.FnExactCountTeams': WHATEVER THE INPUT: true; the input reads as it did. -/
def fnExactCountTeamsSpec : ChangeSpec := { name := "fnExactCountTeams", fn := fun _ => fun
  | [d] => { results := [.lit (.bool true)], args := [d] }
  | _ => none }
def fnExactCountTeamsRow : OpenClaim := { program := "ytidofckanadkpaa", sum := "ab7eef4eafe89204c1299e4682b4b155a0f90a3575faf638f2e1016572f08d30", func := "loop.example/g00933/laws.FnExactCountTeams", spec := "fnExactCountTeams", recurses := true, apart := false }
def FnExactCountTeamsSaid : Prop := fnExactCountTeamsRow.holds Try.pinned (OpenSpec.ofChange fnExactCountTeamsSpec)

/-- ITS FALSE NEIGHBOUR: 'it returns false'. Refute it at one input. -/
def fnExactCountTeamsWrong : ChangeSpec := { name := "fnExactCountTeams", fn := fun _ => fun
  | [d] => { results := [.lit (.bool false)], args := [d] }
  | _ => none }
def FnExactCountTeamsWrongFalsely : Prop := fnExactCountTeamsRow.holds Try.pinned (OpenSpec.ofChange fnExactCountTeamsWrong)

/-- 'laws.FnExactGoOnTrip': WHATEVER THE INPUT: true; the input reads as it did. -/
def fnExactGoOnTripSpec : ChangeSpec := { name := "fnExactGoOnTrip", fn := fun _ => fun
  | [d1, d2] => { results := [.lit (.bool true)], args := [d1, d2] }
  | _ => none }
def fnExactGoOnTripRow : OpenClaim := { program := "ytidofckanadkpaa", sum := "ab7eef4eafe89204c1299e4682b4b155a0f90a3575faf638f2e1016572f08d30", func := "loop.example/g00933/laws.FnExactGoOnTrip", spec := "fnExactGoOnTrip", apart := false }
def FnExactGoOnTripSaid : Prop := fnExactGoOnTripRow.holds Try.pinned (OpenSpec.ofChange fnExactGoOnTripSpec)

/-- ITS FALSE NEIGHBOUR: 'it returns false'. Refute it at one input. -/
def fnExactGoOnTripWrong : ChangeSpec := { name := "fnExactGoOnTrip", fn := fun _ => fun
  | [d1, d2] => { results := [.lit (.bool false)], args := [d1, d2] }
  | _ => none }
def FnExactGoOnTripWrongFalsely : Prop := fnExactGoOnTripRow.holds Try.pinned (OpenSpec.ofChange fnExactGoOnTripWrong)

/-- 'laws.FnExactSplitTeams': WHATEVER THE INPUT: true; the input reads as it did. -/
def fnExactSplitTeamsSpec : ChangeSpec := { name := "fnExactSplitTeams", fn := fun _ => fun
  | [d] => { results := [.lit (.bool true)], args := [d] }
  | _ => none }
def fnExactSplitTeamsRow : OpenClaim := { program := "ytidofckanadkpaa", sum := "ab7eef4eafe89204c1299e4682b4b155a0f90a3575faf638f2e1016572f08d30", func := "loop.example/g00933/laws.FnExactSplitTeams", spec := "fnExactSplitTeams", recurses := true, apart := false }
def FnExactSplitTeamsSaid : Prop := fnExactSplitTeamsRow.holds Try.pinned (OpenSpec.ofChange fnExactSplitTeamsSpec)

/-- ITS FALSE NEIGHBOUR: 'it returns false'. Refute it at one input. -/
def fnExactSplitTeamsWrong : ChangeSpec := { name := "fnExactSplitTeams", fn := fun _ => fun
  | [d] => { results := [.lit (.bool false)], args := [d] }
  | _ => none }
def FnExactSplitTeamsWrongFalsely : Prop := fnExactSplitTeamsRow.holds Try.pinned (OpenSpec.ofChange fnExactSplitTeamsWrong)

/-- 'laws.FnExactMissingSkills': WHATEVER THE INPUT: true; the input reads as it did. -/
def fnExactMissingSkillsSpec : ChangeSpec := { name := "fnExactMissingSkills", fn := fun _ => fun
  | [d1, d2, d3] => { results := [.lit (.bool true)], args := [d1, d2, d3] }
  | _ => none }
def fnExactMissingSkillsRow : OpenClaim := { program := "ytidofckanadkpaa", sum := "ab7eef4eafe89204c1299e4682b4b155a0f90a3575faf638f2e1016572f08d30", func := "loop.example/g00933/laws.FnExactMissingSkills", spec := "fnExactMissingSkills", apart := false }
def FnExactMissingSkillsSaid : Prop := fnExactMissingSkillsRow.holds Try.pinned (OpenSpec.ofChange fnExactMissingSkillsSpec)

/-- ITS FALSE NEIGHBOUR: 'it returns false'. Refute it at one input. -/
def fnExactMissingSkillsWrong : ChangeSpec := { name := "fnExactMissingSkills", fn := fun _ => fun
  | [d1, d2, d3] => { results := [.lit (.bool false)], args := [d1, d2, d3] }
  | _ => none }
def FnExactMissingSkillsWrongFalsely : Prop := fnExactMissingSkillsRow.holds Try.pinned (OpenSpec.ofChange fnExactMissingSkillsWrong)

/- THE SECOND FORM. 'bulk': how many values and letters a reading holds, each counted each time it is reached (what is shared counts as often as it is met; a slice's spare places count too). A statement '..UptoSaid' is the law's where the arguments, and the package variables that the reading takes, are together of bulk at most 1048576: NARROWER than '..Said'. Prove '..Said' where nothing that the law and all that it calls make is longer than what came in: it says more and counts as full. Else prove '..UptoSaid'. A law counts once. -/
mutual
def uptoBulk {H : Type} : DataW H → Nat
  | .lit (.string bytes) => bytes.length + 1
  | .lit _ => 1
  | .nil => 1
  | .ptr d => uptoBulk d + 1
  | .slice elems spare => uptoBulkAll elems + uptoBulkAll spare + 1
  | .agg parts => uptoBulkAll parts + 1
  | .iface _ d => uptoBulk d + 1
  | .map entries => uptoBulkEntries entries + 1
  | .held _ => 1
def uptoBulkAll {H : Type} : List (DataW H) → Nat
  | [] => 0
  | d :: r => uptoBulk d + uptoBulkAll r
def uptoBulkEntries {H : Type} : List (Lit × DataW H) → Nat
  | [] => 0
  | x :: r => uptoBulkEntry x + uptoBulkEntries r
def uptoBulkEntry {H : Type} : Lit × DataW H → Nat
  | (.string bytes, d) => bytes.length + uptoBulk d + 1
  | (_, d) => uptoBulk d + 1
 end
def uptoSmall : (H : Type) → List (DataW H) → Bool := fun _ ds => decide (uptoBulkAll ds ≤ 1048576)
def OpenSpec.upto (s : _root_.Go.ChangeSpec) : _root_.Go.OpenSpec := { _root_.Go.OpenSpec.ofChange s with cond := some uptoSmall }

/-- 'laws.FnTeams', WHERE WHAT IT READS IS OF BULK AT MOST 1048576: true; the input reads as it did. -/
def fnTeamsUptoRow : OpenClaim := { program := "ytidofckanadkpaa", sum := "ab7eef4eafe89204c1299e4682b4b155a0f90a3575faf638f2e1016572f08d30", func := "loop.example/g00933/laws.FnTeams", spec := "fnTeams", recurses := true, apart := false, narrowed := true }
def FnTeamsUptoSaid : Prop := fnTeamsUptoRow.holds Try.pinned (OpenSpec.upto fnTeamsSpec)

/-- 'laws.FnTeamCounts', WHERE WHAT IT READS IS OF BULK AT MOST 1048576: true; the input reads as it did. -/
def fnTeamCountsUptoRow : OpenClaim := { program := "ytidofckanadkpaa", sum := "ab7eef4eafe89204c1299e4682b4b155a0f90a3575faf638f2e1016572f08d30", func := "loop.example/g00933/laws.FnTeamCounts", spec := "fnTeamCounts", recurses := true, apart := false, narrowed := true }
def FnTeamCountsUptoSaid : Prop := fnTeamCountsUptoRow.holds Try.pinned (OpenSpec.upto fnTeamCountsSpec)

/-- 'laws.FnExactArePeople', WHERE WHAT IT READS IS OF BULK AT MOST 1048576: true; the input reads as it did. -/
def fnExactArePeopleUptoRow : OpenClaim := { program := "ytidofckanadkpaa", sum := "ab7eef4eafe89204c1299e4682b4b155a0f90a3575faf638f2e1016572f08d30", func := "loop.example/g00933/laws.FnExactArePeople", spec := "fnExactArePeople", apart := false, narrowed := true }
def FnExactArePeopleUptoSaid : Prop := fnExactArePeopleUptoRow.holds Try.pinned (OpenSpec.upto fnExactArePeopleSpec)

/-- 'laws.FnExactIsTeam', WHERE WHAT IT READS IS OF BULK AT MOST 1048576: true; the input reads as it did. -/
def fnExactIsTeamUptoRow : OpenClaim := { program := "ytidofckanadkpaa", sum := "ab7eef4eafe89204c1299e4682b4b155a0f90a3575faf638f2e1016572f08d30", func := "loop.example/g00933/laws.FnExactIsTeam", spec := "fnExactIsTeam", apart := false, narrowed := true }
def FnExactIsTeamUptoSaid : Prop := fnExactIsTeamUptoRow.holds Try.pinned (OpenSpec.upto fnExactIsTeamSpec)

/-- 'laws.FnExactSkillsOf', WHERE WHAT IT READS IS OF BULK AT MOST 1048576: true; the input reads as it did. -/
def fnExactSkillsOfUptoRow : OpenClaim := { program := "ytidofckanadkpaa", sum := "ab7eef4eafe89204c1299e4682b4b155a0f90a3575faf638f2e1016572f08d30", func := "loop.example/g00933/laws.FnExactSkillsOf", spec := "fnExactSkillsOf", apart := false, narrowed := true }
def FnExactSkillsOfUptoSaid : Prop := fnExactSkillsOfUptoRow.holds Try.pinned (OpenSpec.upto fnExactSkillsOfSpec)

/-- 'laws.FnExactWithSkills', WHERE WHAT IT READS IS OF BULK AT MOST 1048576: true; the input reads as it did. -/
def fnExactWithSkillsUptoRow : OpenClaim := { program := "ytidofckanadkpaa", sum := "ab7eef4eafe89204c1299e4682b4b155a0f90a3575faf638f2e1016572f08d30", func := "loop.example/g00933/laws.FnExactWithSkills", spec := "fnExactWithSkills", apart := false, narrowed := true }
def FnExactWithSkillsUptoSaid : Prop := fnExactWithSkillsUptoRow.holds Try.pinned (OpenSpec.upto fnExactWithSkillsSpec)

/-- 'laws.FnExactSmallestTeam', WHERE WHAT IT READS IS OF BULK AT MOST 1048576: true; the input reads as it did. -/
def fnExactSmallestTeamUptoRow : OpenClaim := { program := "ytidofckanadkpaa", sum := "ab7eef4eafe89204c1299e4682b4b155a0f90a3575faf638f2e1016572f08d30", func := "loop.example/g00933/laws.FnExactSmallestTeam", spec := "fnExactSmallestTeam", recurses := true, apart := false, narrowed := true }
def FnExactSmallestTeamUptoSaid : Prop := fnExactSmallestTeamUptoRow.holds Try.pinned (OpenSpec.upto fnExactSmallestTeamSpec)

/-- 'laws.FnExactCountTeams', WHERE WHAT IT READS IS OF BULK AT MOST 1048576: true; the input reads as it did. -/
def fnExactCountTeamsUptoRow : OpenClaim := { program := "ytidofckanadkpaa", sum := "ab7eef4eafe89204c1299e4682b4b155a0f90a3575faf638f2e1016572f08d30", func := "loop.example/g00933/laws.FnExactCountTeams", spec := "fnExactCountTeams", recurses := true, apart := false, narrowed := true }
def FnExactCountTeamsUptoSaid : Prop := fnExactCountTeamsUptoRow.holds Try.pinned (OpenSpec.upto fnExactCountTeamsSpec)

/-- 'laws.FnExactGoOnTrip', WHERE WHAT IT READS IS OF BULK AT MOST 1048576: true; the input reads as it did. -/
def fnExactGoOnTripUptoRow : OpenClaim := { program := "ytidofckanadkpaa", sum := "ab7eef4eafe89204c1299e4682b4b155a0f90a3575faf638f2e1016572f08d30", func := "loop.example/g00933/laws.FnExactGoOnTrip", spec := "fnExactGoOnTrip", apart := false, narrowed := true }
def FnExactGoOnTripUptoSaid : Prop := fnExactGoOnTripUptoRow.holds Try.pinned (OpenSpec.upto fnExactGoOnTripSpec)

/-- 'laws.FnExactSplitTeams', WHERE WHAT IT READS IS OF BULK AT MOST 1048576: true; the input reads as it did. -/
def fnExactSplitTeamsUptoRow : OpenClaim := { program := "ytidofckanadkpaa", sum := "ab7eef4eafe89204c1299e4682b4b155a0f90a3575faf638f2e1016572f08d30", func := "loop.example/g00933/laws.FnExactSplitTeams", spec := "fnExactSplitTeams", recurses := true, apart := false, narrowed := true }
def FnExactSplitTeamsUptoSaid : Prop := fnExactSplitTeamsUptoRow.holds Try.pinned (OpenSpec.upto fnExactSplitTeamsSpec)

/-- 'laws.FnExactMissingSkills', WHERE WHAT IT READS IS OF BULK AT MOST 1048576: true; the input reads as it did. -/
def fnExactMissingSkillsUptoRow : OpenClaim := { program := "ytidofckanadkpaa", sum := "ab7eef4eafe89204c1299e4682b4b155a0f90a3575faf638f2e1016572f08d30", func := "loop.example/g00933/laws.FnExactMissingSkills", spec := "fnExactMissingSkills", apart := false, narrowed := true }
def FnExactMissingSkillsUptoSaid : Prop := fnExactMissingSkillsUptoRow.holds Try.pinned (OpenSpec.upto fnExactMissingSkillsSpec)

end Rows
end Go.Proofs.Ytidofckanadkpaa
