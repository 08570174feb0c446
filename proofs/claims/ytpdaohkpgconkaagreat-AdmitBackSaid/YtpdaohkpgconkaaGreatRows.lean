/-
  No cell of these rows narrows 'for every input' (looked for: loops, veiled, ifaces, maps, wideKeys, modest, calm, conditions, laid).
  DERIVED. THE GIVEN ROWS OF THIS SEAT. 10 by the template 'for every input the law returns true; each argument reads behind the call as it read before'; 0 by the template 'total and deterministic' (their statements: YtpdaohkpgconkaaGreatTotals.lean).
  GIVEN WITH THE SEED: the statements are not yours to turn. If you find one false, say at which input.
  Laid BY PROGRAM, IN A SANDBOX (cutbox-rows.mjs): the forced cells as the released guide's own fill.sh prints them over the translation 159dd52735a772b5… (all of the seat's roots in one cut). By AI agents, Wed Nov 11 2026. No macro, syntax, notation, axiom, sorry.
-/
import Derived.Test.YtpdaohkpgconkaaGreatChecked
import GoSem.Claim
import GoSem.ClaimJoined
import GoSem.ClaimMapViews
import Derived.JoinedTies
import Derived.KernelRfl
namespace Go.Proofs.YtpdaohkpgconkaaGreat
/- THE CELL 'sum', in the pinned program and in every row, IS THE sha256 OF THE DUMP (.gsa) THAT YtpdaohkpgconkaaGreatProg.lean LOADS. Nothing in Lean hashes anything: it is a label: what it is worth is what the hold of that sum in a sandbox is worth. -/
noncomputable def Tryz.pinned : Pinned := { name := "ytpdaohkpgconkaagreat", sum := "159dd52735a772b52100a520c044bc8cbc4da6de9767cf8018ef107ff7be7350", checked := Tryz.checked }
namespace Rows
def none {H : Type} : Left H := { results := [], args := [] }

/-- 'drayagelaw08.ClauseNames': WHATEVER THE INPUT: true; the input reads as it did. -/
def clauseNamesSpec : ChangeSpec := { name := "clauseNames", fn := fun _ => fun
  | [] => { results := [.lit (.bool true)], args := [] }
  | _ => none }
def clauseNamesRow : OpenClaim := { program := "ytpdaohkpgconkaagreat", sum := "159dd52735a772b52100a520c044bc8cbc4da6de9767cf8018ef107ff7be7350", func := "drayage/drayagelaw08.ClauseNames", spec := "clauseNames", unfollowed := true, recurses := true, plainKeys := false, apart := false }
def ClauseNamesSaid : Prop := clauseNamesRow.holds Tryz.pinned (OpenSpec.ofChange clauseNamesSpec)

/-- ITS FALSE NEIGHBOUR: 'it returns false'. Refute it at one input. -/
def clauseNamesWrong : ChangeSpec := { name := "clauseNames", fn := fun _ => fun
  | [] => { results := [.lit (.bool false)], args := [] }
  | _ => none }
def ClauseNamesWrongFalsely : Prop := clauseNamesRow.holds Tryz.pinned (OpenSpec.ofChange clauseNamesWrong)

/-- 'drayagelaw09.SafeTells': WHATEVER THE INPUT: true; the input reads as it did. -/
def safeTellsSpec : ChangeSpec := { name := "safeTells", fn := fun _ => fun
  | [d1, d2, d3] => { results := [.lit (.bool true)], args := [d1, d2, d3] }
  | _ => none }
def safeTellsRow : OpenClaim := { program := "ytpdaohkpgconkaagreat", sum := "159dd52735a772b52100a520c044bc8cbc4da6de9767cf8018ef107ff7be7350", func := "drayage/drayagelaw09.SafeTells", spec := "safeTells", unfollowed := true, recurses := true, plainKeys := false, apart := false }
def SafeTellsSaid : Prop := safeTellsRow.holds Tryz.pinned (OpenSpec.ofChange safeTellsSpec)

/-- ITS FALSE NEIGHBOUR: 'it returns false'. Refute it at one input. -/
def safeTellsWrong : ChangeSpec := { name := "safeTells", fn := fun _ => fun
  | [d1, d2, d3] => { results := [.lit (.bool false)], args := [d1, d2, d3] }
  | _ => none }
def SafeTellsWrongFalsely : Prop := safeTellsRow.holds Tryz.pinned (OpenSpec.ofChange safeTellsWrong)

/-- 'drayagelaw09.SafeKeeps': WHATEVER THE INPUT: true; the input reads as it did. -/
def safeKeepsSpec : ChangeSpec := { name := "safeKeeps", fn := fun _ => fun
  | [d1, d2, d3] => { results := [.lit (.bool true)], args := [d1, d2, d3] }
  | _ => none }
def safeKeepsRow : OpenClaim := { program := "ytpdaohkpgconkaagreat", sum := "159dd52735a772b52100a520c044bc8cbc4da6de9767cf8018ef107ff7be7350", func := "drayage/drayagelaw09.SafeKeeps", spec := "safeKeeps", unfollowed := true, recurses := true, plainKeys := false, apart := false }
def SafeKeepsSaid : Prop := safeKeepsRow.holds Tryz.pinned (OpenSpec.ofChange safeKeepsSpec)

/-- ITS FALSE NEIGHBOUR: 'it returns false'. Refute it at one input. -/
def safeKeepsWrong : ChangeSpec := { name := "safeKeeps", fn := fun _ => fun
  | [d1, d2, d3] => { results := [.lit (.bool false)], args := [d1, d2, d3] }
  | _ => none }
def SafeKeepsWrongFalsely : Prop := safeKeepsRow.holds Tryz.pinned (OpenSpec.ofChange safeKeepsWrong)

/-- 'drayagelaw09.SafeNames': WHATEVER THE INPUT: true; the input reads as it did. -/
def safeNamesSpec : ChangeSpec := { name := "safeNames", fn := fun _ => fun
  | [] => { results := [.lit (.bool true)], args := [] }
  | _ => none }
def safeNamesRow : OpenClaim := { program := "ytpdaohkpgconkaagreat", sum := "159dd52735a772b52100a520c044bc8cbc4da6de9767cf8018ef107ff7be7350", func := "drayage/drayagelaw09.SafeNames", spec := "safeNames", unfollowed := true, recurses := true, plainKeys := false, apart := false }
def SafeNamesSaid : Prop := safeNamesRow.holds Tryz.pinned (OpenSpec.ofChange safeNamesSpec)

/-- ITS FALSE NEIGHBOUR: 'it returns false'. Refute it at one input. -/
def safeNamesWrong : ChangeSpec := { name := "safeNames", fn := fun _ => fun
  | [] => { results := [.lit (.bool false)], args := [] }
  | _ => none }
def SafeNamesWrongFalsely : Prop := safeNamesRow.holds Tryz.pinned (OpenSpec.ofChange safeNamesWrong)

/-- 'drayagelaw10.AdmitSteps': WHATEVER THE INPUT: true; the input reads as it did. -/
def admitStepsSpec : ChangeSpec := { name := "admitSteps", fn := fun _ => fun
  | [d1, d2, d3] => { results := [.lit (.bool true)], args := [d1, d2, d3] }
  | _ => none }
def admitStepsRow : OpenClaim := { program := "ytpdaohkpgconkaagreat", sum := "159dd52735a772b52100a520c044bc8cbc4da6de9767cf8018ef107ff7be7350", func := "drayage/drayagelaw10.AdmitSteps", spec := "admitSteps", unfollowed := true, recurses := true, plainKeys := false, apart := false }
def AdmitStepsSaid : Prop := admitStepsRow.holds Tryz.pinned (OpenSpec.ofChange admitStepsSpec)

/-- ITS FALSE NEIGHBOUR: 'it returns false'. Refute it at one input. -/
def admitStepsWrong : ChangeSpec := { name := "admitSteps", fn := fun _ => fun
  | [d1, d2, d3] => { results := [.lit (.bool false)], args := [d1, d2, d3] }
  | _ => none }
def AdmitStepsWrongFalsely : Prop := admitStepsRow.holds Tryz.pinned (OpenSpec.ofChange admitStepsWrong)

/-- 'drayagelaw10.AdmitRuns': WHATEVER THE INPUT: true; the input reads as it did. -/
def admitRunsSpec : ChangeSpec := { name := "admitRuns", fn := fun _ => fun
  | [d1, d2, d3] => { results := [.lit (.bool true)], args := [d1, d2, d3] }
  | _ => none }
def admitRunsRow : OpenClaim := { program := "ytpdaohkpgconkaagreat", sum := "159dd52735a772b52100a520c044bc8cbc4da6de9767cf8018ef107ff7be7350", func := "drayage/drayagelaw10.AdmitRuns", spec := "admitRuns", unfollowed := true, recurses := true, plainKeys := false, apart := false }
def AdmitRunsSaid : Prop := admitRunsRow.holds Tryz.pinned (OpenSpec.ofChange admitRunsSpec)

/-- ITS FALSE NEIGHBOUR: 'it returns false'. Refute it at one input. -/
def admitRunsWrong : ChangeSpec := { name := "admitRuns", fn := fun _ => fun
  | [d1, d2, d3] => { results := [.lit (.bool false)], args := [d1, d2, d3] }
  | _ => none }
def AdmitRunsWrongFalsely : Prop := admitRunsRow.holds Tryz.pinned (OpenSpec.ofChange admitRunsWrong)

/-- 'drayagelaw10.AdmitKeeps': WHATEVER THE INPUT: true; the input reads as it did. -/
def admitKeepsSpec : ChangeSpec := { name := "admitKeeps", fn := fun _ => fun
  | [d1, d2, d3] => { results := [.lit (.bool true)], args := [d1, d2, d3] }
  | _ => none }
def admitKeepsRow : OpenClaim := { program := "ytpdaohkpgconkaagreat", sum := "159dd52735a772b52100a520c044bc8cbc4da6de9767cf8018ef107ff7be7350", func := "drayage/drayagelaw10.AdmitKeeps", spec := "admitKeeps", unfollowed := true, recurses := true, plainKeys := false, apart := false }
def AdmitKeepsSaid : Prop := admitKeepsRow.holds Tryz.pinned (OpenSpec.ofChange admitKeepsSpec)

/-- ITS FALSE NEIGHBOUR: 'it returns false'. Refute it at one input. -/
def admitKeepsWrong : ChangeSpec := { name := "admitKeeps", fn := fun _ => fun
  | [d1, d2, d3] => { results := [.lit (.bool false)], args := [d1, d2, d3] }
  | _ => none }
def AdmitKeepsWrongFalsely : Prop := admitKeepsRow.holds Tryz.pinned (OpenSpec.ofChange admitKeepsWrong)

/-- 'drayagelaw10.AdmitNear': WHATEVER THE INPUT: true; the input reads as it did. -/
def admitNearSpec : ChangeSpec := { name := "admitNear", fn := fun _ => fun
  | [d1, d2, d3] => { results := [.lit (.bool true)], args := [d1, d2, d3] }
  | _ => none }
def admitNearRow : OpenClaim := { program := "ytpdaohkpgconkaagreat", sum := "159dd52735a772b52100a520c044bc8cbc4da6de9767cf8018ef107ff7be7350", func := "drayage/drayagelaw10.AdmitNear", spec := "admitNear", unfollowed := true, recurses := true, plainKeys := false, apart := false }
def AdmitNearSaid : Prop := admitNearRow.holds Tryz.pinned (OpenSpec.ofChange admitNearSpec)

/-- ITS FALSE NEIGHBOUR: 'it returns false'. Refute it at one input. -/
def admitNearWrong : ChangeSpec := { name := "admitNear", fn := fun _ => fun
  | [d1, d2, d3] => { results := [.lit (.bool false)], args := [d1, d2, d3] }
  | _ => none }
def AdmitNearWrongFalsely : Prop := admitNearRow.holds Tryz.pinned (OpenSpec.ofChange admitNearWrong)

/-- 'drayagelaw10.AdmitBack': WHATEVER THE INPUT: true; the input reads as it did. -/
def admitBackSpec : ChangeSpec := { name := "admitBack", fn := fun _ => fun
  | [d1, d2] => { results := [.lit (.bool true)], args := [d1, d2] }
  | _ => none }
def admitBackRow : OpenClaim := { program := "ytpdaohkpgconkaagreat", sum := "159dd52735a772b52100a520c044bc8cbc4da6de9767cf8018ef107ff7be7350", func := "drayage/drayagelaw10.AdmitBack", spec := "admitBack", unfollowed := true, recurses := true, plainKeys := false, apart := false }
def AdmitBackSaid : Prop := admitBackRow.holds Tryz.pinned (OpenSpec.ofChange admitBackSpec)

/-- ITS FALSE NEIGHBOUR: 'it returns false'. Refute it at one input. -/
def admitBackWrong : ChangeSpec := { name := "admitBack", fn := fun _ => fun
  | [d1, d2] => { results := [.lit (.bool false)], args := [d1, d2] }
  | _ => none }
def AdmitBackWrongFalsely : Prop := admitBackRow.holds Tryz.pinned (OpenSpec.ofChange admitBackWrong)

/-- 'drayagelaw10.AdmitNames': WHATEVER THE INPUT: true; the input reads as it did. -/
def admitNamesSpec : ChangeSpec := { name := "admitNames", fn := fun _ => fun
  | [] => { results := [.lit (.bool true)], args := [] }
  | _ => none }
def admitNamesRow : OpenClaim := { program := "ytpdaohkpgconkaagreat", sum := "159dd52735a772b52100a520c044bc8cbc4da6de9767cf8018ef107ff7be7350", func := "drayage/drayagelaw10.AdmitNames", spec := "admitNames", unfollowed := true, recurses := true, plainKeys := false, apart := false }
def AdmitNamesSaid : Prop := admitNamesRow.holds Tryz.pinned (OpenSpec.ofChange admitNamesSpec)

/-- ITS FALSE NEIGHBOUR: 'it returns false'. Refute it at one input. -/
def admitNamesWrong : ChangeSpec := { name := "admitNames", fn := fun _ => fun
  | [] => { results := [.lit (.bool false)], args := [] }
  | _ => none }
def AdmitNamesWrongFalsely : Prop := admitNamesRow.holds Tryz.pinned (OpenSpec.ofChange admitNamesWrong)

/- THE SECOND FORM. 'bulk': how many values and letters a reading holds, each counted each time it is reached (what is shared counts as often as it is met; a slice's spare places count too). A statement '..UptoSaid' is the law's where the arguments, and the package variables that the reading takes, are together of bulk at most 1048576: NARROWER than '..Said'. Prove '..Said' where nothing that the law and all that it calls make is longer than what came in: it says more and counts as full. Else prove '..UptoSaid'. A law counts once. -/
mutual
def uptoBulk {H : Type} : DataW H → Nat
  | .lit (.string bytes) => bytes.length + 1
  | .lit _ => 1
  | .nil => 1
  | .ptr d => uptoBulk d + 1
  | .slice elems spare => uptoBulkAll elems + uptoBulkAll spare + 1
  | .agg parts => uptoBulkAll parts + 1
  | .iface _ d => uptoBulk d + 1
  | .map entries => uptoBulkEntries entries + 1
  | .held _ => 1
def uptoBulkAll {H : Type} : List (DataW H) → Nat
  | [] => 0
  | d :: r => uptoBulk d + uptoBulkAll r
def uptoBulkEntries {H : Type} : List (Lit × DataW H) → Nat
  | [] => 0
  | x :: r => uptoBulkEntry x + uptoBulkEntries r
def uptoBulkEntry {H : Type} : Lit × DataW H → Nat
  | (.string bytes, d) => bytes.length + uptoBulk d + 1
  | (_, d) => uptoBulk d + 1
 end
def uptoSmall : (H : Type) → List (DataW H) → Bool := fun _ ds => decide (uptoBulkAll ds ≤ 1048576)
def OpenSpec.upto (s : _root_.Go.ChangeSpec) : _root_.Go.OpenSpec := { _root_.Go.OpenSpec.ofChange s with cond := some uptoSmall }

/-- 'drayagelaw08.ClauseNames', WHERE WHAT IT READS IS OF BULK AT MOST 1048576: true; the input reads as it did. -/
def clauseNamesUptoRow : OpenClaim := { program := "ytpdaohkpgconkaagreat", sum := "159dd52735a772b52100a520c044bc8cbc4da6de9767cf8018ef107ff7be7350", func := "drayage/drayagelaw08.ClauseNames", spec := "clauseNames", unfollowed := true, recurses := true, plainKeys := false, apart := false, narrowed := true }
def ClauseNamesUptoSaid : Prop := clauseNamesUptoRow.holds Tryz.pinned (OpenSpec.upto clauseNamesSpec)

/-- 'drayagelaw09.SafeTells', WHERE WHAT IT READS IS OF BULK AT MOST 1048576: true; the input reads as it did. -/
def safeTellsUptoRow : OpenClaim := { program := "ytpdaohkpgconkaagreat", sum := "159dd52735a772b52100a520c044bc8cbc4da6de9767cf8018ef107ff7be7350", func := "drayage/drayagelaw09.SafeTells", spec := "safeTells", unfollowed := true, recurses := true, plainKeys := false, apart := false, narrowed := true }
def SafeTellsUptoSaid : Prop := safeTellsUptoRow.holds Tryz.pinned (OpenSpec.upto safeTellsSpec)

/-- 'drayagelaw09.SafeKeeps', WHERE WHAT IT READS IS OF BULK AT MOST 1048576: true; the input reads as it did. -/
def safeKeepsUptoRow : OpenClaim := { program := "ytpdaohkpgconkaagreat", sum := "159dd52735a772b52100a520c044bc8cbc4da6de9767cf8018ef107ff7be7350", func := "drayage/drayagelaw09.SafeKeeps", spec := "safeKeeps", unfollowed := true, recurses := true, plainKeys := false, apart := false, narrowed := true }
def SafeKeepsUptoSaid : Prop := safeKeepsUptoRow.holds Tryz.pinned (OpenSpec.upto safeKeepsSpec)

/-- 'drayagelaw09.SafeNames', WHERE WHAT IT READS IS OF BULK AT MOST 1048576: true; the input reads as it did. -/
def safeNamesUptoRow : OpenClaim := { program := "ytpdaohkpgconkaagreat", sum := "159dd52735a772b52100a520c044bc8cbc4da6de9767cf8018ef107ff7be7350", func := "drayage/drayagelaw09.SafeNames", spec := "safeNames", unfollowed := true, recurses := true, plainKeys := false, apart := false, narrowed := true }
def SafeNamesUptoSaid : Prop := safeNamesUptoRow.holds Tryz.pinned (OpenSpec.upto safeNamesSpec)

/-- 'drayagelaw10.AdmitSteps', WHERE WHAT IT READS IS OF BULK AT MOST 1048576: true; the input reads as it did. -/
def admitStepsUptoRow : OpenClaim := { program := "ytpdaohkpgconkaagreat", sum := "159dd52735a772b52100a520c044bc8cbc4da6de9767cf8018ef107ff7be7350", func := "drayage/drayagelaw10.AdmitSteps", spec := "admitSteps", unfollowed := true, recurses := true, plainKeys := false, apart := false, narrowed := true }
def AdmitStepsUptoSaid : Prop := admitStepsUptoRow.holds Tryz.pinned (OpenSpec.upto admitStepsSpec)

/-- 'drayagelaw10.AdmitRuns', WHERE WHAT IT READS IS OF BULK AT MOST 1048576: true; the input reads as it did. -/
def admitRunsUptoRow : OpenClaim := { program := "ytpdaohkpgconkaagreat", sum := "159dd52735a772b52100a520c044bc8cbc4da6de9767cf8018ef107ff7be7350", func := "drayage/drayagelaw10.AdmitRuns", spec := "admitRuns", unfollowed := true, recurses := true, plainKeys := false, apart := false, narrowed := true }
def AdmitRunsUptoSaid : Prop := admitRunsUptoRow.holds Tryz.pinned (OpenSpec.upto admitRunsSpec)

/-- 'drayagelaw10.AdmitKeeps', WHERE WHAT IT READS IS OF BULK AT MOST 1048576: true; the input reads as it did. -/
def admitKeepsUptoRow : OpenClaim := { program := "ytpdaohkpgconkaagreat", sum := "159dd52735a772b52100a520c044bc8cbc4da6de9767cf8018ef107ff7be7350", func := "drayage/drayagelaw10.AdmitKeeps", spec := "admitKeeps", unfollowed := true, recurses := true, plainKeys := false, apart := false, narrowed := true }
def AdmitKeepsUptoSaid : Prop := admitKeepsUptoRow.holds Tryz.pinned (OpenSpec.upto admitKeepsSpec)

/-- 'drayagelaw10.AdmitNear', WHERE WHAT IT READS IS OF BULK AT MOST 1048576: true; the input reads as it did. -/
def admitNearUptoRow : OpenClaim := { program := "ytpdaohkpgconkaagreat", sum := "159dd52735a772b52100a520c044bc8cbc4da6de9767cf8018ef107ff7be7350", func := "drayage/drayagelaw10.AdmitNear", spec := "admitNear", unfollowed := true, recurses := true, plainKeys := false, apart := false, narrowed := true }
def AdmitNearUptoSaid : Prop := admitNearUptoRow.holds Tryz.pinned (OpenSpec.upto admitNearSpec)

/-- 'drayagelaw10.AdmitBack', WHERE WHAT IT READS IS OF BULK AT MOST 1048576: true; the input reads as it did. -/
def admitBackUptoRow : OpenClaim := { program := "ytpdaohkpgconkaagreat", sum := "159dd52735a772b52100a520c044bc8cbc4da6de9767cf8018ef107ff7be7350", func := "drayage/drayagelaw10.AdmitBack", spec := "admitBack", unfollowed := true, recurses := true, plainKeys := false, apart := false, narrowed := true }
def AdmitBackUptoSaid : Prop := admitBackUptoRow.holds Tryz.pinned (OpenSpec.upto admitBackSpec)

/-- 'drayagelaw10.AdmitNames', WHERE WHAT IT READS IS OF BULK AT MOST 1048576: true; the input reads as it did. -/
def admitNamesUptoRow : OpenClaim := { program := "ytpdaohkpgconkaagreat", sum := "159dd52735a772b52100a520c044bc8cbc4da6de9767cf8018ef107ff7be7350", func := "drayage/drayagelaw10.AdmitNames", spec := "admitNames", unfollowed := true, recurses := true, plainKeys := false, apart := false, narrowed := true }
def AdmitNamesUptoSaid : Prop := admitNamesUptoRow.holds Tryz.pinned (OpenSpec.upto admitNamesSpec)

end Rows
end Go.Proofs.YtpdaohkpgconkaaGreat
