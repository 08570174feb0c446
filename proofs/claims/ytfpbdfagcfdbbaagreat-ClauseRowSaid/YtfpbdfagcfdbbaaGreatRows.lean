/-
  No cell of these rows narrows 'for every input' (looked for: loops, veiled, ifaces, maps, wideKeys, modest, calm, conditions, laid).
  DERIVED. THE GIVEN ROWS OF THIS SEAT. 9 by the template 'for every input the law returns true; each argument reads behind the call as it read before'; 0 by the template 'total and deterministic' (their statements: YtfpbdfagcfdbbaaGreatTotals.lean).
  GIVEN WITH THE SEED: the statements are not yours to turn. If you find one false, say at which input.
  Laid BY PROGRAM, IN A SANDBOX (cutbox-rows.mjs): the forced cells as the released guide's own fill.sh prints them over the translation 1e897a6b0cf7d356… (all of the seat's roots in one cut). By AI agents, Wed Nov 11 2026. No macro, syntax, notation, axiom, sorry.
-/
import Derived.Test.YtfpbdfagcfdbbaaGreatChecked
import GoSem.Claim
import GoSem.ClaimJoined
import GoSem.ClaimMapViews
import Derived.JoinedTies
import Derived.KernelRfl
namespace Go.Proofs.YtfpbdfagcfdbbaaGreat
/- THE CELL 'sum', in the pinned program and in every row, IS THE sha256 OF THE DUMP (.gsa) THAT YtfpbdfagcfdbbaaGreatProg.lean LOADS. Nothing in Lean hashes anything: it is a label: what it is worth is what the hold of that sum in a sandbox is worth. -/
noncomputable def Tryz.pinned : Pinned := { name := "ytfpbdfagcfdbbaagreat", sum := "1e897a6b0cf7d3568d095bc27b9e3ae371a44d3799932917a875ec0e65cea8e5", checked := Tryz.checked }
namespace Rows
def none {H : Type} : Left H := { results := [], args := [] }

/-- 'drayagelaw08.ClauseAll': WHATEVER THE INPUT: true; the input reads as it did. -/
def clauseAllSpec : ChangeSpec := { name := "clauseAll", fn := fun _ => fun
  | [d1, d2] => { results := [.lit (.bool true)], args := [d1, d2] }
  | _ => none }
def clauseAllRow : OpenClaim := { program := "ytfpbdfagcfdbbaagreat", sum := "1e897a6b0cf7d3568d095bc27b9e3ae371a44d3799932917a875ec0e65cea8e5", func := "drayage/drayagelaw08.ClauseAll", spec := "clauseAll", unfollowed := true, recurses := true, plainKeys := false, apart := false }
def ClauseAllSaid : Prop := clauseAllRow.holds Tryz.pinned (OpenSpec.ofChange clauseAllSpec)

/-- ITS FALSE NEIGHBOUR: 'it returns false'. Refute it at one input. -/
def clauseAllWrong : ChangeSpec := { name := "clauseAll", fn := fun _ => fun
  | [d1, d2] => { results := [.lit (.bool false)], args := [d1, d2] }
  | _ => none }
def ClauseAllWrongFalsely : Prop := clauseAllRow.holds Tryz.pinned (OpenSpec.ofChange clauseAllWrong)

/-- 'drayagelaw08.ClauseOne': WHATEVER THE INPUT: true; the input reads as it did. -/
def clauseOneSpec : ChangeSpec := { name := "clauseOne", fn := fun _ => fun
  | [d1, d2, d3] => { results := [.lit (.bool true)], args := [d1, d2, d3] }
  | _ => none }
def clauseOneRow : OpenClaim := { program := "ytfpbdfagcfdbbaagreat", sum := "1e897a6b0cf7d3568d095bc27b9e3ae371a44d3799932917a875ec0e65cea8e5", func := "drayage/drayagelaw08.ClauseOne", spec := "clauseOne", unfollowed := true, recurses := true, plainKeys := false, apart := false }
def ClauseOneSaid : Prop := clauseOneRow.holds Tryz.pinned (OpenSpec.ofChange clauseOneSpec)

/-- ITS FALSE NEIGHBOUR: 'it returns false'. Refute it at one input. -/
def clauseOneWrong : ChangeSpec := { name := "clauseOne", fn := fun _ => fun
  | [d1, d2, d3] => { results := [.lit (.bool false)], args := [d1, d2, d3] }
  | _ => none }
def ClauseOneWrongFalsely : Prop := clauseOneRow.holds Tryz.pinned (OpenSpec.ofChange clauseOneWrong)

/-- 'drayagelaw08.ClauseOff': WHATEVER THE INPUT: true; the input reads as it did. -/
def clauseOffSpec : ChangeSpec := { name := "clauseOff", fn := fun _ => fun
  | [d1, d2] => { results := [.lit (.bool true)], args := [d1, d2] }
  | _ => none }
def clauseOffRow : OpenClaim := { program := "ytfpbdfagcfdbbaagreat", sum := "1e897a6b0cf7d3568d095bc27b9e3ae371a44d3799932917a875ec0e65cea8e5", func := "drayage/drayagelaw08.ClauseOff", spec := "clauseOff", unfollowed := true, recurses := true, plainKeys := false, apart := false }
def ClauseOffSaid : Prop := clauseOffRow.holds Tryz.pinned (OpenSpec.ofChange clauseOffSpec)

/-- ITS FALSE NEIGHBOUR: 'it returns false'. Refute it at one input. -/
def clauseOffWrong : ChangeSpec := { name := "clauseOff", fn := fun _ => fun
  | [d1, d2] => { results := [.lit (.bool false)], args := [d1, d2] }
  | _ => none }
def ClauseOffWrongFalsely : Prop := clauseOffRow.holds Tryz.pinned (OpenSpec.ofChange clauseOffWrong)

/-- 'drayagelaw08.ClauseNone': WHATEVER THE INPUT: true; the input reads as it did. -/
def clauseNoneSpec : ChangeSpec := { name := "clauseNone", fn := fun _ => fun
  | [d] => { results := [.lit (.bool true)], args := [d] }
  | _ => none }
def clauseNoneRow : OpenClaim := { program := "ytfpbdfagcfdbbaagreat", sum := "1e897a6b0cf7d3568d095bc27b9e3ae371a44d3799932917a875ec0e65cea8e5", func := "drayage/drayagelaw08.ClauseNone", spec := "clauseNone", unfollowed := true, recurses := true, plainKeys := false, apart := false }
def ClauseNoneSaid : Prop := clauseNoneRow.holds Tryz.pinned (OpenSpec.ofChange clauseNoneSpec)

/-- ITS FALSE NEIGHBOUR: 'it returns false'. Refute it at one input. -/
def clauseNoneWrong : ChangeSpec := { name := "clauseNone", fn := fun _ => fun
  | [d] => { results := [.lit (.bool false)], args := [d] }
  | _ => none }
def ClauseNoneWrongFalsely : Prop := clauseNoneRow.holds Tryz.pinned (OpenSpec.ofChange clauseNoneWrong)

/-- 'drayagelaw08.ClauseRow': WHATEVER THE INPUT: true; the input reads as it did. -/
def clauseRowSpec : ChangeSpec := { name := "clauseRow", fn := fun _ => fun
  | [d1, d2] => { results := [.lit (.bool true)], args := [d1, d2] }
  | _ => none }
def clauseRowRow : OpenClaim := { program := "ytfpbdfagcfdbbaagreat", sum := "1e897a6b0cf7d3568d095bc27b9e3ae371a44d3799932917a875ec0e65cea8e5", func := "drayage/drayagelaw08.ClauseRow", spec := "clauseRow", unfollowed := true, recurses := true, plainKeys := false, apart := false }
def ClauseRowSaid : Prop := clauseRowRow.holds Tryz.pinned (OpenSpec.ofChange clauseRowSpec)

/-- ITS FALSE NEIGHBOUR: 'it returns false'. Refute it at one input. -/
def clauseRowWrong : ChangeSpec := { name := "clauseRow", fn := fun _ => fun
  | [d1, d2] => { results := [.lit (.bool false)], args := [d1, d2] }
  | _ => none }
def ClauseRowWrongFalsely : Prop := clauseRowRow.holds Tryz.pinned (OpenSpec.ofChange clauseRowWrong)

/-- 'drayagelaw08.ClauseNames': WHATEVER THE INPUT: true; the input reads as it did. -/
def clauseNamesSpec : ChangeSpec := { name := "clauseNames", fn := fun _ => fun
  | [] => { results := [.lit (.bool true)], args := [] }
  | _ => none }
def clauseNamesRow : OpenClaim := { program := "ytfpbdfagcfdbbaagreat", sum := "1e897a6b0cf7d3568d095bc27b9e3ae371a44d3799932917a875ec0e65cea8e5", func := "drayage/drayagelaw08.ClauseNames", spec := "clauseNames", unfollowed := true, recurses := true, plainKeys := false, apart := false }
def ClauseNamesSaid : Prop := clauseNamesRow.holds Tryz.pinned (OpenSpec.ofChange clauseNamesSpec)

/-- ITS FALSE NEIGHBOUR: 'it returns false'. Refute it at one input. -/
def clauseNamesWrong : ChangeSpec := { name := "clauseNames", fn := fun _ => fun
  | [] => { results := [.lit (.bool false)], args := [] }
  | _ => none }
def ClauseNamesWrongFalsely : Prop := clauseNamesRow.holds Tryz.pinned (OpenSpec.ofChange clauseNamesWrong)

/-- 'drayagelaw09.SafeTells': WHATEVER THE INPUT: true; the input reads as it did. -/
def safeTellsSpec : ChangeSpec := { name := "safeTells", fn := fun _ => fun
  | [d1, d2, d3] => { results := [.lit (.bool true)], args := [d1, d2, d3] }
  | _ => none }
def safeTellsRow : OpenClaim := { program := "ytfpbdfagcfdbbaagreat", sum := "1e897a6b0cf7d3568d095bc27b9e3ae371a44d3799932917a875ec0e65cea8e5", func := "drayage/drayagelaw09.SafeTells", spec := "safeTells", unfollowed := true, recurses := true, plainKeys := false, apart := false }
def SafeTellsSaid : Prop := safeTellsRow.holds Tryz.pinned (OpenSpec.ofChange safeTellsSpec)

/-- ITS FALSE NEIGHBOUR: 'it returns false'. Refute it at one input. -/
def safeTellsWrong : ChangeSpec := { name := "safeTells", fn := fun _ => fun
  | [d1, d2, d3] => { results := [.lit (.bool false)], args := [d1, d2, d3] }
  | _ => none }
def SafeTellsWrongFalsely : Prop := safeTellsRow.holds Tryz.pinned (OpenSpec.ofChange safeTellsWrong)

/-- 'drayagelaw09.SafeKeeps': WHATEVER THE INPUT: true; the input reads as it did. -/
def safeKeepsSpec : ChangeSpec := { name := "safeKeeps", fn := fun _ => fun
  | [d1, d2, d3] => { results := [.lit (.bool true)], args := [d1, d2, d3] }
  | _ => none }
def safeKeepsRow : OpenClaim := { program := "ytfpbdfagcfdbbaagreat", sum := "1e897a6b0cf7d3568d095bc27b9e3ae371a44d3799932917a875ec0e65cea8e5", func := "drayage/drayagelaw09.SafeKeeps", spec := "safeKeeps", unfollowed := true, recurses := true, plainKeys := false, apart := false }
def SafeKeepsSaid : Prop := safeKeepsRow.holds Tryz.pinned (OpenSpec.ofChange safeKeepsSpec)

/-- ITS FALSE NEIGHBOUR: 'it returns false'. Refute it at one input. -/
def safeKeepsWrong : ChangeSpec := { name := "safeKeeps", fn := fun _ => fun
  | [d1, d2, d3] => { results := [.lit (.bool false)], args := [d1, d2, d3] }
  | _ => none }
def SafeKeepsWrongFalsely : Prop := safeKeepsRow.holds Tryz.pinned (OpenSpec.ofChange safeKeepsWrong)

/-- 'drayagelaw09.SafeNames': WHATEVER THE INPUT: true; the input reads as it did. -/
def safeNamesSpec : ChangeSpec := { name := "safeNames", fn := fun _ => fun
  | [] => { results := [.lit (.bool true)], args := [] }
  | _ => none }
def safeNamesRow : OpenClaim := { program := "ytfpbdfagcfdbbaagreat", sum := "1e897a6b0cf7d3568d095bc27b9e3ae371a44d3799932917a875ec0e65cea8e5", func := "drayage/drayagelaw09.SafeNames", spec := "safeNames", unfollowed := true, recurses := true, plainKeys := false, apart := false }
def SafeNamesSaid : Prop := safeNamesRow.holds Tryz.pinned (OpenSpec.ofChange safeNamesSpec)

/-- ITS FALSE NEIGHBOUR: 'it returns false'. Refute it at one input. -/
def safeNamesWrong : ChangeSpec := { name := "safeNames", fn := fun _ => fun
  | [] => { results := [.lit (.bool false)], args := [] }
  | _ => none }
def SafeNamesWrongFalsely : Prop := safeNamesRow.holds Tryz.pinned (OpenSpec.ofChange safeNamesWrong)

/- THE SECOND FORM. 'bulk': how many values and letters a reading holds, each counted each time it is reached (what is shared counts as often as it is met; a slice's spare places count too). A statement '..UptoSaid' is the law's where the arguments, and the package variables that the reading takes, are together of bulk at most 1048576: NARROWER than '..Said'. Prove '..Said' where nothing that the law and all that it calls make is longer than what came in: it says more and counts as full. Else prove '..UptoSaid'. A law counts once. -/
mutual
def uptoBulk {H : Type} : DataW H → Nat
  | .lit (.string bytes) => bytes.length + 1
  | .lit _ => 1
  | .nil => 1
  | .ptr d => uptoBulk d + 1
  | .slice elems spare => uptoBulkAll elems + uptoBulkAll spare + 1
  | .agg parts => uptoBulkAll parts + 1
  | .iface _ d => uptoBulk d + 1
  | .map entries => uptoBulkEntries entries + 1
  | .held _ => 1
def uptoBulkAll {H : Type} : List (DataW H) → Nat
  | [] => 0
  | d :: r => uptoBulk d + uptoBulkAll r
def uptoBulkEntries {H : Type} : List (Lit × DataW H) → Nat
  | [] => 0
  | x :: r => uptoBulkEntry x + uptoBulkEntries r
def uptoBulkEntry {H : Type} : Lit × DataW H → Nat
  | (.string bytes, d) => bytes.length + uptoBulk d + 1
  | (_, d) => uptoBulk d + 1
 end
def uptoSmall : (H : Type) → List (DataW H) → Bool := fun _ ds => decide (uptoBulkAll ds ≤ 1048576)
def OpenSpec.upto (s : _root_.Go.ChangeSpec) : _root_.Go.OpenSpec := { _root_.Go.OpenSpec.ofChange s with cond := some uptoSmall }

/-- 'drayagelaw08.ClauseAll', WHERE WHAT IT READS IS OF BULK AT MOST 1048576: true; the input reads as it did. -/
def clauseAllUptoRow : OpenClaim := { program := "ytfpbdfagcfdbbaagreat", sum := "1e897a6b0cf7d3568d095bc27b9e3ae371a44d3799932917a875ec0e65cea8e5", func := "drayage/drayagelaw08.ClauseAll", spec := "clauseAll", unfollowed := true, recurses := true, plainKeys := false, apart := false, narrowed := true }
def ClauseAllUptoSaid : Prop := clauseAllUptoRow.holds Tryz.pinned (OpenSpec.upto clauseAllSpec)

/-- 'drayagelaw08.ClauseOne', WHERE WHAT IT READS IS OF BULK AT MOST 1048576: true; the input reads as it did. -/
def clauseOneUptoRow : OpenClaim := { program := "ytfpbdfagcfdbbaagreat", sum := "1e897a6b0cf7d3568d095bc27b9e3ae371a44d3799932917a875ec0e65cea8e5", func := "drayage/drayagelaw08.ClauseOne", spec := "clauseOne", unfollowed := true, recurses := true, plainKeys := false, apart := false, narrowed := true }
def ClauseOneUptoSaid : Prop := clauseOneUptoRow.holds Tryz.pinned (OpenSpec.upto clauseOneSpec)

/-- 'drayagelaw08.ClauseOff', WHERE WHAT IT READS IS OF BULK AT MOST 1048576: true; the input reads as it did. -/
def clauseOffUptoRow : OpenClaim := { program := "ytfpbdfagcfdbbaagreat", sum := "1e897a6b0cf7d3568d095bc27b9e3ae371a44d3799932917a875ec0e65cea8e5", func := "drayage/drayagelaw08.ClauseOff", spec := "clauseOff", unfollowed := true, recurses := true, plainKeys := false, apart := false, narrowed := true }
def ClauseOffUptoSaid : Prop := clauseOffUptoRow.holds Tryz.pinned (OpenSpec.upto clauseOffSpec)

/-- 'drayagelaw08.ClauseNone', WHERE WHAT IT READS IS OF BULK AT MOST 1048576: true; the input reads as it did. -/
def clauseNoneUptoRow : OpenClaim := { program := "ytfpbdfagcfdbbaagreat", sum := "1e897a6b0cf7d3568d095bc27b9e3ae371a44d3799932917a875ec0e65cea8e5", func := "drayage/drayagelaw08.ClauseNone", spec := "clauseNone", unfollowed := true, recurses := true, plainKeys := false, apart := false, narrowed := true }
def ClauseNoneUptoSaid : Prop := clauseNoneUptoRow.holds Tryz.pinned (OpenSpec.upto clauseNoneSpec)

/-- 'drayagelaw08.ClauseRow', WHERE WHAT IT READS IS OF BULK AT MOST 1048576: true; the input reads as it did. -/
def clauseRowUptoRow : OpenClaim := { program := "ytfpbdfagcfdbbaagreat", sum := "1e897a6b0cf7d3568d095bc27b9e3ae371a44d3799932917a875ec0e65cea8e5", func := "drayage/drayagelaw08.ClauseRow", spec := "clauseRow", unfollowed := true, recurses := true, plainKeys := false, apart := false, narrowed := true }
def ClauseRowUptoSaid : Prop := clauseRowUptoRow.holds Tryz.pinned (OpenSpec.upto clauseRowSpec)

/-- 'drayagelaw08.ClauseNames', WHERE WHAT IT READS IS OF BULK AT MOST 1048576: true; the input reads as it did. -/
def clauseNamesUptoRow : OpenClaim := { program := "ytfpbdfagcfdbbaagreat", sum := "1e897a6b0cf7d3568d095bc27b9e3ae371a44d3799932917a875ec0e65cea8e5", func := "drayage/drayagelaw08.ClauseNames", spec := "clauseNames", unfollowed := true, recurses := true, plainKeys := false, apart := false, narrowed := true }
def ClauseNamesUptoSaid : Prop := clauseNamesUptoRow.holds Tryz.pinned (OpenSpec.upto clauseNamesSpec)

/-- 'drayagelaw09.SafeTells', WHERE WHAT IT READS IS OF BULK AT MOST 1048576: true; the input reads as it did. -/
def safeTellsUptoRow : OpenClaim := { program := "ytfpbdfagcfdbbaagreat", sum := "1e897a6b0cf7d3568d095bc27b9e3ae371a44d3799932917a875ec0e65cea8e5", func := "drayage/drayagelaw09.SafeTells", spec := "safeTells", unfollowed := true, recurses := true, plainKeys := false, apart := false, narrowed := true }
def SafeTellsUptoSaid : Prop := safeTellsUptoRow.holds Tryz.pinned (OpenSpec.upto safeTellsSpec)

/-- 'drayagelaw09.SafeKeeps', WHERE WHAT IT READS IS OF BULK AT MOST 1048576: true; the input reads as it did. -/
def safeKeepsUptoRow : OpenClaim := { program := "ytfpbdfagcfdbbaagreat", sum := "1e897a6b0cf7d3568d095bc27b9e3ae371a44d3799932917a875ec0e65cea8e5", func := "drayage/drayagelaw09.SafeKeeps", spec := "safeKeeps", unfollowed := true, recurses := true, plainKeys := false, apart := false, narrowed := true }
def SafeKeepsUptoSaid : Prop := safeKeepsUptoRow.holds Tryz.pinned (OpenSpec.upto safeKeepsSpec)

/-- 'drayagelaw09.SafeNames', WHERE WHAT IT READS IS OF BULK AT MOST 1048576: true; the input reads as it did. -/
def safeNamesUptoRow : OpenClaim := { program := "ytfpbdfagcfdbbaagreat", sum := "1e897a6b0cf7d3568d095bc27b9e3ae371a44d3799932917a875ec0e65cea8e5", func := "drayage/drayagelaw09.SafeNames", spec := "safeNames", unfollowed := true, recurses := true, plainKeys := false, apart := false, narrowed := true }
def SafeNamesUptoSaid : Prop := safeNamesUptoRow.holds Tryz.pinned (OpenSpec.upto safeNamesSpec)

end Rows
end Go.Proofs.YtfpbdfagcfdbbaaGreat
