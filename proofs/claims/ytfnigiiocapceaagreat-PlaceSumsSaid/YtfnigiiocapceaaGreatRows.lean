/-
  No cell of these rows narrows 'for every input' (looked for: loops, veiled, ifaces, maps, wideKeys, modest, calm, conditions, laid).
  DERIVED. THE GIVEN ROWS OF THIS SEAT. 6 by the template 'for every input the law returns true; each argument reads behind the call as it read before'; 0 by the template 'total and deterministic' (their statements: YtfnigiiocapceaaGreatTotals.lean).
  GIVEN WITH THE SEED: the statements are not yours to turn. If you find one false, say at which input.
  Laid BY PROGRAM, IN A SANDBOX (cutbox-rows.mjs): the forced cells as the released guide's own fill.sh prints them over the translation 5c12900c16e92bd6… (all of the seat's roots in one cut). By AI agents, Wed Nov 11 2026. No macro, syntax, notation, axiom, sorry.
-/
import Derived.Test.YtfnigiiocapceaaGreatChecked
import GoSem.Claim
import GoSem.ClaimJoined
import GoSem.ClaimMapViews
import Derived.JoinedTies
import Derived.KernelRfl
namespace Go.Proofs.YtfnigiiocapceaaGreat
/- THE CELL 'sum', in the pinned program and in every row, IS THE sha256 OF THE DUMP (.gsa) THAT YtfnigiiocapceaaGreatProg.lean LOADS. Nothing in Lean hashes anything: it is a label: what it is worth is what the hold of that sum in a sandbox is worth. -/
noncomputable def Tryz.pinned : Pinned := { name := "ytfnigiiocapceaagreat", sum := "5c12900c16e92bd6eb2ff2884b63a83b1ca2fa363185c8cdcfecc57dfd60917b", checked := Tryz.checked }
namespace Rows
def none {H : Type} : Left H := { results := [], args := [] }

/-- 'drayagelaw07.PlaceTells': WHATEVER THE INPUT: true; the input reads as it did. -/
def placeTellsSpec : ChangeSpec := { name := "placeTells", fn := fun _ => fun
  | [d1, d2, d3] => { results := [.lit (.bool true)], args := [d1, d2, d3] }
  | _ => none }
def placeTellsRow : OpenClaim := { program := "ytfnigiiocapceaagreat", sum := "5c12900c16e92bd6eb2ff2884b63a83b1ca2fa363185c8cdcfecc57dfd60917b", func := "drayage/drayagelaw07.PlaceTells", spec := "placeTells", unfollowed := true, recurses := true, apart := false }
def PlaceTellsSaid : Prop := placeTellsRow.holds Tryz.pinned (OpenSpec.ofChange placeTellsSpec)

/-- ITS FALSE NEIGHBOUR: 'it returns false'. Refute it at one input. -/
def placeTellsWrong : ChangeSpec := { name := "placeTells", fn := fun _ => fun
  | [d1, d2, d3] => { results := [.lit (.bool false)], args := [d1, d2, d3] }
  | _ => none }
def PlaceTellsWrongFalsely : Prop := placeTellsRow.holds Tryz.pinned (OpenSpec.ofChange placeTellsWrong)

/-- 'drayagelaw07.PlaceDomains': WHATEVER THE INPUT: true; the input reads as it did. -/
def placeDomainsSpec : ChangeSpec := { name := "placeDomains", fn := fun _ => fun
  | [d1, d2, d3] => { results := [.lit (.bool true)], args := [d1, d2, d3] }
  | _ => none }
def placeDomainsRow : OpenClaim := { program := "ytfnigiiocapceaagreat", sum := "5c12900c16e92bd6eb2ff2884b63a83b1ca2fa363185c8cdcfecc57dfd60917b", func := "drayage/drayagelaw07.PlaceDomains", spec := "placeDomains", unfollowed := true, recurses := true, apart := false }
def PlaceDomainsSaid : Prop := placeDomainsRow.holds Tryz.pinned (OpenSpec.ofChange placeDomainsSpec)

/-- ITS FALSE NEIGHBOUR: 'it returns false'. Refute it at one input. -/
def placeDomainsWrong : ChangeSpec := { name := "placeDomains", fn := fun _ => fun
  | [d1, d2, d3] => { results := [.lit (.bool false)], args := [d1, d2, d3] }
  | _ => none }
def PlaceDomainsWrongFalsely : Prop := placeDomainsRow.holds Tryz.pinned (OpenSpec.ofChange placeDomainsWrong)

/-- 'drayagelaw07.PlaceSteps': WHATEVER THE INPUT: true; the input reads as it did. -/
def placeStepsSpec : ChangeSpec := { name := "placeSteps", fn := fun _ => fun
  | [d1, d2, d3] => { results := [.lit (.bool true)], args := [d1, d2, d3] }
  | _ => none }
def placeStepsRow : OpenClaim := { program := "ytfnigiiocapceaagreat", sum := "5c12900c16e92bd6eb2ff2884b63a83b1ca2fa363185c8cdcfecc57dfd60917b", func := "drayage/drayagelaw07.PlaceSteps", spec := "placeSteps", unfollowed := true, recurses := true, apart := false }
def PlaceStepsSaid : Prop := placeStepsRow.holds Tryz.pinned (OpenSpec.ofChange placeStepsSpec)

/-- ITS FALSE NEIGHBOUR: 'it returns false'. Refute it at one input. -/
def placeStepsWrong : ChangeSpec := { name := "placeSteps", fn := fun _ => fun
  | [d1, d2, d3] => { results := [.lit (.bool false)], args := [d1, d2, d3] }
  | _ => none }
def PlaceStepsWrongFalsely : Prop := placeStepsRow.holds Tryz.pinned (OpenSpec.ofChange placeStepsWrong)

/-- 'drayagelaw07.PlaceSums': WHATEVER THE INPUT: true; the input reads as it did. -/
def placeSumsSpec : ChangeSpec := { name := "placeSums", fn := fun _ => fun
  | [d1, d2] => { results := [.lit (.bool true)], args := [d1, d2] }
  | _ => none }
def placeSumsRow : OpenClaim := { program := "ytfnigiiocapceaagreat", sum := "5c12900c16e92bd6eb2ff2884b63a83b1ca2fa363185c8cdcfecc57dfd60917b", func := "drayage/drayagelaw07.PlaceSums", spec := "placeSums", unfollowed := true, recurses := true, apart := false }
def PlaceSumsSaid : Prop := placeSumsRow.holds Tryz.pinned (OpenSpec.ofChange placeSumsSpec)

/-- ITS FALSE NEIGHBOUR: 'it returns false'. Refute it at one input. -/
def placeSumsWrong : ChangeSpec := { name := "placeSums", fn := fun _ => fun
  | [d1, d2] => { results := [.lit (.bool false)], args := [d1, d2] }
  | _ => none }
def PlaceSumsWrongFalsely : Prop := placeSumsRow.holds Tryz.pinned (OpenSpec.ofChange placeSumsWrong)

/-- 'drayagelaw07.PlaceBack': WHATEVER THE INPUT: true; the input reads as it did. -/
def placeBackSpec : ChangeSpec := { name := "placeBack", fn := fun _ => fun
  | [d1, d2, d3] => { results := [.lit (.bool true)], args := [d1, d2, d3] }
  | _ => none }
def placeBackRow : OpenClaim := { program := "ytfnigiiocapceaagreat", sum := "5c12900c16e92bd6eb2ff2884b63a83b1ca2fa363185c8cdcfecc57dfd60917b", func := "drayage/drayagelaw07.PlaceBack", spec := "placeBack", unfollowed := true, recurses := true, apart := false }
def PlaceBackSaid : Prop := placeBackRow.holds Tryz.pinned (OpenSpec.ofChange placeBackSpec)

/-- ITS FALSE NEIGHBOUR: 'it returns false'. Refute it at one input. -/
def placeBackWrong : ChangeSpec := { name := "placeBack", fn := fun _ => fun
  | [d1, d2, d3] => { results := [.lit (.bool false)], args := [d1, d2, d3] }
  | _ => none }
def PlaceBackWrongFalsely : Prop := placeBackRow.holds Tryz.pinned (OpenSpec.ofChange placeBackWrong)

/-- 'drayagelaw07.PlaceNames': WHATEVER THE INPUT: true; the input reads as it did. -/
def placeNamesSpec : ChangeSpec := { name := "placeNames", fn := fun _ => fun
  | [] => { results := [.lit (.bool true)], args := [] }
  | _ => none }
def placeNamesRow : OpenClaim := { program := "ytfnigiiocapceaagreat", sum := "5c12900c16e92bd6eb2ff2884b63a83b1ca2fa363185c8cdcfecc57dfd60917b", func := "drayage/drayagelaw07.PlaceNames", spec := "placeNames", unfollowed := true, recurses := true, apart := false }
def PlaceNamesSaid : Prop := placeNamesRow.holds Tryz.pinned (OpenSpec.ofChange placeNamesSpec)

/-- ITS FALSE NEIGHBOUR: 'it returns false'. Refute it at one input. -/
def placeNamesWrong : ChangeSpec := { name := "placeNames", fn := fun _ => fun
  | [] => { results := [.lit (.bool false)], args := [] }
  | _ => none }
def PlaceNamesWrongFalsely : Prop := placeNamesRow.holds Tryz.pinned (OpenSpec.ofChange placeNamesWrong)

/- THE SECOND FORM. 'bulk': how many values and letters a reading holds, each counted each time it is reached (what is shared counts as often as it is met; a slice's spare places count too). A statement '..UptoSaid' is the law's where the arguments, and the package variables that the reading takes, are together of bulk at most 1048576: NARROWER than '..Said'. Prove '..Said' where nothing that the law and all that it calls make is longer than what came in: it says more and counts as full. Else prove '..UptoSaid'. A law counts once. -/
mutual
def uptoBulk {H : Type} : DataW H → Nat
  | .lit (.string bytes) => bytes.length + 1
  | .lit _ => 1
  | .nil => 1
  | .ptr d => uptoBulk d + 1
  | .slice elems spare => uptoBulkAll elems + uptoBulkAll spare + 1
  | .agg parts => uptoBulkAll parts + 1
  | .iface _ d => uptoBulk d + 1
  | .map entries => uptoBulkEntries entries + 1
  | .held _ => 1
def uptoBulkAll {H : Type} : List (DataW H) → Nat
  | [] => 0
  | d :: r => uptoBulk d + uptoBulkAll r
def uptoBulkEntries {H : Type} : List (Lit × DataW H) → Nat
  | [] => 0
  | x :: r => uptoBulkEntry x + uptoBulkEntries r
def uptoBulkEntry {H : Type} : Lit × DataW H → Nat
  | (.string bytes, d) => bytes.length + uptoBulk d + 1
  | (_, d) => uptoBulk d + 1
 end
def uptoSmall : (H : Type) → List (DataW H) → Bool := fun _ ds => decide (uptoBulkAll ds ≤ 1048576)
def OpenSpec.upto (s : _root_.Go.ChangeSpec) : _root_.Go.OpenSpec := { _root_.Go.OpenSpec.ofChange s with cond := some uptoSmall }

/-- 'drayagelaw07.PlaceTells', WHERE WHAT IT READS IS OF BULK AT MOST 1048576: true; the input reads as it did. -/
def placeTellsUptoRow : OpenClaim := { program := "ytfnigiiocapceaagreat", sum := "5c12900c16e92bd6eb2ff2884b63a83b1ca2fa363185c8cdcfecc57dfd60917b", func := "drayage/drayagelaw07.PlaceTells", spec := "placeTells", unfollowed := true, recurses := true, apart := false, narrowed := true }
def PlaceTellsUptoSaid : Prop := placeTellsUptoRow.holds Tryz.pinned (OpenSpec.upto placeTellsSpec)

/-- 'drayagelaw07.PlaceDomains', WHERE WHAT IT READS IS OF BULK AT MOST 1048576: true; the input reads as it did. -/
def placeDomainsUptoRow : OpenClaim := { program := "ytfnigiiocapceaagreat", sum := "5c12900c16e92bd6eb2ff2884b63a83b1ca2fa363185c8cdcfecc57dfd60917b", func := "drayage/drayagelaw07.PlaceDomains", spec := "placeDomains", unfollowed := true, recurses := true, apart := false, narrowed := true }
def PlaceDomainsUptoSaid : Prop := placeDomainsUptoRow.holds Tryz.pinned (OpenSpec.upto placeDomainsSpec)

/-- 'drayagelaw07.PlaceSteps', WHERE WHAT IT READS IS OF BULK AT MOST 1048576: true; the input reads as it did. -/
def placeStepsUptoRow : OpenClaim := { program := "ytfnigiiocapceaagreat", sum := "5c12900c16e92bd6eb2ff2884b63a83b1ca2fa363185c8cdcfecc57dfd60917b", func := "drayage/drayagelaw07.PlaceSteps", spec := "placeSteps", unfollowed := true, recurses := true, apart := false, narrowed := true }
def PlaceStepsUptoSaid : Prop := placeStepsUptoRow.holds Tryz.pinned (OpenSpec.upto placeStepsSpec)

/-- 'drayagelaw07.PlaceSums', WHERE WHAT IT READS IS OF BULK AT MOST 1048576: true; the input reads as it did. -/
def placeSumsUptoRow : OpenClaim := { program := "ytfnigiiocapceaagreat", sum := "5c12900c16e92bd6eb2ff2884b63a83b1ca2fa363185c8cdcfecc57dfd60917b", func := "drayage/drayagelaw07.PlaceSums", spec := "placeSums", unfollowed := true, recurses := true, apart := false, narrowed := true }
def PlaceSumsUptoSaid : Prop := placeSumsUptoRow.holds Tryz.pinned (OpenSpec.upto placeSumsSpec)

/-- 'drayagelaw07.PlaceBack', WHERE WHAT IT READS IS OF BULK AT MOST 1048576: true; the input reads as it did. -/
def placeBackUptoRow : OpenClaim := { program := "ytfnigiiocapceaagreat", sum := "5c12900c16e92bd6eb2ff2884b63a83b1ca2fa363185c8cdcfecc57dfd60917b", func := "drayage/drayagelaw07.PlaceBack", spec := "placeBack", unfollowed := true, recurses := true, apart := false, narrowed := true }
def PlaceBackUptoSaid : Prop := placeBackUptoRow.holds Tryz.pinned (OpenSpec.upto placeBackSpec)

/-- 'drayagelaw07.PlaceNames', WHERE WHAT IT READS IS OF BULK AT MOST 1048576: true; the input reads as it did. -/
def placeNamesUptoRow : OpenClaim := { program := "ytfnigiiocapceaagreat", sum := "5c12900c16e92bd6eb2ff2884b63a83b1ca2fa363185c8cdcfecc57dfd60917b", func := "drayage/drayagelaw07.PlaceNames", spec := "placeNames", unfollowed := true, recurses := true, apart := false, narrowed := true }
def PlaceNamesUptoSaid : Prop := placeNamesUptoRow.holds Tryz.pinned (OpenSpec.upto placeNamesSpec)

end Rows
end Go.Proofs.YtfnigiiocapceaaGreat
