/-
  No cell of these rows narrows 'for every input' (looked for: loops, veiled, ifaces, maps, wideKeys, modest, calm, conditions, laid).
  DERIVED. THE GIVEN ROWS OF THIS SEAT. 11 by the template 'for every input the law returns true; each argument reads behind the call as it read before'; 0 by the template 'total and deterministic' (their statements: YtiiheajieegdkaaGreatTotals.lean).
  GIVEN WITH THE SEED: the statements are not yours to turn. If you find one false, say at which input.
  Laid BY PROGRAM, IN A SANDBOX (cutbox-rows.mjs): the forced cells as the released guide's own fill.sh prints them over the translation e2e8cbab7227de10… (all of the seat's roots in one cut). By AI agents, Wed Nov 11 2026. No macro, syntax, notation, axiom, sorry.
-/
import Derived.Test.YtiiheajieegdkaaGreatChecked
import GoSem.Claim
import GoSem.ClaimJoined
import GoSem.ClaimMapViews
import Derived.JoinedTies
import Derived.KernelRfl
namespace Go.Proofs.YtiiheajieegdkaaGreat
/- THE CELL 'sum', in the pinned program and in every row, IS THE sha256 OF THE DUMP (.gsa) THAT YtiiheajieegdkaaGreatProg.lean LOADS. Nothing in Lean hashes anything: it is a label: what it is worth is what the hold of that sum in a sandbox is worth. -/
noncomputable def Tryz.pinned : Pinned := { name := "ytiiheajieegdkaagreat", sum := "e2e8cbab7227de10720bcc78e59a6fa5f34255161bd462cdf93467e712132d44", checked := Tryz.checked }
namespace Rows
def none {H : Type} : Left H := { results := [], args := [] }

/-- 'drayagelaw08.ClauseNames': WHATEVER THE INPUT: true; the input reads as it did. -/
def clauseNamesSpec : ChangeSpec := { name := "clauseNames", fn := fun _ => fun
  | [] => { results := [.lit (.bool true)], args := [] }
  | _ => none }
def clauseNamesRow : OpenClaim := { program := "ytiiheajieegdkaagreat", sum := "e2e8cbab7227de10720bcc78e59a6fa5f34255161bd462cdf93467e712132d44", func := "drayage/drayagelaw08.ClauseNames", spec := "clauseNames", unfollowed := true, recurses := true, plainKeys := false, apart := false }
def ClauseNamesSaid : Prop := clauseNamesRow.holds Tryz.pinned (OpenSpec.ofChange clauseNamesSpec)

/-- ITS FALSE NEIGHBOUR: 'it returns false'. Refute it at one input. -/
def clauseNamesWrong : ChangeSpec := { name := "clauseNames", fn := fun _ => fun
  | [] => { results := [.lit (.bool false)], args := [] }
  | _ => none }
def ClauseNamesWrongFalsely : Prop := clauseNamesRow.holds Tryz.pinned (OpenSpec.ofChange clauseNamesWrong)

/-- 'drayagelaw10.AdmitKeeps': WHATEVER THE INPUT: true; the input reads as it did. -/
def admitKeepsSpec : ChangeSpec := { name := "admitKeeps", fn := fun _ => fun
  | [d1, d2, d3] => { results := [.lit (.bool true)], args := [d1, d2, d3] }
  | _ => none }
def admitKeepsRow : OpenClaim := { program := "ytiiheajieegdkaagreat", sum := "e2e8cbab7227de10720bcc78e59a6fa5f34255161bd462cdf93467e712132d44", func := "drayage/drayagelaw10.AdmitKeeps", spec := "admitKeeps", unfollowed := true, recurses := true, plainKeys := false, apart := false }
def AdmitKeepsSaid : Prop := admitKeepsRow.holds Tryz.pinned (OpenSpec.ofChange admitKeepsSpec)

/-- ITS FALSE NEIGHBOUR: 'it returns false'. Refute it at one input. -/
def admitKeepsWrong : ChangeSpec := { name := "admitKeeps", fn := fun _ => fun
  | [d1, d2, d3] => { results := [.lit (.bool false)], args := [d1, d2, d3] }
  | _ => none }
def AdmitKeepsWrongFalsely : Prop := admitKeepsRow.holds Tryz.pinned (OpenSpec.ofChange admitKeepsWrong)

/-- 'drayagelaw10.AdmitNear': WHATEVER THE INPUT: true; the input reads as it did. -/
def admitNearSpec : ChangeSpec := { name := "admitNear", fn := fun _ => fun
  | [d1, d2, d3] => { results := [.lit (.bool true)], args := [d1, d2, d3] }
  | _ => none }
def admitNearRow : OpenClaim := { program := "ytiiheajieegdkaagreat", sum := "e2e8cbab7227de10720bcc78e59a6fa5f34255161bd462cdf93467e712132d44", func := "drayage/drayagelaw10.AdmitNear", spec := "admitNear", unfollowed := true, recurses := true, plainKeys := false, apart := false }
def AdmitNearSaid : Prop := admitNearRow.holds Tryz.pinned (OpenSpec.ofChange admitNearSpec)

/-- ITS FALSE NEIGHBOUR: 'it returns false'. Refute it at one input. -/
def admitNearWrong : ChangeSpec := { name := "admitNear", fn := fun _ => fun
  | [d1, d2, d3] => { results := [.lit (.bool false)], args := [d1, d2, d3] }
  | _ => none }
def AdmitNearWrongFalsely : Prop := admitNearRow.holds Tryz.pinned (OpenSpec.ofChange admitNearWrong)

/-- 'drayagelaw10.AdmitNames': WHATEVER THE INPUT: true; the input reads as it did. -/
def admitNamesSpec : ChangeSpec := { name := "admitNames", fn := fun _ => fun
  | [] => { results := [.lit (.bool true)], args := [] }
  | _ => none }
def admitNamesRow : OpenClaim := { program := "ytiiheajieegdkaagreat", sum := "e2e8cbab7227de10720bcc78e59a6fa5f34255161bd462cdf93467e712132d44", func := "drayage/drayagelaw10.AdmitNames", spec := "admitNames", unfollowed := true, recurses := true, plainKeys := false, apart := false }
def AdmitNamesSaid : Prop := admitNamesRow.holds Tryz.pinned (OpenSpec.ofChange admitNamesSpec)

/-- ITS FALSE NEIGHBOUR: 'it returns false'. Refute it at one input. -/
def admitNamesWrong : ChangeSpec := { name := "admitNames", fn := fun _ => fun
  | [] => { results := [.lit (.bool false)], args := [] }
  | _ => none }
def AdmitNamesWrongFalsely : Prop := admitNamesRow.holds Tryz.pinned (OpenSpec.ofChange admitNamesWrong)

/-- 'drayagelaw11.StorePlays': WHATEVER THE INPUT: true; the input reads as it did. -/
def storePlaysSpec : ChangeSpec := { name := "storePlays", fn := fun _ => fun
  | [d1, d2] => { results := [.lit (.bool true)], args := [d1, d2] }
  | _ => none }
def storePlaysRow : OpenClaim := { program := "ytiiheajieegdkaagreat", sum := "e2e8cbab7227de10720bcc78e59a6fa5f34255161bd462cdf93467e712132d44", func := "drayage/drayagelaw11.StorePlays", spec := "storePlays", unfollowed := true, recurses := true, plainKeys := false, apart := false }
def StorePlaysSaid : Prop := storePlaysRow.holds Tryz.pinned (OpenSpec.ofChange storePlaysSpec)

/-- ITS FALSE NEIGHBOUR: 'it returns false'. Refute it at one input. -/
def storePlaysWrong : ChangeSpec := { name := "storePlays", fn := fun _ => fun
  | [d1, d2] => { results := [.lit (.bool false)], args := [d1, d2] }
  | _ => none }
def StorePlaysWrongFalsely : Prop := storePlaysRow.holds Tryz.pinned (OpenSpec.ofChange storePlaysWrong)

/-- 'drayagelaw11.StoreKeeps': WHATEVER THE INPUT: true; the input reads as it did. -/
def storeKeepsSpec : ChangeSpec := { name := "storeKeeps", fn := fun _ => fun
  | [d1, d2] => { results := [.lit (.bool true)], args := [d1, d2] }
  | _ => none }
def storeKeepsRow : OpenClaim := { program := "ytiiheajieegdkaagreat", sum := "e2e8cbab7227de10720bcc78e59a6fa5f34255161bd462cdf93467e712132d44", func := "drayage/drayagelaw11.StoreKeeps", spec := "storeKeeps", unfollowed := true, recurses := true, plainKeys := false, apart := false }
def StoreKeepsSaid : Prop := storeKeepsRow.holds Tryz.pinned (OpenSpec.ofChange storeKeepsSpec)

/-- ITS FALSE NEIGHBOUR: 'it returns false'. Refute it at one input. -/
def storeKeepsWrong : ChangeSpec := { name := "storeKeeps", fn := fun _ => fun
  | [d1, d2] => { results := [.lit (.bool false)], args := [d1, d2] }
  | _ => none }
def StoreKeepsWrongFalsely : Prop := storeKeepsRow.holds Tryz.pinned (OpenSpec.ofChange storeKeepsWrong)

/-- 'drayagelaw11.StoreSteps': WHATEVER THE INPUT: true; the input reads as it did. -/
def storeStepsSpec : ChangeSpec := { name := "storeSteps", fn := fun _ => fun
  | [d1, d2] => { results := [.lit (.bool true)], args := [d1, d2] }
  | _ => none }
def storeStepsRow : OpenClaim := { program := "ytiiheajieegdkaagreat", sum := "e2e8cbab7227de10720bcc78e59a6fa5f34255161bd462cdf93467e712132d44", func := "drayage/drayagelaw11.StoreSteps", spec := "storeSteps", unfollowed := true, recurses := true, plainKeys := false, apart := false }
def StoreStepsSaid : Prop := storeStepsRow.holds Tryz.pinned (OpenSpec.ofChange storeStepsSpec)

/-- ITS FALSE NEIGHBOUR: 'it returns false'. Refute it at one input. -/
def storeStepsWrong : ChangeSpec := { name := "storeSteps", fn := fun _ => fun
  | [d1, d2] => { results := [.lit (.bool false)], args := [d1, d2] }
  | _ => none }
def StoreStepsWrongFalsely : Prop := storeStepsRow.holds Tryz.pinned (OpenSpec.ofChange storeStepsWrong)

/-- 'drayagelaw11.StoreLost': WHATEVER THE INPUT: true; the input reads as it did. -/
def storeLostSpec : ChangeSpec := { name := "storeLost", fn := fun _ => fun
  | [d1, d2, d3] => { results := [.lit (.bool true)], args := [d1, d2, d3] }
  | _ => none }
def storeLostRow : OpenClaim := { program := "ytiiheajieegdkaagreat", sum := "e2e8cbab7227de10720bcc78e59a6fa5f34255161bd462cdf93467e712132d44", func := "drayage/drayagelaw11.StoreLost", spec := "storeLost", unfollowed := true, recurses := true, plainKeys := false, apart := false }
def StoreLostSaid : Prop := storeLostRow.holds Tryz.pinned (OpenSpec.ofChange storeLostSpec)

/-- ITS FALSE NEIGHBOUR: 'it returns false'. Refute it at one input. -/
def storeLostWrong : ChangeSpec := { name := "storeLost", fn := fun _ => fun
  | [d1, d2, d3] => { results := [.lit (.bool false)], args := [d1, d2, d3] }
  | _ => none }
def StoreLostWrongFalsely : Prop := storeLostRow.holds Tryz.pinned (OpenSpec.ofChange storeLostWrong)

/-- 'drayagelaw11.StoreKnown': WHATEVER THE INPUT: true; the input reads as it did. -/
def storeKnownSpec : ChangeSpec := { name := "storeKnown", fn := fun _ => fun
  | [] => { results := [.lit (.bool true)], args := [] }
  | _ => none }
def storeKnownRow : OpenClaim := { program := "ytiiheajieegdkaagreat", sum := "e2e8cbab7227de10720bcc78e59a6fa5f34255161bd462cdf93467e712132d44", func := "drayage/drayagelaw11.StoreKnown", spec := "storeKnown", unfollowed := true, recurses := true, plainKeys := false, apart := false }
def StoreKnownSaid : Prop := storeKnownRow.holds Tryz.pinned (OpenSpec.ofChange storeKnownSpec)

/-- ITS FALSE NEIGHBOUR: 'it returns false'. Refute it at one input. -/
def storeKnownWrong : ChangeSpec := { name := "storeKnown", fn := fun _ => fun
  | [] => { results := [.lit (.bool false)], args := [] }
  | _ => none }
def StoreKnownWrongFalsely : Prop := storeKnownRow.holds Tryz.pinned (OpenSpec.ofChange storeKnownWrong)

/-- 'drayagelaw12.HeatTells': WHATEVER THE INPUT: true; the input reads as it did. -/
def heatTellsSpec : ChangeSpec := { name := "heatTells", fn := fun _ => fun
  | [d1, d2, d3] => { results := [.lit (.bool true)], args := [d1, d2, d3] }
  | _ => none }
def heatTellsRow : OpenClaim := { program := "ytiiheajieegdkaagreat", sum := "e2e8cbab7227de10720bcc78e59a6fa5f34255161bd462cdf93467e712132d44", func := "drayage/drayagelaw12.HeatTells", spec := "heatTells", unfollowed := true, recurses := true, plainKeys := false, apart := false }
def HeatTellsSaid : Prop := heatTellsRow.holds Tryz.pinned (OpenSpec.ofChange heatTellsSpec)

/-- ITS FALSE NEIGHBOUR: 'it returns false'. Refute it at one input. -/
def heatTellsWrong : ChangeSpec := { name := "heatTells", fn := fun _ => fun
  | [d1, d2, d3] => { results := [.lit (.bool false)], args := [d1, d2, d3] }
  | _ => none }
def HeatTellsWrongFalsely : Prop := heatTellsRow.holds Tryz.pinned (OpenSpec.ofChange heatTellsWrong)

/-- 'drayagelaw12.HeatKnown': WHATEVER THE INPUT: true; the input reads as it did. -/
def heatKnownSpec : ChangeSpec := { name := "heatKnown", fn := fun _ => fun
  | [] => { results := [.lit (.bool true)], args := [] }
  | _ => none }
def heatKnownRow : OpenClaim := { program := "ytiiheajieegdkaagreat", sum := "e2e8cbab7227de10720bcc78e59a6fa5f34255161bd462cdf93467e712132d44", func := "drayage/drayagelaw12.HeatKnown", spec := "heatKnown", unfollowed := true, recurses := true, plainKeys := false, apart := false }
def HeatKnownSaid : Prop := heatKnownRow.holds Tryz.pinned (OpenSpec.ofChange heatKnownSpec)

/-- ITS FALSE NEIGHBOUR: 'it returns false'. Refute it at one input. -/
def heatKnownWrong : ChangeSpec := { name := "heatKnown", fn := fun _ => fun
  | [] => { results := [.lit (.bool false)], args := [] }
  | _ => none }
def HeatKnownWrongFalsely : Prop := heatKnownRow.holds Tryz.pinned (OpenSpec.ofChange heatKnownWrong)

/- THE SECOND FORM. 'bulk': how many values and letters a reading holds, each counted each time it is reached (what is shared counts as often as it is met; a slice's spare places count too). A statement '..UptoSaid' is the law's where the arguments, and the package variables that the reading takes, are together of bulk at most 1048576: NARROWER than '..Said'. Prove '..Said' where nothing that the law and all that it calls make is longer than what came in: it says more and counts as full. Else prove '..UptoSaid'. A law counts once. -/
mutual
def uptoBulk {H : Type} : DataW H → Nat
  | .lit (.string bytes) => bytes.length + 1
  | .lit _ => 1
  | .nil => 1
  | .ptr d => uptoBulk d + 1
  | .slice elems spare => uptoBulkAll elems + uptoBulkAll spare + 1
  | .agg parts => uptoBulkAll parts + 1
  | .iface _ d => uptoBulk d + 1
  | .map entries => uptoBulkEntries entries + 1
  | .held _ => 1
def uptoBulkAll {H : Type} : List (DataW H) → Nat
  | [] => 0
  | d :: r => uptoBulk d + uptoBulkAll r
def uptoBulkEntries {H : Type} : List (Lit × DataW H) → Nat
  | [] => 0
  | x :: r => uptoBulkEntry x + uptoBulkEntries r
def uptoBulkEntry {H : Type} : Lit × DataW H → Nat
  | (.string bytes, d) => bytes.length + uptoBulk d + 1
  | (_, d) => uptoBulk d + 1
 end
def uptoSmall : (H : Type) → List (DataW H) → Bool := fun _ ds => decide (uptoBulkAll ds ≤ 1048576)
def OpenSpec.upto (s : _root_.Go.ChangeSpec) : _root_.Go.OpenSpec := { _root_.Go.OpenSpec.ofChange s with cond := some uptoSmall }

/-- 'drayagelaw08.ClauseNames', WHERE WHAT IT READS IS OF BULK AT MOST 1048576: true; the input reads as it did. -/
def clauseNamesUptoRow : OpenClaim := { program := "ytiiheajieegdkaagreat", sum := "e2e8cbab7227de10720bcc78e59a6fa5f34255161bd462cdf93467e712132d44", func := "drayage/drayagelaw08.ClauseNames", spec := "clauseNames", unfollowed := true, recurses := true, plainKeys := false, apart := false, narrowed := true }
def ClauseNamesUptoSaid : Prop := clauseNamesUptoRow.holds Tryz.pinned (OpenSpec.upto clauseNamesSpec)

/-- 'drayagelaw10.AdmitKeeps', WHERE WHAT IT READS IS OF BULK AT MOST 1048576: true; the input reads as it did. -/
def admitKeepsUptoRow : OpenClaim := { program := "ytiiheajieegdkaagreat", sum := "e2e8cbab7227de10720bcc78e59a6fa5f34255161bd462cdf93467e712132d44", func := "drayage/drayagelaw10.AdmitKeeps", spec := "admitKeeps", unfollowed := true, recurses := true, plainKeys := false, apart := false, narrowed := true }
def AdmitKeepsUptoSaid : Prop := admitKeepsUptoRow.holds Tryz.pinned (OpenSpec.upto admitKeepsSpec)

/-- 'drayagelaw10.AdmitNear', WHERE WHAT IT READS IS OF BULK AT MOST 1048576: true; the input reads as it did. -/
def admitNearUptoRow : OpenClaim := { program := "ytiiheajieegdkaagreat", sum := "e2e8cbab7227de10720bcc78e59a6fa5f34255161bd462cdf93467e712132d44", func := "drayage/drayagelaw10.AdmitNear", spec := "admitNear", unfollowed := true, recurses := true, plainKeys := false, apart := false, narrowed := true }
def AdmitNearUptoSaid : Prop := admitNearUptoRow.holds Tryz.pinned (OpenSpec.upto admitNearSpec)

/-- 'drayagelaw10.AdmitNames', WHERE WHAT IT READS IS OF BULK AT MOST 1048576: true; the input reads as it did. -/
def admitNamesUptoRow : OpenClaim := { program := "ytiiheajieegdkaagreat", sum := "e2e8cbab7227de10720bcc78e59a6fa5f34255161bd462cdf93467e712132d44", func := "drayage/drayagelaw10.AdmitNames", spec := "admitNames", unfollowed := true, recurses := true, plainKeys := false, apart := false, narrowed := true }
def AdmitNamesUptoSaid : Prop := admitNamesUptoRow.holds Tryz.pinned (OpenSpec.upto admitNamesSpec)

/-- 'drayagelaw11.StorePlays', WHERE WHAT IT READS IS OF BULK AT MOST 1048576: true; the input reads as it did. -/
def storePlaysUptoRow : OpenClaim := { program := "ytiiheajieegdkaagreat", sum := "e2e8cbab7227de10720bcc78e59a6fa5f34255161bd462cdf93467e712132d44", func := "drayage/drayagelaw11.StorePlays", spec := "storePlays", unfollowed := true, recurses := true, plainKeys := false, apart := false, narrowed := true }
def StorePlaysUptoSaid : Prop := storePlaysUptoRow.holds Tryz.pinned (OpenSpec.upto storePlaysSpec)

/-- 'drayagelaw11.StoreKeeps', WHERE WHAT IT READS IS OF BULK AT MOST 1048576: true; the input reads as it did. -/
def storeKeepsUptoRow : OpenClaim := { program := "ytiiheajieegdkaagreat", sum := "e2e8cbab7227de10720bcc78e59a6fa5f34255161bd462cdf93467e712132d44", func := "drayage/drayagelaw11.StoreKeeps", spec := "storeKeeps", unfollowed := true, recurses := true, plainKeys := false, apart := false, narrowed := true }
def StoreKeepsUptoSaid : Prop := storeKeepsUptoRow.holds Tryz.pinned (OpenSpec.upto storeKeepsSpec)

/-- 'drayagelaw11.StoreSteps', WHERE WHAT IT READS IS OF BULK AT MOST 1048576: true; the input reads as it did. -/
def storeStepsUptoRow : OpenClaim := { program := "ytiiheajieegdkaagreat", sum := "e2e8cbab7227de10720bcc78e59a6fa5f34255161bd462cdf93467e712132d44", func := "drayage/drayagelaw11.StoreSteps", spec := "storeSteps", unfollowed := true, recurses := true, plainKeys := false, apart := false, narrowed := true }
def StoreStepsUptoSaid : Prop := storeStepsUptoRow.holds Tryz.pinned (OpenSpec.upto storeStepsSpec)

/-- 'drayagelaw11.StoreLost', WHERE WHAT IT READS IS OF BULK AT MOST 1048576: true; the input reads as it did. -/
def storeLostUptoRow : OpenClaim := { program := "ytiiheajieegdkaagreat", sum := "e2e8cbab7227de10720bcc78e59a6fa5f34255161bd462cdf93467e712132d44", func := "drayage/drayagelaw11.StoreLost", spec := "storeLost", unfollowed := true, recurses := true, plainKeys := false, apart := false, narrowed := true }
def StoreLostUptoSaid : Prop := storeLostUptoRow.holds Tryz.pinned (OpenSpec.upto storeLostSpec)

/-- 'drayagelaw11.StoreKnown', WHERE WHAT IT READS IS OF BULK AT MOST 1048576: true; the input reads as it did. -/
def storeKnownUptoRow : OpenClaim := { program := "ytiiheajieegdkaagreat", sum := "e2e8cbab7227de10720bcc78e59a6fa5f34255161bd462cdf93467e712132d44", func := "drayage/drayagelaw11.StoreKnown", spec := "storeKnown", unfollowed := true, recurses := true, plainKeys := false, apart := false, narrowed := true }
def StoreKnownUptoSaid : Prop := storeKnownUptoRow.holds Tryz.pinned (OpenSpec.upto storeKnownSpec)

/-- 'drayagelaw12.HeatTells', WHERE WHAT IT READS IS OF BULK AT MOST 1048576: true; the input reads as it did. -/
def heatTellsUptoRow : OpenClaim := { program := "ytiiheajieegdkaagreat", sum := "e2e8cbab7227de10720bcc78e59a6fa5f34255161bd462cdf93467e712132d44", func := "drayage/drayagelaw12.HeatTells", spec := "heatTells", unfollowed := true, recurses := true, plainKeys := false, apart := false, narrowed := true }
def HeatTellsUptoSaid : Prop := heatTellsUptoRow.holds Tryz.pinned (OpenSpec.upto heatTellsSpec)

/-- 'drayagelaw12.HeatKnown', WHERE WHAT IT READS IS OF BULK AT MOST 1048576: true; the input reads as it did. -/
def heatKnownUptoRow : OpenClaim := { program := "ytiiheajieegdkaagreat", sum := "e2e8cbab7227de10720bcc78e59a6fa5f34255161bd462cdf93467e712132d44", func := "drayage/drayagelaw12.HeatKnown", spec := "heatKnown", unfollowed := true, recurses := true, plainKeys := false, apart := false, narrowed := true }
def HeatKnownUptoSaid : Prop := heatKnownUptoRow.holds Tryz.pinned (OpenSpec.upto heatKnownSpec)

end Rows
end Go.Proofs.YtiiheajieegdkaaGreat
