/-
  No cell of these rows narrows 'for every input' (looked for: loops, veiled, ifaces, maps, wideKeys, modest, calm, conditions, laid).
  DERIVED. THE GIVEN ROWS OF THIS SEAT. 13 by the template 'for every input the law returns true; each argument reads behind the call as it read before'; 0 by the template 'total and deterministic' (their statements: YtmmokiaipfalmaaGreatTotals.lean).
  GIVEN WITH THE SEED: the statements are not yours to turn. If you find one false, say at which input.
  Laid BY PROGRAM, IN A SANDBOX (cutbox-rows.mjs): the forced cells as the released guide's own fill.sh prints them over the translation 9d731cf3dc946e23… (all of the seat's roots in one cut). By AI agents, Wed Nov 11 2026. No macro, syntax, notation, axiom, sorry.
-/
import Derived.Test.YtmmokiaipfalmaaGreatChecked
import GoSem.Claim
import GoSem.ClaimJoined
import GoSem.ClaimMapViews
import Derived.JoinedTies
import Derived.KernelRfl
namespace Go.Proofs.YtmmokiaipfalmaaGreat
/- THE CELL 'sum', in the pinned program and in every row, IS THE sha256 OF THE DUMP (.gsa) THAT YtmmokiaipfalmaaGreatProg.lean LOADS. Nothing in Lean hashes anything: it is a label: what it is worth is what the hold of that sum in a sandbox is worth. -/
noncomputable def Tryz.pinned : Pinned := { name := "ytmmokiaipfalmaagreat", sum := "9d731cf3dc946e23bf64ffd2aad96d699b1fd6c252176e1b1b80dad088b3b903", checked := Tryz.checked }
namespace Rows
def none {H : Type} : Left H := { results := [], args := [] }

/-- 'drayagelaw14.FitBest': WHATEVER THE INPUT: true; the input reads as it did. -/
def fitBestSpec : ChangeSpec := { name := "fitBest", fn := fun _ => fun
  | [d1, d2] => { results := [.lit (.bool true)], args := [d1, d2] }
  | _ => none }
def fitBestRow : OpenClaim := { program := "ytmmokiaipfalmaagreat", sum := "9d731cf3dc946e23bf64ffd2aad96d699b1fd6c252176e1b1b80dad088b3b903", func := "drayage/drayagelaw14.FitBest", spec := "fitBest", unfollowed := true, recurses := true, plainKeys := false, apart := false }
def FitBestSaid : Prop := fitBestRow.holds Tryz.pinned (OpenSpec.ofChange fitBestSpec)

/-- ITS FALSE NEIGHBOUR: 'it returns false'. Refute it at one input. -/
def fitBestWrong : ChangeSpec := { name := "fitBest", fn := fun _ => fun
  | [d1, d2] => { results := [.lit (.bool false)], args := [d1, d2] }
  | _ => none }
def FitBestWrongFalsely : Prop := fitBestRow.holds Tryz.pinned (OpenSpec.ofChange fitBestWrong)

/-- 'drayagelaw14.FitNames': WHATEVER THE INPUT: true; the input reads as it did. -/
def fitNamesSpec : ChangeSpec := { name := "fitNames", fn := fun _ => fun
  | [] => { results := [.lit (.bool true)], args := [] }
  | _ => none }
def fitNamesRow : OpenClaim := { program := "ytmmokiaipfalmaagreat", sum := "9d731cf3dc946e23bf64ffd2aad96d699b1fd6c252176e1b1b80dad088b3b903", func := "drayage/drayagelaw14.FitNames", spec := "fitNames", unfollowed := true, recurses := true, plainKeys := false, apart := false }
def FitNamesSaid : Prop := fitNamesRow.holds Tryz.pinned (OpenSpec.ofChange fitNamesSpec)

/-- ITS FALSE NEIGHBOUR: 'it returns false'. Refute it at one input. -/
def fitNamesWrong : ChangeSpec := { name := "fitNames", fn := fun _ => fun
  | [] => { results := [.lit (.bool false)], args := [] }
  | _ => none }
def FitNamesWrongFalsely : Prop := fitNamesRow.holds Tryz.pinned (OpenSpec.ofChange fitNamesWrong)

/-- 'drayagelaw14.FitRanks': WHATEVER THE INPUT: true; the input reads as it did. -/
def fitRanksSpec : ChangeSpec := { name := "fitRanks", fn := fun _ => fun
  | [d1, d2, d3] => { results := [.lit (.bool true)], args := [d1, d2, d3] }
  | _ => none }
def fitRanksRow : OpenClaim := { program := "ytmmokiaipfalmaagreat", sum := "9d731cf3dc946e23bf64ffd2aad96d699b1fd6c252176e1b1b80dad088b3b903", func := "drayage/drayagelaw14.FitRanks", spec := "fitRanks", unfollowed := true, recurses := true, plainKeys := false, apart := false }
def FitRanksSaid : Prop := fitRanksRow.holds Tryz.pinned (OpenSpec.ofChange fitRanksSpec)

/-- ITS FALSE NEIGHBOUR: 'it returns false'. Refute it at one input. -/
def fitRanksWrong : ChangeSpec := { name := "fitRanks", fn := fun _ => fun
  | [d1, d2, d3] => { results := [.lit (.bool false)], args := [d1, d2, d3] }
  | _ => none }
def FitRanksWrongFalsely : Prop := fitRanksRow.holds Tryz.pinned (OpenSpec.ofChange fitRanksWrong)

/-- 'drayagelaw14.FitPacks': WHATEVER THE INPUT: true; the input reads as it did. -/
def fitPacksSpec : ChangeSpec := { name := "fitPacks", fn := fun _ => fun
  | [d1, d2, d3] => { results := [.lit (.bool true)], args := [d1, d2, d3] }
  | _ => none }
def fitPacksRow : OpenClaim := { program := "ytmmokiaipfalmaagreat", sum := "9d731cf3dc946e23bf64ffd2aad96d699b1fd6c252176e1b1b80dad088b3b903", func := "drayage/drayagelaw14.FitPacks", spec := "fitPacks", unfollowed := true, recurses := true, plainKeys := false, apart := false }
def FitPacksSaid : Prop := fitPacksRow.holds Tryz.pinned (OpenSpec.ofChange fitPacksSpec)

/-- ITS FALSE NEIGHBOUR: 'it returns false'. Refute it at one input. -/
def fitPacksWrong : ChangeSpec := { name := "fitPacks", fn := fun _ => fun
  | [d1, d2, d3] => { results := [.lit (.bool false)], args := [d1, d2, d3] }
  | _ => none }
def FitPacksWrongFalsely : Prop := fitPacksRow.holds Tryz.pinned (OpenSpec.ofChange fitPacksWrong)

/-- 'drayagelaw14.FitKeeps': WHATEVER THE INPUT: true; the input reads as it did. -/
def fitKeepsSpec : ChangeSpec := { name := "fitKeeps", fn := fun _ => fun
  | [d1, d2, d3] => { results := [.lit (.bool true)], args := [d1, d2, d3] }
  | _ => none }
def fitKeepsRow : OpenClaim := { program := "ytmmokiaipfalmaagreat", sum := "9d731cf3dc946e23bf64ffd2aad96d699b1fd6c252176e1b1b80dad088b3b903", func := "drayage/drayagelaw14.FitKeeps", spec := "fitKeeps", unfollowed := true, recurses := true, plainKeys := false, apart := false }
def FitKeepsSaid : Prop := fitKeepsRow.holds Tryz.pinned (OpenSpec.ofChange fitKeepsSpec)

/-- ITS FALSE NEIGHBOUR: 'it returns false'. Refute it at one input. -/
def fitKeepsWrong : ChangeSpec := { name := "fitKeeps", fn := fun _ => fun
  | [d1, d2, d3] => { results := [.lit (.bool false)], args := [d1, d2, d3] }
  | _ => none }
def FitKeepsWrongFalsely : Prop := fitKeepsRow.holds Tryz.pinned (OpenSpec.ofChange fitKeepsWrong)

/-- 'drayagelaw15.RepackChoices': WHATEVER THE INPUT: true; the input reads as it did. -/
def repackChoicesSpec : ChangeSpec := { name := "repackChoices", fn := fun _ => fun
  | [d1, d2, d3] => { results := [.lit (.bool true)], args := [d1, d2, d3] }
  | _ => none }
def repackChoicesRow : OpenClaim := { program := "ytmmokiaipfalmaagreat", sum := "9d731cf3dc946e23bf64ffd2aad96d699b1fd6c252176e1b1b80dad088b3b903", func := "drayage/drayagelaw15.RepackChoices", spec := "repackChoices", unfollowed := true, recurses := true, plainKeys := false, apart := false }
def RepackChoicesSaid : Prop := repackChoicesRow.holds Tryz.pinned (OpenSpec.ofChange repackChoicesSpec)

/-- ITS FALSE NEIGHBOUR: 'it returns false'. Refute it at one input. -/
def repackChoicesWrong : ChangeSpec := { name := "repackChoices", fn := fun _ => fun
  | [d1, d2, d3] => { results := [.lit (.bool false)], args := [d1, d2, d3] }
  | _ => none }
def RepackChoicesWrongFalsely : Prop := repackChoicesRow.holds Tryz.pinned (OpenSpec.ofChange repackChoicesWrong)

/-- 'drayagelaw15.RepackNames': WHATEVER THE INPUT: true; the input reads as it did. -/
def repackNamesSpec : ChangeSpec := { name := "repackNames", fn := fun _ => fun
  | [] => { results := [.lit (.bool true)], args := [] }
  | _ => none }
def repackNamesRow : OpenClaim := { program := "ytmmokiaipfalmaagreat", sum := "9d731cf3dc946e23bf64ffd2aad96d699b1fd6c252176e1b1b80dad088b3b903", func := "drayage/drayagelaw15.RepackNames", spec := "repackNames", unfollowed := true, recurses := true, plainKeys := false, apart := false }
def RepackNamesSaid : Prop := repackNamesRow.holds Tryz.pinned (OpenSpec.ofChange repackNamesSpec)

/-- ITS FALSE NEIGHBOUR: 'it returns false'. Refute it at one input. -/
def repackNamesWrong : ChangeSpec := { name := "repackNames", fn := fun _ => fun
  | [] => { results := [.lit (.bool false)], args := [] }
  | _ => none }
def RepackNamesWrongFalsely : Prop := repackNamesRow.holds Tryz.pinned (OpenSpec.ofChange repackNamesWrong)

/-- 'drayagelaw15.RepackKeeps': WHATEVER THE INPUT: true; the input reads as it did. -/
def repackKeepsSpec : ChangeSpec := { name := "repackKeeps", fn := fun _ => fun
  | [d1, d2, d3] => { results := [.lit (.bool true)], args := [d1, d2, d3] }
  | _ => none }
def repackKeepsRow : OpenClaim := { program := "ytmmokiaipfalmaagreat", sum := "9d731cf3dc946e23bf64ffd2aad96d699b1fd6c252176e1b1b80dad088b3b903", func := "drayage/drayagelaw15.RepackKeeps", spec := "repackKeeps", unfollowed := true, recurses := true, plainKeys := false, apart := false }
def RepackKeepsSaid : Prop := repackKeepsRow.holds Tryz.pinned (OpenSpec.ofChange repackKeepsSpec)

/-- ITS FALSE NEIGHBOUR: 'it returns false'. Refute it at one input. -/
def repackKeepsWrong : ChangeSpec := { name := "repackKeeps", fn := fun _ => fun
  | [d1, d2, d3] => { results := [.lit (.bool false)], args := [d1, d2, d3] }
  | _ => none }
def RepackKeepsWrongFalsely : Prop := repackKeepsRow.holds Tryz.pinned (OpenSpec.ofChange repackKeepsWrong)

/-- 'drayagelaw15.RepackOthers': WHATEVER THE INPUT: true; the input reads as it did. -/
def repackOthersSpec : ChangeSpec := { name := "repackOthers", fn := fun _ => fun
  | [d1, d2, d3] => { results := [.lit (.bool true)], args := [d1, d2, d3] }
  | _ => none }
def repackOthersRow : OpenClaim := { program := "ytmmokiaipfalmaagreat", sum := "9d731cf3dc946e23bf64ffd2aad96d699b1fd6c252176e1b1b80dad088b3b903", func := "drayage/drayagelaw15.RepackOthers", spec := "repackOthers", unfollowed := true, recurses := true, plainKeys := false, apart := false }
def RepackOthersSaid : Prop := repackOthersRow.holds Tryz.pinned (OpenSpec.ofChange repackOthersSpec)

/-- ITS FALSE NEIGHBOUR: 'it returns false'. Refute it at one input. -/
def repackOthersWrong : ChangeSpec := { name := "repackOthers", fn := fun _ => fun
  | [d1, d2, d3] => { results := [.lit (.bool false)], args := [d1, d2, d3] }
  | _ => none }
def RepackOthersWrongFalsely : Prop := repackOthersRow.holds Tryz.pinned (OpenSpec.ofChange repackOthersWrong)

/-- 'drayagelaw12.HeatTells': WHATEVER THE INPUT: true; the input reads as it did. -/
def heatTellsSpec : ChangeSpec := { name := "heatTells", fn := fun _ => fun
  | [d1, d2, d3] => { results := [.lit (.bool true)], args := [d1, d2, d3] }
  | _ => none }
def heatTellsRow : OpenClaim := { program := "ytmmokiaipfalmaagreat", sum := "9d731cf3dc946e23bf64ffd2aad96d699b1fd6c252176e1b1b80dad088b3b903", func := "drayage/drayagelaw12.HeatTells", spec := "heatTells", unfollowed := true, recurses := true, plainKeys := false, apart := false }
def HeatTellsSaid : Prop := heatTellsRow.holds Tryz.pinned (OpenSpec.ofChange heatTellsSpec)

/-- ITS FALSE NEIGHBOUR: 'it returns false'. Refute it at one input. -/
def heatTellsWrong : ChangeSpec := { name := "heatTells", fn := fun _ => fun
  | [d1, d2, d3] => { results := [.lit (.bool false)], args := [d1, d2, d3] }
  | _ => none }
def HeatTellsWrongFalsely : Prop := heatTellsRow.holds Tryz.pinned (OpenSpec.ofChange heatTellsWrong)

/-- 'drayagelaw13.DetectTells': WHATEVER THE INPUT: true; the input reads as it did. -/
def detectTellsSpec : ChangeSpec := { name := "detectTells", fn := fun _ => fun
  | [d1, d2, d3] => { results := [.lit (.bool true)], args := [d1, d2, d3] }
  | _ => none }
def detectTellsRow : OpenClaim := { program := "ytmmokiaipfalmaagreat", sum := "9d731cf3dc946e23bf64ffd2aad96d699b1fd6c252176e1b1b80dad088b3b903", func := "drayage/drayagelaw13.DetectTells", spec := "detectTells", unfollowed := true, recurses := true, plainKeys := false, apart := false }
def DetectTellsSaid : Prop := detectTellsRow.holds Tryz.pinned (OpenSpec.ofChange detectTellsSpec)

/-- ITS FALSE NEIGHBOUR: 'it returns false'. Refute it at one input. -/
def detectTellsWrong : ChangeSpec := { name := "detectTells", fn := fun _ => fun
  | [d1, d2, d3] => { results := [.lit (.bool false)], args := [d1, d2, d3] }
  | _ => none }
def DetectTellsWrongFalsely : Prop := detectTellsRow.holds Tryz.pinned (OpenSpec.ofChange detectTellsWrong)

/-- 'drayagelaw12.HeatKnown': WHATEVER THE INPUT: true; the input reads as it did. -/
def heatKnownSpec : ChangeSpec := { name := "heatKnown", fn := fun _ => fun
  | [] => { results := [.lit (.bool true)], args := [] }
  | _ => none }
def heatKnownRow : OpenClaim := { program := "ytmmokiaipfalmaagreat", sum := "9d731cf3dc946e23bf64ffd2aad96d699b1fd6c252176e1b1b80dad088b3b903", func := "drayage/drayagelaw12.HeatKnown", spec := "heatKnown", unfollowed := true, recurses := true, plainKeys := false, apart := false }
def HeatKnownSaid : Prop := heatKnownRow.holds Tryz.pinned (OpenSpec.ofChange heatKnownSpec)

/-- ITS FALSE NEIGHBOUR: 'it returns false'. Refute it at one input. -/
def heatKnownWrong : ChangeSpec := { name := "heatKnown", fn := fun _ => fun
  | [] => { results := [.lit (.bool false)], args := [] }
  | _ => none }
def HeatKnownWrongFalsely : Prop := heatKnownRow.holds Tryz.pinned (OpenSpec.ofChange heatKnownWrong)

/-- 'drayagelaw13.DetectKnown': WHATEVER THE INPUT: true; the input reads as it did. -/
def detectKnownSpec : ChangeSpec := { name := "detectKnown", fn := fun _ => fun
  | [] => { results := [.lit (.bool true)], args := [] }
  | _ => none }
def detectKnownRow : OpenClaim := { program := "ytmmokiaipfalmaagreat", sum := "9d731cf3dc946e23bf64ffd2aad96d699b1fd6c252176e1b1b80dad088b3b903", func := "drayage/drayagelaw13.DetectKnown", spec := "detectKnown", unfollowed := true, recurses := true, plainKeys := false, apart := false }
def DetectKnownSaid : Prop := detectKnownRow.holds Tryz.pinned (OpenSpec.ofChange detectKnownSpec)

/-- ITS FALSE NEIGHBOUR: 'it returns false'. Refute it at one input. -/
def detectKnownWrong : ChangeSpec := { name := "detectKnown", fn := fun _ => fun
  | [] => { results := [.lit (.bool false)], args := [] }
  | _ => none }
def DetectKnownWrongFalsely : Prop := detectKnownRow.holds Tryz.pinned (OpenSpec.ofChange detectKnownWrong)

/- THE SECOND FORM. 'bulk': how many values and letters a reading holds, each counted each time it is reached (what is shared counts as often as it is met; a slice's spare places count too). A statement '..UptoSaid' is the law's where the arguments, and the package variables that the reading takes, are together of bulk at most 1048576: NARROWER than '..Said'. Prove '..Said' where nothing that the law and all that it calls make is longer than what came in: it says more and counts as full. Else prove '..UptoSaid'. A law counts once. -/
mutual
def uptoBulk {H : Type} : DataW H → Nat
  | .lit (.string bytes) => bytes.length + 1
  | .lit _ => 1
  | .nil => 1
  | .ptr d => uptoBulk d + 1
  | .slice elems spare => uptoBulkAll elems + uptoBulkAll spare + 1
  | .agg parts => uptoBulkAll parts + 1
  | .iface _ d => uptoBulk d + 1
  | .map entries => uptoBulkEntries entries + 1
  | .held _ => 1
def uptoBulkAll {H : Type} : List (DataW H) → Nat
  | [] => 0
  | d :: r => uptoBulk d + uptoBulkAll r
def uptoBulkEntries {H : Type} : List (Lit × DataW H) → Nat
  | [] => 0
  | x :: r => uptoBulkEntry x + uptoBulkEntries r
def uptoBulkEntry {H : Type} : Lit × DataW H → Nat
  | (.string bytes, d) => bytes.length + uptoBulk d + 1
  | (_, d) => uptoBulk d + 1
 end
def uptoSmall : (H : Type) → List (DataW H) → Bool := fun _ ds => decide (uptoBulkAll ds ≤ 1048576)
def OpenSpec.upto (s : _root_.Go.ChangeSpec) : _root_.Go.OpenSpec := { _root_.Go.OpenSpec.ofChange s with cond := some uptoSmall }

/-- 'drayagelaw14.FitBest', WHERE WHAT IT READS IS OF BULK AT MOST 1048576: true; the input reads as it did. -/
def fitBestUptoRow : OpenClaim := { program := "ytmmokiaipfalmaagreat", sum := "9d731cf3dc946e23bf64ffd2aad96d699b1fd6c252176e1b1b80dad088b3b903", func := "drayage/drayagelaw14.FitBest", spec := "fitBest", unfollowed := true, recurses := true, plainKeys := false, apart := false, narrowed := true }
def FitBestUptoSaid : Prop := fitBestUptoRow.holds Tryz.pinned (OpenSpec.upto fitBestSpec)

/-- 'drayagelaw14.FitNames', WHERE WHAT IT READS IS OF BULK AT MOST 1048576: true; the input reads as it did. -/
def fitNamesUptoRow : OpenClaim := { program := "ytmmokiaipfalmaagreat", sum := "9d731cf3dc946e23bf64ffd2aad96d699b1fd6c252176e1b1b80dad088b3b903", func := "drayage/drayagelaw14.FitNames", spec := "fitNames", unfollowed := true, recurses := true, plainKeys := false, apart := false, narrowed := true }
def FitNamesUptoSaid : Prop := fitNamesUptoRow.holds Tryz.pinned (OpenSpec.upto fitNamesSpec)

/-- 'drayagelaw14.FitRanks', WHERE WHAT IT READS IS OF BULK AT MOST 1048576: true; the input reads as it did. -/
def fitRanksUptoRow : OpenClaim := { program := "ytmmokiaipfalmaagreat", sum := "9d731cf3dc946e23bf64ffd2aad96d699b1fd6c252176e1b1b80dad088b3b903", func := "drayage/drayagelaw14.FitRanks", spec := "fitRanks", unfollowed := true, recurses := true, plainKeys := false, apart := false, narrowed := true }
def FitRanksUptoSaid : Prop := fitRanksUptoRow.holds Tryz.pinned (OpenSpec.upto fitRanksSpec)

/-- 'drayagelaw14.FitPacks', WHERE WHAT IT READS IS OF BULK AT MOST 1048576: true; the input reads as it did. -/
def fitPacksUptoRow : OpenClaim := { program := "ytmmokiaipfalmaagreat", sum := "9d731cf3dc946e23bf64ffd2aad96d699b1fd6c252176e1b1b80dad088b3b903", func := "drayage/drayagelaw14.FitPacks", spec := "fitPacks", unfollowed := true, recurses := true, plainKeys := false, apart := false, narrowed := true }
def FitPacksUptoSaid : Prop := fitPacksUptoRow.holds Tryz.pinned (OpenSpec.upto fitPacksSpec)

/-- 'drayagelaw14.FitKeeps', WHERE WHAT IT READS IS OF BULK AT MOST 1048576: true; the input reads as it did. -/
def fitKeepsUptoRow : OpenClaim := { program := "ytmmokiaipfalmaagreat", sum := "9d731cf3dc946e23bf64ffd2aad96d699b1fd6c252176e1b1b80dad088b3b903", func := "drayage/drayagelaw14.FitKeeps", spec := "fitKeeps", unfollowed := true, recurses := true, plainKeys := false, apart := false, narrowed := true }
def FitKeepsUptoSaid : Prop := fitKeepsUptoRow.holds Tryz.pinned (OpenSpec.upto fitKeepsSpec)

/-- 'drayagelaw15.RepackChoices', WHERE WHAT IT READS IS OF BULK AT MOST 1048576: true; the input reads as it did. -/
def repackChoicesUptoRow : OpenClaim := { program := "ytmmokiaipfalmaagreat", sum := "9d731cf3dc946e23bf64ffd2aad96d699b1fd6c252176e1b1b80dad088b3b903", func := "drayage/drayagelaw15.RepackChoices", spec := "repackChoices", unfollowed := true, recurses := true, plainKeys := false, apart := false, narrowed := true }
def RepackChoicesUptoSaid : Prop := repackChoicesUptoRow.holds Tryz.pinned (OpenSpec.upto repackChoicesSpec)

/-- 'drayagelaw15.RepackNames', WHERE WHAT IT READS IS OF BULK AT MOST 1048576: true; the input reads as it did. -/
def repackNamesUptoRow : OpenClaim := { program := "ytmmokiaipfalmaagreat", sum := "9d731cf3dc946e23bf64ffd2aad96d699b1fd6c252176e1b1b80dad088b3b903", func := "drayage/drayagelaw15.RepackNames", spec := "repackNames", unfollowed := true, recurses := true, plainKeys := false, apart := false, narrowed := true }
def RepackNamesUptoSaid : Prop := repackNamesUptoRow.holds Tryz.pinned (OpenSpec.upto repackNamesSpec)

/-- 'drayagelaw15.RepackKeeps', WHERE WHAT IT READS IS OF BULK AT MOST 1048576: true; the input reads as it did. -/
def repackKeepsUptoRow : OpenClaim := { program := "ytmmokiaipfalmaagreat", sum := "9d731cf3dc946e23bf64ffd2aad96d699b1fd6c252176e1b1b80dad088b3b903", func := "drayage/drayagelaw15.RepackKeeps", spec := "repackKeeps", unfollowed := true, recurses := true, plainKeys := false, apart := false, narrowed := true }
def RepackKeepsUptoSaid : Prop := repackKeepsUptoRow.holds Tryz.pinned (OpenSpec.upto repackKeepsSpec)

/-- 'drayagelaw15.RepackOthers', WHERE WHAT IT READS IS OF BULK AT MOST 1048576: true; the input reads as it did. -/
def repackOthersUptoRow : OpenClaim := { program := "ytmmokiaipfalmaagreat", sum := "9d731cf3dc946e23bf64ffd2aad96d699b1fd6c252176e1b1b80dad088b3b903", func := "drayage/drayagelaw15.RepackOthers", spec := "repackOthers", unfollowed := true, recurses := true, plainKeys := false, apart := false, narrowed := true }
def RepackOthersUptoSaid : Prop := repackOthersUptoRow.holds Tryz.pinned (OpenSpec.upto repackOthersSpec)

/-- 'drayagelaw12.HeatTells', WHERE WHAT IT READS IS OF BULK AT MOST 1048576: true; the input reads as it did. -/
def heatTellsUptoRow : OpenClaim := { program := "ytmmokiaipfalmaagreat", sum := "9d731cf3dc946e23bf64ffd2aad96d699b1fd6c252176e1b1b80dad088b3b903", func := "drayage/drayagelaw12.HeatTells", spec := "heatTells", unfollowed := true, recurses := true, plainKeys := false, apart := false, narrowed := true }
def HeatTellsUptoSaid : Prop := heatTellsUptoRow.holds Tryz.pinned (OpenSpec.upto heatTellsSpec)

/-- 'drayagelaw13.DetectTells', WHERE WHAT IT READS IS OF BULK AT MOST 1048576: true; the input reads as it did. -/
def detectTellsUptoRow : OpenClaim := { program := "ytmmokiaipfalmaagreat", sum := "9d731cf3dc946e23bf64ffd2aad96d699b1fd6c252176e1b1b80dad088b3b903", func := "drayage/drayagelaw13.DetectTells", spec := "detectTells", unfollowed := true, recurses := true, plainKeys := false, apart := false, narrowed := true }
def DetectTellsUptoSaid : Prop := detectTellsUptoRow.holds Tryz.pinned (OpenSpec.upto detectTellsSpec)

/-- 'drayagelaw12.HeatKnown', WHERE WHAT IT READS IS OF BULK AT MOST 1048576: true; the input reads as it did. -/
def heatKnownUptoRow : OpenClaim := { program := "ytmmokiaipfalmaagreat", sum := "9d731cf3dc946e23bf64ffd2aad96d699b1fd6c252176e1b1b80dad088b3b903", func := "drayage/drayagelaw12.HeatKnown", spec := "heatKnown", unfollowed := true, recurses := true, plainKeys := false, apart := false, narrowed := true }
def HeatKnownUptoSaid : Prop := heatKnownUptoRow.holds Tryz.pinned (OpenSpec.upto heatKnownSpec)

/-- 'drayagelaw13.DetectKnown', WHERE WHAT IT READS IS OF BULK AT MOST 1048576: true; the input reads as it did. -/
def detectKnownUptoRow : OpenClaim := { program := "ytmmokiaipfalmaagreat", sum := "9d731cf3dc946e23bf64ffd2aad96d699b1fd6c252176e1b1b80dad088b3b903", func := "drayage/drayagelaw13.DetectKnown", spec := "detectKnown", unfollowed := true, recurses := true, plainKeys := false, apart := false, narrowed := true }
def DetectKnownUptoSaid : Prop := detectKnownUptoRow.holds Tryz.pinned (OpenSpec.upto detectKnownSpec)

end Rows
end Go.Proofs.YtmmokiaipfalmaaGreat
