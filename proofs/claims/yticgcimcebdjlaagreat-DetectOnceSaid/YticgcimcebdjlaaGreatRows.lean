/-
  No cell of these rows narrows 'for every input' (looked for: loops, veiled, ifaces, maps, wideKeys, modest, calm, conditions, laid).
  DERIVED. THE GIVEN ROWS OF THIS SEAT. 6 by the template 'for every input the law returns true; each argument reads behind the call as it read before'; 0 by the template 'total and deterministic' (their statements: YticgcimcebdjlaaGreatTotals.lean).
  GIVEN WITH THE SEED: the statements are not yours to turn. If you find one false, say at which input.
  Laid BY PROGRAM, IN A SANDBOX (cutbox-rows.mjs): the forced cells as the released guide's own fill.sh prints them over the translation 0abb9bc39b0d7471… (all of the seat's roots in one cut). By AI agents, Wed Nov 11 2026. No macro, syntax, notation, axiom, sorry.
-/
import Derived.Test.YticgcimcebdjlaaGreatChecked
import GoSem.Claim
import GoSem.ClaimJoined
import GoSem.ClaimMapViews
import Derived.JoinedTies
import Derived.KernelRfl
namespace Go.Proofs.YticgcimcebdjlaaGreat
/- THE CELL 'sum', in the pinned program and in every row, IS THE sha256 OF THE DUMP (.gsa) THAT YticgcimcebdjlaaGreatProg.lean LOADS. Nothing in Lean hashes anything: it is a label: what it is worth is what the hold of that sum in a sandbox is worth. -/
noncomputable def Tryz.pinned : Pinned := { name := "yticgcimcebdjlaagreat", sum := "0abb9bc39b0d7471f4435920ca51f82a8b101f4ab482d18ba4df03f327c6d18c", checked := Tryz.checked }
namespace Rows
def none {H : Type} : Left H := { results := [], args := [] }

/-- 'drayagelaw13.DetectOnce': WHATEVER THE INPUT: true; the input reads as it did. -/
def detectOnceSpec : ChangeSpec := { name := "detectOnce", fn := fun _ => fun
  | [d1, d2, d3] => { results := [.lit (.bool true)], args := [d1, d2, d3] }
  | _ => none }
def detectOnceRow : OpenClaim := { program := "yticgcimcebdjlaagreat", sum := "0abb9bc39b0d7471f4435920ca51f82a8b101f4ab482d18ba4df03f327c6d18c", func := "drayage/drayagelaw13.DetectOnce", spec := "detectOnce", unfollowed := true, recurses := true, plainKeys := false, apart := false }
def DetectOnceSaid : Prop := detectOnceRow.holds Tryz.pinned (OpenSpec.ofChange detectOnceSpec)

/-- ITS FALSE NEIGHBOUR: 'it returns false'. Refute it at one input. -/
def detectOnceWrong : ChangeSpec := { name := "detectOnce", fn := fun _ => fun
  | [d1, d2, d3] => { results := [.lit (.bool false)], args := [d1, d2, d3] }
  | _ => none }
def DetectOnceWrongFalsely : Prop := detectOnceRow.holds Tryz.pinned (OpenSpec.ofChange detectOnceWrong)

/-- 'drayagelaw13.DetectSafe': WHATEVER THE INPUT: true; the input reads as it did. -/
def detectSafeSpec : ChangeSpec := { name := "detectSafe", fn := fun _ => fun
  | [d1, d2] => { results := [.lit (.bool true)], args := [d1, d2] }
  | _ => none }
def detectSafeRow : OpenClaim := { program := "yticgcimcebdjlaagreat", sum := "0abb9bc39b0d7471f4435920ca51f82a8b101f4ab482d18ba4df03f327c6d18c", func := "drayage/drayagelaw13.DetectSafe", spec := "detectSafe", unfollowed := true, recurses := true, plainKeys := false, apart := false }
def DetectSafeSaid : Prop := detectSafeRow.holds Tryz.pinned (OpenSpec.ofChange detectSafeSpec)

/-- ITS FALSE NEIGHBOUR: 'it returns false'. Refute it at one input. -/
def detectSafeWrong : ChangeSpec := { name := "detectSafe", fn := fun _ => fun
  | [d1, d2] => { results := [.lit (.bool false)], args := [d1, d2] }
  | _ => none }
def DetectSafeWrongFalsely : Prop := detectSafeRow.holds Tryz.pinned (OpenSpec.ofChange detectSafeWrong)

/-- 'drayagelaw13.DetectHeat': WHATEVER THE INPUT: true; the input reads as it did. -/
def detectHeatSpec : ChangeSpec := { name := "detectHeat", fn := fun _ => fun
  | [d1, d2] => { results := [.lit (.bool true)], args := [d1, d2] }
  | _ => none }
def detectHeatRow : OpenClaim := { program := "yticgcimcebdjlaagreat", sum := "0abb9bc39b0d7471f4435920ca51f82a8b101f4ab482d18ba4df03f327c6d18c", func := "drayage/drayagelaw13.DetectHeat", spec := "detectHeat", unfollowed := true, recurses := true, plainKeys := false, apart := false }
def DetectHeatSaid : Prop := detectHeatRow.holds Tryz.pinned (OpenSpec.ofChange detectHeatSpec)

/-- ITS FALSE NEIGHBOUR: 'it returns false'. Refute it at one input. -/
def detectHeatWrong : ChangeSpec := { name := "detectHeat", fn := fun _ => fun
  | [d1, d2] => { results := [.lit (.bool false)], args := [d1, d2] }
  | _ => none }
def DetectHeatWrongFalsely : Prop := detectHeatRow.holds Tryz.pinned (OpenSpec.ofChange detectHeatWrong)

/-- 'drayagelaw14.FitKeeps': WHATEVER THE INPUT: true; the input reads as it did. -/
def fitKeepsSpec : ChangeSpec := { name := "fitKeeps", fn := fun _ => fun
  | [d1, d2, d3] => { results := [.lit (.bool true)], args := [d1, d2, d3] }
  | _ => none }
def fitKeepsRow : OpenClaim := { program := "yticgcimcebdjlaagreat", sum := "0abb9bc39b0d7471f4435920ca51f82a8b101f4ab482d18ba4df03f327c6d18c", func := "drayage/drayagelaw14.FitKeeps", spec := "fitKeeps", unfollowed := true, recurses := true, plainKeys := false, apart := false }
def FitKeepsSaid : Prop := fitKeepsRow.holds Tryz.pinned (OpenSpec.ofChange fitKeepsSpec)

/-- ITS FALSE NEIGHBOUR: 'it returns false'. Refute it at one input. -/
def fitKeepsWrong : ChangeSpec := { name := "fitKeeps", fn := fun _ => fun
  | [d1, d2, d3] => { results := [.lit (.bool false)], args := [d1, d2, d3] }
  | _ => none }
def FitKeepsWrongFalsely : Prop := fitKeepsRow.holds Tryz.pinned (OpenSpec.ofChange fitKeepsWrong)

/-- 'drayagelaw14.FitBest': WHATEVER THE INPUT: true; the input reads as it did. -/
def fitBestSpec : ChangeSpec := { name := "fitBest", fn := fun _ => fun
  | [d1, d2] => { results := [.lit (.bool true)], args := [d1, d2] }
  | _ => none }
def fitBestRow : OpenClaim := { program := "yticgcimcebdjlaagreat", sum := "0abb9bc39b0d7471f4435920ca51f82a8b101f4ab482d18ba4df03f327c6d18c", func := "drayage/drayagelaw14.FitBest", spec := "fitBest", unfollowed := true, recurses := true, plainKeys := false, apart := false }
def FitBestSaid : Prop := fitBestRow.holds Tryz.pinned (OpenSpec.ofChange fitBestSpec)

/-- ITS FALSE NEIGHBOUR: 'it returns false'. Refute it at one input. -/
def fitBestWrong : ChangeSpec := { name := "fitBest", fn := fun _ => fun
  | [d1, d2] => { results := [.lit (.bool false)], args := [d1, d2] }
  | _ => none }
def FitBestWrongFalsely : Prop := fitBestRow.holds Tryz.pinned (OpenSpec.ofChange fitBestWrong)

/-- 'drayagelaw14.FitNames': WHATEVER THE INPUT: true; the input reads as it did. -/
def fitNamesSpec : ChangeSpec := { name := "fitNames", fn := fun _ => fun
  | [] => { results := [.lit (.bool true)], args := [] }
  | _ => none }
def fitNamesRow : OpenClaim := { program := "yticgcimcebdjlaagreat", sum := "0abb9bc39b0d7471f4435920ca51f82a8b101f4ab482d18ba4df03f327c6d18c", func := "drayage/drayagelaw14.FitNames", spec := "fitNames", unfollowed := true, recurses := true, plainKeys := false, apart := false }
def FitNamesSaid : Prop := fitNamesRow.holds Tryz.pinned (OpenSpec.ofChange fitNamesSpec)

/-- ITS FALSE NEIGHBOUR: 'it returns false'. Refute it at one input. -/
def fitNamesWrong : ChangeSpec := { name := "fitNames", fn := fun _ => fun
  | [] => { results := [.lit (.bool false)], args := [] }
  | _ => none }
def FitNamesWrongFalsely : Prop := fitNamesRow.holds Tryz.pinned (OpenSpec.ofChange fitNamesWrong)

/- THE SECOND FORM. 'bulk': how many values and letters a reading holds, each counted each time it is reached (what is shared counts as often as it is met; a slice's spare places count too). A statement '..UptoSaid' is the law's where the arguments, and the package variables that the reading takes, are together of bulk at most 1048576: NARROWER than '..Said'. Prove '..Said' where nothing that the law and all that it calls make is longer than what came in: it says more and counts as full. Else prove '..UptoSaid'. A law counts once. -/
mutual
def uptoBulk {H : Type} : DataW H → Nat
  | .lit (.string bytes) => bytes.length + 1
  | .lit _ => 1
  | .nil => 1
  | .ptr d => uptoBulk d + 1
  | .slice elems spare => uptoBulkAll elems + uptoBulkAll spare + 1
  | .agg parts => uptoBulkAll parts + 1
  | .iface _ d => uptoBulk d + 1
  | .map entries => uptoBulkEntries entries + 1
  | .held _ => 1
def uptoBulkAll {H : Type} : List (DataW H) → Nat
  | [] => 0
  | d :: r => uptoBulk d + uptoBulkAll r
def uptoBulkEntries {H : Type} : List (Lit × DataW H) → Nat
  | [] => 0
  | x :: r => uptoBulkEntry x + uptoBulkEntries r
def uptoBulkEntry {H : Type} : Lit × DataW H → Nat
  | (.string bytes, d) => bytes.length + uptoBulk d + 1
  | (_, d) => uptoBulk d + 1
 end
def uptoSmall : (H : Type) → List (DataW H) → Bool := fun _ ds => decide (uptoBulkAll ds ≤ 1048576)
def OpenSpec.upto (s : _root_.Go.ChangeSpec) : _root_.Go.OpenSpec := { _root_.Go.OpenSpec.ofChange s with cond := some uptoSmall }

/-- 'drayagelaw13.DetectOnce', WHERE WHAT IT READS IS OF BULK AT MOST 1048576: true; the input reads as it did. -/
def detectOnceUptoRow : OpenClaim := { program := "yticgcimcebdjlaagreat", sum := "0abb9bc39b0d7471f4435920ca51f82a8b101f4ab482d18ba4df03f327c6d18c", func := "drayage/drayagelaw13.DetectOnce", spec := "detectOnce", unfollowed := true, recurses := true, plainKeys := false, apart := false, narrowed := true }
def DetectOnceUptoSaid : Prop := detectOnceUptoRow.holds Tryz.pinned (OpenSpec.upto detectOnceSpec)

/-- 'drayagelaw13.DetectSafe', WHERE WHAT IT READS IS OF BULK AT MOST 1048576: true; the input reads as it did. -/
def detectSafeUptoRow : OpenClaim := { program := "yticgcimcebdjlaagreat", sum := "0abb9bc39b0d7471f4435920ca51f82a8b101f4ab482d18ba4df03f327c6d18c", func := "drayage/drayagelaw13.DetectSafe", spec := "detectSafe", unfollowed := true, recurses := true, plainKeys := false, apart := false, narrowed := true }
def DetectSafeUptoSaid : Prop := detectSafeUptoRow.holds Tryz.pinned (OpenSpec.upto detectSafeSpec)

/-- 'drayagelaw13.DetectHeat', WHERE WHAT IT READS IS OF BULK AT MOST 1048576: true; the input reads as it did. -/
def detectHeatUptoRow : OpenClaim := { program := "yticgcimcebdjlaagreat", sum := "0abb9bc39b0d7471f4435920ca51f82a8b101f4ab482d18ba4df03f327c6d18c", func := "drayage/drayagelaw13.DetectHeat", spec := "detectHeat", unfollowed := true, recurses := true, plainKeys := false, apart := false, narrowed := true }
def DetectHeatUptoSaid : Prop := detectHeatUptoRow.holds Tryz.pinned (OpenSpec.upto detectHeatSpec)

/-- 'drayagelaw14.FitKeeps', WHERE WHAT IT READS IS OF BULK AT MOST 1048576: true; the input reads as it did. -/
def fitKeepsUptoRow : OpenClaim := { program := "yticgcimcebdjlaagreat", sum := "0abb9bc39b0d7471f4435920ca51f82a8b101f4ab482d18ba4df03f327c6d18c", func := "drayage/drayagelaw14.FitKeeps", spec := "fitKeeps", unfollowed := true, recurses := true, plainKeys := false, apart := false, narrowed := true }
def FitKeepsUptoSaid : Prop := fitKeepsUptoRow.holds Tryz.pinned (OpenSpec.upto fitKeepsSpec)

/-- 'drayagelaw14.FitBest', WHERE WHAT IT READS IS OF BULK AT MOST 1048576: true; the input reads as it did. -/
def fitBestUptoRow : OpenClaim := { program := "yticgcimcebdjlaagreat", sum := "0abb9bc39b0d7471f4435920ca51f82a8b101f4ab482d18ba4df03f327c6d18c", func := "drayage/drayagelaw14.FitBest", spec := "fitBest", unfollowed := true, recurses := true, plainKeys := false, apart := false, narrowed := true }
def FitBestUptoSaid : Prop := fitBestUptoRow.holds Tryz.pinned (OpenSpec.upto fitBestSpec)

/-- 'drayagelaw14.FitNames', WHERE WHAT IT READS IS OF BULK AT MOST 1048576: true; the input reads as it did. -/
def fitNamesUptoRow : OpenClaim := { program := "yticgcimcebdjlaagreat", sum := "0abb9bc39b0d7471f4435920ca51f82a8b101f4ab482d18ba4df03f327c6d18c", func := "drayage/drayagelaw14.FitNames", spec := "fitNames", unfollowed := true, recurses := true, plainKeys := false, apart := false, narrowed := true }
def FitNamesUptoSaid : Prop := fitNamesUptoRow.holds Tryz.pinned (OpenSpec.upto fitNamesSpec)

end Rows
end Go.Proofs.YticgcimcebdjlaaGreat
