/- Words that the proofs of this seat share: what a row of numbers in memory is, what a block is, and what the checked sums come to in plain numbers. No conditions. -/
import Derived.Test.YtfnigiiocapceaaGreatChecked
import Derived.WalkKit
import Derived.Below
import Derived.Outline
import Derived.Lib.Hide
import Derived.Deep.DeepFit
import Derived.BigQuiet
import Derived.Deep.QuietTactic
import Derived.Deep.Draws
import Derived.Laws.Rows
import Derived.Laws.OwnMore
import Derived.IntWalk
namespace Go.Proofs.YtfnigiiocapceaaGreat.Qu
open Go.RowKit

/-- The most that a quantity may be. -/
def top : Int := 1099511627776

/-- A slice at A holds these numbers. -/
def RowOf (w : World) (A : Option Addr) (l : List Int) : Prop :=
  ∀ k x, l[k]? = some x → ∃ b o, A = some ⟨b, o, none⟩ ∧ w.cell? ⟨b, o + k, none⟩ = some (.int .i64 x)

theorem RowOf.nil (w : World) (A : Option Addr) : RowOf w A [] := fun k x h => by simp at h

/-- What the look at the arguments answers. -/
def checkL (l : List Int) : Int := if ∃ x ∈ l, x < 0 then 2 else if ∃ x ∈ l, top < x then 10 else 0

theorem retI {k : IntKind} {a b : Int} (h : a = b) : Ending.returned (.int k a) = .returned (.int k b) := by rw [h]

theorem take_all_snoc {l : List Int} {k : Nat} {x : Int} {p : Int → Prop} (hk : l[k]? = some x) (h : ∀ y ∈ l.take k, p y) (hx : p x) : ∀ y ∈ l.take (k + 1), p y := by
  intro y hy
  rw [List.take_add_one, hk] at hy
  simp at hy
  rcases hy with hy | rfl
  · exact h y hy
  · exact hx

end Go.Proofs.YtfnigiiocapceaaGreat.Qu
