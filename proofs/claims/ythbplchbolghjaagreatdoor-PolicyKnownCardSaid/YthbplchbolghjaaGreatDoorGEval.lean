/- The chapter's examples, reckoned. No conditions. -/
import Derived.Test.YthbplchbolghjaaGreatDoorGPrintM
namespace Go.Proofs.YthbplchbolghjaaGreatDoor
open Go.RowKit

/-- The chapter's policy, and its text. -/
def polE : Pol := ⟨200, 0, 1000, 1000, 5, [[97]], 0, 2, false⟩
def txtE : List UInt8 := [108, 111, 119, 32, 50, 48, 37, 32, 48, 37, 10, 104, 105, 103, 104, 32, 49, 48, 48, 37, 32, 49, 48, 48, 37, 10, 111, 110, 32, 100, 111, 117, 98, 108, 101, 115, 32, 116, 97, 105, 110, 116, 115, 10, 100, 114, 97, 105, 110, 32, 97, 10, 116, 114, 105, 101, 115, 32, 50, 10]
theorem check_E : checkG polE = 0 := by decide +kernel
theorem print_E : printG polE = (txtE, 0) := by decide +kernel
theorem parse_E1 : (parseP txtE).2 = (0, 0, 0) := by decide +kernel
theorem parse_E2 : (parseP txtE).1.l0 = 200 ∧ (parseP txtE).1.l1 = 0 ∧ (parseP txtE).1.h0 = 1000 ∧ (parseP txtE).1.h1 = 1000 ∧ (parseP txtE).1.on = 5 ∧ (parseP txtE).1.drain = [[97]] ∧ (parseP txtE).1.mx = 0 ∧ (parseP txtE).1.tr = 2 ∧ (parseP txtE).1.rb = false := by decide +kernel
theorem parse_E : parseP txtE = (polE, 0, 0, 0) := by
  have h1 := parse_E1
  obtain ⟨a, b, c, d, e, f, g, h, i⟩ := parse_E2
  generalize parseP txtE = x at *
  obtain ⟨⟨l0, l1, h0, h1', on, dr, mx, tr, rb⟩, y⟩ := x
  simp only at *
  subst a b c d e f g h i h1
  rfl
theorem parse_W1 : (parseP [111, 110]).2 = (1, 1, 3) := by decide +kernel
theorem parse_W2 : (parseP [116, 114, 105, 101, 115, 32, 57]).2 = (0, 0, 60) := by decide +kernel
theorem parse_W3 : (parseP [111, 110, 32, 116, 97, 105, 110, 116, 115, 32, 100, 111, 117, 98, 108, 101, 115]).2 = (1, 11, 4) := by decide +kernel
theorem parse_W4 : (parseP [108, 111, 119, 32, 50, 48, 37, 32, 51, 48]).2 = (1, 9, 3) := by decide +kernel
end Go.Proofs.YthbplchbolghjaaGreatDoor
