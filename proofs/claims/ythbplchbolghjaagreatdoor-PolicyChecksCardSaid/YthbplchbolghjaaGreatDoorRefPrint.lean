/- What the document's Print and PrintPercent answer, of every number: as the program's do. Condition: the library's table of powers of ten lies as it was laid. -/
import Derived.Test.YthbplchbolghjaaGreatDoorPrint
import Derived.LoopN
import Derived.RegionTactic
import Derived.Deep.RegionHeld3
namespace Go.Proofs.YthbplchbolghjaaGreatDoor.Qu
open Go.RowKit

theorem Tab.drew {w : World} (h : Tab w) : Tab w.drew := h

end Go.Proofs.YthbplchbolghjaaGreatDoor.Qu
