/- The two tables of UTF-8 listed: what they give, and a world for the witness that holds them. No conditions of its own. -/
import Derived.Test.YtdiighpmgfbmaaaDoorLiftL
import Derived.Test.YtdiighpmgfbmaaaDoorSQuote
import Derived.Test.YtdiighpmgfbmaaaDoorCards
import Derived.Test.YtdiighpmgfbmaaaDoorTie
import Derived.Lib.LaidU8T
import Derived.Lib.LaidIn
import Derived.Deep.DeepWitnessRowRef
namespace Go.Proofs.YtdiighpmgfbmaaaDoor
open Go.ChangeShapes Go.WideShapes Go.ChangeAt Go.RowKit

theorem first_data : Rows.laid_unicode_utf8_first = Lib.firstData := by kernel_rfl
theorem accept_data : (Rows.laid_unicode_utf8_acceptRanges : DataW Unit) = Lib.acceptData := by kernel_rfl

theorem utab_of {W : World} (h : laidMetH Tryd.prog [("unicode/utf8.acceptRanges", Rows.laid_unicode_utf8_acceptRanges), ("unicode/utf8.first", Rows.laid_unicode_utf8_first)] W) : Utab W := by
  have h1 := h.filter (fun x => x.1 == "unicode/utf8.first")
  have e1 : ([("unicode/utf8.acceptRanges", Rows.laid_unicode_utf8_acceptRanges), ("unicode/utf8.first", Rows.laid_unicode_utf8_first)].filter (fun x => x.1 == "unicode/utf8.first")) = [("unicode/utf8.first", Lib.firstData)] := by
    rw [← first_data]
    rfl
  rw [e1] at h1
  have h2 := h.filter (fun x => x.1 == "unicode/utf8.acceptRanges")
  have e2 : ([("unicode/utf8.acceptRanges", Rows.laid_unicode_utf8_acceptRanges), ("unicode/utf8.first", Rows.laid_unicode_utf8_first)].filter (fun x => x.1 == "unicode/utf8.acceptRanges")) = [("unicode/utf8.acceptRanges", Lib.acceptData)] := by
    rw [← accept_data]
    rfl
  rw [e2] at h2
  exact utf8Tabs_of_readsT (U8Types.of196 Tryd.lays196) ⟨by kernel_rfl, by kernel_rfl, by kernel_rfl, by kernel_rfl, by kernel_rfl, by kernel_rfl, by kernel_rfl⟩ (Lib.laidMet.reads (laidMetH_iff.1 h1).1 (.head _)) (Lib.laidMet.reads (laidMetH_iff.1 h2).1 (.head _))

/-- A variable's block with these cells. -/
def putCells (cs : Array Value) : Obj → Obj
  | .cells _ t frozen => .cells cs t frozen
  | o => o
/-- The settled world, with the two tables as their initialisers lay them. -/
noncomputable def laidWorldS (os : Os) : World :=
  { restWorld os with heap :=
      ((restWorld os).heap.modify 0 (putCells (Lib.firstTab.map fun z => Value.int .u8 z).toArray)).modify 1 (putCells ((List.range 16).flatMap fun i => [Value.int .u8 (Lib.accLo i), Value.int .u8 (Lib.accHi i)]).toArray) }

end Go.Proofs.YtdiighpmgfbmaaaDoor
