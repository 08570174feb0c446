/- The library's strings.Builder at this program: its copy check, WriteByte and WriteString: what is written stands behind what stood there. Condition: the builder is the call's own, and its bytes can lie in memory. -/
import Derived.Test.YtfnigiiocapceaaGreatLBase
import Derived.Test.YtfnigiiocapceaaGreatShelf
import Derived.Lib.Builder
import Derived.Lib.UnsafeStr
namespace Go.Proofs.YtfnigiiocapceaaGreat.La
open Go.RowKit

theorem info_byte : (Tryz.prog.info? 5).map (fun i => (i.zero, i.size, i.bytes)) = some (some (.int .u8 0), 1, 1) := by kernel_rfl
end Go.Proofs.YtfnigiiocapceaaGreat.La
