/- What the functions that Minus, Times and Share hand to eachPlace answer at each place. Conditions: the rows that they hold lie in memory, and hold ints. -/
import Derived.Test.YtfnigiiocapceaaGreatVecEach
import Derived.Test.YtfnigiiocapceaaGreatTo
import Derived.Deep.RegionHeld3
namespace Go.Proofs.YtfnigiiocapceaaGreat.Qu
open Go.RowKit

end Go.Proofs.YtfnigiiocapceaaGreat.Qu
