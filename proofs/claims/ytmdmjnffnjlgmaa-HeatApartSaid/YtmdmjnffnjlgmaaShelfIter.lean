/- The names of the library's sorts; no contract of theirs is wanted here. -/
import Derived.Shelf.SlIter.Nil
import Derived.Shelf.SortM.Plain
import Derived.Shelf.SortM.SortNone
import Derived.Test.YtmdmjnffnjlgmaaProg
namespace Go.Proofs
end Go.Proofs
