/- Contracts of nums.Add, Sub and Size and of the document's, for every pair of numbers. -/
import Derived.Test.YtcofafiacpecnaaRows
import Derived.Test.YtcofafiacpecnaaNumsMath
import Derived.WalkKit
import Derived.WalkSpells
import Derived.WalkLawsBesides
namespace Go.Proofs.Ytcofafiacpecnaa
open Go.RowKit

end Go.Proofs.Ytcofafiacpecnaa
