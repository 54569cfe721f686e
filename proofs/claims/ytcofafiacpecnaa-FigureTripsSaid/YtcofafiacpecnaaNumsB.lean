/- Contracts of nums.Mul and of the document's: the product, or that there is none. -/
import Derived.Test.YtcofafiacpecnaaRows
import Derived.Test.YtcofafiacpecnaaNumsMath
import Derived.Test.YtcofafiacpecnaaNumsA
import Derived.Test.YtcofafiacpecnaaShelf
import Derived.WalkKit
import Derived.Lib.Hide
import Derived.WalkSpells
import Derived.WalkLawsBesides
namespace Go.Proofs.Ytcofafiacpecnaa
open Go.RowKit
set_option linter.unusedSimpArgs false
set_option linter.unusedVariables false

end Go.Proofs.Ytcofafiacpecnaa
