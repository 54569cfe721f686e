/- Contracts of nums.Add, Sub and Size and of the document's, for every pair of numbers. -/
import Derived.Test.YtjokekohmncmkadRows
import Derived.Test.YtjokekohmncmkadNumsMath
import Derived.WalkKit
import Derived.WalkSpells
import Derived.WalkLawsBesides
namespace Go.Proofs.Ytjokekohmncmkad
open Go.RowKit

end Go.Proofs.Ytjokekohmncmkad
