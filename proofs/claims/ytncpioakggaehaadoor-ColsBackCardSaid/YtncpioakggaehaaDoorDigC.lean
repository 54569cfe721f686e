/- Contracts of digits.plain, counted and Read. -/
import Derived.Test.YtncpioakggaehaaDoorRows
import Derived.Test.YtncpioakggaehaaDoorRowKit
import Derived.Test.YtncpioakggaehaaDoorShelf
import Derived.Test.YtncpioakggaehaaDoorNumsMath
import Derived.Test.YtncpioakggaehaaDoorNumsA
import Derived.Test.YtncpioakggaehaaDoorNumsB
import Derived.Test.YtncpioakggaehaaDoorDigMath
import Derived.WalkKit
import Derived.IntWalk
import Derived.Lib.Hide
import Derived.Lib.ItoaLen
import Derived.WalkSpells
import Derived.WalkLawsBesides
import Derived.Laws.IdiomStrings
import Derived.Deep.QuietTactic
import Derived.BigQuiet
namespace Go.Proofs.YtncpioakggaehaaDoor
open Go.RowKit
set_option linter.unusedSimpArgs false
set_option linter.unusedVariables false
end Go.Proofs.YtncpioakggaehaaDoor
