/- Contract of shuffle.Some, where there are as many numbers. -/
import Derived.Test.YteebeiflipfbkaaRows
import Derived.Test.YteebeiflipfbkaaRowKit
import Derived.Test.YteebeiflipfbkaaSlicesEq
import Derived.Test.YteebeiflipfbkaaSlicesEqM
import Derived.Test.YteebeiflipfbkaaRowL
import Derived.Test.YteebeiflipfbkaaMakeI
import Derived.Test.YteebeiflipfbkaaBlocks
import Derived.Test.YteebeiflipfbkaaWordsA
import Derived.Test.YteebeiflipfbkaaShufMath
import Derived.Test.YteebeiflipfbkaaShufA
import Derived.Test.YteebeiflipfbkaaShufB
import Derived.Test.YteebeiflipfbkaaShufD
import Derived.Test.YteebeiflipfbkaaShufE
import Derived.Test.YteebeiflipfbkaaShufF
import Derived.WalkKit
import Derived.IntWalk
import Derived.Lib.Hide
import Derived.Lib.SmallJoins
import Derived.WalkSpells
import Derived.WalkLawsBesides
import Derived.Laws.CopyOwn
import Derived.Laws.MakeOwn
import Derived.Laws.OwnMore
import Derived.OwnWalk
import Derived.Deep.QuietTactic
import Derived.Deep.RegionHeld3
import Derived.Deep.LoopGhost
import Derived.Deep.Onto
import Derived.BigQuiet
import Derived.BigRegion
namespace Go.Proofs.Yteebeiflipfbkaa
open Go.RowKit
set_option linter.unusedSimpArgs false
set_option linter.unusedVariables false
end Go.Proofs.Yteebeiflipfbkaa
