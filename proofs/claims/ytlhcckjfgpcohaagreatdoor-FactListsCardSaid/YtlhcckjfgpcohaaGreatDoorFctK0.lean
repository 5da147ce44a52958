/- Package fact: Same. -/
import Derived.Test.YtlhcckjfgpcohaaGreatDoorFctJ
import Derived.Test.YtlhcckjfgpcohaaGreatDoorShelf
namespace Go.Proofs.YtlhcckjfgpcohaaGreatDoor
open Go.RowKit
set_option maxRecDepth 100000
set_option linter.unusedSimpArgs false
set_option linter.unusedVariables false
theorem two_below (w : World) (o1 o2 : Obj) : Below w.heap.size w ((w.alloc o1).alloc o2) := (below_alloc w o1).alloc (by simp) _
end Go.Proofs.YtlhcckjfgpcohaaGreatDoor
