/- What the rows' list gives: the checksum's table holds its sixteen numbers. -/
import Derived.Test.YtpondhlijlbmfaaDoorRows
import Derived.Test.YtpondhlijlbmfaaDoorWireS
import Derived.Lib.LaidTab
namespace Go.Proofs.YtpondhlijlbmfaaDoor
open Go.RowKit
theorem gTab : Tryd.prog.globalNamed "copydesk/wire.sumTable" = some 0 := by kernel_rfl
theorem gTabType : (Tryd.prog.globals[0]?).map (·.type) = some 66 := by kernel_rfl
theorem tabCells : Tryd.prog.cellsOf 66 = 16 := by kernel_rfl
theorem u32Cells : Tryd.prog.cellsOf 43 = 1 := by kernel_rfl
theorem laid0 {W : World} (h : laidMetH Tryd.prog [("copydesk/wire.sumTable", Rows.laid_copydesk_wire_sumTable)] W) : Tab W := by
  have hT : Lib.TabIs Tryd.prog W "copydesk/wire.sumTable" .u32 tabL :=
    Lib.tabIs_of_head (rest := []) gTab gTabType Tryd.underlying66 Tryd.underlying43 u32Cells tabCells h
  intro i hi
  exact hT.cell gTab i hi
end Go.Proofs.YtpondhlijlbmfaaDoor
