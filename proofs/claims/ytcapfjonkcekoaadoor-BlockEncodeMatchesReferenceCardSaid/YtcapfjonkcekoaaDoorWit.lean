/- A start for the witness of every row of this seat: the listed tables laid. -/
import Derived.Test.YtcapfjonkcekoaaDoorFrame
import Derived.Deep.DeepHandedRow
import Derived.LaidMore
import Derived.Stop.Joined
import Derived.Lay
import Derived.LaidHandle
import Derived.MakeChecks
namespace Go.Proofs.YtcapfjonkcekoaaDoor
set_option maxRecDepth 100000
def seatLaid : List (String × DataW Unit) := [("unicode/utf8.acceptRanges", Rows.laid_unicode_utf8_acceptRanges), ("unicode/utf8.first", Rows.laid_unicode_utf8_first)]
noncomputable def seatW (os : Os) : World := World.laidAll Tryd.prog os seatLaid
theorem seat_met (os : Os) (args : Array Value) : laidMetH Tryd.prog seatLaid ((seatW os).forCall (fun _ _ => 0) ⟨#[], args, []⟩).memory := by
  rw [MakeChecks.laidMetH_plain _ _ _ (by kernel_rfl)]; exact laidMet_laidAll _ (by kernel_rfl) (by kernel_rfl)
theorem seat_vars (os : Os) (args : Array Value) : ((seatW os).forCall (fun _ _ => 0) ⟨#[], args, []⟩).variablesB Tryd.prog = true := by kernel_rfl
theorem seat_rest (os : Os) (args : Array Value) : (((seatW os).forCall (fun _ _ => 0) ⟨#[], args, []⟩).heap.toList.drop Tryd.prog.globals.size).take ((begin Tryd.prog (fun _ _ => 0) default).world.heap.size - Tryd.prog.globals.size) =
      (begin Tryd.prog (fun _ _ => 0) default).world.heap.toList.drop Tryd.prog.globals.size := by kernel_rfl
end Go.Proofs.YtcapfjonkcekoaaDoor
