/- A start for the witness of every row of this seat: the listed tables laid. -/
import Derived.Test.YtdhioalfgogcdaaGreatDoorFrame
import Derived.Deep.DeepHandedRow
import Derived.LaidMore
import Derived.Stop.Joined
import Derived.Lay
import Derived.LaidHandle
import Derived.MakeChecks
namespace Go.Proofs.YtdhioalfgogcdaaGreatDoor
set_option maxRecDepth 100000
def seatLaid : List (String × DataW Unit) := [("unicode/utf8.acceptRanges", Rows.laid_unicode_utf8_acceptRanges), ("unicode/utf8.first", Rows.laid_unicode_utf8_first)]
noncomputable def seatW (os : Os) : World := World.laidAll Tryz.prog os seatLaid
theorem seat_met (os : Os) (args : Array Value) : laidMetH Tryz.prog seatLaid ((seatW os).forCall (fun _ _ => 0) ⟨#[], args, []⟩).memory := by
  rw [MakeChecks.laidMetH_plain _ _ _ (by kernel_rfl)]; exact laidMet_laidAll _ (by kernel_rfl) (by kernel_rfl)
theorem seat_vars (os : Os) (args : Array Value) : ((seatW os).forCall (fun _ _ => 0) ⟨#[], args, []⟩).variablesB Tryz.prog = true := by kernel_rfl
theorem seat_rest (os : Os) (args : Array Value) : (((seatW os).forCall (fun _ _ => 0) ⟨#[], args, []⟩).heap.toList.drop Tryz.prog.globals.size).take ((begin Tryz.prog (fun _ _ => 0) default).world.heap.size - Tryz.prog.globals.size) =
      (begin Tryz.prog (fun _ _ => 0) default).world.heap.toList.drop Tryz.prog.globals.size := by kernel_rfl
end Go.Proofs.YtdhioalfgogcdaaGreatDoor
