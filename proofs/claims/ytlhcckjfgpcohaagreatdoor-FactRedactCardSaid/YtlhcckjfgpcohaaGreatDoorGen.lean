/- Small lemmas on endings and bytes. -/
import Derived.Test.YtlhcckjfgpcohaaGreatDoorProg
import Derived.RangeFuncNested
import Derived.RangeFuncBound
import Derived.RangeFuncCalls
import Derived.RangeFuncLeaves
import Derived.Shelf.Abstract
import Derived.Shelf.RegionOpen
import Derived.WalkKit
import Derived.OwnWalkIn
import Derived.TacticsInMore
import Derived.LoopNIn
import Derived.LoopIn
import Derived.Laws.BitsAllLaws
import Derived.Lib.Hide
namespace Go.Proofs.YtlhcckjfgpcohaaGreatDoor
open Go.RowKit Go.Shelf
theorem ret_int {k : IntKind} {a b : Int} (h : a = b) : Ending.returned (.int k a) = .returned (.int k b) := by rw [h]
theorem ret_bool {a b : Bool} (h : a = b) : Ending.returned (.bool a) = .returned (.bool b) := by rw [h]
theorem ret_ii {j k : IntKind} {a b c d : Int} (h : a = b) (h' : c = d) : Ending.returned (.tuple #[.int j a, .int k c]) = .returned (.tuple #[.int j b, .int k d]) := by rw [h, h']
theorem ret_iii {j k m : IntKind} {a b c d e f : Int} (h : a = b) (h' : c = d) (h'' : e = f) : Ending.returned (.tuple #[.int j a, .int k c, .int m e]) = .returned (.tuple #[.int j b, .int k d, .int m f]) := by rw [h, h', h'']
theorem extract_toList (s : ByteArray) (a b : Nat) : (s.extract a b).data.toList = (s.data.toList.drop a).take (b - a) := by
  simp [List.take_drop]
theorem ret_sii {k m : IntKind} {s t : ByteArray} {c d e f : Int} (h : s = t) (h' : c = d) (h'' : e = f) : Ending.returned (.tuple #[.string s, .int k c, .int m e]) = .returned (.tuple #[.string t, .int k d, .int m f]) := by rw [h, h', h'']
theorem bytes_ext {s t : ByteArray} (h : s.data.toList = t.data.toList) : s = t := by
  cases s; cases t; congr; exact Array.toList_inj.1 h
end Go.Proofs.YtlhcckjfgpcohaaGreatDoor
