/- BlockEncodeMatchesReference. -/
import Derived.Test.YtcapfjonkcekoaaDoorRefEnc
import Derived.Test.YtcapfjonkcekoaaDoorBlkH
import Derived.Test.YtcapfjonkcekoaaDoorBlkSane
namespace Go.Proofs.YtcapfjonkcekoaaDoor
open Go.RowKit Go.MapKept
set_option maxRecDepth 100000
set_option linter.unusedSimpArgs false
set_option linter.unusedVariables false
set_option maxHeartbeats 4000000 in
theorem encref5 (a : Option Addr) (n c : Nat) (es : List BE) (w : World) (h : IsBlks w a n c es) :
    Calls Tryd.prog 5 #[.slice a n c] w fun x w' => x = .returned (.bool true) ∧ Below w.heap.size w w' := by
  have H := Lib.hid h
  clear h
  go_enter Tryd.func5, Tryd.ntmps5
  go_wp2_with fail
  refine (sane_any w).mono ?_
  rintro x w1 ⟨rfl, b1⟩
  have B1 := Lib.hid b1
  clear b1
  go_wp2_with fail
  refine (short_any a n c es w1 (H.out.over B1.out)).mono ?_
  rintro x w2 ⟨a', c', rfl, hi, b2⟩
  have B2 := Lib.hid (bel2 B1.out b2)
  have I1 := Lib.hid hi
  clear b2 hi B1 H
  generalize shS es = es at *
  have K1 := Lib.hid (encode_any a' _ c' es w2 I1.out)
  have K2 := Lib.hid (fun W (hW : Below w2.heap.size w2 W) => refencode_any a' _ c' es W (I1.out.over hW))
  generalize encR (blks es) = R at *
  obtain ⟨r1, r2⟩ := R
  dsimp only at K1 K2
  go_wp2_with fail
  refine K1.out.mono ?_
  rintro x w3 ⟨rfl, b3⟩
  have Q3 := Lib.hid b3
  clear b3
  go_wp2_with fail
  refine (K2.out _ Q3.out).mono ?_
  rintro x w4 ⟨rfl, b4⟩
  have B4 := Lib.hid (bel2 B2.out (bel2 Q3.out b4))
  clear b4
  go_wp2
  go_ret
  exact ⟨by simp, B4.out⟩
end Go.Proofs.YtcapfjonkcekoaaDoor
