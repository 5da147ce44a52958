/- BlockSentencesMatchesReference: the walk of the statement's text. -/
import Derived.Test.YtcapfjonkcekoaaDoorRefSents
namespace Go.Proofs.YtcapfjonkcekoaaDoor
open Go.RowKit Go.MapKept
set_option maxRecDepth 100000
set_option linter.unusedSimpArgs false
set_option linter.unusedVariables false
set_option maxHeartbeats 4000000 in
theorem sentref6 (s : ByteArray) (w : World) (hs : s.size ≤ maxLen) :
    Calls Tryd.prog 6 #[.string s] w fun x w' => x = .returned (.bool true) ∧ Below w.heap.size w w' := by
  have hsm := hs
  unfold maxLen at hsm
  go_enter Tryd.func6, Tryd.ntmps6
  go_wp2_with fail
  refine (sane_any w).mono ?_
  rintro x w1 ⟨rfl, b1⟩
  have B1 := Lib.hid b1
  clear b1
  go_wp2_with fail
  have hc : (s.extract 0 (min (s.size : Int) 2000).toNat).size ≤ 2000 := by simp; omega
  generalize s.extract 0 (min (s.size : Int) 2000).toNat = t at *
  refine (sents_any t w1 (by omega)).mono ?_
  rintro x w2 ⟨a, c, rfl, hrow, b2⟩
  have B2 := Lib.hid (bel2 B1.out b2)
  have I1 := Lib.hid (ss_of_own hrow rfl)
  clear b2 hrow B1 hsm
  go_wp2_with fail
  refine (refsents_any t w2 (by omega)).mono ?_
  rintro x w3 ⟨a2, c2, rfl, hrow, b3⟩
  have B3 := Lib.hid (bel2 B2.out b3)
  have I2 := Lib.hid (I1.out.over b3)
  have J1 := Lib.hid (ss_of_own hrow rfl)
  clear b3 hrow I1 B2
  go_wp2_with fail
  refine (samess_any a c _ a2 c2 _ w3 I2.out J1.out).mono ?_
  rintro x w4 ⟨rfl, b4⟩
  have B4 := Lib.hid (bel2 B3.out b4)
  clear b4
  go_wp2
  go_ret
  exact ⟨by simp, B4.out⟩
end Go.Proofs.YtcapfjonkcekoaaDoor
