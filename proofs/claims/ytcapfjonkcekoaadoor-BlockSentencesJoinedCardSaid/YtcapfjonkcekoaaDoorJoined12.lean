/- BlockSentencesJoined: the walk of the statement's text. -/
import Derived.Test.YtcapfjonkcekoaaDoorBlkQ
namespace Go.Proofs.YtcapfjonkcekoaaDoor
open Go.RowKit Go.MapKept
set_option maxRecDepth 100000
set_option linter.unusedSimpArgs false
set_option linter.unusedVariables false
theorem joinP_small (t : ByteArray) (h : t.size ≤ 2000) : (joinP (sentP t.data.toList)).length ≤ 1000000 := by
  have := flow_len t.data.toList
  rw [slen] at this; omega
set_option maxHeartbeats 4000000 in
theorem joined12 (s : ByteArray) (w : World) (hs : s.size ≤ maxLen) :
    Calls Tryd.prog 12 #[.string s] w fun x w' => x = .returned (.bool true) ∧ Below w.heap.size w w' := by
  have hsm := hs
  unfold maxLen at hsm
  go_enter Tryd.func12, Tryd.ntmps12
  go_wp2_with fail
  refine (sane_any w).mono ?_
  rintro x w1 ⟨rfl, b1⟩
  have B1 := Lib.hid b1
  clear b1
  go_wp2_with fail
  have hc : (s.extract 0 (min (s.size : Int) 2000).toNat).size ≤ 2000 := by simp; omega
  generalize s.extract 0 (min (s.size : Int) 2000).toNat = t at *
  refine (sents_any t w1 (by omega)).mono ?_
  rintro x w2 ⟨a, c, rfl, hrow, b2⟩
  have B2 := Lib.hid (bel2 B1.out b2)
  have I1 := Lib.hid (ss_of_own hrow rfl)
  have hj := joinP_small t (by omega)
  clear b2 hrow B1 hsm
  go_wp2_with fail
  refine (join36_any a c _ w2 I1.out (by omega)).mono ?_
  rintro x w3 ⟨rfl, b3⟩
  have B3 := Lib.hid (bel2 B2.out b3)
  have I2 := Lib.hid (I1.out.over b3)
  clear b3 I1 B2
  go_wp2_with fail
  refine (sents_any ⟨(joinP (sentP t.data.toList)).toArray⟩ w3 (by rw [mk_size']; omega)).mono ?_
  rintro x w4 ⟨a2, c2, rfl, hrow, b4⟩
  rw [show (⟨(joinP (sentP t.data.toList)).toArray⟩ : ByteArray).data.toList = joinP (sentP t.data.toList) from rfl, sents_again] at hrow ⊢
  have B4 := Lib.hid (bel2 B3.out b4)
  have I3 := Lib.hid (I2.out.over b4)
  have J1 := Lib.hid (ss_of_own hrow rfl)
  clear b4 hrow I2 B3
  go_wp2_with fail
  refine (samess_any a c _ a2 c2 _ w4 I3.out J1.out).mono ?_
  rintro x w5 ⟨rfl, b5⟩
  have B5 := Lib.hid (bel2 B4.out b5)
  clear b5
  go_wp2
  go_ret
  exact ⟨by simp, B5.out⟩
end Go.Proofs.YtcapfjonkcekoaaDoor
