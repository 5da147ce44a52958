/- BlockRoundTrip: the walk of the statement's text. -/
import Derived.Test.YtcapfjonkcekoaaDoorBlkR
namespace Go.Proofs.YtcapfjonkcekoaaDoor
open Go.RowKit Go.MapKept
set_option maxRecDepth 100000
set_option linter.unusedSimpArgs false
set_option linter.unusedVariables false
set_option maxHeartbeats 4000000 in
theorem roundTrip8 (a : Option Addr) (n c : Nat) (es : List BE) (a2 : Option Addr) (n2 c2 : Nat) (fs : List BE) (w : World) (h : IsBlks w a n c es) (h2 : IsBlks w a2 n2 c2 fs) :
    Calls Tryd.prog 8 #[.slice a n c, .slice a2 n2 c2] w fun x w' => x = .returned (.bool true) ∧ Below w.heap.size w w' := by
  have H := Lib.hid h
  have H2 := Lib.hid h2
  clear h h2
  go_enter Tryd.func8, Tryd.ntmps8
  go_wp2_with fail
  refine (sane_any w).mono ?_
  rintro x w1 ⟨rfl, b1⟩
  have B1 := Lib.hid b1
  clear b1
  go_wp2_with fail
  refine (short_any a n c es w1 (H.out.over B1.out)).mono ?_
  rintro x w2 ⟨a', c', rfl, hi, b2⟩
  have B2 := Lib.hid (bel2 B1.out b2)
  have I1 := Lib.hid hi
  clear b2 hi
  go_wp2_with fail
  refine (short_any a2 n2 c2 fs w2 (H2.out.over B2.out)).mono ?_
  rintro x w3 ⟨a2', c2', rfl, hi, b3⟩
  have B3 := Lib.hid (bel2 B2.out b3)
  have I2 := Lib.hid hi
  have J1 := Lib.hid (I1.out.over b3)
  clear b3 hi I1 H H2 B1 B2
  generalize shS es = es at *
  generalize shS fs = fs at *
  go_wp2_with fail
  refine (encode_any a' _ c' es w3 J1.out).mono ?_
  rintro x w4 ⟨rfl, b4⟩
  have B4 := Lib.hid (bel2 B3.out b4)
  have J2 := Lib.hid (J1.out.over b4)
  have I3 := Lib.hid (I2.out.over b4)
  clear b4 J1 I2 B3
  go_wp2_with fail
  refine (encode_any a2' _ c2' fs w4 I3.out).mono ?_
  rintro x w5 ⟨rfl, b5⟩
  have B5 := Lib.hid (bel2 B4.out b5)
  have J3 := Lib.hid (J2.out.over b5)
  have I4 := Lib.hid (I3.out.over b5)
  clear b5 J2 I3 B4
  rcases encR_err (blks es) with ⟨e1, v1, t1⟩ | ⟨e1, v1, t1⟩
  · rw [e1, t1]
    go_wp2_with fail
    refine (vlist_any a' es.length c' es w5 J3.out).mono ?_
    rintro x w6 ⟨rfl, b6⟩
    rw [v1]
    have B6 := Lib.hid (bel2 B5.out b6)
    have J4 := Lib.hid (J3.out.over b6)
    have I5 := Lib.hid (I4.out.over b6)
    clear b6 J3 I4 B5
    go_wp2_with fail
    have hsz : (⟨(encL (blks es)).toArray⟩ : ByteArray).size ≤ maxLen := by have := encL_len v1; rw [mk_size']; unfold maxLen; omega
    refine (decode_any _ w6 hsz).mono ?_
    rintro x w7 ⟨ad, cd, ds, rfl, hd, hi, b7⟩
    have hde : decP (⟨(encL (blks es)).toArray⟩ : ByteArray).data.toList = (blks es, 0) := dec_enc v1
    rw [hde] at hd hi ⊢
    have B7 := Lib.hid (bel2 B6.out b7)
    have J5 := Lib.hid (J4.out.over b7)
    have I6 := Lib.hid (I5.out.over b7)
    have D1 := Lib.hid hi
    have HD := Lib.hid hd
    have V1 := Lib.hid v1
    clear b7 hd hi hde hsz J4 I5 B6 v1
    go_wp2_with fail
    refine (samel_any ad _ cd ds a' _ c' es w7 D1.out J5.out).mono ?_
    rintro x w8 ⟨rfl, b8⟩
    rw [HD.out, sL_self]
    have B8 := Lib.hid (bel2 B7.out b8)
    have J6 := Lib.hid (J5.out.over b8)
    have I7 := Lib.hid (I6.out.over b8)
    clear b8 J5 I6 B7 D1
    rcases encR_err (blks fs) with ⟨e2, v2, t2⟩ | ⟨e2, v2, t2⟩
    · rw [e2, t2]
      have V2 := Lib.hid v2
      clear v2
      go_wp2_with fail
      refine (samel_any a' _ c' es a2' _ c2' fs w8 J6.out I7.out).mono ?_
      rintro x w9 ⟨rfl, b9⟩
      have B9 := Lib.hid (bel2 B8.out b9)
      clear b9 J6 I7 B8
      have HS := Lib.hid (show ((encL (blks es)).toArray.toList = (encL (blks fs)).toArray.toList) ↔ sL (blks es) (blks fs) = true by
        rw [sL_iff]
        exact ⟨fun h => enc_inj_list V1.out V2.out (by simpa using h), fun h => by rw [h]⟩)
      go_wp2
      go_ret
      refine ⟨?_, B9.out⟩
      have hq : (encL (blks es) == encL (blks fs)) = sL (blks es) (blks fs) := by
        rw [Bool.eq_iff_iff, ← HS.out]; simp
      show Ending.returned (.bool ((encL (blks es) == encL (blks fs)) == sL (blks es) (blks fs))) = _
      rw [hq]; simp
    · rw [e2, t2]
      go_wp2
      go_ret
      exact ⟨rfl, B8.out⟩
  · rw [e1, t1]
    go_wp2_with fail
    refine (vlist_any a' es.length c' es w5 J3.out).mono ?_
    rintro x w6 ⟨rfl, b6⟩
    rw [v1]
    have B6 := Lib.hid (bel2 B5.out b6)
    clear b6 J3 I4 B5
    go_wp2
    go_ret
    exact ⟨rfl, B6.out⟩
end Go.Proofs.YtcapfjonkcekoaaDoor
