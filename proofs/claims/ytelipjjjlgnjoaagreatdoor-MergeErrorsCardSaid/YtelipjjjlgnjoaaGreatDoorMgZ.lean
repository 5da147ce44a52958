import Derived.Test.YtelipjjjlgnjoaaGreatDoorMgY
import Derived.Test.YtelipjjjlgnjoaaGreatDoorMgR
namespace Go.Proofs.YtelipjjjlgnjoaaGreatDoor
open Go.RowKit Go.MapKept Go.Shelf
attribute [local go_sem] Oper.semAt_some
set_option maxRecDepth 100000
set_option linter.unusedSimpArgs false
set_option linter.unusedVariables false
set_option maxHeartbeats 16000000 in
theorem matches3 (a1 : Option Addr) (n1 c1 : Nat) (p : List BE) (a2 : Option Addr) (n2 c2 : Nat) (q : List BE) (a3 : Option Addr) (n3 c3 : Nat) (r : List BE) (w : World) (h1 : IsBlks w a1 n1 c1 p) (h2 : IsBlks w a2 n2 c2 q) (h3 : IsBlks w a3 n3 c3 r) :
    Calls Tryz.prog 3 #[.slice a1 n1 c1, .slice a2 n2 c2, .slice a3 n3 c3] w fun x w' => x = .returned (.bool true) ∧ Below w.heap.size w w' := by
  have H1 := Lib.hid h1
  have H2 := Lib.hid h2
  have H3 := Lib.hid h3
  clear h1 h2 h3
  go_enter Tryz.func3, Tryz.ntmps3
  go_wp2_with fail
  refine (sane_any w).mono ?_
  rintro x w1 ⟨rfl, b1⟩
  have B1 := Lib.hid b1
  clear b1
  go_wp2_with fail
  refine (short_any a1 n1 c1 p w1 (H1.out.over B1.out)).mono ?_
  rintro x w2 ⟨a1', c1', rfl, hi, b2⟩
  have B2 := Lib.hid (bel2 B1.out b2)
  have I1 := Lib.hid hi
  clear b2 hi B1 H1
  generalize shS p = P at *
  go_wp2_with fail
  refine (short_any a2 n2 c2 q w2 (H2.out.over B2.out)).mono ?_
  rintro x w3 ⟨a2', c2', rfl, hi, b2⟩
  have B3 := Lib.hid (bel2 B2.out b2)
  have I2 := Lib.hid hi
  have J1 := Lib.hid (I1.out.over b2)
  clear b2 hi B2 H2 I1
  generalize shS q = Q at *
  go_wp2_with fail
  refine (short_any a3 n3 c3 r w3 (H3.out.over B3.out)).mono ?_
  rintro x w4 ⟨a3', c3', rfl, hi, b2⟩
  have B4 := Lib.hid (bel2 B3.out b2)
  have K3 := Lib.hid hi
  have K1 := Lib.hid (J1.out.over b2)
  have K2 := Lib.hid (I2.out.over b2)
  clear b2 hi B3 H3 I2 J1
  generalize shS r = R at *
  go_wp2_with fail
  refine (merge_any _ _ _ P _ _ _ Q _ _ _ R _ (K1.out) (K2.out) (K3.out)).mono ?_
  rintro x v1 ⟨p1, d1, rs1, q1, m1, f1, rfl, hbl, hres, b⟩
  have D1 := Lib.hid b
  have X1 := Lib.hid (bel2 B4.out b)
  have E1 := Lib.hid hbl
  have R1 := Lib.hid (blks_of_own hres.own (fun e he => (hres.each e he).ok))
  have C1 := Lib.hid (ints_of_own hres.ints (mergeR_bd _ _ _))
  have L1 := Lib.hid (own_len hres.ints)
  clear b hbl hres
  go_wp2_with fail
  refine (refmerge_any _ _ _ P _ _ _ Q _ _ _ R _ (K1.out.over D1.out) (K2.out.over D1.out) (K3.out.over D1.out)).mono ?_
  rintro x v2 ⟨p2, d2, rs2, q2, m2, f2, rfl, hbl, hbk, hint, b⟩
  have D2 := Lib.hid b
  have X2 := Lib.hid (bel2 X1.out b)
  have E2 := Lib.hid hbl
  have R2 := Lib.hid hbk
  have C2 := Lib.hid hint
  clear b hbl hbk hint
  have S1 := Lib.hid (R1.out.over D2.out)
  have T1 := Lib.hid (C1.out.over D2.out)
  generalize mergeR (blks P) (blks Q) (blks R) = MA at *
  go_wp2_with fail
  refine (refsamel_any _ _ _ rs1 _ _ _ rs2 v2 S1.out R2.out).mono ?_
  rintro x v3 ⟨rfl, b⟩
  rw [show sL (blks rs1) (blks rs2) = true by rw [E1.out, E2.out]; exact sL_self _]
  have D3 := Lib.hid b
  have X3 := Lib.hid (bel2 X2.out b)
  clear b
  go_wp2_with fail
  refine (refints_any _ _ _ _ _ _ _ _ v3 (T1.out.over D3.out) (C2.out.over D3.out)).mono ?_
  rintro x v4 ⟨rfl, b⟩
  rw [show decide (MA.2.1 = MA.2.1) = true by simp]
  have X4 := Lib.hid (bel2 X3.out b)
  clear b
  go_wp2
  go_ret
  exact ⟨by simp, X4.out⟩
set_option maxHeartbeats 16000000 in
theorem errors5 (a1 : Option Addr) (n1 c1 : Nat) (p : List BE) (a2 : Option Addr) (n2 c2 : Nat) (q : List BE) (a3 : Option Addr) (n3 c3 : Nat) (r : List BE) (w : World) (h1 : IsBlks w a1 n1 c1 p) (h2 : IsBlks w a2 n2 c2 q) (h3 : IsBlks w a3 n3 c3 r) :
    Calls Tryz.prog 5 #[.slice a1 n1 c1, .slice a2 n2 c2, .slice a3 n3 c3] w fun x w' => x = .returned (.bool true) ∧ Below w.heap.size w w' := by
  have H1 := Lib.hid h1
  have H2 := Lib.hid h2
  have H3 := Lib.hid h3
  clear h1 h2 h3
  go_enter Tryz.func5, Tryz.ntmps5
  go_wp2_with fail
  refine (sane_any w).mono ?_
  rintro x w1 ⟨rfl, b1⟩
  have B1 := Lib.hid b1
  clear b1
  go_wp2_with fail
  refine (short_any a1 n1 c1 p w1 (H1.out.over B1.out)).mono ?_
  rintro x w2 ⟨a1', c1', rfl, hi, b2⟩
  have B2 := Lib.hid (bel2 B1.out b2)
  have I1 := Lib.hid hi
  clear b2 hi B1 H1
  generalize shS p = P at *
  go_wp2_with fail
  refine (short_any a2 n2 c2 q w2 (H2.out.over B2.out)).mono ?_
  rintro x w3 ⟨a2', c2', rfl, hi, b2⟩
  have B3 := Lib.hid (bel2 B2.out b2)
  have I2 := Lib.hid hi
  have J1 := Lib.hid (I1.out.over b2)
  clear b2 hi B2 H2 I1
  generalize shS q = Q at *
  go_wp2_with fail
  refine (short_any a3 n3 c3 r w3 (H3.out.over B3.out)).mono ?_
  rintro x w4 ⟨a3', c3', rfl, hi, b2⟩
  have B4 := Lib.hid (bel2 B3.out b2)
  have K3 := Lib.hid hi
  have K1 := Lib.hid (J1.out.over b2)
  have K2 := Lib.hid (I2.out.over b2)
  clear b2 hi B3 H3 I2 J1
  generalize shS r = R at *
  go_wp2_with fail
  refine (merge_any _ _ _ P _ _ _ Q _ _ _ R _ (K1.out) (K2.out) (K3.out)).mono ?_
  rintro x v1 ⟨p1, d1, rs1, q1, m1, f1, rfl, hbl, hres, b⟩
  have D1 := Lib.hid b
  have X1 := Lib.hid (bel2 B4.out b)
  have E1 := Lib.hid hbl
  have R1 := Lib.hid (blks_of_own hres.own (fun e he => (hres.each e he).ok))
  have C1 := Lib.hid (ints_of_own hres.ints (mergeR_bd _ _ _))
  have L1 := Lib.hid (own_len hres.ints)
  clear b hbl hres
  rcases mergeR_err (p := blks P) (a := blks Q) (b := blks R) with hx | hx
  · obtain ⟨hv, hc, hm⟩ := mergeR_ok hx
    obtain ⟨hp, hq, hr⟩ := v3_iff.1 hv
    have VM := Lib.hid (show vL (blks rs1) = true by rw [E1.out, hm]; exact mres_valid hv hc)
    rw [hx]
    clear hx hv hc hm
    go_wp2_with fail
    refine (vlist_any _ _ _ P v1 (K1.out.over D1.out)).mono ?_
    rintro x u1 ⟨rfl, b⟩
    rw [hp]
    have N1 := Lib.hid (bel2 D1.out b)
    have M1 := Lib.hid b
    clear b
    go_wp2_with fail
    refine (vlist_any _ _ _ Q u1 (K2.out.over N1.out)).mono ?_
    rintro x u2 ⟨rfl, b⟩
    rw [hq]
    have N2 := Lib.hid (bel2 N1.out b)
    have M2 := Lib.hid (bel2 M1.out b)
    clear b
    go_wp2_with fail
    refine (vlist_any _ _ _ R u2 (K3.out.over N2.out)).mono ?_
    rintro x u3 ⟨rfl, b⟩
    rw [hr]
    have N3 := Lib.hid (bel2 N2.out b)
    have M3 := Lib.hid (bel2 M2.out b)
    clear b hp hq hr
    go_wp2_with fail
    refine (vlist_any _ _ _ rs1 u3 (R1.out.over M3.out)).mono ?_
    rintro x u4 ⟨rfl, b⟩
    rw [VM.out]
    have N4 := Lib.hid (bel2 B4.out (bel2 N3.out b))
    clear b
    go_wp2
    go_ret
    exact ⟨rfl, N4.out⟩
  · have hln := L1.out
    have h1l : rs1.length = 0 := by have h := E1.out; rw [hx] at h; simpa [blks] using h
    rw [hx] at hln
    obtain rfl : m1 = 0 := by simpa using hln.symm
    have E40 := Lib.hid (show (mergeR (blks P) (blks Q) (blks R)).2.2 = 40 by rw [hx])
    rw [E40.out]
    rw [h1l]
    clear hln hx h1l
    go_wp2_with fail
    refine (vlist_any _ _ _ P v1 (K1.out.over D1.out)).mono ?_
    rintro x u1 ⟨rfl, b⟩
    have N1 := Lib.hid (bel2 D1.out b)
    clear b
    cases hp : vL (blks P)
    · clear hp
      go_wp2_with fail
      refine (refmerge_any _ _ _ P _ _ _ Q _ _ _ R u1 (K1.out.over N1.out) (K2.out.over N1.out) (K3.out.over N1.out)).mono ?_
      rintro x v2 ⟨p2, d2, rs2, q2, m2, f2, rfl, hbl, hbk, hint, b⟩
      rw [E40.out]
      have X2 := Lib.hid (bel2 (bel2 B4.out N1.out) b)
      clear b hbl hbk hint
      go_wp2
      go_ret
      exact ⟨rfl, X2.out⟩
    · clear hp
      go_wp2_with fail
      refine (vlist_any _ _ _ Q u1 (K2.out.over N1.out)).mono ?_
      rintro x u2 ⟨rfl, b⟩
      have N2 := Lib.hid (bel2 N1.out b)
      clear b
      cases hq : vL (blks Q)
      · clear hq
        go_wp2_with fail
        refine (refmerge_any _ _ _ P _ _ _ Q _ _ _ R u2 (K1.out.over N2.out) (K2.out.over N2.out) (K3.out.over N2.out)).mono ?_
        rintro x v2 ⟨p2, d2, rs2, q2, m2, f2, rfl, hbl, hbk, hint, b⟩
        rw [E40.out]
        have X2 := Lib.hid (bel2 (bel2 B4.out N2.out) b)
        clear b hbl hbk hint
        go_wp2
        go_ret
        exact ⟨rfl, X2.out⟩
      · clear hq
        go_wp2_with fail
        refine (vlist_any _ _ _ R u2 (K3.out.over N2.out)).mono ?_
        rintro x u3 ⟨rfl, b⟩
        have N3 := Lib.hid (bel2 N2.out b)
        clear b
        cases hr : vL (blks R)
        · clear hr
          go_wp2_with fail
          refine (refmerge_any _ _ _ P _ _ _ Q _ _ _ R u3 (K1.out.over N3.out) (K2.out.over N3.out) (K3.out.over N3.out)).mono ?_
          rintro x v2 ⟨p2, d2, rs2, q2, m2, f2, rfl, hbl, hbk, hint, b⟩
          rw [E40.out]
          have X2 := Lib.hid (bel2 (bel2 B4.out N3.out) b)
          clear b hbl hbk hint
          go_wp2
          go_ret
          exact ⟨rfl, X2.out⟩
        · clear hr
          go_wp2_with fail
          refine (refmerge_any _ _ _ P _ _ _ Q _ _ _ R u3 (K1.out.over N3.out) (K2.out.over N3.out) (K3.out.over N3.out)).mono ?_
          rintro x v2 ⟨p2, d2, rs2, q2, m2, f2, rfl, hbl, hbk, hint, b⟩
          rw [E40.out]
          have X2 := Lib.hid (bel2 (bel2 B4.out N3.out) b)
          clear b hbl hbk hint
          go_wp2
          go_ret
          exact ⟨rfl, X2.out⟩
end Go.Proofs.YtelipjjjlgnjoaaGreatDoor
