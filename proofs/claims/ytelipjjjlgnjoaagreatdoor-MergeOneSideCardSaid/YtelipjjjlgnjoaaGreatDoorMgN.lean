import Derived.Test.YtelipjjjlgnjoaaGreatDoorMgM
namespace Go.Proofs.YtelipjjjlgnjoaaGreatDoor
open Go.RowKit Go.MapKept Go.Shelf
attribute [local go_sem] Oper.semAt_some
set_option maxRecDepth 100000
set_option linter.unusedSimpArgs false
set_option linter.unusedVariables false
theorem mergeR_bad {p a b : List Blk} (h : v3 p a b = false) : mergeR p a b = ([], [], 40) := by unfold mergeR; rw [h]; rfl
set_option maxHeartbeats 16000000 in
theorem oneside4 (a1 : Option Addr) (n1 c1 : Nat) (p : List BE) (a2 : Option Addr) (n2 c2 : Nat) (q : List BE) (w : World) (h1 : IsBlks w a1 n1 c1 p) (h2 : IsBlks w a2 n2 c2 q) :
    Calls Tryz.prog 4 #[.slice a1 n1 c1, .slice a2 n2 c2] w fun x w' => x = .returned (.bool true) ∧ Below w.heap.size w w' := by
  have H1 := Lib.hid h1
  have H2 := Lib.hid h2
  clear h1 h2
  go_enter Tryz.func4, Tryz.ntmps4
  go_wp2_with fail
  refine (sane_any w).mono ?_
  rintro x w1 ⟨rfl, b1⟩
  have B1 := Lib.hid b1
  clear b1
  go_wp2_with fail
  refine (short_any a1 n1 c1 p w1 (H1.out.over B1.out)).mono ?_
  rintro x w2 ⟨a1', c1', rfl, hi, b2⟩
  have B2 := Lib.hid (bel2 B1.out b2)
  have I1 := Lib.hid hi
  clear b2 hi B1 H1
  generalize shS p = P at *
  go_wp2_with fail
  refine (short_any a2 n2 c2 q w2 (H2.out.over B2.out)).mono ?_
  rintro x w3 ⟨a2', c2', rfl, hi, b2⟩
  have B3 := Lib.hid (bel2 B2.out b2)
  have I2 := Lib.hid hi
  have J1 := Lib.hid (I1.out.over b2)
  clear b2 hi B2 H2 I1
  generalize shS q = Q at *
  go_wp2_with fail
  refine (vlist_any _ _ _ P w3 J1.out).mono ?_
  rintro x w4 ⟨rfl, b⟩
  have B4 := Lib.hid (bel2 B3.out b)
  have K1 := Lib.hid (J1.out.over b)
  have K2 := Lib.hid (I2.out.over b)
  clear b B3 J1 I2
  cases hp : vL (blks P)
  · have HV := Lib.hid hp
    clear hp
    have HM1 := Lib.hid (mergeR_bad (p := blks P) (a := blks Q) (b := blks Q) (by simp [v3, HV.out]))
    have HM2 := Lib.hid (mergeR_bad (p := blks P) (a := blks P) (b := blks Q) (by simp [v3, HV.out]))
    have HM3 := Lib.hid (mergeR_bad (p := blks P) (a := blks Q) (b := blks P) (by simp [v3, HV.out]))
    go_wp2_with fail
    go_loopw [7, 8, 9, 10] (fun i _ _ _ wr => ∃ k : Nat, k ≤ 3 ∧ i = .int .i64 k ∧ Hid (Below w4.heap.size w4 wr)) (fun i _ _ _ _ => 3 - (intOf i).toNat)
    case atStart => exact ⟨0, by omega, rfl, Lib.hid (Below.refl _ _)⟩
    case round =>
      obtain ⟨k, hk, rfl, hb⟩ := hrel
      obtain h0 | h0 | h0 | h0 : k = 0 ∨ k = 1 ∨ k = 2 ∨ k = 3 := by omega
      · subst h0
        go_wp2_with fail
        refine (merge_any _ _ _ P _ _ _ Q _ _ _ Q _ (K1.out.over hb.out) (K2.out.over hb.out) (K2.out.over hb.out)).mono ?_
        rintro x v1 ⟨p1, d1, rs1, q1, m1, f1, rfl, hbl, hres, b⟩
        have e1 : (mergeR (blks P) (blks Q) (blks Q)).2.2 = 40 := by rw [HM1.out]
        rw [HM1.out] at hbl hres
        obtain rfl : m1 = 0 := (own_len hres.ints).symm
        rw [e1]
        have X1 := Lib.hid (bel2 hb.out b)
        have E1 := Lib.hid (show blks rs1 = [] from hbl)
        have R1 := Lib.hid (blks_of_own hres.own (fun e he => (hres.each e he).ok))
        clear b hbl hres e1
        go_wp2_with fail
        go_roundw
        case rel => exact ⟨1, by omega, by go_num, X1⟩
        case measure => simp [intOf]
      · subst h0
        go_wp2_with fail
        refine (merge_any _ _ _ P _ _ _ Q _ _ _ Q _ (K1.out.over hb.out) (K2.out.over hb.out) (K2.out.over hb.out)).mono ?_
        rintro x v1 ⟨p1, d1, rs1, q1, m1, f1, rfl, hbl, hres, b⟩
        have e1 : (mergeR (blks P) (blks Q) (blks Q)).2.2 = 40 := by rw [HM1.out]
        rw [HM1.out] at hbl hres
        obtain rfl : m1 = 0 := (own_len hres.ints).symm
        rw [e1]
        have X1 := Lib.hid (bel2 hb.out b)
        have E1 := Lib.hid (show blks rs1 = [] from hbl)
        have R1 := Lib.hid (blks_of_own hres.own (fun e he => (hres.each e he).ok))
        clear b hbl hres e1
        go_wp2_with fail
        refine (merge_any _ _ _ P _ _ _ P _ _ _ Q _ (K1.out.over X1.out) (K1.out.over X1.out) (K2.out.over X1.out)).mono ?_
        rintro x v2 ⟨p2, d2, rs2, q2, m2, f2, rfl, hbl, hres, b⟩
        have e2 : (mergeR (blks P) (blks P) (blks Q)).2.2 = 40 := by rw [HM2.out]
        rw [HM2.out] at hbl hres
        obtain rfl : m2 = 0 := (own_len hres.ints).symm
        rw [e2]
        have X2 := Lib.hid (bel2 X1.out b)
        have E2 := Lib.hid (show blks rs2 = [] from hbl)
        have R2 := Lib.hid (blks_of_own hres.own (fun e he => (hres.each e he).ok))
        clear b hbl hres e2
        go_wp2_with fail
        go_roundw
        case rel => exact ⟨2, by omega, by go_num, X2⟩
        case measure => simp [intOf]
      · subst h0
        go_wp2_with fail
        refine (merge_any _ _ _ P _ _ _ Q _ _ _ Q _ (K1.out.over hb.out) (K2.out.over hb.out) (K2.out.over hb.out)).mono ?_
        rintro x v1 ⟨p1, d1, rs1, q1, m1, f1, rfl, hbl, hres, b⟩
        have e1 : (mergeR (blks P) (blks Q) (blks Q)).2.2 = 40 := by rw [HM1.out]
        rw [HM1.out] at hbl hres
        obtain rfl : m1 = 0 := (own_len hres.ints).symm
        rw [e1]
        have X1 := Lib.hid (bel2 hb.out b)
        have E1 := Lib.hid (show blks rs1 = [] from hbl)
        have R1 := Lib.hid (blks_of_own hres.own (fun e he => (hres.each e he).ok))
        clear b hbl hres e1
        go_wp2_with fail
        refine (merge_any _ _ _ P _ _ _ Q _ _ _ P _ (K1.out.over X1.out) (K2.out.over X1.out) (K1.out.over X1.out)).mono ?_
        rintro x v2 ⟨p2, d2, rs2, q2, m2, f2, rfl, hbl, hres, b⟩
        have e2 : (mergeR (blks P) (blks Q) (blks P)).2.2 = 40 := by rw [HM3.out]
        rw [HM3.out] at hbl hres
        obtain rfl : m2 = 0 := (own_len hres.ints).symm
        rw [e2]
        have X2 := Lib.hid (bel2 X1.out b)
        have E2 := Lib.hid (show blks rs2 = [] from hbl)
        have R2 := Lib.hid (blks_of_own hres.own (fun e he => (hres.each e he).ok))
        clear b hbl hres e2
        go_wp2_with fail
        go_roundw
        case rel => exact ⟨3, by omega, by go_num, X2⟩
        case measure => simp [intOf]
      · subst h0
        go_wp2
        go_ret
        exact ⟨rfl, bel2 B4.out hb.out⟩
  · have HP := Lib.hid hp
    clear hp
    go_wp2_with fail
    refine (vlist_any _ _ _ Q w4 K2.out).mono ?_
    rintro x w5 ⟨rfl, b⟩
    have B5 := Lib.hid (bel2 B4.out b)
    have K1n := Lib.hid (K1.out.over b)
    have K2n := Lib.hid (K2.out.over b)
    clear b B4 K1 K2
    have K1 := Lib.hid K1n.out
    have K2 := Lib.hid K2n.out
    clear K1n K2n
    cases hp : vL (blks Q)
    · have HV := Lib.hid hp
      clear hp
      have HM1 := Lib.hid (mergeR_bad (p := blks P) (a := blks Q) (b := blks Q) (by simp [v3, HV.out]))
      have HM2 := Lib.hid (mergeR_bad (p := blks P) (a := blks P) (b := blks Q) (by simp [v3, HV.out]))
      have HM3 := Lib.hid (mergeR_bad (p := blks P) (a := blks Q) (b := blks P) (by simp [v3, HV.out]))
      go_wp2_with fail
      go_loopw [7, 8, 9, 10] (fun i _ _ _ wr => ∃ k : Nat, k ≤ 3 ∧ i = .int .i64 k ∧ Hid (Below w5.heap.size w5 wr)) (fun i _ _ _ _ => 3 - (intOf i).toNat)
      case atStart => exact ⟨0, by omega, rfl, Lib.hid (Below.refl _ _)⟩
      case round =>
        obtain ⟨k, hk, rfl, hb⟩ := hrel
        obtain h0 | h0 | h0 | h0 : k = 0 ∨ k = 1 ∨ k = 2 ∨ k = 3 := by omega
        · subst h0
          go_wp2_with fail
          refine (merge_any _ _ _ P _ _ _ Q _ _ _ Q _ (K1.out.over hb.out) (K2.out.over hb.out) (K2.out.over hb.out)).mono ?_
          rintro x v1 ⟨p1, d1, rs1, q1, m1, f1, rfl, hbl, hres, b⟩
          have e1 : (mergeR (blks P) (blks Q) (blks Q)).2.2 = 40 := by rw [HM1.out]
          rw [HM1.out] at hbl hres
          obtain rfl : m1 = 0 := (own_len hres.ints).symm
          rw [e1]
          have X1 := Lib.hid (bel2 hb.out b)
          have E1 := Lib.hid (show blks rs1 = [] from hbl)
          have R1 := Lib.hid (blks_of_own hres.own (fun e he => (hres.each e he).ok))
          clear b hbl hres e1
          go_wp2_with fail
          go_roundw
          case rel => exact ⟨1, by omega, by go_num, X1⟩
          case measure => simp [intOf]
        · subst h0
          go_wp2_with fail
          refine (merge_any _ _ _ P _ _ _ Q _ _ _ Q _ (K1.out.over hb.out) (K2.out.over hb.out) (K2.out.over hb.out)).mono ?_
          rintro x v1 ⟨p1, d1, rs1, q1, m1, f1, rfl, hbl, hres, b⟩
          have e1 : (mergeR (blks P) (blks Q) (blks Q)).2.2 = 40 := by rw [HM1.out]
          rw [HM1.out] at hbl hres
          obtain rfl : m1 = 0 := (own_len hres.ints).symm
          rw [e1]
          have X1 := Lib.hid (bel2 hb.out b)
          have E1 := Lib.hid (show blks rs1 = [] from hbl)
          have R1 := Lib.hid (blks_of_own hres.own (fun e he => (hres.each e he).ok))
          clear b hbl hres e1
          go_wp2_with fail
          refine (merge_any _ _ _ P _ _ _ P _ _ _ Q _ (K1.out.over X1.out) (K1.out.over X1.out) (K2.out.over X1.out)).mono ?_
          rintro x v2 ⟨p2, d2, rs2, q2, m2, f2, rfl, hbl, hres, b⟩
          have e2 : (mergeR (blks P) (blks P) (blks Q)).2.2 = 40 := by rw [HM2.out]
          rw [HM2.out] at hbl hres
          obtain rfl : m2 = 0 := (own_len hres.ints).symm
          rw [e2]
          have X2 := Lib.hid (bel2 X1.out b)
          have E2 := Lib.hid (show blks rs2 = [] from hbl)
          have R2 := Lib.hid (blks_of_own hres.own (fun e he => (hres.each e he).ok))
          clear b hbl hres e2
          go_wp2_with fail
          go_roundw
          case rel => exact ⟨2, by omega, by go_num, X2⟩
          case measure => simp [intOf]
        · subst h0
          go_wp2_with fail
          refine (merge_any _ _ _ P _ _ _ Q _ _ _ Q _ (K1.out.over hb.out) (K2.out.over hb.out) (K2.out.over hb.out)).mono ?_
          rintro x v1 ⟨p1, d1, rs1, q1, m1, f1, rfl, hbl, hres, b⟩
          have e1 : (mergeR (blks P) (blks Q) (blks Q)).2.2 = 40 := by rw [HM1.out]
          rw [HM1.out] at hbl hres
          obtain rfl : m1 = 0 := (own_len hres.ints).symm
          rw [e1]
          have X1 := Lib.hid (bel2 hb.out b)
          have E1 := Lib.hid (show blks rs1 = [] from hbl)
          have R1 := Lib.hid (blks_of_own hres.own (fun e he => (hres.each e he).ok))
          clear b hbl hres e1
          go_wp2_with fail
          refine (merge_any _ _ _ P _ _ _ Q _ _ _ P _ (K1.out.over X1.out) (K2.out.over X1.out) (K1.out.over X1.out)).mono ?_
          rintro x v2 ⟨p2, d2, rs2, q2, m2, f2, rfl, hbl, hres, b⟩
          have e2 : (mergeR (blks P) (blks Q) (blks P)).2.2 = 40 := by rw [HM3.out]
          rw [HM3.out] at hbl hres
          obtain rfl : m2 = 0 := (own_len hres.ints).symm
          rw [e2]
          have X2 := Lib.hid (bel2 X1.out b)
          have E2 := Lib.hid (show blks rs2 = [] from hbl)
          have R2 := Lib.hid (blks_of_own hres.own (fun e he => (hres.each e he).ok))
          clear b hbl hres e2
          go_wp2_with fail
          go_roundw
          case rel => exact ⟨3, by omega, by go_num, X2⟩
          case measure => simp [intOf]
        · subst h0
          go_wp2
          go_ret
          exact ⟨rfl, bel2 B5.out hb.out⟩
    · have HV := Lib.hid hp
      clear hp
      have HM1 := Lib.hid (one_both HP.out HV.out)
      have HM2 := Lib.hid (one_b HP.out HV.out)
      have HM3 := Lib.hid (one_a HP.out HV.out)
      go_wp2_with fail
      go_loopw [7, 8, 9, 10] (fun i _ _ _ wr => ∃ k : Nat, k ≤ 3 ∧ i = .int .i64 k ∧ Hid (Below w5.heap.size w5 wr)) (fun i _ _ _ _ => 3 - (intOf i).toNat)
      case atStart => exact ⟨0, by omega, rfl, Lib.hid (Below.refl _ _)⟩
      case round =>
        obtain ⟨k, hk, rfl, hb⟩ := hrel
        obtain h0 | h0 | h0 | h0 : k = 0 ∨ k = 1 ∨ k = 2 ∨ k = 3 := by omega
        · subst h0
          go_wp2_with fail
          refine (merge_any _ _ _ P _ _ _ Q _ _ _ Q _ (K1.out.over hb.out) (K2.out.over hb.out) (K2.out.over hb.out)).mono ?_
          rintro x v1 ⟨p1, d1, rs1, q1, m1, f1, rfl, hbl, hres, b⟩
          have e1 : (mergeR (blks P) (blks Q) (blks Q)).2.2 = 0 := by rw [HM1.out]
          rw [HM1.out] at hbl hres
          obtain rfl : m1 = 0 := (own_len hres.ints).symm
          rw [e1]
          have X1 := Lib.hid (bel2 hb.out b)
          have E1 := Lib.hid (show blks rs1 = blks Q from hbl)
          have R1 := Lib.hid (blks_of_own hres.own (fun e he => (hres.each e he).ok))
          clear b hbl hres e1
          go_wp2_with fail
          refine (samel_any _ _ _ rs1 _ _ _ Q _ R1.out (K2.out.over X1.out)).mono ?_
          rintro x v3 ⟨rfl, b⟩
          have e3 : sL (blks rs1) (blks Q) = true := by rw [E1.out]; exact sL_self _
          rw [e3]
          have X3 := Lib.hid (bel2 X1.out b)
          clear b e3
          go_wp2
          go_roundw
          case rel => exact ⟨1, by omega, by go_num, X3⟩
          case measure => simp [intOf]
        · subst h0
          go_wp2_with fail
          refine (merge_any _ _ _ P _ _ _ Q _ _ _ Q _ (K1.out.over hb.out) (K2.out.over hb.out) (K2.out.over hb.out)).mono ?_
          rintro x v1 ⟨p1, d1, rs1, q1, m1, f1, rfl, hbl, hres, b⟩
          have e1 : (mergeR (blks P) (blks Q) (blks Q)).2.2 = 0 := by rw [HM1.out]
          rw [HM1.out] at hbl hres
          obtain rfl : m1 = 0 := (own_len hres.ints).symm
          rw [e1]
          have X1 := Lib.hid (bel2 hb.out b)
          have E1 := Lib.hid (show blks rs1 = blks Q from hbl)
          have R1 := Lib.hid (blks_of_own hres.own (fun e he => (hres.each e he).ok))
          clear b hbl hres e1
          go_wp2_with fail
          refine (merge_any _ _ _ P _ _ _ P _ _ _ Q _ (K1.out.over X1.out) (K1.out.over X1.out) (K2.out.over X1.out)).mono ?_
          rintro x v2 ⟨p2, d2, rs2, q2, m2, f2, rfl, hbl, hres, b⟩
          have e2 : (mergeR (blks P) (blks P) (blks Q)).2.2 = 0 := by rw [HM2.out]
          rw [HM2.out] at hbl hres
          obtain rfl : m2 = 0 := (own_len hres.ints).symm
          rw [e2]
          have X2 := Lib.hid (bel2 X1.out b)
          have E2 := Lib.hid (show blks rs2 = blks Q from hbl)
          have R2 := Lib.hid (blks_of_own hres.own (fun e he => (hres.each e he).ok))
          clear b hbl hres e2
          go_wp2_with fail
          refine (samel_any _ _ _ rs2 _ _ _ Q _ R2.out (K2.out.over X2.out)).mono ?_
          rintro x v3 ⟨rfl, b⟩
          have e3 : sL (blks rs2) (blks Q) = true := by rw [E2.out]; exact sL_self _
          rw [e3]
          have X3 := Lib.hid (bel2 X2.out b)
          clear b e3
          go_wp2
          go_roundw
          case rel => exact ⟨2, by omega, by go_num, X3⟩
          case measure => simp [intOf]
        · subst h0
          go_wp2_with fail
          refine (merge_any _ _ _ P _ _ _ Q _ _ _ Q _ (K1.out.over hb.out) (K2.out.over hb.out) (K2.out.over hb.out)).mono ?_
          rintro x v1 ⟨p1, d1, rs1, q1, m1, f1, rfl, hbl, hres, b⟩
          have e1 : (mergeR (blks P) (blks Q) (blks Q)).2.2 = 0 := by rw [HM1.out]
          rw [HM1.out] at hbl hres
          obtain rfl : m1 = 0 := (own_len hres.ints).symm
          rw [e1]
          have X1 := Lib.hid (bel2 hb.out b)
          have E1 := Lib.hid (show blks rs1 = blks Q from hbl)
          have R1 := Lib.hid (blks_of_own hres.own (fun e he => (hres.each e he).ok))
          clear b hbl hres e1
          go_wp2_with fail
          refine (merge_any _ _ _ P _ _ _ Q _ _ _ P _ (K1.out.over X1.out) (K2.out.over X1.out) (K1.out.over X1.out)).mono ?_
          rintro x v2 ⟨p2, d2, rs2, q2, m2, f2, rfl, hbl, hres, b⟩
          have e2 : (mergeR (blks P) (blks Q) (blks P)).2.2 = 0 := by rw [HM3.out]
          rw [HM3.out] at hbl hres
          obtain rfl : m2 = 0 := (own_len hres.ints).symm
          rw [e2]
          have X2 := Lib.hid (bel2 X1.out b)
          have E2 := Lib.hid (show blks rs2 = blks Q from hbl)
          have R2 := Lib.hid (blks_of_own hres.own (fun e he => (hres.each e he).ok))
          clear b hbl hres e2
          go_wp2_with fail
          refine (samel_any _ _ _ rs2 _ _ _ Q _ R2.out (K2.out.over X2.out)).mono ?_
          rintro x v3 ⟨rfl, b⟩
          have e3 : sL (blks rs2) (blks Q) = true := by rw [E2.out]; exact sL_self _
          rw [e3]
          have X3 := Lib.hid (bel2 X2.out b)
          clear b e3
          go_wp2
          go_roundw
          case rel => exact ⟨3, by omega, by go_num, X3⟩
          case measure => simp [intOf]
        · subst h0
          go_wp2
          go_ret
          exact ⟨rfl, bel2 B5.out hb.out⟩
end Go.Proofs.YtelipjjjlgnjoaaGreatDoor
