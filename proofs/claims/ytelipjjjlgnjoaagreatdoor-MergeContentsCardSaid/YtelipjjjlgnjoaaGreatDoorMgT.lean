import Derived.Test.YtelipjjjlgnjoaaGreatDoorMgR
namespace Go.Proofs.YtelipjjjlgnjoaaGreatDoor
open Go.RowKit Go.MapKept Go.Shelf
attribute [local go_sem] Oper.semAt_some
set_option maxRecDepth 100000
set_option linter.unusedSimpArgs false
set_option linter.unusedVariables false
set_option maxHeartbeats 16000000 in
theorem contents6 (a1 : Option Addr) (n1 c1 : Nat) (p : List BE) (a2 : Option Addr) (n2 c2 : Nat) (q : List BE) (a3 : Option Addr) (n3 c3 : Nat) (r : List BE) (w : World) (h1 : IsBlks w a1 n1 c1 p) (h2 : IsBlks w a2 n2 c2 q) (h3 : IsBlks w a3 n3 c3 r) :
    Calls Tryz.prog 6 #[.slice a1 n1 c1, .slice a2 n2 c2, .slice a3 n3 c3] w fun x w' => x = .returned (.bool true) ∧ Below w.heap.size w w' := by
  have H1 := Lib.hid h1
  have H2 := Lib.hid h2
  have H3 := Lib.hid h3
  clear h1 h2 h3
  go_enter Tryz.func6, Tryz.ntmps6
  go_wp2_with fail
  refine (sane_any w).mono ?_
  rintro x w1 ⟨rfl, b1⟩
  have B1 := Lib.hid b1
  clear b1
  go_wp2_with fail
  refine (short_any a1 n1 c1 p w1 (H1.out.over B1.out)).mono ?_
  rintro x w2 ⟨a1', c1', rfl, hi, b2⟩
  have B2 := Lib.hid (bel2 B1.out b2)
  have I1 := Lib.hid hi
  clear b2 hi B1 H1
  generalize shS p = P at *
  go_wp2_with fail
  refine (short_any a2 n2 c2 q w2 (H2.out.over B2.out)).mono ?_
  rintro x w3 ⟨a2', c2', rfl, hi, b2⟩
  have B3 := Lib.hid (bel2 B2.out b2)
  have I2 := Lib.hid hi
  have J1 := Lib.hid (I1.out.over b2)
  clear b2 hi B2 H2 I1
  generalize shS q = Q at *
  go_wp2_with fail
  refine (short_any a3 n3 c3 r w3 (H3.out.over B3.out)).mono ?_
  rintro x w4 ⟨a3', c3', rfl, hi, b2⟩
  have B4 := Lib.hid (bel2 B3.out b2)
  have K3 := Lib.hid hi
  have K1 := Lib.hid (J1.out.over b2)
  have K2 := Lib.hid (I2.out.over b2)
  clear b2 hi B3 H3 I2 J1
  generalize shS r = R at *
  go_wp2_with fail
  refine (merge_any _ _ _ P _ _ _ Q _ _ _ R _ (K1.out) (K2.out) (K3.out)).mono ?_
  rintro x v1 ⟨p1, d1, rs1, q1, m1, f1, rfl, hbl, hres, b⟩
  have D1 := Lib.hid b
  have X1 := Lib.hid (bel2 B4.out b)
  have E1 := Lib.hid hbl
  have R1 := Lib.hid (blks_of_own hres.own (fun e he => (hres.each e he).ok))
  have C1 := Lib.hid (ints_of_own hres.ints (mergeR_bd _ _ _))
  have L1 := Lib.hid (own_len hres.ints)
  clear b hbl hres
  have hx := mergeR_err (p := blks P) (a := blks Q) (b := blks R)
  rcases hx with hx | hx
  · obtain ⟨hv, hc, hm⟩ := mergeR_ok hx
    have EM := Lib.hid (show ∀ i, fnd (blks rs1) i = mrg (blks P) (blks Q) (blks R) i by intro i; rw [E1.out, hm]; exact fnd_mres hv i)
    rw [hx]
    have G1 := Lib.hid (K1.out.over D1.out)
    have G2 := Lib.hid (K2.out.over D1.out)
    have G3 := Lib.hid (K3.out.over D1.out)
    clear hx hv hc hm
    go_wp2
    go_loopw [11, 12, 13, 14, 15] (fun i _ _ _ _ wr => ∃ k : Nat, 1 ≤ k ∧ k ≤ 1001 ∧ i = .int .i64 k ∧ Hid (Below v1.heap.size v1 wr)) (fun i _ _ _ _ _ => 1001 - (intOf i).toNat)
    case atStart => exact ⟨1, by omega, by omega, rfl, Lib.hid (Below.refl _ _)⟩
    case round =>
      obtain ⟨k, hk1, hk, rfl, hb⟩ := hrel
      by_cases hlt : k ≤ 1000
      · have hl2 : (k : Int) ≤ 1000 := by omega
        have MC := Lib.hid (mcontents (p := blks P) (a := blks Q) (b := blks R) (k : Int))
        rw [← EM.out (k : Int)] at MC
        go_wp2_with fail
        refine (equal_any20 _ _ _ rs1 _ _ _ Q _ _ (R1.out.over hb.out) (G2.out.over hb.out)).mono ?_
        rintro x u1 ⟨rfl, b⟩
        have U1 := Lib.hid (bel2 hb.out b)
        clear b
        go_wp2_with fail
        refine (equal_any20 _ _ _ rs1 _ _ _ R _ _ (R1.out.over U1.out) (G3.out.over U1.out)).mono ?_
        rintro x u2 ⟨rfl, b⟩
        have U2 := Lib.hid (bel2 U1.out b)
        clear b
        go_wp2_with fail
        refine (equal_any20 _ _ _ P _ _ _ Q _ _ (G1.out.over U2.out) (G2.out.over U2.out)).mono ?_
        rintro x u3 ⟨rfl, b⟩
        have U3 := Lib.hid (bel2 U2.out b)
        clear b
        go_wp2_with fail
        refine (equal_any20 _ _ _ P _ _ _ R _ _ (G1.out.over U3.out) (G3.out.over U3.out)).mono ?_
        rintro x u4 ⟨rfl, b⟩
        have U4 := Lib.hid (bel2 U3.out b)
        clear b
        have hm := MC.out
        have e1 := eqO_iff (fnd (blks rs1) (k : Int)) (fnd (blks Q) (k : Int))
        have e2 := eqO_iff (fnd (blks rs1) (k : Int)) (fnd (blks R) (k : Int))
        have e3 := eqO_iff (fnd (blks P) (k : Int)) (fnd (blks Q) (k : Int))
        have e4 := eqO_iff (fnd (blks P) (k : Int)) (fnd (blks R) (k : Int))
        rw [← e1, ← e2, ← e3, ← e4] at hm
        clear e1 e2 e3 e4 MC
        generalize eqO (fnd (blks rs1) (k : Int)) (fnd (blks Q) (k : Int)) = b1 at *
        generalize eqO (fnd (blks rs1) (k : Int)) (fnd (blks R) (k : Int)) = b2 at *
        generalize eqO (fnd (blks P) (k : Int)) (fnd (blks Q) (k : Int)) = b3 at *
        generalize eqO (fnd (blks P) (k : Int)) (fnd (blks R) (k : Int)) = b4 at *
        have HH : (b1 = true ∧ b2 = true ∧ b3 = true ∧ b4 = true) ∨ (b1 = true ∧ b2 = true ∧ b3 = true ∧ b4 = false) ∨ (b1 = true ∧ b2 = true ∧ b3 = false ∧ b4 = true) ∨ (b1 = true ∧ b2 = true ∧ b3 = false ∧ b4 = false) ∨ (b1 = true ∧ b2 = false ∧ b3 = false ∧ b4 = true) ∨ (b1 = true ∧ b2 = false ∧ b3 = false ∧ b4 = false) ∨ (b1 = false ∧ b2 = true ∧ b3 = true ∧ b4 = false) ∨ (b1 = false ∧ b2 = true ∧ b3 = false ∧ b4 = false) := by
          revert hm
          cases b1 <;> cases b2 <;> cases b3 <;> cases b4 <;> simp
        clear hm
        rcases HH with ⟨rfl, rfl, rfl, rfl⟩ | ⟨rfl, rfl, rfl, rfl⟩ | ⟨rfl, rfl, rfl, rfl⟩ | ⟨rfl, rfl, rfl, rfl⟩ | ⟨rfl, rfl, rfl, rfl⟩ | ⟨rfl, rfl, rfl, rfl⟩ | ⟨rfl, rfl, rfl, rfl⟩ | ⟨rfl, rfl, rfl, rfl⟩
        all_goals
          go_wp2
          go_roundw
          case rel => exact ⟨k + 1, by omega, by omega, by go_num, U4⟩
          case measure => simp [intOf]; omega
      · obtain rfl : k = 1001 := by omega
        go_wp2
        go_ret
        exact ⟨rfl, bel2 X1.out hb.out⟩
  · rw [show (mergeR (blks P) (blks Q) (blks R)).2.2 = 40 by rw [hx]]
    clear hx
    go_wp2
    go_ret
    exact ⟨rfl, X1.out⟩
end Go.Proofs.YtelipjjjlgnjoaaGreatDoor
