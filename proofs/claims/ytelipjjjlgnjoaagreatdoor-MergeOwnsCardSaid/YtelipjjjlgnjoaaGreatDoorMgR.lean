import Derived.Test.YtelipjjjlgnjoaaGreatDoorMgQ
namespace Go.Proofs.YtelipjjjlgnjoaaGreatDoor
open Go.RowKit Go.MapKept Go.Shelf
attribute [local go_sem] Oper.semAt_some
set_option maxRecDepth 100000
set_option linter.unusedSimpArgs false
set_option linter.unusedVariables false
theorem mergeR_bd (p a b : List Blk) : ∀ z ∈ (mergeR p a b).2.1, Bd z := by
  intro z hz
  rcases mergeR_err (p := p) (a := a) (b := b) with h | h
  · rw [(mergeR_ok h).2.2] at hz
    have := (mem_iota).1 (List.mem_filter.1 hz).1
    unfold Bd; omega
  · rw [h] at hz; cases hz
set_option maxHeartbeats 16000000 in
theorem exchanged8 (a1 : Option Addr) (n1 c1 : Nat) (p : List BE) (a2 : Option Addr) (n2 c2 : Nat) (q : List BE) (a3 : Option Addr) (n3 c3 : Nat) (r : List BE) (w : World) (h1 : IsBlks w a1 n1 c1 p) (h2 : IsBlks w a2 n2 c2 q) (h3 : IsBlks w a3 n3 c3 r) :
    Calls Tryz.prog 8 #[.slice a1 n1 c1, .slice a2 n2 c2, .slice a3 n3 c3] w fun x w' => x = .returned (.bool true) ∧ Below w.heap.size w w' := by
  have H1 := Lib.hid h1
  have H2 := Lib.hid h2
  have H3 := Lib.hid h3
  clear h1 h2 h3
  go_enter Tryz.func8, Tryz.ntmps8
  go_wp2_with fail
  refine (sane_any w).mono ?_
  rintro x w1 ⟨rfl, b1⟩
  have B1 := Lib.hid b1
  clear b1
  go_wp2_with fail
  refine (short_any a1 n1 c1 p w1 (H1.out.over B1.out)).mono ?_
  rintro x w2 ⟨a1', c1', rfl, hi, b2⟩
  have B2 := Lib.hid (bel2 B1.out b2)
  have I1 := Lib.hid hi
  clear b2 hi B1 H1
  generalize shS p = P at *
  go_wp2_with fail
  refine (short_any a2 n2 c2 q w2 (H2.out.over B2.out)).mono ?_
  rintro x w3 ⟨a2', c2', rfl, hi, b2⟩
  have B3 := Lib.hid (bel2 B2.out b2)
  have I2 := Lib.hid hi
  have J1 := Lib.hid (I1.out.over b2)
  clear b2 hi B2 H2 I1
  generalize shS q = Q at *
  go_wp2_with fail
  refine (short_any a3 n3 c3 r w3 (H3.out.over B3.out)).mono ?_
  rintro x w4 ⟨a3', c3', rfl, hi, b2⟩
  have B4 := Lib.hid (bel2 B3.out b2)
  have K3 := Lib.hid hi
  have K1 := Lib.hid (J1.out.over b2)
  have K2 := Lib.hid (I2.out.over b2)
  clear b2 hi B3 H3 I2 J1
  generalize shS r = R at *
  go_wp2_with fail
  refine (merge_any _ _ _ P _ _ _ Q _ _ _ R _ (K1.out) (K2.out) (K3.out)).mono ?_
  rintro x v1 ⟨p1, d1, rs1, q1, m1, f1, rfl, hbl, hres, b⟩
  have D1 := Lib.hid b
  have X1 := Lib.hid (bel2 B4.out b)
  have E1 := Lib.hid hbl
  have R1 := Lib.hid (blks_of_own hres.own (fun e he => (hres.each e he).ok))
  have C1 := Lib.hid (ints_of_own hres.ints (mergeR_bd _ _ _))
  have L1 := Lib.hid (own_len hres.ints)
  clear b hbl hres
  go_wp2_with fail
  refine (merge_any _ _ _ P _ _ _ R _ _ _ Q _ (K1.out.over D1.out) (K3.out.over D1.out) (K2.out.over D1.out)).mono ?_
  rintro x v2 ⟨p2, d2, rs2, q2, m2, f2, rfl, hbl, hres, b⟩
  have D2 := Lib.hid b
  have X2 := Lib.hid (bel2 X1.out b)
  have E2 := Lib.hid hbl
  have R2 := Lib.hid (blks_of_own hres.own (fun e he => (hres.each e he).ok))
  have C2 := Lib.hid (ints_of_own hres.ints (mergeR_bd _ _ _))
  have L2 := Lib.hid (own_len hres.ints)
  clear b hbl hres
  have hx := mexchanged (p := blks P) (a := blks Q) (b := blks R)
  have S1 := Lib.hid (R1.out.over D2.out)
  have T1 := Lib.hid (C1.out.over D2.out)
  generalize mergeR (blks P) (blks Q) (blks R) = MA at *
  generalize mergeR (blks P) (blks R) (blks Q) = MB at *
  obtain ⟨hx1, hx2⟩ := hx
  rw [hx1]
  have HX := Lib.hid hx2
  have HC := Lib.hid (show MA.2.1 = MB.2.1 by rw [hx1])
  clear hx1 hx2
  go_wp2_with fail
  refine (refints_any _ _ _ _ _ _ _ _ v2 T1.out C2.out).mono ?_
  rintro x v3 ⟨rfl, b⟩
  rw [show decide (MA.2.1 = MB.2.1) = true by rw [HC.out]; simp]
  have D3 := Lib.hid b
  have X3 := Lib.hid (bel2 X2.out b)
  clear b
  rcases Nat.eq_zero_or_pos m1 with h0 | h0
  · subst h0
    have HE := Lib.hid (show MA.2.1 = [] from List.eq_nil_of_length_eq_zero L1.out)
    go_wp2_with fail
    refine (alike_any _ _ _ rs1 _ _ _ rs2 v3 (S1.out.over D3.out) (R2.out.over D3.out)).mono ?_
    rintro x v4 ⟨rfl, b⟩
    have hf : ∀ i, fnd (blks rs1) i = fnd (blks rs2) i := by intro i; rw [E1.out, E2.out]; exact HX.out HE.out i
    rw [show (inS (blks rs1) (blks rs2) && inS (blks rs2) (blks rs1)) = true by rw [inS_of hf, inS_of (fun i => (hf i).symm)]; rfl]
    have X4 := Lib.hid (bel2 X3.out b)
    clear b hf
    go_wp2
    go_ret
    exact ⟨rfl, X4.out⟩
  · have g1 : (0 : Int) < m1 := by omega
    go_wp2
    go_ret
    exact ⟨rfl, X3.out⟩
end Go.Proofs.YtelipjjjlgnjoaaGreatDoor
