import Derived.Test.YtelipjjjlgnjoaaGreatDoorMgR
namespace Go.Proofs.YtelipjjjlgnjoaaGreatDoor
open Go.RowKit Go.MapKept Go.Shelf
attribute [local go_sem] Oper.semAt_some
set_option maxRecDepth 100000
set_option linter.unusedSimpArgs false
set_option linter.unusedVariables false
set_option maxHeartbeats 16000000 in
theorem again9 (a1 : Option Addr) (n1 c1 : Nat) (p : List BE) (a2 : Option Addr) (n2 c2 : Nat) (q : List BE) (a3 : Option Addr) (n3 c3 : Nat) (r : List BE) (w : World) (h1 : IsBlks w a1 n1 c1 p) (h2 : IsBlks w a2 n2 c2 q) (h3 : IsBlks w a3 n3 c3 r) :
    Calls Tryz.prog 9 #[.slice a1 n1 c1, .slice a2 n2 c2, .slice a3 n3 c3] w fun x w' => x = .returned (.bool true) ∧ Below w.heap.size w w' := by
  have H1 := Lib.hid h1
  have H2 := Lib.hid h2
  have H3 := Lib.hid h3
  clear h1 h2 h3
  go_enter Tryz.func9, Tryz.ntmps9
  go_wp2_with fail
  refine (sane_any w).mono ?_
  rintro x w1 ⟨rfl, b1⟩
  have B1 := Lib.hid b1
  clear b1
  go_wp2_with fail
  refine (short_any a1 n1 c1 p w1 (H1.out.over B1.out)).mono ?_
  rintro x w2 ⟨a1', c1', rfl, hi, b2⟩
  have B2 := Lib.hid (bel2 B1.out b2)
  have I1 := Lib.hid hi
  clear b2 hi B1 H1
  generalize shS p = P at *
  go_wp2_with fail
  refine (short_any a2 n2 c2 q w2 (H2.out.over B2.out)).mono ?_
  rintro x w3 ⟨a2', c2', rfl, hi, b2⟩
  have B3 := Lib.hid (bel2 B2.out b2)
  have I2 := Lib.hid hi
  have J1 := Lib.hid (I1.out.over b2)
  clear b2 hi B2 H2 I1
  generalize shS q = Q at *
  go_wp2_with fail
  refine (short_any a3 n3 c3 r w3 (H3.out.over B3.out)).mono ?_
  rintro x w4 ⟨a3', c3', rfl, hi, b2⟩
  have B4 := Lib.hid (bel2 B3.out b2)
  have K3 := Lib.hid hi
  have K1 := Lib.hid (J1.out.over b2)
  have K2 := Lib.hid (I2.out.over b2)
  clear b2 hi B3 H3 I2 J1
  generalize shS r = R at *
  go_wp2_with fail
  refine (merge_any _ _ _ P _ _ _ Q _ _ _ R _ (K1.out) (K2.out) (K3.out)).mono ?_
  rintro x v1 ⟨p1, d1, rs1, q1, m1, f1, rfl, hbl, hres, b⟩
  have D1 := Lib.hid b
  have X1 := Lib.hid (bel2 B4.out b)
  have E1 := Lib.hid hbl
  have R1 := Lib.hid (blks_of_own hres.own (fun e he => (hres.each e he).ok))
  have C1 := Lib.hid (ints_of_own hres.ints (mergeR_bd _ _ _))
  have L1 := Lib.hid (own_len hres.ints)
  clear b hbl hres
  have hx := mergeR_err (p := blks P) (a := blks Q) (b := blks R)
  rcases hx with hx | hx
  · obtain ⟨hv, hc, hm⟩ := mergeR_ok hx
    have AA := Lib.hid (again_a hv hc)
    have AB := Lib.hid (again_b hv hc)
    have EM := Lib.hid (show blks rs1 = mres (blks P) (blks Q) (blks R) by rw [E1.out, hm])
    rw [← EM.out] at AA AB
    rw [hx]
    clear hx hv hc hm
    go_wp2_with fail
    refine (merge_any _ _ _ P _ _ _ Q _ _ _ rs1 _ (K1.out.over D1.out) (K2.out.over D1.out) (R1.out)).mono ?_
    rintro x v2 ⟨p2, d2, rs2, q2, m2, f2, rfl, hbl, hres, b⟩
    have D2 := Lib.hid b
    have X2 := Lib.hid (bel2 X1.out b)
    have E2 := Lib.hid hbl
    have R2 := Lib.hid (blks_of_own hres.own (fun e he => (hres.each e he).ok))
    have C2 := Lib.hid (ints_of_own hres.ints (mergeR_bd _ _ _))
    have L2 := Lib.hid (own_len hres.ints)
    clear b hbl hres
    rw [AA.out.1]
    have S1 := Lib.hid (R1.out.over D2.out)
    have G1 := Lib.hid (K1.out.over (bel2 D1.out D2.out))
    have G3 := Lib.hid (K3.out.over (bel2 D1.out D2.out))
    go_wp2_with fail
    refine (merge_any _ _ _ P _ _ _ R _ _ _ rs1 _ (G1.out) (G3.out) (S1.out)).mono ?_
    rintro x v3 ⟨p3, d3, rs3, q3, m3, f3, rfl, hbl, hres, b⟩
    have D3 := Lib.hid b
    have X3 := Lib.hid (bel2 X2.out b)
    have E3 := Lib.hid hbl
    have R3 := Lib.hid (blks_of_own hres.own (fun e he => (hres.each e he).ok))
    have C3 := Lib.hid (ints_of_own hres.ints (mergeR_bd _ _ _))
    have L3 := Lib.hid (own_len hres.ints)
    clear b hbl hres
    rw [AB.out.1]
    have S2 := Lib.hid (S1.out.over D3.out)
    have S3 := Lib.hid (R2.out.over D3.out)
    go_wp2_with fail
    refine (alike_any _ _ _ rs1 _ _ _ rs2 v3 S2.out S3.out).mono ?_
    rintro x v4 ⟨rfl, b⟩
    have hf : ∀ i, fnd (blks rs1) i = fnd (blks rs2) i := by intro i; rw [E2.out]; exact (AA.out.2 i).symm
    rw [show (inS (blks rs1) (blks rs2) && inS (blks rs2) (blks rs1)) = true by rw [inS_of hf, inS_of (fun i => (hf i).symm)]; rfl]
    have D4 := Lib.hid b
    have X4 := Lib.hid (bel2 X3.out b)
    clear b hf
    go_wp2_with fail
    refine (alike_any _ _ _ rs1 _ _ _ rs3 v4 (S2.out.over D4.out) (R3.out.over D4.out)).mono ?_
    rintro x v5 ⟨rfl, b⟩
    have hf : ∀ i, fnd (blks rs1) i = fnd (blks rs3) i := by intro i; rw [E3.out]; exact (AB.out.2 i).symm
    rw [show (inS (blks rs1) (blks rs3) && inS (blks rs3) (blks rs1)) = true by rw [inS_of hf, inS_of (fun i => (hf i).symm)]; rfl]
    have X5 := Lib.hid (bel2 X4.out b)
    clear b hf
    go_wp2
    go_ret
    exact ⟨rfl, X5.out⟩
  · rw [show (mergeR (blks P) (blks Q) (blks R)).2.2 = 40 by rw [hx]]
    clear hx
    go_wp2
    go_ret
    exact ⟨rfl, X1.out⟩
set_option maxHeartbeats 16000000 in
theorem keeps10 (a1 : Option Addr) (n1 c1 : Nat) (p : List BE) (a2 : Option Addr) (n2 c2 : Nat) (q : List BE) (a3 : Option Addr) (n3 c3 : Nat) (r : List BE) (w : World) (h1 : IsBlks w a1 n1 c1 p) (h2 : IsBlks w a2 n2 c2 q) (h3 : IsBlks w a3 n3 c3 r) :
    Calls Tryz.prog 10 #[.slice a1 n1 c1, .slice a2 n2 c2, .slice a3 n3 c3] w fun x w' => x = .returned (.bool true) ∧ Below w.heap.size w w' := by
  have H1 := Lib.hid h1
  have H2 := Lib.hid h2
  have H3 := Lib.hid h3
  clear h1 h2 h3
  go_enter Tryz.func10, Tryz.ntmps10
  go_wp2_with fail
  refine (sane_any w).mono ?_
  rintro x w1 ⟨rfl, b1⟩
  have B1 := Lib.hid b1
  clear b1
  go_wp2_with fail
  refine (short_any a1 n1 c1 p w1 (H1.out.over B1.out)).mono ?_
  rintro x w2 ⟨a1', c1', rfl, hi, b2⟩
  have B2 := Lib.hid (bel2 B1.out b2)
  have I1 := Lib.hid hi
  clear b2 hi B1 H1
  generalize shS p = P at *
  go_wp2_with fail
  refine (short_any a2 n2 c2 q w2 (H2.out.over B2.out)).mono ?_
  rintro x w3 ⟨a2', c2', rfl, hi, b2⟩
  have B3 := Lib.hid (bel2 B2.out b2)
  have I2 := Lib.hid hi
  have J1 := Lib.hid (I1.out.over b2)
  clear b2 hi B2 H2 I1
  generalize shS q = Q at *
  go_wp2_with fail
  refine (short_any a3 n3 c3 r w3 (H3.out.over B3.out)).mono ?_
  rintro x w4 ⟨a3', c3', rfl, hi, b2⟩
  have B4 := Lib.hid (bel2 B3.out b2)
  have K3 := Lib.hid hi
  have K1 := Lib.hid (J1.out.over b2)
  have K2 := Lib.hid (I2.out.over b2)
  clear b2 hi B3 H3 I2 J1
  generalize shS r = R at *
  go_wp2_with fail
  refine (merge_any _ _ _ P _ _ _ Q _ _ _ R _ (K1.out) (K2.out) (K3.out)).mono ?_
  rintro x v1 ⟨p1, d1, rs1, q1, m1, f1, rfl, hbl, hres, b⟩
  have D1 := Lib.hid b
  have X1 := Lib.hid (bel2 B4.out b)
  have E1 := Lib.hid hbl
  have R1 := Lib.hid (blks_of_own hres.own (fun e he => (hres.each e he).ok))
  have C1 := Lib.hid (ints_of_own hres.ints (mergeR_bd _ _ _))
  have L1 := Lib.hid (own_len hres.ints)
  clear b hbl hres
  have hx := mergeR_err (p := blks P) (a := blks Q) (b := blks R)
  rcases hx with hx | hx
  · obtain ⟨hv, hc, hm⟩ := mergeR_ok hx
    have EM := Lib.hid (show bids (blks rs1) = mord (blks P) (blks Q) (blks R) by rw [E1.out, hm]; exact ids_mres hv)
    have MK := Lib.hid (mkeeps hv)
    rw [← EM.out] at MK
    rw [hx]
    clear hx hv hc hm
    go_wp2_with fail
    refine (ordered_any _ _ _ Q _ _ _ rs1 v1 (K2.out.over D1.out) R1.out).mono ?_
    rintro x v2 ⟨rfl, b⟩
    have D2 := Lib.hid (bel2 D1.out b)
    have S2 := Lib.hid (R1.out.over b)
    have X2 := Lib.hid (bel2 X1.out b)
    clear b
    go_wp2_with fail
    refine (ordered_any _ _ _ R _ _ _ rs1 v2 (K3.out.over D2.out) S2.out).mono ?_
    rintro x v3 ⟨rfl, b⟩
    have D3 := Lib.hid (bel2 D2.out b)
    have X3 := Lib.hid (bel2 X2.out b)
    clear b
    go_wp2_with fail
    refine (ordered_any _ _ _ Q _ _ _ R v3 (K2.out.over D3.out) (K3.out.over D3.out)).mono ?_
    rintro x v4 ⟨rfl, b⟩
    have D4 := Lib.hid (bel2 D3.out b)
    have X4 := Lib.hid (bel2 X3.out b)
    clear b
    go_wp2_with fail
    refine (ordered_any _ _ _ R _ _ _ P v4 (K3.out.over D4.out) (K1.out.over D4.out)).mono ?_
    rintro x v5 ⟨rfl, b⟩
    have X5 := Lib.hid (bel2 X4.out b)
    clear b
    have hm := MK.out
    generalize movI (bids (blks rs1)) (bids (blks Q)) = A at *
    generalize movI (bids (blks rs1)) (bids (blks R)) = B at *
    generalize movI (bids (blks R)) (bids (blks Q)) = C at *
    generalize movI (bids (blks P)) (bids (blks R)) = D at *
    clear MK
    obtain ⟨h1, h2, h3⟩ := hm
    have HH : (C = false ∧ A = false ∧ B = false) ∨ (C = true ∧ D = true ∧ B = false) ∨ (C = true ∧ D = false ∧ A = false) := by
      cases C
      · exact .inl ⟨rfl, (h1 rfl).1, (h1 rfl).2⟩
      · cases D
        · exact .inr (.inr ⟨rfl, rfl, h3 rfl⟩)
        · exact .inr (.inl ⟨rfl, rfl, h2 rfl⟩)
    clear h1 h2 h3
    rcases HH with ⟨rfl, rfl, rfl⟩ | ⟨rfl, rfl, rfl⟩ | ⟨rfl, rfl, rfl⟩
    · cases D
      all_goals
        go_wp2
        go_ret
        exact ⟨rfl, X5.out⟩
    · cases A
      all_goals
        go_wp2
        go_ret
        exact ⟨rfl, X5.out⟩
    · cases B
      all_goals
        go_wp2
        go_ret
        exact ⟨rfl, X5.out⟩
  · rw [show (mergeR (blks P) (blks Q) (blks R)).2.2 = 40 by rw [hx]]
    clear hx
    go_wp2
    go_ret
    exact ⟨rfl, X1.out⟩
end Go.Proofs.YtelipjjjlgnjoaaGreatDoor
