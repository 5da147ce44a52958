import Derived.Test.YtelipjjjlgnjoaaGreatDoorMgR
namespace Go.Proofs.YtelipjjjlgnjoaaGreatDoor
open Go.RowKit Go.MapKept Go.Shelf
attribute [local go_sem] Oper.semAt_some
set_option maxRecDepth 100000
set_option linter.unusedSimpArgs false
set_option linter.unusedVariables false
theorem iota_at {k : Nat} (h : k < 1000) : iota[k]? = some ((k : Int) + 1) := by
  unfold iota; rw [List.getElem?_map, List.getElem?_range h]; rfl
theorem iota_take_succ {k : Nat} (h : k < 1000) : iota.take (k + 1) = iota.take k ++ [(k : Int) + 1] := take_snoc (iota_at h)
theorem conf_at (f : Int → Bool) {k : Nat} (h : k < 1000) (hf : f ((k : Int) + 1) = true) : (iota.filter f).getD ((iota.take k).filter f).length 0 = (k : Int) + 1 ∧ ((iota.take k).filter f).length < (iota.filter f).length := by
  have e : iota.filter f = (iota.take k).filter f ++ ((k : Int) + 1) :: (iota.drop (k + 1)).filter f := by
    conv => lhs; rw [← List.take_append_drop (k + 1) iota, iota_take_succ h]
    simp [hf]
  rw [e]
  refine ⟨?_, by simp⟩
  rw [List.getD_eq_getElem?_getD, List.getElem?_append_right (Nat.le_refl _)]
  simp
theorem filter_snoc_yes {f : Int → Bool} {k : Nat} (h : k < 1000) (hf : f ((k : Int) + 1) = true) : ((iota.take (k + 1)).filter f).length = ((iota.take k).filter f).length + 1 := by
  rw [iota_take_succ h, List.filter_append]; simp [hf]
theorem filter_snoc_no {f : Int → Bool} {k : Nat} (h : k < 1000) (hf : f ((k : Int) + 1) = false) : ((iota.take (k + 1)).filter f).length = ((iota.take k).filter f).length := by
  rw [iota_take_succ h, List.filter_append]; simp [hf]
theorem conf_has (f : Int → Bool) {k : Nat} (h : k < 1000) : (iota.filter f).contains ((k : Int) + 1) = f ((k : Int) + 1) := by
  have hm : ((k : Int) + 1) ∈ iota := List.mem_of_getElem? (iota_at h)
  cases hf : f ((k : Int) + 1)
  · cases hc : (iota.filter f).contains ((k : Int) + 1)
    · rfl
    · rw [List.contains_iff_mem, List.mem_filter] at hc
      rw [hc.2] at hf; cases hf
  · rw [List.contains_iff_mem, List.mem_filter]; exact ⟨hm, hf⟩
theorem cfl_eqO (p a b : List Blk) (i : Int) : cfl p a b i = (!eqO (fnd p i) (fnd a i) && (!eqO (fnd p i) (fnd b i) && !eqO (fnd a i) (fnd b i))) := by
  rw [Bool.eq_iff_iff, cfl_iff]
  simp only [Bool.and_eq_true, Bool.not_eq_true', ← Bool.not_eq_true, eqO_iff, ne_eq]
set_option maxHeartbeats 16000000 in
theorem conflicts7 (a1 : Option Addr) (n1 c1 : Nat) (p : List BE) (a2 : Option Addr) (n2 c2 : Nat) (q : List BE) (a3 : Option Addr) (n3 c3 : Nat) (r : List BE) (w : World) (h1 : IsBlks w a1 n1 c1 p) (h2 : IsBlks w a2 n2 c2 q) (h3 : IsBlks w a3 n3 c3 r) :
    Calls Tryz.prog 7 #[.slice a1 n1 c1, .slice a2 n2 c2, .slice a3 n3 c3] w fun x w' => x = .returned (.bool true) ∧ Below w.heap.size w w' := by
  have H1 := Lib.hid h1
  have H2 := Lib.hid h2
  have H3 := Lib.hid h3
  clear h1 h2 h3
  go_enter Tryz.func7, Tryz.ntmps7
  go_wp2_with fail
  refine (sane_any w).mono ?_
  rintro x w1 ⟨rfl, b1⟩
  have B1 := Lib.hid b1
  clear b1
  go_wp2_with fail
  refine (short_any a1 n1 c1 p w1 (H1.out.over B1.out)).mono ?_
  rintro x w2 ⟨a1', c1', rfl, hi, b2⟩
  have B2 := Lib.hid (bel2 B1.out b2)
  have I1 := Lib.hid hi
  clear b2 hi B1 H1
  generalize shS p = P at *
  go_wp2_with fail
  refine (short_any a2 n2 c2 q w2 (H2.out.over B2.out)).mono ?_
  rintro x w3 ⟨a2', c2', rfl, hi, b2⟩
  have B3 := Lib.hid (bel2 B2.out b2)
  have I2 := Lib.hid hi
  have J1 := Lib.hid (I1.out.over b2)
  clear b2 hi B2 H2 I1
  generalize shS q = Q at *
  go_wp2_with fail
  refine (short_any a3 n3 c3 r w3 (H3.out.over B3.out)).mono ?_
  rintro x w4 ⟨a3', c3', rfl, hi, b2⟩
  have B4 := Lib.hid (bel2 B3.out b2)
  have K3 := Lib.hid hi
  have K1 := Lib.hid (J1.out.over b2)
  have K2 := Lib.hid (I2.out.over b2)
  clear b2 hi B3 H3 I2 J1
  generalize shS r = R at *
  go_wp2_with fail
  refine (merge_any _ _ _ P _ _ _ Q _ _ _ R _ (K1.out) (K2.out) (K3.out)).mono ?_
  rintro x v1 ⟨p1, d1, rs1, q1, m1, f1, rfl, hbl, hres, b⟩
  have D1 := Lib.hid b
  have X1 := Lib.hid (bel2 B4.out b)
  have E1 := Lib.hid hbl
  have R1 := Lib.hid (blks_of_own hres.own (fun e he => (hres.each e he).ok))
  have C1 := Lib.hid (ints_of_own hres.ints (mergeR_bd _ _ _))
  have L1 := Lib.hid (own_len hres.ints)
  clear b hbl hres
  have hx := mergeR_err (p := blks P) (a := blks Q) (b := blks R)
  rcases hx with hx | hx
  · obtain ⟨hv, hc, hm⟩ := mergeR_ok hx
    have EM := Lib.hid (show ∀ i, fnd (blks rs1) i = mrg (blks P) (blks Q) (blks R) i by intro i; rw [E1.out, hm]; exact fnd_mres hv i)
    rw [hx]
    have G1 := Lib.hid (K1.out.over D1.out)
    have G2 := Lib.hid (K2.out.over D1.out)
    have G3 := Lib.hid (K3.out.over D1.out)
    have CI : Hid (IsInts .i64 v1 q1 m1 f1 (iota.filter (cfl (blks P) (blks Q) (blks R)))) := Lib.hid (by have h := C1.out; rw [hm] at h; exact h)
    have ML : Hid ((iota.filter (cfl (blks P) (blks Q) (blks R))).length = m1) := Lib.hid CI.out.1
    have hcm := CI.out.2.2.1
    have hnc := CI.out.2.1
    unfold maxLen at hcm
    clear hx hv hc hm C1 L1
    go_wp2
    go_loopw [12, 13, 14, 15, 16, 17, 18, 11] (fun i _ _ _ _ _ _ m wr => ∃ (k nn : Nat), k ≤ 1000 ∧ i = .int .i64 ((k : Int) + 1) ∧ m = .int .i64 nn ∧ nn ≤ m1 ∧ Hid (((iota.take k).filter (cfl (blks P) (blks Q) (blks R))).length = nn) ∧ Hid (Below v1.heap.size v1 wr)) (fun i _ _ _ _ _ _ _ _ => 1001 - (intOf i).toNat)
    case atStart => exact ⟨0, 0, by omega, rfl, rfl, by omega, Lib.hid (by simp), Lib.hid (Below.refl _ _)⟩
    case round =>
      obtain ⟨k, nn, hk, rfl, rfl, hnm, hst, hb⟩ := hrel
      by_cases hlt : k < 1000
      · have hl2 : (k : Int) + 1 ≤ 1000 := by omega
        have HC := Lib.hid (cfl_eqO (blks P) (blks Q) (blks R) ((k : Int) + 1))
        have HH := Lib.hid (conf_has (cfl (blks P) (blks Q) (blks R)) hlt)
        go_wp2_with fail
        refine (equal_any20 _ _ _ P _ _ _ Q _ _ (G1.out.over hb.out) (G2.out.over hb.out)).mono ?_
        rintro x u1 ⟨rfl, b⟩
        have U1 := Lib.hid (bel2 hb.out b)
        clear b
        go_wp2_with fail
        refine (equal_any20 _ _ _ P _ _ _ R _ _ (G1.out.over U1.out) (G3.out.over U1.out)).mono ?_
        rintro x u2 ⟨rfl, b⟩
        have U2 := Lib.hid (bel2 U1.out b)
        clear b
        go_wp2_with fail
        refine (equal_any20 _ _ _ Q _ _ _ R _ _ (G2.out.over U2.out) (G3.out.over U2.out)).mono ?_
        rintro x u3 ⟨rfl, b⟩
        have U3 := Lib.hid (bel2 U2.out b)
        clear b
        have CH := Lib.hid (has_any q1 m1 f1 _ ((k : Int) + 1) u3 (CI.out.over U3.out))
        rw [HH.out] at CH
        cases hq : cfl (blks P) (blks Q) (blks R) ((k : Int) + 1)
        · have hc := HC.out
          rw [hq] at hc CH
          have HNO := Lib.hid (filter_snoc_no hlt hq)
          clear hq HC HH
          generalize eqO (fnd (blks P) ((k : Int) + 1)) (fnd (blks Q) ((k : Int) + 1)) = b1 at *
          generalize eqO (fnd (blks P) ((k : Int) + 1)) (fnd (blks R) ((k : Int) + 1)) = b2 at *
          generalize eqO (fnd (blks Q) ((k : Int) + 1)) (fnd (blks R) ((k : Int) + 1)) = b3 at *
          have HH : (b1 = true) ∨ (b1 = false ∧ b2 = true) ∨ (b1 = false ∧ b2 = false ∧ b3 = true) := by
            revert hc
            cases b1 <;> cases b2 <;> cases b3 <;> simp
          clear hc
          rcases HH with rfl | ⟨rfl, rfl⟩ | ⟨rfl, rfl, rfl⟩
          all_goals
            go_wp2_with fail
            refine CH.out.mono ?_
            rintro x u4 ⟨rfl, b⟩
            have U4 := Lib.hid (bel2 U3.out b)
            clear b
            go_wp2
            go_roundw
            case rel => exact ⟨k + 1, nn, by omega, by go_num, rfl, hnm, Lib.hid (by rw [HNO.out, hst.out]), U4⟩
            case measure => simp [intOf]; omega
        · have hc := HC.out
          rw [hq] at hc CH
          have HYES := Lib.hid (filter_snoc_yes hlt hq)
          have CA := conf_at _ hlt hq
          rw [hst.out, ML.out] at CA
          have HCT := Lib.hid (conflict_takes (p := blks P) (a := blks Q) (b := blks R) ((k : Int) + 1) hq)
          clear hq HC HH
          have HH : eqO (fnd (blks P) ((k : Int) + 1)) (fnd (blks Q) ((k : Int) + 1)) = false ∧ eqO (fnd (blks P) ((k : Int) + 1)) (fnd (blks R) ((k : Int) + 1)) = false ∧ eqO (fnd (blks Q) ((k : Int) + 1)) (fnd (blks R) ((k : Int) + 1)) = false := by
            have h := hc.symm
            simp only [Bool.and_eq_true, Bool.not_eq_true'] at h
            exact h
          rw [HH.1, HH.2.1, HH.2.2]
          clear HH hc
          obtain ⟨hca, hcb⟩ := CA
          go_wp2_with fail
          refine CH.out.mono ?_
          rintro x u4 ⟨rfl, b⟩
          have U4 := Lib.hid (bel2 U3.out b)
          clear b
          obtain ⟨bb, off, rfl, hcell⟩ := (CI.out.over U4.out).cell_at hcb
          rw [hca] at hcell
          clear hca CH
          have KA := Lib.hid (at_any _ _ _ R ((k : Int) + 1) u4 (G3.out.over U4.out))
          go_wp2_with fail
          refine KA.out.mono ?_
          rintro x u5 ⟨rfl, b⟩
          have U5 := Lib.hid (bel2 U4.out b)
          clear b KA hcell
          cases hi : idxI (bids (blks R)) ((k : Int) + 1) with
          | none =>
            rw [atV_none hi]
            have HF := Lib.hid (show fnd (blks rs1) ((k : Int) + 1) = fnd (blks Q) ((k : Int) + 1) by rw [EM.out, HCT.out, if_neg (idxI_none.1 hi)])
            clear hi
            go_wp2_with fail
            refine (equal_any20 _ _ _ rs1 _ _ _ Q _ _ (R1.out.over U5.out) (G2.out.over U5.out)).mono ?_
            rintro x u6 ⟨rfl, b⟩
            have U6 := Lib.hid (bel2 U5.out b)
            rw [HF.out, (eqO_iff _ _).2 rfl]
            clear b
            go_wp2
            go_roundw
            case rel => exact ⟨k + 1, nn + 1, by omega, by go_num, by go_num, by omega, Lib.hid (by rw [HYES.out, hst.out]), U6⟩
            case measure => simp [intOf]; omega
          | some j =>
            rw [atV_some hi]
            have HF := Lib.hid (show fnd (blks rs1) ((k : Int) + 1) = fnd (blks R) ((k : Int) + 1) by rw [EM.out, HCT.out, if_pos (idxI_mem hi)])
            clear hi
            go_wp2_with fail
            refine (equal_any20 _ _ _ rs1 _ _ _ R _ _ (R1.out.over U5.out) (G3.out.over U5.out)).mono ?_
            rintro x u6 ⟨rfl, b⟩
            have U6 := Lib.hid (bel2 U5.out b)
            rw [HF.out, (eqO_iff _ _).2 rfl]
            clear b
            go_wp2
            go_roundw
            case rel => exact ⟨k + 1, nn + 1, by omega, by go_num, by go_num, by omega, Lib.hid (by rw [HYES.out, hst.out]), U6⟩
            case measure => simp [intOf]; omega
      · obtain rfl : k = 1000 := by omega
        have h1 := hst.out
        rw [List.take_of_length_le (by simp [iota]), ML.out] at h1
        subst h1
        go_wp2
        go_ret
        exact ⟨rfl, bel2 X1.out hb.out⟩
  · rw [show (mergeR (blks P) (blks Q) (blks R)).2.2 = 40 by rw [hx]]
    clear hx
    go_wp2
    go_ret
    exact ⟨rfl, X1.out⟩
end Go.Proofs.YtelipjjjlgnjoaaGreatDoor
