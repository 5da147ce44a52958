import Derived.Test.YtelipjjjlgnjoaaGreatDoorMgOL
import Derived.Test.YtelipjjjlgnjoaaGreatDoorMgY2
import Derived.Test.YtelipjjjlgnjoaaGreatDoorMgL
import Derived.Deep.LoopGhost
namespace Go.Proofs.YtelipjjjlgnjoaaGreatDoor
open Go.RowKit Go.MapKept Go.Shelf
attribute [local go_sem] Oper.semAt_some
set_option maxRecDepth 100000
set_option linter.unusedSimpArgs false
set_option linter.unusedVariables false
set_option maxHeartbeats 16000000 in
theorem owns11 (a1 : Option Addr) (n1 c1 : Nat) (p : List BE) (a2 : Option Addr) (n2 c2 : Nat) (q : List BE) (a3 : Option Addr) (n3 c3 : Nat) (r : List BE) (w : World) (h1 : IsBlks w a1 n1 c1 p) (h2 : IsBlks w a2 n2 c2 q) (h3 : IsBlks w a3 n3 c3 r) (s1 : ∀ e ∈ p, e.1.lb.af.length * 8 ≤ 140737488355328) (s2 : ∀ e ∈ q, e.1.lb.af.length * 8 ≤ 140737488355328) (s3 : ∀ e ∈ r, e.1.lb.af.length * 8 ≤ 140737488355328) :
    Calls Tryz.prog 11 #[.slice a1 n1 c1, .slice a2 n2 c2, .slice a3 n3 c3] w fun x w' => x = .returned (.bool true) ∧ Below w.heap.size w w' := by
  have H1 := Lib.hid h1
  have H2 := Lib.hid h2
  have H3 := Lib.hid h3
  have Z1 := Lib.hid s1
  have Z2 := Lib.hid s2
  have Z3 := Lib.hid s3
  clear h1 h2 h3 s1 s2 s3
  go_enter Tryz.func11, Tryz.ntmps11
  go_wp2_with fail
  refine (sane_any w).mono ?_
  rintro x w1 ⟨rfl, b1⟩
  have B1 := Lib.hid b1
  clear b1
  go_wp2_with fail
  refine (fresh_any _ _ _ p w1 (H1.out.over B1.out) Z1.out).mono ?_
  rintro x x1 ⟨fa1, fc1, F1, rfl, fe, fo, fi, b⟩
  have T1 := Lib.hid fe
  have A1 : Hid (NewL w1.heap.size x1 fa1 fc1 F1) := Lib.hid ⟨fo, fi⟩
  have BX1 := Lib.hid b
  have BB1 := Lib.hid (bel2 B1.out b)
  clear fe fo fi b
  go_wp2_with fail
  refine (fresh_any _ _ _ q x1 (H2.out.over BB1.out) Z2.out).mono ?_
  rintro x x2 ⟨fa2, fc2, F2, rfl, fe, fo, fi, b⟩
  have T2 := Lib.hid fe
  have A2 : Hid (NewL x1.heap.size x2 fa2 fc2 F2) := Lib.hid ⟨fo, fi⟩
  have BX2 := Lib.hid b
  have BB2 := Lib.hid (bel2 BB1.out b)
  clear fe fo fi b
  go_wp2_with fail
  refine (fresh_any _ _ _ r x2 (H3.out.over BB2.out) Z3.out).mono ?_
  rintro x x3 ⟨fa3, fc3, F3, rfl, fe, fo, fi, b⟩
  have T3 := Lib.hid fe
  have A3 : Hid (NewL x2.heap.size x3 fa3 fc3 F3) := Lib.hid ⟨fo, fi⟩
  have BX3 := Lib.hid b
  have BB3 := Lib.hid (bel2 BB2.out b)
  clear fe fo fi b
  go_wp2_with fail
  have P1 := Lib.hid ((A1.out.over BX2.out).over BX3.out)
  have P2 := Lib.hid (A2.out.over BX3.out)
  obtain ⟨MR, hMR⟩ : ∃ MR, mergeR (blks F1) (blks F2) (blks F3) = MR := ⟨_, rfl⟩
  have KM := merge_any _ _ _ F1 _ _ _ F2 _ _ _ F3 x3 P1.out.blks P2.out.blks A3.out.blks
  rw [hMR] at KM
  have HMR := Lib.hid hMR
  clear hMR
  refine KM.mono ?_
  clear KM
  rintro x v1 ⟨p1, d1, rs1, q1, m1, f1, rfl, hbl, hres, b⟩
  have M1 := Lib.hid b
  have MB := Lib.hid (bel2 BB3.out b)
  have RL : Hid (NewL x3.heap.size v1 p1 d1 rs1) := Lib.hid ⟨hres.own, hres.each⟩
  clear b hbl hres
  go_wp2_with fail
  refine (fresh_any _ _ _ p v1 (H1.out.over MB.out) Z1.out).mono ?_
  rintro x x4 ⟨fa4, fc4, F4, rfl, fe, fo, fi, b⟩
  have T4 := Lib.hid fe
  have A4 : Hid (NewL v1.heap.size x4 fa4 fc4 F4) := Lib.hid ⟨fo, fi⟩
  have BX4 := Lib.hid b
  have BB4 := Lib.hid (bel2 MB.out b)
  clear fe fo fi b
  go_wp2_with fail
  refine (fresh_any _ _ _ q x4 (H2.out.over BB4.out) Z2.out).mono ?_
  rintro x x5 ⟨fa5, fc5, F5, rfl, fe, fo, fi, b⟩
  have T5 := Lib.hid fe
  have A5 : Hid (NewL x4.heap.size x5 fa5 fc5 F5) := Lib.hid ⟨fo, fi⟩
  have BX5 := Lib.hid b
  have BB5 := Lib.hid (bel2 BB4.out b)
  clear fe fo fi b
  go_wp2_with fail
  refine (fresh_any _ _ _ r x5 (H3.out.over BB5.out) Z3.out).mono ?_
  rintro x x6 ⟨fa6, fc6, F6, rfl, fe, fo, fi, b⟩
  have T6 := Lib.hid fe
  have A6 : Hid (NewL x5.heap.size x6 fa6 fc6 F6) := Lib.hid ⟨fo, fi⟩
  have BX6 := Lib.hid b
  have BB6 := Lib.hid (bel2 BB5.out b)
  clear fe fo fi b
  go_wp2_with fail
  have P4 := Lib.hid ((A4.out.over BX5.out).over BX6.out)
  have P5 := Lib.hid (A5.out.over BX6.out)
  have KM := refmerge_own _ _ _ F4 _ _ _ F5 _ _ _ F6 x6 P4.out.blks P5.out.blks A6.out.blks
  rw [show blks F4 = blks F1 from T4.out.trans T1.out.symm, show blks F5 = blks F2 from T5.out.trans T2.out.symm, show blks F6 = blks F3 from T6.out.trans T3.out.symm, HMR.out] at KM
  refine KM.mono ?_
  clear KM
  rintro x v2 ⟨p2, d2, rs2, q2, m2, f2, rfl, hbl, -, hown, hft, -, b⟩
  have E2 := Lib.hid hbl
  have BV : Hid (Below v1.heap.size v1 v2) := Lib.hid (bel2 (bel2 (bel2 BX4.out BX5.out) BX6.out) b)
  have BW := Lib.hid (bel2 BB6.out b)
  have OI0 : Hid (OI x3.heap.size v1.heap.size v2 p1 d1 rs1 v2 0) := Lib.hid (OI.start RL.out rfl BV.out)
  have hh4 : v1.heap.size ≤ x6.heap.size := (bel2 (bel2 BX4.out BX5.out) BX6.out).size
  have OR : Hid (∀ W, Btw x3.heap.size v1.heap.size v2 W → IsBlks W p2 rs2.length d2 rs2) := Lib.hid (fun W hW => own_btw hown hh4 (fun e he => by
    rcases hft e he with h | h
    · exact ⟨x4.heap.size, BX4.out.size, (P5.out.over b).2 e h⟩
    · exact ⟨x5.heap.size, Nat.le_trans BX4.out.size BX5.out.size, (A6.out.over b).2 e h⟩) hW)
  have Q3 := M1.out.size
  have Q0 : Hid (w.heap.size ≤ x3.heap.size) := Lib.hid BB3.out.size
  have N1 : Hid (∀ W, Btw x3.heap.size v1.heap.size v2 W → IsBlks W fa1 F1.length fc1 F1) := Lib.hid (fun W hW => (NewL.low P1.out ((P1.out.over M1.out).over BV.out) (Nat.le_refl _) hW).blks)
  have N2 : Hid (∀ W, Btw x3.heap.size v1.heap.size v2 W → IsBlks W fa2 F2.length fc2 F2) := Lib.hid (fun W hW => (NewL.low P2.out ((P2.out.over M1.out).over BV.out) (Nat.le_refl _) hW).blks)
  have N3 : Hid (∀ W, Btw x3.heap.size v1.heap.size v2 W → IsBlks W fa3 F3.length fc3 F3) := Lib.hid (fun W hW => (NewL.low A3.out ((A3.out.over M1.out).over BV.out) (Nat.le_refl _) hW).blks)
  clear hbl hown hft b hh4 Q3
  clear A1 A2 A3 A4 A5 A6 T1 T2 T3 T4 T5 T6 BX1 BX2 BX3 BX4 BX5 BX6 BB1 BB2 BB3 BB4 BB5 BB6 P1 P2 P4 P5 H1 H2 H3 Z1 Z2 Z3 RL M1 MB BV B1
  obtain ⟨lo, hlo⟩ : ∃ lo, x3.heap.size = lo := ⟨_, rfl⟩
  obtain ⟨hi, hhi⟩ : ∃ hi, v1.heap.size = hi := ⟨_, rfl⟩
  rw [hlo] at OI0 OR N1 N2 N3 Q0
  rw [hhi] at OI0 OR N1 N2 N3
  clear hlo hhi
  have hL := OI0.out.lens.1
  obtain ⟨L1, hL1⟩ : ∃ L1, L1 = rs1.length := ⟨_, rfl⟩
  rw [← hL1] at hL ⊢
  have HL1 := Lib.hid hL1
  clear hL1
  go_wp2_with fail
  go_loopw [17, 18] (fun i _ wr => ∃ k : Nat, k ≤ L1 ∧ i = .int .i64 k ∧ Hid (OI lo hi v2 p1 d1 rs1 wr k)) (fun i _ _ => L1 - (intOf i).toNat)
  case atStart => exact ⟨0, Nat.zero_le _, rfl, OI0⟩
  case round =>
    obtain ⟨k, hk, rfl, hoi⟩ := hrel
    by_cases hlt : k < L1
    · obtain ⟨e, he⟩ : ∃ e, rs1[k]? = some e := ⟨rs1[k]'(by rw [← HL1.out]; exact hlt), List.getElem?_eq_getElem _⟩
      have HE := Lib.hid he
      have HM := Lib.hid (List.mem_of_getElem? he)
      obtain ⟨g, rfl, hg1, hg2, hng, hc6, hfz⟩ := hoi.out.noted he
      have HG := Lib.hid hng
      have hle := hoi.out.lens.2 e HM.out
      clear he hng hc6 hfz
      obtain ⟨ea, en, ec, hsl⟩ : ∃ ea en ec, ea = e.2.1 ∧ en = e.2.2.1 ∧ ec = e.2.2.2 := ⟨_, _, _, rfl, rfl, rfl⟩
      have HSL := Lib.hid hsl
      rw [← hsl.2.1] at hle
      clear hsl
      obtain ⟨wo, rfl⟩ : ∃ wo, wo = wr := ⟨_, rfl⟩
      go_wp2_with fail
      go_loopw [18] (fun j wr => ∃ m : Nat, m ≤ en ∧ j = .int .i64 m ∧ Hid (OI lo hi v2 (some ⟨g, 0, none⟩) d1 rs1 wr k)) (fun j _ => en - (intOf j).toNat)
      case atStart => exact ⟨0, Nat.zero_le _, rfl, hoi⟩
      case round =>
        obtain ⟨m, hm, rfl, hoj⟩ := hrel
        obtain ⟨g', hg', -, -, -, hd6, hfz⟩ := hoj.out.noted HE.out
        obtain rfl : g = g' := by simpa using hg'
        have hc6 : wr.cell? ⟨g, k * 9 + 6, none⟩ = some (.slice ea en ec) := by rw [HSL.out.1, HSL.out.2.1, HSL.out.2.2]; exact hd6
        clear hg' hd6
        by_cases hmn : m < en
        · obtain ⟨g2, u, hg2', hcu, hfu, hput⟩ := hoj.out.inner HM.out (j := m) (by rw [← HSL.out.2.1]; exact hmn)
          obtain rfl : ea = some ⟨g2, 0, none⟩ := HSL.out.1.trans hg2'
          have HP := Lib.hid hput
          clear hput hg2' hfz
          go_wp2
          go_roundw
          case rel => exact ⟨m + 1, by omega, by go_num, Lib.hid (HP.out _)⟩
          case measure => simp [intOf]; omega
        · obtain rfl : en = m := by omega
          obtain ⟨u0, u1, u2, u3, u4, u5, u6, u7, u8, s0, s1, s2, s3, s4, s5, s6, s7, s8⟩ := hoj.out.nine rfl (by rw [← HL1.out]; exact hlt)
          clear s6
          have f0 := hfz (k * 9)
          have f1 := hfz (k * 9 + 1)
          have f2 := hfz (k * 9 + 2)
          have f3 := hfz (k * 9 + 3)
          have f4 := hfz (k * 9 + 4)
          have f5 := hfz (k * 9 + 5)
          have f6 := hfz (k * 9 + 6)
          have f7 := hfz (k * 9 + 7)
          have f8 := hfz (k * 9 + 8)
          clear hfz
          have HP := Lib.hid (fun v0 v1 v2 v3 v4 v5 v6 v7 v8 => hoj.out.puts rfl ⟨hg1, hg2⟩ HG.out v0 v1 v2 v3 v4 v5 v6 v7 v8)
          go_wp2
          go_roundw
          case rel => exact ⟨k + 1, by omega, by go_num, Lib.hid (HP.out _ _ _ _ _ _ _ _ _)⟩
          case measure => simp [intOf]; omega
    · obtain rfl : L1 = k := by omega
      have HB := Lib.hid hoi.out.btw
      have BR : Hid (Below w.heap.size w wr) := Lib.hid (hoi.out.btw.below BW.out Q0.out)
      clear hoi
      have KM := merge_any _ _ _ F1 _ _ _ F2 _ _ _ F3 wr (N1.out _ HB.out) (N2.out _ HB.out) (N3.out _ HB.out)
      rw [HMR.out] at KM
      go_wp2_with fail
      refine KM.mono ?_
      clear KM
      rintro x v3 ⟨p3, d3, rs3, q3, m3, f3, rfl, hbl, hres, b⟩
      have R3 := Lib.hid (blks_of_own hres.own (fun e he => (hres.each e he).ok))
      have E3 := Lib.hid hbl
      have S2 := Lib.hid ((OR.out _ HB.out).over b)
      have X3 := Lib.hid (bel2 BR.out b)
      clear b hbl hres hlt
      go_wp2_with fail
      refine (refsamel_any _ _ _ rs3 _ _ _ rs2 v3 R3.out S2.out).mono ?_
      rintro x v4 ⟨rfl, b⟩
      rw [show sL (blks rs3) (blks rs2) = true by rw [E3.out, E2.out]; exact sL_self _]
      have X4 := Lib.hid (bel2 X3.out b)
      clear b
      go_wp2
      go_ret
      exact ⟨rfl, X4.out⟩
end Go.Proofs.YtelipjjjlgnjoaaGreatDoor
