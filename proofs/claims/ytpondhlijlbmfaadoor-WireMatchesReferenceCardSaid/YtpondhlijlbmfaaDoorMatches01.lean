/- WireMatchesReference: the walk of the statement's text. -/
import Derived.Test.YtpondhlijlbmfaaDoorRef01
namespace Go.Proofs.YtpondhlijlbmfaaDoor
open Go.RowKit Go.Shelf
set_option maxRecDepth 100000 in
set_option maxHeartbeats 8000000 in
theorem matches_walk (n : Int) (s : ByteArray) (p : Int) (w : World) (hn : (Lit.int .i64 n).wf = true) (hs : s.size ≤ maxLen) (hp : (Lit.int .i64 p).wf = true) (ht : Tab w) :
    Calls Tryd.prog 3 #[.int .i64 n, .string s, .int .i64 p] w fun e w' => e = .returned (.bool true) ∧ Below w.heap.size w w' := by
  have hn := wf64 hn
  have hp := wf64 hp
  unfold maxLen at hs
  obtain ⟨x, hxe⟩ : ∃ x, s.extract 0 (min (s.size : Int) 300).toNat = x := ⟨_, rfl⟩
  have hx : x.size ≤ 300 := by rw [← hxe]; simp; omega
  have N1 := Lib.hid (fun wx => numberFrom_any n wx hn.1 hn.2)
  generalize numFrom n = m at *
  go_enter Tryd.func3, Tryd.ntmps3
  go_wp2_with fail
  refine (sane_any _ ht).mono ?_
  rintro e w1 ⟨rfl, b1⟩
  go_wp2_with fail
  refine (N1.out _).mono ?_
  rintro e w2 ⟨rfl, b2⟩
  have b3 := belowOver b1 (Nat.le_refl _) b2
  clear b1 b2
  go_wp2_with fail
  go_loopw [44] (fun i wr => ∃ k : Nat, k ≤ 2 ∧ i = .int .i64 k ∧ wr.cell? ⟨w2.heap.size, 0, none⟩ = some (.int .i64 n) ∧ wr.cell? ⟨w2.heap.size, 1, none⟩ = some (.int .i64 m) ∧ Below w.heap.size w wr) (fun i _ => 2 - (intOf i).toNat)
  case atStart => exact ⟨0, by omega, rfl, by simp, by simp, b3.alloc b3.size _⟩
  case round =>
    obtain ⟨k, hk, rfl, d0, d1, bw⟩ := hrel
    by_cases hlt : k < 2
    · obtain ⟨kk, hck⟩ : ∃ kk : Int, wr.cell? ⟨w2.heap.size, k, none⟩ = some (.int .i64 kk) := by
        have : k = 0 ∨ k = 1 := by omega
        rcases this with rfl | rfl
        · exact ⟨_, d0⟩
        · exact ⟨_, d1⟩
      obtain ⟨E, c, hA, hB⟩ := putInt_both kk
      have HA := Lib.hid hA
      have HB := Lib.hid hB
      clear hA hB
      go_wp2_with fail
      refine (HA.out _).mono ?_
      rintro e w4 ⟨rfl, c1⟩
      go_wp2_with fail
      refine (HB.out _).mono ?_
      rintro e w5 ⟨rfl, c2⟩
      go_wp2
      exact ⟨⟨k + 1, by omega, by go_num, cellOver c2 (cellOver c1 d0), cellOver c2 (cellOver c1 d1), belowOver (belowOver bw (Nat.le_refl _) c1) (Nat.le_refl _) c2⟩, by simp [intOf]; omega⟩
    · have hk2 : ¬ ((k : Int) < 2) := by omega
      clear hlt hk d0 d1 b3 N1
      go_wp2_with fail
      refine (pick_any p ((x.size : Int) + 2) _ (by omega) hp.1 hp.2).mono ?_
      rintro e w6 ⟨rfl, rfl⟩
      generalize pck p ((x.size : Int) + 2) = u at *
      go_wp2_with fail
      obtain ⟨wo, rfl⟩ : ∃ wo : World, wo = wr := ⟨_, rfl⟩
      go_loopw [75] (fun i wq => ∃ j : Nat, j ≤ 2 ∧ i = .int .i64 j ∧ wq.cell? ⟨wo.heap.size, 0, none⟩ = some (.int .i64 p) ∧ wq.cell? ⟨wo.heap.size, 1, none⟩ = some (.int .i64 u) ∧ Below w.heap.size w wq) (fun i _ => 2 - (intOf i).toNat)
      case atStart => exact ⟨0, by omega, rfl, by simp, by simp, bw.alloc bw.size _⟩
      case round =>
        obtain ⟨j, hj, rfl, d0, d1, bq⟩ := hrel
        by_cases hlt : j < 2
        · obtain ⟨kk, hck⟩ : ∃ kk : Int, wr.cell? ⟨wo.heap.size, j, none⟩ = some (.int .i64 kk) := by
            have : j = 0 ∨ j = 1 := by omega
            rcases this with rfl | rfl
            · exact ⟨_, d0⟩
            · exact ⟨_, d1⟩
          obtain ⟨a1, a2, a3, hA, hB⟩ := int_both x kk (by unfold maxLen; omega)
          obtain ⟨e1, e2, e3, hC, hD⟩ := string_both x kk (by unfold maxLen; omega)
          have HA := Lib.hid hA
          have HB := Lib.hid hB
          have HC := Lib.hid hC
          have HD := Lib.hid hD
          clear hA hB hC hD
          go_wp2_with fail
          refine (HA.out _).mono ?_
          rintro e w4 ⟨rfl, c1⟩
          go_wp2_with fail
          refine (HB.out _).mono ?_
          rintro e w5 ⟨rfl, c2⟩
          go_wp2_with fail
          refine (HC.out _).mono ?_
          rintro e w6 ⟨rfl, c3⟩
          go_wp2_with fail
          refine (HD.out _).mono ?_
          rintro e w7 ⟨rfl, c4⟩
          go_wp2
          exact ⟨⟨j + 1, by omega, by go_num, cellOver c4 (cellOver c3 (cellOver c2 (cellOver c1 d0))), cellOver c4 (cellOver c3 (cellOver c2 (cellOver c1 d1))), belowOver (belowOver (belowOver (belowOver bq (Nat.le_refl _) c1) (Nat.le_refl _) c2) (Nat.le_refl _) c3) (Nat.le_refl _) c4⟩, by simp [intOf]; omega⟩
        · have hj2 : ¬ ((j : Int) < 2) := by omega
          clear hlt hj d0 d1 bw
          go_wp2_with fail
          refine (putStr_yes x _ (by omega)).mono ?_
          rintro e w8 ⟨rfl, c1⟩
          go_wp2_with fail
          refine (refPutStr_yes x _ (by omega)).mono ?_
          rintro e w9 ⟨rfl, c2⟩
          go_wp2_with fail
          refine (sum_any x _ (by unfold maxLen; omega) (ht.below (belowOver (belowOver bq (Nat.le_refl _) c1) (Nat.le_refl _) c2))).mono ?_
          rintro e w10 ⟨rfl, rfl⟩
          go_wp2_with fail
          refine (refSum_any x _ (by unfold maxLen; omega)).mono ?_
          rintro e w11 ⟨rfl, rfl⟩
          go_wp2
          go_ret
          exact ⟨rfl, belowOver (belowOver bq (Nat.le_refl _) c1) (Nat.le_refl _) c2⟩
end Go.Proofs.YtpondhlijlbmfaaDoor
