/- LabelJoinAllows: the walk of the statement's text. -/
import Derived.Test.YthpginepnleokaaLabT
import Derived.Deep.RegionHeld3
import Derived.RegionTactic
import Derived.Deep.CutRange
namespace Go.Proofs.Ythpginepnleokaa
open Go.RowKit
set_option linter.unusedSimpArgs false
set_option linter.unusedVariables false
set_option linter.unnecessarySimpa false
set_option maxRecDepth 100000 in
set_option maxHeartbeats 32000000 in
theorem joinAllows_walk (x0 x1 x2 x3 y0 y1 y2 y3 z0 z1 z2 z3 : Int) (w : World) (hx : B4 x0 x1 x2 x3) (hy : B4 y0 y1 y2 y3) (hz : B4 z0 z1 z2 z3) :
    Calls Try.prog 8 #[.agg #[.int .i64 x0, .int .i64 x1, .int .i64 x2, .int .i64 x3], .agg #[.int .i64 y0, .int .i64 y1, .int .i64 y2, .int .i64 y3], .agg #[.int .i64 z0, .int .i64 z1, .int .i64 z2, .int .i64 z3]] w fun e w' => e = .returned (.bool true) ∧ Below w.heap.size w w' := by
  obtain ⟨la, _, okA, KA⟩ := make_eq _ _ _ _ hx
  obtain ⟨lb, _, okB, KB⟩ := make_eq _ _ _ _ hy
  obtain ⟨lj, hj⟩ : ∃ l, joinL la lb = l := ⟨_, rfl⟩
  have okJ := Lib.hid (show Ok lj by rw [← hj]; exact joinL_ok _ _)
  have EL := Lib.hid (show ∀ (cls now : Int) (out : List Int) (n : Int), allB lj cls now out n = (allB la cls now out n && allB lb cls now out n) by
    intro cls now out n
    rw [← hj]; exact all_join okA.out okB.out cls now out n)
  have EJ := Lib.hid hj
  have bz1 := hz.2.1
  obtain ⟨⟨uj0, uj1⟩, -, -, -⟩ := okJ.out
  clear hj hx hy hz
  obtain ⟨hX, hY, hZ, bw⟩ := three_allocs w (.cells #[.int .i64 x0, .int .i64 x1, .int .i64 x2, .int .i64 x3] 22) (.cells #[.int .i64 y0, .int .i64 y1, .int .i64 y2, .int .i64 y3] 22) (.cells #[.int .i64 z0, .int .i64 z1, .int .i64 z2, .int .i64 z3] 22)
  have HX := Lib.hid hX
  have HY := Lib.hid hY
  have HZ := Lib.hid hZ
  clear hX hY hZ
  go_enter Try.func8, Try.ntmps8
  obtain ⟨hxq0, hxq1, hxq2, hxq3⟩ := cells4 HX.out
  obtain ⟨hyq0, hyq1, hyq2, hyq3⟩ := cells4 HY.out
  obtain ⟨hzq0, hzq1, hzq2, hzq3⟩ := cells4 HZ.out
  go_wp2_with fail
  refine (sane_any _).mono ?_
  rintro e w1 ⟨rfl, bq⟩
  replace HX := Lib.hid (blockOver bq HX.out)
  replace HY := Lib.hid (blockOver bq HY.out)
  replace HZ := Lib.hid (blockOver bq HZ.out)
  replace bw := bel2 bw bq
  clear bq hxq0 hxq1 hxq2 hxq3 hyq0 hyq1 hyq2 hyq3 hzq0 hzq1 hzq2 hzq3
  obtain ⟨hxq0, hxq1, hxq2, hxq3⟩ := cells4 HX.out
  go_wp2_with fail
  refine (KA.out _).mono ?_
  rintro e w2 ⟨aA, nA, cA, rfl, LA, OA, bq⟩
  have HA := Lib.hid (heap_alloc_new w2 (.cells #[.int .i64 la.u, .slice aA nA cA, .int .i64 la.ap, .int .i64 la.d] 26))
  replace LA := Lib.hid (LA.over (below_alloc w2 (.cells #[.int .i64 la.u, .slice aA nA cA, .int .i64 la.ap, .int .i64 la.d] 26)))
  replace bq := bel2 bq (below_alloc w2 (.cells #[.int .i64 la.u, .slice aA nA cA, .int .i64 la.ap, .int .i64 la.d] 26))
  replace HX := Lib.hid (blockOver bq HX.out)
  replace HY := Lib.hid (blockOver bq HY.out)
  replace HZ := Lib.hid (blockOver bq HZ.out)
  replace bw := bel2 bw bq
  clear bq OA hxq0 hxq1 hxq2 hxq3
  obtain ⟨hyq0, hyq1, hyq2, hyq3⟩ := cells4 HY.out
  go_wp2_with fail
  refine (KB.out _).mono ?_
  rintro e w3 ⟨aB, nB, cB, rfl, LB, OB, bq⟩
  have HB := Lib.hid (heap_alloc_new w3 (.cells #[.int .i64 lb.u, .slice aB nB cB, .int .i64 lb.ap, .int .i64 lb.d] 26))
  replace LB := Lib.hid (LB.over (below_alloc w3 (.cells #[.int .i64 lb.u, .slice aB nB cB, .int .i64 lb.ap, .int .i64 lb.d] 26)))
  replace bq := bel2 bq (below_alloc w3 (.cells #[.int .i64 lb.u, .slice aB nB cB, .int .i64 lb.ap, .int .i64 lb.d] 26))
  replace HX := Lib.hid (blockOver bq HX.out)
  replace HY := Lib.hid (blockOver bq HY.out)
  replace HZ := Lib.hid (blockOver bq HZ.out)
  replace HA := Lib.hid (blockOver bq HA.out)
  replace LA := Lib.hid (LabAt.over bq LA.out)
  replace bw := bel2 bw bq
  clear bq OB hyq0 hyq1 hyq2 hyq3
  obtain ⟨haq0, haq1, haq2, haq3⟩ := cells4 HA.out
  obtain ⟨hbq0, hbq1, hbq2, hbq3⟩ := cells4 HB.out
  go_wp2_with fail
  refine (join_eq la lb lj EJ.out _ _ _ _ _ _ _ LA.out LB.out).mono ?_
  rintro e w4 ⟨aJ, nJ, cJ, rfl, LJ, OJ, bq⟩
  have HJ := Lib.hid (heap_alloc_new w4 (.cells #[.int .i64 lj.u, .slice aJ nJ cJ, .int .i64 lj.ap, .int .i64 lj.d] 26))
  replace LJ := Lib.hid (LJ.over (below_alloc w4 (.cells #[.int .i64 lj.u, .slice aJ nJ cJ, .int .i64 lj.ap, .int .i64 lj.d] 26)))
  replace bq := bel2 bq (below_alloc w4 (.cells #[.int .i64 lj.u, .slice aJ nJ cJ, .int .i64 lj.ap, .int .i64 lj.d] 26))
  replace HX := Lib.hid (blockOver bq HX.out)
  replace HY := Lib.hid (blockOver bq HY.out)
  replace HZ := Lib.hid (blockOver bq HZ.out)
  replace HA := Lib.hid (blockOver bq HA.out)
  replace HB := Lib.hid (blockOver bq HB.out)
  replace LA := Lib.hid (LabAt.over bq LA.out)
  replace LB := Lib.hid (LabAt.over bq LB.out)
  replace bw := bel2 bw bq
  clear bq OJ haq0 haq1 haq2 haq3 hbq0 hbq1 hbq2 hbq3
  obtain ⟨haq0, haq1, haq2, haq3⟩ := cells4 HA.out
  obtain ⟨hbq0, hbq1, hbq2, hbq3⟩ := cells4 HB.out
  obtain ⟨hjq0, hjq1, hjq2, hjq3⟩ := cells4 HJ.out
  obtain ⟨hzq0, hzq1, hzq2, hzq3⟩ := cells4 HZ.out
  go_wp2_with fail
  obtain ⟨W0, hW0⟩ : ∃ W0, (w4.alloc (.cells #[.int .i64 lj.u, .slice aJ nJ cJ, .int .i64 lj.ap, .int .i64 lj.d] 26)) = W0 := ⟨_, rfl⟩
  rw [hW0] at bw ⊢
  rw [hW0] at HA HB HJ HZ LA LB LJ
  clear hW0 HX HY haq0 haq1 haq2 haq3 hbq0 hbq1 hbq2 hbq3 hjq0 hjq1 hjq2 hjq3 hzq0 hzq1 hzq2 hzq3
  go_loopw [11, 7, 13, 15, 17] (fun i ok _ _ _ wr => ∃ k : Nat, k ≤ 4 ∧ i = .int .i64 k ∧ ok = .bool true ∧ Below W0.heap.size W0 wr) (fun i _ _ _ _ _ => 4 - (intOf i).toNat)
  case atStart => exact ⟨0, by omega, rfl, rfl, Below.refl _ _⟩
  case round =>
    obtain ⟨k, hk, rfl, rfl, br⟩ := hrel
    by_cases hlt : k < 4
    · have kk4 : (k : Int) < 4 := by omega
      obtain ⟨haq0, haq1, haq2, haq3⟩ := cells4 (blockOver br HA.out)
      obtain ⟨hbq0, hbq1, hbq2, hbq3⟩ := cells4 (blockOver br HB.out)
      obtain ⟨hjq0, hjq1, hjq2, hjq3⟩ := cells4 (blockOver br HJ.out)
      obtain ⟨hzq0, hzq1, hzq2, hzq3⟩ := cells4 (blockOver br HZ.out)
      obtain ⟨wo, rfl⟩ : ∃ wo, wo = wr := ⟨_, rfl⟩
      have HN := Lib.hid (show NumsAt (wo.alloc (.cells #[.int .i64 z0, .int .i64 la.u, .int .i64 lb.u, .int .i64 lj.u, .int .i64 (lj.u - 1)] 3)) wo.heap.size [z0, la.u, lb.u, lj.u, lj.u - 1] from heap_alloc_new wo _)
      have b1 := bel2 br (below_alloc wo (.cells #[.int .i64 z0, .int .i64 la.u, .int .i64 lb.u, .int .i64 lj.u, .int .i64 (lj.u - 1)] 3))
      go_wp2_with fail
      obtain ⟨q2, hq2⟩ : ∃ q, wo.heap.size = q := ⟨_, rfl⟩
      obtain ⟨W1, hW1⟩ : ∃ W1, wo.alloc (.cells #[.int .i64 z0, .int .i64 la.u, .int .i64 lb.u, .int .i64 lj.u, .int .i64 (lj.u - 1)] 3) = W1 := ⟨_, rfl⟩
      rw [hW1] at b1 ⊢
      rw [hW1, hq2] at HN
      rw [hq2]
      obtain ⟨L5, hL5⟩ : ∃ L : List Int, [z0, la.u, lb.u, lj.u, lj.u - 1] = L := ⟨_, rfl⟩
      have hl5 : L5.length = 5 := by rw [← hL5]; rfl
      rw [hL5] at HN
      have HL5 := Lib.hid hl5
      clear hW1 hq2 br hL5 hl5 haq0 haq1 haq2 haq3 hbq0 hbq1 hbq2 hbq3 hjq0 hjq1 hjq2 hjq3 hzq0 hzq1 hzq2 hzq3
      go_loopw [43, 7, 13, 15, 17] (fun i ok _ _ _ wr => ∃ j : Nat, j ≤ 5 ∧ i = .int .i64 j ∧ ok = .bool true ∧ Below W1.heap.size W1 wr) (fun i _ _ _ _ _ => 5 - (intOf i).toNat)
      case atStart => exact ⟨0, by omega, rfl, rfl, Below.refl _ _⟩
      case round =>
        obtain ⟨j, hj, rfl, rfl, bj⟩ := hrel
        by_cases hlj : j < 5
        · have jj0 : (0 : Int) ≤ j := by omega
          have jj5 : (j : Int) < 5 := by omega
          obtain ⟨nw, -, hcell⟩ := (HN.out.over bj).at_ (k := j) (by rw [HL5.out]; exact hlj)
          have b2 := bel2 b1 bj
          obtain ⟨haq0, haq1, haq2, haq3⟩ := cells4 (blockOver b2 HA.out)
          obtain ⟨hbq0, hbq1, hbq2, hbq3⟩ := cells4 (blockOver b2 HB.out)
          obtain ⟨hjq0, hjq1, hjq2, hjq3⟩ := cells4 (blockOver b2 HJ.out)
          obtain ⟨hzq0, hzq1, hzq2, hzq3⟩ := cells4 (blockOver b2 HZ.out)
          obtain ⟨wp, rfl⟩ : ∃ wp, wp = wr := ⟨_, rfl⟩
          go_wp2_with fail
          have bc := Below.refl wp.heap.size wp
          refine wp_region_held_drew (S := fun w' => Below wp.heap.size wp w' ∧ w'.cell? ⟨w2.heap.size, 0, none⟩ = some (.int .i64 la.u) ∧ w'.cell? ⟨w2.heap.size, 1, none⟩ = some (.slice aA nA cA) ∧ w'.cell? ⟨w2.heap.size, 2, none⟩ = some (.int .i64 la.ap) ∧ w'.cell? ⟨w2.heap.size, 3, none⟩ = some (.int .i64 la.d) ∧ w'.cell? ⟨w3.heap.size, 0, none⟩ = some (.int .i64 lb.u) ∧ w'.cell? ⟨w3.heap.size, 1, none⟩ = some (.slice aB nB cB) ∧ w'.cell? ⟨w3.heap.size, 2, none⟩ = some (.int .i64 lb.ap) ∧ w'.cell? ⟨w3.heap.size, 3, none⟩ = some (.int .i64 lb.d) ∧ w'.cell? ⟨w4.heap.size, 0, none⟩ = some (.int .i64 lj.u) ∧ w'.cell? ⟨w4.heap.size, 1, none⟩ = some (.slice aJ nJ cJ) ∧ w'.cell? ⟨w4.heap.size, 2, none⟩ = some (.int .i64 lj.ap) ∧ w'.cell? ⟨w4.heap.size, 3, none⟩ = some (.int .i64 lj.d) ∧ w'.cell? ⟨w.heap.size + 1 + 1, 0, none⟩ = some (.int .i64 z0) ∧ w'.cell? ⟨w.heap.size + 1 + 1, 1, none⟩ = some (.int .i64 z1) ∧ w'.cell? ⟨w.heap.size + 1 + 1, 2, none⟩ = some (.int .i64 z2) ∧ w'.cell? ⟨w.heap.size + 1 + 1, 3, none⟩ = some (.int .i64 z3)) (by kernel_rfl) ?_ (fun h0 => ?_)
          · exact ⟨bc.drew, haq0, haq1, haq2, haq3, hbq0, hbq1, hbq2, hbq3, hjq0, hjq1, hjq2, hjq3, hzq0, hzq1, hzq2, hzq3⟩
          refine wpAnyH_take (i := 0) (v := ?_) rfl (by kernel_rfl) (by kernel_rfl) (by kernel_rfl) (fun _ _ _ h => h) (Or.inl ⟨by rfl, ?_⟩) h0 ?_
          rotate_left
          · (intro w hSw; (try dsimp only at hSw); go_simp); all_goals (with_reducible rfl)
          try simp only [List.getElem_toArray, List.getElem_cons_succ, List.getElem_cons_zero, Act.put, List.setIfInBounds_toArray, List.set_cons_zero, List.set_cons_succ]
          refine wpAnyH_take (i := 1) (v := ?_) rfl (by kernel_rfl) (by kernel_rfl) (by kernel_rfl) (fun _ _ _ h => h) (Or.inl ⟨by rfl, ?_⟩) h0 ?_
          rotate_left
          · (intro w hSw; (try dsimp only at hSw); go_simp); all_goals (with_reducible rfl)
          try simp only [List.getElem_toArray, List.getElem_cons_succ, List.getElem_cons_zero, Act.put, List.setIfInBounds_toArray, List.set_cons_zero, List.set_cons_succ]
          refine wpAnyH_take (i := 3) (v := ?_) rfl (by kernel_rfl) (by kernel_rfl) (by kernel_rfl) (fun _ _ _ h => h) (Or.inl ⟨by rfl, ?_⟩) h0 ?_
          rotate_left
          · (intro w hSw; (try dsimp only at hSw); go_simp); all_goals (with_reducible rfl)
          try simp only [List.getElem_toArray, List.getElem_cons_succ, List.getElem_cons_zero, Act.put, List.setIfInBounds_toArray, List.set_cons_zero, List.set_cons_succ]
          refine wpAnyH_take (i := 4) (v := ?_) rfl (by kernel_rfl) (by kernel_rfl) (by kernel_rfl) (fun _ _ _ h => h) (Or.inl ⟨by rfl, ?_⟩) h0 ?_
          rotate_left
          · (intro w hSw; (try dsimp only at hSw); go_simp); all_goals (with_reducible rfl)
          try simp only [List.getElem_toArray, List.getElem_cons_succ, List.getElem_cons_zero, Act.put, List.setIfInBounds_toArray, List.set_cons_zero, List.set_cons_succ]
          refine wpAnyH_take (i := 5) (v := ?_) rfl (by kernel_rfl) (by kernel_rfl) (by kernel_rfl) (fun _ _ _ h => h) (Or.inl ⟨by rfl, ?_⟩) h0 ?_
          rotate_left
          · (intro w hSw; (try dsimp only at hSw); go_simp); all_goals (with_reducible rfl)
          try simp only [List.getElem_toArray, List.getElem_cons_succ, List.getElem_cons_zero, Act.put, List.setIfInBounds_toArray, List.set_cons_zero, List.set_cons_succ]
          refine wpAnyH_take (i := 6) (v := ?_) rfl (by kernel_rfl) (by kernel_rfl) (by kernel_rfl) (fun _ _ _ h => h) (Or.inl ⟨by rfl, ?_⟩) h0 ?_
          rotate_left
          · (intro w hSw; (try dsimp only at hSw); go_simp); all_goals (with_reducible rfl)
          try simp only [List.getElem_toArray, List.getElem_cons_succ, List.getElem_cons_zero, Act.put, List.setIfInBounds_toArray, List.set_cons_zero, List.set_cons_succ]
          refine wpAnyH_take (i := 7) (v := ?_) rfl (by kernel_rfl) (by kernel_rfl) (by kernel_rfl) (fun _ _ _ h => h) (Or.inl ⟨by rfl, ?_⟩) h0 ?_
          rotate_left
          · (intro w hSw; (try dsimp only at hSw); go_simp); all_goals (with_reducible rfl)
          try simp only [List.getElem_toArray, List.getElem_cons_succ, List.getElem_cons_zero, Act.put, List.setIfInBounds_toArray, List.set_cons_zero, List.set_cons_succ]
          refine wpAnyH_take (i := 8) (v := ?_) rfl (by kernel_rfl) (by kernel_rfl) (by kernel_rfl) (fun _ _ _ h => h) (Or.inl ⟨by rfl, ?_⟩) h0 ?_
          rotate_left
          · (intro w hSw; (try dsimp only at hSw); go_simp); all_goals (with_reducible rfl)
          try simp only [List.getElem_toArray, List.getElem_cons_succ, List.getElem_cons_zero, Act.put, List.setIfInBounds_toArray, List.set_cons_zero, List.set_cons_succ]
          refine wpAnyH_take (i := 11) (v := ?_) rfl (by kernel_rfl) (by kernel_rfl) (by kernel_rfl) (fun _ _ _ h => h) (Or.inl ⟨by rfl, ?_⟩) h0 ?_
          rotate_left
          · (intro w hSw; (try dsimp only at hSw); go_simp); all_goals (with_reducible rfl)
          try simp only [List.getElem_toArray, List.getElem_cons_succ, List.getElem_cons_zero, Act.put, List.setIfInBounds_toArray, List.set_cons_zero, List.set_cons_succ]
          refine wpAnyH_ready (rs := [2]) (by kernel_rfl) (by simp) ?_
          refine AllReadyH.cons rfl (fun K hK => ?_) AllReadyH.nil
          go_simp
          go_at_call 26
          refine (stories_any z1 _ bz1).mono ?_
          rintro e wq1 ⟨aS, nS, cS, rfl, IS, OS, bq⟩
          go_wp2_with fail
          have bX := bel2 h0.1 bq
          clear bq OS
          refine hK.out _ _ ?_ (fun h1 => ?_)
          · exact ⟨bX, cellOver bX haq0, cellOver bX haq1, cellOver bX haq2, cellOver bX haq3, cellOver bX hbq0, cellOver bX hbq1, cellOver bX hbq2, cellOver bX hbq3, cellOver bX hjq0, cellOver bX hjq1, cellOver bX hjq2, cellOver bX hjq3, cellOver bX hzq0, cellOver bX hzq1, cellOver bX hzq2, cellOver bX hzq3⟩
          clear hK K h0 bX
          try simp only [List.getElem_toArray, List.getElem_cons_succ, List.getElem_cons_zero, Act.put, List.setIfInBounds_toArray, List.set_cons_zero, List.set_cons_succ]
          refine wpAnyH_ready (rs := [9]) (by kernel_rfl) (by simp) ?_
          refine AllReadyH.cons rfl (fun K hK => ?_) AllReadyH.nil
          rw [if_pos (by rfl)]
          go_simp
          have hblk := heap_alloc_new wq1 (.cells #[.slice aS nS cS, .slice aA nA cA, .slice aB nB cB, .slice aJ nJ cJ] 23)
          have IS1 := IS.over (below_alloc wq1 (.cells #[.slice aS nS cS, .slice aA nA cA, .slice aB nB cB, .slice aJ nJ cJ] 23))
          have bX := bel2 h1.1 (below_alloc wq1 (.cells #[.slice aS nS cS, .slice aA nA cA, .slice aB nB cB, .slice aJ nJ cJ] 23))
          refine hK.out _ _ ?_ (fun h2 => ?_)
          · exact ⟨bX, cellOver bX haq0, cellOver bX haq1, cellOver bX haq2, cellOver bX haq3, cellOver bX hbq0, cellOver bX hbq1, cellOver bX hbq2, cellOver bX hbq3, cellOver bX hjq0, cellOver bX hjq1, cellOver bX hjq2, cellOver bX hjq3, cellOver bX hzq0, cellOver bX hzq1, cellOver bX hzq2, cellOver bX hzq3⟩
          clear hK K h1 bX
          try simp only [List.getElem_toArray, List.getElem_cons_succ, List.getElem_cons_zero, Act.put, List.setIfInBounds_toArray, List.set_cons_zero, List.set_cons_succ]
          refine wpAnyH_ready (rs := [10]) (by kernel_rfl) (by simp) ?_
          refine AllReadyH.cons rfl (fun K hK => ?_) AllReadyH.nil
          go_simp
          have bX := h2.1
          refine hK.out _ _ ?_ (fun h3 => ?_)
          · exact ⟨bX, cellOver bX haq0, cellOver bX haq1, cellOver bX haq2, cellOver bX haq3, cellOver bX hbq0, cellOver bX hbq1, cellOver bX hbq2, cellOver bX hbq3, cellOver bX hjq0, cellOver bX hjq1, cellOver bX hjq2, cellOver bX hjq3, cellOver bX hzq0, cellOver bX hzq1, cellOver bX hzq2, cellOver bX hzq3⟩
          clear hK K h2 bX
          try simp only [List.getElem_toArray, List.getElem_cons_succ, List.getElem_cons_zero, Act.put, List.setIfInBounds_toArray, List.set_cons_zero, List.set_cons_succ]
          refine wpAnyH_done (by kernel_rfl) ?_ _
          have b3 := bel2 b2 h3.1
          have HS := Lib.hid (show SlicesAt (wq1.alloc (.cells #[.slice aS nS cS, .slice aA nA cA, .slice aB nB cB, .slice aJ nJ cJ] 23)) wq1.heap.size [(storiesL z1, aS, nS, cS), (la.af, aA, nA, cA), (lb.af, aB, nB, cB), (lj.af, aJ, nJ, cJ)] from ⟨hblk, fun e he => by
            simp only [List.mem_cons, List.not_mem_nil, or_false] at he
            rcases he with rfl | rfl | rfl | rfl
            · exact IS1
            · exact (LA.out.over b3).1
            · exact (LB.out.over b3).1
            · exact (LJ.out.over b3).1⟩)
          have bj3 := bel2 bj h3.1
          clear hblk IS1 IS h3 haq0 haq1 haq2 haq3 hbq0 hbq1 hbq2 hbq3 hjq0 hjq1 hjq2 hjq3 hzq0 hzq1 hzq2 hzq3 hcell bc
          go_wp2_with fail
          obtain ⟨q3, hq3⟩ : ∃ q, wq1.heap.size = q := ⟨_, rfl⟩
          obtain ⟨W2, hW2⟩ : ∃ W2, wq1.alloc (.cells #[.slice aS nS cS, .slice aA nA cA, .slice aB nB cB, .slice aJ nJ cJ] 23) = W2 := ⟨_, rfl⟩
          rw [hW2] at b3 bj3 ⊢
          rw [hW2, hq3] at HS
          rw [hq3]
          obtain ⟨E4, hE4⟩ : ∃ L : List (List Int × Option Addr × Nat × Nat), [(storiesL z1, aS, nS, cS), (la.af, aA, nA, cA), (lb.af, aB, nB, cB), (lj.af, aJ, nJ, cJ)] = L := ⟨_, rfl⟩
          have he4 : E4.length = 4 := by rw [← hE4]; rfl
          rw [hE4] at HS
          have HE4 := Lib.hid he4
          clear hW2 hq3 hE4 he4
          go_loopw [58, 7, 15, 17] (fun i ok _ _ wr => ∃ m : Nat, m ≤ 4 ∧ i = .int .i64 m ∧ ok = .bool true ∧ Below W2.heap.size W2 wr) (fun i _ _ _ _ => 4 - (intOf i).toNat)
          case atStart => exact ⟨0, by omega, rfl, rfl, Below.refl _ _⟩
          case round =>
            obtain ⟨m, hm, rfl, rfl, bm⟩ := hrel
            by_cases hlm : m < 4
            · have mm0 : (0 : Int) ≤ m := by omega
              have mm4 : (m : Int) < 4 := by omega
              obtain ⟨zs, a, n, c, -, hcell, IZ⟩ := (HS.out.over bm).at_ (k := m) (by rw [HE4.out]; exact hlm)
              have b4 := bel2 b3 bm
              obtain ⟨haq0, haq1, haq2, haq3⟩ := cells4 (blockOver b4 HA.out)
              obtain ⟨hjq0, hjq1, hjq2, hjq3⟩ := cells4 (blockOver b4 HJ.out)
              obtain ⟨hzq0, hzq1, hzq2, hzq3⟩ := cells4 (blockOver b4 HZ.out)
              obtain ⟨wm, rfl⟩ : ∃ wm, wm = wr := ⟨_, rfl⟩
              have HK := Lib.hid (show NumsAt (wm.alloc (.cells #[.int .i64 z2, .int .i64 la.ap, .int .i64 lj.ap] 3)) wm.heap.size [z2, la.ap, lj.ap] from heap_alloc_new wm _)
              have b5 := bel2 b4 (below_alloc wm (.cells #[.int .i64 z2, .int .i64 la.ap, .int .i64 lj.ap] 3))
              have bm5 := bel2 bm (below_alloc wm (.cells #[.int .i64 z2, .int .i64 la.ap, .int .i64 lj.ap] 3))
              have IZ5 := IZ.over (below_alloc wm (.cells #[.int .i64 z2, .int .i64 la.ap, .int .i64 lj.ap] 3))
              go_wp2_with fail
              obtain ⟨q4, hq4⟩ : ∃ q, wm.heap.size = q := ⟨_, rfl⟩
              obtain ⟨W3, hW3⟩ : ∃ W3, wm.alloc (.cells #[.int .i64 z2, .int .i64 la.ap, .int .i64 lj.ap] 3) = W3 := ⟨_, rfl⟩
              rw [hW3] at b5 bm5 IZ5 ⊢
              rw [hW3, hq4] at HK
              rw [hq4]
              obtain ⟨L3, hL3⟩ : ∃ L : List Int, [z2, la.ap, lj.ap] = L := ⟨_, rfl⟩
              have hl3 : L3.length = 3 := by rw [← hL3]; rfl
              rw [hL3] at HK
              have HL3 := Lib.hid hl3
              have IZH := Lib.hid IZ5
              clear hW3 hq4 hL3 hl3 IZ IZ5 hcell haq0 haq1 haq2 haq3 hjq0 hjq1 hjq2 hjq3 hzq0 hzq1 hzq2 hzq3 b4 bm
              go_loopw [70, 7, 17] (fun i ok _ wr => ∃ r : Nat, r ≤ 3 ∧ i = .int .i64 r ∧ ok = .bool true ∧ Below W3.heap.size W3 wr) (fun i _ _ _ => 3 - (intOf i).toNat)
              case atStart => exact ⟨0, by omega, rfl, rfl, Below.refl _ _⟩
              case round =>
                obtain ⟨r, hr, rfl, rfl, bq3⟩ := hrel
                by_cases hlr : r < 3
                · have rr0 : (0 : Int) ≤ r := by omega
                  have rr3 : (r : Int) < 3 := by omega
                  obtain ⟨nn, -, hcell⟩ := (HK.out.over bq3).at_ (k := r) (by rw [HL3.out]; exact hlr)
                  have b6 := bel2 b5 bq3
                  obtain ⟨haq0, haq1, haq2, haq3⟩ := cells4 (blockOver b6 HA.out)
                  obtain ⟨hbq0, hbq1, hbq2, hbq3⟩ := cells4 (blockOver b6 HB.out)
                  obtain ⟨hjq0, hjq1, hjq2, hjq3⟩ := cells4 (blockOver b6 HJ.out)
                  have LA1 := Lib.hid (LA.out.over b6)
                  have LB1 := Lib.hid (LB.out.over b6)
                  have LJ1 := Lib.hid (LJ.out.over b6)
                  have IZ1 := Lib.hid (IZH.out.over bq3)
                  have hE := EL.out k nw zs nn
                  cases e1 : allB la k nw zs nn
                  · rw [e1] at hE
                    have F0 := Lib.hid e1
                    have F1 := Lib.hid hE
                    clear e1 hE
                    go_wp2_with fail
                    have bc := Below.refl wr.heap.size wr
                    refine wp_region_held_drew (S := fun w' => Below wr.heap.size wr w' ∧ w'.cell? ⟨w2.heap.size, 0, none⟩ = some (.int .i64 la.u) ∧ w'.cell? ⟨w2.heap.size, 1, none⟩ = some (.slice aA nA cA) ∧ w'.cell? ⟨w2.heap.size, 2, none⟩ = some (.int .i64 la.ap) ∧ w'.cell? ⟨w2.heap.size, 3, none⟩ = some (.int .i64 la.d) ∧ w'.cell? ⟨w3.heap.size, 0, none⟩ = some (.int .i64 lb.u) ∧ w'.cell? ⟨w3.heap.size, 1, none⟩ = some (.slice aB nB cB) ∧ w'.cell? ⟨w3.heap.size, 2, none⟩ = some (.int .i64 lb.ap) ∧ w'.cell? ⟨w3.heap.size, 3, none⟩ = some (.int .i64 lb.d) ∧ w'.cell? ⟨w4.heap.size, 0, none⟩ = some (.int .i64 lj.u) ∧ w'.cell? ⟨w4.heap.size, 1, none⟩ = some (.slice aJ nJ cJ) ∧ w'.cell? ⟨w4.heap.size, 2, none⟩ = some (.int .i64 lj.ap) ∧ w'.cell? ⟨w4.heap.size, 3, none⟩ = some (.int .i64 lj.d)) (by kernel_rfl) ?_ (fun h0 => ?_)
                    · exact ⟨bc.drew, haq0, haq1, haq2, haq3, hbq0, hbq1, hbq2, hbq3, hjq0, hjq1, hjq2, hjq3⟩
                    refine wpAnyH_take (i := 0) (v := ?_) rfl (by kernel_rfl) (by kernel_rfl) (by kernel_rfl) (fun _ _ _ h => h) (Or.inl ⟨by rfl, ?_⟩) h0 ?_
                    rotate_left
                    · (intro w hSw; (try dsimp only at hSw); go_simp); all_goals (with_reducible rfl)
                    try simp only [List.getElem_toArray, List.getElem_cons_succ, List.getElem_cons_zero, Act.put, List.setIfInBounds_toArray, List.set_cons_zero, List.set_cons_succ]
                    refine wpAnyH_take (i := 1) (v := ?_) rfl (by kernel_rfl) (by kernel_rfl) (by kernel_rfl) (fun _ _ _ h => h) (Or.inl ⟨by rfl, ?_⟩) h0 ?_
                    rotate_left
                    · (intro w hSw; (try dsimp only at hSw); go_simp); all_goals (with_reducible rfl)
                    try simp only [List.getElem_toArray, List.getElem_cons_succ, List.getElem_cons_zero, Act.put, List.setIfInBounds_toArray, List.set_cons_zero, List.set_cons_succ]
                    refine wpAnyH_take (i := 2) (v := ?_) rfl (by kernel_rfl) (by kernel_rfl) (by kernel_rfl) (fun _ _ _ h => h) (Or.inl ⟨by rfl, ?_⟩) h0 ?_
                    rotate_left
                    · (intro w hSw; (try dsimp only at hSw); go_simp); all_goals (with_reducible rfl)
                    try simp only [List.getElem_toArray, List.getElem_cons_succ, List.getElem_cons_zero, Act.put, List.setIfInBounds_toArray, List.set_cons_zero, List.set_cons_succ]
                    refine wpAnyH_take (i := 3) (v := ?_) rfl (by kernel_rfl) (by kernel_rfl) (by kernel_rfl) (fun _ _ _ h => h) (Or.inl ⟨by rfl, ?_⟩) h0 ?_
                    rotate_left
                    · (intro w hSw; (try dsimp only at hSw); go_simp); all_goals (with_reducible rfl)
                    try simp only [List.getElem_toArray, List.getElem_cons_succ, List.getElem_cons_zero, Act.put, List.setIfInBounds_toArray, List.set_cons_zero, List.set_cons_succ]
                    refine wpAnyH_take (i := 4) (v := ?_) rfl (by kernel_rfl) (by kernel_rfl) (by kernel_rfl) (fun _ _ _ h => h) (Or.inl ⟨by rfl, ?_⟩) h0 ?_
                    rotate_left
                    · (intro w hSw; (try dsimp only at hSw); go_simp); all_goals (with_reducible rfl)
                    try simp only [List.getElem_toArray, List.getElem_cons_succ, List.getElem_cons_zero, Act.put, List.setIfInBounds_toArray, List.set_cons_zero, List.set_cons_succ]
                    refine wpAnyH_take (i := 5) (v := ?_) rfl (by kernel_rfl) (by kernel_rfl) (by kernel_rfl) (fun _ _ _ h => h) (Or.inl ⟨by rfl, ?_⟩) h0 ?_
                    rotate_left
                    · (intro w hSw; (try dsimp only at hSw); go_simp); all_goals (with_reducible rfl)
                    try simp only [List.getElem_toArray, List.getElem_cons_succ, List.getElem_cons_zero, Act.put, List.setIfInBounds_toArray, List.set_cons_zero, List.set_cons_succ]
                    refine wpAnyH_take (i := 6) (v := ?_) rfl (by kernel_rfl) (by kernel_rfl) (by kernel_rfl) (fun _ _ _ h => h) (Or.inl ⟨by rfl, ?_⟩) h0 ?_
                    rotate_left
                    · (intro w hSw; (try dsimp only at hSw); go_simp); all_goals (with_reducible rfl)
                    try simp only [List.getElem_toArray, List.getElem_cons_succ, List.getElem_cons_zero, Act.put, List.setIfInBounds_toArray, List.set_cons_zero, List.set_cons_succ]
                    refine wpAnyH_take (i := 8) (v := ?_) rfl (by kernel_rfl) (by kernel_rfl) (by kernel_rfl) (fun _ _ _ h => h) (Or.inl ⟨by rfl, ?_⟩) h0 ?_
                    rotate_left
                    · (intro w hSw; (try dsimp only at hSw); go_simp); all_goals (with_reducible rfl)
                    try simp only [List.getElem_toArray, List.getElem_cons_succ, List.getElem_cons_zero, Act.put, List.setIfInBounds_toArray, List.set_cons_zero, List.set_cons_succ]
                    refine wpAnyH_take (i := 9) (v := ?_) rfl (by kernel_rfl) (by kernel_rfl) (by kernel_rfl) (fun _ _ _ h => h) (Or.inl ⟨by rfl, ?_⟩) h0 ?_
                    rotate_left
                    · (intro w hSw; (try dsimp only at hSw); go_simp); all_goals (with_reducible rfl)
                    try simp only [List.getElem_toArray, List.getElem_cons_succ, List.getElem_cons_zero, Act.put, List.setIfInBounds_toArray, List.set_cons_zero, List.set_cons_succ]
                    refine wpAnyH_take (i := 10) (v := ?_) rfl (by kernel_rfl) (by kernel_rfl) (by kernel_rfl) (fun _ _ _ h => h) (Or.inl ⟨by rfl, ?_⟩) h0 ?_
                    rotate_left
                    · (intro w hSw; (try dsimp only at hSw); go_simp); all_goals (with_reducible rfl)
                    try simp only [List.getElem_toArray, List.getElem_cons_succ, List.getElem_cons_zero, Act.put, List.setIfInBounds_toArray, List.set_cons_zero, List.set_cons_succ]
                    refine wpAnyH_take (i := 11) (v := ?_) rfl (by kernel_rfl) (by kernel_rfl) (by kernel_rfl) (fun _ _ _ h => h) (Or.inl ⟨by rfl, ?_⟩) h0 ?_
                    rotate_left
                    · (intro w hSw; (try dsimp only at hSw); go_simp); all_goals (with_reducible rfl)
                    try simp only [List.getElem_toArray, List.getElem_cons_succ, List.getElem_cons_zero, Act.put, List.setIfInBounds_toArray, List.set_cons_zero, List.set_cons_succ]
                    refine wpAnyH_take (i := 12) (v := ?_) rfl (by kernel_rfl) (by kernel_rfl) (by kernel_rfl) (fun _ _ _ h => h) (Or.inl ⟨by rfl, ?_⟩) h0 ?_
                    rotate_left
                    · (intro w hSw; (try dsimp only at hSw); go_simp); all_goals (with_reducible rfl)
                    try simp only [List.getElem_toArray, List.getElem_cons_succ, List.getElem_cons_zero, Act.put, List.setIfInBounds_toArray, List.set_cons_zero, List.set_cons_succ]
                    refine wpAnyH_ready (rs := [7]) (by kernel_rfl) (by simp) ?_
                    refine AllReadyH.cons rfl (fun K hK => ?_) AllReadyH.nil
                    go_simp
                    go_at_call 24
                    refine (allows_eq lj k nw nn zs false (by rw [F1.out]; rfl) _ _ _ _ _ _ _ (by unfold Bd; omega) (LabAt.over h0.1 LJ1.out) (IsInts.over h0.1 IZ1.out)).mono ?_
                    rintro e wq0 ⟨rfl, bq⟩
                    go_wp2_with fail
                    have bX := bel2 h0.1 bq
                    refine hK.out _ _ ?_ (fun h1 => ?_)
                    · exact ⟨bX, cellOver bX haq0, cellOver bX haq1, cellOver bX haq2, cellOver bX haq3, cellOver bX hbq0, cellOver bX hbq1, cellOver bX hbq2, cellOver bX hbq3, cellOver bX hjq0, cellOver bX hjq1, cellOver bX hjq2, cellOver bX hjq3⟩
                    clear hK K h0 bX bq
                    try simp only [List.getElem_toArray, List.getElem_cons_succ, List.getElem_cons_zero, Act.put, List.setIfInBounds_toArray, List.set_cons_zero, List.set_cons_succ]
                    refine wpAnyH_ready (rs := [13]) (by kernel_rfl) (by simp) ?_
                    refine AllReadyH.cons rfl (fun K hK => ?_) AllReadyH.nil
                    go_simp
                    go_at_call 24
                    refine (allows_eq la k nw nn zs false F0.out _ _ _ _ _ _ _ (by unfold Bd; omega) (LabAt.over h1.1 LA1.out) (IsInts.over h1.1 IZ1.out)).mono ?_
                    rintro e wq1 ⟨rfl, bq⟩
                    go_wp2_with fail
                    have bX := bel2 h1.1 bq
                    refine hK.out _ _ ?_ (fun h2 => ?_)
                    · exact ⟨bX, cellOver bX haq0, cellOver bX haq1, cellOver bX haq2, cellOver bX haq3, cellOver bX hbq0, cellOver bX hbq1, cellOver bX hbq2, cellOver bX hbq3, cellOver bX hjq0, cellOver bX hjq1, cellOver bX hjq2, cellOver bX hjq3⟩
                    clear hK K h1 bX bq
                    try simp only [List.getElem_toArray, List.getElem_cons_succ, List.getElem_cons_zero, Act.put, List.setIfInBounds_toArray, List.set_cons_zero, List.set_cons_succ]
                    refine wpAnyH_take (i := 14) (v := ?_) rfl (by kernel_rfl) (by kernel_rfl) (by kernel_rfl) (fun _ _ _ h => h) (Or.inl ⟨by rfl, ?_⟩) h2 ?_
                    rotate_left
                    · (intro w hSw; (try dsimp only at hSw); go_simp); all_goals (with_reducible rfl)
                    try simp only [List.getElem_toArray, List.getElem_cons_succ, List.getElem_cons_zero, Act.put, List.setIfInBounds_toArray, List.set_cons_zero, List.set_cons_succ]
                    refine wpAnyH_take (i := 15) (v := undef) rfl (by kernel_rfl) (by kernel_rfl) (by kernel_rfl) (fun _ _ _ h => h) (Or.inr ⟨by rfl, rfl⟩) h2 ?_
                    try simp only [List.getElem_toArray, List.getElem_cons_succ, List.getElem_cons_zero, Act.put, List.setIfInBounds_toArray, List.set_cons_zero, List.set_cons_succ]
                    refine wpAnyH_take (i := 16) (v := undef) rfl (by kernel_rfl) (by kernel_rfl) (by kernel_rfl) (fun _ _ _ h => h) (Or.inr ⟨by rfl, rfl⟩) h2 ?_
                    try simp only [List.getElem_toArray, List.getElem_cons_succ, List.getElem_cons_zero, Act.put, List.setIfInBounds_toArray, List.set_cons_zero, List.set_cons_succ]
                    refine wpAnyH_take (i := 17) (v := undef) rfl (by kernel_rfl) (by kernel_rfl) (by kernel_rfl) (fun _ _ _ h => h) (Or.inr ⟨by rfl, rfl⟩) h2 ?_
                    try simp only [List.getElem_toArray, List.getElem_cons_succ, List.getElem_cons_zero, Act.put, List.setIfInBounds_toArray, List.set_cons_zero, List.set_cons_succ]
                    refine wpAnyH_take (i := 18) (v := undef) rfl (by kernel_rfl) (by kernel_rfl) (by kernel_rfl) (fun _ _ _ h => h) (Or.inr ⟨by rfl, rfl⟩) h2 ?_
                    try simp only [List.getElem_toArray, List.getElem_cons_succ, List.getElem_cons_zero, Act.put, List.setIfInBounds_toArray, List.set_cons_zero, List.set_cons_succ]
                    refine wpAnyH_take (i := 19) (v := undef) rfl (by kernel_rfl) (by kernel_rfl) (by kernel_rfl) (fun _ _ _ h => h) (Or.inr ⟨by rfl, rfl⟩) h2 ?_
                    try simp only [List.getElem_toArray, List.getElem_cons_succ, List.getElem_cons_zero, Act.put, List.setIfInBounds_toArray, List.set_cons_zero, List.set_cons_succ]
                    refine wpAnyH_take (i := 20) (v := undef) rfl (by kernel_rfl) (by kernel_rfl) (by kernel_rfl) (fun _ _ _ h => h) (Or.inr ⟨by rfl, rfl⟩) h2 ?_
                    try simp only [List.getElem_toArray, List.getElem_cons_succ, List.getElem_cons_zero, Act.put, List.setIfInBounds_toArray, List.set_cons_zero, List.set_cons_succ]
                    refine wpAnyH_take (i := 21) (v := ?_) rfl (by kernel_rfl) (by kernel_rfl) (by kernel_rfl) (fun _ _ _ h => h) (Or.inl ⟨by rfl, ?_⟩) h2 ?_
                    rotate_left
                    · (intro w hSw; (try dsimp only at hSw); go_simp); all_goals (with_reducible rfl)
                    try simp only [List.getElem_toArray, List.getElem_cons_succ, List.getElem_cons_zero, Act.put, List.setIfInBounds_toArray, List.set_cons_zero, List.set_cons_succ]
                    refine wpAnyH_take (i := 22) (v := ?_) rfl (by kernel_rfl) (by kernel_rfl) (by kernel_rfl) (fun _ _ _ h => h) (Or.inl ⟨by rfl, ?_⟩) h2 ?_
                    rotate_left
                    · (intro w hSw; (try dsimp only at hSw); go_simp); all_goals (with_reducible rfl)
                    try simp only [List.getElem_toArray, List.getElem_cons_succ, List.getElem_cons_zero, Act.put, List.setIfInBounds_toArray, List.set_cons_zero, List.set_cons_succ]
                    refine wpAnyH_take (i := 23) (v := ?_) rfl (by kernel_rfl) (by kernel_rfl) (by kernel_rfl) (fun _ _ _ h => h) (Or.inl ⟨by rfl, ?_⟩) h2 ?_
                    rotate_left
                    · (intro w hSw; (try dsimp only at hSw); go_simp); all_goals (with_reducible rfl)
                    try simp only [List.getElem_toArray, List.getElem_cons_succ, List.getElem_cons_zero, Act.put, List.setIfInBounds_toArray, List.set_cons_zero, List.set_cons_succ]
                    refine wpAnyH_take (i := 24) (v := ?_) rfl (by kernel_rfl) (by kernel_rfl) (by kernel_rfl) (fun _ _ _ h => h) (Or.inl ⟨by rfl, ?_⟩) h2 ?_
                    rotate_left
                    · (intro w hSw; (try dsimp only at hSw); go_simp); all_goals (with_reducible rfl)
                    try simp only [List.getElem_toArray, List.getElem_cons_succ, List.getElem_cons_zero, Act.put, List.setIfInBounds_toArray, List.set_cons_zero, List.set_cons_succ]
                    refine wpAnyH_done (by kernel_rfl) ?_ _
                    have bz := bel2 bq3 h2.1
                    go_wp2
                    exact ⟨⟨r + 1, by omega, by go_num, rfl, bz⟩, by simp [intOf]; omega⟩
                  · rw [e1] at hE
                    cases e2 : allB lb k nw zs nn
                    · rw [e2] at hE
                      have F0 := Lib.hid e1
                      have F1 := Lib.hid hE
                      have F2 := Lib.hid e2
                      clear e1 e2 hE
                      go_wp2_with fail
                      have bc := Below.refl wr.heap.size wr
                      refine wp_region_held_drew (S := fun w' => Below wr.heap.size wr w' ∧ w'.cell? ⟨w2.heap.size, 0, none⟩ = some (.int .i64 la.u) ∧ w'.cell? ⟨w2.heap.size, 1, none⟩ = some (.slice aA nA cA) ∧ w'.cell? ⟨w2.heap.size, 2, none⟩ = some (.int .i64 la.ap) ∧ w'.cell? ⟨w2.heap.size, 3, none⟩ = some (.int .i64 la.d) ∧ w'.cell? ⟨w3.heap.size, 0, none⟩ = some (.int .i64 lb.u) ∧ w'.cell? ⟨w3.heap.size, 1, none⟩ = some (.slice aB nB cB) ∧ w'.cell? ⟨w3.heap.size, 2, none⟩ = some (.int .i64 lb.ap) ∧ w'.cell? ⟨w3.heap.size, 3, none⟩ = some (.int .i64 lb.d) ∧ w'.cell? ⟨w4.heap.size, 0, none⟩ = some (.int .i64 lj.u) ∧ w'.cell? ⟨w4.heap.size, 1, none⟩ = some (.slice aJ nJ cJ) ∧ w'.cell? ⟨w4.heap.size, 2, none⟩ = some (.int .i64 lj.ap) ∧ w'.cell? ⟨w4.heap.size, 3, none⟩ = some (.int .i64 lj.d)) (by kernel_rfl) ?_ (fun h0 => ?_)
                      · exact ⟨bc.drew, haq0, haq1, haq2, haq3, hbq0, hbq1, hbq2, hbq3, hjq0, hjq1, hjq2, hjq3⟩
                      refine wpAnyH_take (i := 0) (v := ?_) rfl (by kernel_rfl) (by kernel_rfl) (by kernel_rfl) (fun _ _ _ h => h) (Or.inl ⟨by rfl, ?_⟩) h0 ?_
                      rotate_left
                      · (intro w hSw; (try dsimp only at hSw); go_simp); all_goals (with_reducible rfl)
                      try simp only [List.getElem_toArray, List.getElem_cons_succ, List.getElem_cons_zero, Act.put, List.setIfInBounds_toArray, List.set_cons_zero, List.set_cons_succ]
                      refine wpAnyH_take (i := 1) (v := ?_) rfl (by kernel_rfl) (by kernel_rfl) (by kernel_rfl) (fun _ _ _ h => h) (Or.inl ⟨by rfl, ?_⟩) h0 ?_
                      rotate_left
                      · (intro w hSw; (try dsimp only at hSw); go_simp); all_goals (with_reducible rfl)
                      try simp only [List.getElem_toArray, List.getElem_cons_succ, List.getElem_cons_zero, Act.put, List.setIfInBounds_toArray, List.set_cons_zero, List.set_cons_succ]
                      refine wpAnyH_take (i := 2) (v := ?_) rfl (by kernel_rfl) (by kernel_rfl) (by kernel_rfl) (fun _ _ _ h => h) (Or.inl ⟨by rfl, ?_⟩) h0 ?_
                      rotate_left
                      · (intro w hSw; (try dsimp only at hSw); go_simp); all_goals (with_reducible rfl)
                      try simp only [List.getElem_toArray, List.getElem_cons_succ, List.getElem_cons_zero, Act.put, List.setIfInBounds_toArray, List.set_cons_zero, List.set_cons_succ]
                      refine wpAnyH_take (i := 3) (v := ?_) rfl (by kernel_rfl) (by kernel_rfl) (by kernel_rfl) (fun _ _ _ h => h) (Or.inl ⟨by rfl, ?_⟩) h0 ?_
                      rotate_left
                      · (intro w hSw; (try dsimp only at hSw); go_simp); all_goals (with_reducible rfl)
                      try simp only [List.getElem_toArray, List.getElem_cons_succ, List.getElem_cons_zero, Act.put, List.setIfInBounds_toArray, List.set_cons_zero, List.set_cons_succ]
                      refine wpAnyH_take (i := 4) (v := ?_) rfl (by kernel_rfl) (by kernel_rfl) (by kernel_rfl) (fun _ _ _ h => h) (Or.inl ⟨by rfl, ?_⟩) h0 ?_
                      rotate_left
                      · (intro w hSw; (try dsimp only at hSw); go_simp); all_goals (with_reducible rfl)
                      try simp only [List.getElem_toArray, List.getElem_cons_succ, List.getElem_cons_zero, Act.put, List.setIfInBounds_toArray, List.set_cons_zero, List.set_cons_succ]
                      refine wpAnyH_take (i := 5) (v := ?_) rfl (by kernel_rfl) (by kernel_rfl) (by kernel_rfl) (fun _ _ _ h => h) (Or.inl ⟨by rfl, ?_⟩) h0 ?_
                      rotate_left
                      · (intro w hSw; (try dsimp only at hSw); go_simp); all_goals (with_reducible rfl)
                      try simp only [List.getElem_toArray, List.getElem_cons_succ, List.getElem_cons_zero, Act.put, List.setIfInBounds_toArray, List.set_cons_zero, List.set_cons_succ]
                      refine wpAnyH_take (i := 6) (v := ?_) rfl (by kernel_rfl) (by kernel_rfl) (by kernel_rfl) (fun _ _ _ h => h) (Or.inl ⟨by rfl, ?_⟩) h0 ?_
                      rotate_left
                      · (intro w hSw; (try dsimp only at hSw); go_simp); all_goals (with_reducible rfl)
                      try simp only [List.getElem_toArray, List.getElem_cons_succ, List.getElem_cons_zero, Act.put, List.setIfInBounds_toArray, List.set_cons_zero, List.set_cons_succ]
                      refine wpAnyH_take (i := 8) (v := ?_) rfl (by kernel_rfl) (by kernel_rfl) (by kernel_rfl) (fun _ _ _ h => h) (Or.inl ⟨by rfl, ?_⟩) h0 ?_
                      rotate_left
                      · (intro w hSw; (try dsimp only at hSw); go_simp); all_goals (with_reducible rfl)
                      try simp only [List.getElem_toArray, List.getElem_cons_succ, List.getElem_cons_zero, Act.put, List.setIfInBounds_toArray, List.set_cons_zero, List.set_cons_succ]
                      refine wpAnyH_take (i := 9) (v := ?_) rfl (by kernel_rfl) (by kernel_rfl) (by kernel_rfl) (fun _ _ _ h => h) (Or.inl ⟨by rfl, ?_⟩) h0 ?_
                      rotate_left
                      · (intro w hSw; (try dsimp only at hSw); go_simp); all_goals (with_reducible rfl)
                      try simp only [List.getElem_toArray, List.getElem_cons_succ, List.getElem_cons_zero, Act.put, List.setIfInBounds_toArray, List.set_cons_zero, List.set_cons_succ]
                      refine wpAnyH_take (i := 10) (v := ?_) rfl (by kernel_rfl) (by kernel_rfl) (by kernel_rfl) (fun _ _ _ h => h) (Or.inl ⟨by rfl, ?_⟩) h0 ?_
                      rotate_left
                      · (intro w hSw; (try dsimp only at hSw); go_simp); all_goals (with_reducible rfl)
                      try simp only [List.getElem_toArray, List.getElem_cons_succ, List.getElem_cons_zero, Act.put, List.setIfInBounds_toArray, List.set_cons_zero, List.set_cons_succ]
                      refine wpAnyH_take (i := 11) (v := ?_) rfl (by kernel_rfl) (by kernel_rfl) (by kernel_rfl) (fun _ _ _ h => h) (Or.inl ⟨by rfl, ?_⟩) h0 ?_
                      rotate_left
                      · (intro w hSw; (try dsimp only at hSw); go_simp); all_goals (with_reducible rfl)
                      try simp only [List.getElem_toArray, List.getElem_cons_succ, List.getElem_cons_zero, Act.put, List.setIfInBounds_toArray, List.set_cons_zero, List.set_cons_succ]
                      refine wpAnyH_take (i := 12) (v := ?_) rfl (by kernel_rfl) (by kernel_rfl) (by kernel_rfl) (fun _ _ _ h => h) (Or.inl ⟨by rfl, ?_⟩) h0 ?_
                      rotate_left
                      · (intro w hSw; (try dsimp only at hSw); go_simp); all_goals (with_reducible rfl)
                      try simp only [List.getElem_toArray, List.getElem_cons_succ, List.getElem_cons_zero, Act.put, List.setIfInBounds_toArray, List.set_cons_zero, List.set_cons_succ]
                      refine wpAnyH_ready (rs := [7]) (by kernel_rfl) (by simp) ?_
                      refine AllReadyH.cons rfl (fun K hK => ?_) AllReadyH.nil
                      go_simp
                      go_at_call 24
                      refine (allows_eq lj k nw nn zs false (by rw [F1.out]; rfl) _ _ _ _ _ _ _ (by unfold Bd; omega) (LabAt.over h0.1 LJ1.out) (IsInts.over h0.1 IZ1.out)).mono ?_
                      rintro e wq0 ⟨rfl, bq⟩
                      go_wp2_with fail
                      have bX := bel2 h0.1 bq
                      refine hK.out _ _ ?_ (fun h1 => ?_)
                      · exact ⟨bX, cellOver bX haq0, cellOver bX haq1, cellOver bX haq2, cellOver bX haq3, cellOver bX hbq0, cellOver bX hbq1, cellOver bX hbq2, cellOver bX hbq3, cellOver bX hjq0, cellOver bX hjq1, cellOver bX hjq2, cellOver bX hjq3⟩
                      clear hK K h0 bX bq
                      try simp only [List.getElem_toArray, List.getElem_cons_succ, List.getElem_cons_zero, Act.put, List.setIfInBounds_toArray, List.set_cons_zero, List.set_cons_succ]
                      refine wpAnyH_ready (rs := [13]) (by kernel_rfl) (by simp) ?_
                      refine AllReadyH.cons rfl (fun K hK => ?_) AllReadyH.nil
                      go_simp
                      go_at_call 24
                      refine (allows_eq la k nw nn zs true F0.out _ _ _ _ _ _ _ (by unfold Bd; omega) (LabAt.over h1.1 LA1.out) (IsInts.over h1.1 IZ1.out)).mono ?_
                      rintro e wq1 ⟨rfl, bq⟩
                      go_wp2_with fail
                      have bX := bel2 h1.1 bq
                      refine hK.out _ _ ?_ (fun h2 => ?_)
                      · exact ⟨bX, cellOver bX haq0, cellOver bX haq1, cellOver bX haq2, cellOver bX haq3, cellOver bX hbq0, cellOver bX hbq1, cellOver bX hbq2, cellOver bX hbq3, cellOver bX hjq0, cellOver bX hjq1, cellOver bX hjq2, cellOver bX hjq3⟩
                      clear hK K h1 bX bq
                      try simp only [List.getElem_toArray, List.getElem_cons_succ, List.getElem_cons_zero, Act.put, List.setIfInBounds_toArray, List.set_cons_zero, List.set_cons_succ]
                      refine wpAnyH_take (i := 14) (v := ?_) rfl (by kernel_rfl) (by kernel_rfl) (by kernel_rfl) (fun _ _ _ h => h) (Or.inl ⟨by rfl, ?_⟩) h2 ?_
                      rotate_left
                      · (intro w hSw; (try dsimp only at hSw); go_simp); all_goals (with_reducible rfl)
                      try simp only [List.getElem_toArray, List.getElem_cons_succ, List.getElem_cons_zero, Act.put, List.setIfInBounds_toArray, List.set_cons_zero, List.set_cons_succ]
                      refine wpAnyH_take (i := 15) (v := ?_) rfl (by kernel_rfl) (by kernel_rfl) (by kernel_rfl) (fun _ _ _ h => h) (Or.inl ⟨by rfl, ?_⟩) h2 ?_
                      rotate_left
                      · (intro w hSw; (try dsimp only at hSw); go_simp); all_goals (with_reducible rfl)
                      try simp only [List.getElem_toArray, List.getElem_cons_succ, List.getElem_cons_zero, Act.put, List.setIfInBounds_toArray, List.set_cons_zero, List.set_cons_succ]
                      refine wpAnyH_take (i := 16) (v := ?_) rfl (by kernel_rfl) (by kernel_rfl) (by kernel_rfl) (fun _ _ _ h => h) (Or.inl ⟨by rfl, ?_⟩) h2 ?_
                      rotate_left
                      · (intro w hSw; (try dsimp only at hSw); go_simp); all_goals (with_reducible rfl)
                      try simp only [List.getElem_toArray, List.getElem_cons_succ, List.getElem_cons_zero, Act.put, List.setIfInBounds_toArray, List.set_cons_zero, List.set_cons_succ]
                      refine wpAnyH_take (i := 17) (v := ?_) rfl (by kernel_rfl) (by kernel_rfl) (by kernel_rfl) (fun _ _ _ h => h) (Or.inl ⟨by rfl, ?_⟩) h2 ?_
                      rotate_left
                      · (intro w hSw; (try dsimp only at hSw); go_simp); all_goals (with_reducible rfl)
                      try simp only [List.getElem_toArray, List.getElem_cons_succ, List.getElem_cons_zero, Act.put, List.setIfInBounds_toArray, List.set_cons_zero, List.set_cons_succ]
                      refine wpAnyH_take (i := 18) (v := ?_) rfl (by kernel_rfl) (by kernel_rfl) (by kernel_rfl) (fun _ _ _ h => h) (Or.inl ⟨by rfl, ?_⟩) h2 ?_
                      rotate_left
                      · (intro w hSw; (try dsimp only at hSw); go_simp); all_goals (with_reducible rfl)
                      try simp only [List.getElem_toArray, List.getElem_cons_succ, List.getElem_cons_zero, Act.put, List.setIfInBounds_toArray, List.set_cons_zero, List.set_cons_succ]
                      refine wpAnyH_take (i := 19) (v := ?_) rfl (by kernel_rfl) (by kernel_rfl) (by kernel_rfl) (fun _ _ _ h => h) (Or.inl ⟨by rfl, ?_⟩) h2 ?_
                      rotate_left
                      · (intro w hSw; (try dsimp only at hSw); go_simp); all_goals (with_reducible rfl)
                      try simp only [List.getElem_toArray, List.getElem_cons_succ, List.getElem_cons_zero, Act.put, List.setIfInBounds_toArray, List.set_cons_zero, List.set_cons_succ]
                      refine wpAnyH_ready (rs := [20]) (by kernel_rfl) (by simp) ?_
                      refine AllReadyH.cons rfl (fun K hK => ?_) AllReadyH.nil
                      go_simp
                      go_at_call 24
                      refine (allows_eq lb k nw nn zs false F2.out _ _ _ _ _ _ _ (by unfold Bd; omega) (LabAt.over h2.1 LB1.out) (IsInts.over h2.1 IZ1.out)).mono ?_
                      rintro e wq2 ⟨rfl, bq⟩
                      go_wp2_with fail
                      have bX := bel2 h2.1 bq
                      refine hK.out _ _ ?_ (fun h3 => ?_)
                      · exact ⟨bX, cellOver bX haq0, cellOver bX haq1, cellOver bX haq2, cellOver bX haq3, cellOver bX hbq0, cellOver bX hbq1, cellOver bX hbq2, cellOver bX hbq3, cellOver bX hjq0, cellOver bX hjq1, cellOver bX hjq2, cellOver bX hjq3⟩
                      clear hK K h2 bX bq
                      try simp only [List.getElem_toArray, List.getElem_cons_succ, List.getElem_cons_zero, Act.put, List.setIfInBounds_toArray, List.set_cons_zero, List.set_cons_succ]
                      refine wpAnyH_take (i := 21) (v := ?_) rfl (by kernel_rfl) (by kernel_rfl) (by kernel_rfl) (fun _ _ _ h => h) (Or.inl ⟨by rfl, ?_⟩) h3 ?_
                      rotate_left
                      · (intro w hSw; (try dsimp only at hSw); go_simp); all_goals (with_reducible rfl)
                      try simp only [List.getElem_toArray, List.getElem_cons_succ, List.getElem_cons_zero, Act.put, List.setIfInBounds_toArray, List.set_cons_zero, List.set_cons_succ]
                      refine wpAnyH_take (i := 22) (v := ?_) rfl (by kernel_rfl) (by kernel_rfl) (by kernel_rfl) (fun _ _ _ h => h) (Or.inl ⟨by rfl, ?_⟩) h3 ?_
                      rotate_left
                      · (intro w hSw; (try dsimp only at hSw); go_simp); all_goals (with_reducible rfl)
                      try simp only [List.getElem_toArray, List.getElem_cons_succ, List.getElem_cons_zero, Act.put, List.setIfInBounds_toArray, List.set_cons_zero, List.set_cons_succ]
                      refine wpAnyH_take (i := 23) (v := ?_) rfl (by kernel_rfl) (by kernel_rfl) (by kernel_rfl) (fun _ _ _ h => h) (Or.inl ⟨by rfl, ?_⟩) h3 ?_
                      rotate_left
                      · (intro w hSw; (try dsimp only at hSw); go_simp); all_goals (with_reducible rfl)
                      try simp only [List.getElem_toArray, List.getElem_cons_succ, List.getElem_cons_zero, Act.put, List.setIfInBounds_toArray, List.set_cons_zero, List.set_cons_succ]
                      refine wpAnyH_take (i := 24) (v := ?_) rfl (by kernel_rfl) (by kernel_rfl) (by kernel_rfl) (fun _ _ _ h => h) (Or.inl ⟨by rfl, ?_⟩) h3 ?_
                      rotate_left
                      · (intro w hSw; (try dsimp only at hSw); go_simp); all_goals (with_reducible rfl)
                      try simp only [List.getElem_toArray, List.getElem_cons_succ, List.getElem_cons_zero, Act.put, List.setIfInBounds_toArray, List.set_cons_zero, List.set_cons_succ]
                      refine wpAnyH_done (by kernel_rfl) ?_ _
                      have bz := bel2 bq3 h3.1
                      go_wp2
                      exact ⟨⟨r + 1, by omega, by go_num, rfl, bz⟩, by simp [intOf]; omega⟩
                    · rw [e2] at hE
                      have F0 := Lib.hid e1
                      have F1 := Lib.hid hE
                      have F2 := Lib.hid e2
                      clear e1 e2 hE
                      go_wp2_with fail
                      have bc := Below.refl wr.heap.size wr
                      refine wp_region_held_drew (S := fun w' => Below wr.heap.size wr w' ∧ w'.cell? ⟨w2.heap.size, 0, none⟩ = some (.int .i64 la.u) ∧ w'.cell? ⟨w2.heap.size, 1, none⟩ = some (.slice aA nA cA) ∧ w'.cell? ⟨w2.heap.size, 2, none⟩ = some (.int .i64 la.ap) ∧ w'.cell? ⟨w2.heap.size, 3, none⟩ = some (.int .i64 la.d) ∧ w'.cell? ⟨w3.heap.size, 0, none⟩ = some (.int .i64 lb.u) ∧ w'.cell? ⟨w3.heap.size, 1, none⟩ = some (.slice aB nB cB) ∧ w'.cell? ⟨w3.heap.size, 2, none⟩ = some (.int .i64 lb.ap) ∧ w'.cell? ⟨w3.heap.size, 3, none⟩ = some (.int .i64 lb.d) ∧ w'.cell? ⟨w4.heap.size, 0, none⟩ = some (.int .i64 lj.u) ∧ w'.cell? ⟨w4.heap.size, 1, none⟩ = some (.slice aJ nJ cJ) ∧ w'.cell? ⟨w4.heap.size, 2, none⟩ = some (.int .i64 lj.ap) ∧ w'.cell? ⟨w4.heap.size, 3, none⟩ = some (.int .i64 lj.d)) (by kernel_rfl) ?_ (fun h0 => ?_)
                      · exact ⟨bc.drew, haq0, haq1, haq2, haq3, hbq0, hbq1, hbq2, hbq3, hjq0, hjq1, hjq2, hjq3⟩
                      refine wpAnyH_take (i := 0) (v := ?_) rfl (by kernel_rfl) (by kernel_rfl) (by kernel_rfl) (fun _ _ _ h => h) (Or.inl ⟨by rfl, ?_⟩) h0 ?_
                      rotate_left
                      · (intro w hSw; (try dsimp only at hSw); go_simp); all_goals (with_reducible rfl)
                      try simp only [List.getElem_toArray, List.getElem_cons_succ, List.getElem_cons_zero, Act.put, List.setIfInBounds_toArray, List.set_cons_zero, List.set_cons_succ]
                      refine wpAnyH_take (i := 1) (v := ?_) rfl (by kernel_rfl) (by kernel_rfl) (by kernel_rfl) (fun _ _ _ h => h) (Or.inl ⟨by rfl, ?_⟩) h0 ?_
                      rotate_left
                      · (intro w hSw; (try dsimp only at hSw); go_simp); all_goals (with_reducible rfl)
                      try simp only [List.getElem_toArray, List.getElem_cons_succ, List.getElem_cons_zero, Act.put, List.setIfInBounds_toArray, List.set_cons_zero, List.set_cons_succ]
                      refine wpAnyH_take (i := 2) (v := ?_) rfl (by kernel_rfl) (by kernel_rfl) (by kernel_rfl) (fun _ _ _ h => h) (Or.inl ⟨by rfl, ?_⟩) h0 ?_
                      rotate_left
                      · (intro w hSw; (try dsimp only at hSw); go_simp); all_goals (with_reducible rfl)
                      try simp only [List.getElem_toArray, List.getElem_cons_succ, List.getElem_cons_zero, Act.put, List.setIfInBounds_toArray, List.set_cons_zero, List.set_cons_succ]
                      refine wpAnyH_take (i := 3) (v := ?_) rfl (by kernel_rfl) (by kernel_rfl) (by kernel_rfl) (fun _ _ _ h => h) (Or.inl ⟨by rfl, ?_⟩) h0 ?_
                      rotate_left
                      · (intro w hSw; (try dsimp only at hSw); go_simp); all_goals (with_reducible rfl)
                      try simp only [List.getElem_toArray, List.getElem_cons_succ, List.getElem_cons_zero, Act.put, List.setIfInBounds_toArray, List.set_cons_zero, List.set_cons_succ]
                      refine wpAnyH_take (i := 4) (v := ?_) rfl (by kernel_rfl) (by kernel_rfl) (by kernel_rfl) (fun _ _ _ h => h) (Or.inl ⟨by rfl, ?_⟩) h0 ?_
                      rotate_left
                      · (intro w hSw; (try dsimp only at hSw); go_simp); all_goals (with_reducible rfl)
                      try simp only [List.getElem_toArray, List.getElem_cons_succ, List.getElem_cons_zero, Act.put, List.setIfInBounds_toArray, List.set_cons_zero, List.set_cons_succ]
                      refine wpAnyH_take (i := 5) (v := ?_) rfl (by kernel_rfl) (by kernel_rfl) (by kernel_rfl) (fun _ _ _ h => h) (Or.inl ⟨by rfl, ?_⟩) h0 ?_
                      rotate_left
                      · (intro w hSw; (try dsimp only at hSw); go_simp); all_goals (with_reducible rfl)
                      try simp only [List.getElem_toArray, List.getElem_cons_succ, List.getElem_cons_zero, Act.put, List.setIfInBounds_toArray, List.set_cons_zero, List.set_cons_succ]
                      refine wpAnyH_take (i := 6) (v := ?_) rfl (by kernel_rfl) (by kernel_rfl) (by kernel_rfl) (fun _ _ _ h => h) (Or.inl ⟨by rfl, ?_⟩) h0 ?_
                      rotate_left
                      · (intro w hSw; (try dsimp only at hSw); go_simp); all_goals (with_reducible rfl)
                      try simp only [List.getElem_toArray, List.getElem_cons_succ, List.getElem_cons_zero, Act.put, List.setIfInBounds_toArray, List.set_cons_zero, List.set_cons_succ]
                      refine wpAnyH_take (i := 8) (v := ?_) rfl (by kernel_rfl) (by kernel_rfl) (by kernel_rfl) (fun _ _ _ h => h) (Or.inl ⟨by rfl, ?_⟩) h0 ?_
                      rotate_left
                      · (intro w hSw; (try dsimp only at hSw); go_simp); all_goals (with_reducible rfl)
                      try simp only [List.getElem_toArray, List.getElem_cons_succ, List.getElem_cons_zero, Act.put, List.setIfInBounds_toArray, List.set_cons_zero, List.set_cons_succ]
                      refine wpAnyH_take (i := 9) (v := ?_) rfl (by kernel_rfl) (by kernel_rfl) (by kernel_rfl) (fun _ _ _ h => h) (Or.inl ⟨by rfl, ?_⟩) h0 ?_
                      rotate_left
                      · (intro w hSw; (try dsimp only at hSw); go_simp); all_goals (with_reducible rfl)
                      try simp only [List.getElem_toArray, List.getElem_cons_succ, List.getElem_cons_zero, Act.put, List.setIfInBounds_toArray, List.set_cons_zero, List.set_cons_succ]
                      refine wpAnyH_take (i := 10) (v := ?_) rfl (by kernel_rfl) (by kernel_rfl) (by kernel_rfl) (fun _ _ _ h => h) (Or.inl ⟨by rfl, ?_⟩) h0 ?_
                      rotate_left
                      · (intro w hSw; (try dsimp only at hSw); go_simp); all_goals (with_reducible rfl)
                      try simp only [List.getElem_toArray, List.getElem_cons_succ, List.getElem_cons_zero, Act.put, List.setIfInBounds_toArray, List.set_cons_zero, List.set_cons_succ]
                      refine wpAnyH_take (i := 11) (v := ?_) rfl (by kernel_rfl) (by kernel_rfl) (by kernel_rfl) (fun _ _ _ h => h) (Or.inl ⟨by rfl, ?_⟩) h0 ?_
                      rotate_left
                      · (intro w hSw; (try dsimp only at hSw); go_simp); all_goals (with_reducible rfl)
                      try simp only [List.getElem_toArray, List.getElem_cons_succ, List.getElem_cons_zero, Act.put, List.setIfInBounds_toArray, List.set_cons_zero, List.set_cons_succ]
                      refine wpAnyH_take (i := 12) (v := ?_) rfl (by kernel_rfl) (by kernel_rfl) (by kernel_rfl) (fun _ _ _ h => h) (Or.inl ⟨by rfl, ?_⟩) h0 ?_
                      rotate_left
                      · (intro w hSw; (try dsimp only at hSw); go_simp); all_goals (with_reducible rfl)
                      try simp only [List.getElem_toArray, List.getElem_cons_succ, List.getElem_cons_zero, Act.put, List.setIfInBounds_toArray, List.set_cons_zero, List.set_cons_succ]
                      refine wpAnyH_ready (rs := [7]) (by kernel_rfl) (by simp) ?_
                      refine AllReadyH.cons rfl (fun K hK => ?_) AllReadyH.nil
                      go_simp
                      go_at_call 24
                      refine (allows_eq lj k nw nn zs true (by rw [F1.out]; rfl) _ _ _ _ _ _ _ (by unfold Bd; omega) (LabAt.over h0.1 LJ1.out) (IsInts.over h0.1 IZ1.out)).mono ?_
                      rintro e wq0 ⟨rfl, bq⟩
                      go_wp2_with fail
                      have bX := bel2 h0.1 bq
                      refine hK.out _ _ ?_ (fun h1 => ?_)
                      · exact ⟨bX, cellOver bX haq0, cellOver bX haq1, cellOver bX haq2, cellOver bX haq3, cellOver bX hbq0, cellOver bX hbq1, cellOver bX hbq2, cellOver bX hbq3, cellOver bX hjq0, cellOver bX hjq1, cellOver bX hjq2, cellOver bX hjq3⟩
                      clear hK K h0 bX bq
                      try simp only [List.getElem_toArray, List.getElem_cons_succ, List.getElem_cons_zero, Act.put, List.setIfInBounds_toArray, List.set_cons_zero, List.set_cons_succ]
                      refine wpAnyH_ready (rs := [13]) (by kernel_rfl) (by simp) ?_
                      refine AllReadyH.cons rfl (fun K hK => ?_) AllReadyH.nil
                      go_simp
                      go_at_call 24
                      refine (allows_eq la k nw nn zs true F0.out _ _ _ _ _ _ _ (by unfold Bd; omega) (LabAt.over h1.1 LA1.out) (IsInts.over h1.1 IZ1.out)).mono ?_
                      rintro e wq1 ⟨rfl, bq⟩
                      go_wp2_with fail
                      have bX := bel2 h1.1 bq
                      refine hK.out _ _ ?_ (fun h2 => ?_)
                      · exact ⟨bX, cellOver bX haq0, cellOver bX haq1, cellOver bX haq2, cellOver bX haq3, cellOver bX hbq0, cellOver bX hbq1, cellOver bX hbq2, cellOver bX hbq3, cellOver bX hjq0, cellOver bX hjq1, cellOver bX hjq2, cellOver bX hjq3⟩
                      clear hK K h1 bX bq
                      try simp only [List.getElem_toArray, List.getElem_cons_succ, List.getElem_cons_zero, Act.put, List.setIfInBounds_toArray, List.set_cons_zero, List.set_cons_succ]
                      refine wpAnyH_take (i := 14) (v := ?_) rfl (by kernel_rfl) (by kernel_rfl) (by kernel_rfl) (fun _ _ _ h => h) (Or.inl ⟨by rfl, ?_⟩) h2 ?_
                      rotate_left
                      · (intro w hSw; (try dsimp only at hSw); go_simp); all_goals (with_reducible rfl)
                      try simp only [List.getElem_toArray, List.getElem_cons_succ, List.getElem_cons_zero, Act.put, List.setIfInBounds_toArray, List.set_cons_zero, List.set_cons_succ]
                      refine wpAnyH_take (i := 15) (v := ?_) rfl (by kernel_rfl) (by kernel_rfl) (by kernel_rfl) (fun _ _ _ h => h) (Or.inl ⟨by rfl, ?_⟩) h2 ?_
                      rotate_left
                      · (intro w hSw; (try dsimp only at hSw); go_simp); all_goals (with_reducible rfl)
                      try simp only [List.getElem_toArray, List.getElem_cons_succ, List.getElem_cons_zero, Act.put, List.setIfInBounds_toArray, List.set_cons_zero, List.set_cons_succ]
                      refine wpAnyH_take (i := 16) (v := ?_) rfl (by kernel_rfl) (by kernel_rfl) (by kernel_rfl) (fun _ _ _ h => h) (Or.inl ⟨by rfl, ?_⟩) h2 ?_
                      rotate_left
                      · (intro w hSw; (try dsimp only at hSw); go_simp); all_goals (with_reducible rfl)
                      try simp only [List.getElem_toArray, List.getElem_cons_succ, List.getElem_cons_zero, Act.put, List.setIfInBounds_toArray, List.set_cons_zero, List.set_cons_succ]
                      refine wpAnyH_take (i := 17) (v := ?_) rfl (by kernel_rfl) (by kernel_rfl) (by kernel_rfl) (fun _ _ _ h => h) (Or.inl ⟨by rfl, ?_⟩) h2 ?_
                      rotate_left
                      · (intro w hSw; (try dsimp only at hSw); go_simp); all_goals (with_reducible rfl)
                      try simp only [List.getElem_toArray, List.getElem_cons_succ, List.getElem_cons_zero, Act.put, List.setIfInBounds_toArray, List.set_cons_zero, List.set_cons_succ]
                      refine wpAnyH_take (i := 18) (v := ?_) rfl (by kernel_rfl) (by kernel_rfl) (by kernel_rfl) (fun _ _ _ h => h) (Or.inl ⟨by rfl, ?_⟩) h2 ?_
                      rotate_left
                      · (intro w hSw; (try dsimp only at hSw); go_simp); all_goals (with_reducible rfl)
                      try simp only [List.getElem_toArray, List.getElem_cons_succ, List.getElem_cons_zero, Act.put, List.setIfInBounds_toArray, List.set_cons_zero, List.set_cons_succ]
                      refine wpAnyH_take (i := 19) (v := ?_) rfl (by kernel_rfl) (by kernel_rfl) (by kernel_rfl) (fun _ _ _ h => h) (Or.inl ⟨by rfl, ?_⟩) h2 ?_
                      rotate_left
                      · (intro w hSw; (try dsimp only at hSw); go_simp); all_goals (with_reducible rfl)
                      try simp only [List.getElem_toArray, List.getElem_cons_succ, List.getElem_cons_zero, Act.put, List.setIfInBounds_toArray, List.set_cons_zero, List.set_cons_succ]
                      refine wpAnyH_ready (rs := [20]) (by kernel_rfl) (by simp) ?_
                      refine AllReadyH.cons rfl (fun K hK => ?_) AllReadyH.nil
                      go_simp
                      go_at_call 24
                      refine (allows_eq lb k nw nn zs true F2.out _ _ _ _ _ _ _ (by unfold Bd; omega) (LabAt.over h2.1 LB1.out) (IsInts.over h2.1 IZ1.out)).mono ?_
                      rintro e wq2 ⟨rfl, bq⟩
                      go_wp2_with fail
                      have bX := bel2 h2.1 bq
                      refine hK.out _ _ ?_ (fun h3 => ?_)
                      · exact ⟨bX, cellOver bX haq0, cellOver bX haq1, cellOver bX haq2, cellOver bX haq3, cellOver bX hbq0, cellOver bX hbq1, cellOver bX hbq2, cellOver bX hbq3, cellOver bX hjq0, cellOver bX hjq1, cellOver bX hjq2, cellOver bX hjq3⟩
                      clear hK K h2 bX bq
                      try simp only [List.getElem_toArray, List.getElem_cons_succ, List.getElem_cons_zero, Act.put, List.setIfInBounds_toArray, List.set_cons_zero, List.set_cons_succ]
                      refine wpAnyH_take (i := 21) (v := ?_) rfl (by kernel_rfl) (by kernel_rfl) (by kernel_rfl) (fun _ _ _ h => h) (Or.inl ⟨by rfl, ?_⟩) h3 ?_
                      rotate_left
                      · (intro w hSw; (try dsimp only at hSw); go_simp); all_goals (with_reducible rfl)
                      try simp only [List.getElem_toArray, List.getElem_cons_succ, List.getElem_cons_zero, Act.put, List.setIfInBounds_toArray, List.set_cons_zero, List.set_cons_succ]
                      refine wpAnyH_take (i := 22) (v := ?_) rfl (by kernel_rfl) (by kernel_rfl) (by kernel_rfl) (fun _ _ _ h => h) (Or.inl ⟨by rfl, ?_⟩) h3 ?_
                      rotate_left
                      · (intro w hSw; (try dsimp only at hSw); go_simp); all_goals (with_reducible rfl)
                      try simp only [List.getElem_toArray, List.getElem_cons_succ, List.getElem_cons_zero, Act.put, List.setIfInBounds_toArray, List.set_cons_zero, List.set_cons_succ]
                      refine wpAnyH_take (i := 23) (v := ?_) rfl (by kernel_rfl) (by kernel_rfl) (by kernel_rfl) (fun _ _ _ h => h) (Or.inl ⟨by rfl, ?_⟩) h3 ?_
                      rotate_left
                      · (intro w hSw; (try dsimp only at hSw); go_simp); all_goals (with_reducible rfl)
                      try simp only [List.getElem_toArray, List.getElem_cons_succ, List.getElem_cons_zero, Act.put, List.setIfInBounds_toArray, List.set_cons_zero, List.set_cons_succ]
                      refine wpAnyH_take (i := 24) (v := ?_) rfl (by kernel_rfl) (by kernel_rfl) (by kernel_rfl) (fun _ _ _ h => h) (Or.inl ⟨by rfl, ?_⟩) h3 ?_
                      rotate_left
                      · (intro w hSw; (try dsimp only at hSw); go_simp); all_goals (with_reducible rfl)
                      try simp only [List.getElem_toArray, List.getElem_cons_succ, List.getElem_cons_zero, Act.put, List.setIfInBounds_toArray, List.set_cons_zero, List.set_cons_succ]
                      refine wpAnyH_done (by kernel_rfl) ?_ _
                      have bz := bel2 bq3 h3.1
                      go_wp2
                      exact ⟨⟨r + 1, by omega, by go_num, rfl, bz⟩, by simp [intOf]; omega⟩
                · obtain rfl : r = 3 := by omega
                  have bz := bel2 bm5 bq3
                  go_wp2
                  exact ⟨⟨m + 1, by omega, by go_num, rfl, bz⟩, by simp [intOf]; omega⟩
            · obtain rfl : m = 4 := by omega
              have bz := bel2 bj3 bm
              go_wp2
              exact ⟨⟨j + 1, by omega, by go_num, rfl, bz⟩, by simp [intOf]; omega⟩
        · obtain rfl : j = 5 := by omega
          have bz := bel2 b1 bj
          go_wp2
          exact ⟨⟨k + 1, by omega, by go_num, rfl, bz⟩, by simp [intOf]; omega⟩
    · obtain rfl : k = 4 := by omega
      have bz := bel2 bw br
      go_wp2
      go_ret
      exact ⟨rfl, bz⟩
end Go.Proofs.Ythpginepnleokaa
