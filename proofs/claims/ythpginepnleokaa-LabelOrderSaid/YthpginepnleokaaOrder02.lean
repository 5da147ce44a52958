/- LabelOrder: the walk of the statement's text. -/
import Derived.Test.YthpginepnleokaaLabQ
import Derived.Deep.RegionHeld3
import Derived.RegionTactic
import Derived.Deep.CutRange
namespace Go.Proofs.Ythpginepnleokaa
open Go.RowKit
set_option linter.unusedSimpArgs false
set_option linter.unusedVariables false
set_option linter.unnecessarySimpa false
theorem leqB_refl {l : Lab} (h : Ok l) : leqB l l = true := by rw [leqB_of h h]; exact le_refl_
theorem leqB_same {l m : Lab} (h : Ok l) (k : Ok m) : sameB (joinL l m) m = leqB l m := by rw [leqB_of h k]; exact (le_iff_join h k).symm
theorem leqB_anti {l m : Lab} (h : Ok l) (k : Ok m) (e : leqB l m = true) (f : leqB m l = true) : sameB l m = true := by
  rw [leqB_of h k] at e
  rw [leqB_of k h] at f
  exact (sameB_iff _ _).2 (le_anti h k e f)
theorem leqB_trans {l m r : Lab} (h : Ok l) (k : Ok m) (j : Ok r) (e : leqB l m = true) (f : leqB m r = true) : leqB l r = true := by
  rw [leqB_of h k] at e
  rw [leqB_of k j] at f
  rw [leqB_of h j]
  exact le_trans_ e f
set_option maxRecDepth 100000 in
set_option maxHeartbeats 32000000 in
theorem order_walk (x0 x1 x2 x3 y0 y1 y2 y3 z0 z1 z2 z3 : Int) (w : World) (hx : B4 x0 x1 x2 x3) (hy : B4 y0 y1 y2 y3) (hz : B4 z0 z1 z2 z3) :
    Calls Try.prog 6 #[.agg #[.int .i64 x0, .int .i64 x1, .int .i64 x2, .int .i64 x3], .agg #[.int .i64 y0, .int .i64 y1, .int .i64 y2, .int .i64 y3], .agg #[.int .i64 z0, .int .i64 z1, .int .i64 z2, .int .i64 z3]] w fun e w' => e = .returned (.bool true) ∧ Below w.heap.size w w' := by
  obtain ⟨la, _, okA, KA⟩ := make_eq _ _ _ _ hx
  obtain ⟨lb, _, okB, KB⟩ := make_eq _ _ _ _ hy
  obtain ⟨lc, _, okC, KC⟩ := make_eq _ _ _ _ hz
  obtain ⟨l1, h1⟩ : ∃ l, joinL la lb = l := ⟨_, rfl⟩
  obtain ⟨l2, h2⟩ : ∃ l, joinL lb lc = l := ⟨_, rfl⟩
  have ok1 := Lib.hid (show Ok l1 by rw [← h1]; exact joinL_ok _ _)
  have ok2 := Lib.hid (show Ok l2 by rw [← h2]; exact joinL_ok _ _)
  have E1 := Lib.hid h1
  have E2 := Lib.hid h2
  clear h1 h2 hx hy hz
  obtain ⟨hX, hY, hZ, bw⟩ := three_allocs w (.cells #[.int .i64 x0, .int .i64 x1, .int .i64 x2, .int .i64 x3] 22) (.cells #[.int .i64 y0, .int .i64 y1, .int .i64 y2, .int .i64 y3] 22) (.cells #[.int .i64 z0, .int .i64 z1, .int .i64 z2, .int .i64 z3] 22)
  have HX := Lib.hid hX
  have HY := Lib.hid hY
  have HZ := Lib.hid hZ
  clear hX hY hZ
  go_enter Try.func6, Try.ntmps6
  obtain ⟨hxq0, hxq1, hxq2, hxq3⟩ := cells4 HX.out
  obtain ⟨hyq0, hyq1, hyq2, hyq3⟩ := cells4 HY.out
  obtain ⟨hzq0, hzq1, hzq2, hzq3⟩ := cells4 HZ.out
  go_wp2_with fail
  refine (sane_any _).mono ?_
  rintro e w1 ⟨rfl, bq⟩
  replace HX := Lib.hid (blockOver bq HX.out)
  replace HY := Lib.hid (blockOver bq HY.out)
  replace HZ := Lib.hid (blockOver bq HZ.out)
  replace bw := bel2 bw bq
  clear bq hxq0 hxq1 hxq2 hxq3 hyq0 hyq1 hyq2 hyq3 hzq0 hzq1 hzq2 hzq3
  obtain ⟨hxq0, hxq1, hxq2, hxq3⟩ := cells4 HX.out
  go_wp2_with fail
  refine (KA.out _).mono ?_
  rintro e w2 ⟨aA, nA, cA, rfl, LA, OA, bq⟩
  have HA := Lib.hid (heap_alloc_new w2 (.cells #[.int .i64 la.u, .slice aA nA cA, .int .i64 la.ap, .int .i64 la.d] 26))
  replace LA := Lib.hid (LA.over (below_alloc w2 (.cells #[.int .i64 la.u, .slice aA nA cA, .int .i64 la.ap, .int .i64 la.d] 26)))
  replace bq := bel2 bq (below_alloc w2 (.cells #[.int .i64 la.u, .slice aA nA cA, .int .i64 la.ap, .int .i64 la.d] 26))
  replace HX := Lib.hid (blockOver bq HX.out)
  replace HY := Lib.hid (blockOver bq HY.out)
  replace HZ := Lib.hid (blockOver bq HZ.out)
  replace bw := bel2 bw bq
  clear bq OA hxq0 hxq1 hxq2 hxq3
  obtain ⟨hyq0, hyq1, hyq2, hyq3⟩ := cells4 HY.out
  go_wp2_with fail
  refine (KB.out _).mono ?_
  rintro e w3 ⟨aB, nB, cB, rfl, LB, OB, bq⟩
  have HB := Lib.hid (heap_alloc_new w3 (.cells #[.int .i64 lb.u, .slice aB nB cB, .int .i64 lb.ap, .int .i64 lb.d] 26))
  replace LB := Lib.hid (LB.over (below_alloc w3 (.cells #[.int .i64 lb.u, .slice aB nB cB, .int .i64 lb.ap, .int .i64 lb.d] 26)))
  replace bq := bel2 bq (below_alloc w3 (.cells #[.int .i64 lb.u, .slice aB nB cB, .int .i64 lb.ap, .int .i64 lb.d] 26))
  replace HX := Lib.hid (blockOver bq HX.out)
  replace HY := Lib.hid (blockOver bq HY.out)
  replace HZ := Lib.hid (blockOver bq HZ.out)
  replace HA := Lib.hid (blockOver bq HA.out)
  replace LA := Lib.hid (LabAt.over bq LA.out)
  replace bw := bel2 bw bq
  clear bq OB hyq0 hyq1 hyq2 hyq3
  obtain ⟨hzq0, hzq1, hzq2, hzq3⟩ := cells4 HZ.out
  go_wp2_with fail
  refine (KC.out _).mono ?_
  rintro e w4 ⟨aC, nC, cC, rfl, LC, OC, bq⟩
  have HC := Lib.hid (heap_alloc_new w4 (.cells #[.int .i64 lc.u, .slice aC nC cC, .int .i64 lc.ap, .int .i64 lc.d] 26))
  replace LC := Lib.hid (LC.over (below_alloc w4 (.cells #[.int .i64 lc.u, .slice aC nC cC, .int .i64 lc.ap, .int .i64 lc.d] 26)))
  replace bq := bel2 bq (below_alloc w4 (.cells #[.int .i64 lc.u, .slice aC nC cC, .int .i64 lc.ap, .int .i64 lc.d] 26))
  replace HX := Lib.hid (blockOver bq HX.out)
  replace HY := Lib.hid (blockOver bq HY.out)
  replace HZ := Lib.hid (blockOver bq HZ.out)
  replace HA := Lib.hid (blockOver bq HA.out)
  replace HB := Lib.hid (blockOver bq HB.out)
  replace LA := Lib.hid (LabAt.over bq LA.out)
  replace LB := Lib.hid (LabAt.over bq LB.out)
  replace bw := bel2 bw bq
  clear bq OC hzq0 hzq1 hzq2 hzq3
  obtain ⟨haq0, haq1, haq2, haq3⟩ := cells4 HA.out
  obtain ⟨hbq0, hbq1, hbq2, hbq3⟩ := cells4 HB.out
  obtain ⟨hcq0, hcq1, hcq2, hcq3⟩ := cells4 HC.out
  go_wp2_with fail
  have bc := Below.refl (w4.alloc (.cells #[.int .i64 lc.u, .slice aC nC cC, .int .i64 lc.ap, .int .i64 lc.d] 26)).heap.size (w4.alloc (.cells #[.int .i64 lc.u, .slice aC nC cC, .int .i64 lc.ap, .int .i64 lc.d] 26))
  refine wp_region_held_drew (S := fun w' => Below (w4.alloc (.cells #[.int .i64 lc.u, .slice aC nC cC, .int .i64 lc.ap, .int .i64 lc.d] 26)).heap.size (w4.alloc (.cells #[.int .i64 lc.u, .slice aC nC cC, .int .i64 lc.ap, .int .i64 lc.d] 26)) w' ∧ w'.cell? ⟨w2.heap.size, 0, none⟩ = some (.int .i64 la.u) ∧ w'.cell? ⟨w2.heap.size, 1, none⟩ = some (.slice aA nA cA) ∧ w'.cell? ⟨w2.heap.size, 2, none⟩ = some (.int .i64 la.ap) ∧ w'.cell? ⟨w2.heap.size, 3, none⟩ = some (.int .i64 la.d) ∧ w'.cell? ⟨w3.heap.size, 0, none⟩ = some (.int .i64 lb.u) ∧ w'.cell? ⟨w3.heap.size, 1, none⟩ = some (.slice aB nB cB) ∧ w'.cell? ⟨w3.heap.size, 2, none⟩ = some (.int .i64 lb.ap) ∧ w'.cell? ⟨w3.heap.size, 3, none⟩ = some (.int .i64 lb.d) ∧ w'.cell? ⟨w4.heap.size, 0, none⟩ = some (.int .i64 lc.u) ∧ w'.cell? ⟨w4.heap.size, 1, none⟩ = some (.slice aC nC cC) ∧ w'.cell? ⟨w4.heap.size, 2, none⟩ = some (.int .i64 lc.ap) ∧ w'.cell? ⟨w4.heap.size, 3, none⟩ = some (.int .i64 lc.d)) (by kernel_rfl) ?_ (fun h0 => ?_)
  · exact ⟨bc.drew, haq0, haq1, haq2, haq3, hbq0, hbq1, hbq2, hbq3, hcq0, hcq1, hcq2, hcq3⟩
  refine wpAnyH_take (i := 0) (v := ?_) rfl (by kernel_rfl) (by kernel_rfl) (by kernel_rfl) (fun _ _ _ h => h) (Or.inl ⟨by rfl, ?_⟩) h0 ?_
  rotate_left
  · (intro w hSw; (try dsimp only at hSw); go_simp); all_goals (with_reducible rfl)
  try simp only [List.getElem_toArray, List.getElem_cons_succ, List.getElem_cons_zero, Act.put, List.setIfInBounds_toArray, List.set_cons_zero, List.set_cons_succ]
  refine wpAnyH_take (i := 1) (v := ?_) rfl (by kernel_rfl) (by kernel_rfl) (by kernel_rfl) (fun _ _ _ h => h) (Or.inl ⟨by rfl, ?_⟩) h0 ?_
  rotate_left
  · (intro w hSw; (try dsimp only at hSw); go_simp); all_goals (with_reducible rfl)
  try simp only [List.getElem_toArray, List.getElem_cons_succ, List.getElem_cons_zero, Act.put, List.setIfInBounds_toArray, List.set_cons_zero, List.set_cons_succ]
  refine wpAnyH_take (i := 2) (v := ?_) rfl (by kernel_rfl) (by kernel_rfl) (by kernel_rfl) (fun _ _ _ h => h) (Or.inl ⟨by rfl, ?_⟩) h0 ?_
  rotate_left
  · (intro w hSw; (try dsimp only at hSw); go_simp); all_goals (with_reducible rfl)
  try simp only [List.getElem_toArray, List.getElem_cons_succ, List.getElem_cons_zero, Act.put, List.setIfInBounds_toArray, List.set_cons_zero, List.set_cons_succ]
  refine wpAnyH_take (i := 3) (v := ?_) rfl (by kernel_rfl) (by kernel_rfl) (by kernel_rfl) (fun _ _ _ h => h) (Or.inl ⟨by rfl, ?_⟩) h0 ?_
  rotate_left
  · (intro w hSw; (try dsimp only at hSw); go_simp); all_goals (with_reducible rfl)
  try simp only [List.getElem_toArray, List.getElem_cons_succ, List.getElem_cons_zero, Act.put, List.setIfInBounds_toArray, List.set_cons_zero, List.set_cons_succ]
  refine wpAnyH_take (i := 4) (v := ?_) rfl (by kernel_rfl) (by kernel_rfl) (by kernel_rfl) (fun _ _ _ h => h) (Or.inl ⟨by rfl, ?_⟩) h0 ?_
  rotate_left
  · (intro w hSw; (try dsimp only at hSw); go_simp); all_goals (with_reducible rfl)
  try simp only [List.getElem_toArray, List.getElem_cons_succ, List.getElem_cons_zero, Act.put, List.setIfInBounds_toArray, List.set_cons_zero, List.set_cons_succ]
  refine wpAnyH_take (i := 6) (v := ?_) rfl (by kernel_rfl) (by kernel_rfl) (by kernel_rfl) (fun _ _ _ h => h) (Or.inl ⟨by rfl, ?_⟩) h0 ?_
  rotate_left
  · (intro w hSw; (try dsimp only at hSw); go_simp); all_goals (with_reducible rfl)
  try simp only [List.getElem_toArray, List.getElem_cons_succ, List.getElem_cons_zero, Act.put, List.setIfInBounds_toArray, List.set_cons_zero, List.set_cons_succ]
  refine wpAnyH_take (i := 7) (v := ?_) rfl (by kernel_rfl) (by kernel_rfl) (by kernel_rfl) (fun _ _ _ h => h) (Or.inl ⟨by rfl, ?_⟩) h0 ?_
  rotate_left
  · (intro w hSw; (try dsimp only at hSw); go_simp); all_goals (with_reducible rfl)
  try simp only [List.getElem_toArray, List.getElem_cons_succ, List.getElem_cons_zero, Act.put, List.setIfInBounds_toArray, List.set_cons_zero, List.set_cons_succ]
  refine wpAnyH_take (i := 9) (v := ?_) rfl (by kernel_rfl) (by kernel_rfl) (by kernel_rfl) (fun _ _ _ h => h) (Or.inl ⟨by rfl, ?_⟩) h0 ?_
  rotate_left
  · (intro w hSw; (try dsimp only at hSw); go_simp); all_goals (with_reducible rfl)
  try simp only [List.getElem_toArray, List.getElem_cons_succ, List.getElem_cons_zero, Act.put, List.setIfInBounds_toArray, List.set_cons_zero, List.set_cons_succ]
  refine wpAnyH_ready (rs := [5]) (by kernel_rfl) (by simp) ?_
  refine AllReadyH.cons rfl (fun K hK => ?_) AllReadyH.nil
  go_simp
  go_at_call 22
  refine (join_eq la lb l1 E1.out _ _ _ _ _ _ _ (LabAt.over h0.1 LA.out) (LabAt.over h0.1 LB.out)).mono ?_
  rintro e wq0 ⟨av1, nv1, cv1, rfl, Lv1, Ov1, bq⟩
  go_wp2_with fail
  have bX := bel2 h0.1 bq
  refine hK.out _ _ ?_ (fun h1 => ?_)
  · exact ⟨bX, cellOver bX haq0, cellOver bX haq1, cellOver bX haq2, cellOver bX haq3, cellOver bX hbq0, cellOver bX hbq1, cellOver bX hbq2, cellOver bX hbq3, cellOver bX hcq0, cellOver bX hcq1, cellOver bX hcq2, cellOver bX hcq3⟩
  clear hK K h0 bX bq Ov1
  try simp only [List.getElem_toArray, List.getElem_cons_succ, List.getElem_cons_zero, Act.put, List.setIfInBounds_toArray, List.set_cons_zero, List.set_cons_succ]
  refine wpAnyH_ready (rs := [8]) (by kernel_rfl) (by simp) ?_
  refine AllReadyH.cons rfl (fun K hK => ?_) AllReadyH.nil
  go_simp
  go_at_call 22
  refine (join_eq lb lc l2 E2.out _ _ _ _ _ _ _ (LabAt.over h1.1 LB.out) (LabAt.over h1.1 LC.out)).mono ?_
  rintro e wq1 ⟨av2, nv2, cv2, rfl, Lv2, Ov2, bq⟩
  replace Lv1 := Lv1.over bq
  go_wp2_with fail
  have bX := bel2 h1.1 bq
  refine hK.out _ _ ?_ (fun h2 => ?_)
  · exact ⟨bX, cellOver bX haq0, cellOver bX haq1, cellOver bX haq2, cellOver bX haq3, cellOver bX hbq0, cellOver bX hbq1, cellOver bX hbq2, cellOver bX hbq3, cellOver bX hcq0, cellOver bX hcq1, cellOver bX hcq2, cellOver bX hcq3⟩
  clear hK K h1 bX bq Ov2
  try simp only [List.getElem_toArray, List.getElem_cons_succ, List.getElem_cons_zero, Act.put, List.setIfInBounds_toArray, List.set_cons_zero, List.set_cons_succ]
  refine wpAnyH_ready (rs := [10]) (by kernel_rfl) (by simp) ?_
  refine AllReadyH.cons rfl (fun K hK => ?_) AllReadyH.nil
  rw [if_pos (by rfl)]
  go_simp
  obtain ⟨wz, hwz⟩ : ∃ wz : World, wq1 = wz := ⟨_, rfl⟩
  have HLI := Lib.hid (show ListAt (wq1.alloc (.cells #[.int .i64 la.u, .slice aA nA cA, .int .i64 la.ap, .int .i64 la.d, .int .i64 lb.u, .slice aB nB cB, .int .i64 lb.ap, .int .i64 lb.d, .int .i64 lc.u, .slice aC nC cC, .int .i64 lc.ap, .int .i64 lc.d, .int .i64 l1.u, .slice av1 nv1 cv1, .int .i64 l1.ap, .int .i64 l1.d, .int .i64 l2.u, .slice av2 nv2 cv2, .int .i64 l2.ap, .int .i64 l2.d, .int .i64 0, .slice none 0 0, .int .i64 0, .int .i64 0] 26)) wq1.heap.size [(la, aA, nA, cA), (lb, aB, nB, cB), (lc, aC, nC, cC), (l1, av1, nv1, cv1), (l2, av2, nv2, cv2), (zeroL, none, 0, 0)] from ⟨heap_alloc_new wq1 _, fun e he => by
    simp only [List.mem_cons, List.not_mem_nil, or_false] at he
    rcases he with rfl | rfl | rfl | rfl | rfl | rfl
    · exact LA.out.over (bel2 h2.1 (below_alloc _ _))
    · exact LB.out.over (bel2 h2.1 (below_alloc _ _))
    · exact LC.out.over (bel2 h2.1 (below_alloc _ _))
    · exact Lv1.over (below_alloc _ _)
    · exact Lv2.over (below_alloc _ _)
    · exact zero_at _⟩)
  have bX := bel2 h2.1 (below_alloc wq1 (.cells #[.int .i64 la.u, .slice aA nA cA, .int .i64 la.ap, .int .i64 la.d, .int .i64 lb.u, .slice aB nB cB, .int .i64 lb.ap, .int .i64 lb.d, .int .i64 lc.u, .slice aC nC cC, .int .i64 lc.ap, .int .i64 lc.d, .int .i64 l1.u, .slice av1 nv1 cv1, .int .i64 l1.ap, .int .i64 l1.d, .int .i64 l2.u, .slice av2 nv2 cv2, .int .i64 l2.ap, .int .i64 l2.d, .int .i64 0, .slice none 0 0, .int .i64 0, .int .i64 0] 26))
  clear hwz
  refine hK.out _ _ ?_ (fun h3 => ?_)
  · exact ⟨bX, cellOver bX haq0, cellOver bX haq1, cellOver bX haq2, cellOver bX haq3, cellOver bX hbq0, cellOver bX hbq1, cellOver bX hbq2, cellOver bX hbq3, cellOver bX hcq0, cellOver bX hcq1, cellOver bX hcq2, cellOver bX hcq3⟩
  clear hK K h2 bX
  try simp only [List.getElem_toArray, List.getElem_cons_succ, List.getElem_cons_zero, Act.put, List.setIfInBounds_toArray, List.set_cons_zero, List.set_cons_succ]
  refine wpAnyH_take (i := 11) (v := ?_) rfl (by kernel_rfl) (by kernel_rfl) (by kernel_rfl) (fun _ _ _ h => h) (Or.inl ⟨by rfl, ?_⟩) h3 ?_
  rotate_left
  · (intro w hSw; (try dsimp only at hSw); go_simp); all_goals (with_reducible rfl)
  try simp only [List.getElem_toArray, List.getElem_cons_succ, List.getElem_cons_zero, Act.put, List.setIfInBounds_toArray, List.set_cons_zero, List.set_cons_succ]
  refine wpAnyH_done (by kernel_rfl) ?_ _
  replace bw := bel2 bw h3.1
  have HOK := Lib.hid (show ∀ e ∈ ([(la, aA, nA, cA), (lb, aB, nB, cB), (lc, aC, nC, cC), (l1, av1, nv1, cv1), (l2, av2, nv2, cv2), (zeroL, none, 0, 0)] : List (Lab × Option Addr × Nat × Nat)), Ok e.1 from fun e he => by
    simp only [List.mem_cons, List.not_mem_nil, or_false] at he
    rcases he with rfl | rfl | rfl | rfl | rfl | rfl
    · exact okA.out
    · exact okB.out
    · exact okC.out
    · exact ok1.out
    · exact ok2.out
    · exact zero_ok)
  clear h3 haq0 haq1 haq2 haq3 hbq0 hbq1 hbq2 hbq3 hcq0 hcq1 hcq2 hcq3 Lv1 Lv2 HA HB HC LA LB LC okA okB okC ok1 ok2 E1 E2 KA KB KC bc HX HY HZ
  go_wp2_with fail
  obtain ⟨q, hq⟩ : ∃ q, wq1.heap.size = q := ⟨_, rfl⟩
  obtain ⟨W0, hW0⟩ : ∃ W0, wq1.alloc (.cells #[.int .i64 la.u, .slice aA nA cA, .int .i64 la.ap, .int .i64 la.d, .int .i64 lb.u, .slice aB nB cB, .int .i64 lb.ap, .int .i64 lb.d, .int .i64 lc.u, .slice aC nC cC, .int .i64 lc.ap, .int .i64 lc.d, .int .i64 l1.u, .slice av1 nv1 cv1, .int .i64 l1.ap, .int .i64 l1.d, .int .i64 l2.u, .slice av2 nv2 cv2, .int .i64 l2.ap, .int .i64 l2.d, .int .i64 0, .slice none 0 0, .int .i64 0, .int .i64 0] 26) = W0 := ⟨_, rfl⟩
  rw [hW0] at bw ⊢
  rw [hW0, hq] at HLI
  rw [hq]
  obtain ⟨es, hes⟩ : ∃ es : List (Lab × Option Addr × Nat × Nat), [(la, aA, nA, cA), (lb, aB, nB, cB), (lc, aC, nC, cC), (l1, av1, nv1, cv1), (l2, av2, nv2, cv2), (zeroL, none, 0, 0)] = es := ⟨_, rfl⟩
  have hl6 : es.length = 6 := by rw [← hes]; rfl
  rw [hes] at HLI HOK
  have HL := Lib.hid hl6
  clear hW0 hq hes hl6
  go_loopw [38, 7, 13, 15, 17] (fun i ok _ _ _ wr => ∃ k : Nat, k ≤ 6 ∧ i = .int .i64 k ∧ ok = .bool true ∧ Below W0.heap.size W0 wr) (fun i _ _ _ _ _ => 6 - (intOf i).toNat)
  case atStart => exact ⟨0, by omega, rfl, rfl, Below.refl _ _⟩
  case round =>
    obtain ⟨k, hk, rfl, rfl, br⟩ := hrel
    by_cases hlt : k < 6
    · have kk0 : (0 : Int) ≤ k := by omega
      have kk6 : (k : Int) < 6 := by omega
      obtain ⟨lp, ap, np, cp, hm, t0, t1, t2, t3, LP0⟩ := (HLI.out.over br).at_ (k := k) (by rw [HL.out]; exact hlt)
      have okP := Lib.hid (HOK.out _ hm)
      have HP := Lib.hid (heap_alloc_new wr (.cells #[.int .i64 lp.u, .slice ap np cp, .int .i64 lp.ap, .int .i64 lp.d] 26))
      have LP := Lib.hid (LP0.over (below_alloc wr (.cells #[.int .i64 lp.u, .slice ap np cp, .int .i64 lp.ap, .int .i64 lp.d] 26)))
      have b1 := bel2 br (below_alloc wr (.cells #[.int .i64 lp.u, .slice ap np cp, .int .i64 lp.ap, .int .i64 lp.d] 26))
      obtain ⟨gp, hgp⟩ : ∃ gp, wr.heap.size = gp := ⟨_, rfl⟩
      clear hm LP0
      go_wp2_with fail
      refine (leq_eq lp lp true (leqB_refl okP.out) _ _ _ _ _ _ _ LP.out LP.out).mono ?_
      rintro e w1p ⟨rfl, bq⟩
      replace HP := Lib.hid (blockOver bq HP.out)
      replace LP := Lib.hid (LP.out.over bq)
      replace b1 := bel2 b1 bq
      rw [hgp] at HP
      clear bq t0 t1 t2 t3 br
      go_wp2_with fail
      try rw [hgp]
      clear hgp
      go_loopw [50, 7, 15, 17] (fun i ok _ _ wr => ∃ j : Nat, j ≤ 6 ∧ i = .int .i64 j ∧ ok = .bool true ∧ Below w1p.heap.size w1p wr) (fun i _ _ _ _ => 6 - (intOf i).toNat)
      case atStart => exact ⟨0, by omega, rfl, rfl, Below.refl _ _⟩
      case round =>
        obtain ⟨j, hj, rfl, rfl, bj⟩ := hrel
        by_cases hlj : j < 6
        · have jj0 : (0 : Int) ≤ j := by omega
          have jj6 : (j : Int) < 6 := by omega
          have b2 := bel2 b1 bj
          obtain ⟨lq, aq, nq, cq, hm, t0, t1, t2, t3, LQ0⟩ := (HLI.out.over b2).at_ (k := j) (by rw [HL.out]; exact hlj)
          have okQ := Lib.hid (HOK.out _ hm)
          have ob := below_alloc wr (.cells #[.int .i64 lq.u, .slice aq nq cq, .int .i64 lq.ap, .int .i64 lq.d] 26)
          have HQ := Lib.hid (heap_alloc_new wr (.cells #[.int .i64 lq.u, .slice aq nq cq, .int .i64 lq.ap, .int .i64 lq.d] 26))
          have LQ := Lib.hid (LQ0.over ob)
          have b3 := bel2 b2 ob
          have bj3 := bel2 bj ob
          have HP1 := Lib.hid (blockOver bj3 HP.out)
          have LP1 := Lib.hid (LP.out.over bj3)
          clear hm LQ0 ob
          go_wp2_with fail
          obtain ⟨gq, hgq⟩ : ∃ gq, wr.heap.size = gq := ⟨_, rfl⟩
          obtain ⟨W1, hW1⟩ : ∃ W1, wr.alloc (.cells #[.int .i64 lq.u, .slice aq nq cq, .int .i64 lq.ap, .int .i64 lq.d] 26) = W1 := ⟨_, rfl⟩
          rw [hW1] at b3 bj3 ⊢
          rw [hW1, hgq] at HQ
          rw [hW1] at LQ HP1 LP1
          rw [hgq]
          clear hgq hW1 t0 t1 t2 t3
          go_cut [7] from 54 to 82 (fun ok wx => ok = .bool true ∧ Below W1.heap.size W1 wx)
          case first =>
            obtain ⟨p0, p1, p2, p3⟩ := cells4 HP1.out
            obtain ⟨q0, q1, q2, q3⟩ := cells4 HQ.out
            have hS := leqB_same okP.out okQ.out
            obtain ⟨lpq, hpq⟩ : ∃ l, joinL lp lq = l := ⟨_, rfl⟩
            rw [hpq] at hS
            have EPQ := Lib.hid hpq
            clear hpq
            cases e1 : leqB lp lq
            · rw [e1] at hS
              have FQ := Lib.hid hS
              have F1 := Lib.hid e1
              clear hS e1
              have bc := Below.refl W1.heap.size W1
              refine wp_region_held_drew (S := fun w' => Below W1.heap.size W1 w' ∧ w'.cell? ⟨gp, 0, none⟩ = some (.int .i64 lp.u) ∧ w'.cell? ⟨gp, 1, none⟩ = some (.slice ap np cp) ∧ w'.cell? ⟨gp, 2, none⟩ = some (.int .i64 lp.ap) ∧ w'.cell? ⟨gp, 3, none⟩ = some (.int .i64 lp.d) ∧ w'.cell? ⟨gq, 0, none⟩ = some (.int .i64 lq.u) ∧ w'.cell? ⟨gq, 1, none⟩ = some (.slice aq nq cq) ∧ w'.cell? ⟨gq, 2, none⟩ = some (.int .i64 lq.ap) ∧ w'.cell? ⟨gq, 3, none⟩ = some (.int .i64 lq.d)) (by kernel_rfl) ?_ (fun h0 => ?_)
              · exact ⟨bc.drew, p0, p1, p2, p3, q0, q1, q2, q3⟩
              refine wpAnyH_take (i := 0) (v := ?_) rfl (by kernel_rfl) (by kernel_rfl) (by kernel_rfl) (fun _ _ _ h => h) (Or.inl ⟨by rfl, ?_⟩) h0 ?_
              rotate_left
              · (intro w hSw; (try dsimp only at hSw); go_simp); all_goals (with_reducible rfl)
              try simp only [List.getElem_toArray, List.getElem_cons_succ, List.getElem_cons_zero, Act.put, List.setIfInBounds_toArray, List.set_cons_zero, List.set_cons_succ]
              refine wpAnyH_take (i := 1) (v := ?_) rfl (by kernel_rfl) (by kernel_rfl) (by kernel_rfl) (fun _ _ _ h => h) (Or.inl ⟨by rfl, ?_⟩) h0 ?_
              rotate_left
              · (intro w hSw; (try dsimp only at hSw); go_simp); all_goals (with_reducible rfl)
              try simp only [List.getElem_toArray, List.getElem_cons_succ, List.getElem_cons_zero, Act.put, List.setIfInBounds_toArray, List.set_cons_zero, List.set_cons_succ]
              refine wpAnyH_take (i := 2) (v := ?_) rfl (by kernel_rfl) (by kernel_rfl) (by kernel_rfl) (fun _ _ _ h => h) (Or.inl ⟨by rfl, ?_⟩) h0 ?_
              rotate_left
              · (intro w hSw; (try dsimp only at hSw); go_simp); all_goals (with_reducible rfl)
              try simp only [List.getElem_toArray, List.getElem_cons_succ, List.getElem_cons_zero, Act.put, List.setIfInBounds_toArray, List.set_cons_zero, List.set_cons_succ]
              refine wpAnyH_take (i := 3) (v := ?_) rfl (by kernel_rfl) (by kernel_rfl) (by kernel_rfl) (fun _ _ _ h => h) (Or.inl ⟨by rfl, ?_⟩) h0 ?_
              rotate_left
              · (intro w hSw; (try dsimp only at hSw); go_simp); all_goals (with_reducible rfl)
              try simp only [List.getElem_toArray, List.getElem_cons_succ, List.getElem_cons_zero, Act.put, List.setIfInBounds_toArray, List.set_cons_zero, List.set_cons_succ]
              refine wpAnyH_take (i := 5) (v := ?_) rfl (by kernel_rfl) (by kernel_rfl) (by kernel_rfl) (fun _ _ _ h => h) (Or.inl ⟨by rfl, ?_⟩) h0 ?_
              rotate_left
              · (intro w hSw; (try dsimp only at hSw); go_simp); all_goals (with_reducible rfl)
              try simp only [List.getElem_toArray, List.getElem_cons_succ, List.getElem_cons_zero, Act.put, List.setIfInBounds_toArray, List.set_cons_zero, List.set_cons_succ]
              refine wpAnyH_take (i := 6) (v := ?_) rfl (by kernel_rfl) (by kernel_rfl) (by kernel_rfl) (fun _ _ _ h => h) (Or.inl ⟨by rfl, ?_⟩) h0 ?_
              rotate_left
              · (intro w hSw; (try dsimp only at hSw); go_simp); all_goals (with_reducible rfl)
              try simp only [List.getElem_toArray, List.getElem_cons_succ, List.getElem_cons_zero, Act.put, List.setIfInBounds_toArray, List.set_cons_zero, List.set_cons_succ]
              refine wpAnyH_take (i := 8) (v := ?_) rfl (by kernel_rfl) (by kernel_rfl) (by kernel_rfl) (fun _ _ _ h => h) (Or.inl ⟨by rfl, ?_⟩) h0 ?_
              rotate_left
              · (intro w hSw; (try dsimp only at hSw); go_simp); all_goals (with_reducible rfl)
              try simp only [List.getElem_toArray, List.getElem_cons_succ, List.getElem_cons_zero, Act.put, List.setIfInBounds_toArray, List.set_cons_zero, List.set_cons_succ]
              refine wpAnyH_ready (rs := [4]) (by kernel_rfl) (by simp) ?_
              refine AllReadyH.cons rfl (fun K hK => ?_) AllReadyH.nil
              go_simp
              go_at_call 20
              refine (leq_eq lp lq false F1.out _ _ _ _ _ _ _ (LabAt.over h0.1 LP1.out) (LabAt.over h0.1 LQ.out)).mono ?_
              rintro e wq0 ⟨rfl, bq⟩
              go_wp2_with fail
              have bX := bel2 h0.1 bq
              refine hK.out _ _ ?_ (fun h1 => ?_)
              · exact ⟨bX, cellOver bX p0, cellOver bX p1, cellOver bX p2, cellOver bX p3, cellOver bX q0, cellOver bX q1, cellOver bX q2, cellOver bX q3⟩
              clear hK K h0 bX bq
              try simp only [List.getElem_toArray, List.getElem_cons_succ, List.getElem_cons_zero, Act.put, List.setIfInBounds_toArray, List.set_cons_zero, List.set_cons_succ]
              refine wpAnyH_ready (rs := [7]) (by kernel_rfl) (by simp) ?_
              refine AllReadyH.cons rfl (fun K hK => ?_) AllReadyH.nil
              go_simp
              go_at_call 22
              refine (join_eq lp lq lpq EPQ.out _ _ _ _ _ _ _ (LabAt.over h1.1 LP1.out) (LabAt.over h1.1 LQ.out)).mono ?_
              rintro e wq1 ⟨av1, nv1, cv1, rfl, Lv1, Ov1, bq⟩
              go_wp2_with fail
              have bX := bel2 h1.1 bq
              refine hK.out _ _ ?_ (fun h2 => ?_)
              · exact ⟨bX, cellOver bX p0, cellOver bX p1, cellOver bX p2, cellOver bX p3, cellOver bX q0, cellOver bX q1, cellOver bX q2, cellOver bX q3⟩
              clear hK K h1 bX bq Ov1
              try simp only [List.getElem_toArray, List.getElem_cons_succ, List.getElem_cons_zero, Act.put, List.setIfInBounds_toArray, List.set_cons_zero, List.set_cons_succ]
              refine wpAnyH_ready (rs := [9]) (by kernel_rfl) (by simp) ?_
              refine AllReadyH.cons rfl (fun K hK => ?_) AllReadyH.nil
              go_simp
              go_at_call 18
              refine (same_eq lpq lq false FQ.out _ _ _ _ _ _ _ Lv1 (LabAt.over h2.1 LQ.out)).mono ?_
              rintro e wq2 ⟨rfl, bq⟩
              go_wp2_with fail
              have bX := bel2 h2.1 bq
              refine hK.out _ _ ?_ (fun h3 => ?_)
              · exact ⟨bX, cellOver bX p0, cellOver bX p1, cellOver bX p2, cellOver bX p3, cellOver bX q0, cellOver bX q1, cellOver bX q2, cellOver bX q3⟩
              clear hK K h2 bX bq
              try simp only [List.getElem_toArray, List.getElem_cons_succ, List.getElem_cons_zero, Act.put, List.setIfInBounds_toArray, List.set_cons_zero, List.set_cons_succ]
              refine wpAnyH_take (i := 10) (v := ?_) rfl (by kernel_rfl) (by kernel_rfl) (by kernel_rfl) (fun _ _ _ h => h) (Or.inl ⟨by rfl, ?_⟩) h3 ?_
              rotate_left
              · (intro w hSw; (try dsimp only at hSw); go_simp); all_goals (with_reducible rfl)
              try simp only [List.getElem_toArray, List.getElem_cons_succ, List.getElem_cons_zero, Act.put, List.setIfInBounds_toArray, List.set_cons_zero, List.set_cons_succ]
              refine wpAnyH_take (i := 11) (v := ?_) rfl (by kernel_rfl) (by kernel_rfl) (by kernel_rfl) (fun _ _ _ h => h) (Or.inl ⟨by rfl, ?_⟩) h3 ?_
              rotate_left
              · (intro w hSw; (try dsimp only at hSw); go_simp); all_goals (with_reducible rfl)
              try simp only [List.getElem_toArray, List.getElem_cons_succ, List.getElem_cons_zero, Act.put, List.setIfInBounds_toArray, List.set_cons_zero, List.set_cons_succ]
              refine wpAnyH_take (i := 12) (v := ?_) rfl (by kernel_rfl) (by kernel_rfl) (by kernel_rfl) (fun _ _ _ h => h) (Or.inl ⟨by rfl, ?_⟩) h3 ?_
              rotate_left
              · (intro w hSw; (try dsimp only at hSw); go_simp); all_goals (with_reducible rfl)
              try simp only [List.getElem_toArray, List.getElem_cons_succ, List.getElem_cons_zero, Act.put, List.setIfInBounds_toArray, List.set_cons_zero, List.set_cons_succ]
              refine wpAnyH_take (i := 13) (v := ?_) rfl (by kernel_rfl) (by kernel_rfl) (by kernel_rfl) (fun _ _ _ h => h) (Or.inl ⟨by rfl, ?_⟩) h3 ?_
              rotate_left
              · (intro w hSw; (try dsimp only at hSw); go_simp); all_goals (with_reducible rfl)
              try simp only [List.getElem_toArray, List.getElem_cons_succ, List.getElem_cons_zero, Act.put, List.setIfInBounds_toArray, List.set_cons_zero, List.set_cons_succ]
              refine wpAnyH_take (i := 14) (v := ?_) rfl (by kernel_rfl) (by kernel_rfl) (by kernel_rfl) (fun _ _ _ h => h) (Or.inl ⟨by rfl, ?_⟩) h3 ?_
              rotate_left
              · (intro w hSw; (try dsimp only at hSw); go_simp); all_goals (with_reducible rfl)
              try simp only [List.getElem_toArray, List.getElem_cons_succ, List.getElem_cons_zero, Act.put, List.setIfInBounds_toArray, List.set_cons_zero, List.set_cons_succ]
              refine wpAnyH_ready (rs := [15]) (by kernel_rfl) (by simp) ?_
              refine AllReadyH.cons rfl (fun K hK => ?_) AllReadyH.nil
              go_simp
              go_at_call 20
              refine (leq_eq lp lq false F1.out _ _ _ _ _ _ _ (LabAt.over h3.1 LP1.out) (LabAt.over h3.1 LQ.out)).mono ?_
              rintro e wq3 ⟨rfl, bq⟩
              go_wp2_with fail
              have bX := bel2 h3.1 bq
              refine hK.out _ _ ?_ (fun h4 => ?_)
              · exact ⟨bX, cellOver bX p0, cellOver bX p1, cellOver bX p2, cellOver bX p3, cellOver bX q0, cellOver bX q1, cellOver bX q2, cellOver bX q3⟩
              clear hK K h3 bX bq
              try simp only [List.getElem_toArray, List.getElem_cons_succ, List.getElem_cons_zero, Act.put, List.setIfInBounds_toArray, List.set_cons_zero, List.set_cons_succ]
              refine wpAnyH_take (i := 16) (v := ?_) rfl (by kernel_rfl) (by kernel_rfl) (by kernel_rfl) (fun _ _ _ h => h) (Or.inl ⟨by rfl, ?_⟩) h4 ?_
              rotate_left
              · (intro w hSw; (try dsimp only at hSw); go_simp); all_goals (with_reducible rfl)
              try simp only [List.getElem_toArray, List.getElem_cons_succ, List.getElem_cons_zero, Act.put, List.setIfInBounds_toArray, List.set_cons_zero, List.set_cons_succ]
              refine wpAnyH_take (i := 17) (v := ?_) rfl (by kernel_rfl) (by kernel_rfl) (by kernel_rfl) (fun _ _ _ h => h) (Or.inl ⟨by rfl, ?_⟩) h4 ?_
              rotate_left
              · (intro w hSw; (try dsimp only at hSw); go_simp); all_goals (with_reducible rfl)
              try simp only [List.getElem_toArray, List.getElem_cons_succ, List.getElem_cons_zero, Act.put, List.setIfInBounds_toArray, List.set_cons_zero, List.set_cons_succ]
              refine wpAnyH_take (i := 18) (v := undef) rfl (by kernel_rfl) (by kernel_rfl) (by kernel_rfl) (fun _ _ _ h => h) (Or.inr ⟨by rfl, rfl⟩) h4 ?_
              try simp only [List.getElem_toArray, List.getElem_cons_succ, List.getElem_cons_zero, Act.put, List.setIfInBounds_toArray, List.set_cons_zero, List.set_cons_succ]
              refine wpAnyH_take (i := 19) (v := undef) rfl (by kernel_rfl) (by kernel_rfl) (by kernel_rfl) (fun _ _ _ h => h) (Or.inr ⟨by rfl, rfl⟩) h4 ?_
              try simp only [List.getElem_toArray, List.getElem_cons_succ, List.getElem_cons_zero, Act.put, List.setIfInBounds_toArray, List.set_cons_zero, List.set_cons_succ]
              refine wpAnyH_take (i := 20) (v := undef) rfl (by kernel_rfl) (by kernel_rfl) (by kernel_rfl) (fun _ _ _ h => h) (Or.inr ⟨by rfl, rfl⟩) h4 ?_
              try simp only [List.getElem_toArray, List.getElem_cons_succ, List.getElem_cons_zero, Act.put, List.setIfInBounds_toArray, List.set_cons_zero, List.set_cons_succ]
              refine wpAnyH_take (i := 21) (v := undef) rfl (by kernel_rfl) (by kernel_rfl) (by kernel_rfl) (fun _ _ _ h => h) (Or.inr ⟨by rfl, rfl⟩) h4 ?_
              try simp only [List.getElem_toArray, List.getElem_cons_succ, List.getElem_cons_zero, Act.put, List.setIfInBounds_toArray, List.set_cons_zero, List.set_cons_succ]
              refine wpAnyH_take (i := 22) (v := ?_) rfl (by kernel_rfl) (by kernel_rfl) (by kernel_rfl) (fun _ _ _ h => h) (Or.inl ⟨by rfl, ?_⟩) h4 ?_
              rotate_left
              · (intro w hSw; (try dsimp only at hSw); go_simp); all_goals (with_reducible rfl)
              try simp only [List.getElem_toArray, List.getElem_cons_succ, List.getElem_cons_zero, Act.put, List.setIfInBounds_toArray, List.set_cons_zero, List.set_cons_succ]
              refine wpAnyH_take (i := 23) (v := ?_) rfl (by kernel_rfl) (by kernel_rfl) (by kernel_rfl) (fun _ _ _ h => h) (Or.inl ⟨by rfl, ?_⟩) h4 ?_
              rotate_left
              · (intro w hSw; (try dsimp only at hSw); go_simp); all_goals (with_reducible rfl)
              try simp only [List.getElem_toArray, List.getElem_cons_succ, List.getElem_cons_zero, Act.put, List.setIfInBounds_toArray, List.set_cons_zero, List.set_cons_succ]
              refine wpAnyH_take (i := 24) (v := undef) rfl (by kernel_rfl) (by kernel_rfl) (by kernel_rfl) (fun _ _ _ h => h) (Or.inr ⟨by rfl, rfl⟩) h4 ?_
              try simp only [List.getElem_toArray, List.getElem_cons_succ, List.getElem_cons_zero, Act.put, List.setIfInBounds_toArray, List.set_cons_zero, List.set_cons_succ]
              refine wpAnyH_take (i := 25) (v := undef) rfl (by kernel_rfl) (by kernel_rfl) (by kernel_rfl) (fun _ _ _ h => h) (Or.inr ⟨by rfl, rfl⟩) h4 ?_
              try simp only [List.getElem_toArray, List.getElem_cons_succ, List.getElem_cons_zero, Act.put, List.setIfInBounds_toArray, List.set_cons_zero, List.set_cons_succ]
              refine wpAnyH_take (i := 26) (v := undef) rfl (by kernel_rfl) (by kernel_rfl) (by kernel_rfl) (fun _ _ _ h => h) (Or.inr ⟨by rfl, rfl⟩) h4 ?_
              try simp only [List.getElem_toArray, List.getElem_cons_succ, List.getElem_cons_zero, Act.put, List.setIfInBounds_toArray, List.set_cons_zero, List.set_cons_succ]
              refine wpAnyH_take (i := 27) (v := ?_) rfl (by kernel_rfl) (by kernel_rfl) (by kernel_rfl) (fun _ _ _ h => h) (Or.inl ⟨by rfl, ?_⟩) h4 ?_
              rotate_left
              · (intro w hSw; (try dsimp only at hSw); go_simp); all_goals (with_reducible rfl)
              try simp only [List.getElem_toArray, List.getElem_cons_succ, List.getElem_cons_zero, Act.put, List.setIfInBounds_toArray, List.set_cons_zero, List.set_cons_succ]
              refine wpAnyH_take (i := 28) (v := ?_) rfl (by kernel_rfl) (by kernel_rfl) (by kernel_rfl) (fun _ _ _ h => h) (Or.inl ⟨by rfl, ?_⟩) h4 ?_
              rotate_left
              · (intro w hSw; (try dsimp only at hSw); go_simp); all_goals (with_reducible rfl)
              try simp only [List.getElem_toArray, List.getElem_cons_succ, List.getElem_cons_zero, Act.put, List.setIfInBounds_toArray, List.set_cons_zero, List.set_cons_succ]
              refine wpAnyH_take (i := 29) (v := ?_) rfl (by kernel_rfl) (by kernel_rfl) (by kernel_rfl) (fun _ _ _ h => h) (Or.inl ⟨by rfl, ?_⟩) h4 ?_
              rotate_left
              · (intro w hSw; (try dsimp only at hSw); go_simp); all_goals (with_reducible rfl)
              try simp only [List.getElem_toArray, List.getElem_cons_succ, List.getElem_cons_zero, Act.put, List.setIfInBounds_toArray, List.set_cons_zero, List.set_cons_succ]
              refine wpAnyH_done (by kernel_rfl) ?_ _
              have bz := h4.1
              clear h4
              go_wp2_with fail
              go_meet
              exact ⟨rfl, bz⟩
            · rw [e1] at hS
              cases e2 : leqB lq lp
              · have FQ := Lib.hid hS
                have F1 := Lib.hid e1
                have F2 := Lib.hid e2
                clear hS e1 e2
                have bc := Below.refl W1.heap.size W1
                refine wp_region_held_drew (S := fun w' => Below W1.heap.size W1 w' ∧ w'.cell? ⟨gp, 0, none⟩ = some (.int .i64 lp.u) ∧ w'.cell? ⟨gp, 1, none⟩ = some (.slice ap np cp) ∧ w'.cell? ⟨gp, 2, none⟩ = some (.int .i64 lp.ap) ∧ w'.cell? ⟨gp, 3, none⟩ = some (.int .i64 lp.d) ∧ w'.cell? ⟨gq, 0, none⟩ = some (.int .i64 lq.u) ∧ w'.cell? ⟨gq, 1, none⟩ = some (.slice aq nq cq) ∧ w'.cell? ⟨gq, 2, none⟩ = some (.int .i64 lq.ap) ∧ w'.cell? ⟨gq, 3, none⟩ = some (.int .i64 lq.d)) (by kernel_rfl) ?_ (fun h0 => ?_)
                · exact ⟨bc.drew, p0, p1, p2, p3, q0, q1, q2, q3⟩
                refine wpAnyH_take (i := 0) (v := ?_) rfl (by kernel_rfl) (by kernel_rfl) (by kernel_rfl) (fun _ _ _ h => h) (Or.inl ⟨by rfl, ?_⟩) h0 ?_
                rotate_left
                · (intro w hSw; (try dsimp only at hSw); go_simp); all_goals (with_reducible rfl)
                try simp only [List.getElem_toArray, List.getElem_cons_succ, List.getElem_cons_zero, Act.put, List.setIfInBounds_toArray, List.set_cons_zero, List.set_cons_succ]
                refine wpAnyH_take (i := 1) (v := ?_) rfl (by kernel_rfl) (by kernel_rfl) (by kernel_rfl) (fun _ _ _ h => h) (Or.inl ⟨by rfl, ?_⟩) h0 ?_
                rotate_left
                · (intro w hSw; (try dsimp only at hSw); go_simp); all_goals (with_reducible rfl)
                try simp only [List.getElem_toArray, List.getElem_cons_succ, List.getElem_cons_zero, Act.put, List.setIfInBounds_toArray, List.set_cons_zero, List.set_cons_succ]
                refine wpAnyH_take (i := 2) (v := ?_) rfl (by kernel_rfl) (by kernel_rfl) (by kernel_rfl) (fun _ _ _ h => h) (Or.inl ⟨by rfl, ?_⟩) h0 ?_
                rotate_left
                · (intro w hSw; (try dsimp only at hSw); go_simp); all_goals (with_reducible rfl)
                try simp only [List.getElem_toArray, List.getElem_cons_succ, List.getElem_cons_zero, Act.put, List.setIfInBounds_toArray, List.set_cons_zero, List.set_cons_succ]
                refine wpAnyH_take (i := 3) (v := ?_) rfl (by kernel_rfl) (by kernel_rfl) (by kernel_rfl) (fun _ _ _ h => h) (Or.inl ⟨by rfl, ?_⟩) h0 ?_
                rotate_left
                · (intro w hSw; (try dsimp only at hSw); go_simp); all_goals (with_reducible rfl)
                try simp only [List.getElem_toArray, List.getElem_cons_succ, List.getElem_cons_zero, Act.put, List.setIfInBounds_toArray, List.set_cons_zero, List.set_cons_succ]
                refine wpAnyH_take (i := 5) (v := ?_) rfl (by kernel_rfl) (by kernel_rfl) (by kernel_rfl) (fun _ _ _ h => h) (Or.inl ⟨by rfl, ?_⟩) h0 ?_
                rotate_left
                · (intro w hSw; (try dsimp only at hSw); go_simp); all_goals (with_reducible rfl)
                try simp only [List.getElem_toArray, List.getElem_cons_succ, List.getElem_cons_zero, Act.put, List.setIfInBounds_toArray, List.set_cons_zero, List.set_cons_succ]
                refine wpAnyH_take (i := 6) (v := ?_) rfl (by kernel_rfl) (by kernel_rfl) (by kernel_rfl) (fun _ _ _ h => h) (Or.inl ⟨by rfl, ?_⟩) h0 ?_
                rotate_left
                · (intro w hSw; (try dsimp only at hSw); go_simp); all_goals (with_reducible rfl)
                try simp only [List.getElem_toArray, List.getElem_cons_succ, List.getElem_cons_zero, Act.put, List.setIfInBounds_toArray, List.set_cons_zero, List.set_cons_succ]
                refine wpAnyH_take (i := 8) (v := ?_) rfl (by kernel_rfl) (by kernel_rfl) (by kernel_rfl) (fun _ _ _ h => h) (Or.inl ⟨by rfl, ?_⟩) h0 ?_
                rotate_left
                · (intro w hSw; (try dsimp only at hSw); go_simp); all_goals (with_reducible rfl)
                try simp only [List.getElem_toArray, List.getElem_cons_succ, List.getElem_cons_zero, Act.put, List.setIfInBounds_toArray, List.set_cons_zero, List.set_cons_succ]
                refine wpAnyH_ready (rs := [4]) (by kernel_rfl) (by simp) ?_
                refine AllReadyH.cons rfl (fun K hK => ?_) AllReadyH.nil
                go_simp
                go_at_call 20
                refine (leq_eq lp lq true F1.out _ _ _ _ _ _ _ (LabAt.over h0.1 LP1.out) (LabAt.over h0.1 LQ.out)).mono ?_
                rintro e wq0 ⟨rfl, bq⟩
                go_wp2_with fail
                have bX := bel2 h0.1 bq
                refine hK.out _ _ ?_ (fun h1 => ?_)
                · exact ⟨bX, cellOver bX p0, cellOver bX p1, cellOver bX p2, cellOver bX p3, cellOver bX q0, cellOver bX q1, cellOver bX q2, cellOver bX q3⟩
                clear hK K h0 bX bq
                try simp only [List.getElem_toArray, List.getElem_cons_succ, List.getElem_cons_zero, Act.put, List.setIfInBounds_toArray, List.set_cons_zero, List.set_cons_succ]
                refine wpAnyH_ready (rs := [7]) (by kernel_rfl) (by simp) ?_
                refine AllReadyH.cons rfl (fun K hK => ?_) AllReadyH.nil
                go_simp
                go_at_call 22
                refine (join_eq lp lq lpq EPQ.out _ _ _ _ _ _ _ (LabAt.over h1.1 LP1.out) (LabAt.over h1.1 LQ.out)).mono ?_
                rintro e wq1 ⟨av1, nv1, cv1, rfl, Lv1, Ov1, bq⟩
                go_wp2_with fail
                have bX := bel2 h1.1 bq
                refine hK.out _ _ ?_ (fun h2 => ?_)
                · exact ⟨bX, cellOver bX p0, cellOver bX p1, cellOver bX p2, cellOver bX p3, cellOver bX q0, cellOver bX q1, cellOver bX q2, cellOver bX q3⟩
                clear hK K h1 bX bq Ov1
                try simp only [List.getElem_toArray, List.getElem_cons_succ, List.getElem_cons_zero, Act.put, List.setIfInBounds_toArray, List.set_cons_zero, List.set_cons_succ]
                refine wpAnyH_ready (rs := [9]) (by kernel_rfl) (by simp) ?_
                refine AllReadyH.cons rfl (fun K hK => ?_) AllReadyH.nil
                go_simp
                go_at_call 18
                refine (same_eq lpq lq true FQ.out _ _ _ _ _ _ _ Lv1 (LabAt.over h2.1 LQ.out)).mono ?_
                rintro e wq2 ⟨rfl, bq⟩
                go_wp2_with fail
                have bX := bel2 h2.1 bq
                refine hK.out _ _ ?_ (fun h3 => ?_)
                · exact ⟨bX, cellOver bX p0, cellOver bX p1, cellOver bX p2, cellOver bX p3, cellOver bX q0, cellOver bX q1, cellOver bX q2, cellOver bX q3⟩
                clear hK K h2 bX bq
                try simp only [List.getElem_toArray, List.getElem_cons_succ, List.getElem_cons_zero, Act.put, List.setIfInBounds_toArray, List.set_cons_zero, List.set_cons_succ]
                refine wpAnyH_take (i := 10) (v := ?_) rfl (by kernel_rfl) (by kernel_rfl) (by kernel_rfl) (fun _ _ _ h => h) (Or.inl ⟨by rfl, ?_⟩) h3 ?_
                rotate_left
                · (intro w hSw; (try dsimp only at hSw); go_simp); all_goals (with_reducible rfl)
                try simp only [List.getElem_toArray, List.getElem_cons_succ, List.getElem_cons_zero, Act.put, List.setIfInBounds_toArray, List.set_cons_zero, List.set_cons_succ]
                refine wpAnyH_take (i := 11) (v := ?_) rfl (by kernel_rfl) (by kernel_rfl) (by kernel_rfl) (fun _ _ _ h => h) (Or.inl ⟨by rfl, ?_⟩) h3 ?_
                rotate_left
                · (intro w hSw; (try dsimp only at hSw); go_simp); all_goals (with_reducible rfl)
                try simp only [List.getElem_toArray, List.getElem_cons_succ, List.getElem_cons_zero, Act.put, List.setIfInBounds_toArray, List.set_cons_zero, List.set_cons_succ]
                refine wpAnyH_take (i := 12) (v := ?_) rfl (by kernel_rfl) (by kernel_rfl) (by kernel_rfl) (fun _ _ _ h => h) (Or.inl ⟨by rfl, ?_⟩) h3 ?_
                rotate_left
                · (intro w hSw; (try dsimp only at hSw); go_simp); all_goals (with_reducible rfl)
                try simp only [List.getElem_toArray, List.getElem_cons_succ, List.getElem_cons_zero, Act.put, List.setIfInBounds_toArray, List.set_cons_zero, List.set_cons_succ]
                refine wpAnyH_take (i := 13) (v := ?_) rfl (by kernel_rfl) (by kernel_rfl) (by kernel_rfl) (fun _ _ _ h => h) (Or.inl ⟨by rfl, ?_⟩) h3 ?_
                rotate_left
                · (intro w hSw; (try dsimp only at hSw); go_simp); all_goals (with_reducible rfl)
                try simp only [List.getElem_toArray, List.getElem_cons_succ, List.getElem_cons_zero, Act.put, List.setIfInBounds_toArray, List.set_cons_zero, List.set_cons_succ]
                refine wpAnyH_take (i := 14) (v := ?_) rfl (by kernel_rfl) (by kernel_rfl) (by kernel_rfl) (fun _ _ _ h => h) (Or.inl ⟨by rfl, ?_⟩) h3 ?_
                rotate_left
                · (intro w hSw; (try dsimp only at hSw); go_simp); all_goals (with_reducible rfl)
                try simp only [List.getElem_toArray, List.getElem_cons_succ, List.getElem_cons_zero, Act.put, List.setIfInBounds_toArray, List.set_cons_zero, List.set_cons_succ]
                refine wpAnyH_ready (rs := [15]) (by kernel_rfl) (by simp) ?_
                refine AllReadyH.cons rfl (fun K hK => ?_) AllReadyH.nil
                go_simp
                go_at_call 20
                refine (leq_eq lp lq true F1.out _ _ _ _ _ _ _ (LabAt.over h3.1 LP1.out) (LabAt.over h3.1 LQ.out)).mono ?_
                rintro e wq3 ⟨rfl, bq⟩
                go_wp2_with fail
                have bX := bel2 h3.1 bq
                refine hK.out _ _ ?_ (fun h4 => ?_)
                · exact ⟨bX, cellOver bX p0, cellOver bX p1, cellOver bX p2, cellOver bX p3, cellOver bX q0, cellOver bX q1, cellOver bX q2, cellOver bX q3⟩
                clear hK K h3 bX bq
                try simp only [List.getElem_toArray, List.getElem_cons_succ, List.getElem_cons_zero, Act.put, List.setIfInBounds_toArray, List.set_cons_zero, List.set_cons_succ]
                refine wpAnyH_take (i := 16) (v := ?_) rfl (by kernel_rfl) (by kernel_rfl) (by kernel_rfl) (fun _ _ _ h => h) (Or.inl ⟨by rfl, ?_⟩) h4 ?_
                rotate_left
                · (intro w hSw; (try dsimp only at hSw); go_simp); all_goals (with_reducible rfl)
                try simp only [List.getElem_toArray, List.getElem_cons_succ, List.getElem_cons_zero, Act.put, List.setIfInBounds_toArray, List.set_cons_zero, List.set_cons_succ]
                refine wpAnyH_take (i := 17) (v := ?_) rfl (by kernel_rfl) (by kernel_rfl) (by kernel_rfl) (fun _ _ _ h => h) (Or.inl ⟨by rfl, ?_⟩) h4 ?_
                rotate_left
                · (intro w hSw; (try dsimp only at hSw); go_simp); all_goals (with_reducible rfl)
                try simp only [List.getElem_toArray, List.getElem_cons_succ, List.getElem_cons_zero, Act.put, List.setIfInBounds_toArray, List.set_cons_zero, List.set_cons_succ]
                refine wpAnyH_take (i := 18) (v := ?_) rfl (by kernel_rfl) (by kernel_rfl) (by kernel_rfl) (fun _ _ _ h => h) (Or.inl ⟨by rfl, ?_⟩) h4 ?_
                rotate_left
                · (intro w hSw; (try dsimp only at hSw); go_simp); all_goals (with_reducible rfl)
                try simp only [List.getElem_toArray, List.getElem_cons_succ, List.getElem_cons_zero, Act.put, List.setIfInBounds_toArray, List.set_cons_zero, List.set_cons_succ]
                refine wpAnyH_take (i := 19) (v := ?_) rfl (by kernel_rfl) (by kernel_rfl) (by kernel_rfl) (fun _ _ _ h => h) (Or.inl ⟨by rfl, ?_⟩) h4 ?_
                rotate_left
                · (intro w hSw; (try dsimp only at hSw); go_simp); all_goals (with_reducible rfl)
                try simp only [List.getElem_toArray, List.getElem_cons_succ, List.getElem_cons_zero, Act.put, List.setIfInBounds_toArray, List.set_cons_zero, List.set_cons_succ]
                refine wpAnyH_ready (rs := [20]) (by kernel_rfl) (by simp) ?_
                refine AllReadyH.cons rfl (fun K hK => ?_) AllReadyH.nil
                go_simp
                go_at_call 20
                refine (leq_eq lq lp false F2.out _ _ _ _ _ _ _ (LabAt.over h4.1 LQ.out) (LabAt.over h4.1 LP1.out)).mono ?_
                rintro e wq4 ⟨rfl, bq⟩
                go_wp2_with fail
                have bX := bel2 h4.1 bq
                refine hK.out _ _ ?_ (fun h5 => ?_)
                · exact ⟨bX, cellOver bX p0, cellOver bX p1, cellOver bX p2, cellOver bX p3, cellOver bX q0, cellOver bX q1, cellOver bX q2, cellOver bX q3⟩
                clear hK K h4 bX bq
                try simp only [List.getElem_toArray, List.getElem_cons_succ, List.getElem_cons_zero, Act.put, List.setIfInBounds_toArray, List.set_cons_zero, List.set_cons_succ]
                refine wpAnyH_take (i := 21) (v := ?_) rfl (by kernel_rfl) (by kernel_rfl) (by kernel_rfl) (fun _ _ _ h => h) (Or.inl ⟨by rfl, ?_⟩) h5 ?_
                rotate_left
                · (intro w hSw; (try dsimp only at hSw); go_simp); all_goals (with_reducible rfl)
                try simp only [List.getElem_toArray, List.getElem_cons_succ, List.getElem_cons_zero, Act.put, List.setIfInBounds_toArray, List.set_cons_zero, List.set_cons_succ]
                refine wpAnyH_take (i := 22) (v := ?_) rfl (by kernel_rfl) (by kernel_rfl) (by kernel_rfl) (fun _ _ _ h => h) (Or.inl ⟨by rfl, ?_⟩) h5 ?_
                rotate_left
                · (intro w hSw; (try dsimp only at hSw); go_simp); all_goals (with_reducible rfl)
                try simp only [List.getElem_toArray, List.getElem_cons_succ, List.getElem_cons_zero, Act.put, List.setIfInBounds_toArray, List.set_cons_zero, List.set_cons_succ]
                refine wpAnyH_take (i := 23) (v := ?_) rfl (by kernel_rfl) (by kernel_rfl) (by kernel_rfl) (fun _ _ _ h => h) (Or.inl ⟨by rfl, ?_⟩) h5 ?_
                rotate_left
                · (intro w hSw; (try dsimp only at hSw); go_simp); all_goals (with_reducible rfl)
                try simp only [List.getElem_toArray, List.getElem_cons_succ, List.getElem_cons_zero, Act.put, List.setIfInBounds_toArray, List.set_cons_zero, List.set_cons_succ]
                refine wpAnyH_take (i := 24) (v := undef) rfl (by kernel_rfl) (by kernel_rfl) (by kernel_rfl) (fun _ _ _ h => h) (Or.inr ⟨by rfl, rfl⟩) h5 ?_
                try simp only [List.getElem_toArray, List.getElem_cons_succ, List.getElem_cons_zero, Act.put, List.setIfInBounds_toArray, List.set_cons_zero, List.set_cons_succ]
                refine wpAnyH_take (i := 25) (v := undef) rfl (by kernel_rfl) (by kernel_rfl) (by kernel_rfl) (fun _ _ _ h => h) (Or.inr ⟨by rfl, rfl⟩) h5 ?_
                try simp only [List.getElem_toArray, List.getElem_cons_succ, List.getElem_cons_zero, Act.put, List.setIfInBounds_toArray, List.set_cons_zero, List.set_cons_succ]
                refine wpAnyH_take (i := 26) (v := undef) rfl (by kernel_rfl) (by kernel_rfl) (by kernel_rfl) (fun _ _ _ h => h) (Or.inr ⟨by rfl, rfl⟩) h5 ?_
                try simp only [List.getElem_toArray, List.getElem_cons_succ, List.getElem_cons_zero, Act.put, List.setIfInBounds_toArray, List.set_cons_zero, List.set_cons_succ]
                refine wpAnyH_take (i := 27) (v := ?_) rfl (by kernel_rfl) (by kernel_rfl) (by kernel_rfl) (fun _ _ _ h => h) (Or.inl ⟨by rfl, ?_⟩) h5 ?_
                rotate_left
                · (intro w hSw; (try dsimp only at hSw); go_simp); all_goals (with_reducible rfl)
                try simp only [List.getElem_toArray, List.getElem_cons_succ, List.getElem_cons_zero, Act.put, List.setIfInBounds_toArray, List.set_cons_zero, List.set_cons_succ]
                refine wpAnyH_take (i := 28) (v := ?_) rfl (by kernel_rfl) (by kernel_rfl) (by kernel_rfl) (fun _ _ _ h => h) (Or.inl ⟨by rfl, ?_⟩) h5 ?_
                rotate_left
                · (intro w hSw; (try dsimp only at hSw); go_simp); all_goals (with_reducible rfl)
                try simp only [List.getElem_toArray, List.getElem_cons_succ, List.getElem_cons_zero, Act.put, List.setIfInBounds_toArray, List.set_cons_zero, List.set_cons_succ]
                refine wpAnyH_take (i := 29) (v := ?_) rfl (by kernel_rfl) (by kernel_rfl) (by kernel_rfl) (fun _ _ _ h => h) (Or.inl ⟨by rfl, ?_⟩) h5 ?_
                rotate_left
                · (intro w hSw; (try dsimp only at hSw); go_simp); all_goals (with_reducible rfl)
                try simp only [List.getElem_toArray, List.getElem_cons_succ, List.getElem_cons_zero, Act.put, List.setIfInBounds_toArray, List.set_cons_zero, List.set_cons_succ]
                refine wpAnyH_done (by kernel_rfl) ?_ _
                have bz := h5.1
                clear h5
                go_wp2_with fail
                go_meet
                exact ⟨rfl, bz⟩
              · have F3 := Lib.hid (leqB_anti okP.out okQ.out e1 e2)
                have FQ := Lib.hid hS
                have F1 := Lib.hid e1
                have F2 := Lib.hid e2
                clear hS e1 e2
                have bc := Below.refl W1.heap.size W1
                refine wp_region_held_drew (S := fun w' => Below W1.heap.size W1 w' ∧ w'.cell? ⟨gp, 0, none⟩ = some (.int .i64 lp.u) ∧ w'.cell? ⟨gp, 1, none⟩ = some (.slice ap np cp) ∧ w'.cell? ⟨gp, 2, none⟩ = some (.int .i64 lp.ap) ∧ w'.cell? ⟨gp, 3, none⟩ = some (.int .i64 lp.d) ∧ w'.cell? ⟨gq, 0, none⟩ = some (.int .i64 lq.u) ∧ w'.cell? ⟨gq, 1, none⟩ = some (.slice aq nq cq) ∧ w'.cell? ⟨gq, 2, none⟩ = some (.int .i64 lq.ap) ∧ w'.cell? ⟨gq, 3, none⟩ = some (.int .i64 lq.d)) (by kernel_rfl) ?_ (fun h0 => ?_)
                · exact ⟨bc.drew, p0, p1, p2, p3, q0, q1, q2, q3⟩
                refine wpAnyH_take (i := 0) (v := ?_) rfl (by kernel_rfl) (by kernel_rfl) (by kernel_rfl) (fun _ _ _ h => h) (Or.inl ⟨by rfl, ?_⟩) h0 ?_
                rotate_left
                · (intro w hSw; (try dsimp only at hSw); go_simp); all_goals (with_reducible rfl)
                try simp only [List.getElem_toArray, List.getElem_cons_succ, List.getElem_cons_zero, Act.put, List.setIfInBounds_toArray, List.set_cons_zero, List.set_cons_succ]
                refine wpAnyH_take (i := 1) (v := ?_) rfl (by kernel_rfl) (by kernel_rfl) (by kernel_rfl) (fun _ _ _ h => h) (Or.inl ⟨by rfl, ?_⟩) h0 ?_
                rotate_left
                · (intro w hSw; (try dsimp only at hSw); go_simp); all_goals (with_reducible rfl)
                try simp only [List.getElem_toArray, List.getElem_cons_succ, List.getElem_cons_zero, Act.put, List.setIfInBounds_toArray, List.set_cons_zero, List.set_cons_succ]
                refine wpAnyH_take (i := 2) (v := ?_) rfl (by kernel_rfl) (by kernel_rfl) (by kernel_rfl) (fun _ _ _ h => h) (Or.inl ⟨by rfl, ?_⟩) h0 ?_
                rotate_left
                · (intro w hSw; (try dsimp only at hSw); go_simp); all_goals (with_reducible rfl)
                try simp only [List.getElem_toArray, List.getElem_cons_succ, List.getElem_cons_zero, Act.put, List.setIfInBounds_toArray, List.set_cons_zero, List.set_cons_succ]
                refine wpAnyH_take (i := 3) (v := ?_) rfl (by kernel_rfl) (by kernel_rfl) (by kernel_rfl) (fun _ _ _ h => h) (Or.inl ⟨by rfl, ?_⟩) h0 ?_
                rotate_left
                · (intro w hSw; (try dsimp only at hSw); go_simp); all_goals (with_reducible rfl)
                try simp only [List.getElem_toArray, List.getElem_cons_succ, List.getElem_cons_zero, Act.put, List.setIfInBounds_toArray, List.set_cons_zero, List.set_cons_succ]
                refine wpAnyH_take (i := 5) (v := ?_) rfl (by kernel_rfl) (by kernel_rfl) (by kernel_rfl) (fun _ _ _ h => h) (Or.inl ⟨by rfl, ?_⟩) h0 ?_
                rotate_left
                · (intro w hSw; (try dsimp only at hSw); go_simp); all_goals (with_reducible rfl)
                try simp only [List.getElem_toArray, List.getElem_cons_succ, List.getElem_cons_zero, Act.put, List.setIfInBounds_toArray, List.set_cons_zero, List.set_cons_succ]
                refine wpAnyH_take (i := 6) (v := ?_) rfl (by kernel_rfl) (by kernel_rfl) (by kernel_rfl) (fun _ _ _ h => h) (Or.inl ⟨by rfl, ?_⟩) h0 ?_
                rotate_left
                · (intro w hSw; (try dsimp only at hSw); go_simp); all_goals (with_reducible rfl)
                try simp only [List.getElem_toArray, List.getElem_cons_succ, List.getElem_cons_zero, Act.put, List.setIfInBounds_toArray, List.set_cons_zero, List.set_cons_succ]
                refine wpAnyH_take (i := 8) (v := ?_) rfl (by kernel_rfl) (by kernel_rfl) (by kernel_rfl) (fun _ _ _ h => h) (Or.inl ⟨by rfl, ?_⟩) h0 ?_
                rotate_left
                · (intro w hSw; (try dsimp only at hSw); go_simp); all_goals (with_reducible rfl)
                try simp only [List.getElem_toArray, List.getElem_cons_succ, List.getElem_cons_zero, Act.put, List.setIfInBounds_toArray, List.set_cons_zero, List.set_cons_succ]
                refine wpAnyH_ready (rs := [4]) (by kernel_rfl) (by simp) ?_
                refine AllReadyH.cons rfl (fun K hK => ?_) AllReadyH.nil
                go_simp
                go_at_call 20
                refine (leq_eq lp lq true F1.out _ _ _ _ _ _ _ (LabAt.over h0.1 LP1.out) (LabAt.over h0.1 LQ.out)).mono ?_
                rintro e wq0 ⟨rfl, bq⟩
                go_wp2_with fail
                have bX := bel2 h0.1 bq
                refine hK.out _ _ ?_ (fun h1 => ?_)
                · exact ⟨bX, cellOver bX p0, cellOver bX p1, cellOver bX p2, cellOver bX p3, cellOver bX q0, cellOver bX q1, cellOver bX q2, cellOver bX q3⟩
                clear hK K h0 bX bq
                try simp only [List.getElem_toArray, List.getElem_cons_succ, List.getElem_cons_zero, Act.put, List.setIfInBounds_toArray, List.set_cons_zero, List.set_cons_succ]
                refine wpAnyH_ready (rs := [7]) (by kernel_rfl) (by simp) ?_
                refine AllReadyH.cons rfl (fun K hK => ?_) AllReadyH.nil
                go_simp
                go_at_call 22
                refine (join_eq lp lq lpq EPQ.out _ _ _ _ _ _ _ (LabAt.over h1.1 LP1.out) (LabAt.over h1.1 LQ.out)).mono ?_
                rintro e wq1 ⟨av1, nv1, cv1, rfl, Lv1, Ov1, bq⟩
                go_wp2_with fail
                have bX := bel2 h1.1 bq
                refine hK.out _ _ ?_ (fun h2 => ?_)
                · exact ⟨bX, cellOver bX p0, cellOver bX p1, cellOver bX p2, cellOver bX p3, cellOver bX q0, cellOver bX q1, cellOver bX q2, cellOver bX q3⟩
                clear hK K h1 bX bq Ov1
                try simp only [List.getElem_toArray, List.getElem_cons_succ, List.getElem_cons_zero, Act.put, List.setIfInBounds_toArray, List.set_cons_zero, List.set_cons_succ]
                refine wpAnyH_ready (rs := [9]) (by kernel_rfl) (by simp) ?_
                refine AllReadyH.cons rfl (fun K hK => ?_) AllReadyH.nil
                go_simp
                go_at_call 18
                refine (same_eq lpq lq true FQ.out _ _ _ _ _ _ _ Lv1 (LabAt.over h2.1 LQ.out)).mono ?_
                rintro e wq2 ⟨rfl, bq⟩
                go_wp2_with fail
                have bX := bel2 h2.1 bq
                refine hK.out _ _ ?_ (fun h3 => ?_)
                · exact ⟨bX, cellOver bX p0, cellOver bX p1, cellOver bX p2, cellOver bX p3, cellOver bX q0, cellOver bX q1, cellOver bX q2, cellOver bX q3⟩
                clear hK K h2 bX bq
                try simp only [List.getElem_toArray, List.getElem_cons_succ, List.getElem_cons_zero, Act.put, List.setIfInBounds_toArray, List.set_cons_zero, List.set_cons_succ]
                refine wpAnyH_take (i := 10) (v := ?_) rfl (by kernel_rfl) (by kernel_rfl) (by kernel_rfl) (fun _ _ _ h => h) (Or.inl ⟨by rfl, ?_⟩) h3 ?_
                rotate_left
                · (intro w hSw; (try dsimp only at hSw); go_simp); all_goals (with_reducible rfl)
                try simp only [List.getElem_toArray, List.getElem_cons_succ, List.getElem_cons_zero, Act.put, List.setIfInBounds_toArray, List.set_cons_zero, List.set_cons_succ]
                refine wpAnyH_take (i := 11) (v := ?_) rfl (by kernel_rfl) (by kernel_rfl) (by kernel_rfl) (fun _ _ _ h => h) (Or.inl ⟨by rfl, ?_⟩) h3 ?_
                rotate_left
                · (intro w hSw; (try dsimp only at hSw); go_simp); all_goals (with_reducible rfl)
                try simp only [List.getElem_toArray, List.getElem_cons_succ, List.getElem_cons_zero, Act.put, List.setIfInBounds_toArray, List.set_cons_zero, List.set_cons_succ]
                refine wpAnyH_take (i := 12) (v := ?_) rfl (by kernel_rfl) (by kernel_rfl) (by kernel_rfl) (fun _ _ _ h => h) (Or.inl ⟨by rfl, ?_⟩) h3 ?_
                rotate_left
                · (intro w hSw; (try dsimp only at hSw); go_simp); all_goals (with_reducible rfl)
                try simp only [List.getElem_toArray, List.getElem_cons_succ, List.getElem_cons_zero, Act.put, List.setIfInBounds_toArray, List.set_cons_zero, List.set_cons_succ]
                refine wpAnyH_take (i := 13) (v := ?_) rfl (by kernel_rfl) (by kernel_rfl) (by kernel_rfl) (fun _ _ _ h => h) (Or.inl ⟨by rfl, ?_⟩) h3 ?_
                rotate_left
                · (intro w hSw; (try dsimp only at hSw); go_simp); all_goals (with_reducible rfl)
                try simp only [List.getElem_toArray, List.getElem_cons_succ, List.getElem_cons_zero, Act.put, List.setIfInBounds_toArray, List.set_cons_zero, List.set_cons_succ]
                refine wpAnyH_take (i := 14) (v := ?_) rfl (by kernel_rfl) (by kernel_rfl) (by kernel_rfl) (fun _ _ _ h => h) (Or.inl ⟨by rfl, ?_⟩) h3 ?_
                rotate_left
                · (intro w hSw; (try dsimp only at hSw); go_simp); all_goals (with_reducible rfl)
                try simp only [List.getElem_toArray, List.getElem_cons_succ, List.getElem_cons_zero, Act.put, List.setIfInBounds_toArray, List.set_cons_zero, List.set_cons_succ]
                refine wpAnyH_ready (rs := [15]) (by kernel_rfl) (by simp) ?_
                refine AllReadyH.cons rfl (fun K hK => ?_) AllReadyH.nil
                go_simp
                go_at_call 20
                refine (leq_eq lp lq true F1.out _ _ _ _ _ _ _ (LabAt.over h3.1 LP1.out) (LabAt.over h3.1 LQ.out)).mono ?_
                rintro e wq3 ⟨rfl, bq⟩
                go_wp2_with fail
                have bX := bel2 h3.1 bq
                refine hK.out _ _ ?_ (fun h4 => ?_)
                · exact ⟨bX, cellOver bX p0, cellOver bX p1, cellOver bX p2, cellOver bX p3, cellOver bX q0, cellOver bX q1, cellOver bX q2, cellOver bX q3⟩
                clear hK K h3 bX bq
                try simp only [List.getElem_toArray, List.getElem_cons_succ, List.getElem_cons_zero, Act.put, List.setIfInBounds_toArray, List.set_cons_zero, List.set_cons_succ]
                refine wpAnyH_take (i := 16) (v := ?_) rfl (by kernel_rfl) (by kernel_rfl) (by kernel_rfl) (fun _ _ _ h => h) (Or.inl ⟨by rfl, ?_⟩) h4 ?_
                rotate_left
                · (intro w hSw; (try dsimp only at hSw); go_simp); all_goals (with_reducible rfl)
                try simp only [List.getElem_toArray, List.getElem_cons_succ, List.getElem_cons_zero, Act.put, List.setIfInBounds_toArray, List.set_cons_zero, List.set_cons_succ]
                refine wpAnyH_take (i := 17) (v := ?_) rfl (by kernel_rfl) (by kernel_rfl) (by kernel_rfl) (fun _ _ _ h => h) (Or.inl ⟨by rfl, ?_⟩) h4 ?_
                rotate_left
                · (intro w hSw; (try dsimp only at hSw); go_simp); all_goals (with_reducible rfl)
                try simp only [List.getElem_toArray, List.getElem_cons_succ, List.getElem_cons_zero, Act.put, List.setIfInBounds_toArray, List.set_cons_zero, List.set_cons_succ]
                refine wpAnyH_take (i := 18) (v := ?_) rfl (by kernel_rfl) (by kernel_rfl) (by kernel_rfl) (fun _ _ _ h => h) (Or.inl ⟨by rfl, ?_⟩) h4 ?_
                rotate_left
                · (intro w hSw; (try dsimp only at hSw); go_simp); all_goals (with_reducible rfl)
                try simp only [List.getElem_toArray, List.getElem_cons_succ, List.getElem_cons_zero, Act.put, List.setIfInBounds_toArray, List.set_cons_zero, List.set_cons_succ]
                refine wpAnyH_take (i := 19) (v := ?_) rfl (by kernel_rfl) (by kernel_rfl) (by kernel_rfl) (fun _ _ _ h => h) (Or.inl ⟨by rfl, ?_⟩) h4 ?_
                rotate_left
                · (intro w hSw; (try dsimp only at hSw); go_simp); all_goals (with_reducible rfl)
                try simp only [List.getElem_toArray, List.getElem_cons_succ, List.getElem_cons_zero, Act.put, List.setIfInBounds_toArray, List.set_cons_zero, List.set_cons_succ]
                refine wpAnyH_ready (rs := [20]) (by kernel_rfl) (by simp) ?_
                refine AllReadyH.cons rfl (fun K hK => ?_) AllReadyH.nil
                go_simp
                go_at_call 20
                refine (leq_eq lq lp true F2.out _ _ _ _ _ _ _ (LabAt.over h4.1 LQ.out) (LabAt.over h4.1 LP1.out)).mono ?_
                rintro e wq4 ⟨rfl, bq⟩
                go_wp2_with fail
                have bX := bel2 h4.1 bq
                refine hK.out _ _ ?_ (fun h5 => ?_)
                · exact ⟨bX, cellOver bX p0, cellOver bX p1, cellOver bX p2, cellOver bX p3, cellOver bX q0, cellOver bX q1, cellOver bX q2, cellOver bX q3⟩
                clear hK K h4 bX bq
                try simp only [List.getElem_toArray, List.getElem_cons_succ, List.getElem_cons_zero, Act.put, List.setIfInBounds_toArray, List.set_cons_zero, List.set_cons_succ]
                refine wpAnyH_take (i := 21) (v := ?_) rfl (by kernel_rfl) (by kernel_rfl) (by kernel_rfl) (fun _ _ _ h => h) (Or.inl ⟨by rfl, ?_⟩) h5 ?_
                rotate_left
                · (intro w hSw; (try dsimp only at hSw); go_simp); all_goals (with_reducible rfl)
                try simp only [List.getElem_toArray, List.getElem_cons_succ, List.getElem_cons_zero, Act.put, List.setIfInBounds_toArray, List.set_cons_zero, List.set_cons_succ]
                refine wpAnyH_take (i := 22) (v := ?_) rfl (by kernel_rfl) (by kernel_rfl) (by kernel_rfl) (fun _ _ _ h => h) (Or.inl ⟨by rfl, ?_⟩) h5 ?_
                rotate_left
                · (intro w hSw; (try dsimp only at hSw); go_simp); all_goals (with_reducible rfl)
                try simp only [List.getElem_toArray, List.getElem_cons_succ, List.getElem_cons_zero, Act.put, List.setIfInBounds_toArray, List.set_cons_zero, List.set_cons_succ]
                refine wpAnyH_take (i := 23) (v := ?_) rfl (by kernel_rfl) (by kernel_rfl) (by kernel_rfl) (fun _ _ _ h => h) (Or.inl ⟨by rfl, ?_⟩) h5 ?_
                rotate_left
                · (intro w hSw; (try dsimp only at hSw); go_simp); all_goals (with_reducible rfl)
                try simp only [List.getElem_toArray, List.getElem_cons_succ, List.getElem_cons_zero, Act.put, List.setIfInBounds_toArray, List.set_cons_zero, List.set_cons_succ]
                refine wpAnyH_take (i := 24) (v := ?_) rfl (by kernel_rfl) (by kernel_rfl) (by kernel_rfl) (fun _ _ _ h => h) (Or.inl ⟨by rfl, ?_⟩) h5 ?_
                rotate_left
                · (intro w hSw; (try dsimp only at hSw); go_simp); all_goals (with_reducible rfl)
                try simp only [List.getElem_toArray, List.getElem_cons_succ, List.getElem_cons_zero, Act.put, List.setIfInBounds_toArray, List.set_cons_zero, List.set_cons_succ]
                refine wpAnyH_take (i := 25) (v := ?_) rfl (by kernel_rfl) (by kernel_rfl) (by kernel_rfl) (fun _ _ _ h => h) (Or.inl ⟨by rfl, ?_⟩) h5 ?_
                rotate_left
                · (intro w hSw; (try dsimp only at hSw); go_simp); all_goals (with_reducible rfl)
                try simp only [List.getElem_toArray, List.getElem_cons_succ, List.getElem_cons_zero, Act.put, List.setIfInBounds_toArray, List.set_cons_zero, List.set_cons_succ]
                refine wpAnyH_ready (rs := [26]) (by kernel_rfl) (by simp) ?_
                refine AllReadyH.cons rfl (fun K hK => ?_) AllReadyH.nil
                go_simp
                go_at_call 18
                refine (same_eq lp lq true F3.out _ _ _ _ _ _ _ (LabAt.over h5.1 LP1.out) (LabAt.over h5.1 LQ.out)).mono ?_
                rintro e wq5 ⟨rfl, bq⟩
                go_wp2_with fail
                have bX := bel2 h5.1 bq
                refine hK.out _ _ ?_ (fun h6 => ?_)
                · exact ⟨bX, cellOver bX p0, cellOver bX p1, cellOver bX p2, cellOver bX p3, cellOver bX q0, cellOver bX q1, cellOver bX q2, cellOver bX q3⟩
                clear hK K h5 bX bq
                try simp only [List.getElem_toArray, List.getElem_cons_succ, List.getElem_cons_zero, Act.put, List.setIfInBounds_toArray, List.set_cons_zero, List.set_cons_succ]
                refine wpAnyH_take (i := 27) (v := ?_) rfl (by kernel_rfl) (by kernel_rfl) (by kernel_rfl) (fun _ _ _ h => h) (Or.inl ⟨by rfl, ?_⟩) h6 ?_
                rotate_left
                · (intro w hSw; (try dsimp only at hSw); go_simp); all_goals (with_reducible rfl)
                try simp only [List.getElem_toArray, List.getElem_cons_succ, List.getElem_cons_zero, Act.put, List.setIfInBounds_toArray, List.set_cons_zero, List.set_cons_succ]
                refine wpAnyH_take (i := 28) (v := ?_) rfl (by kernel_rfl) (by kernel_rfl) (by kernel_rfl) (fun _ _ _ h => h) (Or.inl ⟨by rfl, ?_⟩) h6 ?_
                rotate_left
                · (intro w hSw; (try dsimp only at hSw); go_simp); all_goals (with_reducible rfl)
                try simp only [List.getElem_toArray, List.getElem_cons_succ, List.getElem_cons_zero, Act.put, List.setIfInBounds_toArray, List.set_cons_zero, List.set_cons_succ]
                refine wpAnyH_take (i := 29) (v := ?_) rfl (by kernel_rfl) (by kernel_rfl) (by kernel_rfl) (fun _ _ _ h => h) (Or.inl ⟨by rfl, ?_⟩) h6 ?_
                rotate_left
                · (intro w hSw; (try dsimp only at hSw); go_simp); all_goals (with_reducible rfl)
                try simp only [List.getElem_toArray, List.getElem_cons_succ, List.getElem_cons_zero, Act.put, List.setIfInBounds_toArray, List.set_cons_zero, List.set_cons_succ]
                refine wpAnyH_done (by kernel_rfl) ?_ _
                have bz := h6.1
                clear h6
                go_wp2_with fail
                go_meet
                exact ⟨rfl, bz⟩
          case rest =>
            obtain ⟨rfl, bx⟩ := hcut
            replace HP1 := Lib.hid (blockOver bx HP1.out)
            replace LP1 := Lib.hid (LP1.out.over bx)
            replace HQ := Lib.hid (blockOver bx HQ.out)
            replace LQ := Lib.hid (LQ.out.over bx)
            replace b3 := bel2 b3 bx
            replace bj3 := bel2 bj3 bx
            clear bx
            go_wp2_with fail
            go_loopw [85, 7, 17] (fun i ok _ wr => ∃ m : Nat, m ≤ 6 ∧ i = .int .i64 m ∧ ok = .bool true ∧ Below wc.heap.size wc wr) (fun i _ _ _ => 6 - (intOf i).toNat)
            case atStart => exact ⟨0, by omega, rfl, rfl, Below.refl _ _⟩
            case round =>
              obtain ⟨m, hm6, rfl, rfl, bm⟩ := hrel
              by_cases hlm : m < 6
              · have mm0 : (0 : Int) ≤ m := by omega
                have mm6 : (m : Int) < 6 := by omega
                have b4 := bel2 b3 bm
                obtain ⟨lr, ar, nr, cr, hm, t0, t1, t2, t3, LR0⟩ := (HLI.out.over b4).at_ (k := m) (by rw [HL.out]; exact hlm)
                have okR := Lib.hid (HOK.out _ hm)
                have ob := below_alloc wr (.cells #[.int .i64 lr.u, .slice ar nr cr, .int .i64 lr.ap, .int .i64 lr.d] 26)
                have HR := Lib.hid (heap_alloc_new wr (.cells #[.int .i64 lr.u, .slice ar nr cr, .int .i64 lr.ap, .int .i64 lr.d] 26))
                have LR := Lib.hid (LR0.over ob)
                have bw2 := bel2 bm ob
                have HP2 := Lib.hid (blockOver bw2 HP1.out)
                have LP2 := Lib.hid (LP1.out.over bw2)
                have HQ2 := Lib.hid (blockOver bw2 HQ.out)
                have LQ2 := Lib.hid (LQ.out.over bw2)
                clear hm LR0 ob
                cases e1 : leqB lp lq
                · have F1 := Lib.hid e1
                  clear e1
                  have bw := bw2
                  obtain ⟨hp2q0, hp2q1, hp2q2, hp2q3⟩ := cells4 HP2.out
                  obtain ⟨hq2q0, hq2q1, hq2q2, hq2q3⟩ := cells4 HQ2.out
                  obtain ⟨hrq0, hrq1, hrq2, hrq3⟩ := cells4 HR.out
                  go_wp2_with fail
                  refine (leq_eq lp lq false F1.out _ _ _ _ _ _ _ LP2.out LQ2.out).mono ?_
                  rintro e w61 ⟨rfl, bq⟩
                  replace HP2 := Lib.hid (blockOver bq HP2.out)
                  replace HQ2 := Lib.hid (blockOver bq HQ2.out)
                  replace HR := Lib.hid (blockOver bq HR.out)
                  replace LP2 := Lib.hid (LabAt.over bq LP2.out)
                  replace LQ2 := Lib.hid (LabAt.over bq LQ2.out)
                  replace LR := Lib.hid (LabAt.over bq LR.out)
                  replace bw := bel2 bw bq
                  clear bq hp2q0 hp2q1 hp2q2 hp2q3 hq2q0 hq2q1 hq2q2 hq2q3 hrq0 hrq1 hrq2 hrq3
                  go_wp2
                  exact ⟨⟨m + 1, by omega, by go_num, rfl, bw⟩, by simp [intOf]; omega⟩
                · cases e2 : leqB lq lr
                  · have F1 := Lib.hid e1
                    have F2 := Lib.hid e2
                    clear e1 e2
                    have bw := bw2
                    obtain ⟨hp2q0, hp2q1, hp2q2, hp2q3⟩ := cells4 HP2.out
                    obtain ⟨hq2q0, hq2q1, hq2q2, hq2q3⟩ := cells4 HQ2.out
                    obtain ⟨hrq0, hrq1, hrq2, hrq3⟩ := cells4 HR.out
                    go_wp2_with fail
                    refine (leq_eq lp lq true F1.out _ _ _ _ _ _ _ LP2.out LQ2.out).mono ?_
                    rintro e w61 ⟨rfl, bq⟩
                    replace HP2 := Lib.hid (blockOver bq HP2.out)
                    replace HQ2 := Lib.hid (blockOver bq HQ2.out)
                    replace HR := Lib.hid (blockOver bq HR.out)
                    replace LP2 := Lib.hid (LabAt.over bq LP2.out)
                    replace LQ2 := Lib.hid (LabAt.over bq LQ2.out)
                    replace LR := Lib.hid (LabAt.over bq LR.out)
                    replace bw := bel2 bw bq
                    clear bq hp2q0 hp2q1 hp2q2 hp2q3 hq2q0 hq2q1 hq2q2 hq2q3 hrq0 hrq1 hrq2 hrq3
                    obtain ⟨hp2q0, hp2q1, hp2q2, hp2q3⟩ := cells4 HP2.out
                    obtain ⟨hq2q0, hq2q1, hq2q2, hq2q3⟩ := cells4 HQ2.out
                    obtain ⟨hrq0, hrq1, hrq2, hrq3⟩ := cells4 HR.out
                    go_wp2_with fail
                    refine (leq_eq lq lr false F2.out _ _ _ _ _ _ _ LQ2.out LR.out).mono ?_
                    rintro e w62 ⟨rfl, bq⟩
                    replace HP2 := Lib.hid (blockOver bq HP2.out)
                    replace HQ2 := Lib.hid (blockOver bq HQ2.out)
                    replace HR := Lib.hid (blockOver bq HR.out)
                    replace LP2 := Lib.hid (LabAt.over bq LP2.out)
                    replace LQ2 := Lib.hid (LabAt.over bq LQ2.out)
                    replace LR := Lib.hid (LabAt.over bq LR.out)
                    replace bw := bel2 bw bq
                    clear bq hp2q0 hp2q1 hp2q2 hp2q3 hq2q0 hq2q1 hq2q2 hq2q3 hrq0 hrq1 hrq2 hrq3
                    go_wp2
                    exact ⟨⟨m + 1, by omega, by go_num, rfl, bw⟩, by simp [intOf]; omega⟩
                  · have F3 := Lib.hid (leqB_trans okP.out okQ.out okR.out e1 e2)
                    have F1 := Lib.hid e1
                    have F2 := Lib.hid e2
                    clear e1 e2
                    have bw := bw2
                    obtain ⟨hp2q0, hp2q1, hp2q2, hp2q3⟩ := cells4 HP2.out
                    obtain ⟨hq2q0, hq2q1, hq2q2, hq2q3⟩ := cells4 HQ2.out
                    obtain ⟨hrq0, hrq1, hrq2, hrq3⟩ := cells4 HR.out
                    go_wp2_with fail
                    refine (leq_eq lp lq true F1.out _ _ _ _ _ _ _ LP2.out LQ2.out).mono ?_
                    rintro e w61 ⟨rfl, bq⟩
                    replace HP2 := Lib.hid (blockOver bq HP2.out)
                    replace HQ2 := Lib.hid (blockOver bq HQ2.out)
                    replace HR := Lib.hid (blockOver bq HR.out)
                    replace LP2 := Lib.hid (LabAt.over bq LP2.out)
                    replace LQ2 := Lib.hid (LabAt.over bq LQ2.out)
                    replace LR := Lib.hid (LabAt.over bq LR.out)
                    replace bw := bel2 bw bq
                    clear bq hp2q0 hp2q1 hp2q2 hp2q3 hq2q0 hq2q1 hq2q2 hq2q3 hrq0 hrq1 hrq2 hrq3
                    obtain ⟨hp2q0, hp2q1, hp2q2, hp2q3⟩ := cells4 HP2.out
                    obtain ⟨hq2q0, hq2q1, hq2q2, hq2q3⟩ := cells4 HQ2.out
                    obtain ⟨hrq0, hrq1, hrq2, hrq3⟩ := cells4 HR.out
                    go_wp2_with fail
                    refine (leq_eq lq lr true F2.out _ _ _ _ _ _ _ LQ2.out LR.out).mono ?_
                    rintro e w62 ⟨rfl, bq⟩
                    replace HP2 := Lib.hid (blockOver bq HP2.out)
                    replace HQ2 := Lib.hid (blockOver bq HQ2.out)
                    replace HR := Lib.hid (blockOver bq HR.out)
                    replace LP2 := Lib.hid (LabAt.over bq LP2.out)
                    replace LQ2 := Lib.hid (LabAt.over bq LQ2.out)
                    replace LR := Lib.hid (LabAt.over bq LR.out)
                    replace bw := bel2 bw bq
                    clear bq hp2q0 hp2q1 hp2q2 hp2q3 hq2q0 hq2q1 hq2q2 hq2q3 hrq0 hrq1 hrq2 hrq3
                    obtain ⟨hp2q0, hp2q1, hp2q2, hp2q3⟩ := cells4 HP2.out
                    obtain ⟨hq2q0, hq2q1, hq2q2, hq2q3⟩ := cells4 HQ2.out
                    obtain ⟨hrq0, hrq1, hrq2, hrq3⟩ := cells4 HR.out
                    go_wp2_with fail
                    refine (leq_eq lp lr true F3.out _ _ _ _ _ _ _ LP2.out LR.out).mono ?_
                    rintro e w63 ⟨rfl, bq⟩
                    replace HP2 := Lib.hid (blockOver bq HP2.out)
                    replace HQ2 := Lib.hid (blockOver bq HQ2.out)
                    replace HR := Lib.hid (blockOver bq HR.out)
                    replace LP2 := Lib.hid (LabAt.over bq LP2.out)
                    replace LQ2 := Lib.hid (LabAt.over bq LQ2.out)
                    replace LR := Lib.hid (LabAt.over bq LR.out)
                    replace bw := bel2 bw bq
                    clear bq hp2q0 hp2q1 hp2q2 hp2q3 hq2q0 hq2q1 hq2q2 hq2q3 hrq0 hrq1 hrq2 hrq3
                    go_wp2
                    exact ⟨⟨m + 1, by omega, by go_num, rfl, bw⟩, by simp [intOf]; omega⟩
              · obtain rfl : m = 6 := by omega
                have bz := bel2 bj3 bm
                go_wp2
                exact ⟨⟨j + 1, by omega, by go_num, rfl, bz⟩, by simp [intOf]; omega⟩
        · obtain rfl : j = 6 := by omega
          have bz := bel2 b1 bj
          go_wp2
          exact ⟨⟨k + 1, by omega, by go_num, rfl, bz⟩, by simp [intOf]; omega⟩
    · obtain rfl : k = 6 := by omega
      have bz := bel2 bw br
      go_wp2
      go_ret
      exact ⟨rfl, bz⟩
end Go.Proofs.Ythpginepnleokaa
