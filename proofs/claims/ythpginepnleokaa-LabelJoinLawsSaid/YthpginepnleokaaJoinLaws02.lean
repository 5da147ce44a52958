import Derived.Test.YthpginepnleokaaLabL
import Derived.Deep.RegionHeld3
import Derived.RegionTactic
namespace Go.Proofs.Ythpginepnleokaa
open Go.RowKit
set_option maxRecDepth 100000 in
set_option maxHeartbeats 16000000 in
theorem joinLaws_walk (x0 x1 x2 x3 y0 y1 y2 y3 z0 z1 z2 z3 : Int) (w : World) (hx : B4 x0 x1 x2 x3) (hy : B4 y0 y1 y2 y3) (hz : B4 z0 z1 z2 z3) :
    Calls Try.prog 5 #[.agg #[.int .i64 x0, .int .i64 x1, .int .i64 x2, .int .i64 x3], .agg #[.int .i64 y0, .int .i64 y1, .int .i64 y2, .int .i64 y3], .agg #[.int .i64 z0, .int .i64 z1, .int .i64 z2, .int .i64 z3]] w fun e w' => e = .returned (.bool true) ∧ Below w.heap.size w w' := by
  obtain ⟨la, _, okA, KA⟩ := make_eq _ _ _ _ hx
  obtain ⟨lb, _, okB, KB⟩ := make_eq _ _ _ _ hy
  obtain ⟨lc, _, okC, KC⟩ := make_eq _ _ _ _ hz
  obtain ⟨lj, hj⟩ : ∃ l, joinL la lb = l := ⟨_, rfl⟩
  obtain ⟨ljc, hjc⟩ : ∃ l, joinL lj lc = l := ⟨_, rfl⟩
  obtain ⟨lbc, hbc⟩ : ∃ l, joinL lb lc = l := ⟨_, rfl⟩
  have e1 := Lib.hid (show validB lj = true by rw [← hj]; exact validB_of (joinL_ok _ _))
  have e2 := Lib.hid (show joinL lb la = lj by rw [join_comm, hj])
  have e3 := Lib.hid (show joinL la lbc = ljc by rw [← hbc, ← join_assoc okA.out okB.out okC.out, hj, hjc])
  have EJ := Lib.hid hj
  have EJC := Lib.hid hjc
  have EBC := Lib.hid hbc
  clear hj hjc hbc hx hy hz
  obtain ⟨hX, hY, hZ, bw⟩ := three_allocs w (.cells #[.int .i64 x0, .int .i64 x1, .int .i64 x2, .int .i64 x3] 22) (.cells #[.int .i64 y0, .int .i64 y1, .int .i64 y2, .int .i64 y3] 22) (.cells #[.int .i64 z0, .int .i64 z1, .int .i64 z2, .int .i64 z3] 22)
  have HX := Lib.hid hX
  have HY := Lib.hid hY
  have HZ := Lib.hid hZ
  clear hX hY hZ
  go_enter Try.func5, Try.ntmps5
  obtain ⟨hxq0, hxq1, hxq2, hxq3⟩ := cells4 HX.out
  obtain ⟨hyq0, hyq1, hyq2, hyq3⟩ := cells4 HY.out
  obtain ⟨hzq0, hzq1, hzq2, hzq3⟩ := cells4 HZ.out
  go_wp2_with fail
  refine (sane_any _).mono ?_
  rintro e w1 ⟨rfl, bq⟩
  replace HX := Lib.hid (blockOver bq HX.out)
  replace HY := Lib.hid (blockOver bq HY.out)
  replace HZ := Lib.hid (blockOver bq HZ.out)
  replace bw := bel2 bw bq
  clear bq hxq0 hxq1 hxq2 hxq3 hyq0 hyq1 hyq2 hyq3 hzq0 hzq1 hzq2 hzq3
  obtain ⟨hxq0, hxq1, hxq2, hxq3⟩ := cells4 HX.out
  go_wp2_with fail
  refine (KA.out _).mono ?_
  rintro e w2 ⟨aA, nA, cA, rfl, LA, OA, bq⟩
  have HA := Lib.hid (heap_alloc_new w2 (.cells #[.int .i64 la.u, .slice aA nA cA, .int .i64 la.ap, .int .i64 la.d] 26))
  replace LA := Lib.hid (LA.over (below_alloc w2 (.cells #[.int .i64 la.u, .slice aA nA cA, .int .i64 la.ap, .int .i64 la.d] 26)))
  replace bq := bel2 bq (below_alloc w2 (.cells #[.int .i64 la.u, .slice aA nA cA, .int .i64 la.ap, .int .i64 la.d] 26))
  replace HX := Lib.hid (blockOver bq HX.out)
  replace HY := Lib.hid (blockOver bq HY.out)
  replace HZ := Lib.hid (blockOver bq HZ.out)
  replace bw := bel2 bw bq
  clear bq OA hxq0 hxq1 hxq2 hxq3
  obtain ⟨hyq0, hyq1, hyq2, hyq3⟩ := cells4 HY.out
  go_wp2_with fail
  refine (KB.out _).mono ?_
  rintro e w3 ⟨aB, nB, cB, rfl, LB, OB, bq⟩
  have HB := Lib.hid (heap_alloc_new w3 (.cells #[.int .i64 lb.u, .slice aB nB cB, .int .i64 lb.ap, .int .i64 lb.d] 26))
  replace LB := Lib.hid (LB.over (below_alloc w3 (.cells #[.int .i64 lb.u, .slice aB nB cB, .int .i64 lb.ap, .int .i64 lb.d] 26)))
  replace bq := bel2 bq (below_alloc w3 (.cells #[.int .i64 lb.u, .slice aB nB cB, .int .i64 lb.ap, .int .i64 lb.d] 26))
  replace HX := Lib.hid (blockOver bq HX.out)
  replace HY := Lib.hid (blockOver bq HY.out)
  replace HZ := Lib.hid (blockOver bq HZ.out)
  replace HA := Lib.hid (blockOver bq HA.out)
  replace LA := Lib.hid (LabAt.over bq LA.out)
  replace bw := bel2 bw bq
  clear bq OB hyq0 hyq1 hyq2 hyq3
  obtain ⟨hzq0, hzq1, hzq2, hzq3⟩ := cells4 HZ.out
  go_wp2_with fail
  refine (KC.out _).mono ?_
  rintro e w4 ⟨aC, nC, cC, rfl, LC, OC, bq⟩
  have HC := Lib.hid (heap_alloc_new w4 (.cells #[.int .i64 lc.u, .slice aC nC cC, .int .i64 lc.ap, .int .i64 lc.d] 26))
  replace LC := Lib.hid (LC.over (below_alloc w4 (.cells #[.int .i64 lc.u, .slice aC nC cC, .int .i64 lc.ap, .int .i64 lc.d] 26)))
  replace bq := bel2 bq (below_alloc w4 (.cells #[.int .i64 lc.u, .slice aC nC cC, .int .i64 lc.ap, .int .i64 lc.d] 26))
  replace HX := Lib.hid (blockOver bq HX.out)
  replace HY := Lib.hid (blockOver bq HY.out)
  replace HZ := Lib.hid (blockOver bq HZ.out)
  replace HA := Lib.hid (blockOver bq HA.out)
  replace HB := Lib.hid (blockOver bq HB.out)
  replace LA := Lib.hid (LabAt.over bq LA.out)
  replace LB := Lib.hid (LabAt.over bq LB.out)
  replace bw := bel2 bw bq
  clear bq OC hzq0 hzq1 hzq2 hzq3
  obtain ⟨haq0, haq1, haq2, haq3⟩ := cells4 HA.out
  obtain ⟨hbq0, hbq1, hbq2, hbq3⟩ := cells4 HB.out
  go_wp2_with fail
  refine (join_eq la lb lj EJ.out _ _ _ _ _ _ _ LA.out LB.out).mono ?_
  rintro e w5 ⟨aJ, nJ, cJ, rfl, LJ, OJ, bq⟩
  have HJ := Lib.hid (heap_alloc_new w5 (.cells #[.int .i64 lj.u, .slice aJ nJ cJ, .int .i64 lj.ap, .int .i64 lj.d] 26))
  replace LJ := Lib.hid (LJ.over (below_alloc w5 (.cells #[.int .i64 lj.u, .slice aJ nJ cJ, .int .i64 lj.ap, .int .i64 lj.d] 26)))
  replace bq := bel2 bq (below_alloc w5 (.cells #[.int .i64 lj.u, .slice aJ nJ cJ, .int .i64 lj.ap, .int .i64 lj.d] 26))
  replace HX := Lib.hid (blockOver bq HX.out)
  replace HY := Lib.hid (blockOver bq HY.out)
  replace HZ := Lib.hid (blockOver bq HZ.out)
  replace HA := Lib.hid (blockOver bq HA.out)
  replace HB := Lib.hid (blockOver bq HB.out)
  replace HC := Lib.hid (blockOver bq HC.out)
  replace LA := Lib.hid (LabAt.over bq LA.out)
  replace LB := Lib.hid (LabAt.over bq LB.out)
  replace LC := Lib.hid (LabAt.over bq LC.out)
  replace bw := bel2 bw bq
  clear bq OJ haq0 haq1 haq2 haq3 hbq0 hbq1 hbq2 hbq3
  obtain ⟨haq0, haq1, haq2, haq3⟩ := cells4 HA.out
  obtain ⟨hbq0, hbq1, hbq2, hbq3⟩ := cells4 HB.out
  obtain ⟨hcq0, hcq1, hcq2, hcq3⟩ := cells4 HC.out
  obtain ⟨hjq0, hjq1, hjq2, hjq3⟩ := cells4 HJ.out
  go_wp2_with fail
  have bc := Below.refl (w5.alloc (.cells #[.int .i64 lj.u, .slice aJ nJ cJ, .int .i64 lj.ap, .int .i64 lj.d] 26)).heap.size (w5.alloc (.cells #[.int .i64 lj.u, .slice aJ nJ cJ, .int .i64 lj.ap, .int .i64 lj.d] 26))
  have tok1 : True := trivial
  have tok2 : True := trivial
  have tok3 : True := trivial
  have tok4 : True := trivial
  have tok5 : True := trivial
  have tok6 : True := trivial
  have tok7 : True := trivial
  have tok8 : True := trivial
  have tok9 : True := trivial
  have tok10 : True := trivial
  have tok11 : True := trivial
  have tok12 : True := trivial
  have tok13 : True := trivial
  go_region_held3 (fun w' => w'.cell? ⟨w2.heap.size, 0, none⟩ = some (.int .i64 la.u) ∧ w'.cell? ⟨w2.heap.size, 1, none⟩ = some (.slice aA nA cA) ∧ w'.cell? ⟨w2.heap.size, 2, none⟩ = some (.int .i64 la.ap) ∧ w'.cell? ⟨w2.heap.size, 3, none⟩ = some (.int .i64 la.d) ∧ w'.cell? ⟨w3.heap.size, 0, none⟩ = some (.int .i64 lb.u) ∧ w'.cell? ⟨w3.heap.size, 1, none⟩ = some (.slice aB nB cB) ∧ w'.cell? ⟨w3.heap.size, 2, none⟩ = some (.int .i64 lb.ap) ∧ w'.cell? ⟨w3.heap.size, 3, none⟩ = some (.int .i64 lb.d) ∧ w'.cell? ⟨w4.heap.size, 0, none⟩ = some (.int .i64 lc.u) ∧ w'.cell? ⟨w4.heap.size, 1, none⟩ = some (.slice aC nC cC) ∧ w'.cell? ⟨w4.heap.size, 2, none⟩ = some (.int .i64 lc.ap) ∧ w'.cell? ⟨w4.heap.size, 3, none⟩ = some (.int .i64 lc.d) ∧ w'.cell? ⟨w5.heap.size, 0, none⟩ = some (.int .i64 lj.u) ∧ w'.cell? ⟨w5.heap.size, 1, none⟩ = some (.slice aJ nJ cJ) ∧ w'.cell? ⟨w5.heap.size, 2, none⟩ = some (.int .i64 lj.ap) ∧ w'.cell? ⟨w5.heap.size, 3, none⟩ = some (.int .i64 lj.d) ∧ Below (w5.alloc (.cells #[.int .i64 lj.u, .slice aJ nJ cJ, .int .i64 lj.ap, .int .i64 lj.d] 26)).heap.size (w5.alloc (.cells #[.int .i64 lj.u, .slice aJ nJ cJ, .int .i64 lj.ap, .int .i64 lj.d] 26)) w') (first | (go_split_ands; exact ⟨cellOver bq (by assumption), cellOver bq (by assumption), cellOver bq (by assumption), cellOver bq (by assumption), cellOver bq (by assumption), cellOver bq (by assumption), cellOver bq (by assumption), cellOver bq (by assumption), cellOver bq (by assumption), cellOver bq (by assumption), cellOver bq (by assumption), cellOver bq (by assumption), cellOver bq (by assumption), cellOver bq (by assumption), cellOver bq (by assumption), cellOver bq (by assumption), bel2 (by assumption) bq⟩) | exact ⟨haq0, haq1, haq2, haq3, hbq0, hbq1, hbq2, hbq3, hcq0, hcq1, hcq2, hcq3, hjq0, hjq1, hjq2, hjq3, bc.drew⟩) (first | (have _t := tok1; go_at_call 16; go_split_ands; refine (valid_eq lj true e1.out _ _ _ _ (LabAt.over (by assumption) LJ.out)).mono ?_; rintro e wq ⟨rfl, bq⟩; clear tok1 _t) | (have _t := tok2; go_at_call 22; go_split_ands; refine (join_eq lb la lj e2.out _ _ _ _ _ _ _ (LabAt.over (by assumption) LB.out) (LabAt.over (by assumption) LA.out)).mono ?_; rintro e wq ⟨av1, nv1, cv1, rfl, Lv1, Ov1, bq⟩; clear Ov1; clear tok2 _t) | (have _t := tok3; go_at_call 18; go_split_ands; refine (same_eq lj lj true (same_refl _) _ _ _ _ _ _ _ (LabAt.over (by assumption) LJ.out) Lv1).mono ?_; rintro e wq ⟨rfl, bq⟩; clear tok3 _t) | (have _t := tok4; go_at_call 22; go_split_ands; refine (join_eq lj lc ljc EJC.out _ _ _ _ _ _ _ (LabAt.over (by assumption) LJ.out) (LabAt.over (by assumption) LC.out)).mono ?_; rintro e wq ⟨av2, nv2, cv2, rfl, Lv2, Ov2, bq⟩; clear Ov2; clear tok4 _t) | (have _t := tok5; go_at_call 22; go_split_ands; refine (join_eq lb lc lbc EBC.out _ _ _ _ _ _ _ (LabAt.over (by assumption) LB.out) (LabAt.over (by assumption) LC.out)).mono ?_; rintro e wq ⟨av3, nv3, cv3, rfl, Lv3, Ov3, bq⟩; clear Ov3; replace Lv2 := Lv2.over bq; clear tok5 _t) | (have _t := tok6; go_at_call 22; go_split_ands; refine (join_eq la lbc ljc e3.out _ _ _ _ _ _ _ (LabAt.over (by assumption) LA.out) Lv3).mono ?_; rintro e wq ⟨av4, nv4, cv4, rfl, Lv4, Ov4, bq⟩; clear Ov4; replace Lv2 := Lv2.over bq; clear tok6 _t) | (have _t := tok7; go_at_call 18; go_split_ands; refine (same_eq ljc ljc true (same_refl _) _ _ _ _ _ _ _ Lv2 Lv4).mono ?_; rintro e wq ⟨rfl, bq⟩; clear tok7 _t) | (have _t := tok8; go_at_call 22; go_split_ands; refine (join_eq la la la (join_idem okA.out) _ _ _ _ _ _ _ (LabAt.over (by assumption) LA.out) (LabAt.over (by assumption) LA.out)).mono ?_; rintro e wq ⟨av5, nv5, cv5, rfl, Lv5, Ov5, bq⟩; clear Ov5; clear tok8 _t) | (have _t := tok9; go_at_call 18; go_split_ands; refine (same_eq la la true (same_refl _) _ _ _ _ _ _ _ Lv5 (LabAt.over (by assumption) LA.out)).mono ?_; rintro e wq ⟨rfl, bq⟩; clear tok9 _t) | (have _t := tok10; go_at_call 22; go_split_ands; refine (join_eq la zeroL la (join_zero okA.out) _ _ _ _ _ _ _ (LabAt.over (by assumption) LA.out) (zero_at _)).mono ?_; rintro e wq ⟨av6, nv6, cv6, rfl, Lv6, Ov6, bq⟩; clear Ov6; clear tok10 _t) | (have _t := tok11; go_at_call 18; go_split_ands; refine (same_eq la la true (same_refl _) _ _ _ _ _ _ _ Lv6 (LabAt.over (by assumption) LA.out)).mono ?_; rintro e wq ⟨rfl, bq⟩; clear tok11 _t) | (have _t := tok12; go_at_call 22; go_split_ands; refine (join_eq zeroL la la (zero_join okA.out) _ _ _ _ _ _ _ (zero_at _) (LabAt.over (by assumption) LA.out)).mono ?_; rintro e wq ⟨av7, nv7, cv7, rfl, Lv7, Ov7, bq⟩; clear Ov7; clear tok12 _t) | (have _t := tok13; go_at_call 18; go_split_ands; refine (same_eq la la true (same_refl _) _ _ _ _ _ _ _ Lv7 (LabAt.over (by assumption) LA.out)).mono ?_; rintro e wq ⟨rfl, bq⟩; clear tok13 _t))
  go_split_ands
  go_wp2
  go_ret
  exact ⟨rfl, bel2 bw (by assumption)⟩
end Go.Proofs.Ythpginepnleokaa
