/- LabelBounds: the walk of the statement's text. -/
import Derived.Test.YthpginepnleokaaLabQ
import Derived.Deep.RegionHeld3
import Derived.RegionTactic
import Derived.Deep.CutRange
namespace Go.Proofs.Ythpginepnleokaa
open Go.RowKit
set_option linter.unusedSimpArgs false
set_option linter.unusedVariables false
set_option linter.unnecessarySimpa false
theorem bad_u {l : Lab} (h : Ok l) (n : Int) : validB ⟨n, l.af, l.ap, l.d⟩ = decide (0 ≤ n ∧ n ≤ 1000000000) := by
  rw [Bool.eq_iff_iff, validB_iff, decide_eq_true_eq]
  exact ⟨fun k => k.1, fun k => ⟨k, h.2⟩⟩
theorem bad_ap {l : Lab} (h : Ok l) (n : Int) : validB ⟨l.u, l.af, n, l.d⟩ = decide (0 ≤ n ∧ n ≤ 5) := by
  rw [Bool.eq_iff_iff, validB_iff, decide_eq_true_eq]
  exact ⟨fun k => k.2.2.2.1, fun k => ⟨h.1, h.2.1, h.2.2.1, k, h.2.2.2.2⟩⟩
theorem bad_d {l : Lab} (h : Ok l) (n : Int) : validB ⟨l.u, l.af, l.ap, n⟩ = decide (0 ≤ n ∧ n ≤ 15) := by
  rw [Bool.eq_iff_iff, validB_iff, decide_eq_true_eq]
  exact ⟨fun k => k.2.2.2.2, fun k => ⟨h.1, h.2.1, h.2.2.1, h.2.2.2.1, k⟩⟩
theorem bad_one {l : Lab} (h : Ok l) (n : Int) : validB ⟨l.u, [n], l.ap, l.d⟩ = decide (1 ≤ n ∧ n ≤ 64) := by
  rw [Bool.eq_iff_iff, validB_iff, decide_eq_true_eq]
  exact ⟨fun k => k.2.1 n (by simp), fun k => ⟨h.1, (fun z hz => by rw [List.mem_singleton] at hz; rw [hz]; exact k), List.pairwise_singleton _ _, h.2.2.2.1, h.2.2.2.2⟩⟩
theorem bad_two {l : Lab} (h : Ok l) (n : Int) : validB ⟨l.u, [10, n], l.ap, l.d⟩ = decide (10 < n ∧ n ≤ 64) := by
  rw [Bool.eq_iff_iff, validB_iff, decide_eq_true_eq]
  constructor
  · intro k
    have h1 := (k.2.1 n (by simp)).2
    have h2 := k.2.2.1
    simp at h2
    exact ⟨h2, h1⟩
  · intro k
    refine ⟨h.1, (fun z hz => ?_), by simp; omega, h.2.2.2.1, h.2.2.2.2⟩
    simp at hz
    rcases hz with rfl | rfl
    · omega
    · omega
theorem bad_join {l m : Lab} (h : validB m = false) : joinL l m = zeroL ∧ joinL m l = zeroL ∧ leqB l m = false ∧ leqB m l = false := by simp [joinL, leqB, h]
theorem bad_all {m : Lab} (h : validB m = false) (cls now : Int) (out : List Int) (k : Int) : allB m cls now out k = false := by simp [allB, h]
theorem dec_yes {p : Prop} [Decidable p] (h : p) : decide p = true := by simpa using h
theorem dec_no {p : Prop} [Decidable p] (h : ¬ p) : decide p = false := by simpa using h
theorem lit_two (a b : Int) (ha : Bd a) (hb : Bd b) (w : World) : IsInts .i64 (w.alloc (.cells #[.int .i64 a, .int .i64 b] 3)) (some ⟨w.heap.size, 0, none⟩) 2 2 [a, b] := lit_ints w 3 [a, b] (by simp; exact ⟨ha, hb⟩) (by simp)
theorem lit_one (a : Int) (ha : Bd a) (w : World) : IsInts .i64 (w.alloc (.cells #[.int .i64 a] 3)) (some ⟨w.heap.size, 0, none⟩) 1 1 [a] := lit_ints w 3 [a] (by simpa using ha) (by simp)
set_option maxRecDepth 100000 in
set_option maxHeartbeats 32000000 in
theorem bounds_walk (x0 x1 x2 x3 p n : Int) (w : World) (hx : B4 x0 x1 x2 x3) (hp : (Lit.int .i64 p).wf = true) (hn : (Lit.int .i64 n).wf = true) :
    Calls Try.prog 11 #[.agg #[.int .i64 x0, .int .i64 x1, .int .i64 x2, .int .i64 x3], .int .i64 p, .int .i64 n] w fun e w' => e = .returned (.bool true) ∧ Below w.heap.size w w' := by
  obtain ⟨la, _, okA, KA⟩ := make_eq _ _ _ _ hx
  have bp := wf64 hp
  have bn := wf64 hn
  clear hx hp hn
  obtain ⟨hX, bw⟩ := one_alloc w (.cells #[.int .i64 x0, .int .i64 x1, .int .i64 x2, .int .i64 x3] 22)
  have HX := Lib.hid hX
  clear hX
  go_enter Try.func11, Try.ntmps11
  obtain ⟨hxq0, hxq1, hxq2, hxq3⟩ := cells4 HX.out
  go_wp2_with fail
  refine (sane_any _).mono ?_
  rintro e w1 ⟨rfl, bq⟩
  replace HX := Lib.hid (blockOver bq HX.out)
  replace bw := bel2 bw bq
  clear bq hxq0 hxq1 hxq2 hxq3
  obtain ⟨hxq0, hxq1, hxq2, hxq3⟩ := cells4 HX.out
  go_wp2_with fail
  refine (KA.out _).mono ?_
  rintro e w2 ⟨aA, nA, cA, rfl, LA, OA, bq⟩
  have HA := Lib.hid (heap_alloc_new w2 (.cells #[.int .i64 la.u, .slice aA nA cA, .int .i64 la.ap, .int .i64 la.d] 26))
  replace LA := Lib.hid (LA.over (below_alloc w2 (.cells #[.int .i64 la.u, .slice aA nA cA, .int .i64 la.ap, .int .i64 la.d] 26)))
  replace bq := bel2 bq (below_alloc w2 (.cells #[.int .i64 la.u, .slice aA nA cA, .int .i64 la.ap, .int .i64 la.d] 26))
  replace HX := Lib.hid (blockOver bq HX.out)
  replace bw := bel2 bw bq
  clear bq OA hxq0 hxq1 hxq2 hxq3
  obtain ⟨haq0, haq1, haq2, haq3⟩ := cells4 HA.out
  have q0 := pck_lo p 5 (by omega)
  have q1 := pck_hi p 5 (by omega)
  go_wp2_with fail
  refine (pick_any p 5 _ (by omega) (by omega) (by omega)).mono ?_
  rintro e w' ⟨rfl, rfl⟩
  generalize pck p 5 = q at *
  have hq : q = 0 ∨ q = 1 ∨ q = 2 ∨ q = 3 ∨ q = 4 := by omega
  have VA := Lib.hid (validB_of okA.out)
  have BA := Lib.hid (Ok.bd okA.out)
  clear haq0 haq1 haq2 haq3 q0 q1
  rcases hq with rfl | rfl | rfl | rfl | rfl
  · by_cases h1 : 0 ≤ n
    · by_cases h2 : n ≤ 1000000000
      · skip
        have EV := Lib.hid (show validB (⟨n, la.af, la.ap, la.d⟩ : Lab) = true by rw [bad_u okA.out]; exact dec_yes (by omega))
        have bn1 : Below (w2.alloc (.cells #[.int .i64 la.u, .slice aA nA cA, .int .i64 la.ap, .int .i64 la.d] 26)).heap.size (w2.alloc (.cells #[.int .i64 la.u, .slice aA nA cA, .int .i64 la.ap, .int .i64 la.d] 26)) ((w2.alloc (.cells #[.int .i64 la.u, .slice aA nA cA, .int .i64 la.ap, .int .i64 la.d] 26)).alloc (.cells #[.int .i64 n, .slice aA nA cA, .int .i64 la.ap, .int .i64 la.d] 26)) := below_alloc _ _
        have HB : ((w2.alloc (.cells #[.int .i64 la.u, .slice aA nA cA, .int .i64 la.ap, .int .i64 la.d] 26)).alloc (.cells #[.int .i64 n, .slice aA nA cA, .int .i64 la.ap, .int .i64 la.d] 26)).heap[w2.heap.size + 1]? = some (.cells #[.int .i64 n, .slice aA nA cA, .int .i64 la.ap, .int .i64 la.d] 26 (0, 0)) := by
          have h := heap_alloc_new (w2.alloc (.cells #[.int .i64 la.u, .slice aA nA cA, .int .i64 la.ap, .int .i64 la.d] 26)) (.cells #[.int .i64 n, .slice aA nA cA, .int .i64 la.ap, .int .i64 la.d] 26)
          rw [show (w2.alloc (.cells #[.int .i64 la.u, .slice aA nA cA, .int .i64 la.ap, .int .i64 la.d] 26)).heap.size = w2.heap.size + 1 by simp] at h
          exact h
        have LB : LabAt ((w2.alloc (.cells #[.int .i64 la.u, .slice aA nA cA, .int .i64 la.ap, .int .i64 la.d] 26)).alloc (.cells #[.int .i64 n, .slice aA nA cA, .int .i64 la.ap, .int .i64 la.d] 26)) aA nA cA (⟨n, la.af, la.ap, la.d⟩ : Lab) := ⟨(LA.out.over bn1).1, ⟨bn, BA.out.2⟩⟩
        replace HB := Lib.hid HB
        replace LB := Lib.hid LB
        replace HA := Lib.hid (blockOver bn1 HA.out)
        replace LA := Lib.hid (LA.out.over bn1)
        replace bw := bel2 bw bn1
        clear bn1 HX
        obtain ⟨hbq0, hbq1, hbq2, hbq3⟩ := cells4 HB.out
        go_wp2_with fail
        refine (valid_eq la true VA.out _ _ _ _ LA.out).mono ?_
        rintro e w11 ⟨rfl, bq⟩
        replace HA := Lib.hid (blockOver bq HA.out)
        replace HB := Lib.hid (blockOver bq HB.out)
        replace LA := Lib.hid (LabAt.over bq LA.out)
        replace LB := Lib.hid (LabAt.over bq LB.out)
        replace bw := bel2 bw bq
        clear bq hbq0 hbq1 hbq2 hbq3
        obtain ⟨hbq0, hbq1, hbq2, hbq3⟩ := cells4 HB.out
        go_wp2_with fail
        refine (valid_eq (⟨n, la.af, la.ap, la.d⟩ : Lab) true EV.out _ _ _ _ LB.out).mono ?_
        rintro e w12 ⟨rfl, bq⟩
        replace HA := Lib.hid (blockOver bq HA.out)
        replace HB := Lib.hid (blockOver bq HB.out)
        replace LA := Lib.hid (LabAt.over bq LA.out)
        replace LB := Lib.hid (LabAt.over bq LB.out)
        replace bw := bel2 bw bq
        clear bq hbq0 hbq1 hbq2 hbq3
        go_wp2
        go_ret
        exact ⟨rfl, bw⟩
      · have g2 : decide (n ≤ 1000000000) = false := dec_no h2
        have EV := Lib.hid (show validB (⟨n, la.af, la.ap, la.d⟩ : Lab) = false by rw [bad_u okA.out]; exact dec_no (by omega))
        have bn1 : Below (w2.alloc (.cells #[.int .i64 la.u, .slice aA nA cA, .int .i64 la.ap, .int .i64 la.d] 26)).heap.size (w2.alloc (.cells #[.int .i64 la.u, .slice aA nA cA, .int .i64 la.ap, .int .i64 la.d] 26)) ((w2.alloc (.cells #[.int .i64 la.u, .slice aA nA cA, .int .i64 la.ap, .int .i64 la.d] 26)).alloc (.cells #[.int .i64 n, .slice aA nA cA, .int .i64 la.ap, .int .i64 la.d] 26)) := below_alloc _ _
        have HB : ((w2.alloc (.cells #[.int .i64 la.u, .slice aA nA cA, .int .i64 la.ap, .int .i64 la.d] 26)).alloc (.cells #[.int .i64 n, .slice aA nA cA, .int .i64 la.ap, .int .i64 la.d] 26)).heap[w2.heap.size + 1]? = some (.cells #[.int .i64 n, .slice aA nA cA, .int .i64 la.ap, .int .i64 la.d] 26 (0, 0)) := by
          have h := heap_alloc_new (w2.alloc (.cells #[.int .i64 la.u, .slice aA nA cA, .int .i64 la.ap, .int .i64 la.d] 26)) (.cells #[.int .i64 n, .slice aA nA cA, .int .i64 la.ap, .int .i64 la.d] 26)
          rw [show (w2.alloc (.cells #[.int .i64 la.u, .slice aA nA cA, .int .i64 la.ap, .int .i64 la.d] 26)).heap.size = w2.heap.size + 1 by simp] at h
          exact h
        have LB : LabAt ((w2.alloc (.cells #[.int .i64 la.u, .slice aA nA cA, .int .i64 la.ap, .int .i64 la.d] 26)).alloc (.cells #[.int .i64 n, .slice aA nA cA, .int .i64 la.ap, .int .i64 la.d] 26)) aA nA cA (⟨n, la.af, la.ap, la.d⟩ : Lab) := ⟨(LA.out.over bn1).1, ⟨bn, BA.out.2⟩⟩
        replace HB := Lib.hid HB
        replace LB := Lib.hid LB
        replace HA := Lib.hid (blockOver bn1 HA.out)
        replace LA := Lib.hid (LA.out.over bn1)
        replace bw := bel2 bw bn1
        clear bn1 HX
        obtain ⟨hbq0, hbq1, hbq2, hbq3⟩ := cells4 HB.out
        go_wp2_with fail
        refine (valid_eq la true VA.out _ _ _ _ LA.out).mono ?_
        rintro e w11 ⟨rfl, bq⟩
        replace HA := Lib.hid (blockOver bq HA.out)
        replace HB := Lib.hid (blockOver bq HB.out)
        replace LA := Lib.hid (LabAt.over bq LA.out)
        replace LB := Lib.hid (LabAt.over bq LB.out)
        replace bw := bel2 bw bq
        clear bq hbq0 hbq1 hbq2 hbq3
        obtain ⟨hbq0, hbq1, hbq2, hbq3⟩ := cells4 HB.out
        go_wp2_with fail
        refine (valid_eq (⟨n, la.af, la.ap, la.d⟩ : Lab) false EV.out _ _ _ _ LB.out).mono ?_
        rintro e w12 ⟨rfl, bq⟩
        replace HA := Lib.hid (blockOver bq HA.out)
        replace HB := Lib.hid (blockOver bq HB.out)
        replace LA := Lib.hid (LabAt.over bq LA.out)
        replace LB := Lib.hid (LabAt.over bq LB.out)
        replace bw := bel2 bw bq
        clear bq hbq0 hbq1 hbq2 hbq3
        obtain ⟨haq0, haq1, haq2, haq3⟩ := cells4 HA.out
        obtain ⟨hbq0, hbq1, hbq2, hbq3⟩ := cells4 HB.out
        go_wp2_with fail
        refine (join_eq la (⟨n, la.af, la.ap, la.d⟩ : Lab) zeroL (bad_join EV.out).1 _ _ _ _ _ _ _ LA.out LB.out).mono ?_
        rintro e w13 ⟨av1, nv1, cv1, rfl, Lv1, Ov1, bq⟩
        replace HA := Lib.hid (blockOver bq HA.out)
        replace HB := Lib.hid (blockOver bq HB.out)
        replace LA := Lib.hid (LabAt.over bq LA.out)
        replace LB := Lib.hid (LabAt.over bq LB.out)
        replace bw := bel2 bw bq
        replace Lv1 := Lib.hid Lv1
        clear bq Ov1 haq0 haq1 haq2 haq3 hbq0 hbq1 hbq2 hbq3
        obtain ⟨haq0, haq1, haq2, haq3⟩ := cells4 HA.out
        obtain ⟨hbq0, hbq1, hbq2, hbq3⟩ := cells4 HB.out
        go_wp2_with fail
        refine (same_eq zeroL zeroL true (same_refl _) _ _ _ _ _ _ _ Lv1.out (zero_at _)).mono ?_
        rintro e w14 ⟨rfl, bq⟩
        replace HA := Lib.hid (blockOver bq HA.out)
        replace HB := Lib.hid (blockOver bq HB.out)
        replace LA := Lib.hid (LabAt.over bq LA.out)
        replace LB := Lib.hid (LabAt.over bq LB.out)
        replace bw := bel2 bw bq
        clear bq haq0 haq1 haq2 haq3 hbq0 hbq1 hbq2 hbq3
        obtain ⟨haq0, haq1, haq2, haq3⟩ := cells4 HA.out
        obtain ⟨hbq0, hbq1, hbq2, hbq3⟩ := cells4 HB.out
        go_wp2_with fail
        refine (join_eq (⟨n, la.af, la.ap, la.d⟩ : Lab) la zeroL (bad_join EV.out).2.1 _ _ _ _ _ _ _ LB.out LA.out).mono ?_
        rintro e w15 ⟨av2, nv2, cv2, rfl, Lv2, Ov2, bq⟩
        replace HA := Lib.hid (blockOver bq HA.out)
        replace HB := Lib.hid (blockOver bq HB.out)
        replace LA := Lib.hid (LabAt.over bq LA.out)
        replace LB := Lib.hid (LabAt.over bq LB.out)
        replace bw := bel2 bw bq
        replace Lv2 := Lib.hid Lv2
        clear bq Ov2 haq0 haq1 haq2 haq3 hbq0 hbq1 hbq2 hbq3
        obtain ⟨haq0, haq1, haq2, haq3⟩ := cells4 HA.out
        obtain ⟨hbq0, hbq1, hbq2, hbq3⟩ := cells4 HB.out
        go_wp2_with fail
        refine (same_eq zeroL zeroL true (same_refl _) _ _ _ _ _ _ _ Lv2.out (zero_at _)).mono ?_
        rintro e w16 ⟨rfl, bq⟩
        replace HA := Lib.hid (blockOver bq HA.out)
        replace HB := Lib.hid (blockOver bq HB.out)
        replace LA := Lib.hid (LabAt.over bq LA.out)
        replace LB := Lib.hid (LabAt.over bq LB.out)
        replace bw := bel2 bw bq
        clear bq haq0 haq1 haq2 haq3 hbq0 hbq1 hbq2 hbq3
        obtain ⟨haq0, haq1, haq2, haq3⟩ := cells4 HA.out
        obtain ⟨hbq0, hbq1, hbq2, hbq3⟩ := cells4 HB.out
        go_wp2_with fail
        refine (leq_eq (⟨n, la.af, la.ap, la.d⟩ : Lab) la false (bad_join EV.out).2.2.2 _ _ _ _ _ _ _ LB.out LA.out).mono ?_
        rintro e w17 ⟨rfl, bq⟩
        replace HA := Lib.hid (blockOver bq HA.out)
        replace HB := Lib.hid (blockOver bq HB.out)
        replace LA := Lib.hid (LabAt.over bq LA.out)
        replace LB := Lib.hid (LabAt.over bq LB.out)
        replace bw := bel2 bw bq
        clear bq haq0 haq1 haq2 haq3 hbq0 hbq1 hbq2 hbq3
        obtain ⟨haq0, haq1, haq2, haq3⟩ := cells4 HA.out
        obtain ⟨hbq0, hbq1, hbq2, hbq3⟩ := cells4 HB.out
        go_wp2_with fail
        refine (leq_eq la (⟨n, la.af, la.ap, la.d⟩ : Lab) false (bad_join EV.out).2.2.1 _ _ _ _ _ _ _ LA.out LB.out).mono ?_
        rintro e w18 ⟨rfl, bq⟩
        replace HA := Lib.hid (blockOver bq HA.out)
        replace HB := Lib.hid (blockOver bq HB.out)
        replace LA := Lib.hid (LabAt.over bq LA.out)
        replace LB := Lib.hid (LabAt.over bq LB.out)
        replace bw := bel2 bw bq
        clear bq haq0 haq1 haq2 haq3 hbq0 hbq1 hbq2 hbq3
        obtain ⟨haq0, haq1, haq2, haq3⟩ := cells4 HA.out
        obtain ⟨hbq0, hbq1, hbq2, hbq3⟩ := cells4 HB.out
        go_wp2_with fail
        refine (leq_eq (⟨n, la.af, la.ap, la.d⟩ : Lab) (⟨n, la.af, la.ap, la.d⟩ : Lab) false (bad_join (m := (⟨n, la.af, la.ap, la.d⟩ : Lab)) EV.out).2.2.1 _ _ _ _ _ _ _ LB.out LB.out).mono ?_
        rintro e w19 ⟨rfl, bq⟩
        replace HA := Lib.hid (blockOver bq HA.out)
        replace HB := Lib.hid (blockOver bq HB.out)
        replace LA := Lib.hid (LabAt.over bq LA.out)
        replace LB := Lib.hid (LabAt.over bq LB.out)
        replace bw := bel2 bw bq
        clear bq haq0 haq1 haq2 haq3 hbq0 hbq1 hbq2 hbq3
        obtain ⟨haq0, haq1, haq2, haq3⟩ := cells4 HA.out
        obtain ⟨hbq0, hbq1, hbq2, hbq3⟩ := cells4 HB.out
        go_wp2_with fail
        refine (allows_lit (⟨n, la.af, la.ap, la.d⟩ : Lab) 0 1000000000 5 [n, 10] 2 false _ (bad_all EV.out _ _ _ _) (by unfold Bd; omega) (lit_two n 10 bn (by unfold Bd; omega)) _ _ _ _ _ (by first | rfl | simp) LB.out).mono ?_
        rintro e w20 ⟨rfl, bq⟩
        replace HA := Lib.hid (blockOver bq HA.out)
        replace HB := Lib.hid (blockOver bq HB.out)
        replace LA := Lib.hid (LabAt.over bq LA.out)
        replace LB := Lib.hid (LabAt.over bq LB.out)
        replace bw := bel2 bw bq
        clear bq haq0 haq1 haq2 haq3 hbq0 hbq1 hbq2 hbq3
        go_wp2
        go_ret
        exact ⟨rfl, bw⟩
    · skip
      have EV := Lib.hid (show validB (⟨n, la.af, la.ap, la.d⟩ : Lab) = false by rw [bad_u okA.out]; exact dec_no (by omega))
      have bn1 : Below (w2.alloc (.cells #[.int .i64 la.u, .slice aA nA cA, .int .i64 la.ap, .int .i64 la.d] 26)).heap.size (w2.alloc (.cells #[.int .i64 la.u, .slice aA nA cA, .int .i64 la.ap, .int .i64 la.d] 26)) ((w2.alloc (.cells #[.int .i64 la.u, .slice aA nA cA, .int .i64 la.ap, .int .i64 la.d] 26)).alloc (.cells #[.int .i64 n, .slice aA nA cA, .int .i64 la.ap, .int .i64 la.d] 26)) := below_alloc _ _
      have HB : ((w2.alloc (.cells #[.int .i64 la.u, .slice aA nA cA, .int .i64 la.ap, .int .i64 la.d] 26)).alloc (.cells #[.int .i64 n, .slice aA nA cA, .int .i64 la.ap, .int .i64 la.d] 26)).heap[w2.heap.size + 1]? = some (.cells #[.int .i64 n, .slice aA nA cA, .int .i64 la.ap, .int .i64 la.d] 26 (0, 0)) := by
        have h := heap_alloc_new (w2.alloc (.cells #[.int .i64 la.u, .slice aA nA cA, .int .i64 la.ap, .int .i64 la.d] 26)) (.cells #[.int .i64 n, .slice aA nA cA, .int .i64 la.ap, .int .i64 la.d] 26)
        rw [show (w2.alloc (.cells #[.int .i64 la.u, .slice aA nA cA, .int .i64 la.ap, .int .i64 la.d] 26)).heap.size = w2.heap.size + 1 by simp] at h
        exact h
      have LB : LabAt ((w2.alloc (.cells #[.int .i64 la.u, .slice aA nA cA, .int .i64 la.ap, .int .i64 la.d] 26)).alloc (.cells #[.int .i64 n, .slice aA nA cA, .int .i64 la.ap, .int .i64 la.d] 26)) aA nA cA (⟨n, la.af, la.ap, la.d⟩ : Lab) := ⟨(LA.out.over bn1).1, ⟨bn, BA.out.2⟩⟩
      replace HB := Lib.hid HB
      replace LB := Lib.hid LB
      replace HA := Lib.hid (blockOver bn1 HA.out)
      replace LA := Lib.hid (LA.out.over bn1)
      replace bw := bel2 bw bn1
      clear bn1 HX
      obtain ⟨hbq0, hbq1, hbq2, hbq3⟩ := cells4 HB.out
      go_wp2_with fail
      refine (valid_eq la true VA.out _ _ _ _ LA.out).mono ?_
      rintro e w11 ⟨rfl, bq⟩
      replace HA := Lib.hid (blockOver bq HA.out)
      replace HB := Lib.hid (blockOver bq HB.out)
      replace LA := Lib.hid (LabAt.over bq LA.out)
      replace LB := Lib.hid (LabAt.over bq LB.out)
      replace bw := bel2 bw bq
      clear bq hbq0 hbq1 hbq2 hbq3
      obtain ⟨hbq0, hbq1, hbq2, hbq3⟩ := cells4 HB.out
      go_wp2_with fail
      refine (valid_eq (⟨n, la.af, la.ap, la.d⟩ : Lab) false EV.out _ _ _ _ LB.out).mono ?_
      rintro e w12 ⟨rfl, bq⟩
      replace HA := Lib.hid (blockOver bq HA.out)
      replace HB := Lib.hid (blockOver bq HB.out)
      replace LA := Lib.hid (LabAt.over bq LA.out)
      replace LB := Lib.hid (LabAt.over bq LB.out)
      replace bw := bel2 bw bq
      clear bq hbq0 hbq1 hbq2 hbq3
      obtain ⟨haq0, haq1, haq2, haq3⟩ := cells4 HA.out
      obtain ⟨hbq0, hbq1, hbq2, hbq3⟩ := cells4 HB.out
      go_wp2_with fail
      refine (join_eq la (⟨n, la.af, la.ap, la.d⟩ : Lab) zeroL (bad_join EV.out).1 _ _ _ _ _ _ _ LA.out LB.out).mono ?_
      rintro e w13 ⟨av1, nv1, cv1, rfl, Lv1, Ov1, bq⟩
      replace HA := Lib.hid (blockOver bq HA.out)
      replace HB := Lib.hid (blockOver bq HB.out)
      replace LA := Lib.hid (LabAt.over bq LA.out)
      replace LB := Lib.hid (LabAt.over bq LB.out)
      replace bw := bel2 bw bq
      replace Lv1 := Lib.hid Lv1
      clear bq Ov1 haq0 haq1 haq2 haq3 hbq0 hbq1 hbq2 hbq3
      obtain ⟨haq0, haq1, haq2, haq3⟩ := cells4 HA.out
      obtain ⟨hbq0, hbq1, hbq2, hbq3⟩ := cells4 HB.out
      go_wp2_with fail
      refine (same_eq zeroL zeroL true (same_refl _) _ _ _ _ _ _ _ Lv1.out (zero_at _)).mono ?_
      rintro e w14 ⟨rfl, bq⟩
      replace HA := Lib.hid (blockOver bq HA.out)
      replace HB := Lib.hid (blockOver bq HB.out)
      replace LA := Lib.hid (LabAt.over bq LA.out)
      replace LB := Lib.hid (LabAt.over bq LB.out)
      replace bw := bel2 bw bq
      clear bq haq0 haq1 haq2 haq3 hbq0 hbq1 hbq2 hbq3
      obtain ⟨haq0, haq1, haq2, haq3⟩ := cells4 HA.out
      obtain ⟨hbq0, hbq1, hbq2, hbq3⟩ := cells4 HB.out
      go_wp2_with fail
      refine (join_eq (⟨n, la.af, la.ap, la.d⟩ : Lab) la zeroL (bad_join EV.out).2.1 _ _ _ _ _ _ _ LB.out LA.out).mono ?_
      rintro e w15 ⟨av2, nv2, cv2, rfl, Lv2, Ov2, bq⟩
      replace HA := Lib.hid (blockOver bq HA.out)
      replace HB := Lib.hid (blockOver bq HB.out)
      replace LA := Lib.hid (LabAt.over bq LA.out)
      replace LB := Lib.hid (LabAt.over bq LB.out)
      replace bw := bel2 bw bq
      replace Lv2 := Lib.hid Lv2
      clear bq Ov2 haq0 haq1 haq2 haq3 hbq0 hbq1 hbq2 hbq3
      obtain ⟨haq0, haq1, haq2, haq3⟩ := cells4 HA.out
      obtain ⟨hbq0, hbq1, hbq2, hbq3⟩ := cells4 HB.out
      go_wp2_with fail
      refine (same_eq zeroL zeroL true (same_refl _) _ _ _ _ _ _ _ Lv2.out (zero_at _)).mono ?_
      rintro e w16 ⟨rfl, bq⟩
      replace HA := Lib.hid (blockOver bq HA.out)
      replace HB := Lib.hid (blockOver bq HB.out)
      replace LA := Lib.hid (LabAt.over bq LA.out)
      replace LB := Lib.hid (LabAt.over bq LB.out)
      replace bw := bel2 bw bq
      clear bq haq0 haq1 haq2 haq3 hbq0 hbq1 hbq2 hbq3
      obtain ⟨haq0, haq1, haq2, haq3⟩ := cells4 HA.out
      obtain ⟨hbq0, hbq1, hbq2, hbq3⟩ := cells4 HB.out
      go_wp2_with fail
      refine (leq_eq (⟨n, la.af, la.ap, la.d⟩ : Lab) la false (bad_join EV.out).2.2.2 _ _ _ _ _ _ _ LB.out LA.out).mono ?_
      rintro e w17 ⟨rfl, bq⟩
      replace HA := Lib.hid (blockOver bq HA.out)
      replace HB := Lib.hid (blockOver bq HB.out)
      replace LA := Lib.hid (LabAt.over bq LA.out)
      replace LB := Lib.hid (LabAt.over bq LB.out)
      replace bw := bel2 bw bq
      clear bq haq0 haq1 haq2 haq3 hbq0 hbq1 hbq2 hbq3
      obtain ⟨haq0, haq1, haq2, haq3⟩ := cells4 HA.out
      obtain ⟨hbq0, hbq1, hbq2, hbq3⟩ := cells4 HB.out
      go_wp2_with fail
      refine (leq_eq la (⟨n, la.af, la.ap, la.d⟩ : Lab) false (bad_join EV.out).2.2.1 _ _ _ _ _ _ _ LA.out LB.out).mono ?_
      rintro e w18 ⟨rfl, bq⟩
      replace HA := Lib.hid (blockOver bq HA.out)
      replace HB := Lib.hid (blockOver bq HB.out)
      replace LA := Lib.hid (LabAt.over bq LA.out)
      replace LB := Lib.hid (LabAt.over bq LB.out)
      replace bw := bel2 bw bq
      clear bq haq0 haq1 haq2 haq3 hbq0 hbq1 hbq2 hbq3
      obtain ⟨haq0, haq1, haq2, haq3⟩ := cells4 HA.out
      obtain ⟨hbq0, hbq1, hbq2, hbq3⟩ := cells4 HB.out
      go_wp2_with fail
      refine (leq_eq (⟨n, la.af, la.ap, la.d⟩ : Lab) (⟨n, la.af, la.ap, la.d⟩ : Lab) false (bad_join (m := (⟨n, la.af, la.ap, la.d⟩ : Lab)) EV.out).2.2.1 _ _ _ _ _ _ _ LB.out LB.out).mono ?_
      rintro e w19 ⟨rfl, bq⟩
      replace HA := Lib.hid (blockOver bq HA.out)
      replace HB := Lib.hid (blockOver bq HB.out)
      replace LA := Lib.hid (LabAt.over bq LA.out)
      replace LB := Lib.hid (LabAt.over bq LB.out)
      replace bw := bel2 bw bq
      clear bq haq0 haq1 haq2 haq3 hbq0 hbq1 hbq2 hbq3
      obtain ⟨haq0, haq1, haq2, haq3⟩ := cells4 HA.out
      obtain ⟨hbq0, hbq1, hbq2, hbq3⟩ := cells4 HB.out
      go_wp2_with fail
      refine (allows_lit (⟨n, la.af, la.ap, la.d⟩ : Lab) 0 1000000000 5 [n, 10] 2 false _ (bad_all EV.out _ _ _ _) (by unfold Bd; omega) (lit_two n 10 bn (by unfold Bd; omega)) _ _ _ _ _ (by first | rfl | simp) LB.out).mono ?_
      rintro e w20 ⟨rfl, bq⟩
      replace HA := Lib.hid (blockOver bq HA.out)
      replace HB := Lib.hid (blockOver bq HB.out)
      replace LA := Lib.hid (LabAt.over bq LA.out)
      replace LB := Lib.hid (LabAt.over bq LB.out)
      replace bw := bel2 bw bq
      clear bq haq0 haq1 haq2 haq3 hbq0 hbq1 hbq2 hbq3
      go_wp2
      go_ret
      exact ⟨rfl, bw⟩
  · by_cases h1 : 0 ≤ n
    · by_cases h2 : n ≤ 5
      · skip
        have EV := Lib.hid (show validB (⟨la.u, la.af, n, la.d⟩ : Lab) = true by rw [bad_ap okA.out]; exact dec_yes (by omega))
        have bn1 : Below (w2.alloc (.cells #[.int .i64 la.u, .slice aA nA cA, .int .i64 la.ap, .int .i64 la.d] 26)).heap.size (w2.alloc (.cells #[.int .i64 la.u, .slice aA nA cA, .int .i64 la.ap, .int .i64 la.d] 26)) ((w2.alloc (.cells #[.int .i64 la.u, .slice aA nA cA, .int .i64 la.ap, .int .i64 la.d] 26)).alloc (.cells #[.int .i64 la.u, .slice aA nA cA, .int .i64 n, .int .i64 la.d] 26)) := below_alloc _ _
        have HB : ((w2.alloc (.cells #[.int .i64 la.u, .slice aA nA cA, .int .i64 la.ap, .int .i64 la.d] 26)).alloc (.cells #[.int .i64 la.u, .slice aA nA cA, .int .i64 n, .int .i64 la.d] 26)).heap[w2.heap.size + 1]? = some (.cells #[.int .i64 la.u, .slice aA nA cA, .int .i64 n, .int .i64 la.d] 26 (0, 0)) := by
          have h := heap_alloc_new (w2.alloc (.cells #[.int .i64 la.u, .slice aA nA cA, .int .i64 la.ap, .int .i64 la.d] 26)) (.cells #[.int .i64 la.u, .slice aA nA cA, .int .i64 n, .int .i64 la.d] 26)
          rw [show (w2.alloc (.cells #[.int .i64 la.u, .slice aA nA cA, .int .i64 la.ap, .int .i64 la.d] 26)).heap.size = w2.heap.size + 1 by simp] at h
          exact h
        have LB : LabAt ((w2.alloc (.cells #[.int .i64 la.u, .slice aA nA cA, .int .i64 la.ap, .int .i64 la.d] 26)).alloc (.cells #[.int .i64 la.u, .slice aA nA cA, .int .i64 n, .int .i64 la.d] 26)) aA nA cA (⟨la.u, la.af, n, la.d⟩ : Lab) := ⟨(LA.out.over bn1).1, ⟨BA.out.1, bn, BA.out.2.2⟩⟩
        replace HB := Lib.hid HB
        replace LB := Lib.hid LB
        replace HA := Lib.hid (blockOver bn1 HA.out)
        replace LA := Lib.hid (LA.out.over bn1)
        replace bw := bel2 bw bn1
        clear bn1 HX
        obtain ⟨hbq0, hbq1, hbq2, hbq3⟩ := cells4 HB.out
        go_wp2_with fail
        refine (valid_eq la true VA.out _ _ _ _ LA.out).mono ?_
        rintro e w11 ⟨rfl, bq⟩
        replace HA := Lib.hid (blockOver bq HA.out)
        replace HB := Lib.hid (blockOver bq HB.out)
        replace LA := Lib.hid (LabAt.over bq LA.out)
        replace LB := Lib.hid (LabAt.over bq LB.out)
        replace bw := bel2 bw bq
        clear bq hbq0 hbq1 hbq2 hbq3
        obtain ⟨hbq0, hbq1, hbq2, hbq3⟩ := cells4 HB.out
        go_wp2_with fail
        refine (valid_eq (⟨la.u, la.af, n, la.d⟩ : Lab) true EV.out _ _ _ _ LB.out).mono ?_
        rintro e w12 ⟨rfl, bq⟩
        replace HA := Lib.hid (blockOver bq HA.out)
        replace HB := Lib.hid (blockOver bq HB.out)
        replace LA := Lib.hid (LabAt.over bq LA.out)
        replace LB := Lib.hid (LabAt.over bq LB.out)
        replace bw := bel2 bw bq
        clear bq hbq0 hbq1 hbq2 hbq3
        go_wp2
        go_ret
        exact ⟨rfl, bw⟩
      · have g2 : decide (n ≤ 5) = false := dec_no h2
        have EV := Lib.hid (show validB (⟨la.u, la.af, n, la.d⟩ : Lab) = false by rw [bad_ap okA.out]; exact dec_no (by omega))
        have bn1 : Below (w2.alloc (.cells #[.int .i64 la.u, .slice aA nA cA, .int .i64 la.ap, .int .i64 la.d] 26)).heap.size (w2.alloc (.cells #[.int .i64 la.u, .slice aA nA cA, .int .i64 la.ap, .int .i64 la.d] 26)) ((w2.alloc (.cells #[.int .i64 la.u, .slice aA nA cA, .int .i64 la.ap, .int .i64 la.d] 26)).alloc (.cells #[.int .i64 la.u, .slice aA nA cA, .int .i64 n, .int .i64 la.d] 26)) := below_alloc _ _
        have HB : ((w2.alloc (.cells #[.int .i64 la.u, .slice aA nA cA, .int .i64 la.ap, .int .i64 la.d] 26)).alloc (.cells #[.int .i64 la.u, .slice aA nA cA, .int .i64 n, .int .i64 la.d] 26)).heap[w2.heap.size + 1]? = some (.cells #[.int .i64 la.u, .slice aA nA cA, .int .i64 n, .int .i64 la.d] 26 (0, 0)) := by
          have h := heap_alloc_new (w2.alloc (.cells #[.int .i64 la.u, .slice aA nA cA, .int .i64 la.ap, .int .i64 la.d] 26)) (.cells #[.int .i64 la.u, .slice aA nA cA, .int .i64 n, .int .i64 la.d] 26)
          rw [show (w2.alloc (.cells #[.int .i64 la.u, .slice aA nA cA, .int .i64 la.ap, .int .i64 la.d] 26)).heap.size = w2.heap.size + 1 by simp] at h
          exact h
        have LB : LabAt ((w2.alloc (.cells #[.int .i64 la.u, .slice aA nA cA, .int .i64 la.ap, .int .i64 la.d] 26)).alloc (.cells #[.int .i64 la.u, .slice aA nA cA, .int .i64 n, .int .i64 la.d] 26)) aA nA cA (⟨la.u, la.af, n, la.d⟩ : Lab) := ⟨(LA.out.over bn1).1, ⟨BA.out.1, bn, BA.out.2.2⟩⟩
        replace HB := Lib.hid HB
        replace LB := Lib.hid LB
        replace HA := Lib.hid (blockOver bn1 HA.out)
        replace LA := Lib.hid (LA.out.over bn1)
        replace bw := bel2 bw bn1
        clear bn1 HX
        obtain ⟨hbq0, hbq1, hbq2, hbq3⟩ := cells4 HB.out
        go_wp2_with fail
        refine (valid_eq la true VA.out _ _ _ _ LA.out).mono ?_
        rintro e w11 ⟨rfl, bq⟩
        replace HA := Lib.hid (blockOver bq HA.out)
        replace HB := Lib.hid (blockOver bq HB.out)
        replace LA := Lib.hid (LabAt.over bq LA.out)
        replace LB := Lib.hid (LabAt.over bq LB.out)
        replace bw := bel2 bw bq
        clear bq hbq0 hbq1 hbq2 hbq3
        obtain ⟨hbq0, hbq1, hbq2, hbq3⟩ := cells4 HB.out
        go_wp2_with fail
        refine (valid_eq (⟨la.u, la.af, n, la.d⟩ : Lab) false EV.out _ _ _ _ LB.out).mono ?_
        rintro e w12 ⟨rfl, bq⟩
        replace HA := Lib.hid (blockOver bq HA.out)
        replace HB := Lib.hid (blockOver bq HB.out)
        replace LA := Lib.hid (LabAt.over bq LA.out)
        replace LB := Lib.hid (LabAt.over bq LB.out)
        replace bw := bel2 bw bq
        clear bq hbq0 hbq1 hbq2 hbq3
        obtain ⟨haq0, haq1, haq2, haq3⟩ := cells4 HA.out
        obtain ⟨hbq0, hbq1, hbq2, hbq3⟩ := cells4 HB.out
        go_wp2_with fail
        refine (join_eq la (⟨la.u, la.af, n, la.d⟩ : Lab) zeroL (bad_join EV.out).1 _ _ _ _ _ _ _ LA.out LB.out).mono ?_
        rintro e w13 ⟨av1, nv1, cv1, rfl, Lv1, Ov1, bq⟩
        replace HA := Lib.hid (blockOver bq HA.out)
        replace HB := Lib.hid (blockOver bq HB.out)
        replace LA := Lib.hid (LabAt.over bq LA.out)
        replace LB := Lib.hid (LabAt.over bq LB.out)
        replace bw := bel2 bw bq
        replace Lv1 := Lib.hid Lv1
        clear bq Ov1 haq0 haq1 haq2 haq3 hbq0 hbq1 hbq2 hbq3
        obtain ⟨haq0, haq1, haq2, haq3⟩ := cells4 HA.out
        obtain ⟨hbq0, hbq1, hbq2, hbq3⟩ := cells4 HB.out
        go_wp2_with fail
        refine (same_eq zeroL zeroL true (same_refl _) _ _ _ _ _ _ _ Lv1.out (zero_at _)).mono ?_
        rintro e w14 ⟨rfl, bq⟩
        replace HA := Lib.hid (blockOver bq HA.out)
        replace HB := Lib.hid (blockOver bq HB.out)
        replace LA := Lib.hid (LabAt.over bq LA.out)
        replace LB := Lib.hid (LabAt.over bq LB.out)
        replace bw := bel2 bw bq
        clear bq haq0 haq1 haq2 haq3 hbq0 hbq1 hbq2 hbq3
        obtain ⟨haq0, haq1, haq2, haq3⟩ := cells4 HA.out
        obtain ⟨hbq0, hbq1, hbq2, hbq3⟩ := cells4 HB.out
        go_wp2_with fail
        refine (join_eq (⟨la.u, la.af, n, la.d⟩ : Lab) la zeroL (bad_join EV.out).2.1 _ _ _ _ _ _ _ LB.out LA.out).mono ?_
        rintro e w15 ⟨av2, nv2, cv2, rfl, Lv2, Ov2, bq⟩
        replace HA := Lib.hid (blockOver bq HA.out)
        replace HB := Lib.hid (blockOver bq HB.out)
        replace LA := Lib.hid (LabAt.over bq LA.out)
        replace LB := Lib.hid (LabAt.over bq LB.out)
        replace bw := bel2 bw bq
        replace Lv2 := Lib.hid Lv2
        clear bq Ov2 haq0 haq1 haq2 haq3 hbq0 hbq1 hbq2 hbq3
        obtain ⟨haq0, haq1, haq2, haq3⟩ := cells4 HA.out
        obtain ⟨hbq0, hbq1, hbq2, hbq3⟩ := cells4 HB.out
        go_wp2_with fail
        refine (same_eq zeroL zeroL true (same_refl _) _ _ _ _ _ _ _ Lv2.out (zero_at _)).mono ?_
        rintro e w16 ⟨rfl, bq⟩
        replace HA := Lib.hid (blockOver bq HA.out)
        replace HB := Lib.hid (blockOver bq HB.out)
        replace LA := Lib.hid (LabAt.over bq LA.out)
        replace LB := Lib.hid (LabAt.over bq LB.out)
        replace bw := bel2 bw bq
        clear bq haq0 haq1 haq2 haq3 hbq0 hbq1 hbq2 hbq3
        obtain ⟨haq0, haq1, haq2, haq3⟩ := cells4 HA.out
        obtain ⟨hbq0, hbq1, hbq2, hbq3⟩ := cells4 HB.out
        go_wp2_with fail
        refine (leq_eq (⟨la.u, la.af, n, la.d⟩ : Lab) la false (bad_join EV.out).2.2.2 _ _ _ _ _ _ _ LB.out LA.out).mono ?_
        rintro e w17 ⟨rfl, bq⟩
        replace HA := Lib.hid (blockOver bq HA.out)
        replace HB := Lib.hid (blockOver bq HB.out)
        replace LA := Lib.hid (LabAt.over bq LA.out)
        replace LB := Lib.hid (LabAt.over bq LB.out)
        replace bw := bel2 bw bq
        clear bq haq0 haq1 haq2 haq3 hbq0 hbq1 hbq2 hbq3
        obtain ⟨haq0, haq1, haq2, haq3⟩ := cells4 HA.out
        obtain ⟨hbq0, hbq1, hbq2, hbq3⟩ := cells4 HB.out
        go_wp2_with fail
        refine (leq_eq la (⟨la.u, la.af, n, la.d⟩ : Lab) false (bad_join EV.out).2.2.1 _ _ _ _ _ _ _ LA.out LB.out).mono ?_
        rintro e w18 ⟨rfl, bq⟩
        replace HA := Lib.hid (blockOver bq HA.out)
        replace HB := Lib.hid (blockOver bq HB.out)
        replace LA := Lib.hid (LabAt.over bq LA.out)
        replace LB := Lib.hid (LabAt.over bq LB.out)
        replace bw := bel2 bw bq
        clear bq haq0 haq1 haq2 haq3 hbq0 hbq1 hbq2 hbq3
        obtain ⟨haq0, haq1, haq2, haq3⟩ := cells4 HA.out
        obtain ⟨hbq0, hbq1, hbq2, hbq3⟩ := cells4 HB.out
        go_wp2_with fail
        refine (leq_eq (⟨la.u, la.af, n, la.d⟩ : Lab) (⟨la.u, la.af, n, la.d⟩ : Lab) false (bad_join (m := (⟨la.u, la.af, n, la.d⟩ : Lab)) EV.out).2.2.1 _ _ _ _ _ _ _ LB.out LB.out).mono ?_
        rintro e w19 ⟨rfl, bq⟩
        replace HA := Lib.hid (blockOver bq HA.out)
        replace HB := Lib.hid (blockOver bq HB.out)
        replace LA := Lib.hid (LabAt.over bq LA.out)
        replace LB := Lib.hid (LabAt.over bq LB.out)
        replace bw := bel2 bw bq
        clear bq haq0 haq1 haq2 haq3 hbq0 hbq1 hbq2 hbq3
        obtain ⟨haq0, haq1, haq2, haq3⟩ := cells4 HA.out
        obtain ⟨hbq0, hbq1, hbq2, hbq3⟩ := cells4 HB.out
        go_wp2_with fail
        refine (allows_lit (⟨la.u, la.af, n, la.d⟩ : Lab) 0 1000000000 5 [n, 10] 2 false _ (bad_all EV.out _ _ _ _) (by unfold Bd; omega) (lit_two n 10 bn (by unfold Bd; omega)) _ _ _ _ _ (by first | rfl | simp) LB.out).mono ?_
        rintro e w20 ⟨rfl, bq⟩
        replace HA := Lib.hid (blockOver bq HA.out)
        replace HB := Lib.hid (blockOver bq HB.out)
        replace LA := Lib.hid (LabAt.over bq LA.out)
        replace LB := Lib.hid (LabAt.over bq LB.out)
        replace bw := bel2 bw bq
        clear bq haq0 haq1 haq2 haq3 hbq0 hbq1 hbq2 hbq3
        go_wp2
        go_ret
        exact ⟨rfl, bw⟩
    · skip
      have EV := Lib.hid (show validB (⟨la.u, la.af, n, la.d⟩ : Lab) = false by rw [bad_ap okA.out]; exact dec_no (by omega))
      have bn1 : Below (w2.alloc (.cells #[.int .i64 la.u, .slice aA nA cA, .int .i64 la.ap, .int .i64 la.d] 26)).heap.size (w2.alloc (.cells #[.int .i64 la.u, .slice aA nA cA, .int .i64 la.ap, .int .i64 la.d] 26)) ((w2.alloc (.cells #[.int .i64 la.u, .slice aA nA cA, .int .i64 la.ap, .int .i64 la.d] 26)).alloc (.cells #[.int .i64 la.u, .slice aA nA cA, .int .i64 n, .int .i64 la.d] 26)) := below_alloc _ _
      have HB : ((w2.alloc (.cells #[.int .i64 la.u, .slice aA nA cA, .int .i64 la.ap, .int .i64 la.d] 26)).alloc (.cells #[.int .i64 la.u, .slice aA nA cA, .int .i64 n, .int .i64 la.d] 26)).heap[w2.heap.size + 1]? = some (.cells #[.int .i64 la.u, .slice aA nA cA, .int .i64 n, .int .i64 la.d] 26 (0, 0)) := by
        have h := heap_alloc_new (w2.alloc (.cells #[.int .i64 la.u, .slice aA nA cA, .int .i64 la.ap, .int .i64 la.d] 26)) (.cells #[.int .i64 la.u, .slice aA nA cA, .int .i64 n, .int .i64 la.d] 26)
        rw [show (w2.alloc (.cells #[.int .i64 la.u, .slice aA nA cA, .int .i64 la.ap, .int .i64 la.d] 26)).heap.size = w2.heap.size + 1 by simp] at h
        exact h
      have LB : LabAt ((w2.alloc (.cells #[.int .i64 la.u, .slice aA nA cA, .int .i64 la.ap, .int .i64 la.d] 26)).alloc (.cells #[.int .i64 la.u, .slice aA nA cA, .int .i64 n, .int .i64 la.d] 26)) aA nA cA (⟨la.u, la.af, n, la.d⟩ : Lab) := ⟨(LA.out.over bn1).1, ⟨BA.out.1, bn, BA.out.2.2⟩⟩
      replace HB := Lib.hid HB
      replace LB := Lib.hid LB
      replace HA := Lib.hid (blockOver bn1 HA.out)
      replace LA := Lib.hid (LA.out.over bn1)
      replace bw := bel2 bw bn1
      clear bn1 HX
      obtain ⟨hbq0, hbq1, hbq2, hbq3⟩ := cells4 HB.out
      go_wp2_with fail
      refine (valid_eq la true VA.out _ _ _ _ LA.out).mono ?_
      rintro e w11 ⟨rfl, bq⟩
      replace HA := Lib.hid (blockOver bq HA.out)
      replace HB := Lib.hid (blockOver bq HB.out)
      replace LA := Lib.hid (LabAt.over bq LA.out)
      replace LB := Lib.hid (LabAt.over bq LB.out)
      replace bw := bel2 bw bq
      clear bq hbq0 hbq1 hbq2 hbq3
      obtain ⟨hbq0, hbq1, hbq2, hbq3⟩ := cells4 HB.out
      go_wp2_with fail
      refine (valid_eq (⟨la.u, la.af, n, la.d⟩ : Lab) false EV.out _ _ _ _ LB.out).mono ?_
      rintro e w12 ⟨rfl, bq⟩
      replace HA := Lib.hid (blockOver bq HA.out)
      replace HB := Lib.hid (blockOver bq HB.out)
      replace LA := Lib.hid (LabAt.over bq LA.out)
      replace LB := Lib.hid (LabAt.over bq LB.out)
      replace bw := bel2 bw bq
      clear bq hbq0 hbq1 hbq2 hbq3
      obtain ⟨haq0, haq1, haq2, haq3⟩ := cells4 HA.out
      obtain ⟨hbq0, hbq1, hbq2, hbq3⟩ := cells4 HB.out
      go_wp2_with fail
      refine (join_eq la (⟨la.u, la.af, n, la.d⟩ : Lab) zeroL (bad_join EV.out).1 _ _ _ _ _ _ _ LA.out LB.out).mono ?_
      rintro e w13 ⟨av1, nv1, cv1, rfl, Lv1, Ov1, bq⟩
      replace HA := Lib.hid (blockOver bq HA.out)
      replace HB := Lib.hid (blockOver bq HB.out)
      replace LA := Lib.hid (LabAt.over bq LA.out)
      replace LB := Lib.hid (LabAt.over bq LB.out)
      replace bw := bel2 bw bq
      replace Lv1 := Lib.hid Lv1
      clear bq Ov1 haq0 haq1 haq2 haq3 hbq0 hbq1 hbq2 hbq3
      obtain ⟨haq0, haq1, haq2, haq3⟩ := cells4 HA.out
      obtain ⟨hbq0, hbq1, hbq2, hbq3⟩ := cells4 HB.out
      go_wp2_with fail
      refine (same_eq zeroL zeroL true (same_refl _) _ _ _ _ _ _ _ Lv1.out (zero_at _)).mono ?_
      rintro e w14 ⟨rfl, bq⟩
      replace HA := Lib.hid (blockOver bq HA.out)
      replace HB := Lib.hid (blockOver bq HB.out)
      replace LA := Lib.hid (LabAt.over bq LA.out)
      replace LB := Lib.hid (LabAt.over bq LB.out)
      replace bw := bel2 bw bq
      clear bq haq0 haq1 haq2 haq3 hbq0 hbq1 hbq2 hbq3
      obtain ⟨haq0, haq1, haq2, haq3⟩ := cells4 HA.out
      obtain ⟨hbq0, hbq1, hbq2, hbq3⟩ := cells4 HB.out
      go_wp2_with fail
      refine (join_eq (⟨la.u, la.af, n, la.d⟩ : Lab) la zeroL (bad_join EV.out).2.1 _ _ _ _ _ _ _ LB.out LA.out).mono ?_
      rintro e w15 ⟨av2, nv2, cv2, rfl, Lv2, Ov2, bq⟩
      replace HA := Lib.hid (blockOver bq HA.out)
      replace HB := Lib.hid (blockOver bq HB.out)
      replace LA := Lib.hid (LabAt.over bq LA.out)
      replace LB := Lib.hid (LabAt.over bq LB.out)
      replace bw := bel2 bw bq
      replace Lv2 := Lib.hid Lv2
      clear bq Ov2 haq0 haq1 haq2 haq3 hbq0 hbq1 hbq2 hbq3
      obtain ⟨haq0, haq1, haq2, haq3⟩ := cells4 HA.out
      obtain ⟨hbq0, hbq1, hbq2, hbq3⟩ := cells4 HB.out
      go_wp2_with fail
      refine (same_eq zeroL zeroL true (same_refl _) _ _ _ _ _ _ _ Lv2.out (zero_at _)).mono ?_
      rintro e w16 ⟨rfl, bq⟩
      replace HA := Lib.hid (blockOver bq HA.out)
      replace HB := Lib.hid (blockOver bq HB.out)
      replace LA := Lib.hid (LabAt.over bq LA.out)
      replace LB := Lib.hid (LabAt.over bq LB.out)
      replace bw := bel2 bw bq
      clear bq haq0 haq1 haq2 haq3 hbq0 hbq1 hbq2 hbq3
      obtain ⟨haq0, haq1, haq2, haq3⟩ := cells4 HA.out
      obtain ⟨hbq0, hbq1, hbq2, hbq3⟩ := cells4 HB.out
      go_wp2_with fail
      refine (leq_eq (⟨la.u, la.af, n, la.d⟩ : Lab) la false (bad_join EV.out).2.2.2 _ _ _ _ _ _ _ LB.out LA.out).mono ?_
      rintro e w17 ⟨rfl, bq⟩
      replace HA := Lib.hid (blockOver bq HA.out)
      replace HB := Lib.hid (blockOver bq HB.out)
      replace LA := Lib.hid (LabAt.over bq LA.out)
      replace LB := Lib.hid (LabAt.over bq LB.out)
      replace bw := bel2 bw bq
      clear bq haq0 haq1 haq2 haq3 hbq0 hbq1 hbq2 hbq3
      obtain ⟨haq0, haq1, haq2, haq3⟩ := cells4 HA.out
      obtain ⟨hbq0, hbq1, hbq2, hbq3⟩ := cells4 HB.out
      go_wp2_with fail
      refine (leq_eq la (⟨la.u, la.af, n, la.d⟩ : Lab) false (bad_join EV.out).2.2.1 _ _ _ _ _ _ _ LA.out LB.out).mono ?_
      rintro e w18 ⟨rfl, bq⟩
      replace HA := Lib.hid (blockOver bq HA.out)
      replace HB := Lib.hid (blockOver bq HB.out)
      replace LA := Lib.hid (LabAt.over bq LA.out)
      replace LB := Lib.hid (LabAt.over bq LB.out)
      replace bw := bel2 bw bq
      clear bq haq0 haq1 haq2 haq3 hbq0 hbq1 hbq2 hbq3
      obtain ⟨haq0, haq1, haq2, haq3⟩ := cells4 HA.out
      obtain ⟨hbq0, hbq1, hbq2, hbq3⟩ := cells4 HB.out
      go_wp2_with fail
      refine (leq_eq (⟨la.u, la.af, n, la.d⟩ : Lab) (⟨la.u, la.af, n, la.d⟩ : Lab) false (bad_join (m := (⟨la.u, la.af, n, la.d⟩ : Lab)) EV.out).2.2.1 _ _ _ _ _ _ _ LB.out LB.out).mono ?_
      rintro e w19 ⟨rfl, bq⟩
      replace HA := Lib.hid (blockOver bq HA.out)
      replace HB := Lib.hid (blockOver bq HB.out)
      replace LA := Lib.hid (LabAt.over bq LA.out)
      replace LB := Lib.hid (LabAt.over bq LB.out)
      replace bw := bel2 bw bq
      clear bq haq0 haq1 haq2 haq3 hbq0 hbq1 hbq2 hbq3
      obtain ⟨haq0, haq1, haq2, haq3⟩ := cells4 HA.out
      obtain ⟨hbq0, hbq1, hbq2, hbq3⟩ := cells4 HB.out
      go_wp2_with fail
      refine (allows_lit (⟨la.u, la.af, n, la.d⟩ : Lab) 0 1000000000 5 [n, 10] 2 false _ (bad_all EV.out _ _ _ _) (by unfold Bd; omega) (lit_two n 10 bn (by unfold Bd; omega)) _ _ _ _ _ (by first | rfl | simp) LB.out).mono ?_
      rintro e w20 ⟨rfl, bq⟩
      replace HA := Lib.hid (blockOver bq HA.out)
      replace HB := Lib.hid (blockOver bq HB.out)
      replace LA := Lib.hid (LabAt.over bq LA.out)
      replace LB := Lib.hid (LabAt.over bq LB.out)
      replace bw := bel2 bw bq
      clear bq haq0 haq1 haq2 haq3 hbq0 hbq1 hbq2 hbq3
      go_wp2
      go_ret
      exact ⟨rfl, bw⟩
  · by_cases h1 : 0 ≤ n
    · by_cases h2 : n ≤ 15
      · skip
        have EV := Lib.hid (show validB (⟨la.u, la.af, la.ap, n⟩ : Lab) = true by rw [bad_d okA.out]; exact dec_yes (by omega))
        have bn1 : Below (w2.alloc (.cells #[.int .i64 la.u, .slice aA nA cA, .int .i64 la.ap, .int .i64 la.d] 26)).heap.size (w2.alloc (.cells #[.int .i64 la.u, .slice aA nA cA, .int .i64 la.ap, .int .i64 la.d] 26)) ((w2.alloc (.cells #[.int .i64 la.u, .slice aA nA cA, .int .i64 la.ap, .int .i64 la.d] 26)).alloc (.cells #[.int .i64 la.u, .slice aA nA cA, .int .i64 la.ap, .int .i64 n] 26)) := below_alloc _ _
        have HB : ((w2.alloc (.cells #[.int .i64 la.u, .slice aA nA cA, .int .i64 la.ap, .int .i64 la.d] 26)).alloc (.cells #[.int .i64 la.u, .slice aA nA cA, .int .i64 la.ap, .int .i64 n] 26)).heap[w2.heap.size + 1]? = some (.cells #[.int .i64 la.u, .slice aA nA cA, .int .i64 la.ap, .int .i64 n] 26 (0, 0)) := by
          have h := heap_alloc_new (w2.alloc (.cells #[.int .i64 la.u, .slice aA nA cA, .int .i64 la.ap, .int .i64 la.d] 26)) (.cells #[.int .i64 la.u, .slice aA nA cA, .int .i64 la.ap, .int .i64 n] 26)
          rw [show (w2.alloc (.cells #[.int .i64 la.u, .slice aA nA cA, .int .i64 la.ap, .int .i64 la.d] 26)).heap.size = w2.heap.size + 1 by simp] at h
          exact h
        have LB : LabAt ((w2.alloc (.cells #[.int .i64 la.u, .slice aA nA cA, .int .i64 la.ap, .int .i64 la.d] 26)).alloc (.cells #[.int .i64 la.u, .slice aA nA cA, .int .i64 la.ap, .int .i64 n] 26)) aA nA cA (⟨la.u, la.af, la.ap, n⟩ : Lab) := ⟨(LA.out.over bn1).1, ⟨BA.out.1, BA.out.2.1, bn⟩⟩
        replace HB := Lib.hid HB
        replace LB := Lib.hid LB
        replace HA := Lib.hid (blockOver bn1 HA.out)
        replace LA := Lib.hid (LA.out.over bn1)
        replace bw := bel2 bw bn1
        clear bn1 HX
        obtain ⟨hbq0, hbq1, hbq2, hbq3⟩ := cells4 HB.out
        go_wp2_with fail
        refine (valid_eq la true VA.out _ _ _ _ LA.out).mono ?_
        rintro e w11 ⟨rfl, bq⟩
        replace HA := Lib.hid (blockOver bq HA.out)
        replace HB := Lib.hid (blockOver bq HB.out)
        replace LA := Lib.hid (LabAt.over bq LA.out)
        replace LB := Lib.hid (LabAt.over bq LB.out)
        replace bw := bel2 bw bq
        clear bq hbq0 hbq1 hbq2 hbq3
        obtain ⟨hbq0, hbq1, hbq2, hbq3⟩ := cells4 HB.out
        go_wp2_with fail
        refine (valid_eq (⟨la.u, la.af, la.ap, n⟩ : Lab) true EV.out _ _ _ _ LB.out).mono ?_
        rintro e w12 ⟨rfl, bq⟩
        replace HA := Lib.hid (blockOver bq HA.out)
        replace HB := Lib.hid (blockOver bq HB.out)
        replace LA := Lib.hid (LabAt.over bq LA.out)
        replace LB := Lib.hid (LabAt.over bq LB.out)
        replace bw := bel2 bw bq
        clear bq hbq0 hbq1 hbq2 hbq3
        go_wp2
        go_ret
        exact ⟨rfl, bw⟩
      · have g2 : decide (n ≤ 15) = false := dec_no h2
        have EV := Lib.hid (show validB (⟨la.u, la.af, la.ap, n⟩ : Lab) = false by rw [bad_d okA.out]; exact dec_no (by omega))
        have bn1 : Below (w2.alloc (.cells #[.int .i64 la.u, .slice aA nA cA, .int .i64 la.ap, .int .i64 la.d] 26)).heap.size (w2.alloc (.cells #[.int .i64 la.u, .slice aA nA cA, .int .i64 la.ap, .int .i64 la.d] 26)) ((w2.alloc (.cells #[.int .i64 la.u, .slice aA nA cA, .int .i64 la.ap, .int .i64 la.d] 26)).alloc (.cells #[.int .i64 la.u, .slice aA nA cA, .int .i64 la.ap, .int .i64 n] 26)) := below_alloc _ _
        have HB : ((w2.alloc (.cells #[.int .i64 la.u, .slice aA nA cA, .int .i64 la.ap, .int .i64 la.d] 26)).alloc (.cells #[.int .i64 la.u, .slice aA nA cA, .int .i64 la.ap, .int .i64 n] 26)).heap[w2.heap.size + 1]? = some (.cells #[.int .i64 la.u, .slice aA nA cA, .int .i64 la.ap, .int .i64 n] 26 (0, 0)) := by
          have h := heap_alloc_new (w2.alloc (.cells #[.int .i64 la.u, .slice aA nA cA, .int .i64 la.ap, .int .i64 la.d] 26)) (.cells #[.int .i64 la.u, .slice aA nA cA, .int .i64 la.ap, .int .i64 n] 26)
          rw [show (w2.alloc (.cells #[.int .i64 la.u, .slice aA nA cA, .int .i64 la.ap, .int .i64 la.d] 26)).heap.size = w2.heap.size + 1 by simp] at h
          exact h
        have LB : LabAt ((w2.alloc (.cells #[.int .i64 la.u, .slice aA nA cA, .int .i64 la.ap, .int .i64 la.d] 26)).alloc (.cells #[.int .i64 la.u, .slice aA nA cA, .int .i64 la.ap, .int .i64 n] 26)) aA nA cA (⟨la.u, la.af, la.ap, n⟩ : Lab) := ⟨(LA.out.over bn1).1, ⟨BA.out.1, BA.out.2.1, bn⟩⟩
        replace HB := Lib.hid HB
        replace LB := Lib.hid LB
        replace HA := Lib.hid (blockOver bn1 HA.out)
        replace LA := Lib.hid (LA.out.over bn1)
        replace bw := bel2 bw bn1
        clear bn1 HX
        obtain ⟨hbq0, hbq1, hbq2, hbq3⟩ := cells4 HB.out
        go_wp2_with fail
        refine (valid_eq la true VA.out _ _ _ _ LA.out).mono ?_
        rintro e w11 ⟨rfl, bq⟩
        replace HA := Lib.hid (blockOver bq HA.out)
        replace HB := Lib.hid (blockOver bq HB.out)
        replace LA := Lib.hid (LabAt.over bq LA.out)
        replace LB := Lib.hid (LabAt.over bq LB.out)
        replace bw := bel2 bw bq
        clear bq hbq0 hbq1 hbq2 hbq3
        obtain ⟨hbq0, hbq1, hbq2, hbq3⟩ := cells4 HB.out
        go_wp2_with fail
        refine (valid_eq (⟨la.u, la.af, la.ap, n⟩ : Lab) false EV.out _ _ _ _ LB.out).mono ?_
        rintro e w12 ⟨rfl, bq⟩
        replace HA := Lib.hid (blockOver bq HA.out)
        replace HB := Lib.hid (blockOver bq HB.out)
        replace LA := Lib.hid (LabAt.over bq LA.out)
        replace LB := Lib.hid (LabAt.over bq LB.out)
        replace bw := bel2 bw bq
        clear bq hbq0 hbq1 hbq2 hbq3
        obtain ⟨haq0, haq1, haq2, haq3⟩ := cells4 HA.out
        obtain ⟨hbq0, hbq1, hbq2, hbq3⟩ := cells4 HB.out
        go_wp2_with fail
        refine (join_eq la (⟨la.u, la.af, la.ap, n⟩ : Lab) zeroL (bad_join EV.out).1 _ _ _ _ _ _ _ LA.out LB.out).mono ?_
        rintro e w13 ⟨av1, nv1, cv1, rfl, Lv1, Ov1, bq⟩
        replace HA := Lib.hid (blockOver bq HA.out)
        replace HB := Lib.hid (blockOver bq HB.out)
        replace LA := Lib.hid (LabAt.over bq LA.out)
        replace LB := Lib.hid (LabAt.over bq LB.out)
        replace bw := bel2 bw bq
        replace Lv1 := Lib.hid Lv1
        clear bq Ov1 haq0 haq1 haq2 haq3 hbq0 hbq1 hbq2 hbq3
        obtain ⟨haq0, haq1, haq2, haq3⟩ := cells4 HA.out
        obtain ⟨hbq0, hbq1, hbq2, hbq3⟩ := cells4 HB.out
        go_wp2_with fail
        refine (same_eq zeroL zeroL true (same_refl _) _ _ _ _ _ _ _ Lv1.out (zero_at _)).mono ?_
        rintro e w14 ⟨rfl, bq⟩
        replace HA := Lib.hid (blockOver bq HA.out)
        replace HB := Lib.hid (blockOver bq HB.out)
        replace LA := Lib.hid (LabAt.over bq LA.out)
        replace LB := Lib.hid (LabAt.over bq LB.out)
        replace bw := bel2 bw bq
        clear bq haq0 haq1 haq2 haq3 hbq0 hbq1 hbq2 hbq3
        obtain ⟨haq0, haq1, haq2, haq3⟩ := cells4 HA.out
        obtain ⟨hbq0, hbq1, hbq2, hbq3⟩ := cells4 HB.out
        go_wp2_with fail
        refine (join_eq (⟨la.u, la.af, la.ap, n⟩ : Lab) la zeroL (bad_join EV.out).2.1 _ _ _ _ _ _ _ LB.out LA.out).mono ?_
        rintro e w15 ⟨av2, nv2, cv2, rfl, Lv2, Ov2, bq⟩
        replace HA := Lib.hid (blockOver bq HA.out)
        replace HB := Lib.hid (blockOver bq HB.out)
        replace LA := Lib.hid (LabAt.over bq LA.out)
        replace LB := Lib.hid (LabAt.over bq LB.out)
        replace bw := bel2 bw bq
        replace Lv2 := Lib.hid Lv2
        clear bq Ov2 haq0 haq1 haq2 haq3 hbq0 hbq1 hbq2 hbq3
        obtain ⟨haq0, haq1, haq2, haq3⟩ := cells4 HA.out
        obtain ⟨hbq0, hbq1, hbq2, hbq3⟩ := cells4 HB.out
        go_wp2_with fail
        refine (same_eq zeroL zeroL true (same_refl _) _ _ _ _ _ _ _ Lv2.out (zero_at _)).mono ?_
        rintro e w16 ⟨rfl, bq⟩
        replace HA := Lib.hid (blockOver bq HA.out)
        replace HB := Lib.hid (blockOver bq HB.out)
        replace LA := Lib.hid (LabAt.over bq LA.out)
        replace LB := Lib.hid (LabAt.over bq LB.out)
        replace bw := bel2 bw bq
        clear bq haq0 haq1 haq2 haq3 hbq0 hbq1 hbq2 hbq3
        obtain ⟨haq0, haq1, haq2, haq3⟩ := cells4 HA.out
        obtain ⟨hbq0, hbq1, hbq2, hbq3⟩ := cells4 HB.out
        go_wp2_with fail
        refine (leq_eq (⟨la.u, la.af, la.ap, n⟩ : Lab) la false (bad_join EV.out).2.2.2 _ _ _ _ _ _ _ LB.out LA.out).mono ?_
        rintro e w17 ⟨rfl, bq⟩
        replace HA := Lib.hid (blockOver bq HA.out)
        replace HB := Lib.hid (blockOver bq HB.out)
        replace LA := Lib.hid (LabAt.over bq LA.out)
        replace LB := Lib.hid (LabAt.over bq LB.out)
        replace bw := bel2 bw bq
        clear bq haq0 haq1 haq2 haq3 hbq0 hbq1 hbq2 hbq3
        obtain ⟨haq0, haq1, haq2, haq3⟩ := cells4 HA.out
        obtain ⟨hbq0, hbq1, hbq2, hbq3⟩ := cells4 HB.out
        go_wp2_with fail
        refine (leq_eq la (⟨la.u, la.af, la.ap, n⟩ : Lab) false (bad_join EV.out).2.2.1 _ _ _ _ _ _ _ LA.out LB.out).mono ?_
        rintro e w18 ⟨rfl, bq⟩
        replace HA := Lib.hid (blockOver bq HA.out)
        replace HB := Lib.hid (blockOver bq HB.out)
        replace LA := Lib.hid (LabAt.over bq LA.out)
        replace LB := Lib.hid (LabAt.over bq LB.out)
        replace bw := bel2 bw bq
        clear bq haq0 haq1 haq2 haq3 hbq0 hbq1 hbq2 hbq3
        obtain ⟨haq0, haq1, haq2, haq3⟩ := cells4 HA.out
        obtain ⟨hbq0, hbq1, hbq2, hbq3⟩ := cells4 HB.out
        go_wp2_with fail
        refine (leq_eq (⟨la.u, la.af, la.ap, n⟩ : Lab) (⟨la.u, la.af, la.ap, n⟩ : Lab) false (bad_join (m := (⟨la.u, la.af, la.ap, n⟩ : Lab)) EV.out).2.2.1 _ _ _ _ _ _ _ LB.out LB.out).mono ?_
        rintro e w19 ⟨rfl, bq⟩
        replace HA := Lib.hid (blockOver bq HA.out)
        replace HB := Lib.hid (blockOver bq HB.out)
        replace LA := Lib.hid (LabAt.over bq LA.out)
        replace LB := Lib.hid (LabAt.over bq LB.out)
        replace bw := bel2 bw bq
        clear bq haq0 haq1 haq2 haq3 hbq0 hbq1 hbq2 hbq3
        obtain ⟨haq0, haq1, haq2, haq3⟩ := cells4 HA.out
        obtain ⟨hbq0, hbq1, hbq2, hbq3⟩ := cells4 HB.out
        go_wp2_with fail
        refine (allows_lit (⟨la.u, la.af, la.ap, n⟩ : Lab) 0 1000000000 5 [n, 10] 2 false _ (bad_all EV.out _ _ _ _) (by unfold Bd; omega) (lit_two n 10 bn (by unfold Bd; omega)) _ _ _ _ _ (by first | rfl | simp) LB.out).mono ?_
        rintro e w20 ⟨rfl, bq⟩
        replace HA := Lib.hid (blockOver bq HA.out)
        replace HB := Lib.hid (blockOver bq HB.out)
        replace LA := Lib.hid (LabAt.over bq LA.out)
        replace LB := Lib.hid (LabAt.over bq LB.out)
        replace bw := bel2 bw bq
        clear bq haq0 haq1 haq2 haq3 hbq0 hbq1 hbq2 hbq3
        go_wp2
        go_ret
        exact ⟨rfl, bw⟩
    · skip
      have EV := Lib.hid (show validB (⟨la.u, la.af, la.ap, n⟩ : Lab) = false by rw [bad_d okA.out]; exact dec_no (by omega))
      have bn1 : Below (w2.alloc (.cells #[.int .i64 la.u, .slice aA nA cA, .int .i64 la.ap, .int .i64 la.d] 26)).heap.size (w2.alloc (.cells #[.int .i64 la.u, .slice aA nA cA, .int .i64 la.ap, .int .i64 la.d] 26)) ((w2.alloc (.cells #[.int .i64 la.u, .slice aA nA cA, .int .i64 la.ap, .int .i64 la.d] 26)).alloc (.cells #[.int .i64 la.u, .slice aA nA cA, .int .i64 la.ap, .int .i64 n] 26)) := below_alloc _ _
      have HB : ((w2.alloc (.cells #[.int .i64 la.u, .slice aA nA cA, .int .i64 la.ap, .int .i64 la.d] 26)).alloc (.cells #[.int .i64 la.u, .slice aA nA cA, .int .i64 la.ap, .int .i64 n] 26)).heap[w2.heap.size + 1]? = some (.cells #[.int .i64 la.u, .slice aA nA cA, .int .i64 la.ap, .int .i64 n] 26 (0, 0)) := by
        have h := heap_alloc_new (w2.alloc (.cells #[.int .i64 la.u, .slice aA nA cA, .int .i64 la.ap, .int .i64 la.d] 26)) (.cells #[.int .i64 la.u, .slice aA nA cA, .int .i64 la.ap, .int .i64 n] 26)
        rw [show (w2.alloc (.cells #[.int .i64 la.u, .slice aA nA cA, .int .i64 la.ap, .int .i64 la.d] 26)).heap.size = w2.heap.size + 1 by simp] at h
        exact h
      have LB : LabAt ((w2.alloc (.cells #[.int .i64 la.u, .slice aA nA cA, .int .i64 la.ap, .int .i64 la.d] 26)).alloc (.cells #[.int .i64 la.u, .slice aA nA cA, .int .i64 la.ap, .int .i64 n] 26)) aA nA cA (⟨la.u, la.af, la.ap, n⟩ : Lab) := ⟨(LA.out.over bn1).1, ⟨BA.out.1, BA.out.2.1, bn⟩⟩
      replace HB := Lib.hid HB
      replace LB := Lib.hid LB
      replace HA := Lib.hid (blockOver bn1 HA.out)
      replace LA := Lib.hid (LA.out.over bn1)
      replace bw := bel2 bw bn1
      clear bn1 HX
      obtain ⟨hbq0, hbq1, hbq2, hbq3⟩ := cells4 HB.out
      go_wp2_with fail
      refine (valid_eq la true VA.out _ _ _ _ LA.out).mono ?_
      rintro e w11 ⟨rfl, bq⟩
      replace HA := Lib.hid (blockOver bq HA.out)
      replace HB := Lib.hid (blockOver bq HB.out)
      replace LA := Lib.hid (LabAt.over bq LA.out)
      replace LB := Lib.hid (LabAt.over bq LB.out)
      replace bw := bel2 bw bq
      clear bq hbq0 hbq1 hbq2 hbq3
      obtain ⟨hbq0, hbq1, hbq2, hbq3⟩ := cells4 HB.out
      go_wp2_with fail
      refine (valid_eq (⟨la.u, la.af, la.ap, n⟩ : Lab) false EV.out _ _ _ _ LB.out).mono ?_
      rintro e w12 ⟨rfl, bq⟩
      replace HA := Lib.hid (blockOver bq HA.out)
      replace HB := Lib.hid (blockOver bq HB.out)
      replace LA := Lib.hid (LabAt.over bq LA.out)
      replace LB := Lib.hid (LabAt.over bq LB.out)
      replace bw := bel2 bw bq
      clear bq hbq0 hbq1 hbq2 hbq3
      obtain ⟨haq0, haq1, haq2, haq3⟩ := cells4 HA.out
      obtain ⟨hbq0, hbq1, hbq2, hbq3⟩ := cells4 HB.out
      go_wp2_with fail
      refine (join_eq la (⟨la.u, la.af, la.ap, n⟩ : Lab) zeroL (bad_join EV.out).1 _ _ _ _ _ _ _ LA.out LB.out).mono ?_
      rintro e w13 ⟨av1, nv1, cv1, rfl, Lv1, Ov1, bq⟩
      replace HA := Lib.hid (blockOver bq HA.out)
      replace HB := Lib.hid (blockOver bq HB.out)
      replace LA := Lib.hid (LabAt.over bq LA.out)
      replace LB := Lib.hid (LabAt.over bq LB.out)
      replace bw := bel2 bw bq
      replace Lv1 := Lib.hid Lv1
      clear bq Ov1 haq0 haq1 haq2 haq3 hbq0 hbq1 hbq2 hbq3
      obtain ⟨haq0, haq1, haq2, haq3⟩ := cells4 HA.out
      obtain ⟨hbq0, hbq1, hbq2, hbq3⟩ := cells4 HB.out
      go_wp2_with fail
      refine (same_eq zeroL zeroL true (same_refl _) _ _ _ _ _ _ _ Lv1.out (zero_at _)).mono ?_
      rintro e w14 ⟨rfl, bq⟩
      replace HA := Lib.hid (blockOver bq HA.out)
      replace HB := Lib.hid (blockOver bq HB.out)
      replace LA := Lib.hid (LabAt.over bq LA.out)
      replace LB := Lib.hid (LabAt.over bq LB.out)
      replace bw := bel2 bw bq
      clear bq haq0 haq1 haq2 haq3 hbq0 hbq1 hbq2 hbq3
      obtain ⟨haq0, haq1, haq2, haq3⟩ := cells4 HA.out
      obtain ⟨hbq0, hbq1, hbq2, hbq3⟩ := cells4 HB.out
      go_wp2_with fail
      refine (join_eq (⟨la.u, la.af, la.ap, n⟩ : Lab) la zeroL (bad_join EV.out).2.1 _ _ _ _ _ _ _ LB.out LA.out).mono ?_
      rintro e w15 ⟨av2, nv2, cv2, rfl, Lv2, Ov2, bq⟩
      replace HA := Lib.hid (blockOver bq HA.out)
      replace HB := Lib.hid (blockOver bq HB.out)
      replace LA := Lib.hid (LabAt.over bq LA.out)
      replace LB := Lib.hid (LabAt.over bq LB.out)
      replace bw := bel2 bw bq
      replace Lv2 := Lib.hid Lv2
      clear bq Ov2 haq0 haq1 haq2 haq3 hbq0 hbq1 hbq2 hbq3
      obtain ⟨haq0, haq1, haq2, haq3⟩ := cells4 HA.out
      obtain ⟨hbq0, hbq1, hbq2, hbq3⟩ := cells4 HB.out
      go_wp2_with fail
      refine (same_eq zeroL zeroL true (same_refl _) _ _ _ _ _ _ _ Lv2.out (zero_at _)).mono ?_
      rintro e w16 ⟨rfl, bq⟩
      replace HA := Lib.hid (blockOver bq HA.out)
      replace HB := Lib.hid (blockOver bq HB.out)
      replace LA := Lib.hid (LabAt.over bq LA.out)
      replace LB := Lib.hid (LabAt.over bq LB.out)
      replace bw := bel2 bw bq
      clear bq haq0 haq1 haq2 haq3 hbq0 hbq1 hbq2 hbq3
      obtain ⟨haq0, haq1, haq2, haq3⟩ := cells4 HA.out
      obtain ⟨hbq0, hbq1, hbq2, hbq3⟩ := cells4 HB.out
      go_wp2_with fail
      refine (leq_eq (⟨la.u, la.af, la.ap, n⟩ : Lab) la false (bad_join EV.out).2.2.2 _ _ _ _ _ _ _ LB.out LA.out).mono ?_
      rintro e w17 ⟨rfl, bq⟩
      replace HA := Lib.hid (blockOver bq HA.out)
      replace HB := Lib.hid (blockOver bq HB.out)
      replace LA := Lib.hid (LabAt.over bq LA.out)
      replace LB := Lib.hid (LabAt.over bq LB.out)
      replace bw := bel2 bw bq
      clear bq haq0 haq1 haq2 haq3 hbq0 hbq1 hbq2 hbq3
      obtain ⟨haq0, haq1, haq2, haq3⟩ := cells4 HA.out
      obtain ⟨hbq0, hbq1, hbq2, hbq3⟩ := cells4 HB.out
      go_wp2_with fail
      refine (leq_eq la (⟨la.u, la.af, la.ap, n⟩ : Lab) false (bad_join EV.out).2.2.1 _ _ _ _ _ _ _ LA.out LB.out).mono ?_
      rintro e w18 ⟨rfl, bq⟩
      replace HA := Lib.hid (blockOver bq HA.out)
      replace HB := Lib.hid (blockOver bq HB.out)
      replace LA := Lib.hid (LabAt.over bq LA.out)
      replace LB := Lib.hid (LabAt.over bq LB.out)
      replace bw := bel2 bw bq
      clear bq haq0 haq1 haq2 haq3 hbq0 hbq1 hbq2 hbq3
      obtain ⟨haq0, haq1, haq2, haq3⟩ := cells4 HA.out
      obtain ⟨hbq0, hbq1, hbq2, hbq3⟩ := cells4 HB.out
      go_wp2_with fail
      refine (leq_eq (⟨la.u, la.af, la.ap, n⟩ : Lab) (⟨la.u, la.af, la.ap, n⟩ : Lab) false (bad_join (m := (⟨la.u, la.af, la.ap, n⟩ : Lab)) EV.out).2.2.1 _ _ _ _ _ _ _ LB.out LB.out).mono ?_
      rintro e w19 ⟨rfl, bq⟩
      replace HA := Lib.hid (blockOver bq HA.out)
      replace HB := Lib.hid (blockOver bq HB.out)
      replace LA := Lib.hid (LabAt.over bq LA.out)
      replace LB := Lib.hid (LabAt.over bq LB.out)
      replace bw := bel2 bw bq
      clear bq haq0 haq1 haq2 haq3 hbq0 hbq1 hbq2 hbq3
      obtain ⟨haq0, haq1, haq2, haq3⟩ := cells4 HA.out
      obtain ⟨hbq0, hbq1, hbq2, hbq3⟩ := cells4 HB.out
      go_wp2_with fail
      refine (allows_lit (⟨la.u, la.af, la.ap, n⟩ : Lab) 0 1000000000 5 [n, 10] 2 false _ (bad_all EV.out _ _ _ _) (by unfold Bd; omega) (lit_two n 10 bn (by unfold Bd; omega)) _ _ _ _ _ (by first | rfl | simp) LB.out).mono ?_
      rintro e w20 ⟨rfl, bq⟩
      replace HA := Lib.hid (blockOver bq HA.out)
      replace HB := Lib.hid (blockOver bq HB.out)
      replace LA := Lib.hid (LabAt.over bq LA.out)
      replace LB := Lib.hid (LabAt.over bq LB.out)
      replace bw := bel2 bw bq
      clear bq haq0 haq1 haq2 haq3 hbq0 hbq1 hbq2 hbq3
      go_wp2
      go_ret
      exact ⟨rfl, bw⟩
  · by_cases h1 : 1 ≤ n
    · by_cases h2 : n ≤ 64
      · skip
        have EV := Lib.hid (show validB (⟨la.u, [n], la.ap, la.d⟩ : Lab) = true by rw [bad_one okA.out]; exact dec_yes (by omega))
        have bn1 : Below (w2.alloc (.cells #[.int .i64 la.u, .slice aA nA cA, .int .i64 la.ap, .int .i64 la.d] 26)).heap.size (w2.alloc (.cells #[.int .i64 la.u, .slice aA nA cA, .int .i64 la.ap, .int .i64 la.d] 26)) (((w2.alloc (.cells #[.int .i64 la.u, .slice aA nA cA, .int .i64 la.ap, .int .i64 la.d] 26)).alloc (.cells #[.int .i64 la.u, .slice (some ⟨w2.heap.size + 1 + 1, 0, none⟩) 1 1, .int .i64 la.ap, .int .i64 la.d] 26)).alloc (.cells #[.int .i64 n] 3)) := (below_alloc _ _).alloc (by simp) _
        have HB : (((w2.alloc (.cells #[.int .i64 la.u, .slice aA nA cA, .int .i64 la.ap, .int .i64 la.d] 26)).alloc (.cells #[.int .i64 la.u, .slice (some ⟨w2.heap.size + 1 + 1, 0, none⟩) 1 1, .int .i64 la.ap, .int .i64 la.d] 26)).alloc (.cells #[.int .i64 n] 3)).heap[w2.heap.size + 1]? = some (.cells #[.int .i64 la.u, .slice (some ⟨w2.heap.size + 1 + 1, 0, none⟩) 1 1, .int .i64 la.ap, .int .i64 la.d] 26 (0, 0)) := by
          have h := heap_alloc_new (w2.alloc (.cells #[.int .i64 la.u, .slice aA nA cA, .int .i64 la.ap, .int .i64 la.d] 26)) (.cells #[.int .i64 la.u, .slice (some ⟨w2.heap.size + 1 + 1, 0, none⟩) 1 1, .int .i64 la.ap, .int .i64 la.d] 26)
          rw [show (w2.alloc (.cells #[.int .i64 la.u, .slice aA nA cA, .int .i64 la.ap, .int .i64 la.d] 26)).heap.size = w2.heap.size + 1 by simp] at h
          exact (Below.heap_alloc _ _ _ (by simp)).trans h
        have LB : LabAt (((w2.alloc (.cells #[.int .i64 la.u, .slice aA nA cA, .int .i64 la.ap, .int .i64 la.d] 26)).alloc (.cells #[.int .i64 la.u, .slice (some ⟨w2.heap.size + 1 + 1, 0, none⟩) 1 1, .int .i64 la.ap, .int .i64 la.d] 26)).alloc (.cells #[.int .i64 n] 3)) (some ⟨w2.heap.size + 1 + 1, 0, none⟩) 1 1 (⟨la.u, [n], la.ap, la.d⟩ : Lab) := by
          have h := lit_one n bn ((w2.alloc (.cells #[.int .i64 la.u, .slice aA nA cA, .int .i64 la.ap, .int .i64 la.d] 26)).alloc (.cells #[.int .i64 la.u, .slice (some ⟨w2.heap.size + 1 + 1, 0, none⟩) 1 1, .int .i64 la.ap, .int .i64 la.d] 26))
          rw [show ((w2.alloc (.cells #[.int .i64 la.u, .slice aA nA cA, .int .i64 la.ap, .int .i64 la.d] 26)).alloc (.cells #[.int .i64 la.u, .slice (some ⟨w2.heap.size + 1 + 1, 0, none⟩) 1 1, .int .i64 la.ap, .int .i64 la.d] 26)).heap.size = w2.heap.size + 1 + 1 by simp] at h
          exact ⟨h, BA.out⟩
        replace HB := Lib.hid HB
        replace LB := Lib.hid LB
        replace HA := Lib.hid (blockOver bn1 HA.out)
        replace LA := Lib.hid (LA.out.over bn1)
        replace bw := bel2 bw bn1
        clear bn1 HX
        obtain ⟨hbq0, hbq1, hbq2, hbq3⟩ := cells4 HB.out
        go_wp2_with fail
        refine (valid_eq la true VA.out _ _ _ _ LA.out).mono ?_
        rintro e w11 ⟨rfl, bq⟩
        replace HA := Lib.hid (blockOver bq HA.out)
        replace HB := Lib.hid (blockOver bq HB.out)
        replace LA := Lib.hid (LabAt.over bq LA.out)
        replace LB := Lib.hid (LabAt.over bq LB.out)
        replace bw := bel2 bw bq
        clear bq hbq0 hbq1 hbq2 hbq3
        obtain ⟨hbq0, hbq1, hbq2, hbq3⟩ := cells4 HB.out
        go_wp2_with fail
        refine (valid_eq (⟨la.u, [n], la.ap, la.d⟩ : Lab) true EV.out _ _ _ _ LB.out).mono ?_
        rintro e w12 ⟨rfl, bq⟩
        replace HA := Lib.hid (blockOver bq HA.out)
        replace HB := Lib.hid (blockOver bq HB.out)
        replace LA := Lib.hid (LabAt.over bq LA.out)
        replace LB := Lib.hid (LabAt.over bq LB.out)
        replace bw := bel2 bw bq
        clear bq hbq0 hbq1 hbq2 hbq3
        go_wp2
        go_ret
        exact ⟨rfl, bw⟩
      · have g2 : decide (n ≤ 64) = false := dec_no h2
        have EV := Lib.hid (show validB (⟨la.u, [n], la.ap, la.d⟩ : Lab) = false by rw [bad_one okA.out]; exact dec_no (by omega))
        have bn1 : Below (w2.alloc (.cells #[.int .i64 la.u, .slice aA nA cA, .int .i64 la.ap, .int .i64 la.d] 26)).heap.size (w2.alloc (.cells #[.int .i64 la.u, .slice aA nA cA, .int .i64 la.ap, .int .i64 la.d] 26)) (((w2.alloc (.cells #[.int .i64 la.u, .slice aA nA cA, .int .i64 la.ap, .int .i64 la.d] 26)).alloc (.cells #[.int .i64 la.u, .slice (some ⟨w2.heap.size + 1 + 1, 0, none⟩) 1 1, .int .i64 la.ap, .int .i64 la.d] 26)).alloc (.cells #[.int .i64 n] 3)) := (below_alloc _ _).alloc (by simp) _
        have HB : (((w2.alloc (.cells #[.int .i64 la.u, .slice aA nA cA, .int .i64 la.ap, .int .i64 la.d] 26)).alloc (.cells #[.int .i64 la.u, .slice (some ⟨w2.heap.size + 1 + 1, 0, none⟩) 1 1, .int .i64 la.ap, .int .i64 la.d] 26)).alloc (.cells #[.int .i64 n] 3)).heap[w2.heap.size + 1]? = some (.cells #[.int .i64 la.u, .slice (some ⟨w2.heap.size + 1 + 1, 0, none⟩) 1 1, .int .i64 la.ap, .int .i64 la.d] 26 (0, 0)) := by
          have h := heap_alloc_new (w2.alloc (.cells #[.int .i64 la.u, .slice aA nA cA, .int .i64 la.ap, .int .i64 la.d] 26)) (.cells #[.int .i64 la.u, .slice (some ⟨w2.heap.size + 1 + 1, 0, none⟩) 1 1, .int .i64 la.ap, .int .i64 la.d] 26)
          rw [show (w2.alloc (.cells #[.int .i64 la.u, .slice aA nA cA, .int .i64 la.ap, .int .i64 la.d] 26)).heap.size = w2.heap.size + 1 by simp] at h
          exact (Below.heap_alloc _ _ _ (by simp)).trans h
        have LB : LabAt (((w2.alloc (.cells #[.int .i64 la.u, .slice aA nA cA, .int .i64 la.ap, .int .i64 la.d] 26)).alloc (.cells #[.int .i64 la.u, .slice (some ⟨w2.heap.size + 1 + 1, 0, none⟩) 1 1, .int .i64 la.ap, .int .i64 la.d] 26)).alloc (.cells #[.int .i64 n] 3)) (some ⟨w2.heap.size + 1 + 1, 0, none⟩) 1 1 (⟨la.u, [n], la.ap, la.d⟩ : Lab) := by
          have h := lit_one n bn ((w2.alloc (.cells #[.int .i64 la.u, .slice aA nA cA, .int .i64 la.ap, .int .i64 la.d] 26)).alloc (.cells #[.int .i64 la.u, .slice (some ⟨w2.heap.size + 1 + 1, 0, none⟩) 1 1, .int .i64 la.ap, .int .i64 la.d] 26))
          rw [show ((w2.alloc (.cells #[.int .i64 la.u, .slice aA nA cA, .int .i64 la.ap, .int .i64 la.d] 26)).alloc (.cells #[.int .i64 la.u, .slice (some ⟨w2.heap.size + 1 + 1, 0, none⟩) 1 1, .int .i64 la.ap, .int .i64 la.d] 26)).heap.size = w2.heap.size + 1 + 1 by simp] at h
          exact ⟨h, BA.out⟩
        replace HB := Lib.hid HB
        replace LB := Lib.hid LB
        replace HA := Lib.hid (blockOver bn1 HA.out)
        replace LA := Lib.hid (LA.out.over bn1)
        replace bw := bel2 bw bn1
        clear bn1 HX
        obtain ⟨hbq0, hbq1, hbq2, hbq3⟩ := cells4 HB.out
        go_wp2_with fail
        refine (valid_eq la true VA.out _ _ _ _ LA.out).mono ?_
        rintro e w11 ⟨rfl, bq⟩
        replace HA := Lib.hid (blockOver bq HA.out)
        replace HB := Lib.hid (blockOver bq HB.out)
        replace LA := Lib.hid (LabAt.over bq LA.out)
        replace LB := Lib.hid (LabAt.over bq LB.out)
        replace bw := bel2 bw bq
        clear bq hbq0 hbq1 hbq2 hbq3
        obtain ⟨hbq0, hbq1, hbq2, hbq3⟩ := cells4 HB.out
        go_wp2_with fail
        refine (valid_eq (⟨la.u, [n], la.ap, la.d⟩ : Lab) false EV.out _ _ _ _ LB.out).mono ?_
        rintro e w12 ⟨rfl, bq⟩
        replace HA := Lib.hid (blockOver bq HA.out)
        replace HB := Lib.hid (blockOver bq HB.out)
        replace LA := Lib.hid (LabAt.over bq LA.out)
        replace LB := Lib.hid (LabAt.over bq LB.out)
        replace bw := bel2 bw bq
        clear bq hbq0 hbq1 hbq2 hbq3
        obtain ⟨haq0, haq1, haq2, haq3⟩ := cells4 HA.out
        obtain ⟨hbq0, hbq1, hbq2, hbq3⟩ := cells4 HB.out
        go_wp2_with fail
        refine (join_eq la (⟨la.u, [n], la.ap, la.d⟩ : Lab) zeroL (bad_join EV.out).1 _ _ _ _ _ _ _ LA.out LB.out).mono ?_
        rintro e w13 ⟨av1, nv1, cv1, rfl, Lv1, Ov1, bq⟩
        replace HA := Lib.hid (blockOver bq HA.out)
        replace HB := Lib.hid (blockOver bq HB.out)
        replace LA := Lib.hid (LabAt.over bq LA.out)
        replace LB := Lib.hid (LabAt.over bq LB.out)
        replace bw := bel2 bw bq
        replace Lv1 := Lib.hid Lv1
        clear bq Ov1 haq0 haq1 haq2 haq3 hbq0 hbq1 hbq2 hbq3
        obtain ⟨haq0, haq1, haq2, haq3⟩ := cells4 HA.out
        obtain ⟨hbq0, hbq1, hbq2, hbq3⟩ := cells4 HB.out
        go_wp2_with fail
        refine (same_eq zeroL zeroL true (same_refl _) _ _ _ _ _ _ _ Lv1.out (zero_at _)).mono ?_
        rintro e w14 ⟨rfl, bq⟩
        replace HA := Lib.hid (blockOver bq HA.out)
        replace HB := Lib.hid (blockOver bq HB.out)
        replace LA := Lib.hid (LabAt.over bq LA.out)
        replace LB := Lib.hid (LabAt.over bq LB.out)
        replace bw := bel2 bw bq
        clear bq haq0 haq1 haq2 haq3 hbq0 hbq1 hbq2 hbq3
        obtain ⟨haq0, haq1, haq2, haq3⟩ := cells4 HA.out
        obtain ⟨hbq0, hbq1, hbq2, hbq3⟩ := cells4 HB.out
        go_wp2_with fail
        refine (join_eq (⟨la.u, [n], la.ap, la.d⟩ : Lab) la zeroL (bad_join EV.out).2.1 _ _ _ _ _ _ _ LB.out LA.out).mono ?_
        rintro e w15 ⟨av2, nv2, cv2, rfl, Lv2, Ov2, bq⟩
        replace HA := Lib.hid (blockOver bq HA.out)
        replace HB := Lib.hid (blockOver bq HB.out)
        replace LA := Lib.hid (LabAt.over bq LA.out)
        replace LB := Lib.hid (LabAt.over bq LB.out)
        replace bw := bel2 bw bq
        replace Lv2 := Lib.hid Lv2
        clear bq Ov2 haq0 haq1 haq2 haq3 hbq0 hbq1 hbq2 hbq3
        obtain ⟨haq0, haq1, haq2, haq3⟩ := cells4 HA.out
        obtain ⟨hbq0, hbq1, hbq2, hbq3⟩ := cells4 HB.out
        go_wp2_with fail
        refine (same_eq zeroL zeroL true (same_refl _) _ _ _ _ _ _ _ Lv2.out (zero_at _)).mono ?_
        rintro e w16 ⟨rfl, bq⟩
        replace HA := Lib.hid (blockOver bq HA.out)
        replace HB := Lib.hid (blockOver bq HB.out)
        replace LA := Lib.hid (LabAt.over bq LA.out)
        replace LB := Lib.hid (LabAt.over bq LB.out)
        replace bw := bel2 bw bq
        clear bq haq0 haq1 haq2 haq3 hbq0 hbq1 hbq2 hbq3
        obtain ⟨haq0, haq1, haq2, haq3⟩ := cells4 HA.out
        obtain ⟨hbq0, hbq1, hbq2, hbq3⟩ := cells4 HB.out
        go_wp2_with fail
        refine (leq_eq (⟨la.u, [n], la.ap, la.d⟩ : Lab) la false (bad_join EV.out).2.2.2 _ _ _ _ _ _ _ LB.out LA.out).mono ?_
        rintro e w17 ⟨rfl, bq⟩
        replace HA := Lib.hid (blockOver bq HA.out)
        replace HB := Lib.hid (blockOver bq HB.out)
        replace LA := Lib.hid (LabAt.over bq LA.out)
        replace LB := Lib.hid (LabAt.over bq LB.out)
        replace bw := bel2 bw bq
        clear bq haq0 haq1 haq2 haq3 hbq0 hbq1 hbq2 hbq3
        obtain ⟨haq0, haq1, haq2, haq3⟩ := cells4 HA.out
        obtain ⟨hbq0, hbq1, hbq2, hbq3⟩ := cells4 HB.out
        go_wp2_with fail
        refine (leq_eq la (⟨la.u, [n], la.ap, la.d⟩ : Lab) false (bad_join EV.out).2.2.1 _ _ _ _ _ _ _ LA.out LB.out).mono ?_
        rintro e w18 ⟨rfl, bq⟩
        replace HA := Lib.hid (blockOver bq HA.out)
        replace HB := Lib.hid (blockOver bq HB.out)
        replace LA := Lib.hid (LabAt.over bq LA.out)
        replace LB := Lib.hid (LabAt.over bq LB.out)
        replace bw := bel2 bw bq
        clear bq haq0 haq1 haq2 haq3 hbq0 hbq1 hbq2 hbq3
        obtain ⟨haq0, haq1, haq2, haq3⟩ := cells4 HA.out
        obtain ⟨hbq0, hbq1, hbq2, hbq3⟩ := cells4 HB.out
        go_wp2_with fail
        refine (leq_eq (⟨la.u, [n], la.ap, la.d⟩ : Lab) (⟨la.u, [n], la.ap, la.d⟩ : Lab) false (bad_join (m := (⟨la.u, [n], la.ap, la.d⟩ : Lab)) EV.out).2.2.1 _ _ _ _ _ _ _ LB.out LB.out).mono ?_
        rintro e w19 ⟨rfl, bq⟩
        replace HA := Lib.hid (blockOver bq HA.out)
        replace HB := Lib.hid (blockOver bq HB.out)
        replace LA := Lib.hid (LabAt.over bq LA.out)
        replace LB := Lib.hid (LabAt.over bq LB.out)
        replace bw := bel2 bw bq
        clear bq haq0 haq1 haq2 haq3 hbq0 hbq1 hbq2 hbq3
        obtain ⟨haq0, haq1, haq2, haq3⟩ := cells4 HA.out
        obtain ⟨hbq0, hbq1, hbq2, hbq3⟩ := cells4 HB.out
        go_wp2_with fail
        refine (allows_lit (⟨la.u, [n], la.ap, la.d⟩ : Lab) 0 1000000000 5 [n, 10] 2 false _ (bad_all EV.out _ _ _ _) (by unfold Bd; omega) (lit_two n 10 bn (by unfold Bd; omega)) _ _ _ _ _ (by first | rfl | simp) LB.out).mono ?_
        rintro e w20 ⟨rfl, bq⟩
        replace HA := Lib.hid (blockOver bq HA.out)
        replace HB := Lib.hid (blockOver bq HB.out)
        replace LA := Lib.hid (LabAt.over bq LA.out)
        replace LB := Lib.hid (LabAt.over bq LB.out)
        replace bw := bel2 bw bq
        clear bq haq0 haq1 haq2 haq3 hbq0 hbq1 hbq2 hbq3
        go_wp2
        go_ret
        exact ⟨rfl, bw⟩
    · skip
      have EV := Lib.hid (show validB (⟨la.u, [n], la.ap, la.d⟩ : Lab) = false by rw [bad_one okA.out]; exact dec_no (by omega))
      have bn1 : Below (w2.alloc (.cells #[.int .i64 la.u, .slice aA nA cA, .int .i64 la.ap, .int .i64 la.d] 26)).heap.size (w2.alloc (.cells #[.int .i64 la.u, .slice aA nA cA, .int .i64 la.ap, .int .i64 la.d] 26)) (((w2.alloc (.cells #[.int .i64 la.u, .slice aA nA cA, .int .i64 la.ap, .int .i64 la.d] 26)).alloc (.cells #[.int .i64 la.u, .slice (some ⟨w2.heap.size + 1 + 1, 0, none⟩) 1 1, .int .i64 la.ap, .int .i64 la.d] 26)).alloc (.cells #[.int .i64 n] 3)) := (below_alloc _ _).alloc (by simp) _
      have HB : (((w2.alloc (.cells #[.int .i64 la.u, .slice aA nA cA, .int .i64 la.ap, .int .i64 la.d] 26)).alloc (.cells #[.int .i64 la.u, .slice (some ⟨w2.heap.size + 1 + 1, 0, none⟩) 1 1, .int .i64 la.ap, .int .i64 la.d] 26)).alloc (.cells #[.int .i64 n] 3)).heap[w2.heap.size + 1]? = some (.cells #[.int .i64 la.u, .slice (some ⟨w2.heap.size + 1 + 1, 0, none⟩) 1 1, .int .i64 la.ap, .int .i64 la.d] 26 (0, 0)) := by
        have h := heap_alloc_new (w2.alloc (.cells #[.int .i64 la.u, .slice aA nA cA, .int .i64 la.ap, .int .i64 la.d] 26)) (.cells #[.int .i64 la.u, .slice (some ⟨w2.heap.size + 1 + 1, 0, none⟩) 1 1, .int .i64 la.ap, .int .i64 la.d] 26)
        rw [show (w2.alloc (.cells #[.int .i64 la.u, .slice aA nA cA, .int .i64 la.ap, .int .i64 la.d] 26)).heap.size = w2.heap.size + 1 by simp] at h
        exact (Below.heap_alloc _ _ _ (by simp)).trans h
      have LB : LabAt (((w2.alloc (.cells #[.int .i64 la.u, .slice aA nA cA, .int .i64 la.ap, .int .i64 la.d] 26)).alloc (.cells #[.int .i64 la.u, .slice (some ⟨w2.heap.size + 1 + 1, 0, none⟩) 1 1, .int .i64 la.ap, .int .i64 la.d] 26)).alloc (.cells #[.int .i64 n] 3)) (some ⟨w2.heap.size + 1 + 1, 0, none⟩) 1 1 (⟨la.u, [n], la.ap, la.d⟩ : Lab) := by
        have h := lit_one n bn ((w2.alloc (.cells #[.int .i64 la.u, .slice aA nA cA, .int .i64 la.ap, .int .i64 la.d] 26)).alloc (.cells #[.int .i64 la.u, .slice (some ⟨w2.heap.size + 1 + 1, 0, none⟩) 1 1, .int .i64 la.ap, .int .i64 la.d] 26))
        rw [show ((w2.alloc (.cells #[.int .i64 la.u, .slice aA nA cA, .int .i64 la.ap, .int .i64 la.d] 26)).alloc (.cells #[.int .i64 la.u, .slice (some ⟨w2.heap.size + 1 + 1, 0, none⟩) 1 1, .int .i64 la.ap, .int .i64 la.d] 26)).heap.size = w2.heap.size + 1 + 1 by simp] at h
        exact ⟨h, BA.out⟩
      replace HB := Lib.hid HB
      replace LB := Lib.hid LB
      replace HA := Lib.hid (blockOver bn1 HA.out)
      replace LA := Lib.hid (LA.out.over bn1)
      replace bw := bel2 bw bn1
      clear bn1 HX
      obtain ⟨hbq0, hbq1, hbq2, hbq3⟩ := cells4 HB.out
      go_wp2_with fail
      refine (valid_eq la true VA.out _ _ _ _ LA.out).mono ?_
      rintro e w11 ⟨rfl, bq⟩
      replace HA := Lib.hid (blockOver bq HA.out)
      replace HB := Lib.hid (blockOver bq HB.out)
      replace LA := Lib.hid (LabAt.over bq LA.out)
      replace LB := Lib.hid (LabAt.over bq LB.out)
      replace bw := bel2 bw bq
      clear bq hbq0 hbq1 hbq2 hbq3
      obtain ⟨hbq0, hbq1, hbq2, hbq3⟩ := cells4 HB.out
      go_wp2_with fail
      refine (valid_eq (⟨la.u, [n], la.ap, la.d⟩ : Lab) false EV.out _ _ _ _ LB.out).mono ?_
      rintro e w12 ⟨rfl, bq⟩
      replace HA := Lib.hid (blockOver bq HA.out)
      replace HB := Lib.hid (blockOver bq HB.out)
      replace LA := Lib.hid (LabAt.over bq LA.out)
      replace LB := Lib.hid (LabAt.over bq LB.out)
      replace bw := bel2 bw bq
      clear bq hbq0 hbq1 hbq2 hbq3
      obtain ⟨haq0, haq1, haq2, haq3⟩ := cells4 HA.out
      obtain ⟨hbq0, hbq1, hbq2, hbq3⟩ := cells4 HB.out
      go_wp2_with fail
      refine (join_eq la (⟨la.u, [n], la.ap, la.d⟩ : Lab) zeroL (bad_join EV.out).1 _ _ _ _ _ _ _ LA.out LB.out).mono ?_
      rintro e w13 ⟨av1, nv1, cv1, rfl, Lv1, Ov1, bq⟩
      replace HA := Lib.hid (blockOver bq HA.out)
      replace HB := Lib.hid (blockOver bq HB.out)
      replace LA := Lib.hid (LabAt.over bq LA.out)
      replace LB := Lib.hid (LabAt.over bq LB.out)
      replace bw := bel2 bw bq
      replace Lv1 := Lib.hid Lv1
      clear bq Ov1 haq0 haq1 haq2 haq3 hbq0 hbq1 hbq2 hbq3
      obtain ⟨haq0, haq1, haq2, haq3⟩ := cells4 HA.out
      obtain ⟨hbq0, hbq1, hbq2, hbq3⟩ := cells4 HB.out
      go_wp2_with fail
      refine (same_eq zeroL zeroL true (same_refl _) _ _ _ _ _ _ _ Lv1.out (zero_at _)).mono ?_
      rintro e w14 ⟨rfl, bq⟩
      replace HA := Lib.hid (blockOver bq HA.out)
      replace HB := Lib.hid (blockOver bq HB.out)
      replace LA := Lib.hid (LabAt.over bq LA.out)
      replace LB := Lib.hid (LabAt.over bq LB.out)
      replace bw := bel2 bw bq
      clear bq haq0 haq1 haq2 haq3 hbq0 hbq1 hbq2 hbq3
      obtain ⟨haq0, haq1, haq2, haq3⟩ := cells4 HA.out
      obtain ⟨hbq0, hbq1, hbq2, hbq3⟩ := cells4 HB.out
      go_wp2_with fail
      refine (join_eq (⟨la.u, [n], la.ap, la.d⟩ : Lab) la zeroL (bad_join EV.out).2.1 _ _ _ _ _ _ _ LB.out LA.out).mono ?_
      rintro e w15 ⟨av2, nv2, cv2, rfl, Lv2, Ov2, bq⟩
      replace HA := Lib.hid (blockOver bq HA.out)
      replace HB := Lib.hid (blockOver bq HB.out)
      replace LA := Lib.hid (LabAt.over bq LA.out)
      replace LB := Lib.hid (LabAt.over bq LB.out)
      replace bw := bel2 bw bq
      replace Lv2 := Lib.hid Lv2
      clear bq Ov2 haq0 haq1 haq2 haq3 hbq0 hbq1 hbq2 hbq3
      obtain ⟨haq0, haq1, haq2, haq3⟩ := cells4 HA.out
      obtain ⟨hbq0, hbq1, hbq2, hbq3⟩ := cells4 HB.out
      go_wp2_with fail
      refine (same_eq zeroL zeroL true (same_refl _) _ _ _ _ _ _ _ Lv2.out (zero_at _)).mono ?_
      rintro e w16 ⟨rfl, bq⟩
      replace HA := Lib.hid (blockOver bq HA.out)
      replace HB := Lib.hid (blockOver bq HB.out)
      replace LA := Lib.hid (LabAt.over bq LA.out)
      replace LB := Lib.hid (LabAt.over bq LB.out)
      replace bw := bel2 bw bq
      clear bq haq0 haq1 haq2 haq3 hbq0 hbq1 hbq2 hbq3
      obtain ⟨haq0, haq1, haq2, haq3⟩ := cells4 HA.out
      obtain ⟨hbq0, hbq1, hbq2, hbq3⟩ := cells4 HB.out
      go_wp2_with fail
      refine (leq_eq (⟨la.u, [n], la.ap, la.d⟩ : Lab) la false (bad_join EV.out).2.2.2 _ _ _ _ _ _ _ LB.out LA.out).mono ?_
      rintro e w17 ⟨rfl, bq⟩
      replace HA := Lib.hid (blockOver bq HA.out)
      replace HB := Lib.hid (blockOver bq HB.out)
      replace LA := Lib.hid (LabAt.over bq LA.out)
      replace LB := Lib.hid (LabAt.over bq LB.out)
      replace bw := bel2 bw bq
      clear bq haq0 haq1 haq2 haq3 hbq0 hbq1 hbq2 hbq3
      obtain ⟨haq0, haq1, haq2, haq3⟩ := cells4 HA.out
      obtain ⟨hbq0, hbq1, hbq2, hbq3⟩ := cells4 HB.out
      go_wp2_with fail
      refine (leq_eq la (⟨la.u, [n], la.ap, la.d⟩ : Lab) false (bad_join EV.out).2.2.1 _ _ _ _ _ _ _ LA.out LB.out).mono ?_
      rintro e w18 ⟨rfl, bq⟩
      replace HA := Lib.hid (blockOver bq HA.out)
      replace HB := Lib.hid (blockOver bq HB.out)
      replace LA := Lib.hid (LabAt.over bq LA.out)
      replace LB := Lib.hid (LabAt.over bq LB.out)
      replace bw := bel2 bw bq
      clear bq haq0 haq1 haq2 haq3 hbq0 hbq1 hbq2 hbq3
      obtain ⟨haq0, haq1, haq2, haq3⟩ := cells4 HA.out
      obtain ⟨hbq0, hbq1, hbq2, hbq3⟩ := cells4 HB.out
      go_wp2_with fail
      refine (leq_eq (⟨la.u, [n], la.ap, la.d⟩ : Lab) (⟨la.u, [n], la.ap, la.d⟩ : Lab) false (bad_join (m := (⟨la.u, [n], la.ap, la.d⟩ : Lab)) EV.out).2.2.1 _ _ _ _ _ _ _ LB.out LB.out).mono ?_
      rintro e w19 ⟨rfl, bq⟩
      replace HA := Lib.hid (blockOver bq HA.out)
      replace HB := Lib.hid (blockOver bq HB.out)
      replace LA := Lib.hid (LabAt.over bq LA.out)
      replace LB := Lib.hid (LabAt.over bq LB.out)
      replace bw := bel2 bw bq
      clear bq haq0 haq1 haq2 haq3 hbq0 hbq1 hbq2 hbq3
      obtain ⟨haq0, haq1, haq2, haq3⟩ := cells4 HA.out
      obtain ⟨hbq0, hbq1, hbq2, hbq3⟩ := cells4 HB.out
      go_wp2_with fail
      refine (allows_lit (⟨la.u, [n], la.ap, la.d⟩ : Lab) 0 1000000000 5 [n, 10] 2 false _ (bad_all EV.out _ _ _ _) (by unfold Bd; omega) (lit_two n 10 bn (by unfold Bd; omega)) _ _ _ _ _ (by first | rfl | simp) LB.out).mono ?_
      rintro e w20 ⟨rfl, bq⟩
      replace HA := Lib.hid (blockOver bq HA.out)
      replace HB := Lib.hid (blockOver bq HB.out)
      replace LA := Lib.hid (LabAt.over bq LA.out)
      replace LB := Lib.hid (LabAt.over bq LB.out)
      replace bw := bel2 bw bq
      clear bq haq0 haq1 haq2 haq3 hbq0 hbq1 hbq2 hbq3
      go_wp2
      go_ret
      exact ⟨rfl, bw⟩
  · by_cases h1 : 10 < n
    · by_cases h2 : n ≤ 64
      · skip
        have EV := Lib.hid (show validB (⟨la.u, [10, n], la.ap, la.d⟩ : Lab) = true by rw [bad_two okA.out]; exact dec_yes (by omega))
        have bn1 : Below (w2.alloc (.cells #[.int .i64 la.u, .slice aA nA cA, .int .i64 la.ap, .int .i64 la.d] 26)).heap.size (w2.alloc (.cells #[.int .i64 la.u, .slice aA nA cA, .int .i64 la.ap, .int .i64 la.d] 26)) (((w2.alloc (.cells #[.int .i64 la.u, .slice aA nA cA, .int .i64 la.ap, .int .i64 la.d] 26)).alloc (.cells #[.int .i64 la.u, .slice (some ⟨w2.heap.size + 1 + 1, 0, none⟩) 2 2, .int .i64 la.ap, .int .i64 la.d] 26)).alloc (.cells #[.int .i64 10, .int .i64 n] 3)) := (below_alloc _ _).alloc (by simp) _
        have HB : (((w2.alloc (.cells #[.int .i64 la.u, .slice aA nA cA, .int .i64 la.ap, .int .i64 la.d] 26)).alloc (.cells #[.int .i64 la.u, .slice (some ⟨w2.heap.size + 1 + 1, 0, none⟩) 2 2, .int .i64 la.ap, .int .i64 la.d] 26)).alloc (.cells #[.int .i64 10, .int .i64 n] 3)).heap[w2.heap.size + 1]? = some (.cells #[.int .i64 la.u, .slice (some ⟨w2.heap.size + 1 + 1, 0, none⟩) 2 2, .int .i64 la.ap, .int .i64 la.d] 26 (0, 0)) := by
          have h := heap_alloc_new (w2.alloc (.cells #[.int .i64 la.u, .slice aA nA cA, .int .i64 la.ap, .int .i64 la.d] 26)) (.cells #[.int .i64 la.u, .slice (some ⟨w2.heap.size + 1 + 1, 0, none⟩) 2 2, .int .i64 la.ap, .int .i64 la.d] 26)
          rw [show (w2.alloc (.cells #[.int .i64 la.u, .slice aA nA cA, .int .i64 la.ap, .int .i64 la.d] 26)).heap.size = w2.heap.size + 1 by simp] at h
          exact (Below.heap_alloc _ _ _ (by simp)).trans h
        have LB : LabAt (((w2.alloc (.cells #[.int .i64 la.u, .slice aA nA cA, .int .i64 la.ap, .int .i64 la.d] 26)).alloc (.cells #[.int .i64 la.u, .slice (some ⟨w2.heap.size + 1 + 1, 0, none⟩) 2 2, .int .i64 la.ap, .int .i64 la.d] 26)).alloc (.cells #[.int .i64 10, .int .i64 n] 3)) (some ⟨w2.heap.size + 1 + 1, 0, none⟩) 2 2 (⟨la.u, [10, n], la.ap, la.d⟩ : Lab) := by
          have h := lit_two 10 n (by unfold Bd; omega) bn ((w2.alloc (.cells #[.int .i64 la.u, .slice aA nA cA, .int .i64 la.ap, .int .i64 la.d] 26)).alloc (.cells #[.int .i64 la.u, .slice (some ⟨w2.heap.size + 1 + 1, 0, none⟩) 2 2, .int .i64 la.ap, .int .i64 la.d] 26))
          rw [show ((w2.alloc (.cells #[.int .i64 la.u, .slice aA nA cA, .int .i64 la.ap, .int .i64 la.d] 26)).alloc (.cells #[.int .i64 la.u, .slice (some ⟨w2.heap.size + 1 + 1, 0, none⟩) 2 2, .int .i64 la.ap, .int .i64 la.d] 26)).heap.size = w2.heap.size + 1 + 1 by simp] at h
          exact ⟨h, BA.out⟩
        replace HB := Lib.hid HB
        replace LB := Lib.hid LB
        replace HA := Lib.hid (blockOver bn1 HA.out)
        replace LA := Lib.hid (LA.out.over bn1)
        replace bw := bel2 bw bn1
        clear bn1 HX
        obtain ⟨hbq0, hbq1, hbq2, hbq3⟩ := cells4 HB.out
        go_wp2_with fail
        refine (valid_eq la true VA.out _ _ _ _ LA.out).mono ?_
        rintro e w11 ⟨rfl, bq⟩
        replace HA := Lib.hid (blockOver bq HA.out)
        replace HB := Lib.hid (blockOver bq HB.out)
        replace LA := Lib.hid (LabAt.over bq LA.out)
        replace LB := Lib.hid (LabAt.over bq LB.out)
        replace bw := bel2 bw bq
        clear bq hbq0 hbq1 hbq2 hbq3
        obtain ⟨hbq0, hbq1, hbq2, hbq3⟩ := cells4 HB.out
        go_wp2_with fail
        refine (valid_eq (⟨la.u, [10, n], la.ap, la.d⟩ : Lab) true EV.out _ _ _ _ LB.out).mono ?_
        rintro e w12 ⟨rfl, bq⟩
        replace HA := Lib.hid (blockOver bq HA.out)
        replace HB := Lib.hid (blockOver bq HB.out)
        replace LA := Lib.hid (LabAt.over bq LA.out)
        replace LB := Lib.hid (LabAt.over bq LB.out)
        replace bw := bel2 bw bq
        clear bq hbq0 hbq1 hbq2 hbq3
        go_wp2
        go_ret
        exact ⟨rfl, bw⟩
      · have g2 : decide (n ≤ 64) = false := dec_no h2
        have EV := Lib.hid (show validB (⟨la.u, [10, n], la.ap, la.d⟩ : Lab) = false by rw [bad_two okA.out]; exact dec_no (by omega))
        have bn1 : Below (w2.alloc (.cells #[.int .i64 la.u, .slice aA nA cA, .int .i64 la.ap, .int .i64 la.d] 26)).heap.size (w2.alloc (.cells #[.int .i64 la.u, .slice aA nA cA, .int .i64 la.ap, .int .i64 la.d] 26)) (((w2.alloc (.cells #[.int .i64 la.u, .slice aA nA cA, .int .i64 la.ap, .int .i64 la.d] 26)).alloc (.cells #[.int .i64 la.u, .slice (some ⟨w2.heap.size + 1 + 1, 0, none⟩) 2 2, .int .i64 la.ap, .int .i64 la.d] 26)).alloc (.cells #[.int .i64 10, .int .i64 n] 3)) := (below_alloc _ _).alloc (by simp) _
        have HB : (((w2.alloc (.cells #[.int .i64 la.u, .slice aA nA cA, .int .i64 la.ap, .int .i64 la.d] 26)).alloc (.cells #[.int .i64 la.u, .slice (some ⟨w2.heap.size + 1 + 1, 0, none⟩) 2 2, .int .i64 la.ap, .int .i64 la.d] 26)).alloc (.cells #[.int .i64 10, .int .i64 n] 3)).heap[w2.heap.size + 1]? = some (.cells #[.int .i64 la.u, .slice (some ⟨w2.heap.size + 1 + 1, 0, none⟩) 2 2, .int .i64 la.ap, .int .i64 la.d] 26 (0, 0)) := by
          have h := heap_alloc_new (w2.alloc (.cells #[.int .i64 la.u, .slice aA nA cA, .int .i64 la.ap, .int .i64 la.d] 26)) (.cells #[.int .i64 la.u, .slice (some ⟨w2.heap.size + 1 + 1, 0, none⟩) 2 2, .int .i64 la.ap, .int .i64 la.d] 26)
          rw [show (w2.alloc (.cells #[.int .i64 la.u, .slice aA nA cA, .int .i64 la.ap, .int .i64 la.d] 26)).heap.size = w2.heap.size + 1 by simp] at h
          exact (Below.heap_alloc _ _ _ (by simp)).trans h
        have LB : LabAt (((w2.alloc (.cells #[.int .i64 la.u, .slice aA nA cA, .int .i64 la.ap, .int .i64 la.d] 26)).alloc (.cells #[.int .i64 la.u, .slice (some ⟨w2.heap.size + 1 + 1, 0, none⟩) 2 2, .int .i64 la.ap, .int .i64 la.d] 26)).alloc (.cells #[.int .i64 10, .int .i64 n] 3)) (some ⟨w2.heap.size + 1 + 1, 0, none⟩) 2 2 (⟨la.u, [10, n], la.ap, la.d⟩ : Lab) := by
          have h := lit_two 10 n (by unfold Bd; omega) bn ((w2.alloc (.cells #[.int .i64 la.u, .slice aA nA cA, .int .i64 la.ap, .int .i64 la.d] 26)).alloc (.cells #[.int .i64 la.u, .slice (some ⟨w2.heap.size + 1 + 1, 0, none⟩) 2 2, .int .i64 la.ap, .int .i64 la.d] 26))
          rw [show ((w2.alloc (.cells #[.int .i64 la.u, .slice aA nA cA, .int .i64 la.ap, .int .i64 la.d] 26)).alloc (.cells #[.int .i64 la.u, .slice (some ⟨w2.heap.size + 1 + 1, 0, none⟩) 2 2, .int .i64 la.ap, .int .i64 la.d] 26)).heap.size = w2.heap.size + 1 + 1 by simp] at h
          exact ⟨h, BA.out⟩
        replace HB := Lib.hid HB
        replace LB := Lib.hid LB
        replace HA := Lib.hid (blockOver bn1 HA.out)
        replace LA := Lib.hid (LA.out.over bn1)
        replace bw := bel2 bw bn1
        clear bn1 HX
        obtain ⟨hbq0, hbq1, hbq2, hbq3⟩ := cells4 HB.out
        go_wp2_with fail
        refine (valid_eq la true VA.out _ _ _ _ LA.out).mono ?_
        rintro e w11 ⟨rfl, bq⟩
        replace HA := Lib.hid (blockOver bq HA.out)
        replace HB := Lib.hid (blockOver bq HB.out)
        replace LA := Lib.hid (LabAt.over bq LA.out)
        replace LB := Lib.hid (LabAt.over bq LB.out)
        replace bw := bel2 bw bq
        clear bq hbq0 hbq1 hbq2 hbq3
        obtain ⟨hbq0, hbq1, hbq2, hbq3⟩ := cells4 HB.out
        go_wp2_with fail
        refine (valid_eq (⟨la.u, [10, n], la.ap, la.d⟩ : Lab) false EV.out _ _ _ _ LB.out).mono ?_
        rintro e w12 ⟨rfl, bq⟩
        replace HA := Lib.hid (blockOver bq HA.out)
        replace HB := Lib.hid (blockOver bq HB.out)
        replace LA := Lib.hid (LabAt.over bq LA.out)
        replace LB := Lib.hid (LabAt.over bq LB.out)
        replace bw := bel2 bw bq
        clear bq hbq0 hbq1 hbq2 hbq3
        obtain ⟨haq0, haq1, haq2, haq3⟩ := cells4 HA.out
        obtain ⟨hbq0, hbq1, hbq2, hbq3⟩ := cells4 HB.out
        go_wp2_with fail
        refine (join_eq la (⟨la.u, [10, n], la.ap, la.d⟩ : Lab) zeroL (bad_join EV.out).1 _ _ _ _ _ _ _ LA.out LB.out).mono ?_
        rintro e w13 ⟨av1, nv1, cv1, rfl, Lv1, Ov1, bq⟩
        replace HA := Lib.hid (blockOver bq HA.out)
        replace HB := Lib.hid (blockOver bq HB.out)
        replace LA := Lib.hid (LabAt.over bq LA.out)
        replace LB := Lib.hid (LabAt.over bq LB.out)
        replace bw := bel2 bw bq
        replace Lv1 := Lib.hid Lv1
        clear bq Ov1 haq0 haq1 haq2 haq3 hbq0 hbq1 hbq2 hbq3
        obtain ⟨haq0, haq1, haq2, haq3⟩ := cells4 HA.out
        obtain ⟨hbq0, hbq1, hbq2, hbq3⟩ := cells4 HB.out
        go_wp2_with fail
        refine (same_eq zeroL zeroL true (same_refl _) _ _ _ _ _ _ _ Lv1.out (zero_at _)).mono ?_
        rintro e w14 ⟨rfl, bq⟩
        replace HA := Lib.hid (blockOver bq HA.out)
        replace HB := Lib.hid (blockOver bq HB.out)
        replace LA := Lib.hid (LabAt.over bq LA.out)
        replace LB := Lib.hid (LabAt.over bq LB.out)
        replace bw := bel2 bw bq
        clear bq haq0 haq1 haq2 haq3 hbq0 hbq1 hbq2 hbq3
        obtain ⟨haq0, haq1, haq2, haq3⟩ := cells4 HA.out
        obtain ⟨hbq0, hbq1, hbq2, hbq3⟩ := cells4 HB.out
        go_wp2_with fail
        refine (join_eq (⟨la.u, [10, n], la.ap, la.d⟩ : Lab) la zeroL (bad_join EV.out).2.1 _ _ _ _ _ _ _ LB.out LA.out).mono ?_
        rintro e w15 ⟨av2, nv2, cv2, rfl, Lv2, Ov2, bq⟩
        replace HA := Lib.hid (blockOver bq HA.out)
        replace HB := Lib.hid (blockOver bq HB.out)
        replace LA := Lib.hid (LabAt.over bq LA.out)
        replace LB := Lib.hid (LabAt.over bq LB.out)
        replace bw := bel2 bw bq
        replace Lv2 := Lib.hid Lv2
        clear bq Ov2 haq0 haq1 haq2 haq3 hbq0 hbq1 hbq2 hbq3
        obtain ⟨haq0, haq1, haq2, haq3⟩ := cells4 HA.out
        obtain ⟨hbq0, hbq1, hbq2, hbq3⟩ := cells4 HB.out
        go_wp2_with fail
        refine (same_eq zeroL zeroL true (same_refl _) _ _ _ _ _ _ _ Lv2.out (zero_at _)).mono ?_
        rintro e w16 ⟨rfl, bq⟩
        replace HA := Lib.hid (blockOver bq HA.out)
        replace HB := Lib.hid (blockOver bq HB.out)
        replace LA := Lib.hid (LabAt.over bq LA.out)
        replace LB := Lib.hid (LabAt.over bq LB.out)
        replace bw := bel2 bw bq
        clear bq haq0 haq1 haq2 haq3 hbq0 hbq1 hbq2 hbq3
        obtain ⟨haq0, haq1, haq2, haq3⟩ := cells4 HA.out
        obtain ⟨hbq0, hbq1, hbq2, hbq3⟩ := cells4 HB.out
        go_wp2_with fail
        refine (leq_eq (⟨la.u, [10, n], la.ap, la.d⟩ : Lab) la false (bad_join EV.out).2.2.2 _ _ _ _ _ _ _ LB.out LA.out).mono ?_
        rintro e w17 ⟨rfl, bq⟩
        replace HA := Lib.hid (blockOver bq HA.out)
        replace HB := Lib.hid (blockOver bq HB.out)
        replace LA := Lib.hid (LabAt.over bq LA.out)
        replace LB := Lib.hid (LabAt.over bq LB.out)
        replace bw := bel2 bw bq
        clear bq haq0 haq1 haq2 haq3 hbq0 hbq1 hbq2 hbq3
        obtain ⟨haq0, haq1, haq2, haq3⟩ := cells4 HA.out
        obtain ⟨hbq0, hbq1, hbq2, hbq3⟩ := cells4 HB.out
        go_wp2_with fail
        refine (leq_eq la (⟨la.u, [10, n], la.ap, la.d⟩ : Lab) false (bad_join EV.out).2.2.1 _ _ _ _ _ _ _ LA.out LB.out).mono ?_
        rintro e w18 ⟨rfl, bq⟩
        replace HA := Lib.hid (blockOver bq HA.out)
        replace HB := Lib.hid (blockOver bq HB.out)
        replace LA := Lib.hid (LabAt.over bq LA.out)
        replace LB := Lib.hid (LabAt.over bq LB.out)
        replace bw := bel2 bw bq
        clear bq haq0 haq1 haq2 haq3 hbq0 hbq1 hbq2 hbq3
        obtain ⟨haq0, haq1, haq2, haq3⟩ := cells4 HA.out
        obtain ⟨hbq0, hbq1, hbq2, hbq3⟩ := cells4 HB.out
        go_wp2_with fail
        refine (leq_eq (⟨la.u, [10, n], la.ap, la.d⟩ : Lab) (⟨la.u, [10, n], la.ap, la.d⟩ : Lab) false (bad_join (m := (⟨la.u, [10, n], la.ap, la.d⟩ : Lab)) EV.out).2.2.1 _ _ _ _ _ _ _ LB.out LB.out).mono ?_
        rintro e w19 ⟨rfl, bq⟩
        replace HA := Lib.hid (blockOver bq HA.out)
        replace HB := Lib.hid (blockOver bq HB.out)
        replace LA := Lib.hid (LabAt.over bq LA.out)
        replace LB := Lib.hid (LabAt.over bq LB.out)
        replace bw := bel2 bw bq
        clear bq haq0 haq1 haq2 haq3 hbq0 hbq1 hbq2 hbq3
        obtain ⟨haq0, haq1, haq2, haq3⟩ := cells4 HA.out
        obtain ⟨hbq0, hbq1, hbq2, hbq3⟩ := cells4 HB.out
        go_wp2_with fail
        refine (allows_lit (⟨la.u, [10, n], la.ap, la.d⟩ : Lab) 0 1000000000 5 [n, 10] 2 false _ (bad_all EV.out _ _ _ _) (by unfold Bd; omega) (lit_two n 10 bn (by unfold Bd; omega)) _ _ _ _ _ (by first | rfl | simp) LB.out).mono ?_
        rintro e w20 ⟨rfl, bq⟩
        replace HA := Lib.hid (blockOver bq HA.out)
        replace HB := Lib.hid (blockOver bq HB.out)
        replace LA := Lib.hid (LabAt.over bq LA.out)
        replace LB := Lib.hid (LabAt.over bq LB.out)
        replace bw := bel2 bw bq
        clear bq haq0 haq1 haq2 haq3 hbq0 hbq1 hbq2 hbq3
        go_wp2
        go_ret
        exact ⟨rfl, bw⟩
    · skip
      have EV := Lib.hid (show validB (⟨la.u, [10, n], la.ap, la.d⟩ : Lab) = false by rw [bad_two okA.out]; exact dec_no (by omega))
      have bn1 : Below (w2.alloc (.cells #[.int .i64 la.u, .slice aA nA cA, .int .i64 la.ap, .int .i64 la.d] 26)).heap.size (w2.alloc (.cells #[.int .i64 la.u, .slice aA nA cA, .int .i64 la.ap, .int .i64 la.d] 26)) (((w2.alloc (.cells #[.int .i64 la.u, .slice aA nA cA, .int .i64 la.ap, .int .i64 la.d] 26)).alloc (.cells #[.int .i64 la.u, .slice (some ⟨w2.heap.size + 1 + 1, 0, none⟩) 2 2, .int .i64 la.ap, .int .i64 la.d] 26)).alloc (.cells #[.int .i64 10, .int .i64 n] 3)) := (below_alloc _ _).alloc (by simp) _
      have HB : (((w2.alloc (.cells #[.int .i64 la.u, .slice aA nA cA, .int .i64 la.ap, .int .i64 la.d] 26)).alloc (.cells #[.int .i64 la.u, .slice (some ⟨w2.heap.size + 1 + 1, 0, none⟩) 2 2, .int .i64 la.ap, .int .i64 la.d] 26)).alloc (.cells #[.int .i64 10, .int .i64 n] 3)).heap[w2.heap.size + 1]? = some (.cells #[.int .i64 la.u, .slice (some ⟨w2.heap.size + 1 + 1, 0, none⟩) 2 2, .int .i64 la.ap, .int .i64 la.d] 26 (0, 0)) := by
        have h := heap_alloc_new (w2.alloc (.cells #[.int .i64 la.u, .slice aA nA cA, .int .i64 la.ap, .int .i64 la.d] 26)) (.cells #[.int .i64 la.u, .slice (some ⟨w2.heap.size + 1 + 1, 0, none⟩) 2 2, .int .i64 la.ap, .int .i64 la.d] 26)
        rw [show (w2.alloc (.cells #[.int .i64 la.u, .slice aA nA cA, .int .i64 la.ap, .int .i64 la.d] 26)).heap.size = w2.heap.size + 1 by simp] at h
        exact (Below.heap_alloc _ _ _ (by simp)).trans h
      have LB : LabAt (((w2.alloc (.cells #[.int .i64 la.u, .slice aA nA cA, .int .i64 la.ap, .int .i64 la.d] 26)).alloc (.cells #[.int .i64 la.u, .slice (some ⟨w2.heap.size + 1 + 1, 0, none⟩) 2 2, .int .i64 la.ap, .int .i64 la.d] 26)).alloc (.cells #[.int .i64 10, .int .i64 n] 3)) (some ⟨w2.heap.size + 1 + 1, 0, none⟩) 2 2 (⟨la.u, [10, n], la.ap, la.d⟩ : Lab) := by
        have h := lit_two 10 n (by unfold Bd; omega) bn ((w2.alloc (.cells #[.int .i64 la.u, .slice aA nA cA, .int .i64 la.ap, .int .i64 la.d] 26)).alloc (.cells #[.int .i64 la.u, .slice (some ⟨w2.heap.size + 1 + 1, 0, none⟩) 2 2, .int .i64 la.ap, .int .i64 la.d] 26))
        rw [show ((w2.alloc (.cells #[.int .i64 la.u, .slice aA nA cA, .int .i64 la.ap, .int .i64 la.d] 26)).alloc (.cells #[.int .i64 la.u, .slice (some ⟨w2.heap.size + 1 + 1, 0, none⟩) 2 2, .int .i64 la.ap, .int .i64 la.d] 26)).heap.size = w2.heap.size + 1 + 1 by simp] at h
        exact ⟨h, BA.out⟩
      replace HB := Lib.hid HB
      replace LB := Lib.hid LB
      replace HA := Lib.hid (blockOver bn1 HA.out)
      replace LA := Lib.hid (LA.out.over bn1)
      replace bw := bel2 bw bn1
      clear bn1 HX
      obtain ⟨hbq0, hbq1, hbq2, hbq3⟩ := cells4 HB.out
      go_wp2_with fail
      refine (valid_eq la true VA.out _ _ _ _ LA.out).mono ?_
      rintro e w11 ⟨rfl, bq⟩
      replace HA := Lib.hid (blockOver bq HA.out)
      replace HB := Lib.hid (blockOver bq HB.out)
      replace LA := Lib.hid (LabAt.over bq LA.out)
      replace LB := Lib.hid (LabAt.over bq LB.out)
      replace bw := bel2 bw bq
      clear bq hbq0 hbq1 hbq2 hbq3
      obtain ⟨hbq0, hbq1, hbq2, hbq3⟩ := cells4 HB.out
      go_wp2_with fail
      refine (valid_eq (⟨la.u, [10, n], la.ap, la.d⟩ : Lab) false EV.out _ _ _ _ LB.out).mono ?_
      rintro e w12 ⟨rfl, bq⟩
      replace HA := Lib.hid (blockOver bq HA.out)
      replace HB := Lib.hid (blockOver bq HB.out)
      replace LA := Lib.hid (LabAt.over bq LA.out)
      replace LB := Lib.hid (LabAt.over bq LB.out)
      replace bw := bel2 bw bq
      clear bq hbq0 hbq1 hbq2 hbq3
      obtain ⟨haq0, haq1, haq2, haq3⟩ := cells4 HA.out
      obtain ⟨hbq0, hbq1, hbq2, hbq3⟩ := cells4 HB.out
      go_wp2_with fail
      refine (join_eq la (⟨la.u, [10, n], la.ap, la.d⟩ : Lab) zeroL (bad_join EV.out).1 _ _ _ _ _ _ _ LA.out LB.out).mono ?_
      rintro e w13 ⟨av1, nv1, cv1, rfl, Lv1, Ov1, bq⟩
      replace HA := Lib.hid (blockOver bq HA.out)
      replace HB := Lib.hid (blockOver bq HB.out)
      replace LA := Lib.hid (LabAt.over bq LA.out)
      replace LB := Lib.hid (LabAt.over bq LB.out)
      replace bw := bel2 bw bq
      replace Lv1 := Lib.hid Lv1
      clear bq Ov1 haq0 haq1 haq2 haq3 hbq0 hbq1 hbq2 hbq3
      obtain ⟨haq0, haq1, haq2, haq3⟩ := cells4 HA.out
      obtain ⟨hbq0, hbq1, hbq2, hbq3⟩ := cells4 HB.out
      go_wp2_with fail
      refine (same_eq zeroL zeroL true (same_refl _) _ _ _ _ _ _ _ Lv1.out (zero_at _)).mono ?_
      rintro e w14 ⟨rfl, bq⟩
      replace HA := Lib.hid (blockOver bq HA.out)
      replace HB := Lib.hid (blockOver bq HB.out)
      replace LA := Lib.hid (LabAt.over bq LA.out)
      replace LB := Lib.hid (LabAt.over bq LB.out)
      replace bw := bel2 bw bq
      clear bq haq0 haq1 haq2 haq3 hbq0 hbq1 hbq2 hbq3
      obtain ⟨haq0, haq1, haq2, haq3⟩ := cells4 HA.out
      obtain ⟨hbq0, hbq1, hbq2, hbq3⟩ := cells4 HB.out
      go_wp2_with fail
      refine (join_eq (⟨la.u, [10, n], la.ap, la.d⟩ : Lab) la zeroL (bad_join EV.out).2.1 _ _ _ _ _ _ _ LB.out LA.out).mono ?_
      rintro e w15 ⟨av2, nv2, cv2, rfl, Lv2, Ov2, bq⟩
      replace HA := Lib.hid (blockOver bq HA.out)
      replace HB := Lib.hid (blockOver bq HB.out)
      replace LA := Lib.hid (LabAt.over bq LA.out)
      replace LB := Lib.hid (LabAt.over bq LB.out)
      replace bw := bel2 bw bq
      replace Lv2 := Lib.hid Lv2
      clear bq Ov2 haq0 haq1 haq2 haq3 hbq0 hbq1 hbq2 hbq3
      obtain ⟨haq0, haq1, haq2, haq3⟩ := cells4 HA.out
      obtain ⟨hbq0, hbq1, hbq2, hbq3⟩ := cells4 HB.out
      go_wp2_with fail
      refine (same_eq zeroL zeroL true (same_refl _) _ _ _ _ _ _ _ Lv2.out (zero_at _)).mono ?_
      rintro e w16 ⟨rfl, bq⟩
      replace HA := Lib.hid (blockOver bq HA.out)
      replace HB := Lib.hid (blockOver bq HB.out)
      replace LA := Lib.hid (LabAt.over bq LA.out)
      replace LB := Lib.hid (LabAt.over bq LB.out)
      replace bw := bel2 bw bq
      clear bq haq0 haq1 haq2 haq3 hbq0 hbq1 hbq2 hbq3
      obtain ⟨haq0, haq1, haq2, haq3⟩ := cells4 HA.out
      obtain ⟨hbq0, hbq1, hbq2, hbq3⟩ := cells4 HB.out
      go_wp2_with fail
      refine (leq_eq (⟨la.u, [10, n], la.ap, la.d⟩ : Lab) la false (bad_join EV.out).2.2.2 _ _ _ _ _ _ _ LB.out LA.out).mono ?_
      rintro e w17 ⟨rfl, bq⟩
      replace HA := Lib.hid (blockOver bq HA.out)
      replace HB := Lib.hid (blockOver bq HB.out)
      replace LA := Lib.hid (LabAt.over bq LA.out)
      replace LB := Lib.hid (LabAt.over bq LB.out)
      replace bw := bel2 bw bq
      clear bq haq0 haq1 haq2 haq3 hbq0 hbq1 hbq2 hbq3
      obtain ⟨haq0, haq1, haq2, haq3⟩ := cells4 HA.out
      obtain ⟨hbq0, hbq1, hbq2, hbq3⟩ := cells4 HB.out
      go_wp2_with fail
      refine (leq_eq la (⟨la.u, [10, n], la.ap, la.d⟩ : Lab) false (bad_join EV.out).2.2.1 _ _ _ _ _ _ _ LA.out LB.out).mono ?_
      rintro e w18 ⟨rfl, bq⟩
      replace HA := Lib.hid (blockOver bq HA.out)
      replace HB := Lib.hid (blockOver bq HB.out)
      replace LA := Lib.hid (LabAt.over bq LA.out)
      replace LB := Lib.hid (LabAt.over bq LB.out)
      replace bw := bel2 bw bq
      clear bq haq0 haq1 haq2 haq3 hbq0 hbq1 hbq2 hbq3
      obtain ⟨haq0, haq1, haq2, haq3⟩ := cells4 HA.out
      obtain ⟨hbq0, hbq1, hbq2, hbq3⟩ := cells4 HB.out
      go_wp2_with fail
      refine (leq_eq (⟨la.u, [10, n], la.ap, la.d⟩ : Lab) (⟨la.u, [10, n], la.ap, la.d⟩ : Lab) false (bad_join (m := (⟨la.u, [10, n], la.ap, la.d⟩ : Lab)) EV.out).2.2.1 _ _ _ _ _ _ _ LB.out LB.out).mono ?_
      rintro e w19 ⟨rfl, bq⟩
      replace HA := Lib.hid (blockOver bq HA.out)
      replace HB := Lib.hid (blockOver bq HB.out)
      replace LA := Lib.hid (LabAt.over bq LA.out)
      replace LB := Lib.hid (LabAt.over bq LB.out)
      replace bw := bel2 bw bq
      clear bq haq0 haq1 haq2 haq3 hbq0 hbq1 hbq2 hbq3
      obtain ⟨haq0, haq1, haq2, haq3⟩ := cells4 HA.out
      obtain ⟨hbq0, hbq1, hbq2, hbq3⟩ := cells4 HB.out
      go_wp2_with fail
      refine (allows_lit (⟨la.u, [10, n], la.ap, la.d⟩ : Lab) 0 1000000000 5 [n, 10] 2 false _ (bad_all EV.out _ _ _ _) (by unfold Bd; omega) (lit_two n 10 bn (by unfold Bd; omega)) _ _ _ _ _ (by first | rfl | simp) LB.out).mono ?_
      rintro e w20 ⟨rfl, bq⟩
      replace HA := Lib.hid (blockOver bq HA.out)
      replace HB := Lib.hid (blockOver bq HB.out)
      replace LA := Lib.hid (LabAt.over bq LA.out)
      replace LB := Lib.hid (LabAt.over bq LB.out)
      replace bw := bel2 bw bq
      clear bq haq0 haq1 haq2 haq3 hbq0 hbq1 hbq2 hbq3
      go_wp2
      go_ret
      exact ⟨rfl, bw⟩
end Go.Proofs.Ythpginepnleokaa
