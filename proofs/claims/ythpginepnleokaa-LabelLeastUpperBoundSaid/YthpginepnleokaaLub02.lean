/- LabelLeastUpperBound: the walk of the statement's text. -/
import Derived.Test.YthpginepnleokaaLabQ
import Derived.Deep.RegionHeld3
import Derived.RegionTactic
import Derived.Deep.CutRange
namespace Go.Proofs.Ythpginepnleokaa
open Go.RowKit
set_option linter.unusedSimpArgs false
set_option linter.unusedVariables false
set_option linter.unnecessarySimpa false
set_option maxRecDepth 100000 in
set_option maxHeartbeats 32000000 in
theorem lub_walk (x0 x1 x2 x3 y0 y1 y2 y3 z0 z1 z2 z3 : Int) (w : World) (hx : B4 x0 x1 x2 x3) (hy : B4 y0 y1 y2 y3) (hz : B4 z0 z1 z2 z3) :
    Calls Try.prog 7 #[.agg #[.int .i64 x0, .int .i64 x1, .int .i64 x2, .int .i64 x3], .agg #[.int .i64 y0, .int .i64 y1, .int .i64 y2, .int .i64 y3], .agg #[.int .i64 z0, .int .i64 z1, .int .i64 z2, .int .i64 z3]] w fun e w' => e = .returned (.bool true) ∧ Below w.heap.size w w' := by
  obtain ⟨la, _, okA, KA⟩ := make_eq _ _ _ _ hx
  obtain ⟨lb, _, okB, KB⟩ := make_eq _ _ _ _ hy
  obtain ⟨lc, _, okC, KC⟩ := make_eq _ _ _ _ hz
  obtain ⟨lj, hj⟩ : ∃ l, joinL la lb = l := ⟨_, rfl⟩
  obtain ⟨l1, h1⟩ : ∃ l, joinL la lc = l := ⟨_, rfl⟩
  obtain ⟨l2, h2⟩ : ∃ l, joinL lb lc = l := ⟨_, rfl⟩
  obtain ⟨l3, h3⟩ : ∃ l, joinL lj lc = l := ⟨_, rfl⟩
  have okJ := Lib.hid (show Ok lj by rw [← hj]; exact joinL_ok _ _)
  have ok1 := Lib.hid (show Ok l1 by rw [← h1]; exact joinL_ok _ _)
  have ok2 := Lib.hid (show Ok l2 by rw [← h2]; exact joinL_ok _ _)
  have ok3 := Lib.hid (show Ok l3 by rw [← h3]; exact joinL_ok _ _)
  have EL := Lib.hid (show ∀ l : Lab, Ok l → leqB lj l = (leqB la l && leqB lb l) by
    intro l hl
    rw [leqB_of okJ.out hl, leqB_of okA.out hl, leqB_of okB.out hl, ← hj, le_lub okA.out okB.out])
  have EU := Lib.hid (show leqB la lj = true ∧ leqB lb lj = true by
    rw [leqB_of okA.out okJ.out, leqB_of okB.out okJ.out, ← hj]; exact le_join okA.out okB.out)
  have EJ := Lib.hid hj
  have E1 := Lib.hid h1
  have E2 := Lib.hid h2
  have E3 := Lib.hid h3
  clear hj h1 h2 h3 hx hy hz
  obtain ⟨hX, hY, hZ, bw⟩ := three_allocs w (.cells #[.int .i64 x0, .int .i64 x1, .int .i64 x2, .int .i64 x3] 22) (.cells #[.int .i64 y0, .int .i64 y1, .int .i64 y2, .int .i64 y3] 22) (.cells #[.int .i64 z0, .int .i64 z1, .int .i64 z2, .int .i64 z3] 22)
  have HX := Lib.hid hX
  have HY := Lib.hid hY
  have HZ := Lib.hid hZ
  clear hX hY hZ
  go_enter Try.func7, Try.ntmps7
  obtain ⟨hxq0, hxq1, hxq2, hxq3⟩ := cells4 HX.out
  obtain ⟨hyq0, hyq1, hyq2, hyq3⟩ := cells4 HY.out
  obtain ⟨hzq0, hzq1, hzq2, hzq3⟩ := cells4 HZ.out
  go_wp2_with fail
  refine (sane_any _).mono ?_
  rintro e w1 ⟨rfl, bq⟩
  replace HX := Lib.hid (blockOver bq HX.out)
  replace HY := Lib.hid (blockOver bq HY.out)
  replace HZ := Lib.hid (blockOver bq HZ.out)
  replace bw := bel2 bw bq
  clear bq hxq0 hxq1 hxq2 hxq3 hyq0 hyq1 hyq2 hyq3 hzq0 hzq1 hzq2 hzq3
  obtain ⟨hxq0, hxq1, hxq2, hxq3⟩ := cells4 HX.out
  go_wp2_with fail
  refine (KA.out _).mono ?_
  rintro e w2 ⟨aA, nA, cA, rfl, LA, OA, bq⟩
  have HA := Lib.hid (heap_alloc_new w2 (.cells #[.int .i64 la.u, .slice aA nA cA, .int .i64 la.ap, .int .i64 la.d] 26))
  replace LA := Lib.hid (LA.over (below_alloc w2 (.cells #[.int .i64 la.u, .slice aA nA cA, .int .i64 la.ap, .int .i64 la.d] 26)))
  replace bq := bel2 bq (below_alloc w2 (.cells #[.int .i64 la.u, .slice aA nA cA, .int .i64 la.ap, .int .i64 la.d] 26))
  replace HX := Lib.hid (blockOver bq HX.out)
  replace HY := Lib.hid (blockOver bq HY.out)
  replace HZ := Lib.hid (blockOver bq HZ.out)
  replace bw := bel2 bw bq
  clear bq OA hxq0 hxq1 hxq2 hxq3
  obtain ⟨hyq0, hyq1, hyq2, hyq3⟩ := cells4 HY.out
  go_wp2_with fail
  refine (KB.out _).mono ?_
  rintro e w3 ⟨aB, nB, cB, rfl, LB, OB, bq⟩
  have HB := Lib.hid (heap_alloc_new w3 (.cells #[.int .i64 lb.u, .slice aB nB cB, .int .i64 lb.ap, .int .i64 lb.d] 26))
  replace LB := Lib.hid (LB.over (below_alloc w3 (.cells #[.int .i64 lb.u, .slice aB nB cB, .int .i64 lb.ap, .int .i64 lb.d] 26)))
  replace bq := bel2 bq (below_alloc w3 (.cells #[.int .i64 lb.u, .slice aB nB cB, .int .i64 lb.ap, .int .i64 lb.d] 26))
  replace HX := Lib.hid (blockOver bq HX.out)
  replace HY := Lib.hid (blockOver bq HY.out)
  replace HZ := Lib.hid (blockOver bq HZ.out)
  replace HA := Lib.hid (blockOver bq HA.out)
  replace LA := Lib.hid (LabAt.over bq LA.out)
  replace bw := bel2 bw bq
  clear bq OB hyq0 hyq1 hyq2 hyq3
  obtain ⟨hzq0, hzq1, hzq2, hzq3⟩ := cells4 HZ.out
  go_wp2_with fail
  refine (KC.out _).mono ?_
  rintro e w4 ⟨aC, nC, cC, rfl, LC, OC, bq⟩
  have HC := Lib.hid (heap_alloc_new w4 (.cells #[.int .i64 lc.u, .slice aC nC cC, .int .i64 lc.ap, .int .i64 lc.d] 26))
  replace LC := Lib.hid (LC.over (below_alloc w4 (.cells #[.int .i64 lc.u, .slice aC nC cC, .int .i64 lc.ap, .int .i64 lc.d] 26)))
  replace bq := bel2 bq (below_alloc w4 (.cells #[.int .i64 lc.u, .slice aC nC cC, .int .i64 lc.ap, .int .i64 lc.d] 26))
  replace HX := Lib.hid (blockOver bq HX.out)
  replace HY := Lib.hid (blockOver bq HY.out)
  replace HZ := Lib.hid (blockOver bq HZ.out)
  replace HA := Lib.hid (blockOver bq HA.out)
  replace HB := Lib.hid (blockOver bq HB.out)
  replace LA := Lib.hid (LabAt.over bq LA.out)
  replace LB := Lib.hid (LabAt.over bq LB.out)
  replace bw := bel2 bw bq
  clear bq OC hzq0 hzq1 hzq2 hzq3
  obtain ⟨haq0, haq1, haq2, haq3⟩ := cells4 HA.out
  obtain ⟨hbq0, hbq1, hbq2, hbq3⟩ := cells4 HB.out
  go_wp2_with fail
  refine (join_eq la lb lj EJ.out _ _ _ _ _ _ _ LA.out LB.out).mono ?_
  rintro e w5 ⟨aJ, nJ, cJ, rfl, LJ, OJ, bq⟩
  have HJ := Lib.hid (heap_alloc_new w5 (.cells #[.int .i64 lj.u, .slice aJ nJ cJ, .int .i64 lj.ap, .int .i64 lj.d] 26))
  replace LJ := Lib.hid (LJ.over (below_alloc w5 (.cells #[.int .i64 lj.u, .slice aJ nJ cJ, .int .i64 lj.ap, .int .i64 lj.d] 26)))
  replace bq := bel2 bq (below_alloc w5 (.cells #[.int .i64 lj.u, .slice aJ nJ cJ, .int .i64 lj.ap, .int .i64 lj.d] 26))
  replace HX := Lib.hid (blockOver bq HX.out)
  replace HY := Lib.hid (blockOver bq HY.out)
  replace HZ := Lib.hid (blockOver bq HZ.out)
  replace HA := Lib.hid (blockOver bq HA.out)
  replace HB := Lib.hid (blockOver bq HB.out)
  replace HC := Lib.hid (blockOver bq HC.out)
  replace LA := Lib.hid (LabAt.over bq LA.out)
  replace LB := Lib.hid (LabAt.over bq LB.out)
  replace LC := Lib.hid (LabAt.over bq LC.out)
  replace bw := bel2 bw bq
  clear bq OJ haq0 haq1 haq2 haq3 hbq0 hbq1 hbq2 hbq3
  obtain ⟨haq0, haq1, haq2, haq3⟩ := cells4 HA.out
  obtain ⟨hbq0, hbq1, hbq2, hbq3⟩ := cells4 HB.out
  obtain ⟨hcq0, hcq1, hcq2, hcq3⟩ := cells4 HC.out
  obtain ⟨hjq0, hjq1, hjq2, hjq3⟩ := cells4 HJ.out
  go_wp2_with fail
  go_cut [37, 38, 39] from 24 to 39 (fun s37 s38 s39 wr => ∃ (q : Nat) (es : List (Lab × Option Addr × Nat × Nat)), s37 = .slice (some ⟨q, 0, none⟩) 7 7 ∧ s38 = .int .i64 7 ∧ s39 = .int .i64 0 ∧ es.length = 7 ∧ (∀ e ∈ es, Ok e.1) ∧ ListAt wr q es ∧ Below (w5.alloc (.cells #[.int .i64 lj.u, .slice aJ nJ cJ, .int .i64 lj.ap, .int .i64 lj.d] 26)).heap.size (w5.alloc (.cells #[.int .i64 lj.u, .slice aJ nJ cJ, .int .i64 lj.ap, .int .i64 lj.d] 26)) wr)
  case first =>
    have bc := Below.refl (w5.alloc (.cells #[.int .i64 lj.u, .slice aJ nJ cJ, .int .i64 lj.ap, .int .i64 lj.d] 26)).heap.size (w5.alloc (.cells #[.int .i64 lj.u, .slice aJ nJ cJ, .int .i64 lj.ap, .int .i64 lj.d] 26))
    have ptok1 : True := trivial
    have ptok2 : True := trivial
    have ptok3 : True := trivial
    (first | go_region_held3 (fun w' => w'.cell? ⟨w2.heap.size, 0, none⟩ = some (.int .i64 la.u) ∧ w'.cell? ⟨w2.heap.size, 1, none⟩ = some (.slice aA nA cA) ∧ w'.cell? ⟨w2.heap.size, 2, none⟩ = some (.int .i64 la.ap) ∧ w'.cell? ⟨w2.heap.size, 3, none⟩ = some (.int .i64 la.d) ∧ w'.cell? ⟨w3.heap.size, 0, none⟩ = some (.int .i64 lb.u) ∧ w'.cell? ⟨w3.heap.size, 1, none⟩ = some (.slice aB nB cB) ∧ w'.cell? ⟨w3.heap.size, 2, none⟩ = some (.int .i64 lb.ap) ∧ w'.cell? ⟨w3.heap.size, 3, none⟩ = some (.int .i64 lb.d) ∧ w'.cell? ⟨w4.heap.size, 0, none⟩ = some (.int .i64 lc.u) ∧ w'.cell? ⟨w4.heap.size, 1, none⟩ = some (.slice aC nC cC) ∧ w'.cell? ⟨w4.heap.size, 2, none⟩ = some (.int .i64 lc.ap) ∧ w'.cell? ⟨w4.heap.size, 3, none⟩ = some (.int .i64 lc.d) ∧ w'.cell? ⟨w5.heap.size, 0, none⟩ = some (.int .i64 lj.u) ∧ w'.cell? ⟨w5.heap.size, 1, none⟩ = some (.slice aJ nJ cJ) ∧ w'.cell? ⟨w5.heap.size, 2, none⟩ = some (.int .i64 lj.ap) ∧ w'.cell? ⟨w5.heap.size, 3, none⟩ = some (.int .i64 lj.d) ∧ Below (w5.alloc (.cells #[.int .i64 lj.u, .slice aJ nJ cJ, .int .i64 lj.ap, .int .i64 lj.d] 26)).heap.size (w5.alloc (.cells #[.int .i64 lj.u, .slice aJ nJ cJ, .int .i64 lj.ap, .int .i64 lj.d] 26)) w') (first | (go_split_ands; exact ⟨cellOver bq (by assumption), cellOver bq (by assumption), cellOver bq (by assumption), cellOver bq (by assumption), cellOver bq (by assumption), cellOver bq (by assumption), cellOver bq (by assumption), cellOver bq (by assumption), cellOver bq (by assumption), cellOver bq (by assumption), cellOver bq (by assumption), cellOver bq (by assumption), cellOver bq (by assumption), cellOver bq (by assumption), cellOver bq (by assumption), cellOver bq (by assumption), bel2 (by assumption) bq⟩) | exact ⟨haq0, haq1, haq2, haq3, hbq0, hbq1, hbq2, hbq3, hcq0, hcq1, hcq2, hcq3, hjq0, hjq1, hjq2, hjq3, bc.drew⟩ | (go_split_ands; exact ⟨cellOver (below_alloc _ _) (by assumption), cellOver (below_alloc _ _) (by assumption), cellOver (below_alloc _ _) (by assumption), cellOver (below_alloc _ _) (by assumption), cellOver (below_alloc _ _) (by assumption), cellOver (below_alloc _ _) (by assumption), cellOver (below_alloc _ _) (by assumption), cellOver (below_alloc _ _) (by assumption), cellOver (below_alloc _ _) (by assumption), cellOver (below_alloc _ _) (by assumption), cellOver (below_alloc _ _) (by assumption), cellOver (below_alloc _ _) (by assumption), cellOver (below_alloc _ _) (by assumption), cellOver (below_alloc _ _) (by assumption), cellOver (below_alloc _ _) (by assumption), cellOver (below_alloc _ _) (by assumption), bel2 (by assumption) (below_alloc _ _)⟩)) (first | (have _t := ptok1; go_at_call 22; go_split_ands; refine (join_eq la lc l1 E1.out _ _ _ _ _ _ _ (LabAt.over (by assumption) LA.out) (LabAt.over (by assumption) LC.out)).mono ?_; rintro e wq ⟨av1, nv1, cv1, rfl, Lv1, Ov1, bq⟩; clear Ov1; clear ptok1 _t) | (have _t := ptok2; go_at_call 22; go_split_ands; refine (join_eq lb lc l2 E2.out _ _ _ _ _ _ _ (LabAt.over (by assumption) LB.out) (LabAt.over (by assumption) LC.out)).mono ?_; rintro e wq ⟨av2, nv2, cv2, rfl, Lv2, Ov2, bq⟩; clear Ov2; replace Lv1 := Lv1.over bq; clear ptok2 _t) | (have _t := ptok3; go_at_call 22; go_split_ands; refine (join_eq lj lc l3 E3.out _ _ _ _ _ _ _ (LabAt.over (by assumption) LJ.out) (LabAt.over (by assumption) LC.out)).mono ?_; rintro e wq ⟨av3, nv3, cv3, rfl, Lv3, Ov3, bq⟩; clear Ov3; replace Lv1 := Lv1.over bq; replace Lv2 := Lv2.over bq; obtain ⟨wz, hwz⟩ : ∃ wz : World, wz = wq := ⟨_, rfl⟩; subst hwz; clear ptok3 _t)) | fail)
    go_split_ands
    have bz : Below (w5.alloc (.cells #[.int .i64 lj.u, .slice aJ nJ cJ, .int .i64 lj.ap, .int .i64 lj.d] 26)).heap.size (w5.alloc (.cells #[.int .i64 lj.u, .slice aJ nJ cJ, .int .i64 lj.ap, .int .i64 lj.d] 26)) (wz.alloc (.cells (([(lc, aC, nC, cC), (l1, av1, nv1, cv1), (l2, av2, nv2, cv2), (l3, av3, nv3, cv3), (lj, aJ, nJ, cJ), (la, aA, nA, cA), (lb, aB, nB, cB)] : List (Lab × Option Addr × Nat × Nat)).flatMap elCells).toArray 26)) := by assumption
    go_wp2_with fail
    go_meet
    refine ⟨wz.heap.size, [(lc, aC, nC, cC), (l1, av1, nv1, cv1), (l2, av2, nv2, cv2), (l3, av3, nv3, cv3), (lj, aJ, nJ, cJ), (la, aA, nA, cA), (lb, aB, nB, cB)], rfl, rfl, rfl, rfl, ?_, ⟨heap_alloc_new wz _, ?_⟩, bz⟩
    · intro e he
      simp only [List.mem_cons, List.not_mem_nil, or_false] at he
      rcases he with rfl | rfl | rfl | rfl | rfl | rfl | rfl
      · exact okC.out
      · exact ok1.out
      · exact ok2.out
      · exact ok3.out
      · exact okJ.out
      · exact okA.out
      · exact okB.out
    · intro e he
      simp only [List.mem_cons, List.not_mem_nil, or_false] at he
      rcases he with rfl | rfl | rfl | rfl | rfl | rfl | rfl
      · exact (LabAt.over bz LC.out)
      · exact Lv1.over (below_alloc _ _)
      · exact Lv2.over (below_alloc _ _)
      · exact Lv3.over (below_alloc _ _)
      · exact (LabAt.over bz LJ.out)
      · exact (LabAt.over bz LA.out)
      · exact (LabAt.over bz LB.out)
  case rest =>
    obtain ⟨q, es, rfl, rfl, rfl, hl, hok, hlist, bq⟩ := hcut
    replace HA := Lib.hid (blockOver bq HA.out)
    replace HB := Lib.hid (blockOver bq HB.out)
    replace HJ := Lib.hid (blockOver bq HJ.out)
    replace LA := Lib.hid (LA.out.over bq)
    replace LB := Lib.hid (LB.out.over bq)
    replace LJ := Lib.hid (LJ.out.over bq)
    replace bw := bel2 bw bq
    have HLI := Lib.hid hlist
    have HOK := Lib.hid hok
    have HL := Lib.hid hl
    clear bq hlist hok hl
    clear haq0 haq1 haq2 haq3 hbq0 hbq1 hbq2 hbq3 hcq0 hcq1 hcq2 hcq3 hjq0 hjq1 hjq2 hjq3
    go_wp2_with fail
    go_loopw [39, 7, 13] (fun i ok _ wr => ∃ k : Nat, k ≤ 7 ∧ i = .int .i64 k ∧ ok = .bool true ∧ Below wc.heap.size wc wr) (fun i _ _ _ => 7 - (intOf i).toNat)
    case atStart => exact ⟨0, by omega, rfl, rfl, Below.refl _ _⟩
    case round =>
      obtain ⟨k, hk, rfl, rfl, br⟩ := hrel
      by_cases hlt : k < 7
      · obtain ⟨l, a, n, c, hm, t0, t1, t2, t3, LL⟩ := (HLI.out.over br).at_ (k := k) (by rw [HL.out]; exact hlt)
        have okL := HOK.out _ hm
        have hE := EL.out l okL
        have ob : Below wr.heap.size wr (wr.alloc (.cells #[.int .i64 l.u, .slice a n c, .int .i64 l.ap, .int .i64 l.d] 26)) := below_alloc _ _
        have ba := bel2 br ob
        have HLL := Lib.hid (heap_alloc_new wr (.cells #[.int .i64 l.u, .slice a n c, .int .i64 l.ap, .int .i64 l.d] 26))
        replace LL := Lib.hid (LL.over ob)
        obtain ⟨s0, s1, s2, s3⟩ := cells4 HLL.out
        obtain ⟨p0, p1, p2, p3⟩ := cells4 (blockOver ba HA.out)
        obtain ⟨q0, q1, q2, q3⟩ := cells4 (blockOver ba HB.out)
        obtain ⟨r0, r1, r2, r3⟩ := cells4 (blockOver ba HJ.out)
        have kk0 : (0 : Int) ≤ k := by omega
        have kk7 : (k : Int) < 7 := by omega
        clear hm okL ob
        have LA1 := Lib.hid (LA.out.over ba)
        have LB1 := Lib.hid (LB.out.over ba)
        have LJ1 := Lib.hid (LJ.out.over ba)
        clear HLI HOK HL okA okB okC okJ ok1 ok2 ok3
        cases e1 : leqB la l
        · rw [e1] at hE
          have F0 := Lib.hid e1
          have F1 := Lib.hid hE
          clear e1 hE
          go_wp2_with fail
          have bc := Below.refl (wr.alloc (.cells #[.int .i64 l.u, .slice a n c, .int .i64 l.ap, .int .i64 l.d] 26)).heap.size (wr.alloc (.cells #[.int .i64 l.u, .slice a n c, .int .i64 l.ap, .int .i64 l.d] 26))
          refine wp_region_held_drew (S := fun w' => Below (wr.alloc (.cells #[.int .i64 l.u, .slice a n c, .int .i64 l.ap, .int .i64 l.d] 26)).heap.size (wr.alloc (.cells #[.int .i64 l.u, .slice a n c, .int .i64 l.ap, .int .i64 l.d] 26)) w' ∧ w'.cell? ⟨w2.heap.size, 0, none⟩ = some (.int .i64 la.u) ∧ w'.cell? ⟨w2.heap.size, 1, none⟩ = some (.slice aA nA cA) ∧ w'.cell? ⟨w2.heap.size, 2, none⟩ = some (.int .i64 la.ap) ∧ w'.cell? ⟨w2.heap.size, 3, none⟩ = some (.int .i64 la.d) ∧ w'.cell? ⟨w3.heap.size, 0, none⟩ = some (.int .i64 lb.u) ∧ w'.cell? ⟨w3.heap.size, 1, none⟩ = some (.slice aB nB cB) ∧ w'.cell? ⟨w3.heap.size, 2, none⟩ = some (.int .i64 lb.ap) ∧ w'.cell? ⟨w3.heap.size, 3, none⟩ = some (.int .i64 lb.d) ∧ w'.cell? ⟨w5.heap.size, 0, none⟩ = some (.int .i64 lj.u) ∧ w'.cell? ⟨w5.heap.size, 1, none⟩ = some (.slice aJ nJ cJ) ∧ w'.cell? ⟨w5.heap.size, 2, none⟩ = some (.int .i64 lj.ap) ∧ w'.cell? ⟨w5.heap.size, 3, none⟩ = some (.int .i64 lj.d) ∧ w'.cell? ⟨wr.heap.size, 0, none⟩ = some (.int .i64 l.u) ∧ w'.cell? ⟨wr.heap.size, 1, none⟩ = some (.slice a n c) ∧ w'.cell? ⟨wr.heap.size, 2, none⟩ = some (.int .i64 l.ap) ∧ w'.cell? ⟨wr.heap.size, 3, none⟩ = some (.int .i64 l.d)) (by kernel_rfl) ?_ (fun h0 => ?_)
          · exact ⟨bc.drew, p0, p1, p2, p3, q0, q1, q2, q3, r0, r1, r2, r3, s0, s1, s2, s3⟩
          refine wpAnyH_take (i := 0) (v := ?_) rfl (by kernel_rfl) (by kernel_rfl) (by kernel_rfl) (fun _ _ _ h => h) (Or.inl ⟨by rfl, ?_⟩) h0 ?_
          rotate_left
          · (intro w hSw; (try dsimp only at hSw); go_simp); all_goals (with_reducible rfl)
          try simp only [Act.put, List.setIfInBounds_toArray, List.set_cons_zero, List.set_cons_succ]
          refine wpAnyH_take (i := 1) (v := ?_) rfl (by kernel_rfl) (by kernel_rfl) (by kernel_rfl) (fun _ _ _ h => h) (Or.inl ⟨by rfl, ?_⟩) h0 ?_
          rotate_left
          · (intro w hSw; (try dsimp only at hSw); go_simp); all_goals (with_reducible rfl)
          try simp only [Act.put, List.setIfInBounds_toArray, List.set_cons_zero, List.set_cons_succ]
          refine wpAnyH_take (i := 2) (v := ?_) rfl (by kernel_rfl) (by kernel_rfl) (by kernel_rfl) (fun _ _ _ h => h) (Or.inl ⟨by rfl, ?_⟩) h0 ?_
          rotate_left
          · (intro w hSw; (try dsimp only at hSw); go_simp); all_goals (with_reducible rfl)
          try simp only [Act.put, List.setIfInBounds_toArray, List.set_cons_zero, List.set_cons_succ]
          refine wpAnyH_take (i := 3) (v := ?_) rfl (by kernel_rfl) (by kernel_rfl) (by kernel_rfl) (fun _ _ _ h => h) (Or.inl ⟨by rfl, ?_⟩) h0 ?_
          rotate_left
          · (intro w hSw; (try dsimp only at hSw); go_simp); all_goals (with_reducible rfl)
          try simp only [Act.put, List.setIfInBounds_toArray, List.set_cons_zero, List.set_cons_succ]
          refine wpAnyH_take (i := 5) (v := ?_) rfl (by kernel_rfl) (by kernel_rfl) (by kernel_rfl) (fun _ _ _ h => h) (Or.inl ⟨by rfl, ?_⟩) h0 ?_
          rotate_left
          · (intro w hSw; (try dsimp only at hSw); go_simp); all_goals (with_reducible rfl)
          try simp only [Act.put, List.setIfInBounds_toArray, List.set_cons_zero, List.set_cons_succ]
          refine wpAnyH_take (i := 6) (v := ?_) rfl (by kernel_rfl) (by kernel_rfl) (by kernel_rfl) (fun _ _ _ h => h) (Or.inl ⟨by rfl, ?_⟩) h0 ?_
          rotate_left
          · (intro w hSw; (try dsimp only at hSw); go_simp); all_goals (with_reducible rfl)
          try simp only [Act.put, List.setIfInBounds_toArray, List.set_cons_zero, List.set_cons_succ]
          refine wpAnyH_ready (rs := [4]) (by kernel_rfl) (by simp) ?_
          refine AllReadyH.cons rfl (fun K hK => ?_) AllReadyH.nil
          go_simp
          go_at_call 20
          refine (leq_eq lj l false (by rw [F1.out]; rfl) _ _ _ _ _ _ _ (LabAt.over h0.1 LJ1.out) (LabAt.over h0.1 LL.out)).mono ?_
          rintro e wq0 ⟨rfl, bq⟩
          go_wp2_with fail
          refine hK.out _ _ ?_ (fun h1 => ?_)
          · exact ⟨bel2 h0.1 bq, cellOver bq h0.2.1, cellOver bq h0.2.2.1, cellOver bq h0.2.2.2.1, cellOver bq h0.2.2.2.2.1, cellOver bq h0.2.2.2.2.2.1, cellOver bq h0.2.2.2.2.2.2.1, cellOver bq h0.2.2.2.2.2.2.2.1, cellOver bq h0.2.2.2.2.2.2.2.2.1, cellOver bq h0.2.2.2.2.2.2.2.2.2.1, cellOver bq h0.2.2.2.2.2.2.2.2.2.2.1, cellOver bq h0.2.2.2.2.2.2.2.2.2.2.2.1, cellOver bq h0.2.2.2.2.2.2.2.2.2.2.2.2.1, cellOver bq h0.2.2.2.2.2.2.2.2.2.2.2.2.2.1, cellOver bq h0.2.2.2.2.2.2.2.2.2.2.2.2.2.2.1, cellOver bq h0.2.2.2.2.2.2.2.2.2.2.2.2.2.2.2.1, cellOver bq h0.2.2.2.2.2.2.2.2.2.2.2.2.2.2.2.2⟩
          clear hK K h0 bq
          try simp only [Act.put, List.setIfInBounds_toArray, List.set_cons_zero, List.set_cons_succ]
          refine wpAnyH_ready (rs := [7]) (by kernel_rfl) (by simp) ?_
          refine AllReadyH.cons rfl (fun K hK => ?_) AllReadyH.nil
          go_simp
          go_at_call 20
          refine (leq_eq la l false F0.out _ _ _ _ _ _ _ (LabAt.over h1.1 LA1.out) (LabAt.over h1.1 LL.out)).mono ?_
          rintro e wq1 ⟨rfl, bq⟩
          go_wp2_with fail
          refine hK.out _ _ ?_ (fun h2 => ?_)
          · exact ⟨bel2 h1.1 bq, cellOver bq h1.2.1, cellOver bq h1.2.2.1, cellOver bq h1.2.2.2.1, cellOver bq h1.2.2.2.2.1, cellOver bq h1.2.2.2.2.2.1, cellOver bq h1.2.2.2.2.2.2.1, cellOver bq h1.2.2.2.2.2.2.2.1, cellOver bq h1.2.2.2.2.2.2.2.2.1, cellOver bq h1.2.2.2.2.2.2.2.2.2.1, cellOver bq h1.2.2.2.2.2.2.2.2.2.2.1, cellOver bq h1.2.2.2.2.2.2.2.2.2.2.2.1, cellOver bq h1.2.2.2.2.2.2.2.2.2.2.2.2.1, cellOver bq h1.2.2.2.2.2.2.2.2.2.2.2.2.2.1, cellOver bq h1.2.2.2.2.2.2.2.2.2.2.2.2.2.2.1, cellOver bq h1.2.2.2.2.2.2.2.2.2.2.2.2.2.2.2.1, cellOver bq h1.2.2.2.2.2.2.2.2.2.2.2.2.2.2.2.2⟩
          clear hK K h1 bq
          try simp only [Act.put, List.setIfInBounds_toArray, List.set_cons_zero, List.set_cons_succ]
          refine wpAnyH_take (i := 8) (v := ?_) rfl (by kernel_rfl) (by kernel_rfl) (by kernel_rfl) (fun _ _ _ h => h) (Or.inl ⟨by rfl, ?_⟩) h2 ?_
          rotate_left
          · (intro w hSw; (try dsimp only at hSw); go_simp); all_goals (with_reducible rfl)
          try simp only [Act.put, List.setIfInBounds_toArray, List.set_cons_zero, List.set_cons_succ]
          refine wpAnyH_take (i := 9) (v := undef) rfl (by kernel_rfl) (by kernel_rfl) (by kernel_rfl) (fun _ _ _ h => h) (Or.inr ⟨by rfl, rfl⟩) h2 ?_
          try simp only [Act.put, List.setIfInBounds_toArray, List.set_cons_zero, List.set_cons_succ]
          refine wpAnyH_take (i := 10) (v := undef) rfl (by kernel_rfl) (by kernel_rfl) (by kernel_rfl) (fun _ _ _ h => h) (Or.inr ⟨by rfl, rfl⟩) h2 ?_
          try simp only [Act.put, List.setIfInBounds_toArray, List.set_cons_zero, List.set_cons_succ]
          refine wpAnyH_take (i := 11) (v := undef) rfl (by kernel_rfl) (by kernel_rfl) (by kernel_rfl) (fun _ _ _ h => h) (Or.inr ⟨by rfl, rfl⟩) h2 ?_
          try simp only [Act.put, List.setIfInBounds_toArray, List.set_cons_zero, List.set_cons_succ]
          refine wpAnyH_take (i := 12) (v := ?_) rfl (by kernel_rfl) (by kernel_rfl) (by kernel_rfl) (fun _ _ _ h => h) (Or.inl ⟨by rfl, ?_⟩) h2 ?_
          rotate_left
          · (intro w hSw; (try dsimp only at hSw); go_simp); all_goals (with_reducible rfl)
          try simp only [Act.put, List.setIfInBounds_toArray, List.set_cons_zero, List.set_cons_succ]
          refine wpAnyH_take (i := 13) (v := ?_) rfl (by kernel_rfl) (by kernel_rfl) (by kernel_rfl) (fun _ _ _ h => h) (Or.inl ⟨by rfl, ?_⟩) h2 ?_
          rotate_left
          · (intro w hSw; (try dsimp only at hSw); go_simp); all_goals (with_reducible rfl)
          try simp only [Act.put, List.setIfInBounds_toArray, List.set_cons_zero, List.set_cons_succ]
          refine wpAnyH_take (i := 14) (v := ?_) rfl (by kernel_rfl) (by kernel_rfl) (by kernel_rfl) (fun _ _ _ h => h) (Or.inl ⟨by rfl, ?_⟩) h2 ?_
          rotate_left
          · (intro w hSw; (try dsimp only at hSw); go_simp); all_goals (with_reducible rfl)
          try simp only [Act.put, List.setIfInBounds_toArray, List.set_cons_zero, List.set_cons_succ]
          refine wpAnyH_take (i := 15) (v := ?_) rfl (by kernel_rfl) (by kernel_rfl) (by kernel_rfl) (fun _ _ _ h => h) (Or.inl ⟨by rfl, ?_⟩) h2 ?_
          rotate_left
          · (intro w hSw; (try dsimp only at hSw); go_simp); all_goals (with_reducible rfl)
          try simp only [Act.put, List.setIfInBounds_toArray, List.set_cons_zero, List.set_cons_succ]
          refine wpAnyH_done (by kernel_rfl) ?_ _
          have bz := bel2 ba h2.1
          go_wp2
          exact ⟨⟨k + 1, by omega, by go_num, rfl, bz⟩, by simp [intOf]; omega⟩
        · rw [e1] at hE
          cases e2 : leqB lb l
          · rw [e2] at hE
            have F0 := Lib.hid e1
            have F1 := Lib.hid hE
            have F2 := Lib.hid e2
            clear e1 e2 hE
            go_wp2_with fail
            have bc := Below.refl (wr.alloc (.cells #[.int .i64 l.u, .slice a n c, .int .i64 l.ap, .int .i64 l.d] 26)).heap.size (wr.alloc (.cells #[.int .i64 l.u, .slice a n c, .int .i64 l.ap, .int .i64 l.d] 26))
            refine wp_region_held_drew (S := fun w' => Below (wr.alloc (.cells #[.int .i64 l.u, .slice a n c, .int .i64 l.ap, .int .i64 l.d] 26)).heap.size (wr.alloc (.cells #[.int .i64 l.u, .slice a n c, .int .i64 l.ap, .int .i64 l.d] 26)) w' ∧ w'.cell? ⟨w2.heap.size, 0, none⟩ = some (.int .i64 la.u) ∧ w'.cell? ⟨w2.heap.size, 1, none⟩ = some (.slice aA nA cA) ∧ w'.cell? ⟨w2.heap.size, 2, none⟩ = some (.int .i64 la.ap) ∧ w'.cell? ⟨w2.heap.size, 3, none⟩ = some (.int .i64 la.d) ∧ w'.cell? ⟨w3.heap.size, 0, none⟩ = some (.int .i64 lb.u) ∧ w'.cell? ⟨w3.heap.size, 1, none⟩ = some (.slice aB nB cB) ∧ w'.cell? ⟨w3.heap.size, 2, none⟩ = some (.int .i64 lb.ap) ∧ w'.cell? ⟨w3.heap.size, 3, none⟩ = some (.int .i64 lb.d) ∧ w'.cell? ⟨w5.heap.size, 0, none⟩ = some (.int .i64 lj.u) ∧ w'.cell? ⟨w5.heap.size, 1, none⟩ = some (.slice aJ nJ cJ) ∧ w'.cell? ⟨w5.heap.size, 2, none⟩ = some (.int .i64 lj.ap) ∧ w'.cell? ⟨w5.heap.size, 3, none⟩ = some (.int .i64 lj.d) ∧ w'.cell? ⟨wr.heap.size, 0, none⟩ = some (.int .i64 l.u) ∧ w'.cell? ⟨wr.heap.size, 1, none⟩ = some (.slice a n c) ∧ w'.cell? ⟨wr.heap.size, 2, none⟩ = some (.int .i64 l.ap) ∧ w'.cell? ⟨wr.heap.size, 3, none⟩ = some (.int .i64 l.d)) (by kernel_rfl) ?_ (fun h0 => ?_)
            · exact ⟨bc.drew, p0, p1, p2, p3, q0, q1, q2, q3, r0, r1, r2, r3, s0, s1, s2, s3⟩
            refine wpAnyH_take (i := 0) (v := ?_) rfl (by kernel_rfl) (by kernel_rfl) (by kernel_rfl) (fun _ _ _ h => h) (Or.inl ⟨by rfl, ?_⟩) h0 ?_
            rotate_left
            · (intro w hSw; (try dsimp only at hSw); go_simp); all_goals (with_reducible rfl)
            try simp only [Act.put, List.setIfInBounds_toArray, List.set_cons_zero, List.set_cons_succ]
            refine wpAnyH_take (i := 1) (v := ?_) rfl (by kernel_rfl) (by kernel_rfl) (by kernel_rfl) (fun _ _ _ h => h) (Or.inl ⟨by rfl, ?_⟩) h0 ?_
            rotate_left
            · (intro w hSw; (try dsimp only at hSw); go_simp); all_goals (with_reducible rfl)
            try simp only [Act.put, List.setIfInBounds_toArray, List.set_cons_zero, List.set_cons_succ]
            refine wpAnyH_take (i := 2) (v := ?_) rfl (by kernel_rfl) (by kernel_rfl) (by kernel_rfl) (fun _ _ _ h => h) (Or.inl ⟨by rfl, ?_⟩) h0 ?_
            rotate_left
            · (intro w hSw; (try dsimp only at hSw); go_simp); all_goals (with_reducible rfl)
            try simp only [Act.put, List.setIfInBounds_toArray, List.set_cons_zero, List.set_cons_succ]
            refine wpAnyH_take (i := 3) (v := ?_) rfl (by kernel_rfl) (by kernel_rfl) (by kernel_rfl) (fun _ _ _ h => h) (Or.inl ⟨by rfl, ?_⟩) h0 ?_
            rotate_left
            · (intro w hSw; (try dsimp only at hSw); go_simp); all_goals (with_reducible rfl)
            try simp only [Act.put, List.setIfInBounds_toArray, List.set_cons_zero, List.set_cons_succ]
            refine wpAnyH_take (i := 5) (v := ?_) rfl (by kernel_rfl) (by kernel_rfl) (by kernel_rfl) (fun _ _ _ h => h) (Or.inl ⟨by rfl, ?_⟩) h0 ?_
            rotate_left
            · (intro w hSw; (try dsimp only at hSw); go_simp); all_goals (with_reducible rfl)
            try simp only [Act.put, List.setIfInBounds_toArray, List.set_cons_zero, List.set_cons_succ]
            refine wpAnyH_take (i := 6) (v := ?_) rfl (by kernel_rfl) (by kernel_rfl) (by kernel_rfl) (fun _ _ _ h => h) (Or.inl ⟨by rfl, ?_⟩) h0 ?_
            rotate_left
            · (intro w hSw; (try dsimp only at hSw); go_simp); all_goals (with_reducible rfl)
            try simp only [Act.put, List.setIfInBounds_toArray, List.set_cons_zero, List.set_cons_succ]
            refine wpAnyH_ready (rs := [4]) (by kernel_rfl) (by simp) ?_
            refine AllReadyH.cons rfl (fun K hK => ?_) AllReadyH.nil
            go_simp
            go_at_call 20
            refine (leq_eq lj l false (by rw [F1.out]; rfl) _ _ _ _ _ _ _ (LabAt.over h0.1 LJ1.out) (LabAt.over h0.1 LL.out)).mono ?_
            rintro e wq0 ⟨rfl, bq⟩
            go_wp2_with fail
            refine hK.out _ _ ?_ (fun h1 => ?_)
            · exact ⟨bel2 h0.1 bq, cellOver bq h0.2.1, cellOver bq h0.2.2.1, cellOver bq h0.2.2.2.1, cellOver bq h0.2.2.2.2.1, cellOver bq h0.2.2.2.2.2.1, cellOver bq h0.2.2.2.2.2.2.1, cellOver bq h0.2.2.2.2.2.2.2.1, cellOver bq h0.2.2.2.2.2.2.2.2.1, cellOver bq h0.2.2.2.2.2.2.2.2.2.1, cellOver bq h0.2.2.2.2.2.2.2.2.2.2.1, cellOver bq h0.2.2.2.2.2.2.2.2.2.2.2.1, cellOver bq h0.2.2.2.2.2.2.2.2.2.2.2.2.1, cellOver bq h0.2.2.2.2.2.2.2.2.2.2.2.2.2.1, cellOver bq h0.2.2.2.2.2.2.2.2.2.2.2.2.2.2.1, cellOver bq h0.2.2.2.2.2.2.2.2.2.2.2.2.2.2.2.1, cellOver bq h0.2.2.2.2.2.2.2.2.2.2.2.2.2.2.2.2⟩
            clear hK K h0 bq
            try simp only [Act.put, List.setIfInBounds_toArray, List.set_cons_zero, List.set_cons_succ]
            refine wpAnyH_ready (rs := [7]) (by kernel_rfl) (by simp) ?_
            refine AllReadyH.cons rfl (fun K hK => ?_) AllReadyH.nil
            go_simp
            go_at_call 20
            refine (leq_eq la l true F0.out _ _ _ _ _ _ _ (LabAt.over h1.1 LA1.out) (LabAt.over h1.1 LL.out)).mono ?_
            rintro e wq1 ⟨rfl, bq⟩
            go_wp2_with fail
            refine hK.out _ _ ?_ (fun h2 => ?_)
            · exact ⟨bel2 h1.1 bq, cellOver bq h1.2.1, cellOver bq h1.2.2.1, cellOver bq h1.2.2.2.1, cellOver bq h1.2.2.2.2.1, cellOver bq h1.2.2.2.2.2.1, cellOver bq h1.2.2.2.2.2.2.1, cellOver bq h1.2.2.2.2.2.2.2.1, cellOver bq h1.2.2.2.2.2.2.2.2.1, cellOver bq h1.2.2.2.2.2.2.2.2.2.1, cellOver bq h1.2.2.2.2.2.2.2.2.2.2.1, cellOver bq h1.2.2.2.2.2.2.2.2.2.2.2.1, cellOver bq h1.2.2.2.2.2.2.2.2.2.2.2.2.1, cellOver bq h1.2.2.2.2.2.2.2.2.2.2.2.2.2.1, cellOver bq h1.2.2.2.2.2.2.2.2.2.2.2.2.2.2.1, cellOver bq h1.2.2.2.2.2.2.2.2.2.2.2.2.2.2.2.1, cellOver bq h1.2.2.2.2.2.2.2.2.2.2.2.2.2.2.2.2⟩
            clear hK K h1 bq
            try simp only [Act.put, List.setIfInBounds_toArray, List.set_cons_zero, List.set_cons_succ]
            refine wpAnyH_take (i := 8) (v := ?_) rfl (by kernel_rfl) (by kernel_rfl) (by kernel_rfl) (fun _ _ _ h => h) (Or.inl ⟨by rfl, ?_⟩) h2 ?_
            rotate_left
            · (intro w hSw; (try dsimp only at hSw); go_simp); all_goals (with_reducible rfl)
            try simp only [Act.put, List.setIfInBounds_toArray, List.set_cons_zero, List.set_cons_succ]
            refine wpAnyH_take (i := 9) (v := ?_) rfl (by kernel_rfl) (by kernel_rfl) (by kernel_rfl) (fun _ _ _ h => h) (Or.inl ⟨by rfl, ?_⟩) h2 ?_
            rotate_left
            · (intro w hSw; (try dsimp only at hSw); go_simp); all_goals (with_reducible rfl)
            try simp only [Act.put, List.setIfInBounds_toArray, List.set_cons_zero, List.set_cons_succ]
            refine wpAnyH_take (i := 10) (v := ?_) rfl (by kernel_rfl) (by kernel_rfl) (by kernel_rfl) (fun _ _ _ h => h) (Or.inl ⟨by rfl, ?_⟩) h2 ?_
            rotate_left
            · (intro w hSw; (try dsimp only at hSw); go_simp); all_goals (with_reducible rfl)
            try simp only [Act.put, List.setIfInBounds_toArray, List.set_cons_zero, List.set_cons_succ]
            refine wpAnyH_ready (rs := [11]) (by kernel_rfl) (by simp) ?_
            refine AllReadyH.cons rfl (fun K hK => ?_) AllReadyH.nil
            go_simp
            go_at_call 20
            refine (leq_eq lb l false F2.out _ _ _ _ _ _ _ (LabAt.over h2.1 LB1.out) (LabAt.over h2.1 LL.out)).mono ?_
            rintro e wq2 ⟨rfl, bq⟩
            go_wp2_with fail
            refine hK.out _ _ ?_ (fun h3 => ?_)
            · exact ⟨bel2 h2.1 bq, cellOver bq h2.2.1, cellOver bq h2.2.2.1, cellOver bq h2.2.2.2.1, cellOver bq h2.2.2.2.2.1, cellOver bq h2.2.2.2.2.2.1, cellOver bq h2.2.2.2.2.2.2.1, cellOver bq h2.2.2.2.2.2.2.2.1, cellOver bq h2.2.2.2.2.2.2.2.2.1, cellOver bq h2.2.2.2.2.2.2.2.2.2.1, cellOver bq h2.2.2.2.2.2.2.2.2.2.2.1, cellOver bq h2.2.2.2.2.2.2.2.2.2.2.2.1, cellOver bq h2.2.2.2.2.2.2.2.2.2.2.2.2.1, cellOver bq h2.2.2.2.2.2.2.2.2.2.2.2.2.2.1, cellOver bq h2.2.2.2.2.2.2.2.2.2.2.2.2.2.2.1, cellOver bq h2.2.2.2.2.2.2.2.2.2.2.2.2.2.2.2.1, cellOver bq h2.2.2.2.2.2.2.2.2.2.2.2.2.2.2.2.2⟩
            clear hK K h2 bq
            try simp only [Act.put, List.setIfInBounds_toArray, List.set_cons_zero, List.set_cons_succ]
            refine wpAnyH_take (i := 12) (v := ?_) rfl (by kernel_rfl) (by kernel_rfl) (by kernel_rfl) (fun _ _ _ h => h) (Or.inl ⟨by rfl, ?_⟩) h3 ?_
            rotate_left
            · (intro w hSw; (try dsimp only at hSw); go_simp); all_goals (with_reducible rfl)
            try simp only [Act.put, List.setIfInBounds_toArray, List.set_cons_zero, List.set_cons_succ]
            refine wpAnyH_take (i := 13) (v := ?_) rfl (by kernel_rfl) (by kernel_rfl) (by kernel_rfl) (fun _ _ _ h => h) (Or.inl ⟨by rfl, ?_⟩) h3 ?_
            rotate_left
            · (intro w hSw; (try dsimp only at hSw); go_simp); all_goals (with_reducible rfl)
            try simp only [Act.put, List.setIfInBounds_toArray, List.set_cons_zero, List.set_cons_succ]
            refine wpAnyH_take (i := 14) (v := ?_) rfl (by kernel_rfl) (by kernel_rfl) (by kernel_rfl) (fun _ _ _ h => h) (Or.inl ⟨by rfl, ?_⟩) h3 ?_
            rotate_left
            · (intro w hSw; (try dsimp only at hSw); go_simp); all_goals (with_reducible rfl)
            try simp only [Act.put, List.setIfInBounds_toArray, List.set_cons_zero, List.set_cons_succ]
            refine wpAnyH_take (i := 15) (v := ?_) rfl (by kernel_rfl) (by kernel_rfl) (by kernel_rfl) (fun _ _ _ h => h) (Or.inl ⟨by rfl, ?_⟩) h3 ?_
            rotate_left
            · (intro w hSw; (try dsimp only at hSw); go_simp); all_goals (with_reducible rfl)
            try simp only [Act.put, List.setIfInBounds_toArray, List.set_cons_zero, List.set_cons_succ]
            refine wpAnyH_done (by kernel_rfl) ?_ _
            have bz := bel2 ba h3.1
            go_wp2
            exact ⟨⟨k + 1, by omega, by go_num, rfl, bz⟩, by simp [intOf]; omega⟩
          · rw [e2] at hE
            have F0 := Lib.hid e1
            have F1 := Lib.hid hE
            have F2 := Lib.hid e2
            clear e1 e2 hE
            go_wp2_with fail
            have bc := Below.refl (wr.alloc (.cells #[.int .i64 l.u, .slice a n c, .int .i64 l.ap, .int .i64 l.d] 26)).heap.size (wr.alloc (.cells #[.int .i64 l.u, .slice a n c, .int .i64 l.ap, .int .i64 l.d] 26))
            refine wp_region_held_drew (S := fun w' => Below (wr.alloc (.cells #[.int .i64 l.u, .slice a n c, .int .i64 l.ap, .int .i64 l.d] 26)).heap.size (wr.alloc (.cells #[.int .i64 l.u, .slice a n c, .int .i64 l.ap, .int .i64 l.d] 26)) w' ∧ w'.cell? ⟨w2.heap.size, 0, none⟩ = some (.int .i64 la.u) ∧ w'.cell? ⟨w2.heap.size, 1, none⟩ = some (.slice aA nA cA) ∧ w'.cell? ⟨w2.heap.size, 2, none⟩ = some (.int .i64 la.ap) ∧ w'.cell? ⟨w2.heap.size, 3, none⟩ = some (.int .i64 la.d) ∧ w'.cell? ⟨w3.heap.size, 0, none⟩ = some (.int .i64 lb.u) ∧ w'.cell? ⟨w3.heap.size, 1, none⟩ = some (.slice aB nB cB) ∧ w'.cell? ⟨w3.heap.size, 2, none⟩ = some (.int .i64 lb.ap) ∧ w'.cell? ⟨w3.heap.size, 3, none⟩ = some (.int .i64 lb.d) ∧ w'.cell? ⟨w5.heap.size, 0, none⟩ = some (.int .i64 lj.u) ∧ w'.cell? ⟨w5.heap.size, 1, none⟩ = some (.slice aJ nJ cJ) ∧ w'.cell? ⟨w5.heap.size, 2, none⟩ = some (.int .i64 lj.ap) ∧ w'.cell? ⟨w5.heap.size, 3, none⟩ = some (.int .i64 lj.d) ∧ w'.cell? ⟨wr.heap.size, 0, none⟩ = some (.int .i64 l.u) ∧ w'.cell? ⟨wr.heap.size, 1, none⟩ = some (.slice a n c) ∧ w'.cell? ⟨wr.heap.size, 2, none⟩ = some (.int .i64 l.ap) ∧ w'.cell? ⟨wr.heap.size, 3, none⟩ = some (.int .i64 l.d)) (by kernel_rfl) ?_ (fun h0 => ?_)
            · exact ⟨bc.drew, p0, p1, p2, p3, q0, q1, q2, q3, r0, r1, r2, r3, s0, s1, s2, s3⟩
            refine wpAnyH_take (i := 0) (v := ?_) rfl (by kernel_rfl) (by kernel_rfl) (by kernel_rfl) (fun _ _ _ h => h) (Or.inl ⟨by rfl, ?_⟩) h0 ?_
            rotate_left
            · (intro w hSw; (try dsimp only at hSw); go_simp); all_goals (with_reducible rfl)
            try simp only [Act.put, List.setIfInBounds_toArray, List.set_cons_zero, List.set_cons_succ]
            refine wpAnyH_take (i := 1) (v := ?_) rfl (by kernel_rfl) (by kernel_rfl) (by kernel_rfl) (fun _ _ _ h => h) (Or.inl ⟨by rfl, ?_⟩) h0 ?_
            rotate_left
            · (intro w hSw; (try dsimp only at hSw); go_simp); all_goals (with_reducible rfl)
            try simp only [Act.put, List.setIfInBounds_toArray, List.set_cons_zero, List.set_cons_succ]
            refine wpAnyH_take (i := 2) (v := ?_) rfl (by kernel_rfl) (by kernel_rfl) (by kernel_rfl) (fun _ _ _ h => h) (Or.inl ⟨by rfl, ?_⟩) h0 ?_
            rotate_left
            · (intro w hSw; (try dsimp only at hSw); go_simp); all_goals (with_reducible rfl)
            try simp only [Act.put, List.setIfInBounds_toArray, List.set_cons_zero, List.set_cons_succ]
            refine wpAnyH_take (i := 3) (v := ?_) rfl (by kernel_rfl) (by kernel_rfl) (by kernel_rfl) (fun _ _ _ h => h) (Or.inl ⟨by rfl, ?_⟩) h0 ?_
            rotate_left
            · (intro w hSw; (try dsimp only at hSw); go_simp); all_goals (with_reducible rfl)
            try simp only [Act.put, List.setIfInBounds_toArray, List.set_cons_zero, List.set_cons_succ]
            refine wpAnyH_take (i := 5) (v := ?_) rfl (by kernel_rfl) (by kernel_rfl) (by kernel_rfl) (fun _ _ _ h => h) (Or.inl ⟨by rfl, ?_⟩) h0 ?_
            rotate_left
            · (intro w hSw; (try dsimp only at hSw); go_simp); all_goals (with_reducible rfl)
            try simp only [Act.put, List.setIfInBounds_toArray, List.set_cons_zero, List.set_cons_succ]
            refine wpAnyH_take (i := 6) (v := ?_) rfl (by kernel_rfl) (by kernel_rfl) (by kernel_rfl) (fun _ _ _ h => h) (Or.inl ⟨by rfl, ?_⟩) h0 ?_
            rotate_left
            · (intro w hSw; (try dsimp only at hSw); go_simp); all_goals (with_reducible rfl)
            try simp only [Act.put, List.setIfInBounds_toArray, List.set_cons_zero, List.set_cons_succ]
            refine wpAnyH_ready (rs := [4]) (by kernel_rfl) (by simp) ?_
            refine AllReadyH.cons rfl (fun K hK => ?_) AllReadyH.nil
            go_simp
            go_at_call 20
            refine (leq_eq lj l true (by rw [F1.out]; rfl) _ _ _ _ _ _ _ (LabAt.over h0.1 LJ1.out) (LabAt.over h0.1 LL.out)).mono ?_
            rintro e wq0 ⟨rfl, bq⟩
            go_wp2_with fail
            refine hK.out _ _ ?_ (fun h1 => ?_)
            · exact ⟨bel2 h0.1 bq, cellOver bq h0.2.1, cellOver bq h0.2.2.1, cellOver bq h0.2.2.2.1, cellOver bq h0.2.2.2.2.1, cellOver bq h0.2.2.2.2.2.1, cellOver bq h0.2.2.2.2.2.2.1, cellOver bq h0.2.2.2.2.2.2.2.1, cellOver bq h0.2.2.2.2.2.2.2.2.1, cellOver bq h0.2.2.2.2.2.2.2.2.2.1, cellOver bq h0.2.2.2.2.2.2.2.2.2.2.1, cellOver bq h0.2.2.2.2.2.2.2.2.2.2.2.1, cellOver bq h0.2.2.2.2.2.2.2.2.2.2.2.2.1, cellOver bq h0.2.2.2.2.2.2.2.2.2.2.2.2.2.1, cellOver bq h0.2.2.2.2.2.2.2.2.2.2.2.2.2.2.1, cellOver bq h0.2.2.2.2.2.2.2.2.2.2.2.2.2.2.2.1, cellOver bq h0.2.2.2.2.2.2.2.2.2.2.2.2.2.2.2.2⟩
            clear hK K h0 bq
            try simp only [Act.put, List.setIfInBounds_toArray, List.set_cons_zero, List.set_cons_succ]
            refine wpAnyH_ready (rs := [7]) (by kernel_rfl) (by simp) ?_
            refine AllReadyH.cons rfl (fun K hK => ?_) AllReadyH.nil
            go_simp
            go_at_call 20
            refine (leq_eq la l true F0.out _ _ _ _ _ _ _ (LabAt.over h1.1 LA1.out) (LabAt.over h1.1 LL.out)).mono ?_
            rintro e wq1 ⟨rfl, bq⟩
            go_wp2_with fail
            refine hK.out _ _ ?_ (fun h2 => ?_)
            · exact ⟨bel2 h1.1 bq, cellOver bq h1.2.1, cellOver bq h1.2.2.1, cellOver bq h1.2.2.2.1, cellOver bq h1.2.2.2.2.1, cellOver bq h1.2.2.2.2.2.1, cellOver bq h1.2.2.2.2.2.2.1, cellOver bq h1.2.2.2.2.2.2.2.1, cellOver bq h1.2.2.2.2.2.2.2.2.1, cellOver bq h1.2.2.2.2.2.2.2.2.2.1, cellOver bq h1.2.2.2.2.2.2.2.2.2.2.1, cellOver bq h1.2.2.2.2.2.2.2.2.2.2.2.1, cellOver bq h1.2.2.2.2.2.2.2.2.2.2.2.2.1, cellOver bq h1.2.2.2.2.2.2.2.2.2.2.2.2.2.1, cellOver bq h1.2.2.2.2.2.2.2.2.2.2.2.2.2.2.1, cellOver bq h1.2.2.2.2.2.2.2.2.2.2.2.2.2.2.2.1, cellOver bq h1.2.2.2.2.2.2.2.2.2.2.2.2.2.2.2.2⟩
            clear hK K h1 bq
            try simp only [Act.put, List.setIfInBounds_toArray, List.set_cons_zero, List.set_cons_succ]
            refine wpAnyH_take (i := 8) (v := ?_) rfl (by kernel_rfl) (by kernel_rfl) (by kernel_rfl) (fun _ _ _ h => h) (Or.inl ⟨by rfl, ?_⟩) h2 ?_
            rotate_left
            · (intro w hSw; (try dsimp only at hSw); go_simp); all_goals (with_reducible rfl)
            try simp only [Act.put, List.setIfInBounds_toArray, List.set_cons_zero, List.set_cons_succ]
            refine wpAnyH_take (i := 9) (v := ?_) rfl (by kernel_rfl) (by kernel_rfl) (by kernel_rfl) (fun _ _ _ h => h) (Or.inl ⟨by rfl, ?_⟩) h2 ?_
            rotate_left
            · (intro w hSw; (try dsimp only at hSw); go_simp); all_goals (with_reducible rfl)
            try simp only [Act.put, List.setIfInBounds_toArray, List.set_cons_zero, List.set_cons_succ]
            refine wpAnyH_take (i := 10) (v := ?_) rfl (by kernel_rfl) (by kernel_rfl) (by kernel_rfl) (fun _ _ _ h => h) (Or.inl ⟨by rfl, ?_⟩) h2 ?_
            rotate_left
            · (intro w hSw; (try dsimp only at hSw); go_simp); all_goals (with_reducible rfl)
            try simp only [Act.put, List.setIfInBounds_toArray, List.set_cons_zero, List.set_cons_succ]
            refine wpAnyH_ready (rs := [11]) (by kernel_rfl) (by simp) ?_
            refine AllReadyH.cons rfl (fun K hK => ?_) AllReadyH.nil
            go_simp
            go_at_call 20
            refine (leq_eq lb l true F2.out _ _ _ _ _ _ _ (LabAt.over h2.1 LB1.out) (LabAt.over h2.1 LL.out)).mono ?_
            rintro e wq2 ⟨rfl, bq⟩
            go_wp2_with fail
            refine hK.out _ _ ?_ (fun h3 => ?_)
            · exact ⟨bel2 h2.1 bq, cellOver bq h2.2.1, cellOver bq h2.2.2.1, cellOver bq h2.2.2.2.1, cellOver bq h2.2.2.2.2.1, cellOver bq h2.2.2.2.2.2.1, cellOver bq h2.2.2.2.2.2.2.1, cellOver bq h2.2.2.2.2.2.2.2.1, cellOver bq h2.2.2.2.2.2.2.2.2.1, cellOver bq h2.2.2.2.2.2.2.2.2.2.1, cellOver bq h2.2.2.2.2.2.2.2.2.2.2.1, cellOver bq h2.2.2.2.2.2.2.2.2.2.2.2.1, cellOver bq h2.2.2.2.2.2.2.2.2.2.2.2.2.1, cellOver bq h2.2.2.2.2.2.2.2.2.2.2.2.2.2.1, cellOver bq h2.2.2.2.2.2.2.2.2.2.2.2.2.2.2.1, cellOver bq h2.2.2.2.2.2.2.2.2.2.2.2.2.2.2.2.1, cellOver bq h2.2.2.2.2.2.2.2.2.2.2.2.2.2.2.2.2⟩
            clear hK K h2 bq
            try simp only [Act.put, List.setIfInBounds_toArray, List.set_cons_zero, List.set_cons_succ]
            refine wpAnyH_take (i := 12) (v := ?_) rfl (by kernel_rfl) (by kernel_rfl) (by kernel_rfl) (fun _ _ _ h => h) (Or.inl ⟨by rfl, ?_⟩) h3 ?_
            rotate_left
            · (intro w hSw; (try dsimp only at hSw); go_simp); all_goals (with_reducible rfl)
            try simp only [Act.put, List.setIfInBounds_toArray, List.set_cons_zero, List.set_cons_succ]
            refine wpAnyH_take (i := 13) (v := ?_) rfl (by kernel_rfl) (by kernel_rfl) (by kernel_rfl) (fun _ _ _ h => h) (Or.inl ⟨by rfl, ?_⟩) h3 ?_
            rotate_left
            · (intro w hSw; (try dsimp only at hSw); go_simp); all_goals (with_reducible rfl)
            try simp only [Act.put, List.setIfInBounds_toArray, List.set_cons_zero, List.set_cons_succ]
            refine wpAnyH_take (i := 14) (v := ?_) rfl (by kernel_rfl) (by kernel_rfl) (by kernel_rfl) (fun _ _ _ h => h) (Or.inl ⟨by rfl, ?_⟩) h3 ?_
            rotate_left
            · (intro w hSw; (try dsimp only at hSw); go_simp); all_goals (with_reducible rfl)
            try simp only [Act.put, List.setIfInBounds_toArray, List.set_cons_zero, List.set_cons_succ]
            refine wpAnyH_take (i := 15) (v := ?_) rfl (by kernel_rfl) (by kernel_rfl) (by kernel_rfl) (fun _ _ _ h => h) (Or.inl ⟨by rfl, ?_⟩) h3 ?_
            rotate_left
            · (intro w hSw; (try dsimp only at hSw); go_simp); all_goals (with_reducible rfl)
            try simp only [Act.put, List.setIfInBounds_toArray, List.set_cons_zero, List.set_cons_succ]
            refine wpAnyH_done (by kernel_rfl) ?_ _
            have bz := bel2 ba h3.1
            go_wp2
            exact ⟨⟨k + 1, by omega, by go_num, rfl, bz⟩, by simp [intOf]; omega⟩
      · obtain rfl : k = 7 := by omega
        obtain ⟨p0, p1, p2, p3⟩ := cells4 (blockOver br HA.out)
        obtain ⟨r0, r1, r2, r3⟩ := cells4 (blockOver br HJ.out)
        replace LA := Lib.hid (LA.out.over br)
        replace LB := Lib.hid (LB.out.over br)
        replace LJ := Lib.hid (LJ.out.over br)
        replace HA := Lib.hid (blockOver br HA.out)
        replace HB := Lib.hid (blockOver br HB.out)
        replace HJ := Lib.hid (blockOver br HJ.out)
        replace bw := bel2 bw br
        clear br
        go_wp2_with fail
        refine (leq_eq la lj true EU.out.1 _ _ _ _ _ _ _ LA.out LJ.out).mono ?_
        rintro e wa ⟨rfl, bq⟩
        clear p0 p1 p2 p3 r0 r1 r2 r3
        obtain ⟨q0, q1, q2, q3⟩ := cells4 (blockOver bq HB.out)
        obtain ⟨r0, r1, r2, r3⟩ := cells4 (blockOver bq HJ.out)
        replace LB := Lib.hid (LB.out.over bq)
        replace LJ := Lib.hid (LJ.out.over bq)
        replace bw := bel2 bw bq
        clear bq
        go_wp2_with fail
        refine (leq_eq lb lj true EU.out.2 _ _ _ _ _ _ _ LB.out LJ.out).mono ?_
        rintro e wb ⟨rfl, bq⟩
        replace bw := bel2 bw bq
        clear bq q0 q1 q2 q3 r0 r1 r2 r3
        go_wp2
        go_ret
        exact ⟨rfl, bw⟩
end Go.Proofs.Ythpginepnleokaa
