/- LabelMatchesReference: the walk of the statement's text. -/
import Derived.Test.YthpginepnleokaaRaw02
import Derived.Test.YthpginepnleokaaRefLeq02
import Derived.Test.YthpginepnleokaaRefJoin02
import Derived.Deep.RegionHeld3
import Derived.RegionTactic
import Derived.Deep.CutRange
namespace Go.Proofs.Ythpginepnleokaa
open Go.RowKit
set_option linter.unusedSimpArgs false
set_option linter.unusedVariables false
set_option linter.unnecessarySimpa false
theorem refValid_eq (l : Lab) (r : Bool) (hr : validB l = r) (a : Option Addr) (n c : Nat) (w : World) (h : LabAt w a n c l) :
    Calls Try.prog 17 #[.agg #[.int .i64 l.u, .slice a n c, .int .i64 l.ap, .int .i64 l.d]] w fun e w' => e = .returned (.bool r) ∧ Below w.heap.size w w' := by
  have := refValid_any l a n c w h
  rwa [hr] at this
theorem refSame_eq (l m : Lab) (r : Bool) (hr : sameB l m = r) (a : Option Addr) (n c : Nat) (a2 : Option Addr) (n2 c2 : Nat) (w : World) (h : LabAt w a n c l) (h2 : LabAt w a2 n2 c2 m) :
    Calls Try.prog 19 #[.agg #[.int .i64 l.u, .slice a n c, .int .i64 l.ap, .int .i64 l.d], .agg #[.int .i64 m.u, .slice a2 n2 c2, .int .i64 m.ap, .int .i64 m.d]] w fun e w' => e = .returned (.bool r) ∧ Below w.heap.size w w' := by
  have := refSame_any l m a n c a2 n2 c2 w h h2
  rwa [hr] at this
theorem refLeq_eq (l m : Lab) (r : Bool) (hr : leqB l m = r) (a : Option Addr) (n c : Nat) (a2 : Option Addr) (n2 c2 : Nat) (w : World) (h : LabAt w a n c l) (h2 : LabAt w a2 n2 c2 m) :
    Calls Try.prog 21 #[.agg #[.int .i64 l.u, .slice a n c, .int .i64 l.ap, .int .i64 l.d], .agg #[.int .i64 m.u, .slice a2 n2 c2, .int .i64 m.ap, .int .i64 m.d]] w fun e w' => e = .returned (.bool r) ∧ Below w.heap.size w w' := by
  have := refLeq_any l m a n c a2 n2 c2 w h h2
  rwa [hr] at this
theorem refJoin_eq (l m j : Lab) (hj : joinL l m = j) (a : Option Addr) (n c : Nat) (a2 : Option Addr) (n2 c2 : Nat) (w : World) (h : LabAt w a n c l) (h2 : LabAt w a2 n2 c2 m) :
    Calls Try.prog 23 #[.agg #[.int .i64 l.u, .slice a n c, .int .i64 l.ap, .int .i64 l.d], .agg #[.int .i64 m.u, .slice a2 n2 c2, .int .i64 m.ap, .int .i64 m.d]] w (LabGot j w) := by
  have := refJoin_at l m a n c a2 n2 c2 w h h2
  rwa [hj] at this
set_option maxRecDepth 100000 in
set_option maxHeartbeats 32000000 in
theorem matchesRef_walk (x0 x1 x2 x3 y0 y1 y2 y3 : Int) (a : Option Addr) (n c : Nat) (zs : List Int) (w : World) (hx : B4 x0 x1 x2 x3) (hy : B4 y0 y1 y2 y3) (hz : IsInts .i64 w a n c zs) :
    Calls Try.prog 3 #[.agg #[.int .i64 x0, .int .i64 x1, .int .i64 x2, .int .i64 x3], .agg #[.int .i64 y0, .int .i64 y1, .int .i64 y2, .int .i64 y3], .slice a n c] w fun e w' => e = .returned (.bool true) ∧ Below w.heap.size w w' := by
  obtain ⟨la, _, okA, KA⟩ := make_eq _ _ _ _ hx
  obtain ⟨lb, _, okB, KB⟩ := make_eq _ _ _ _ hy
  have KR1 := Lib.hid (fun W hh => raw_any x0 x1 x2 x3 zs a n c W hx.1 hx.2.1 hx.2.2.1 hx.2.2.2 (fun z h => wf64 (hz.2.2.2.1 z h)) hh)
  have KR2 := Lib.hid (fun W hh => raw_any y0 y1 y2 y3 zs a n c W hy.1 hy.2.1 hy.2.2.1 hy.2.2.2 (fun z h => wf64 (hz.2.2.2.1 z h)) hh)
  have KR3 := Lib.hid (fun W hh => raw_any 1 0 1 1 zs a n c W (by unfold Bd; omega) (by unfold Bd; omega) (by unfold Bd; omega) (by unfold Bd; omega) (fun z h => wf64 (hz.2.2.2.1 z h)) hh)
  generalize rawL x0 zs x2 x3 = lr1 at *
  generalize rawL y0 zs y2 y3 = lr2 at *
  generalize rawL 1 zs 1 1 = lr3 at *
  have IZ0 := Lib.hid hz
  clear hx hy hz
  obtain ⟨hX, hY, bw⟩ := two_allocs w (.cells #[.int .i64 x0, .int .i64 x1, .int .i64 x2, .int .i64 x3] 22) (.cells #[.int .i64 y0, .int .i64 y1, .int .i64 y2, .int .i64 y3] 22)
  have HX := Lib.hid hX
  have HY := Lib.hid hY
  clear hX hY
  have IZ := Lib.hid (IZ0.out.over bw)
  clear IZ0
  go_enter Try.func3, Try.ntmps3
  obtain ⟨hxq0, hxq1, hxq2, hxq3⟩ := cells4 HX.out
  obtain ⟨hyq0, hyq1, hyq2, hyq3⟩ := cells4 HY.out
  go_wp2_with fail
  refine (sane_any _).mono ?_
  rintro e w1 ⟨rfl, bq⟩
  replace HX := Lib.hid (blockOver bq HX.out)
  replace HY := Lib.hid (blockOver bq HY.out)
  replace bw := bel2 bw bq
  replace IZ := Lib.hid (IZ.out.over bq)
  clear bq hxq0 hxq1 hxq2 hxq3 hyq0 hyq1 hyq2 hyq3
  obtain ⟨hxq0, hxq1, hxq2, hxq3⟩ := cells4 HX.out
  obtain ⟨hyq0, hyq1, hyq2, hyq3⟩ := cells4 HY.out
  go_wp2_with fail
  have bc := Below.refl w1.heap.size w1
  refine wp_region_held_drew (S := fun w' => Below w1.heap.size w1 w' ∧ w'.cell? ⟨w.heap.size, 0, none⟩ = some (.int .i64 x0) ∧ w'.cell? ⟨w.heap.size, 1, none⟩ = some (.int .i64 x1) ∧ w'.cell? ⟨w.heap.size, 2, none⟩ = some (.int .i64 x2) ∧ w'.cell? ⟨w.heap.size, 3, none⟩ = some (.int .i64 x3) ∧ w'.cell? ⟨w.heap.size + 1, 0, none⟩ = some (.int .i64 y0) ∧ w'.cell? ⟨w.heap.size + 1, 1, none⟩ = some (.int .i64 y1) ∧ w'.cell? ⟨w.heap.size + 1, 2, none⟩ = some (.int .i64 y2) ∧ w'.cell? ⟨w.heap.size + 1, 3, none⟩ = some (.int .i64 y3)) (by kernel_rfl) ?_ (fun h0 => ?_)
  · exact ⟨bc.drew, hxq0, hxq1, hxq2, hxq3, hyq0, hyq1, hyq2, hyq3⟩
  refine wpAnyH_take (i := 0) (v := ?_) rfl (by kernel_rfl) (by kernel_rfl) (by kernel_rfl) (fun _ _ _ h => h) (Or.inl ⟨by rfl, ?_⟩) h0 ?_
  rotate_left
  · (intro w hSw; (try dsimp only at hSw); go_simp); all_goals (with_reducible rfl)
  try simp only [List.getElem_toArray, List.getElem_cons_succ, List.getElem_cons_zero, Act.put, List.setIfInBounds_toArray, List.set_cons_zero, List.set_cons_succ]
  refine wpAnyH_take (i := 2) (v := ?_) rfl (by kernel_rfl) (by kernel_rfl) (by kernel_rfl) (fun _ _ _ h => h) (Or.inl ⟨by rfl, ?_⟩) h0 ?_
  rotate_left
  · (intro w hSw; (try dsimp only at hSw); go_simp); all_goals (with_reducible rfl)
  try simp only [List.getElem_toArray, List.getElem_cons_succ, List.getElem_cons_zero, Act.put, List.setIfInBounds_toArray, List.set_cons_zero, List.set_cons_succ]
  refine wpAnyH_take (i := 4) (v := ?_) rfl (by kernel_rfl) (by kernel_rfl) (by kernel_rfl) (fun _ _ _ h => h) (Or.inl ⟨by rfl, ?_⟩) h0 ?_
  rotate_left
  · (intro w hSw; (try dsimp only at hSw); go_simp); all_goals (with_reducible rfl)
  try simp only [List.getElem_toArray, List.getElem_cons_succ, List.getElem_cons_zero, Act.put, List.setIfInBounds_toArray, List.set_cons_zero, List.set_cons_succ]
  refine wpAnyH_take (i := 5) (v := ?_) rfl (by kernel_rfl) (by kernel_rfl) (by kernel_rfl) (fun _ _ _ h => h) (Or.inl ⟨by rfl, ?_⟩) h0 ?_
  rotate_left
  · (intro w hSw; (try dsimp only at hSw); go_simp); all_goals (with_reducible rfl)
  try simp only [List.getElem_toArray, List.getElem_cons_succ, List.getElem_cons_zero, Act.put, List.setIfInBounds_toArray, List.set_cons_zero, List.set_cons_succ]
  refine wpAnyH_take (i := 7) (v := ?_) rfl (by kernel_rfl) (by kernel_rfl) (by kernel_rfl) (fun _ _ _ h => h) (Or.inl ⟨by rfl, ?_⟩) h0 ?_
  rotate_left
  · (intro w hSw; (try dsimp only at hSw); go_simp); all_goals (with_reducible rfl)
  try simp only [List.getElem_toArray, List.getElem_cons_succ, List.getElem_cons_zero, Act.put, List.setIfInBounds_toArray, List.set_cons_zero, List.set_cons_succ]
  refine wpAnyH_take (i := 8) (v := ?_) rfl (by kernel_rfl) (by kernel_rfl) (by kernel_rfl) (fun _ _ _ h => h) (Or.inl ⟨by rfl, ?_⟩) h0 ?_
  rotate_left
  · (intro w hSw; (try dsimp only at hSw); go_simp); all_goals (with_reducible rfl)
  try simp only [List.getElem_toArray, List.getElem_cons_succ, List.getElem_cons_zero, Act.put, List.setIfInBounds_toArray, List.set_cons_zero, List.set_cons_succ]
  refine wpAnyH_take (i := 10) (v := ?_) rfl (by kernel_rfl) (by kernel_rfl) (by kernel_rfl) (fun _ _ _ h => h) (Or.inl ⟨by rfl, ?_⟩) h0 ?_
  rotate_left
  · (intro w hSw; (try dsimp only at hSw); go_simp); all_goals (with_reducible rfl)
  try simp only [List.getElem_toArray, List.getElem_cons_succ, List.getElem_cons_zero, Act.put, List.setIfInBounds_toArray, List.set_cons_zero, List.set_cons_succ]
  refine wpAnyH_take (i := 11) (v := ?_) rfl (by kernel_rfl) (by kernel_rfl) (by kernel_rfl) (fun _ _ _ h => h) (Or.inl ⟨by rfl, ?_⟩) h0 ?_
  rotate_left
  · (intro w hSw; (try dsimp only at hSw); go_simp); all_goals (with_reducible rfl)
  try simp only [List.getElem_toArray, List.getElem_cons_succ, List.getElem_cons_zero, Act.put, List.setIfInBounds_toArray, List.set_cons_zero, List.set_cons_succ]
  refine wpAnyH_take (i := 13) (v := ?_) rfl (by kernel_rfl) (by kernel_rfl) (by kernel_rfl) (fun _ _ _ h => h) (Or.inl ⟨by rfl, ?_⟩) h0 ?_
  rotate_left
  · (intro w hSw; (try dsimp only at hSw); go_simp); all_goals (with_reducible rfl)
  try simp only [List.getElem_toArray, List.getElem_cons_succ, List.getElem_cons_zero, Act.put, List.setIfInBounds_toArray, List.set_cons_zero, List.set_cons_succ]
  refine wpAnyH_ready (rs := [1]) (by kernel_rfl) (by simp) ?_
  refine AllReadyH.cons rfl (fun K hK => ?_) AllReadyH.nil
  go_simp
  go_at_call 14
  refine (KA.out _).mono ?_
  rintro e wq0 ⟨av1, nv1, cv1, rfl, Lv1, Ov1, bq⟩
  go_wp2_with fail
  have bX := bel2 h0.1 bq
  refine hK.out _ _ ?_ (fun h1 => ?_)
  · exact ⟨bX, cellOver bX hxq0, cellOver bX hxq1, cellOver bX hxq2, cellOver bX hxq3, cellOver bX hyq0, cellOver bX hyq1, cellOver bX hyq2, cellOver bX hyq3⟩
  clear hK K h0 bX bq Ov1
  try simp only [List.getElem_toArray, List.getElem_cons_succ, List.getElem_cons_zero, Act.put, List.setIfInBounds_toArray, List.set_cons_zero, List.set_cons_succ]
  refine wpAnyH_ready (rs := [3]) (by kernel_rfl) (by simp) ?_
  refine AllReadyH.cons rfl (fun K hK => ?_) AllReadyH.nil
  go_simp
  go_at_call 14
  refine (KB.out _).mono ?_
  rintro e wq1 ⟨av2, nv2, cv2, rfl, Lv2, Ov2, bq⟩
  replace Lv1 := Lv1.over bq
  go_wp2_with fail
  have bX := bel2 h1.1 bq
  refine hK.out _ _ ?_ (fun h2 => ?_)
  · exact ⟨bX, cellOver bX hxq0, cellOver bX hxq1, cellOver bX hxq2, cellOver bX hxq3, cellOver bX hyq0, cellOver bX hyq1, cellOver bX hyq2, cellOver bX hyq3⟩
  clear hK K h1 bX bq Ov2
  try simp only [List.getElem_toArray, List.getElem_cons_succ, List.getElem_cons_zero, Act.put, List.setIfInBounds_toArray, List.set_cons_zero, List.set_cons_succ]
  refine wpAnyH_ready (rs := [6]) (by kernel_rfl) (by simp) ?_
  refine AllReadyH.cons rfl (fun K hK => ?_) AllReadyH.nil
  go_simp
  go_at_call 15
  refine (KR1.out _ (IZ.out.over h2.1)).mono ?_
  rintro e wq2 ⟨av3, nv3, cv3, rfl, Lv3, Ov3, bq⟩
  replace Lv1 := Lv1.over bq
  replace Lv2 := Lv2.over bq
  go_wp2_with fail
  have bX := bel2 h2.1 bq
  refine hK.out _ _ ?_ (fun h3 => ?_)
  · exact ⟨bX, cellOver bX hxq0, cellOver bX hxq1, cellOver bX hxq2, cellOver bX hxq3, cellOver bX hyq0, cellOver bX hyq1, cellOver bX hyq2, cellOver bX hyq3⟩
  clear hK K h2 bX bq Ov3
  try simp only [List.getElem_toArray, List.getElem_cons_succ, List.getElem_cons_zero, Act.put, List.setIfInBounds_toArray, List.set_cons_zero, List.set_cons_succ]
  refine wpAnyH_ready (rs := [9]) (by kernel_rfl) (by simp) ?_
  refine AllReadyH.cons rfl (fun K hK => ?_) AllReadyH.nil
  go_simp
  go_at_call 15
  refine (KR2.out _ (IZ.out.over h3.1)).mono ?_
  rintro e wq3 ⟨av4, nv4, cv4, rfl, Lv4, Ov4, bq⟩
  replace Lv1 := Lv1.over bq
  replace Lv2 := Lv2.over bq
  replace Lv3 := Lv3.over bq
  go_wp2_with fail
  have bX := bel2 h3.1 bq
  refine hK.out _ _ ?_ (fun h4 => ?_)
  · exact ⟨bX, cellOver bX hxq0, cellOver bX hxq1, cellOver bX hxq2, cellOver bX hxq3, cellOver bX hyq0, cellOver bX hyq1, cellOver bX hyq2, cellOver bX hyq3⟩
  clear hK K h3 bX bq Ov4
  try simp only [List.getElem_toArray, List.getElem_cons_succ, List.getElem_cons_zero, Act.put, List.setIfInBounds_toArray, List.set_cons_zero, List.set_cons_succ]
  refine wpAnyH_ready (rs := [12]) (by kernel_rfl) (by simp) ?_
  refine AllReadyH.cons rfl (fun K hK => ?_) AllReadyH.nil
  go_simp
  go_at_call 15
  refine (KR3.out _ (IZ.out.over h4.1)).mono ?_
  rintro e wq4 ⟨av5, nv5, cv5, rfl, Lv5, Ov5, bq⟩
  replace Lv1 := Lv1.over bq
  replace Lv2 := Lv2.over bq
  replace Lv3 := Lv3.over bq
  replace Lv4 := Lv4.over bq
  go_wp2_with fail
  have bX := bel2 h4.1 bq
  refine hK.out _ _ ?_ (fun h5 => ?_)
  · exact ⟨bX, cellOver bX hxq0, cellOver bX hxq1, cellOver bX hxq2, cellOver bX hxq3, cellOver bX hyq0, cellOver bX hyq1, cellOver bX hyq2, cellOver bX hyq3⟩
  clear hK K h4 bX bq Ov5
  try simp only [List.getElem_toArray, List.getElem_cons_succ, List.getElem_cons_zero, Act.put, List.setIfInBounds_toArray, List.set_cons_zero, List.set_cons_succ]
  refine wpAnyH_ready (rs := [14]) (by kernel_rfl) (by simp) ?_
  refine AllReadyH.cons rfl (fun K hK => ?_) AllReadyH.nil
  rw [if_pos (by rfl)]
  go_simp
  have HLI := Lib.hid (show ListAt (wq4.alloc (.cells #[.int .i64 la.u, .slice av1 nv1 cv1, .int .i64 la.ap, .int .i64 la.d, .int .i64 lb.u, .slice av2 nv2 cv2, .int .i64 lb.ap, .int .i64 lb.d, .int .i64 lr1.u, .slice av3 nv3 cv3, .int .i64 lr1.ap, .int .i64 lr1.d, .int .i64 lr2.u, .slice av4 nv4 cv4, .int .i64 lr2.ap, .int .i64 lr2.d, .int .i64 lr3.u, .slice av5 nv5 cv5, .int .i64 lr3.ap, .int .i64 lr3.d, .int .i64 0, .slice none 0 0, .int .i64 0, .int .i64 0] 26)) wq4.heap.size [(la, av1, nv1, cv1), (lb, av2, nv2, cv2), (lr1, av3, nv3, cv3), (lr2, av4, nv4, cv4), (lr3, av5, nv5, cv5), (zeroL, none, 0, 0)] from ⟨heap_alloc_new wq4 _, fun e he => by
    simp only [List.mem_cons, List.not_mem_nil, or_false] at he
    rcases he with rfl | rfl | rfl | rfl | rfl | rfl
    · exact Lv1.over (below_alloc _ _)
    · exact Lv2.over (below_alloc _ _)
    · exact Lv3.over (below_alloc _ _)
    · exact Lv4.over (below_alloc _ _)
    · exact Lv5.over (below_alloc _ _)
    · exact zero_at _⟩)
  have bX := bel2 h5.1 (below_alloc wq4 (.cells #[.int .i64 la.u, .slice av1 nv1 cv1, .int .i64 la.ap, .int .i64 la.d, .int .i64 lb.u, .slice av2 nv2 cv2, .int .i64 lb.ap, .int .i64 lb.d, .int .i64 lr1.u, .slice av3 nv3 cv3, .int .i64 lr1.ap, .int .i64 lr1.d, .int .i64 lr2.u, .slice av4 nv4 cv4, .int .i64 lr2.ap, .int .i64 lr2.d, .int .i64 lr3.u, .slice av5 nv5 cv5, .int .i64 lr3.ap, .int .i64 lr3.d, .int .i64 0, .slice none 0 0, .int .i64 0, .int .i64 0] 26))
  refine hK.out _ _ ?_ (fun h6 => ?_)
  · exact ⟨bX, cellOver bX hxq0, cellOver bX hxq1, cellOver bX hxq2, cellOver bX hxq3, cellOver bX hyq0, cellOver bX hyq1, cellOver bX hyq2, cellOver bX hyq3⟩
  clear hK K h5 bX
  try simp only [List.getElem_toArray, List.getElem_cons_succ, List.getElem_cons_zero, Act.put, List.setIfInBounds_toArray, List.set_cons_zero, List.set_cons_succ]
  refine wpAnyH_take (i := 15) (v := ?_) rfl (by kernel_rfl) (by kernel_rfl) (by kernel_rfl) (fun _ _ _ h => h) (Or.inl ⟨by rfl, ?_⟩) h6 ?_
  rotate_left
  · (intro w hSw; (try dsimp only at hSw); go_simp); all_goals (with_reducible rfl)
  try simp only [List.getElem_toArray, List.getElem_cons_succ, List.getElem_cons_zero, Act.put, List.setIfInBounds_toArray, List.set_cons_zero, List.set_cons_succ]
  refine wpAnyH_done (by kernel_rfl) ?_ _
  replace bw := bel2 bw h6.1
  clear h6 hxq0 hxq1 hxq2 hxq3 hyq0 hyq1 hyq2 hyq3 Lv1 Lv2 Lv3 Lv4 Lv5 bc HX HY KA KB KR1 KR2 KR3 okA okB IZ
  go_wp2_with fail
  obtain ⟨q, hq⟩ : ∃ q, wq4.heap.size = q := ⟨_, rfl⟩
  obtain ⟨W0, hW0⟩ : ∃ W0, wq4.alloc (.cells #[.int .i64 la.u, .slice av1 nv1 cv1, .int .i64 la.ap, .int .i64 la.d, .int .i64 lb.u, .slice av2 nv2 cv2, .int .i64 lb.ap, .int .i64 lb.d, .int .i64 lr1.u, .slice av3 nv3 cv3, .int .i64 lr1.ap, .int .i64 lr1.d, .int .i64 lr2.u, .slice av4 nv4 cv4, .int .i64 lr2.ap, .int .i64 lr2.d, .int .i64 lr3.u, .slice av5 nv5 cv5, .int .i64 lr3.ap, .int .i64 lr3.d, .int .i64 0, .slice none 0 0, .int .i64 0, .int .i64 0] 26) = W0 := ⟨_, rfl⟩
  rw [hW0] at bw ⊢
  rw [hW0, hq] at HLI
  rw [hq]
  obtain ⟨es, hes⟩ : ∃ es : List (Lab × Option Addr × Nat × Nat), [(la, av1, nv1, cv1), (lb, av2, nv2, cv2), (lr1, av3, nv3, cv3), (lr2, av4, nv4, cv4), (lr3, av5, nv5, cv5), (zeroL, none, 0, 0)] = es := ⟨_, rfl⟩
  have hl6 : es.length = 6 := by rw [← hes]; rfl
  rw [hes] at HLI
  have HL := Lib.hid hl6
  clear hW0 hq hes hl6
  go_loopw [31, 9, 11] (fun i _ _ wr => ∃ k : Nat, k ≤ 6 ∧ i = .int .i64 k ∧ Below W0.heap.size W0 wr) (fun i _ _ _ => 6 - (intOf i).toNat)
  case atStart => exact ⟨0, by omega, rfl, Below.refl _ _⟩
  case round =>
    obtain ⟨k, hk, rfl, br⟩ := hrel
    by_cases hlt : k < 6
    · have kk0 : (0 : Int) ≤ k := by omega
      have kk6 : (k : Int) < 6 := by omega
      obtain ⟨lp, ap, np, cp, hm, p0, p1, p2, p3, LP0⟩ := (HLI.out.over br).at_ (k := k) (by rw [HL.out]; exact hlt)
      obtain ⟨wo, rfl⟩ : ∃ wo, wo = wr := ⟨_, rfl⟩
      have HP := Lib.hid (heap_alloc_new wo (.cells #[.int .i64 lp.u, .slice ap np cp, .int .i64 lp.ap, .int .i64 lp.d] 26))
      have LP := Lib.hid (LP0.over (below_alloc wo (.cells #[.int .i64 lp.u, .slice ap np cp, .int .i64 lp.ap, .int .i64 lp.d] 26)))
      have b1 := bel2 br (below_alloc wo (.cells #[.int .i64 lp.u, .slice ap np cp, .int .i64 lp.ap, .int .i64 lp.d] 26))
      obtain ⟨r1, hr1⟩ : ∃ r, validB lp = r := ⟨_, rfl⟩
      have F1 := Lib.hid hr1
      have ne1 : (r1 != r1) = false := by simp
      clear hm LP0 hr1
      go_wp2_with fail
      obtain ⟨gp, hgp⟩ : ∃ gp, wo.heap.size = gp := ⟨_, rfl⟩
      obtain ⟨W1, hW1⟩ : ∃ W1, wo.alloc (.cells #[.int .i64 lp.u, .slice ap np cp, .int .i64 lp.ap, .int .i64 lp.d] 26) = W1 := ⟨_, rfl⟩
      rw [hW1] at b1 LP ⊢
      rw [hW1, hgp] at HP
      rw [hgp]
      clear hW1 hgp br p0 p1 p2 p3
      obtain ⟨p0, p1, p2, p3⟩ := cells4 HP.out
      have bc := Below.refl W1.heap.size W1
      refine wp_region_held_drew (S := fun w' => Below W1.heap.size W1 w' ∧ w'.cell? ⟨gp, 0, none⟩ = some (.int .i64 lp.u) ∧ w'.cell? ⟨gp, 1, none⟩ = some (.slice ap np cp) ∧ w'.cell? ⟨gp, 2, none⟩ = some (.int .i64 lp.ap) ∧ w'.cell? ⟨gp, 3, none⟩ = some (.int .i64 lp.d)) (by kernel_rfl) ?_ (fun h0 => ?_)
      · exact ⟨bc.drew, p0, p1, p2, p3⟩
      refine wpAnyH_take (i := 0) (v := ?_) rfl (by kernel_rfl) (by kernel_rfl) (by kernel_rfl) (fun _ _ _ h => h) (Or.inl ⟨by rfl, ?_⟩) h0 ?_
      rotate_left
      · (intro w hSw; (try dsimp only at hSw); go_simp); all_goals (with_reducible rfl)
      try simp only [List.getElem_toArray, List.getElem_cons_succ, List.getElem_cons_zero, Act.put, List.setIfInBounds_toArray, List.set_cons_zero, List.set_cons_succ]
      refine wpAnyH_take (i := 2) (v := ?_) rfl (by kernel_rfl) (by kernel_rfl) (by kernel_rfl) (fun _ _ _ h => h) (Or.inl ⟨by rfl, ?_⟩) h0 ?_
      rotate_left
      · (intro w hSw; (try dsimp only at hSw); go_simp); all_goals (with_reducible rfl)
      try simp only [List.getElem_toArray, List.getElem_cons_succ, List.getElem_cons_zero, Act.put, List.setIfInBounds_toArray, List.set_cons_zero, List.set_cons_succ]
      refine wpAnyH_ready (rs := [1]) (by kernel_rfl) (by simp) ?_
      refine AllReadyH.cons rfl (fun K hK => ?_) AllReadyH.nil
      go_simp
      go_at_call 16
      refine (valid_eq lp r1 F1.out _ _ _ _ (LabAt.over h0.1 LP.out)).mono ?_
      rintro e wq0 ⟨rfl, bq⟩
      go_wp2_with fail
      have bX := bel2 h0.1 bq
      refine hK.out _ _ ?_ (fun h1 => ?_)
      · exact ⟨bX, cellOver bX p0, cellOver bX p1, cellOver bX p2, cellOver bX p3⟩
      clear hK K h0 bX bq
      try simp only [List.getElem_toArray, List.getElem_cons_succ, List.getElem_cons_zero, Act.put, List.setIfInBounds_toArray, List.set_cons_zero, List.set_cons_succ]
      refine wpAnyH_ready (rs := [3]) (by kernel_rfl) (by simp) ?_
      refine AllReadyH.cons rfl (fun K hK => ?_) AllReadyH.nil
      go_simp
      go_at_call 17
      refine (refValid_eq lp r1 F1.out _ _ _ _ (LabAt.over h1.1 LP.out)).mono ?_
      rintro e wq1 ⟨rfl, bq⟩
      go_wp2_with fail
      have bX := bel2 h1.1 bq
      refine hK.out _ _ ?_ (fun h2 => ?_)
      · exact ⟨bX, cellOver bX p0, cellOver bX p1, cellOver bX p2, cellOver bX p3⟩
      clear hK K h1 bX bq
      try simp only [List.getElem_toArray, List.getElem_cons_succ, List.getElem_cons_zero, Act.put, List.setIfInBounds_toArray, List.set_cons_zero, List.set_cons_succ]
      refine wpAnyH_take (i := 4) (v := ?_) rfl (by kernel_rfl) (by kernel_rfl) (by kernel_rfl) (fun _ _ _ h => h) (Or.inl ⟨by rfl, ?_⟩) h2 ?_
      rotate_left
      · (intro w hSw; (try dsimp only at hSw); go_simp); all_goals (with_reducible rfl)
      try simp only [List.getElem_toArray, List.getElem_cons_succ, List.getElem_cons_zero, Act.put, List.setIfInBounds_toArray, List.set_cons_zero, List.set_cons_succ]
      refine wpAnyH_done (by kernel_rfl) ?_ _
      replace b1 := bel2 b1 h2.1
      replace HP := Lib.hid (blockOver h2.1 HP.out)
      replace LP := Lib.hid (LP.out.over h2.1)
      clear h2 p0 p1 p2 p3 bc
      go_wp2_with fail
      obtain ⟨W2, hW2⟩ : ∃ W2, wq1 = W2 := ⟨_, rfl⟩
      rw [hW2] at b1 LP HP ⊢
      clear hW2 ne1 F1
      go_loopw [42, 11] (fun i _ wr => ∃ j : Nat, j ≤ 6 ∧ i = .int .i64 j ∧ Below W2.heap.size W2 wr) (fun i _ _ => 6 - (intOf i).toNat)
      case atStart => exact ⟨0, by omega, rfl, Below.refl _ _⟩
      case round =>
        obtain ⟨j, hj, rfl, bj⟩ := hrel
        by_cases hlj : j < 6
        · have jj0 : (0 : Int) ≤ j := by omega
          have jj6 : (j : Int) < 6 := by omega
          have b2 := bel2 b1 bj
          obtain ⟨lq, aq, nq, cq, hm, q0, q1, q2, q3, LQ0⟩ := (HLI.out.over b2).at_ (k := j) (by rw [HL.out]; exact hlj)
          obtain ⟨wp, rfl⟩ : ∃ wp, wp = wr := ⟨_, rfl⟩
          have ob := below_alloc wp (.cells #[.int .i64 lq.u, .slice aq nq cq, .int .i64 lq.ap, .int .i64 lq.d] 26)
          have HQ := Lib.hid (heap_alloc_new wp (.cells #[.int .i64 lq.u, .slice aq nq cq, .int .i64 lq.ap, .int .i64 lq.d] 26))
          have LQ := Lib.hid (LQ0.over ob)
          have bj3 := bel2 bj ob
          have HP1 := Lib.hid (blockOver bj3 HP.out)
          have LP1 := Lib.hid (LP.out.over bj3)
          obtain ⟨r1, hr1⟩ : ∃ r, sameB lp lq = r := ⟨_, rfl⟩
          obtain ⟨r2, hr2⟩ : ∃ r, leqB lp lq = r := ⟨_, rfl⟩
          obtain ⟨lpq, hpq⟩ : ∃ l, joinL lp lq = l := ⟨_, rfl⟩
          have F1 := Lib.hid hr1
          have F2 := Lib.hid hr2
          have F3 := Lib.hid hpq
          have F4 := Lib.hid (same_refl lpq)
          have ne1 : (r1 != r1) = false := by simp
          have ne2 : (r2 != r2) = false := by simp
          clear hm LQ0 hr1 hr2 hpq ob b2
          go_wp2_with fail
          obtain ⟨gq, hgq⟩ : ∃ gq, wp.heap.size = gq := ⟨_, rfl⟩
          obtain ⟨W3, hW3⟩ : ∃ W3, wp.alloc (.cells #[.int .i64 lq.u, .slice aq nq cq, .int .i64 lq.ap, .int .i64 lq.d] 26) = W3 := ⟨_, rfl⟩
          rw [hW3] at bj3 LQ HP1 LP1 ⊢
          rw [hW3, hgq] at HQ
          rw [hgq]
          clear hW3 hgq q0 q1 q2 q3
          obtain ⟨p0, p1, p2, p3⟩ := cells4 HP1.out
          obtain ⟨q0, q1, q2, q3⟩ := cells4 HQ.out
          have bc := Below.refl W3.heap.size W3
          refine wp_region_held_drew (S := fun w' => Below W3.heap.size W3 w' ∧ w'.cell? ⟨gp, 0, none⟩ = some (.int .i64 lp.u) ∧ w'.cell? ⟨gp, 1, none⟩ = some (.slice ap np cp) ∧ w'.cell? ⟨gp, 2, none⟩ = some (.int .i64 lp.ap) ∧ w'.cell? ⟨gp, 3, none⟩ = some (.int .i64 lp.d) ∧ w'.cell? ⟨gq, 0, none⟩ = some (.int .i64 lq.u) ∧ w'.cell? ⟨gq, 1, none⟩ = some (.slice aq nq cq) ∧ w'.cell? ⟨gq, 2, none⟩ = some (.int .i64 lq.ap) ∧ w'.cell? ⟨gq, 3, none⟩ = some (.int .i64 lq.d)) (by kernel_rfl) ?_ (fun h0 => ?_)
          · exact ⟨bc.drew, p0, p1, p2, p3, q0, q1, q2, q3⟩
          refine wpAnyH_take (i := 0) (v := ?_) rfl (by kernel_rfl) (by kernel_rfl) (by kernel_rfl) (fun _ _ _ h => h) (Or.inl ⟨by rfl, ?_⟩) h0 ?_
          rotate_left
          · (intro w hSw; (try dsimp only at hSw); go_simp); all_goals (with_reducible rfl)
          try simp only [List.getElem_toArray, List.getElem_cons_succ, List.getElem_cons_zero, Act.put, List.setIfInBounds_toArray, List.set_cons_zero, List.set_cons_succ]
          refine wpAnyH_take (i := 1) (v := ?_) rfl (by kernel_rfl) (by kernel_rfl) (by kernel_rfl) (fun _ _ _ h => h) (Or.inl ⟨by rfl, ?_⟩) h0 ?_
          rotate_left
          · (intro w hSw; (try dsimp only at hSw); go_simp); all_goals (with_reducible rfl)
          try simp only [List.getElem_toArray, List.getElem_cons_succ, List.getElem_cons_zero, Act.put, List.setIfInBounds_toArray, List.set_cons_zero, List.set_cons_succ]
          refine wpAnyH_take (i := 3) (v := ?_) rfl (by kernel_rfl) (by kernel_rfl) (by kernel_rfl) (fun _ _ _ h => h) (Or.inl ⟨by rfl, ?_⟩) h0 ?_
          rotate_left
          · (intro w hSw; (try dsimp only at hSw); go_simp); all_goals (with_reducible rfl)
          try simp only [List.getElem_toArray, List.getElem_cons_succ, List.getElem_cons_zero, Act.put, List.setIfInBounds_toArray, List.set_cons_zero, List.set_cons_succ]
          refine wpAnyH_take (i := 4) (v := ?_) rfl (by kernel_rfl) (by kernel_rfl) (by kernel_rfl) (fun _ _ _ h => h) (Or.inl ⟨by rfl, ?_⟩) h0 ?_
          rotate_left
          · (intro w hSw; (try dsimp only at hSw); go_simp); all_goals (with_reducible rfl)
          try simp only [List.getElem_toArray, List.getElem_cons_succ, List.getElem_cons_zero, Act.put, List.setIfInBounds_toArray, List.set_cons_zero, List.set_cons_succ]
          refine wpAnyH_ready (rs := [2]) (by kernel_rfl) (by simp) ?_
          refine AllReadyH.cons rfl (fun K hK => ?_) AllReadyH.nil
          go_simp
          go_at_call 18
          refine (same_eq lp lq r1 F1.out _ _ _ _ _ _ _ (LabAt.over h0.1 LP1.out) (LabAt.over h0.1 LQ.out)).mono ?_
          rintro e wq0 ⟨rfl, bq⟩
          go_wp2_with fail
          have bX := bel2 h0.1 bq
          refine hK.out _ _ ?_ (fun h1 => ?_)
          · exact ⟨bX, cellOver bX p0, cellOver bX p1, cellOver bX p2, cellOver bX p3, cellOver bX q0, cellOver bX q1, cellOver bX q2, cellOver bX q3⟩
          clear hK K h0 bX bq
          try simp only [List.getElem_toArray, List.getElem_cons_succ, List.getElem_cons_zero, Act.put, List.setIfInBounds_toArray, List.set_cons_zero, List.set_cons_succ]
          refine wpAnyH_ready (rs := [5]) (by kernel_rfl) (by simp) ?_
          refine AllReadyH.cons rfl (fun K hK => ?_) AllReadyH.nil
          go_simp
          go_at_call 19
          refine (refSame_eq lp lq r1 F1.out _ _ _ _ _ _ _ (LabAt.over h1.1 LP1.out) (LabAt.over h1.1 LQ.out)).mono ?_
          rintro e wq1 ⟨rfl, bq⟩
          go_wp2_with fail
          have bX := bel2 h1.1 bq
          refine hK.out _ _ ?_ (fun h2 => ?_)
          · exact ⟨bX, cellOver bX p0, cellOver bX p1, cellOver bX p2, cellOver bX p3, cellOver bX q0, cellOver bX q1, cellOver bX q2, cellOver bX q3⟩
          clear hK K h1 bX bq
          try simp only [List.getElem_toArray, List.getElem_cons_succ, List.getElem_cons_zero, Act.put, List.setIfInBounds_toArray, List.set_cons_zero, List.set_cons_succ]
          refine wpAnyH_take (i := 6) (v := ?_) rfl (by kernel_rfl) (by kernel_rfl) (by kernel_rfl) (fun _ _ _ h => h) (Or.inl ⟨by rfl, ?_⟩) h2 ?_
          rotate_left
          · (intro w hSw; (try dsimp only at hSw); go_simp); all_goals (with_reducible rfl)
          try simp only [List.getElem_toArray, List.getElem_cons_succ, List.getElem_cons_zero, Act.put, List.setIfInBounds_toArray, List.set_cons_zero, List.set_cons_succ]
          refine wpAnyH_take (i := 7) (v := ?_) rfl (by kernel_rfl) (by kernel_rfl) (by kernel_rfl) (fun _ _ _ h => h) (Or.inl ⟨by rfl, ?_⟩) h2 ?_
          rotate_left
          · (intro w hSw; (try dsimp only at hSw); go_simp); all_goals (with_reducible rfl)
          try simp only [List.getElem_toArray, List.getElem_cons_succ, List.getElem_cons_zero, Act.put, List.setIfInBounds_toArray, List.set_cons_zero, List.set_cons_succ]
          refine wpAnyH_take (i := 8) (v := ?_) rfl (by kernel_rfl) (by kernel_rfl) (by kernel_rfl) (fun _ _ _ h => h) (Or.inl ⟨by rfl, ?_⟩) h2 ?_
          rotate_left
          · (intro w hSw; (try dsimp only at hSw); go_simp); all_goals (with_reducible rfl)
          try simp only [List.getElem_toArray, List.getElem_cons_succ, List.getElem_cons_zero, Act.put, List.setIfInBounds_toArray, List.set_cons_zero, List.set_cons_succ]
          refine wpAnyH_take (i := 9) (v := ?_) rfl (by kernel_rfl) (by kernel_rfl) (by kernel_rfl) (fun _ _ _ h => h) (Or.inl ⟨by rfl, ?_⟩) h2 ?_
          rotate_left
          · (intro w hSw; (try dsimp only at hSw); go_simp); all_goals (with_reducible rfl)
          try simp only [List.getElem_toArray, List.getElem_cons_succ, List.getElem_cons_zero, Act.put, List.setIfInBounds_toArray, List.set_cons_zero, List.set_cons_succ]
          refine wpAnyH_take (i := 11) (v := ?_) rfl (by kernel_rfl) (by kernel_rfl) (by kernel_rfl) (fun _ _ _ h => h) (Or.inl ⟨by rfl, ?_⟩) h2 ?_
          rotate_left
          · (intro w hSw; (try dsimp only at hSw); go_simp); all_goals (with_reducible rfl)
          try simp only [List.getElem_toArray, List.getElem_cons_succ, List.getElem_cons_zero, Act.put, List.setIfInBounds_toArray, List.set_cons_zero, List.set_cons_succ]
          refine wpAnyH_take (i := 12) (v := ?_) rfl (by kernel_rfl) (by kernel_rfl) (by kernel_rfl) (fun _ _ _ h => h) (Or.inl ⟨by rfl, ?_⟩) h2 ?_
          rotate_left
          · (intro w hSw; (try dsimp only at hSw); go_simp); all_goals (with_reducible rfl)
          try simp only [List.getElem_toArray, List.getElem_cons_succ, List.getElem_cons_zero, Act.put, List.setIfInBounds_toArray, List.set_cons_zero, List.set_cons_succ]
          refine wpAnyH_ready (rs := [10]) (by kernel_rfl) (by simp) ?_
          refine AllReadyH.cons rfl (fun K hK => ?_) AllReadyH.nil
          go_simp
          go_at_call 20
          refine (leq_eq lp lq r2 F2.out _ _ _ _ _ _ _ (LabAt.over h2.1 LP1.out) (LabAt.over h2.1 LQ.out)).mono ?_
          rintro e wq2 ⟨rfl, bq⟩
          go_wp2_with fail
          have bX := bel2 h2.1 bq
          refine hK.out _ _ ?_ (fun h3 => ?_)
          · exact ⟨bX, cellOver bX p0, cellOver bX p1, cellOver bX p2, cellOver bX p3, cellOver bX q0, cellOver bX q1, cellOver bX q2, cellOver bX q3⟩
          clear hK K h2 bX bq
          try simp only [List.getElem_toArray, List.getElem_cons_succ, List.getElem_cons_zero, Act.put, List.setIfInBounds_toArray, List.set_cons_zero, List.set_cons_succ]
          refine wpAnyH_ready (rs := [13]) (by kernel_rfl) (by simp) ?_
          refine AllReadyH.cons rfl (fun K hK => ?_) AllReadyH.nil
          go_simp
          go_at_call 21
          refine (refLeq_eq lp lq r2 F2.out _ _ _ _ _ _ _ (LabAt.over h3.1 LP1.out) (LabAt.over h3.1 LQ.out)).mono ?_
          rintro e wq3 ⟨rfl, bq⟩
          go_wp2_with fail
          have bX := bel2 h3.1 bq
          refine hK.out _ _ ?_ (fun h4 => ?_)
          · exact ⟨bX, cellOver bX p0, cellOver bX p1, cellOver bX p2, cellOver bX p3, cellOver bX q0, cellOver bX q1, cellOver bX q2, cellOver bX q3⟩
          clear hK K h3 bX bq
          try simp only [List.getElem_toArray, List.getElem_cons_succ, List.getElem_cons_zero, Act.put, List.setIfInBounds_toArray, List.set_cons_zero, List.set_cons_succ]
          refine wpAnyH_take (i := 14) (v := ?_) rfl (by kernel_rfl) (by kernel_rfl) (by kernel_rfl) (fun _ _ _ h => h) (Or.inl ⟨by rfl, ?_⟩) h4 ?_
          rotate_left
          · (intro w hSw; (try dsimp only at hSw); go_simp); all_goals (with_reducible rfl)
          try simp only [List.getElem_toArray, List.getElem_cons_succ, List.getElem_cons_zero, Act.put, List.setIfInBounds_toArray, List.set_cons_zero, List.set_cons_succ]
          refine wpAnyH_take (i := 15) (v := ?_) rfl (by kernel_rfl) (by kernel_rfl) (by kernel_rfl) (fun _ _ _ h => h) (Or.inl ⟨by rfl, ?_⟩) h4 ?_
          rotate_left
          · (intro w hSw; (try dsimp only at hSw); go_simp); all_goals (with_reducible rfl)
          try simp only [List.getElem_toArray, List.getElem_cons_succ, List.getElem_cons_zero, Act.put, List.setIfInBounds_toArray, List.set_cons_zero, List.set_cons_succ]
          refine wpAnyH_take (i := 16) (v := ?_) rfl (by kernel_rfl) (by kernel_rfl) (by kernel_rfl) (fun _ _ _ h => h) (Or.inl ⟨by rfl, ?_⟩) h4 ?_
          rotate_left
          · (intro w hSw; (try dsimp only at hSw); go_simp); all_goals (with_reducible rfl)
          try simp only [List.getElem_toArray, List.getElem_cons_succ, List.getElem_cons_zero, Act.put, List.setIfInBounds_toArray, List.set_cons_zero, List.set_cons_succ]
          refine wpAnyH_take (i := 17) (v := ?_) rfl (by kernel_rfl) (by kernel_rfl) (by kernel_rfl) (fun _ _ _ h => h) (Or.inl ⟨by rfl, ?_⟩) h4 ?_
          rotate_left
          · (intro w hSw; (try dsimp only at hSw); go_simp); all_goals (with_reducible rfl)
          try simp only [List.getElem_toArray, List.getElem_cons_succ, List.getElem_cons_zero, Act.put, List.setIfInBounds_toArray, List.set_cons_zero, List.set_cons_succ]
          refine wpAnyH_take (i := 18) (v := ?_) rfl (by kernel_rfl) (by kernel_rfl) (by kernel_rfl) (fun _ _ _ h => h) (Or.inl ⟨by rfl, ?_⟩) h4 ?_
          rotate_left
          · (intro w hSw; (try dsimp only at hSw); go_simp); all_goals (with_reducible rfl)
          try simp only [List.getElem_toArray, List.getElem_cons_succ, List.getElem_cons_zero, Act.put, List.setIfInBounds_toArray, List.set_cons_zero, List.set_cons_succ]
          refine wpAnyH_take (i := 20) (v := ?_) rfl (by kernel_rfl) (by kernel_rfl) (by kernel_rfl) (fun _ _ _ h => h) (Or.inl ⟨by rfl, ?_⟩) h4 ?_
          rotate_left
          · (intro w hSw; (try dsimp only at hSw); go_simp); all_goals (with_reducible rfl)
          try simp only [List.getElem_toArray, List.getElem_cons_succ, List.getElem_cons_zero, Act.put, List.setIfInBounds_toArray, List.set_cons_zero, List.set_cons_succ]
          refine wpAnyH_take (i := 21) (v := ?_) rfl (by kernel_rfl) (by kernel_rfl) (by kernel_rfl) (fun _ _ _ h => h) (Or.inl ⟨by rfl, ?_⟩) h4 ?_
          rotate_left
          · (intro w hSw; (try dsimp only at hSw); go_simp); all_goals (with_reducible rfl)
          try simp only [List.getElem_toArray, List.getElem_cons_succ, List.getElem_cons_zero, Act.put, List.setIfInBounds_toArray, List.set_cons_zero, List.set_cons_succ]
          refine wpAnyH_ready (rs := [19]) (by kernel_rfl) (by simp) ?_
          refine AllReadyH.cons rfl (fun K hK => ?_) AllReadyH.nil
          go_simp
          go_at_call 22
          refine (join_eq lp lq lpq F3.out _ _ _ _ _ _ _ (LabAt.over h4.1 LP1.out) (LabAt.over h4.1 LQ.out)).mono ?_
          rintro e wq4 ⟨av1, nv1, cv1, rfl, Lv1, Ov1, bq⟩
          go_wp2_with fail
          have bX := bel2 h4.1 bq
          refine hK.out _ _ ?_ (fun h5 => ?_)
          · exact ⟨bX, cellOver bX p0, cellOver bX p1, cellOver bX p2, cellOver bX p3, cellOver bX q0, cellOver bX q1, cellOver bX q2, cellOver bX q3⟩
          clear hK K h4 bX bq Ov1
          try simp only [List.getElem_toArray, List.getElem_cons_succ, List.getElem_cons_zero, Act.put, List.setIfInBounds_toArray, List.set_cons_zero, List.set_cons_succ]
          refine wpAnyH_ready (rs := [22]) (by kernel_rfl) (by simp) ?_
          refine AllReadyH.cons rfl (fun K hK => ?_) AllReadyH.nil
          go_simp
          go_at_call 23
          refine (refJoin_eq lp lq lpq F3.out _ _ _ _ _ _ _ (LabAt.over h5.1 LP1.out) (LabAt.over h5.1 LQ.out)).mono ?_
          rintro e wq5 ⟨av2, nv2, cv2, rfl, Lv2, Ov2, bq⟩
          replace Lv1 := Lv1.over bq
          go_wp2_with fail
          have bX := bel2 h5.1 bq
          refine hK.out _ _ ?_ (fun h6 => ?_)
          · exact ⟨bX, cellOver bX p0, cellOver bX p1, cellOver bX p2, cellOver bX p3, cellOver bX q0, cellOver bX q1, cellOver bX q2, cellOver bX q3⟩
          clear hK K h5 bX bq Ov2
          try simp only [List.getElem_toArray, List.getElem_cons_succ, List.getElem_cons_zero, Act.put, List.setIfInBounds_toArray, List.set_cons_zero, List.set_cons_succ]
          refine wpAnyH_ready (rs := [23]) (by kernel_rfl) (by simp) ?_
          refine AllReadyH.cons rfl (fun K hK => ?_) AllReadyH.nil
          go_simp
          go_at_call 19
          refine (refSame_eq lpq lpq true F4.out _ _ _ _ _ _ _ Lv1 Lv2).mono ?_
          rintro e wq6 ⟨rfl, bq⟩
          go_wp2_with fail
          have bX := bel2 h6.1 bq
          refine hK.out _ _ ?_ (fun h7 => ?_)
          · exact ⟨bX, cellOver bX p0, cellOver bX p1, cellOver bX p2, cellOver bX p3, cellOver bX q0, cellOver bX q1, cellOver bX q2, cellOver bX q3⟩
          clear hK K h6 bX bq
          try simp only [List.getElem_toArray, List.getElem_cons_succ, List.getElem_cons_zero, Act.put, List.setIfInBounds_toArray, List.set_cons_zero, List.set_cons_succ]
          refine wpAnyH_take (i := 24) (v := ?_) rfl (by kernel_rfl) (by kernel_rfl) (by kernel_rfl) (fun _ _ _ h => h) (Or.inl ⟨by rfl, ?_⟩) h7 ?_
          rotate_left
          · (intro w hSw; (try dsimp only at hSw); go_simp); all_goals (with_reducible rfl)
          try simp only [List.getElem_toArray, List.getElem_cons_succ, List.getElem_cons_zero, Act.put, List.setIfInBounds_toArray, List.set_cons_zero, List.set_cons_succ]
          refine wpAnyH_take (i := 25) (v := ?_) rfl (by kernel_rfl) (by kernel_rfl) (by kernel_rfl) (fun _ _ _ h => h) (Or.inl ⟨by rfl, ?_⟩) h7 ?_
          rotate_left
          · (intro w hSw; (try dsimp only at hSw); go_simp); all_goals (with_reducible rfl)
          try simp only [List.getElem_toArray, List.getElem_cons_succ, List.getElem_cons_zero, Act.put, List.setIfInBounds_toArray, List.set_cons_zero, List.set_cons_succ]
          refine wpAnyH_done (by kernel_rfl) ?_ _
          have bz := bel2 bj3 h7.1
          clear h7 ne1 ne2 p0 p1 p2 p3 q0 q1 q2 q3
          go_wp2
          exact ⟨⟨j + 1, by omega, by go_num, bz⟩, by simp [intOf]; omega⟩
        · obtain rfl : j = 6 := by omega
          have bz := bel2 b1 bj
          go_wp2
          exact ⟨⟨k + 1, by omega, by go_num, bz⟩, by simp [intOf]; omega⟩
    · obtain rfl : k = 6 := by omega
      have bz := bel2 bw br
      go_wp2
      go_ret
      exact ⟨rfl, bz⟩
end Go.Proofs.Ythpginepnleokaa
