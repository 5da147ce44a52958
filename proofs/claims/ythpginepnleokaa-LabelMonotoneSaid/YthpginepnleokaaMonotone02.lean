/- LabelMonotone: the walk of the statement's text. -/
import Derived.Test.YthpginepnleokaaLabT
import Derived.Lib.BufferOwn
import Derived.Deep.RegionHeld3
import Derived.RegionTactic
import Derived.Deep.CutRange
namespace Go.Proofs.Ythpginepnleokaa
open Go.RowKit
set_option linter.unusedSimpArgs false
set_option linter.unusedVariables false
set_option linter.unnecessarySimpa false
theorem own_over {w w' : World} {base : Nat} {e : TypeId} {size : Nat} {v : Value} {n : Nat} {xs : List Value} (h : w.ownsRow base e size v n xs) (hb : Below w.heap.size w w') : w'.ownsRow base e size v n xs :=
  ⟨h.1, h.2.imp id (fun ⟨g, cap, cur, h1, h2, h3, h4⟩ => ⟨g, cap, cur, h1, h2, blockOver hb h3, h4⟩)⟩
set_option maxRecDepth 100000 in
set_option maxHeartbeats 32000000 in
theorem monotone_walk (x0 x1 x2 x3 y0 y1 y2 y3 z0 z1 z2 z3 : Int) (w : World) (hx : B4 x0 x1 x2 x3) (hy : B4 y0 y1 y2 y3) (hz : B4 z0 z1 z2 z3) :
    Calls Try.prog 9 #[.agg #[.int .i64 x0, .int .i64 x1, .int .i64 x2, .int .i64 x3], .agg #[.int .i64 y0, .int .i64 y1, .int .i64 y2, .int .i64 y3], .agg #[.int .i64 z0, .int .i64 z1, .int .i64 z2, .int .i64 z3]] w fun e w' => e = .returned (.bool true) ∧ Below w.heap.size w w' := by
  obtain ⟨la, _, okA, KA⟩ := make_eq _ _ _ _ hx
  obtain ⟨ly, _, okY, KY⟩ := make_eq _ _ _ _ hy
  obtain ⟨lb, hlb⟩ : ∃ l, joinL la ly = l := ⟨_, rfl⟩
  have okB := Lib.hid (show Ok lb by rw [← hlb]; exact joinL_ok _ _)
  have EB := Lib.hid hlb
  have EM := Lib.hid (show leB la lb = true by rw [← hlb]; exact (le_join okA.out okY.out).1)
  have bz0 := hz.1
  have bz1 := hz.2.1
  have bz2 := hz.2.2.1
  have bz3 := hz.2.2.2
  clear hlb hx hy hz
  obtain ⟨hX, hY, hZ, bw⟩ := three_allocs w (.cells #[.int .i64 x0, .int .i64 x1, .int .i64 x2, .int .i64 x3] 22) (.cells #[.int .i64 y0, .int .i64 y1, .int .i64 y2, .int .i64 y3] 22) (.cells #[.int .i64 z0, .int .i64 z1, .int .i64 z2, .int .i64 z3] 22)
  have HX := Lib.hid hX
  have HY := Lib.hid hY
  have HZ := Lib.hid hZ
  clear hX hY hZ
  go_enter Try.func9, Try.ntmps9
  obtain ⟨hxq0, hxq1, hxq2, hxq3⟩ := cells4 HX.out
  obtain ⟨hyq0, hyq1, hyq2, hyq3⟩ := cells4 HY.out
  obtain ⟨hzq0, hzq1, hzq2, hzq3⟩ := cells4 HZ.out
  go_wp2_with fail
  refine (sane_any _).mono ?_
  rintro e w1 ⟨rfl, bq⟩
  replace HX := Lib.hid (blockOver bq HX.out)
  replace HY := Lib.hid (blockOver bq HY.out)
  replace HZ := Lib.hid (blockOver bq HZ.out)
  replace bw := bel2 bw bq
  clear bq hxq0 hxq1 hxq2 hxq3 hyq0 hyq1 hyq2 hyq3 hzq0 hzq1 hzq2 hzq3
  obtain ⟨hxq0, hxq1, hxq2, hxq3⟩ := cells4 HX.out
  go_wp2_with fail
  refine (KA.out _).mono ?_
  rintro e w2 ⟨aA, nA, cA, rfl, LA, OA, bq⟩
  have HA := Lib.hid (heap_alloc_new w2 (.cells #[.int .i64 la.u, .slice aA nA cA, .int .i64 la.ap, .int .i64 la.d] 26))
  replace LA := Lib.hid (LA.over (below_alloc w2 (.cells #[.int .i64 la.u, .slice aA nA cA, .int .i64 la.ap, .int .i64 la.d] 26)))
  replace bq := bel2 bq (below_alloc w2 (.cells #[.int .i64 la.u, .slice aA nA cA, .int .i64 la.ap, .int .i64 la.d] 26))
  replace HX := Lib.hid (blockOver bq HX.out)
  replace HY := Lib.hid (blockOver bq HY.out)
  replace HZ := Lib.hid (blockOver bq HZ.out)
  replace bw := bel2 bw bq
  clear bq OA hxq0 hxq1 hxq2 hxq3
  obtain ⟨haq0, haq1, haq2, haq3⟩ := cells4 HA.out
  obtain ⟨hyq0, hyq1, hyq2, hyq3⟩ := cells4 HY.out
  go_wp2_with fail
  go_cut [9] from 19 to 22 (fun s wr => ∃ q a n c, s = .pointer (some ⟨q, 0, none⟩) ∧ wr.heap[q]? = some (.cells #[.int .i64 lb.u, .slice a n c, .int .i64 lb.ap, .int .i64 lb.d] 26 (0, 0)) ∧ LabAt wr a n c lb ∧ Below (w2.alloc (.cells #[.int .i64 la.u, .slice aA nA cA, .int .i64 la.ap, .int .i64 la.d] 26)).heap.size (w2.alloc (.cells #[.int .i64 la.u, .slice aA nA cA, .int .i64 la.ap, .int .i64 la.d] 26)) wr)
  case first =>
    have bc := Below.refl (w2.alloc (.cells #[.int .i64 la.u, .slice aA nA cA, .int .i64 la.ap, .int .i64 la.d] 26)).heap.size (w2.alloc (.cells #[.int .i64 la.u, .slice aA nA cA, .int .i64 la.ap, .int .i64 la.d] 26))
    refine wp_region_held_drew (S := fun w' => Below (w2.alloc (.cells #[.int .i64 la.u, .slice aA nA cA, .int .i64 la.ap, .int .i64 la.d] 26)).heap.size (w2.alloc (.cells #[.int .i64 la.u, .slice aA nA cA, .int .i64 la.ap, .int .i64 la.d] 26)) w' ∧ w'.cell? ⟨w2.heap.size, 0, none⟩ = some (.int .i64 la.u) ∧ w'.cell? ⟨w2.heap.size, 1, none⟩ = some (.slice aA nA cA) ∧ w'.cell? ⟨w2.heap.size, 2, none⟩ = some (.int .i64 la.ap) ∧ w'.cell? ⟨w2.heap.size, 3, none⟩ = some (.int .i64 la.d) ∧ w'.cell? ⟨w.heap.size + 1, 0, none⟩ = some (.int .i64 y0) ∧ w'.cell? ⟨w.heap.size + 1, 1, none⟩ = some (.int .i64 y1) ∧ w'.cell? ⟨w.heap.size + 1, 2, none⟩ = some (.int .i64 y2) ∧ w'.cell? ⟨w.heap.size + 1, 3, none⟩ = some (.int .i64 y3)) (by kernel_rfl) ?_ (fun h0 => ?_)
    · exact ⟨bc.drew, haq0, haq1, haq2, haq3, hyq0, hyq1, hyq2, hyq3⟩
    refine wpAnyH_take (i := 0) (v := ?_) rfl (by kernel_rfl) (by kernel_rfl) (by kernel_rfl) (fun _ _ _ h => h) (Or.inl ⟨by rfl, ?_⟩) h0 ?_
    rotate_left
    · (intro w hSw; (try dsimp only at hSw); go_simp); all_goals (with_reducible rfl)
    try simp only [List.getElem_toArray, List.getElem_cons_succ, List.getElem_cons_zero, Act.put, List.setIfInBounds_toArray, List.set_cons_zero, List.set_cons_succ]
    refine wpAnyH_take (i := 1) (v := ?_) rfl (by kernel_rfl) (by kernel_rfl) (by kernel_rfl) (fun _ _ _ h => h) (Or.inl ⟨by rfl, ?_⟩) h0 ?_
    rotate_left
    · (intro w hSw; (try dsimp only at hSw); go_simp); all_goals (with_reducible rfl)
    try simp only [List.getElem_toArray, List.getElem_cons_succ, List.getElem_cons_zero, Act.put, List.setIfInBounds_toArray, List.set_cons_zero, List.set_cons_succ]
    refine wpAnyH_ready (rs := [2, 4]) (by kernel_rfl) (by simp) ?_
    refine AllReadyH.cons rfl (fun K hK => ?_) (AllReadyH.cons rfl (fun K hK => ?_) AllReadyH.nil)
    · skip
      go_simp
      go_at_call 14
      refine (KY.out _).mono ?_
      rintro e wy ⟨ay, ny, cy, rfl, Ly, Oy, bq⟩
      go_wp2_with fail
      have bX := bel2 h0.1 bq
      clear Oy
      refine hK.out _ _ ?_ (fun h1 => ?_)
      · exact ⟨bX, cellOver bX haq0, cellOver bX haq1, cellOver bX haq2, cellOver bX haq3, cellOver bX hyq0, cellOver bX hyq1, cellOver bX hyq2, cellOver bX hyq3⟩
      clear hK K h0 bX bq
      try simp only [List.getElem_toArray, List.getElem_cons_succ, List.getElem_cons_zero, Act.put, List.setIfInBounds_toArray, List.set_cons_zero, List.set_cons_succ]
      refine wpAnyH_ready (rs := [3, 4]) (by kernel_rfl) (by simp) ?_
      refine AllReadyH.cons rfl (fun K hK => ?_) (AllReadyH.cons rfl (fun K hK => ?_) AllReadyH.nil)
      · skip
        go_simp
        go_at_call 22
        refine (join_eq la ly lb EB.out _ _ _ _ _ _ _ (LabAt.over h1.1 LA.out) Ly).mono ?_
        rintro e wb ⟨ab, nb, cb, rfl, Lb, Ob, bq⟩
        go_wp2_with fail
        have bX := bel2 h1.1 bq
        skip
        have OB := Lib.hid Ob
        clear Ob
        refine hK.out _ _ ?_ (fun h2 => ?_)
        · exact ⟨bX, cellOver bX haq0, cellOver bX haq1, cellOver bX haq2, cellOver bX haq3, cellOver bX hyq0, cellOver bX hyq1, cellOver bX hyq2, cellOver bX hyq3⟩
        clear hK K h1 bX bq
        try simp only [List.getElem_toArray, List.getElem_cons_succ, List.getElem_cons_zero, Act.put, List.setIfInBounds_toArray, List.set_cons_zero, List.set_cons_succ]
        refine wpAnyH_ready (rs := [4]) (by kernel_rfl) (by simp) ?_
        refine AllReadyH.cons rfl (fun K hK => ?_) AllReadyH.nil
        go_simp
        obtain ⟨gg, hgg⟩ : ∃ gg, wb.heap.size = gg := ⟨_, rfl⟩
        have HG := Lib.hid (show (wb.alloc (.cells #[.int .i64 0, .slice none 0 0, .int .i64 0, .int .i64 0] 26)).heap[gg]? = some (.cells #[.int .i64 0, .slice none 0 0, .int .i64 0, .int .i64 0] 26 (0, 0)) from hgg ▸ heap_alloc_new wb (.cells #[.int .i64 0, .slice none 0 0, .int .i64 0, .int .i64 0] 26))
        have hgc : (w2.alloc (.cells #[.int .i64 la.u, .slice aA nA cA, .int .i64 la.ap, .int .i64 la.d] 26)).heap.size ≤ gg := by rw [← hgg]; exact h2.1.size
        have bX := bel2 h2.1 (below_alloc wb (.cells #[.int .i64 0, .slice none 0 0, .int .i64 0, .int .i64 0] 26))
        have HNE : Hid (Value.ownBlock (Value.slice ab nb cb) ≠ some gg) := Lib.hid (fun e => by have := (OB.out.lt _ e).2; omega)
        replace OB := Lib.hid (OB.out.alloc (.cells #[.int .i64 0, .slice none 0 0, .int .i64 0, .int .i64 0] 26))
        try rw [hgg]
        refine hK.out _ _ ?_ (fun h3 => ?_)
        · exact ⟨bX, cellOver bX haq0, cellOver bX haq1, cellOver bX haq2, cellOver bX haq3, cellOver bX hyq0, cellOver bX hyq1, cellOver bX hyq2, cellOver bX hyq3⟩
        clear hK K h2 bX
        try simp only [List.getElem_toArray, List.getElem_cons_succ, List.getElem_cons_zero, Act.put, List.setIfInBounds_toArray, List.set_cons_zero, List.set_cons_succ]
        try rw [hgg]
        clear hgg
        refine wpAnyH_ready (rs := [5]) (by kernel_rfl) (by simp) ?_
        refine AllReadyH.cons rfl (fun K hK => ?_) AllReadyH.nil
        obtain ⟨z0q, z1q, z2q, z3q⟩ := cells4 HG.out
        have f0 := Joins.unfrozen_of_block HG.out 0
        have f1 := Joins.unfrozen_of_block HG.out 1
        have f2 := Joins.unfrozen_of_block HG.out 2
        have f3 := Joins.unfrozen_of_block HG.out 3
        go_simp
        have hfin : (((((wb.alloc (.cells #[.int .i64 0, .slice none 0 0, .int .i64 0, .int .i64 0] 26)).setCell ⟨gg, 0, none⟩ (.int .i64 lb.u)).setCell ⟨gg, 1, none⟩ (.slice ab nb cb)).setCell ⟨gg, 2, none⟩ (.int .i64 lb.ap)).setCell ⟨gg, 3, none⟩ (.int .i64 lb.d)).heap[gg]? = some (.cells #[.int .i64 lb.u, .slice ab nb cb, .int .i64 lb.ap, .int .i64 lb.d] 26 (0, 0)) := Joins.block_setCell (Joins.block_setCell (Joins.block_setCell (Joins.block_setCell HG.out _) _) _) _
        have bX := (((h3.1.setCell (p := ⟨gg, 0, none⟩) hgc (.int .i64 lb.u)).setCell (p := ⟨gg, 1, none⟩) hgc (.slice ab nb cb)).setCell (p := ⟨gg, 2, none⟩) hgc (.int .i64 lb.ap)).setCell (p := ⟨gg, 3, none⟩) hgc (.int .i64 lb.d)
        have hlab := labAt_of_own okB.out ((((OB.out.kept (Lib.grownBy_setCell _ (gg) 0 (.int .i64 lb.u)) (.inr HNE.out)).kept (Lib.grownBy_setCell _ (gg) 1 (.slice ab nb cb)) (.inr HNE.out)).kept (Lib.grownBy_setCell _ (gg) 2 (.int .i64 lb.ap)) (.inr HNE.out)).kept (Lib.grownBy_setCell _ (gg) 3 (.int .i64 lb.d)) (.inr HNE.out))
        have bF := bX
        have HF := Lib.hid hfin
        have HLB := Lib.hid hlab
        clear hfin hlab z0q z1q z2q z3q f0 f1 f2 f3
        refine hK.out _ _ ?_ (fun h4 => ?_)
        · exact ⟨bX, cellOver bX haq0, cellOver bX haq1, cellOver bX haq2, cellOver bX haq3, cellOver bX hyq0, cellOver bX hyq1, cellOver bX hyq2, cellOver bX hyq3⟩
        clear hK K h3 bX
        try simp only [List.getElem_toArray, List.getElem_cons_succ, List.getElem_cons_zero, Act.put, List.setIfInBounds_toArray, List.set_cons_zero, List.set_cons_succ]
        refine wpAnyH_done (by kernel_rfl) ?_ _
        clear h4
        go_wp2_with fail
        go_meet
        exact ⟨gg, ab, nb, cb, rfl, HF.out, HLB.out, bF⟩
      · skip
        go_simp
        obtain ⟨gg, hgg⟩ : ∃ gg, wy.heap.size = gg := ⟨_, rfl⟩
        have HG := Lib.hid (show (wy.alloc (.cells #[.int .i64 0, .slice none 0 0, .int .i64 0, .int .i64 0] 26)).heap[gg]? = some (.cells #[.int .i64 0, .slice none 0 0, .int .i64 0, .int .i64 0] 26 (0, 0)) from hgg ▸ heap_alloc_new wy (.cells #[.int .i64 0, .slice none 0 0, .int .i64 0, .int .i64 0] 26))
        have hgc : (w2.alloc (.cells #[.int .i64 la.u, .slice aA nA cA, .int .i64 la.ap, .int .i64 la.d] 26)).heap.size ≤ gg := by rw [← hgg]; exact h1.1.size
        have bX := bel2 h1.1 (below_alloc wy (.cells #[.int .i64 0, .slice none 0 0, .int .i64 0, .int .i64 0] 26))
        have hly := Ly.over (below_alloc wy (.cells #[.int .i64 0, .slice none 0 0, .int .i64 0, .int .i64 0] 26))
        replace Ly := hly
        try rw [hgg]
        refine hK.out _ _ ?_ (fun h2 => ?_)
        · exact ⟨bX, cellOver bX haq0, cellOver bX haq1, cellOver bX haq2, cellOver bX haq3, cellOver bX hyq0, cellOver bX hyq1, cellOver bX hyq2, cellOver bX hyq3⟩
        clear hK K h1 bX
        try simp only [List.getElem_toArray, List.getElem_cons_succ, List.getElem_cons_zero, Act.put, List.setIfInBounds_toArray, List.set_cons_zero, List.set_cons_succ]
        try rw [hgg]
        clear hgg
        refine wpAnyH_ready (rs := [3]) (by kernel_rfl) (by simp) ?_
        refine AllReadyH.cons rfl (fun K hK => ?_) AllReadyH.nil
        go_simp
        go_at_call 22
        refine (join_eq la ly lb EB.out _ _ _ _ _ _ _ (LabAt.over h2.1 LA.out) Ly).mono ?_
        rintro e wb ⟨ab, nb, cb, rfl, Lb, Ob, bq⟩
        go_wp2_with fail
        have bX := bel2 h2.1 bq
        have hgl := (Array.getElem?_eq_some_iff.1 HG.out).1
        replace HG := Lib.hid (blockOver bq HG.out)
        have HNE : Hid (Value.ownBlock (Value.slice ab nb cb) ≠ some gg) := Lib.hid (fun e => by have := (Ob.lt _ e).1; omega)
        clear hgl
        have OB := Lib.hid Ob
        clear Ob
        refine hK.out _ _ ?_ (fun h3 => ?_)
        · exact ⟨bX, cellOver bX haq0, cellOver bX haq1, cellOver bX haq2, cellOver bX haq3, cellOver bX hyq0, cellOver bX hyq1, cellOver bX hyq2, cellOver bX hyq3⟩
        clear hK K h2 bX bq
        try simp only [List.getElem_toArray, List.getElem_cons_succ, List.getElem_cons_zero, Act.put, List.setIfInBounds_toArray, List.set_cons_zero, List.set_cons_succ]
        refine wpAnyH_ready (rs := [5]) (by kernel_rfl) (by simp) ?_
        refine AllReadyH.cons rfl (fun K hK => ?_) AllReadyH.nil
        obtain ⟨z0q, z1q, z2q, z3q⟩ := cells4 HG.out
        have f0 := Joins.unfrozen_of_block HG.out 0
        have f1 := Joins.unfrozen_of_block HG.out 1
        have f2 := Joins.unfrozen_of_block HG.out 2
        have f3 := Joins.unfrozen_of_block HG.out 3
        go_simp
        have hfin : ((((wb.setCell ⟨gg, 0, none⟩ (.int .i64 lb.u)).setCell ⟨gg, 1, none⟩ (.slice ab nb cb)).setCell ⟨gg, 2, none⟩ (.int .i64 lb.ap)).setCell ⟨gg, 3, none⟩ (.int .i64 lb.d)).heap[gg]? = some (.cells #[.int .i64 lb.u, .slice ab nb cb, .int .i64 lb.ap, .int .i64 lb.d] 26 (0, 0)) := Joins.block_setCell (Joins.block_setCell (Joins.block_setCell (Joins.block_setCell HG.out _) _) _) _
        have bX := (((h3.1.setCell (p := ⟨gg, 0, none⟩) hgc (.int .i64 lb.u)).setCell (p := ⟨gg, 1, none⟩) hgc (.slice ab nb cb)).setCell (p := ⟨gg, 2, none⟩) hgc (.int .i64 lb.ap)).setCell (p := ⟨gg, 3, none⟩) hgc (.int .i64 lb.d)
        have hlab := labAt_of_own okB.out ((((OB.out.kept (Lib.grownBy_setCell _ (gg) 0 (.int .i64 lb.u)) (.inr HNE.out)).kept (Lib.grownBy_setCell _ (gg) 1 (.slice ab nb cb)) (.inr HNE.out)).kept (Lib.grownBy_setCell _ (gg) 2 (.int .i64 lb.ap)) (.inr HNE.out)).kept (Lib.grownBy_setCell _ (gg) 3 (.int .i64 lb.d)) (.inr HNE.out))
        have bF := bX
        have HF := Lib.hid hfin
        have HLB := Lib.hid hlab
        clear hfin hlab z0q z1q z2q z3q f0 f1 f2 f3
        refine hK.out _ _ ?_ (fun h4 => ?_)
        · exact ⟨bX, cellOver bX haq0, cellOver bX haq1, cellOver bX haq2, cellOver bX haq3, cellOver bX hyq0, cellOver bX hyq1, cellOver bX hyq2, cellOver bX hyq3⟩
        clear hK K h3 bX
        try simp only [List.getElem_toArray, List.getElem_cons_succ, List.getElem_cons_zero, Act.put, List.setIfInBounds_toArray, List.set_cons_zero, List.set_cons_succ]
        refine wpAnyH_done (by kernel_rfl) ?_ _
        clear h4
        go_wp2_with fail
        go_meet
        exact ⟨gg, ab, nb, cb, rfl, HF.out, HLB.out, bF⟩
    · skip
      go_simp
      have HG0 : ((w2.alloc (.cells #[.int .i64 la.u, .slice aA nA cA, .int .i64 la.ap, .int .i64 la.d] 26)).alloc (.cells #[.int .i64 0, .slice none 0 0, .int .i64 0, .int .i64 0] 26)).drew.heap[w2.heap.size + 1]? = some (.cells #[.int .i64 0, .slice none 0 0, .int .i64 0, .int .i64 0] 26 (0, 0)) := by
        have h := heap_alloc_new (w2.alloc (.cells #[.int .i64 la.u, .slice aA nA cA, .int .i64 la.ap, .int .i64 la.d] 26)) (.cells #[.int .i64 0, .slice none 0 0, .int .i64 0, .int .i64 0] 26)
        rw [show (w2.alloc (.cells #[.int .i64 la.u, .slice aA nA cA, .int .i64 la.ap, .int .i64 la.d] 26)).heap.size = w2.heap.size + 1 by simp] at h
        exact h
      have HG := Lib.hid HG0
      have hgc : (w2.alloc (.cells #[.int .i64 la.u, .slice aA nA cA, .int .i64 la.ap, .int .i64 la.d] 26)).heap.size ≤ w2.heap.size + 1 := by simp
      have bX := (below_alloc (w2.alloc (.cells #[.int .i64 la.u, .slice aA nA cA, .int .i64 la.ap, .int .i64 la.d] 26)) (.cells #[.int .i64 0, .slice none 0 0, .int .i64 0, .int .i64 0] 26)).drew
      clear HG0
      refine hK.out _ _ ?_ (fun h1 => ?_)
      · exact ⟨bX, cellOver bX haq0, cellOver bX haq1, cellOver bX haq2, cellOver bX haq3, cellOver bX hyq0, cellOver bX hyq1, cellOver bX hyq2, cellOver bX hyq3⟩
      clear hK K h0 bX
      try simp only [List.getElem_toArray, List.getElem_cons_succ, List.getElem_cons_zero, Act.put, List.setIfInBounds_toArray, List.set_cons_zero, List.set_cons_succ]
      refine wpAnyH_ready (rs := [2]) (by kernel_rfl) (by simp) ?_
      refine AllReadyH.cons rfl (fun K hK => ?_) AllReadyH.nil
      go_simp
      go_at_call 14
      refine (KY.out _).mono ?_
      rintro e wy ⟨ay, ny, cy, rfl, Ly, Oy, bq⟩
      go_wp2_with fail
      have bX := bel2 h1.1 bq
      replace HG := Lib.hid (blockOver bq HG.out)
      clear Oy
      refine hK.out _ _ ?_ (fun h2 => ?_)
      · exact ⟨bX, cellOver bX haq0, cellOver bX haq1, cellOver bX haq2, cellOver bX haq3, cellOver bX hyq0, cellOver bX hyq1, cellOver bX hyq2, cellOver bX hyq3⟩
      clear hK K h1 bX bq
      try simp only [List.getElem_toArray, List.getElem_cons_succ, List.getElem_cons_zero, Act.put, List.setIfInBounds_toArray, List.set_cons_zero, List.set_cons_succ]
      refine wpAnyH_ready (rs := [3]) (by kernel_rfl) (by simp) ?_
      refine AllReadyH.cons rfl (fun K hK => ?_) AllReadyH.nil
      go_simp
      go_at_call 22
      refine (join_eq la ly lb EB.out _ _ _ _ _ _ _ (LabAt.over h2.1 LA.out) Ly).mono ?_
      rintro e wb ⟨ab, nb, cb, rfl, Lb, Ob, bq⟩
      go_wp2_with fail
      have bX := bel2 h2.1 bq
      have hgl := (Array.getElem?_eq_some_iff.1 HG.out).1
      replace HG := Lib.hid (blockOver bq HG.out)
      have HNE : Hid (Value.ownBlock (Value.slice ab nb cb) ≠ some (w2.heap.size + 1)) := Lib.hid (fun e => by have := (Ob.lt _ e).1; omega)
      clear hgl
      have OB := Lib.hid Ob
      clear Ob
      refine hK.out _ _ ?_ (fun h3 => ?_)
      · exact ⟨bX, cellOver bX haq0, cellOver bX haq1, cellOver bX haq2, cellOver bX haq3, cellOver bX hyq0, cellOver bX hyq1, cellOver bX hyq2, cellOver bX hyq3⟩
      clear hK K h2 bX bq
      try simp only [List.getElem_toArray, List.getElem_cons_succ, List.getElem_cons_zero, Act.put, List.setIfInBounds_toArray, List.set_cons_zero, List.set_cons_succ]
      refine wpAnyH_ready (rs := [5]) (by kernel_rfl) (by simp) ?_
      refine AllReadyH.cons rfl (fun K hK => ?_) AllReadyH.nil
      obtain ⟨z0q, z1q, z2q, z3q⟩ := cells4 HG.out
      have f0 := Joins.unfrozen_of_block HG.out 0
      have f1 := Joins.unfrozen_of_block HG.out 1
      have f2 := Joins.unfrozen_of_block HG.out 2
      have f3 := Joins.unfrozen_of_block HG.out 3
      go_simp
      have hfin : ((((wb.setCell ⟨w2.heap.size + 1, 0, none⟩ (.int .i64 lb.u)).setCell ⟨w2.heap.size + 1, 1, none⟩ (.slice ab nb cb)).setCell ⟨w2.heap.size + 1, 2, none⟩ (.int .i64 lb.ap)).setCell ⟨w2.heap.size + 1, 3, none⟩ (.int .i64 lb.d)).heap[w2.heap.size + 1]? = some (.cells #[.int .i64 lb.u, .slice ab nb cb, .int .i64 lb.ap, .int .i64 lb.d] 26 (0, 0)) := Joins.block_setCell (Joins.block_setCell (Joins.block_setCell (Joins.block_setCell HG.out _) _) _) _
      have bX := (((h3.1.setCell (p := ⟨w2.heap.size + 1, 0, none⟩) hgc (.int .i64 lb.u)).setCell (p := ⟨w2.heap.size + 1, 1, none⟩) hgc (.slice ab nb cb)).setCell (p := ⟨w2.heap.size + 1, 2, none⟩) hgc (.int .i64 lb.ap)).setCell (p := ⟨w2.heap.size + 1, 3, none⟩) hgc (.int .i64 lb.d)
      have hlab := labAt_of_own okB.out ((((OB.out.kept (Lib.grownBy_setCell _ (w2.heap.size + 1) 0 (.int .i64 lb.u)) (.inr HNE.out)).kept (Lib.grownBy_setCell _ (w2.heap.size + 1) 1 (.slice ab nb cb)) (.inr HNE.out)).kept (Lib.grownBy_setCell _ (w2.heap.size + 1) 2 (.int .i64 lb.ap)) (.inr HNE.out)).kept (Lib.grownBy_setCell _ (w2.heap.size + 1) 3 (.int .i64 lb.d)) (.inr HNE.out))
      have bF := bX
      have HF := Lib.hid hfin
      have HLB := Lib.hid hlab
      clear hfin hlab z0q z1q z2q z3q f0 f1 f2 f3
      refine hK.out _ _ ?_ (fun h4 => ?_)
      · exact ⟨bX, cellOver bX haq0, cellOver bX haq1, cellOver bX haq2, cellOver bX haq3, cellOver bX hyq0, cellOver bX hyq1, cellOver bX hyq2, cellOver bX hyq3⟩
      clear hK K h3 bX
      try simp only [List.getElem_toArray, List.getElem_cons_succ, List.getElem_cons_zero, Act.put, List.setIfInBounds_toArray, List.set_cons_zero, List.set_cons_succ]
      refine wpAnyH_done (by kernel_rfl) ?_ _
      clear h4
      go_wp2_with fail
      go_meet
      exact ⟨w2.heap.size + 1, ab, nb, cb, rfl, HF.out, HLB.out, bF⟩
  case rest =>
    obtain ⟨q, aB, nB, cB, rfl, hqb, hLB, bc⟩ := hcut
    have HB := Lib.hid hqb
    have LB := Lib.hid hLB
    replace HZ := Lib.hid (blockOver bc HZ.out)
    replace LA := Lib.hid (LA.out.over bc)
    replace HA := Lib.hid (blockOver bc HA.out)
    replace bw := bel2 bw bc
    have hn64 : nB ≤ 64 := by have h1 := hLB.1.1; have h2 := asc_len okB.out.2.2.1 okB.out.2.1; omega
    have hsl := stories_len z1
    have hsl3 := stories_len z3
    obtain ⟨i0, hi, hz0, hz1, hz2⟩ := info_parts intInfo
    obtain ⟨⟨ub0, ub1⟩, -, -, -⟩ := okB.out
    clear hqb hLB bc HX HY KA KY okY EB haq0 haq1 haq2 haq3 hyq0 hyq1 hyq2 hyq3
    obtain ⟨p0, p1, p2, p3⟩ := cells4 HB.out
    obtain ⟨z0q, z1q, z2q, z3q⟩ := cells4 HZ.out
    go_wp2_with fail
    have bc := Below.refl wc.heap.size wc
    refine wp_region_held_drew (S := fun w' => Below wc.heap.size wc w' ∧ w'.cell? ⟨q, 0, none⟩ = some (.int .i64 lb.u) ∧ w'.cell? ⟨q, 1, none⟩ = some (.slice aB nB cB) ∧ w'.cell? ⟨q, 2, none⟩ = some (.int .i64 lb.ap) ∧ w'.cell? ⟨q, 3, none⟩ = some (.int .i64 lb.d) ∧ w'.cell? ⟨w.heap.size + 1 + 1, 0, none⟩ = some (.int .i64 z0) ∧ w'.cell? ⟨w.heap.size + 1 + 1, 1, none⟩ = some (.int .i64 z1) ∧ w'.cell? ⟨w.heap.size + 1 + 1, 2, none⟩ = some (.int .i64 z2) ∧ w'.cell? ⟨w.heap.size + 1 + 1, 3, none⟩ = some (.int .i64 z3)) (by kernel_rfl) ?_ (fun h0 => ?_)
    · exact ⟨bc.drew, p0, p1, p2, p3, z0q, z1q, z2q, z3q⟩
    refine wpAnyH_take (i := 0) (v := ?_) rfl (by kernel_rfl) (by kernel_rfl) (by kernel_rfl) (fun _ _ _ h => h) (Or.inl ⟨by rfl, ?_⟩) h0 ?_
    rotate_left
    · (intro w hSw; (try dsimp only at hSw); go_simp); all_goals (with_reducible rfl)
    try simp only [List.getElem_toArray, List.getElem_cons_succ, List.getElem_cons_zero, Act.put, List.setIfInBounds_toArray, List.set_cons_zero, List.set_cons_succ]
    refine wpAnyH_take (i := 1) (v := ?_) rfl (by kernel_rfl) (by kernel_rfl) (by kernel_rfl) (fun _ _ _ h => h) (Or.inl ⟨by rfl, ?_⟩) h0 ?_
    rotate_left
    · (intro w hSw; (try dsimp only at hSw); go_simp); all_goals (with_reducible rfl)
    try simp only [List.getElem_toArray, List.getElem_cons_succ, List.getElem_cons_zero, Act.put, List.setIfInBounds_toArray, List.set_cons_zero, List.set_cons_succ]
    refine wpAnyH_take (i := 3) (v := ?_) rfl (by kernel_rfl) (by kernel_rfl) (by kernel_rfl) (fun _ _ _ h => h) (Or.inl ⟨by rfl, ?_⟩) h0 ?_
    rotate_left
    · (intro w hSw; (try dsimp only at hSw); go_simp); all_goals (with_reducible rfl)
    try simp only [List.getElem_toArray, List.getElem_cons_succ, List.getElem_cons_zero, Act.put, List.setIfInBounds_toArray, List.set_cons_zero, List.set_cons_succ]
    refine wpAnyH_take (i := 4) (v := ?_) rfl (by kernel_rfl) (by kernel_rfl) (by kernel_rfl) (fun _ _ _ h => h) (Or.inl ⟨by rfl, ?_⟩) h0 ?_
    rotate_left
    · (intro w hSw; (try dsimp only at hSw); go_simp); all_goals (with_reducible rfl)
    try simp only [List.getElem_toArray, List.getElem_cons_succ, List.getElem_cons_zero, Act.put, List.setIfInBounds_toArray, List.set_cons_zero, List.set_cons_succ]
    refine wpAnyH_ready (rs := [2]) (by kernel_rfl) (by simp) ?_
    refine AllReadyH.cons rfl (fun K hK => ?_) AllReadyH.nil
    go_simp
    go_at_call 26
    refine (stories_any z1 _ bz1).mono ?_
    rintro e wq1 ⟨aS, nS, cS, rfl, IS, OS, bq⟩
    have hls := IS.1
    go_wp2_with fail
    have bX := bel2 h0.1 bq
    clear bq
    refine hK.out _ _ ?_ (fun h1 => ?_)
    · exact ⟨bX, cellOver bX p0, cellOver bX p1, cellOver bX p2, cellOver bX p3, cellOver bX z0q, cellOver bX z1q, cellOver bX z2q, cellOver bX z3q⟩
    clear hK K h0 bX
    try simp only [List.getElem_toArray, List.getElem_cons_succ, List.getElem_cons_zero, Act.put, List.setIfInBounds_toArray, List.set_cons_zero, List.set_cons_succ]
    refine wpAnyH_ready (rs := [5]) (by kernel_rfl) (by simp) ?_
    refine AllReadyH.cons rfl (fun K hK => ?_) AllReadyH.nil
    rw [if_pos (by rfl)]
    obtain ⟨v1, wa, hr1, own1, hg1, -, -⟩ := run_append_ints wq1 wc.heap.size _ nS _ OS aB nB cB lb.af (LB.out.over h1.1).1 (by omega) h1.1.size
    obtain ⟨aO, cO, rfl⟩ := own_slice own1
    refine Lib.wp_append_run _ (.tmp 25) (.tmp 27) 23 23 rfl _ _ rfl rfl _ _ hr1 ?_
    have bX := grownBy_own_below h1.1 OS h1.1.size hg1
    clear hr1 hg1 OS IS
    refine hK.out _ _ ?_ (fun h2 => ?_)
    · exact ⟨bX, cellOver bX p0, cellOver bX p1, cellOver bX p2, cellOver bX p3, cellOver bX z0q, cellOver bX z1q, cellOver bX z2q, cellOver bX z3q⟩
    clear hK K h1 bX
    try simp only [List.getElem_toArray, List.getElem_cons_succ, List.getElem_cons_zero, Act.put, List.setIfInBounds_toArray, List.set_cons_zero, List.set_cons_succ]
    refine wpAnyH_take (i := 6) (v := ?_) rfl (by kernel_rfl) (by kernel_rfl) (by kernel_rfl) (fun _ _ _ h => h) (Or.inl ⟨by rfl, ?_⟩) h2 ?_
    rotate_left
    · (intro w hSw; (try dsimp only at hSw); go_simp); all_goals (with_reducible rfl)
    try simp only [List.getElem_toArray, List.getElem_cons_succ, List.getElem_cons_zero, Act.put, List.setIfInBounds_toArray, List.set_cons_zero, List.set_cons_succ]
    refine wpAnyH_done (by kernel_rfl) ?_ _
    obtain ⟨out, hout⟩ : ∃ L : List Int, storiesL z1 ++ lb.af = L := ⟨_, rfl⟩
    have hlo : out.length ≤ 128 := by rw [← hout, List.length_append]; have := LB.out.1.1; omega
    have IU0 := ints_of_own (zs := storiesL z1 ++ lb.af) (by rw [List.map_append]; exact own1) (fun z hz => by
      rw [List.mem_append] at hz
      rcases hz with hz | hz
      · exact ok_ints (makeL_ok 0 z1 0 0) z hz
      · exact ok_ints okB.out z hz)
    rw [hout] at IU0
    have hno : nS + nB ≤ 128 := by have := IU0.1; omega
    have IU := Lib.hid IU0
    replace HB := Lib.hid (blockOver h2.1 HB.out)
    replace HA := Lib.hid (blockOver h2.1 HA.out)
    replace HZ := Lib.hid (blockOver h2.1 HZ.out)
    replace LA := Lib.hid (LA.out.over h2.1)
    replace LB := Lib.hid (LB.out.over h2.1)
    replace bw := bel2 bw h2.1
    clear own1 IU0 hout h2 p0 p1 p2 p3 z0q z1q z2q z3q bc hls
    obtain ⟨p0, p1, p2, p3⟩ := cells4 HB.out
    obtain ⟨z0q, z1q, z2q, z3q⟩ := cells4 HZ.out
    have hmk := fun W => run_make (P := Try.prog) W 23 3 i0 (.int .i64 0) Try.underlying23 hi hz0 .i64 .i64 0 140 (by omega) (by omega) (by rw [hz2]; omega) (by omega)
    simp only [hz1, Value.cells, Int.toNat_zero, show (140 : Int).toNat = 140 by rfl, Nat.mul_one] at hmk
    go_wp2_with fail
    have bc := Below.refl wa.heap.size wa
    refine wp_region_held_drew (S := fun w' => Below wa.heap.size wa w' ∧ w'.cell? ⟨q, 0, none⟩ = some (.int .i64 lb.u) ∧ w'.cell? ⟨q, 1, none⟩ = some (.slice aB nB cB) ∧ w'.cell? ⟨q, 2, none⟩ = some (.int .i64 lb.ap) ∧ w'.cell? ⟨q, 3, none⟩ = some (.int .i64 lb.d) ∧ w'.cell? ⟨w.heap.size + 1 + 1, 0, none⟩ = some (.int .i64 z0) ∧ w'.cell? ⟨w.heap.size + 1 + 1, 1, none⟩ = some (.int .i64 z1) ∧ w'.cell? ⟨w.heap.size + 1 + 1, 2, none⟩ = some (.int .i64 z2) ∧ w'.cell? ⟨w.heap.size + 1 + 1, 3, none⟩ = some (.int .i64 z3)) (by kernel_rfl) ?_ (fun h0 => ?_)
    · exact ⟨bc.drew, p0, p1, p2, p3, z0q, z1q, z2q, z3q⟩
    refine wpAnyH_take (i := 1) (v := ?_) rfl (by kernel_rfl) (by kernel_rfl) (by kernel_rfl) (fun _ _ _ h => h) (Or.inl ⟨by rfl, ?_⟩) h0 ?_
    rotate_left
    · (intro w hSw; (try dsimp only at hSw); go_simp); all_goals (with_reducible rfl)
    try simp only [List.getElem_toArray, List.getElem_cons_succ, List.getElem_cons_zero, Act.put, List.setIfInBounds_toArray, List.set_cons_zero, List.set_cons_succ]
    refine wpAnyH_take (i := 3) (v := ?_) rfl (by kernel_rfl) (by kernel_rfl) (by kernel_rfl) (fun _ _ _ h => h) (Or.inl ⟨by rfl, ?_⟩) h0 ?_
    rotate_left
    · (intro w hSw; (try dsimp only at hSw); go_simp); all_goals (with_reducible rfl)
    try simp only [List.getElem_toArray, List.getElem_cons_succ, List.getElem_cons_zero, Act.put, List.setIfInBounds_toArray, List.set_cons_zero, List.set_cons_succ]
    refine wpAnyH_take (i := 4) (v := ?_) rfl (by kernel_rfl) (by kernel_rfl) (by kernel_rfl) (fun _ _ _ h => h) (Or.inl ⟨by rfl, ?_⟩) h0 ?_
    rotate_left
    · (intro w hSw; (try dsimp only at hSw); go_simp); all_goals (with_reducible rfl)
    try simp only [List.getElem_toArray, List.getElem_cons_succ, List.getElem_cons_zero, Act.put, List.setIfInBounds_toArray, List.set_cons_zero, List.set_cons_succ]
    refine wpAnyH_ready (rs := [0]) (by kernel_rfl) (by simp) ?_
    refine AllReadyH.cons rfl (fun K hK => ?_) AllReadyH.nil
    go_simp
    clear hmk
    have own0 : (wa.alloc (.cells (madeCells #[.int .i64 0] 140) 3)).drew.ownsRow wa.heap.size 3 1 (.slice (some ⟨wa.heap.size, 0, none⟩) 0 140) 0 [] := World.ownsRow_made wa _ 140 (Nat.le_refl _) (by unfold maxLen; omega) (by rw [size_madeCells])
    have bX := (below_alloc wa (.cells (madeCells #[.int .i64 0] 140) 3)).drew
    refine hK.out _ _ ?_ (fun h1 => ?_)
    · exact ⟨bX, cellOver bX p0, cellOver bX p1, cellOver bX p2, cellOver bX p3, cellOver bX z0q, cellOver bX z1q, cellOver bX z2q, cellOver bX z3q⟩
    clear hK K h0 bX
    try simp only [List.getElem_toArray, List.getElem_cons_succ, List.getElem_cons_zero, Act.put, List.setIfInBounds_toArray, List.set_cons_zero, List.set_cons_succ]
    refine wpAnyH_ready (rs := [2]) (by kernel_rfl) (by simp) ?_
    refine AllReadyH.cons rfl (fun K hK => ?_) AllReadyH.nil
    rw [if_pos (by rfl)]
    obtain ⟨v2, wm, hr1, own1, hg1, -, -⟩ := run_append_ints _ wa.heap.size _ 0 [] own0 aO (nS + nB) cO out (IU.out.over h1.1) (by omega) h1.1.size
    obtain ⟨aM, cM, rfl⟩ := own_slice own1
    simp only [Nat.zero_add, List.nil_append] at hr1 own1
    refine Lib.wp_append_run _ (.tmp 29) (.tmp 30) 23 23 rfl _ _ rfl rfl _ _ hr1 ?_
    have bX := grownBy_own_below h1.1 own0 h1.1.size hg1
    clear hr1 hg1 own0
    refine hK.out _ _ ?_ (fun h2 => ?_)
    · exact ⟨bX, cellOver bX p0, cellOver bX p1, cellOver bX p2, cellOver bX p3, cellOver bX z0q, cellOver bX z1q, cellOver bX z2q, cellOver bX z3q⟩
    clear hK K h1 bX
    try simp only [List.getElem_toArray, List.getElem_cons_succ, List.getElem_cons_zero, Act.put, List.setIfInBounds_toArray, List.set_cons_zero, List.set_cons_succ]
    refine wpAnyH_ready (rs := [5]) (by kernel_rfl) (by simp) ?_
    refine AllReadyH.cons rfl (fun K hK => ?_) AllReadyH.nil
    go_simp
    go_at_call 26
    refine (stories_any z3 _ bz3).mono ?_
    rintro e wq3 ⟨aT, nT, cT, rfl, IT, OT, bq⟩
    have hlt3 := IT.1
    go_wp2_with fail
    have bX := bel2 h2.1 bq
    have own2 := own_over own1 bq
    clear bq OT own1
    refine hK.out _ _ ?_ (fun h3 => ?_)
    · exact ⟨bX, cellOver bX p0, cellOver bX p1, cellOver bX p2, cellOver bX p3, cellOver bX z0q, cellOver bX z1q, cellOver bX z2q, cellOver bX z3q⟩
    clear hK K h2 bX
    try simp only [List.getElem_toArray, List.getElem_cons_succ, List.getElem_cons_zero, Act.put, List.setIfInBounds_toArray, List.set_cons_zero, List.set_cons_succ]
    refine wpAnyH_ready (rs := [6]) (by kernel_rfl) (by simp) ?_
    refine AllReadyH.cons rfl (fun K hK => ?_) AllReadyH.nil
    rw [if_pos (by rfl)]
    obtain ⟨v3, wn, hr1, own3, hg1, -, -⟩ := run_append_ints wq3 wa.heap.size _ _ _ own2 aT nT cT (storiesL z3) IT (by omega) h3.1.size
    obtain ⟨aN, cN, rfl⟩ := own_slice own3
    refine Lib.wp_append_run _ (.tmp 31) (.tmp 34) 23 23 rfl _ _ rfl rfl _ _ hr1 ?_
    have bX := grownBy_own_below h3.1 own2 h3.1.size hg1
    clear hr1 hg1 own2 IT
    refine hK.out _ _ ?_ (fun h4 => ?_)
    · exact ⟨bX, cellOver bX p0, cellOver bX p1, cellOver bX p2, cellOver bX p3, cellOver bX z0q, cellOver bX z1q, cellOver bX z2q, cellOver bX z3q⟩
    clear hK K h3 bX
    try simp only [List.getElem_toArray, List.getElem_cons_succ, List.getElem_cons_zero, Act.put, List.setIfInBounds_toArray, List.set_cons_zero, List.set_cons_succ]
    refine wpAnyH_take (i := 7) (v := ?_) rfl (by kernel_rfl) (by kernel_rfl) (by kernel_rfl) (fun _ _ _ h => h) (Or.inl ⟨by rfl, ?_⟩) h4 ?_
    rotate_left
    · (intro w hSw; (try dsimp only at hSw); go_simp); all_goals (with_reducible rfl)
    try simp only [List.getElem_toArray, List.getElem_cons_succ, List.getElem_cons_zero, Act.put, List.setIfInBounds_toArray, List.set_cons_zero, List.set_cons_succ]
    refine wpAnyH_done (by kernel_rfl) ?_ _
    obtain ⟨more, hmore⟩ : ∃ L : List Int, out ++ storiesL z3 = L := ⟨_, rfl⟩
    have IM0 := ints_of_own (zs := out ++ storiesL z3) (by rw [List.map_append]; exact own3) (fun z hz => by
      rw [List.mem_append] at hz
      rcases hz with hz | hz
      · exact wf64 (IU.out.2.2.2.1 z hz)
      · exact ok_ints (makeL_ok 0 z3 0 0) z hz)
    rw [hmore] at IM0
    have EO := Lib.hid (show ∀ z, z ∈ out → z ∈ more from fun z hz => by rw [← hmore]; exact List.mem_append_left _ hz)
    have IM := Lib.hid IM0
    replace IU := Lib.hid (IU.out.over h4.1)
    replace HB := Lib.hid (blockOver h4.1 HB.out)
    replace HA := Lib.hid (blockOver h4.1 HA.out)
    replace HZ := Lib.hid (blockOver h4.1 HZ.out)
    replace LA := Lib.hid (LA.out.over h4.1)
    replace LB := Lib.hid (LB.out.over h4.1)
    replace bw := bel2 bw h4.1
    obtain ⟨nM, hnM⟩ : ∃ nM, nS + nB + nT = nM := ⟨_, rfl⟩
    have bk2 := pck_lo z0 2000000000 (by omega)
    have bk3 := pck_hi z0 2000000000 (by omega)
    have KP0 := Lib.hid (fun W => pick_any z0 2000000000 W (by omega) bz0.1 bz0.2)
    have KP2 := Lib.hid (fun W => pick_any z2 8 W (by omega) bz2.1 bz2.2)
    have KP3 := Lib.hid (fun W => pick_any z3 1000 W (by omega) bz3.1 bz3.2)
    have KP4 := Lib.hid (fun W => pick_any z3 5 W (by omega) bz3.1 bz3.2)
    have n0 := pck_lo z2 8 (by omega)
    have n1 := pck_hi z2 8 (by omega)
    have m0 := pck_lo z3 1000 (by omega)
    have m1 := pck_hi z3 1000 (by omega)
    have l0 := pck_lo z3 5 (by omega)
    have l1 := pck_hi z3 5 (by omega)
    generalize pck z0 2000000000 = pk0 at *
    generalize pck z2 8 = nn at *
    generalize pck z3 1000 = pk3 at *
    generalize pck z3 5 = pk5 at *
    rw [hnM] at IM
    try rw [hnM]
    clear hnM own3 IM0 hmore h4 p0 p1 p2 p3 z0q z1q z2q z3q bc hlt3 hsl hsl3 hn64 hlo bz0 bz1 bz2 bz3 hi hz0 hz1 hz2 i0
    go_wp2_with fail
    go_loopw [12, 7, 14, 15] (fun i ok _ _ wr => ∃ k : Nat, k ≤ 4 ∧ i = .int .i64 k ∧ ok = .bool true ∧ Below wn.heap.size wn wr) (fun i _ _ _ _ => 4 - (intOf i).toNat)
    case atStart => exact ⟨0, by omega, rfl, rfl, Below.refl _ _⟩
    case round =>
      obtain ⟨k, hk, rfl, rfl, br⟩ := hrel
      by_cases hlt : k < 4
      · have kk4 : (k : Int) < 4 := by omega
        have bdk : Bd (k : Int) := by unfold Bd; omega
        obtain ⟨p0, p1, p2, p3⟩ := cells4 (blockOver br HB.out)
        obtain ⟨z0q, z1q, z2q, z3q⟩ := cells4 (blockOver br HZ.out)
        go_wp2_with fail
        have bc := Below.refl wr.heap.size wr
        refine wp_region_held_drew (S := fun w' => Below wr.heap.size wr w' ∧ w'.cell? ⟨q, 0, none⟩ = some (.int .i64 lb.u) ∧ w'.cell? ⟨q, 1, none⟩ = some (.slice aB nB cB) ∧ w'.cell? ⟨q, 2, none⟩ = some (.int .i64 lb.ap) ∧ w'.cell? ⟨q, 3, none⟩ = some (.int .i64 lb.d) ∧ w'.cell? ⟨w.heap.size + 1 + 1, 0, none⟩ = some (.int .i64 z0) ∧ w'.cell? ⟨w.heap.size + 1 + 1, 1, none⟩ = some (.int .i64 z1) ∧ w'.cell? ⟨w.heap.size + 1 + 1, 2, none⟩ = some (.int .i64 z2) ∧ w'.cell? ⟨w.heap.size + 1 + 1, 3, none⟩ = some (.int .i64 z3)) (by kernel_rfl) ?_ (fun h0 => ?_)
        · exact ⟨bc.drew, p0, p1, p2, p3, z0q, z1q, z2q, z3q⟩
        refine wpAnyH_take (i := 0) (v := ?_) rfl (by kernel_rfl) (by kernel_rfl) (by kernel_rfl) (fun _ _ _ h => h) (Or.inl ⟨by rfl, ?_⟩) h0 ?_
        rotate_left
        · (intro w hSw; (try dsimp only at hSw); go_simp); all_goals (with_reducible rfl)
        try simp only [List.getElem_toArray, List.getElem_cons_succ, List.getElem_cons_zero, Act.put, List.setIfInBounds_toArray, List.set_cons_zero, List.set_cons_succ]
        refine wpAnyH_take (i := 1) (v := ?_) rfl (by kernel_rfl) (by kernel_rfl) (by kernel_rfl) (fun _ _ _ h => h) (Or.inl ⟨by rfl, ?_⟩) h0 ?_
        rotate_left
        · (intro w hSw; (try dsimp only at hSw); go_simp); all_goals (with_reducible rfl)
        try simp only [List.getElem_toArray, List.getElem_cons_succ, List.getElem_cons_zero, Act.put, List.setIfInBounds_toArray, List.set_cons_zero, List.set_cons_succ]
        refine wpAnyH_take (i := 2) (v := ?_) rfl (by kernel_rfl) (by kernel_rfl) (by kernel_rfl) (fun _ _ _ h => h) (Or.inl ⟨by rfl, ?_⟩) h0 ?_
        rotate_left
        · (intro w hSw; (try dsimp only at hSw); go_simp); all_goals (with_reducible rfl)
        try simp only [List.getElem_toArray, List.getElem_cons_succ, List.getElem_cons_zero, Act.put, List.setIfInBounds_toArray, List.set_cons_zero, List.set_cons_succ]
        refine wpAnyH_take (i := 3) (v := ?_) rfl (by kernel_rfl) (by kernel_rfl) (by kernel_rfl) (fun _ _ _ h => h) (Or.inl ⟨by rfl, ?_⟩) h0 ?_
        rotate_left
        · (intro w hSw; (try dsimp only at hSw); go_simp); all_goals (with_reducible rfl)
        try simp only [List.getElem_toArray, List.getElem_cons_succ, List.getElem_cons_zero, Act.put, List.setIfInBounds_toArray, List.set_cons_zero, List.set_cons_succ]
        refine wpAnyH_take (i := 7) (v := ?_) rfl (by kernel_rfl) (by kernel_rfl) (by kernel_rfl) (fun _ _ _ h => h) (Or.inl ⟨by rfl, ?_⟩) h0 ?_
        rotate_left
        · (intro w hSw; (try dsimp only at hSw); go_simp); all_goals (with_reducible rfl)
        try simp only [List.getElem_toArray, List.getElem_cons_succ, List.getElem_cons_zero, Act.put, List.setIfInBounds_toArray, List.set_cons_zero, List.set_cons_succ]
        refine wpAnyH_ready (rs := [4]) (by kernel_rfl) (by simp) ?_
        refine AllReadyH.cons rfl (fun K hK => ?_) AllReadyH.nil
        go_simp
        go_at_call 27
        refine (KP0.out _).mono ?_
        rintro e w' ⟨rfl, rfl⟩
        go_wp2_with fail
        have bX := h0.1
        refine hK.out _ _ ?_ (fun h1 => ?_)
        · exact ⟨bX, cellOver bX p0, cellOver bX p1, cellOver bX p2, cellOver bX p3, cellOver bX z0q, cellOver bX z1q, cellOver bX z2q, cellOver bX z3q⟩
        clear hK K h0 bX
        try simp only [List.getElem_toArray, List.getElem_cons_succ, List.getElem_cons_zero, Act.put, List.setIfInBounds_toArray, List.set_cons_zero, List.set_cons_succ]
        refine wpAnyH_ready (rs := [5]) (by kernel_rfl) (by simp) ?_
        refine AllReadyH.cons rfl (fun K hK => ?_) AllReadyH.nil
        rw [if_pos (by rfl)]
        go_simp
        have bX := (below_alloc wr (.cells #[.int .i64 lb.u, .int .i64 pk0] 3)).drew
        refine hK.out _ _ ?_ (fun h2 => ?_)
        · exact ⟨bX, cellOver bX p0, cellOver bX p1, cellOver bX p2, cellOver bX p3, cellOver bX z0q, cellOver bX z1q, cellOver bX z2q, cellOver bX z3q⟩
        clear hK K h1 bX
        try simp only [List.getElem_toArray, List.getElem_cons_succ, List.getElem_cons_zero, Act.put, List.setIfInBounds_toArray, List.set_cons_zero, List.set_cons_succ]
        refine wpAnyH_ready (rs := [6]) (by kernel_rfl) (by simp) ?_
        refine AllReadyH.cons rfl (fun K hK => ?_) AllReadyH.nil
        go_simp
        have bX := h2.1
        refine hK.out _ _ ?_ (fun h3 => ?_)
        · exact ⟨bX, cellOver bX p0, cellOver bX p1, cellOver bX p2, cellOver bX p3, cellOver bX z0q, cellOver bX z1q, cellOver bX z2q, cellOver bX z3q⟩
        clear hK K h2 bX
        try simp only [List.getElem_toArray, List.getElem_cons_succ, List.getElem_cons_zero, Act.put, List.setIfInBounds_toArray, List.set_cons_zero, List.set_cons_succ]
        refine wpAnyH_done (by kernel_rfl) ?_ _
        have HN0 : NumsAt (wr.alloc (.cells #[.int .i64 lb.u, .int .i64 pk0] 3)).drew wr.heap.size [lb.u, pk0] := heap_alloc_new wr _
        have b1 := bel2 br h3.1
        go_wp2_with fail
        obtain ⟨q2, hq2⟩ : ∃ q, wr.heap.size = q := ⟨_, rfl⟩
        obtain ⟨W1, hW1⟩ : ∃ W1, (wr.alloc (.cells #[.int .i64 lb.u, .int .i64 pk0] 3)).drew = W1 := ⟨_, rfl⟩
        rw [hW1] at b1 ⊢
        rw [hW1, hq2] at HN0
        try rw [hq2]
        have HN := Lib.hid HN0
        clear HN0 hW1 hq2 h3 p0 p1 p2 p3 z0q z1q z2q z3q bc br
        go_loopw [47, 7, 14, 15] (fun i ok _ _ wr => ∃ j : Nat, j ≤ 2 ∧ i = .int .i64 j ∧ ok = .bool true ∧ Below W1.heap.size W1 wr) (fun i _ _ _ _ => 2 - (intOf i).toNat)
        case atStart => exact ⟨0, by omega, rfl, rfl, Below.refl _ _⟩
        case round =>
          obtain ⟨j, hj, rfl, rfl, bj⟩ := hrel
          by_cases hlj : j < 2
          · have jj0 : (0 : Int) ≤ j := by omega
            have jj2 : (j : Int) < 2 := by omega
            obtain ⟨nw, hmem, hcell⟩ := (HN.out.over bj).at_ (k := j) hlj
            have hnw : 0 ≤ nw ∧ nw ≤ 2000000000 := by
              simp only [List.mem_cons, List.not_mem_nil, or_false] at hmem
              omega
            obtain ⟨nw0, nw1⟩ := hnw
            have b2 := bel2 b1 bj
            obtain ⟨p0, p1, p2, p3⟩ := cells4 (blockOver b2 HB.out)
            obtain ⟨z0q, z1q, z2q, z3q⟩ := cells4 (blockOver b2 HZ.out)
            clear hmem
            go_wp2_with fail
            refine (KP2.out _).mono ?_
            rintro e w' ⟨rfl, rfl⟩
            cases e1 : allB lb k nw out nn
            · have F1 := Lib.hid e1
              clear e1
              go_wp2_with fail
              refine (allows_eq lb k nw nn out false F1.out _ _ _ _ _ _ _ bdk (LB.out.over b2) (IU.out.over b2)).mono ?_
              rintro e wt ⟨rfl, bq⟩
              have bz := bel2 bj bq
              clear bq p0 p1 p2 p3 z0q z1q z2q z3q hcell
              go_wp2
              exact ⟨⟨j + 1, by omega, by go_num, rfl, bz⟩, by simp [intOf]; omega⟩
            · have M1 := Lib.hid (all_mono okA.out EM.out e1 (Int.le_refl _) (fun _ h => h) (Int.le_refl _))
              have M2 := Lib.hid (all_mono (now' := nw + pk3) okB.out le_refl_ e1 (by omega) (fun _ h => h) (Int.le_refl _))
              have M3 := Lib.hid (all_mono okB.out le_refl_ e1 (Int.le_refl _) EO.out (Int.le_refl _))
              have M4 := Lib.hid (all_mono (n' := nn + pk5) okB.out le_refl_ e1 (Int.le_refl _) (fun _ h => h) (by omega))
              have F1 := Lib.hid e1
              clear e1
              go_wp2_with fail
              refine (allows_eq lb k nw nn out true F1.out _ _ _ _ _ _ _ bdk (LB.out.over b2) (IU.out.over b2)).mono ?_
              rintro e wt ⟨rfl, bq⟩
              have bz := bel2 bj bq
              have b3 := bel2 b2 bq
              clear bq p0 p1 p2 p3 z0q z1q z2q z3q hcell
              obtain ⟨a0q, a1q, a2q, a3q⟩ := cells4 (blockOver b3 HA.out)
              obtain ⟨p0, p1, p2, p3⟩ := cells4 (blockOver b3 HB.out)
              obtain ⟨z0q, z1q, z2q, z3q⟩ := cells4 (blockOver b3 HZ.out)
              have LA1 := Lib.hid (LA.out.over b3)
              have LB1 := Lib.hid (LB.out.over b3)
              have IU1 := Lib.hid (IU.out.over b3)
              have IM1 := Lib.hid (IM.out.over b3)
              have hw1 : IntKind.i64.wrap (nw + pk3) = nw + pk3 := IntWalk.i64_in _ (by omega)
              have hw2 : IntKind.i64.wrap (nn + pk5) = nn + pk5 := IntWalk.i64_in _ (by omega)
              go_wp2_with fail
              have bc := Below.refl wt.heap.size wt
              refine wp_region_held_drew (S := fun w' => Below wt.heap.size wt w' ∧ w'.cell? ⟨w2.heap.size, 0, none⟩ = some (.int .i64 la.u) ∧ w'.cell? ⟨w2.heap.size, 1, none⟩ = some (.slice aA nA cA) ∧ w'.cell? ⟨w2.heap.size, 2, none⟩ = some (.int .i64 la.ap) ∧ w'.cell? ⟨w2.heap.size, 3, none⟩ = some (.int .i64 la.d) ∧ w'.cell? ⟨q, 0, none⟩ = some (.int .i64 lb.u) ∧ w'.cell? ⟨q, 1, none⟩ = some (.slice aB nB cB) ∧ w'.cell? ⟨q, 2, none⟩ = some (.int .i64 lb.ap) ∧ w'.cell? ⟨q, 3, none⟩ = some (.int .i64 lb.d) ∧ w'.cell? ⟨w.heap.size + 1 + 1, 0, none⟩ = some (.int .i64 z0) ∧ w'.cell? ⟨w.heap.size + 1 + 1, 1, none⟩ = some (.int .i64 z1) ∧ w'.cell? ⟨w.heap.size + 1 + 1, 2, none⟩ = some (.int .i64 z2) ∧ w'.cell? ⟨w.heap.size + 1 + 1, 3, none⟩ = some (.int .i64 z3)) (by kernel_rfl) ?_ (fun h0 => ?_)
              · exact ⟨bc.drew, a0q, a1q, a2q, a3q, p0, p1, p2, p3, z0q, z1q, z2q, z3q⟩
              refine wpAnyH_take (i := 0) (v := ?_) rfl (by kernel_rfl) (by kernel_rfl) (by kernel_rfl) (fun _ _ _ h => h) (Or.inl ⟨by rfl, ?_⟩) h0 ?_
              rotate_left
              · (intro w hSw; (try dsimp only at hSw); go_simp); all_goals (with_reducible rfl)
              try simp only [List.getElem_toArray, List.getElem_cons_succ, List.getElem_cons_zero, Act.put, List.setIfInBounds_toArray, List.set_cons_zero, List.set_cons_succ]
              refine wpAnyH_take (i := 1) (v := ?_) rfl (by kernel_rfl) (by kernel_rfl) (by kernel_rfl) (fun _ _ _ h => h) (Or.inl ⟨by rfl, ?_⟩) h0 ?_
              rotate_left
              · (intro w hSw; (try dsimp only at hSw); go_simp); all_goals (with_reducible rfl)
              try simp only [List.getElem_toArray, List.getElem_cons_succ, List.getElem_cons_zero, Act.put, List.setIfInBounds_toArray, List.set_cons_zero, List.set_cons_succ]
              refine wpAnyH_take (i := 2) (v := ?_) rfl (by kernel_rfl) (by kernel_rfl) (by kernel_rfl) (fun _ _ _ h => h) (Or.inl ⟨by rfl, ?_⟩) h0 ?_
              rotate_left
              · (intro w hSw; (try dsimp only at hSw); go_simp); all_goals (with_reducible rfl)
              try simp only [List.getElem_toArray, List.getElem_cons_succ, List.getElem_cons_zero, Act.put, List.setIfInBounds_toArray, List.set_cons_zero, List.set_cons_succ]
              refine wpAnyH_take (i := 3) (v := ?_) rfl (by kernel_rfl) (by kernel_rfl) (by kernel_rfl) (fun _ _ _ h => h) (Or.inl ⟨by rfl, ?_⟩) h0 ?_
              rotate_left
              · (intro w hSw; (try dsimp only at hSw); go_simp); all_goals (with_reducible rfl)
              try simp only [List.getElem_toArray, List.getElem_cons_succ, List.getElem_cons_zero, Act.put, List.setIfInBounds_toArray, List.set_cons_zero, List.set_cons_succ]
              refine wpAnyH_take (i := 4) (v := ?_) rfl (by kernel_rfl) (by kernel_rfl) (by kernel_rfl) (fun _ _ _ h => h) (Or.inl ⟨by rfl, ?_⟩) h0 ?_
              rotate_left
              · (intro w hSw; (try dsimp only at hSw); go_simp); all_goals (with_reducible rfl)
              try simp only [List.getElem_toArray, List.getElem_cons_succ, List.getElem_cons_zero, Act.put, List.setIfInBounds_toArray, List.set_cons_zero, List.set_cons_succ]
              refine wpAnyH_take (i := 5) (v := ?_) rfl (by kernel_rfl) (by kernel_rfl) (by kernel_rfl) (fun _ _ _ h => h) (Or.inl ⟨by rfl, ?_⟩) h0 ?_
              rotate_left
              · (intro w hSw; (try dsimp only at hSw); go_simp); all_goals (with_reducible rfl)
              try simp only [List.getElem_toArray, List.getElem_cons_succ, List.getElem_cons_zero, Act.put, List.setIfInBounds_toArray, List.set_cons_zero, List.set_cons_succ]
              refine wpAnyH_take (i := 6) (v := ?_) rfl (by kernel_rfl) (by kernel_rfl) (by kernel_rfl) (fun _ _ _ h => h) (Or.inl ⟨by rfl, ?_⟩) h0 ?_
              rotate_left
              · (intro w hSw; (try dsimp only at hSw); go_simp); all_goals (with_reducible rfl)
              try simp only [List.getElem_toArray, List.getElem_cons_succ, List.getElem_cons_zero, Act.put, List.setIfInBounds_toArray, List.set_cons_zero, List.set_cons_succ]
              refine wpAnyH_ready (rs := [7]) (by kernel_rfl) (by simp) ?_
              refine AllReadyH.cons rfl (fun K hK => ?_) AllReadyH.nil
              go_simp
              go_at_call 24
              refine (allows_eq la k nw nn out true M1.out _ _ _ _ _ _ _ bdk (LabAt.over h0.1 LA1.out) (IsInts.over h0.1 IU1.out)).mono ?_
              rintro e wq0 ⟨rfl, bq⟩
              go_wp2_with fail
              have bX := bel2 h0.1 bq
              refine hK.out _ _ ?_ (fun h1 => ?_)
              · exact ⟨bX, cellOver bX a0q, cellOver bX a1q, cellOver bX a2q, cellOver bX a3q, cellOver bX p0, cellOver bX p1, cellOver bX p2, cellOver bX p3, cellOver bX z0q, cellOver bX z1q, cellOver bX z2q, cellOver bX z3q⟩
              clear hK K h0 bX bq
              try simp only [List.getElem_toArray, List.getElem_cons_succ, List.getElem_cons_zero, Act.put, List.setIfInBounds_toArray, List.set_cons_zero, List.set_cons_succ]
              refine wpAnyH_take (i := 8) (v := ?_) rfl (by kernel_rfl) (by kernel_rfl) (by kernel_rfl) (fun _ _ _ h => h) (Or.inl ⟨by rfl, ?_⟩) h1 ?_
              rotate_left
              · (intro w hSw; (try dsimp only at hSw); go_simp); all_goals (with_reducible rfl)
              try simp only [List.getElem_toArray, List.getElem_cons_succ, List.getElem_cons_zero, Act.put, List.setIfInBounds_toArray, List.set_cons_zero, List.set_cons_succ]
              refine wpAnyH_take (i := 9) (v := ?_) rfl (by kernel_rfl) (by kernel_rfl) (by kernel_rfl) (fun _ _ _ h => h) (Or.inl ⟨by rfl, ?_⟩) h1 ?_
              rotate_left
              · (intro w hSw; (try dsimp only at hSw); go_simp); all_goals (with_reducible rfl)
              try simp only [List.getElem_toArray, List.getElem_cons_succ, List.getElem_cons_zero, Act.put, List.setIfInBounds_toArray, List.set_cons_zero, List.set_cons_succ]
              refine wpAnyH_take (i := 10) (v := ?_) rfl (by kernel_rfl) (by kernel_rfl) (by kernel_rfl) (fun _ _ _ h => h) (Or.inl ⟨by rfl, ?_⟩) h1 ?_
              rotate_left
              · (intro w hSw; (try dsimp only at hSw); go_simp); all_goals (with_reducible rfl)
              try simp only [List.getElem_toArray, List.getElem_cons_succ, List.getElem_cons_zero, Act.put, List.setIfInBounds_toArray, List.set_cons_zero, List.set_cons_succ]
              refine wpAnyH_take (i := 11) (v := ?_) rfl (by kernel_rfl) (by kernel_rfl) (by kernel_rfl) (fun _ _ _ h => h) (Or.inl ⟨by rfl, ?_⟩) h1 ?_
              rotate_left
              · (intro w hSw; (try dsimp only at hSw); go_simp); all_goals (with_reducible rfl)
              try simp only [List.getElem_toArray, List.getElem_cons_succ, List.getElem_cons_zero, Act.put, List.setIfInBounds_toArray, List.set_cons_zero, List.set_cons_succ]
              refine wpAnyH_take (i := 12) (v := ?_) rfl (by kernel_rfl) (by kernel_rfl) (by kernel_rfl) (fun _ _ _ h => h) (Or.inl ⟨by rfl, ?_⟩) h1 ?_
              rotate_left
              · (intro w hSw; (try dsimp only at hSw); go_simp); all_goals (with_reducible rfl)
              try simp only [List.getElem_toArray, List.getElem_cons_succ, List.getElem_cons_zero, Act.put, List.setIfInBounds_toArray, List.set_cons_zero, List.set_cons_succ]
              refine wpAnyH_take (i := 13) (v := ?_) rfl (by kernel_rfl) (by kernel_rfl) (by kernel_rfl) (fun _ _ _ h => h) (Or.inl ⟨by rfl, ?_⟩) h1 ?_
              rotate_left
              · (intro w hSw; (try dsimp only at hSw); go_simp); all_goals (with_reducible rfl)
              try simp only [List.getElem_toArray, List.getElem_cons_succ, List.getElem_cons_zero, Act.put, List.setIfInBounds_toArray, List.set_cons_zero, List.set_cons_succ]
              refine wpAnyH_take (i := 14) (v := ?_) rfl (by kernel_rfl) (by kernel_rfl) (by kernel_rfl) (fun _ _ _ h => h) (Or.inl ⟨by rfl, ?_⟩) h1 ?_
              rotate_left
              · (intro w hSw; (try dsimp only at hSw); go_simp); all_goals (with_reducible rfl)
              try simp only [List.getElem_toArray, List.getElem_cons_succ, List.getElem_cons_zero, Act.put, List.setIfInBounds_toArray, List.set_cons_zero, List.set_cons_succ]
              refine wpAnyH_take (i := 17) (v := ?_) rfl (by kernel_rfl) (by kernel_rfl) (by kernel_rfl) (fun _ _ _ h => h) (Or.inl ⟨by rfl, ?_⟩) h1 ?_
              rotate_left
              · (intro w hSw; (try dsimp only at hSw); go_simp); all_goals (with_reducible rfl)
              try simp only [List.getElem_toArray, List.getElem_cons_succ, List.getElem_cons_zero, Act.put, List.setIfInBounds_toArray, List.set_cons_zero, List.set_cons_succ]
              refine wpAnyH_take (i := 18) (v := ?_) rfl (by kernel_rfl) (by kernel_rfl) (by kernel_rfl) (fun _ _ _ h => h) (Or.inl ⟨by rfl, ?_⟩) h1 ?_
              rotate_left
              · (intro w hSw; (try dsimp only at hSw); go_simp); all_goals (with_reducible rfl)
              try simp only [List.getElem_toArray, List.getElem_cons_succ, List.getElem_cons_zero, Act.put, List.setIfInBounds_toArray, List.set_cons_zero, List.set_cons_succ]
              refine wpAnyH_ready (rs := [15]) (by kernel_rfl) (by simp) ?_
              refine AllReadyH.cons rfl (fun K hK => ?_) AllReadyH.nil
              go_simp
              go_at_call 27
              refine (KP3.out _).mono ?_
              rintro e w' ⟨rfl, rfl⟩
              go_wp2_with fail
              have bX := h1.1
              refine hK.out _ _ ?_ (fun h2 => ?_)
              · exact ⟨bX, cellOver bX a0q, cellOver bX a1q, cellOver bX a2q, cellOver bX a3q, cellOver bX p0, cellOver bX p1, cellOver bX p2, cellOver bX p3, cellOver bX z0q, cellOver bX z1q, cellOver bX z2q, cellOver bX z3q⟩
              clear hK K h1 bX
              try simp only [List.getElem_toArray, List.getElem_cons_succ, List.getElem_cons_zero, Act.put, List.setIfInBounds_toArray, List.set_cons_zero, List.set_cons_succ]
              refine wpAnyH_take (i := 16) (v := ?_) rfl (by kernel_rfl) (by kernel_rfl) (by kernel_rfl) (fun _ _ _ h => h) (Or.inl ⟨by rfl, ?_⟩) h2 ?_
              rotate_left
              · (intro w hSw; (try dsimp only at hSw); go_simp); all_goals (with_reducible rfl)
              try simp only [List.getElem_toArray, List.getElem_cons_succ, List.getElem_cons_zero, Act.put, List.setIfInBounds_toArray, List.set_cons_zero, List.set_cons_succ]
              refine wpAnyH_ready (rs := [19]) (by kernel_rfl) (by simp) ?_
              refine AllReadyH.cons rfl (fun K hK => ?_) AllReadyH.nil
              go_simp
              go_at_call 24
              refine (allows_eq lb k (nw + pk3) nn out true M2.out _ _ _ _ _ _ _ bdk (LabAt.over h2.1 LB1.out) (IsInts.over h2.1 IU1.out)).mono ?_
              rintro e wq2 ⟨rfl, bq⟩
              go_wp2_with fail
              have bX := bel2 h2.1 bq
              refine hK.out _ _ ?_ (fun h3 => ?_)
              · exact ⟨bX, cellOver bX a0q, cellOver bX a1q, cellOver bX a2q, cellOver bX a3q, cellOver bX p0, cellOver bX p1, cellOver bX p2, cellOver bX p3, cellOver bX z0q, cellOver bX z1q, cellOver bX z2q, cellOver bX z3q⟩
              clear hK K h2 bX bq
              try simp only [List.getElem_toArray, List.getElem_cons_succ, List.getElem_cons_zero, Act.put, List.setIfInBounds_toArray, List.set_cons_zero, List.set_cons_succ]
              refine wpAnyH_take (i := 20) (v := ?_) rfl (by kernel_rfl) (by kernel_rfl) (by kernel_rfl) (fun _ _ _ h => h) (Or.inl ⟨by rfl, ?_⟩) h3 ?_
              rotate_left
              · (intro w hSw; (try dsimp only at hSw); go_simp); all_goals (with_reducible rfl)
              try simp only [List.getElem_toArray, List.getElem_cons_succ, List.getElem_cons_zero, Act.put, List.setIfInBounds_toArray, List.set_cons_zero, List.set_cons_succ]
              refine wpAnyH_take (i := 21) (v := ?_) rfl (by kernel_rfl) (by kernel_rfl) (by kernel_rfl) (fun _ _ _ h => h) (Or.inl ⟨by rfl, ?_⟩) h3 ?_
              rotate_left
              · (intro w hSw; (try dsimp only at hSw); go_simp); all_goals (with_reducible rfl)
              try simp only [List.getElem_toArray, List.getElem_cons_succ, List.getElem_cons_zero, Act.put, List.setIfInBounds_toArray, List.set_cons_zero, List.set_cons_succ]
              refine wpAnyH_take (i := 22) (v := ?_) rfl (by kernel_rfl) (by kernel_rfl) (by kernel_rfl) (fun _ _ _ h => h) (Or.inl ⟨by rfl, ?_⟩) h3 ?_
              rotate_left
              · (intro w hSw; (try dsimp only at hSw); go_simp); all_goals (with_reducible rfl)
              try simp only [List.getElem_toArray, List.getElem_cons_succ, List.getElem_cons_zero, Act.put, List.setIfInBounds_toArray, List.set_cons_zero, List.set_cons_succ]
              refine wpAnyH_take (i := 23) (v := ?_) rfl (by kernel_rfl) (by kernel_rfl) (by kernel_rfl) (fun _ _ _ h => h) (Or.inl ⟨by rfl, ?_⟩) h3 ?_
              rotate_left
              · (intro w hSw; (try dsimp only at hSw); go_simp); all_goals (with_reducible rfl)
              try simp only [List.getElem_toArray, List.getElem_cons_succ, List.getElem_cons_zero, Act.put, List.setIfInBounds_toArray, List.set_cons_zero, List.set_cons_succ]
              refine wpAnyH_take (i := 24) (v := ?_) rfl (by kernel_rfl) (by kernel_rfl) (by kernel_rfl) (fun _ _ _ h => h) (Or.inl ⟨by rfl, ?_⟩) h3 ?_
              rotate_left
              · (intro w hSw; (try dsimp only at hSw); go_simp); all_goals (with_reducible rfl)
              try simp only [List.getElem_toArray, List.getElem_cons_succ, List.getElem_cons_zero, Act.put, List.setIfInBounds_toArray, List.set_cons_zero, List.set_cons_succ]
              refine wpAnyH_take (i := 25) (v := ?_) rfl (by kernel_rfl) (by kernel_rfl) (by kernel_rfl) (fun _ _ _ h => h) (Or.inl ⟨by rfl, ?_⟩) h3 ?_
              rotate_left
              · (intro w hSw; (try dsimp only at hSw); go_simp); all_goals (with_reducible rfl)
              try simp only [List.getElem_toArray, List.getElem_cons_succ, List.getElem_cons_zero, Act.put, List.setIfInBounds_toArray, List.set_cons_zero, List.set_cons_succ]
              refine wpAnyH_take (i := 26) (v := ?_) rfl (by kernel_rfl) (by kernel_rfl) (by kernel_rfl) (fun _ _ _ h => h) (Or.inl ⟨by rfl, ?_⟩) h3 ?_
              rotate_left
              · (intro w hSw; (try dsimp only at hSw); go_simp); all_goals (with_reducible rfl)
              try simp only [List.getElem_toArray, List.getElem_cons_succ, List.getElem_cons_zero, Act.put, List.setIfInBounds_toArray, List.set_cons_zero, List.set_cons_succ]
              refine wpAnyH_ready (rs := [27]) (by kernel_rfl) (by simp) ?_
              refine AllReadyH.cons rfl (fun K hK => ?_) AllReadyH.nil
              go_simp
              go_at_call 24
              refine (allows_eq lb k nw nn more true M3.out _ _ _ _ _ _ _ bdk (LabAt.over h3.1 LB1.out) (IsInts.over h3.1 IM1.out)).mono ?_
              rintro e wq3 ⟨rfl, bq⟩
              go_wp2_with fail
              have bX := bel2 h3.1 bq
              refine hK.out _ _ ?_ (fun h4 => ?_)
              · exact ⟨bX, cellOver bX a0q, cellOver bX a1q, cellOver bX a2q, cellOver bX a3q, cellOver bX p0, cellOver bX p1, cellOver bX p2, cellOver bX p3, cellOver bX z0q, cellOver bX z1q, cellOver bX z2q, cellOver bX z3q⟩
              clear hK K h3 bX bq
              try simp only [List.getElem_toArray, List.getElem_cons_succ, List.getElem_cons_zero, Act.put, List.setIfInBounds_toArray, List.set_cons_zero, List.set_cons_succ]
              refine wpAnyH_take (i := 28) (v := ?_) rfl (by kernel_rfl) (by kernel_rfl) (by kernel_rfl) (fun _ _ _ h => h) (Or.inl ⟨by rfl, ?_⟩) h4 ?_
              rotate_left
              · (intro w hSw; (try dsimp only at hSw); go_simp); all_goals (with_reducible rfl)
              try simp only [List.getElem_toArray, List.getElem_cons_succ, List.getElem_cons_zero, Act.put, List.setIfInBounds_toArray, List.set_cons_zero, List.set_cons_succ]
              refine wpAnyH_take (i := 29) (v := ?_) rfl (by kernel_rfl) (by kernel_rfl) (by kernel_rfl) (fun _ _ _ h => h) (Or.inl ⟨by rfl, ?_⟩) h4 ?_
              rotate_left
              · (intro w hSw; (try dsimp only at hSw); go_simp); all_goals (with_reducible rfl)
              try simp only [List.getElem_toArray, List.getElem_cons_succ, List.getElem_cons_zero, Act.put, List.setIfInBounds_toArray, List.set_cons_zero, List.set_cons_succ]
              refine wpAnyH_take (i := 30) (v := ?_) rfl (by kernel_rfl) (by kernel_rfl) (by kernel_rfl) (fun _ _ _ h => h) (Or.inl ⟨by rfl, ?_⟩) h4 ?_
              rotate_left
              · (intro w hSw; (try dsimp only at hSw); go_simp); all_goals (with_reducible rfl)
              try simp only [List.getElem_toArray, List.getElem_cons_succ, List.getElem_cons_zero, Act.put, List.setIfInBounds_toArray, List.set_cons_zero, List.set_cons_succ]
              refine wpAnyH_take (i := 31) (v := ?_) rfl (by kernel_rfl) (by kernel_rfl) (by kernel_rfl) (fun _ _ _ h => h) (Or.inl ⟨by rfl, ?_⟩) h4 ?_
              rotate_left
              · (intro w hSw; (try dsimp only at hSw); go_simp); all_goals (with_reducible rfl)
              try simp only [List.getElem_toArray, List.getElem_cons_succ, List.getElem_cons_zero, Act.put, List.setIfInBounds_toArray, List.set_cons_zero, List.set_cons_succ]
              refine wpAnyH_take (i := 32) (v := ?_) rfl (by kernel_rfl) (by kernel_rfl) (by kernel_rfl) (fun _ _ _ h => h) (Or.inl ⟨by rfl, ?_⟩) h4 ?_
              rotate_left
              · (intro w hSw; (try dsimp only at hSw); go_simp); all_goals (with_reducible rfl)
              try simp only [List.getElem_toArray, List.getElem_cons_succ, List.getElem_cons_zero, Act.put, List.setIfInBounds_toArray, List.set_cons_zero, List.set_cons_succ]
              refine wpAnyH_take (i := 33) (v := ?_) rfl (by kernel_rfl) (by kernel_rfl) (by kernel_rfl) (fun _ _ _ h => h) (Or.inl ⟨by rfl, ?_⟩) h4 ?_
              rotate_left
              · (intro w hSw; (try dsimp only at hSw); go_simp); all_goals (with_reducible rfl)
              try simp only [List.getElem_toArray, List.getElem_cons_succ, List.getElem_cons_zero, Act.put, List.setIfInBounds_toArray, List.set_cons_zero, List.set_cons_succ]
              refine wpAnyH_take (i := 34) (v := ?_) rfl (by kernel_rfl) (by kernel_rfl) (by kernel_rfl) (fun _ _ _ h => h) (Or.inl ⟨by rfl, ?_⟩) h4 ?_
              rotate_left
              · (intro w hSw; (try dsimp only at hSw); go_simp); all_goals (with_reducible rfl)
              try simp only [List.getElem_toArray, List.getElem_cons_succ, List.getElem_cons_zero, Act.put, List.setIfInBounds_toArray, List.set_cons_zero, List.set_cons_succ]
              refine wpAnyH_take (i := 35) (v := ?_) rfl (by kernel_rfl) (by kernel_rfl) (by kernel_rfl) (fun _ _ _ h => h) (Or.inl ⟨by rfl, ?_⟩) h4 ?_
              rotate_left
              · (intro w hSw; (try dsimp only at hSw); go_simp); all_goals (with_reducible rfl)
              try simp only [List.getElem_toArray, List.getElem_cons_succ, List.getElem_cons_zero, Act.put, List.setIfInBounds_toArray, List.set_cons_zero, List.set_cons_succ]
              refine wpAnyH_take (i := 36) (v := ?_) rfl (by kernel_rfl) (by kernel_rfl) (by kernel_rfl) (fun _ _ _ h => h) (Or.inl ⟨by rfl, ?_⟩) h4 ?_
              rotate_left
              · (intro w hSw; (try dsimp only at hSw); go_simp); all_goals (with_reducible rfl)
              try simp only [List.getElem_toArray, List.getElem_cons_succ, List.getElem_cons_zero, Act.put, List.setIfInBounds_toArray, List.set_cons_zero, List.set_cons_succ]
              refine wpAnyH_ready (rs := [37]) (by kernel_rfl) (by simp) ?_
              refine AllReadyH.cons rfl (fun K hK => ?_) AllReadyH.nil
              go_simp
              go_at_call 27
              refine (KP4.out _).mono ?_
              rintro e w' ⟨rfl, rfl⟩
              go_wp2_with fail
              have bX := h4.1
              refine hK.out _ _ ?_ (fun h5 => ?_)
              · exact ⟨bX, cellOver bX a0q, cellOver bX a1q, cellOver bX a2q, cellOver bX a3q, cellOver bX p0, cellOver bX p1, cellOver bX p2, cellOver bX p3, cellOver bX z0q, cellOver bX z1q, cellOver bX z2q, cellOver bX z3q⟩
              clear hK K h4 bX
              try simp only [List.getElem_toArray, List.getElem_cons_succ, List.getElem_cons_zero, Act.put, List.setIfInBounds_toArray, List.set_cons_zero, List.set_cons_succ]
              refine wpAnyH_take (i := 38) (v := ?_) rfl (by kernel_rfl) (by kernel_rfl) (by kernel_rfl) (fun _ _ _ h => h) (Or.inl ⟨by rfl, ?_⟩) h5 ?_
              rotate_left
              · (intro w hSw; (try dsimp only at hSw); go_simp); all_goals (with_reducible rfl)
              try simp only [List.getElem_toArray, List.getElem_cons_succ, List.getElem_cons_zero, Act.put, List.setIfInBounds_toArray, List.set_cons_zero, List.set_cons_succ]
              refine wpAnyH_ready (rs := [39]) (by kernel_rfl) (by simp) ?_
              refine AllReadyH.cons rfl (fun K hK => ?_) AllReadyH.nil
              go_simp
              go_at_call 24
              refine (allows_eq lb k nw (nn + pk5) out true M4.out _ _ _ _ _ _ _ bdk (LabAt.over h5.1 LB1.out) (IsInts.over h5.1 IU1.out)).mono ?_
              rintro e wq5 ⟨rfl, bq⟩
              go_wp2_with fail
              have bX := bel2 h5.1 bq
              refine hK.out _ _ ?_ (fun h6 => ?_)
              · exact ⟨bX, cellOver bX a0q, cellOver bX a1q, cellOver bX a2q, cellOver bX a3q, cellOver bX p0, cellOver bX p1, cellOver bX p2, cellOver bX p3, cellOver bX z0q, cellOver bX z1q, cellOver bX z2q, cellOver bX z3q⟩
              clear hK K h5 bX bq
              try simp only [List.getElem_toArray, List.getElem_cons_succ, List.getElem_cons_zero, Act.put, List.setIfInBounds_toArray, List.set_cons_zero, List.set_cons_succ]
              refine wpAnyH_take (i := 40) (v := ?_) rfl (by kernel_rfl) (by kernel_rfl) (by kernel_rfl) (fun _ _ _ h => h) (Or.inl ⟨by rfl, ?_⟩) h6 ?_
              rotate_left
              · (intro w hSw; (try dsimp only at hSw); go_simp); all_goals (with_reducible rfl)
              try simp only [List.getElem_toArray, List.getElem_cons_succ, List.getElem_cons_zero, Act.put, List.setIfInBounds_toArray, List.set_cons_zero, List.set_cons_succ]
              refine wpAnyH_take (i := 41) (v := ?_) rfl (by kernel_rfl) (by kernel_rfl) (by kernel_rfl) (fun _ _ _ h => h) (Or.inl ⟨by rfl, ?_⟩) h6 ?_
              rotate_left
              · (intro w hSw; (try dsimp only at hSw); go_simp); all_goals (with_reducible rfl)
              try simp only [List.getElem_toArray, List.getElem_cons_succ, List.getElem_cons_zero, Act.put, List.setIfInBounds_toArray, List.set_cons_zero, List.set_cons_succ]
              refine wpAnyH_done (by kernel_rfl) ?_ _
              have bz1 := bel2 bz h6.1
              clear hw1 hw2 h6 a0q a1q a2q a3q p0 p1 p2 p3 z0q z1q z2q z3q
              go_wp2
              exact ⟨⟨j + 1, by omega, by go_num, rfl, bz1⟩, by simp [intOf]; omega⟩
          · obtain rfl : j = 2 := by omega
            have bz := bel2 b1 bj
            go_wp2
            exact ⟨⟨k + 1, by omega, by go_num, rfl, bz⟩, by simp [intOf]; omega⟩
      · obtain rfl : k = 4 := by omega
        have bz := bel2 bw br
        go_wp2
        go_ret
        exact ⟨rfl, bz⟩
end Go.Proofs.Ythpginepnleokaa
