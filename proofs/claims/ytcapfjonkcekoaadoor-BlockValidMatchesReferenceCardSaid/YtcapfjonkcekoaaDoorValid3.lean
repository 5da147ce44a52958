/- BlockValidMatchesReference: the walk of the statement's text. -/
import Derived.Test.YtcapfjonkcekoaaDoorRefVList
import Derived.Deep.RegionHeld3
import Derived.RegionTactic
import Derived.Deep.CutRange
namespace Go.Proofs.YtcapfjonkcekoaaDoor
open Go.RowKit Go.MapKept
set_option maxRecDepth 100000
set_option linter.unusedSimpArgs false
set_option linter.unusedVariables false
set_option maxHeartbeats 16000000 in
theorem valid3 (b : Blk) (a : Option Addr) (n c : Nat) (a2 : Option Addr) (n2 c2 : Nat) (es : List BE) (w : World) (h : LabAt w a n c b.lb) (hs : b.tx.length ≤ maxLen) (h2 : IsBlks w a2 n2 c2 es) :
    Calls Tryd.prog 3 #[blkV b a n c, .slice a2 n2 c2] w fun x w' => x = .returned (.bool true) ∧ Below w.heap.size w w' := by
  have B0 := Lib.hid (below_alloc w (.cells #[.int .i64 b.id, .int .i64 b.kd, .string ⟨b.tx.toArray⟩, .int .i64 b.st, .int .i64 b.rf, .int .i64 b.lb.u, .slice a n c, .int .i64 b.lb.ap, .int .i64 b.lb.d] 26))
  have H := Lib.hid (h.over B0.out)
  have H2 := Lib.hid (h2.over B0.out)
  have HS := Lib.hid hs
  have HB := Lib.hid (heap_alloc_new w (.cells #[.int .i64 b.id, .int .i64 b.kd, .string ⟨b.tx.toArray⟩, .int .i64 b.st, .int .i64 b.rf, .int .i64 b.lb.u, .slice a n c, .int .i64 b.lb.ap, .int .i64 b.lb.d] 26))
  clear h h2 hs
  unfold blkV
  go_enter Tryd.func3, Tryd.ntmps3
  go_wp2_with fail
  refine (sane_any _).mono ?_
  rintro x w1 ⟨rfl, b1⟩
  have B1 := Lib.hid (bel2 B0.out b1)
  have L1 := Lib.hid (H.out.over b1)
  have I1 := Lib.hid (H2.out.over b1)
  have HB1 := Lib.hid (blockOver b1 HB.out)
  clear b1 B0 H H2 HB
  go_wp2_with fail
  refine (short_any a2 n2 c2 es w1 I1.out).mono ?_
  rintro x w2 ⟨a', c', rfl, hi, b2⟩
  have B2 := Lib.hid (bel2 B1.out b2)
  have L2 := Lib.hid (L1.out.over b2)
  have I2 := Lib.hid hi
  have HB2 := Lib.hid (blockOver b2 HB1.out)
  clear b2 hi B1 L1 I1 HB1
  generalize shS es = es at *
  have p0 : w2.cell? ⟨w.heap.size, 0, none⟩ = some (.int .i64 b.id) := by rw [Joins.cell_of_block HB2.out]; rfl
  have p1 : w2.cell? ⟨w.heap.size, 1, none⟩ = some (.int .i64 b.kd) := by rw [Joins.cell_of_block HB2.out]; rfl
  have p2 : w2.cell? ⟨w.heap.size, 2, none⟩ = some (.string ⟨b.tx.toArray⟩) := by rw [Joins.cell_of_block HB2.out]; rfl
  have p3 : w2.cell? ⟨w.heap.size, 3, none⟩ = some (.int .i64 b.st) := by rw [Joins.cell_of_block HB2.out]; rfl
  have p4 : w2.cell? ⟨w.heap.size, 4, none⟩ = some (.int .i64 b.rf) := by rw [Joins.cell_of_block HB2.out]; rfl
  have p5 : w2.cell? ⟨w.heap.size, 5, none⟩ = some (.int .i64 b.lb.u) := by rw [Joins.cell_of_block HB2.out]; rfl
  have p6 : w2.cell? ⟨w.heap.size, 6, none⟩ = some (.slice a n c) := by rw [Joins.cell_of_block HB2.out]; rfl
  have p7 : w2.cell? ⟨w.heap.size, 7, none⟩ = some (.int .i64 b.lb.ap) := by rw [Joins.cell_of_block HB2.out]; rfl
  have p8 : w2.cell? ⟨w.heap.size, 8, none⟩ = some (.int .i64 b.lb.d) := by rw [Joins.cell_of_block HB2.out]; rfl
  go_wp2
  have bc := Below.refl w2.heap.size w2
  refine wp_region_held_drew (S := fun w' => Below w2.heap.size w2 w' ∧ w'.cell? ⟨w.heap.size, 0, none⟩ = some (.int .i64 b.id) ∧ w'.cell? ⟨w.heap.size, 1, none⟩ = some (.int .i64 b.kd) ∧ w'.cell? ⟨w.heap.size, 2, none⟩ = some (.string ⟨b.tx.toArray⟩) ∧ w'.cell? ⟨w.heap.size, 3, none⟩ = some (.int .i64 b.st) ∧ w'.cell? ⟨w.heap.size, 4, none⟩ = some (.int .i64 b.rf) ∧ w'.cell? ⟨w.heap.size, 5, none⟩ = some (.int .i64 b.lb.u) ∧ w'.cell? ⟨w.heap.size, 6, none⟩ = some (.slice a n c) ∧ w'.cell? ⟨w.heap.size, 7, none⟩ = some (.int .i64 b.lb.ap) ∧ w'.cell? ⟨w.heap.size, 8, none⟩ = some (.int .i64 b.lb.d)) (by kernel_rfl) ?_ (fun h0 => ?_)
  · exact ⟨bc.drew, p0, p1, p2, p3, p4, p5, p6, p7, p8⟩
  refine wpAnyH_take (i := 0) (v := ?_) rfl (by kernel_rfl) (by kernel_rfl) (by kernel_rfl) (fun _ _ _ h => h) (Or.inl ⟨by rfl, ?_⟩) h0 ?_
  rotate_left
  · (intro w hSw; (try dsimp only at hSw); go_simp); all_goals (with_reducible rfl)
  try simp only [List.getElem_toArray, List.getElem_cons_succ, List.getElem_cons_zero, Act.put, List.setIfInBounds_toArray, List.set_cons_zero, List.set_cons_succ]
  refine wpAnyH_take (i := 1) (v := ?_) rfl (by kernel_rfl) (by kernel_rfl) (by kernel_rfl) (fun _ _ _ h => h) (Or.inl ⟨by rfl, ?_⟩) h0 ?_
  rotate_left
  · (intro w hSw; (try dsimp only at hSw); go_simp); all_goals (with_reducible rfl)
  try simp only [List.getElem_toArray, List.getElem_cons_succ, List.getElem_cons_zero, Act.put, List.setIfInBounds_toArray, List.set_cons_zero, List.set_cons_succ]
  refine wpAnyH_take (i := 2) (v := ?_) rfl (by kernel_rfl) (by kernel_rfl) (by kernel_rfl) (fun _ _ _ h => h) (Or.inl ⟨by rfl, ?_⟩) h0 ?_
  rotate_left
  · (intro w hSw; (try dsimp only at hSw); go_simp); all_goals (with_reducible rfl)
  try simp only [List.getElem_toArray, List.getElem_cons_succ, List.getElem_cons_zero, Act.put, List.setIfInBounds_toArray, List.set_cons_zero, List.set_cons_succ]
  refine wpAnyH_take (i := 4) (v := ?_) rfl (by kernel_rfl) (by kernel_rfl) (by kernel_rfl) (fun _ _ _ h => h) (Or.inl ⟨by rfl, ?_⟩) h0 ?_
  rotate_left
  · (intro w hSw; (try dsimp only at hSw); go_simp); all_goals (with_reducible rfl)
  try simp only [List.getElem_toArray, List.getElem_cons_succ, List.getElem_cons_zero, Act.put, List.setIfInBounds_toArray, List.set_cons_zero, List.set_cons_succ]
  refine wpAnyH_ready (rs := [3]) (by kernel_rfl) (by simp) ?_
  refine AllReadyH.cons rfl (fun K hK => ?_) AllReadyH.nil
  go_simp
  go_at_call 18
  refine (bvalid_any b a n c _ (L2.out.over h0.1) HS.out).mono ?_
  rintro e wq0 ⟨rfl, bq⟩
  go_wp2_with fail
  have bX := bel2 h0.1 bq
  refine hK.out _ _ ?_ (fun h1 => ?_)
  · exact ⟨bX, cellOver bX p0, cellOver bX p1, cellOver bX p2, cellOver bX p3, cellOver bX p4, cellOver bX p5, cellOver bX p6, cellOver bX p7, cellOver bX p8⟩
  clear hK K h0 bX bq
  try simp only [List.getElem_toArray, List.getElem_cons_succ, List.getElem_cons_zero, Act.put, List.setIfInBounds_toArray, List.set_cons_zero, List.set_cons_succ]
  refine wpAnyH_ready (rs := [5]) (by kernel_rfl) (by simp) ?_
  refine AllReadyH.cons rfl (fun K hK => ?_) AllReadyH.nil
  go_simp
  go_at_call 19
  refine (refvalid_any b a n c _ (L2.out.over h1.1) HS.out).mono ?_
  rintro e wq1 ⟨rfl, bq⟩
  go_wp2_with fail
  have bX := bel2 h1.1 bq
  refine hK.out _ _ ?_ (fun h2 => ?_)
  · exact ⟨bX, cellOver bX p0, cellOver bX p1, cellOver bX p2, cellOver bX p3, cellOver bX p4, cellOver bX p5, cellOver bX p6, cellOver bX p7, cellOver bX p8⟩
  clear hK K h1 bX bq
  try simp only [List.getElem_toArray, List.getElem_cons_succ, List.getElem_cons_zero, Act.put, List.setIfInBounds_toArray, List.set_cons_zero, List.set_cons_succ]
  refine wpAnyH_take (i := 6) (v := ?_) rfl (by kernel_rfl) (by kernel_rfl) (by kernel_rfl) (fun _ _ _ h => h) (Or.inl ⟨by rfl, ?_⟩) h2 ?_
  rotate_left
  · (intro w hSw; (try dsimp only at hSw); go_simp); all_goals (with_reducible rfl)
  try simp only [List.getElem_toArray, List.getElem_cons_succ, List.getElem_cons_zero, Act.put, List.setIfInBounds_toArray, List.set_cons_zero, List.set_cons_succ]
  refine wpAnyH_take (i := 7) (v := ?_) rfl (by kernel_rfl) (by kernel_rfl) (by kernel_rfl) (fun _ _ _ h => h) (Or.inl ⟨by rfl, ?_⟩) h2 ?_
  rotate_left
  · (intro w hSw; (try dsimp only at hSw); go_simp); all_goals (with_reducible rfl)
  try simp only [List.getElem_toArray, List.getElem_cons_succ, List.getElem_cons_zero, Act.put, List.setIfInBounds_toArray, List.set_cons_zero, List.set_cons_succ]
  refine wpAnyH_take (i := 8) (v := ?_) rfl (by kernel_rfl) (by kernel_rfl) (by kernel_rfl) (fun _ _ _ h => h) (Or.inl ⟨by rfl, ?_⟩) h2 ?_
  rotate_left
  · (intro w hSw; (try dsimp only at hSw); go_simp); all_goals (with_reducible rfl)
  try simp only [List.getElem_toArray, List.getElem_cons_succ, List.getElem_cons_zero, Act.put, List.setIfInBounds_toArray, List.set_cons_zero, List.set_cons_succ]
  refine wpAnyH_take (i := 9) (v := ?_) rfl (by kernel_rfl) (by kernel_rfl) (by kernel_rfl) (fun _ _ _ h => h) (Or.inl ⟨by rfl, ?_⟩) h2 ?_
  rotate_left
  · (intro w hSw; (try dsimp only at hSw); go_simp); all_goals (with_reducible rfl)
  try simp only [List.getElem_toArray, List.getElem_cons_succ, List.getElem_cons_zero, Act.put, List.setIfInBounds_toArray, List.set_cons_zero, List.set_cons_succ]
  refine wpAnyH_take (i := 11) (v := ?_) rfl (by kernel_rfl) (by kernel_rfl) (by kernel_rfl) (fun _ _ _ h => h) (Or.inl ⟨by rfl, ?_⟩) h2 ?_
  rotate_left
  · (intro w hSw; (try dsimp only at hSw); go_simp); all_goals (with_reducible rfl)
  try simp only [List.getElem_toArray, List.getElem_cons_succ, List.getElem_cons_zero, Act.put, List.setIfInBounds_toArray, List.set_cons_zero, List.set_cons_succ]
  refine wpAnyH_ready (rs := [10]) (by kernel_rfl) (by simp) ?_
  refine AllReadyH.cons rfl (fun K hK => ?_) AllReadyH.nil
  go_simp
  go_at_call 20
  refine (vlist_any a' _ c' es _ (I2.out.over h2.1)).mono ?_
  rintro e wq2 ⟨rfl, bq⟩
  go_wp2_with fail
  have bX := bel2 h2.1 bq
  refine hK.out _ _ ?_ (fun h3 => ?_)
  · exact ⟨bX, cellOver bX p0, cellOver bX p1, cellOver bX p2, cellOver bX p3, cellOver bX p4, cellOver bX p5, cellOver bX p6, cellOver bX p7, cellOver bX p8⟩
  clear hK K h2 bX bq
  try simp only [List.getElem_toArray, List.getElem_cons_succ, List.getElem_cons_zero, Act.put, List.setIfInBounds_toArray, List.set_cons_zero, List.set_cons_succ]
  refine wpAnyH_ready (rs := [12]) (by kernel_rfl) (by simp) ?_
  refine AllReadyH.cons rfl (fun K hK => ?_) AllReadyH.nil
  go_simp
  go_at_call 21
  refine (refvlist_any a' _ c' es _ (I2.out.over h3.1)).mono ?_
  rintro e wq3 ⟨rfl, bq⟩
  go_wp2_with fail
  have bX := bel2 h3.1 bq
  refine hK.out _ _ ?_ (fun h4 => ?_)
  · exact ⟨bX, cellOver bX p0, cellOver bX p1, cellOver bX p2, cellOver bX p3, cellOver bX p4, cellOver bX p5, cellOver bX p6, cellOver bX p7, cellOver bX p8⟩
  clear hK K h3 bX bq
  try simp only [List.getElem_toArray, List.getElem_cons_succ, List.getElem_cons_zero, Act.put, List.setIfInBounds_toArray, List.set_cons_zero, List.set_cons_succ]
  refine wpAnyH_take (i := 13) (v := ?_) rfl (by kernel_rfl) (by kernel_rfl) (by kernel_rfl) (fun _ _ _ h => h) (Or.inl ⟨by rfl, ?_⟩) h4 ?_
  rotate_left
  · (intro w hSw; (try dsimp only at hSw); go_simp); all_goals (with_reducible rfl)
  try simp only [List.getElem_toArray, List.getElem_cons_succ, List.getElem_cons_zero, Act.put, List.setIfInBounds_toArray, List.set_cons_zero, List.set_cons_succ]
  refine wpAnyH_take (i := 14) (v := ?_) rfl (by kernel_rfl) (by kernel_rfl) (by kernel_rfl) (fun _ _ _ h => h) (Or.inl ⟨by rfl, ?_⟩) h4 ?_
  rotate_left
  · (intro w hSw; (try dsimp only at hSw); go_simp); all_goals (with_reducible rfl)
  try simp only [List.getElem_toArray, List.getElem_cons_succ, List.getElem_cons_zero, Act.put, List.setIfInBounds_toArray, List.set_cons_zero, List.set_cons_succ]
  refine wpAnyH_take (i := 15) (v := ?_) rfl (by kernel_rfl) (by kernel_rfl) (by kernel_rfl) (fun _ _ _ h => h) (Or.inl ⟨by rfl, ?_⟩) h4 ?_
  rotate_left
  · (intro w hSw; (try dsimp only at hSw); go_simp); all_goals (with_reducible rfl)
  try simp only [List.getElem_toArray, List.getElem_cons_succ, List.getElem_cons_zero, Act.put, List.setIfInBounds_toArray, List.set_cons_zero, List.set_cons_succ]
  refine wpAnyH_done (by kernel_rfl) ?_ _
  go_wp2
  go_ret
  exact ⟨rfl, bel2 B2.out h4.1⟩
end Go.Proofs.YtcapfjonkcekoaaDoor
