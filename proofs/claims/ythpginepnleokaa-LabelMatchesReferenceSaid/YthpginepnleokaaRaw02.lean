/- The law's Raw. -/
import Derived.Test.YthpginepnleokaaConditions02
import Derived.Deep.RegionHeld3
import Derived.RegionTactic
namespace Go.Proofs.Ythpginepnleokaa
open Go.RowKit
set_option linter.unusedSimpArgs false
set_option linter.unusedVariables false
set_option linter.unnecessarySimpa false
def rawL (x0 : Int) (zs : List Int) (x2 x3 : Int) : Lab := ⟨x0, zs.take 80, x2, x3⟩
set_option maxRecDepth 100000 in
set_option maxHeartbeats 8000000 in
theorem raw_any (x0 x1 x2 x3 : Int) (zs : List Int) (a : Option Addr) (n c : Nat) (w : World) (h0 : Bd x0) (h1 : Bd x1) (h2 : Bd x2) (h3 : Bd x3) (hz : ∀ z ∈ zs, Bd z) (h : IsInts .i64 w a n c zs) :
    Calls Try.prog 15 #[.agg #[.int .i64 x0, .int .i64 x1, .int .i64 x2, .int .i64 x3], .slice a n c] w (LabGot (rawL x0 zs x2 x3) w) := by
  obtain ⟨i0, hi, hz0, hz1, hz2⟩ := info_parts intInfo
  have bw := below_alloc w (.cells #[.int .i64 x0, .int .i64 x1, .int .i64 x2, .int .i64 x3] 22)
  have HX := Lib.hid (heap_alloc_new w (.cells #[.int .i64 x0, .int .i64 x1, .int .i64 x2, .int .i64 x3] 22))
  have IZ := Lib.hid (h.over bw)
  have hl := h.1
  have hnc := h.2.1
  have hcm := h.2.2.1
  unfold maxLen at hcm
  clear h
  unfold LabGot
  go_enter Try.func15, Try.ntmps15
  obtain ⟨p0, p1, p2, p3⟩ := cells4 HX.out
  go_wp2_with fail
  have HR := Lib.hid (heap_alloc_new (w.alloc (.cells #[.int .i64 x0, .int .i64 x1, .int .i64 x2, .int .i64 x3] 22)) (.cells #[.int .i64 0, .slice none 0 0, .int .i64 0, .int .i64 0] 26))
  replace HX := Lib.hid (blockOver (below_alloc _ (.cells #[.int .i64 0, .slice none 0 0, .int .i64 0, .int .i64 0] 26)) HX.out)
  replace IZ := Lib.hid (IZ.out.over (below_alloc _ (.cells #[.int .i64 0, .slice none 0 0, .int .i64 0, .int .i64 0] 26)))
  have hs1 : (w.alloc (.cells #[.int .i64 x0, .int .i64 x1, .int .i64 x2, .int .i64 x3] 22)).heap.size = w.heap.size + 1 := by simp
  rw [hs1] at HR
  replace bw := bel2 bw (below_alloc _ (.cells #[.int .i64 0, .slice none 0 0, .int .i64 0, .int .i64 0] 26))
  have hs2 : ((w.alloc (.cells #[.int .i64 x0, .int .i64 x1, .int .i64 x2, .int .i64 x3] 22)).alloc (.cells #[.int .i64 0, .slice none 0 0, .int .i64 0, .int .i64 0] 26)).heap.size = w.heap.size + 2 := by simp
  clear p0 p1 p2 p3 hs1
  obtain ⟨W, hW⟩ : ∃ W, (w.alloc (.cells #[.int .i64 x0, .int .i64 x1, .int .i64 x2, .int .i64 x3] 22)).alloc (.cells #[.int .i64 0, .slice none 0 0, .int .i64 0, .int .i64 0] 26) = W := ⟨_, rfl⟩
  rw [hW] at HX IZ HR bw hs2 ⊢
  clear hW
  have HS2 := Lib.hid hs2
  clear hs2
  obtain ⟨m, hm⟩ : ∃ m : Nat, min (n : Int) 80 = (m : Int) := ⟨min n 80, by omega⟩
  rw [hm, Int.toNat_natCast]
  have hm1 : m ≤ n := by omega
  have hm2 : m ≤ 80 := by omega
  have hm3 : zs.take m = zs.take 80 := by
    by_cases hq : n ≤ 80
    · rw [List.take_of_length_le (by omega), List.take_of_length_le (by omega)]
    · rw [show m = 80 by omega]
  have IT := Lib.hid (ints_take IZ.out m hm1)
  obtain ⟨p0, p1, p2, p3⟩ := cells4 HX.out
  have hmk := fun W => run_make (P := Try.prog) W 23 3 i0 (.int .i64 0) Try.underlying23 hi hz0 .i64 .i64 0 m (by omega) (by omega) (by rw [hz2]; omega) (by omega)
  simp only [hz1, Value.cells, Int.toNat_zero, Int.toNat_natCast, Nat.mul_one] at hmk
  have bc := Below.refl W.heap.size W
  have q1 := HR.out
  refine wp_region_held_drew (S := fun w' => Below w.heap.size w w' ∧ w'.cell? ⟨w.heap.size, 0, none⟩ = some (.int .i64 x0) ∧ w'.cell? ⟨w.heap.size, 1, none⟩ = some (.int .i64 x1) ∧ w'.cell? ⟨w.heap.size, 2, none⟩ = some (.int .i64 x2) ∧ w'.cell? ⟨w.heap.size, 3, none⟩ = some (.int .i64 x3) ∧ ∃ u0 u1 u2 u3, w'.heap[w.heap.size + 1]? = some (.cells #[u0, u1, u2, u3] 26)) (by kernel_rfl) ?_ (fun h0' => ?_)
  · exact ⟨bw.drew, p0, p1, p2, p3, _, _, _, _, q1⟩
  refine wpAnyH_take (i := 0) (v := ?_) rfl (by kernel_rfl) (by kernel_rfl) (by kernel_rfl) (fun _ _ _ h => h) (Or.inl ⟨by rfl, ?_⟩) h0' ?_
  rotate_left
  · (intro w hSw; (try dsimp only at hSw); go_simp); all_goals (with_reducible rfl)
  try simp only [List.getElem_toArray, List.getElem_cons_succ, List.getElem_cons_zero, Act.put, List.setIfInBounds_toArray, List.set_cons_zero, List.set_cons_succ]
  refine wpAnyH_take (i := 1) (v := ?_) rfl (by kernel_rfl) (by kernel_rfl) (by kernel_rfl) (fun _ _ _ h => h) (Or.inl ⟨by rfl, ?_⟩) h0' ?_
  rotate_left
  · (intro w hSw; (try dsimp only at hSw); go_simp); all_goals (with_reducible rfl)
  try simp only [List.getElem_toArray, List.getElem_cons_succ, List.getElem_cons_zero, Act.put, List.setIfInBounds_toArray, List.set_cons_zero, List.set_cons_succ]
  refine wpAnyH_take (i := 2) (v := ?_) rfl (by kernel_rfl) (by kernel_rfl) (by kernel_rfl) (fun _ _ _ h => h) (Or.inl ⟨by rfl, ?_⟩) h0' ?_
  rotate_left
  · (intro w hSw; (try dsimp only at hSw); go_simp); all_goals (with_reducible rfl)
  try simp only [List.getElem_toArray, List.getElem_cons_succ, List.getElem_cons_zero, Act.put, List.setIfInBounds_toArray, List.set_cons_zero, List.set_cons_succ]
  refine wpAnyH_take (i := 3) (v := ?_) rfl (by kernel_rfl) (by kernel_rfl) (by kernel_rfl) (fun _ _ _ h => h) (Or.inl ⟨by rfl, ?_⟩) h0' ?_
  rotate_left
  · (intro w hSw; (try dsimp only at hSw); go_simp); all_goals (with_reducible rfl)
  try simp only [List.getElem_toArray, List.getElem_cons_succ, List.getElem_cons_zero, Act.put, List.setIfInBounds_toArray, List.set_cons_zero, List.set_cons_succ]
  refine wpAnyH_take (i := 5) (v := ?_) rfl (by kernel_rfl) (by kernel_rfl) (by kernel_rfl) (fun _ _ _ h => h) (Or.inl ⟨by rfl, ?_⟩) h0' ?_
  rotate_left
  · (intro w hSw; (try dsimp only at hSw); go_simp); all_goals (with_reducible rfl)
  try simp only [List.getElem_toArray, List.getElem_cons_succ, List.getElem_cons_zero, Act.put, List.setIfInBounds_toArray, List.set_cons_zero, List.set_cons_succ]
  refine wpAnyH_take (i := 7) (v := ?_) rfl (by kernel_rfl) (by kernel_rfl) (by kernel_rfl) (fun _ _ _ h => h) (Or.inl ⟨by rfl, ?_⟩) h0' ?_
  rotate_left
  · (intro w hSw; (try dsimp only at hSw); go_simp); all_goals (with_reducible rfl)
  try simp only [List.getElem_toArray, List.getElem_cons_succ, List.getElem_cons_zero, Act.put, List.setIfInBounds_toArray, List.set_cons_zero, List.set_cons_succ]
  refine wpAnyH_take (i := 8) (v := ?_) rfl (by kernel_rfl) (by kernel_rfl) (by kernel_rfl) (fun _ _ _ h => h) (Or.inl ⟨by rfl, ?_⟩) h0' ?_
  rotate_left
  · (intro w hSw; (try dsimp only at hSw); go_simp); all_goals (with_reducible rfl)
  try simp only [List.getElem_toArray, List.getElem_cons_succ, List.getElem_cons_zero, Act.put, List.setIfInBounds_toArray, List.set_cons_zero, List.set_cons_succ]
  refine wpAnyH_take (i := 9) (v := ?_) rfl (by kernel_rfl) (by kernel_rfl) (by kernel_rfl) (fun _ _ _ h => h) (Or.inl ⟨by rfl, ?_⟩) h0' ?_
  rotate_left
  · (intro w hSw; (try dsimp only at hSw); go_simp); all_goals (with_reducible rfl)
  try simp only [List.getElem_toArray, List.getElem_cons_succ, List.getElem_cons_zero, Act.put, List.setIfInBounds_toArray, List.set_cons_zero, List.set_cons_succ]
  refine wpAnyH_take (i := 10) (v := ?_) rfl (by kernel_rfl) (by kernel_rfl) (by kernel_rfl) (fun _ _ _ h => h) (Or.inl ⟨by rfl, ?_⟩) h0' ?_
  rotate_left
  · (intro w hSw; (try dsimp only at hSw); go_simp); all_goals (with_reducible rfl)
  try simp only [List.getElem_toArray, List.getElem_cons_succ, List.getElem_cons_zero, Act.put, List.setIfInBounds_toArray, List.set_cons_zero, List.set_cons_succ]
  refine wpAnyH_ready (rs := [4]) (by kernel_rfl) (by simp) ?_
  refine AllReadyH.cons rfl (fun K hK => ?_) AllReadyH.nil
  go_simp
  clear hmk
  have own0 : (W.alloc (.cells (madeCells #[.int .i64 0] m) 3)).drew.ownsRow W.heap.size 3 1 (.slice (some ⟨W.heap.size, 0, none⟩) 0 m) 0 [] := World.ownsRow_made W _ m (Nat.le_refl _) (by unfold maxLen; omega) (by rw [size_madeCells]; simp)
  have bX := (below_alloc W (.cells (madeCells #[.int .i64 0] m) 3)).drew
  refine hK.out _ _ ?_ (fun h1' => ?_)
  · exact ⟨bel2 bw bX, cellOver bX p0, cellOver bX p1, cellOver bX p2, cellOver bX p3, _, _, _, _, blockOver bX q1⟩
  have bM := bX
  clear hK K h0' bX
  try simp only [List.getElem_toArray, List.getElem_cons_succ, List.getElem_cons_zero, Act.put, List.setIfInBounds_toArray, List.set_cons_zero, List.set_cons_succ]
  refine wpAnyH_ready (rs := [6]) (by kernel_rfl) (by simp) ?_
  refine AllReadyH.cons rfl (fun K hK => ?_) AllReadyH.nil
  rw [if_pos (by rfl)]
  obtain ⟨v1, wa, hr1, own1, hg1, -, -⟩ := run_append_ints _ W.heap.size _ 0 [] own0 a m c (zs.take m) (IT.out.over bM) (by omega) bM.size
  obtain ⟨a1, c1, rfl⟩ := own_slice own1
  refine Lib.wp_append_run _ (.tmp 14) (.tmp 15) 23 23 rfl _ _ rfl rfl _ _ hr1 ?_
  have bX := grownBy_own_below bM own0 bM.size hg1
  clear hr1 hg1 own0
  refine hK.out _ _ ?_ (fun h2' => ?_)
  · exact ⟨bel2 bw bX, cellOver bX p0, cellOver bX p1, cellOver bX p2, cellOver bX p3, _, _, _, _, blockOver bX q1⟩
  have HB := Lib.hid bX
  have HQ := Lib.hid (blockOver bX q1)
  have HX2 := Lib.hid (blockOver bX HX.out)
  clear hK K h1' bX bM
  try simp only [List.getElem_toArray, List.getElem_cons_succ, List.getElem_cons_zero, Act.put, List.setIfInBounds_toArray, List.set_cons_zero, List.set_cons_succ]
  refine wpAnyH_take (i := 11) (v := ?_) rfl (by kernel_rfl) (by kernel_rfl) (by kernel_rfl) (fun _ _ _ h => h) (Or.inl ⟨by rfl, ?_⟩) h2' ?_
  rotate_left
  · (intro w hSw; (try dsimp only at hSw); go_simp); all_goals (with_reducible rfl)
  try simp only [List.getElem_toArray, List.getElem_cons_succ, List.getElem_cons_zero, Act.put, List.setIfInBounds_toArray, List.set_cons_zero, List.set_cons_succ]
  refine wpAnyH_ready (rs := [12]) (by kernel_rfl) (by simp) ?_
  refine AllReadyH.cons rfl (fun K hK => ?_) AllReadyH.nil
  obtain ⟨e0, e1, e2, e3⟩ := cells4 HQ.out
  have r0 := Joins.unfrozen_of_block HQ.out 0
  have r1 := Joins.unfrozen_of_block HQ.out 1
  have r2 := Joins.unfrozen_of_block HQ.out 2
  have r3 := Joins.unfrozen_of_block HQ.out 3
  go_simp
  have g0 : ∀ v0 v1 v2 v3, ((((wa.setCell ⟨w.heap.size + 1, 0, none⟩ v0).setCell ⟨w.heap.size + 1, 1, none⟩ v1).setCell ⟨w.heap.size + 1, 2, none⟩ v2).setCell ⟨w.heap.size + 1, 3, none⟩ v3).heap[w.heap.size]? = some (.cells #[.int .i64 x0, .int .i64 x1, .int .i64 x2, .int .i64 x3] 22) := fun v0 v1 v2 v3 => (Below.heap_setCell _ _ _ _ (by simp)).trans ((Below.heap_setCell _ _ _ _ (by simp)).trans ((Below.heap_setCell _ _ _ _ (by simp)).trans ((Below.heap_setCell _ _ _ _ (by simp)).trans HX2.out)))
  refine hK.out _ _ ?_ (fun h3' => ?_)
  · obtain ⟨z0, z1, z2, z3⟩ := cells4 (g0 _ _ _ _)
    exact ⟨((((bel2 bw HB.out).setCell (by simp) _).setCell (by simp) _).setCell (by simp) _).setCell (by simp) _, z0, z1, z2, z3, _, _, _, _, Joins.block_setCell (Joins.block_setCell (Joins.block_setCell (Joins.block_setCell HQ.out _) _) _) _⟩
  clear hK K g0 h3' h2'
  refine wpAnyH_done (by kernel_rfl) ?_ _
  go_wp2
  refine bodyPost_ret (v := .agg #[.int .i64 x0, .slice a1 m c1, .int .i64 x2, .int .i64 x3]) (by simp [results, Try.results15, go_sem, e0, e1, e2, e3]) rfl ?_
  have own3 := ownsRow_setCell_below (ownsRow_setCell_below (ownsRow_setCell_below (ownsRow_setCell_below own1 (a := ⟨w.heap.size + 1, 0, none⟩) (by have := HS2.out; simp; omega) (.int .i64 x0)) (a := ⟨w.heap.size + 1, 1, none⟩) (by have := HS2.out; simp; omega) (.slice a1 m c1)) (a := ⟨w.heap.size + 1, 2, none⟩) (by have := HS2.out; simp; omega) (.int .i64 x2)) (a := ⟨w.heap.size + 1, 3, none⟩) (by have := HS2.out; simp; omega) (.int .i64 x3)
  simp only [List.nil_append, Nat.zero_add] at own3
  rw [hm3] at own3
  refine ⟨a1, _, c1, rfl, ⟨ints_of_own own3 (fun z h => hz z (List.mem_of_mem_take h)), h0, h2, h3⟩, own_mono own3 (by have := HS2.out; omega), ?_⟩
  exact ((((bel2 bw HB.out).setCell (by simp) _).setCell (by simp) _).setCell (by simp) _).setCell (by simp) _
end Go.Proofs.Ythpginepnleokaa
