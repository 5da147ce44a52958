/- LabelMemory: the walk of the statement's text. -/
import Derived.Test.YthpginepnleokaaLabT
import Derived.Deep.RegionHeld3
import Derived.RegionTactic
import Derived.Deep.CutRange
import Derived.Lib.BufferWrite
import Derived.Laws.OwnMore
namespace Go.Proofs.Ythpginepnleokaa
open Go.RowKit
set_option linter.unusedSimpArgs false
set_option linter.unusedVariables false
set_option linter.unnecessarySimpa false
theorem own_later {w w' : World} {base : Nat} {e : TypeId} {size : Nat} {v : Value} {n : Nat} {xs : List Value} (h : w.ownsRow base e size v n xs) (hb : Below w.heap.size w w') : w'.ownsRow base e size v n xs :=
  ⟨h.1, h.2.imp id (fun ⟨g, cap, cur, h1, h2, h3, h4⟩ => ⟨g, cap, cur, h1, h2, blockOver hb h3, h4⟩)⟩
theorem own_ne {w : World} {base g : Nat} {a : Option Addr} {n c : Nat} {xs : List Value} (h : w.ownsRow base 3 1 (.slice a n c) n xs) (hg : g < base) : Value.ownBlock (.slice a n c) = none ∨ Value.ownBlock (.slice a n c) ≠ some g := by
  rcases hv : Value.ownBlock (.slice a n c) with _ | q
  · exact .inl rfl
  · right; intro e
    have := (h.lt _ hv).1
    injection e with e
    omega
/-- The row of 200 zeros after as many integers have been appended. -/
def filled (zs : List Int) : Array Value := (zs.map (Value.int .i64) ++ List.replicate (200 - zs.length) (Value.int .i64 0)).toArray
theorem append_made (w : World) (g : Nat) (hg : w.heap[g]? = some (.cells (madeCells #[.int .i64 0] 200) 3 (0, 0))) (a : Option Addr) (m c : Nat) (zs : List Int) (hz : IsInts .i64 w a m c zs) (hm : m ≤ 200) :
    ∃ w', (Builtin.append_ #[23, 23] 23 #[.slice (some ⟨g, 0, none⟩) 0 200, .slice a m c]).run Try.prog w = .ok (.slice (some ⟨g, 0, none⟩) m 200) w' ∧ w'.heap[g]? = some (.cells (filled zs) 3 (0, 0)) ∧ w.grownBy w' (some g) := by
  obtain ⟨i0, hi, hz0, hz1, hz2⟩ := info_parts intInfo'
  rcases a with _ | ad
  · have h0 : m = 0 := by
      rcases hz.2.2.2.2 with h0 | ⟨b, off, e, _⟩
      · exact h0
      · cases e
    subst h0
    have hzn : zs = [] := List.eq_nil_of_length_eq_zero hz.1
    subst hzn
    have hown : w.ownsRow 0 3 1 (.slice (some ⟨g, 0, none⟩) 0 200) 0 [] := ⟨rfl, .inr ⟨g, 200, _, rfl, Nat.zero_le _, hg, Nat.zero_le _, by unfold maxLen; omega, by rw [size_madeCells], by simp⟩⟩
    refine ⟨w, append_none w 23 23 3 i0 1 Try.underlying23 hi 0 _ 0 [] hown c, ?_, ⟨rfl, rfl, rfl, Nat.le_refl _, fun _ _ _ => rfl⟩⟩
    have e : madeCells #[Value.int .i64 0] 200 = filled [] := by
      apply Array.toList_inj.1
      rw [toList_madeCells_one]
      rfl
    rw [hg, e]
  · have hr := run_append_room (P := Try.prog) w 23 23 3 i0 Try.underlying23 hi g 0 200 _ hg ad m c (zs.map (Value.int .i64)) (by rw [hz1]; simpa using hz.1) (news_of hz) (one_cells zs) (by omega) (by rw [size_madeCells]; have := hz.1; simp; omega)
    rw [Nat.zero_add] at hr
    refine ⟨_, hr, ?_, ⟨rfl, rfl, rfl, by simp, fun k _ hk => setRow_other w g k _ (fun e => hk (by rw [e]))⟩⟩
    rw [setRow_heap w g _ _ 3 _ hg, toList_madeCells_one, List.drop_replicate, Nat.zero_mul, List.take_zero, List.nil_append, List.length_map, Nat.zero_add]
    rfl
theorem filled_ints {w : World} {g : Nat} {zs : List Int} (h : w.heap[g]? = some (.cells (filled zs) 3 (0, 0))) (hl : zs.length ≤ 200) (hz : ∀ z ∈ zs, Bd z) : IsInts .i64 w (some ⟨g, 0, none⟩) zs.length 200 zs := by
  refine ⟨rfl, hl, by unfold maxLen; omega, fun z h => of_wf64 (hz z h), .inr ⟨g, 0, rfl, fun i hi => ?_⟩⟩
  rw [Nat.zero_add, Joins.cell_of_block h]
  simp [filled, List.getElem?_append, hi, List.getD]
theorem filled_spare {w : World} {g : Nat} {zs : List Int} (h : w.heap[g]? = some (.cells (filled zs) 3 (0, 0))) {i : Nat} (h1 : zs.length ≤ i) (h2 : i < 200) : w.cell? ⟨g, i, none⟩ = some (.int .i64 0) := by
  rw [Joins.cell_of_block h]
  unfold filled
  rw [List.getElem?_toArray, List.getElem?_append_right (by simpa using h1), List.getElem?_replicate, if_pos (by simp; omega)]
theorem grown_fill {V wa : World} {o : Obj} {ga i : Nat} {v : Value} (h : (V.alloc o).drew.grownBy wa (some V.heap.size)) : V.grownBy (wa.setCell ⟨ga, i, none⟩ v) (some ga) := by
  have h1 : V.grownBy (V.alloc o).drew none := ⟨rfl, rfl, rfl, by simp, fun k hk _ => Below.heap_alloc V o k hk⟩
  have h3 := Lib.grownBy_setCell wa ga i v
  refine ⟨h3.os.trans (h.os.trans h1.os), h3.tape.trans (h.tape.trans h1.tape), h3.output.trans (h.output.trans h1.output), Nat.le_trans h1.size (Nat.le_trans h.size h3.size), fun k hk hne => ?_⟩
  have hk2 : k < (V.alloc o).drew.heap.size := Nat.lt_of_lt_of_le hk h1.size
  exact (h3.block k (Nat.lt_of_lt_of_le hk2 h.size) hne).trans ((h.block k hk2 (by intro e; injection e with e; omega)).trans (h1.block k hk (by simp)))
/-- The row of a label that the text made, into which it may store. -/
def RowOf (w : World) (a : Option Addr) (n lo hi : Nat) : Prop := n = 0 ∨ ∃ gj cur, a = some ⟨gj, 0, none⟩ ∧ lo ≤ gj ∧ gj < hi ∧ w.heap[gj]? = some (.cells cur 3 (0, 0)) ∧ n ≤ cur.size
theorem RowOf.of_own {w : World} {base : Nat} {a : Option Addr} {n c : Nat} {xs : List Value} (h : w.ownsRow base 3 1 (.slice a n c) n xs) : RowOf w a n base w.heap.size := by
  rcases h.2 with ⟨_, h0⟩ | ⟨gj, cap, cur, e, hb, hg, hn, hm, hs, ht⟩
  · exact .inl h0
  · injection e with e1 e2 e3
    refine .inr ⟨gj, cur, e1, hb, (Array.getElem?_eq_some_iff.1 hg).1, hg, ?_⟩
    subst e3
    omega
theorem RowOf.over {w w' : World} {a : Option Addr} {n lo hi : Nat} (h : RowOf w a n lo hi) (hb : Below w.heap.size w w') : RowOf w' a n lo hi :=
  h.imp id fun ⟨gj, cur, h1, h2, h3, h4, h5⟩ => ⟨gj, cur, h1, h2, h3, blockOver hb h4, h5⟩
set_option maxRecDepth 100000 in
set_option maxHeartbeats 32000000 in
theorem memory_walk (x0 x1 x2 x3 y0 y1 y2 y3 : Int) (w : World) (hx : B4 x0 x1 x2 x3) (hy : B4 y0 y1 y2 y3) :
    Calls Try.prog 12 #[.agg #[.int .i64 x0, .int .i64 x1, .int .i64 x2, .int .i64 x3], .agg #[.int .i64 y0, .int .i64 y1, .int .i64 y2, .int .i64 y3]] w fun e w' => e = .returned (.bool true) ∧ Below w.heap.size w w' := by
  obtain ⟨la, _, okA, KA⟩ := make_eq _ _ _ _ hx
  obtain ⟨lb, _, okB, KB⟩ := make_eq _ _ _ _ hy
  obtain ⟨lj, hj⟩ : ∃ l, joinL la lb = l := ⟨_, rfl⟩
  have okJ := Lib.hid (show Ok lj by rw [← hj]; exact joinL_ok _ _)
  have EJ := Lib.hid hj
  have SA := Lib.hid (same_refl la)
  have SB := Lib.hid (same_refl lb)
  have SJ := Lib.hid (same_refl lj)
  obtain ⟨r1, hr1⟩ : ∃ r, leqB la lb = r := ⟨_, rfl⟩
  obtain ⟨r2, hr2⟩ : ∃ r, allB la 0 0 lb.af 0 = r := ⟨_, rfl⟩
  have F1 := Lib.hid hr1
  have F2 := Lib.hid hr2
  have bd0 : Bd 0 := by unfold Bd; omega
  obtain ⟨i0, hi, hz0, hz1, hz2⟩ := info_parts intInfo
  clear hj hr1 hr2 hx hy
  obtain ⟨hX, hY, bw⟩ := two_allocs w (.cells #[.int .i64 x0, .int .i64 x1, .int .i64 x2, .int .i64 x3] 22) (.cells #[.int .i64 y0, .int .i64 y1, .int .i64 y2, .int .i64 y3] 22)
  have HX := Lib.hid hX
  have HY := Lib.hid hY
  clear hX hY
  go_enter Try.func12, Try.ntmps12
  obtain ⟨hxq0, hxq1, hxq2, hxq3⟩ := cells4 HX.out
  obtain ⟨hyq0, hyq1, hyq2, hyq3⟩ := cells4 HY.out
  go_wp2_with fail
  refine (sane_any _).mono ?_
  rintro e w1 ⟨rfl, bq⟩
  replace HX := Lib.hid (blockOver bq HX.out)
  replace HY := Lib.hid (blockOver bq HY.out)
  replace bw := bel2 bw bq
  clear bq hxq0 hxq1 hxq2 hxq3 hyq0 hyq1 hyq2 hyq3
  have hs1 : w.heap.size + 1 < w1.heap.size := (Array.getElem?_eq_some_iff.1 HY.out).1
  obtain ⟨hxq0, hxq1, hxq2, hxq3⟩ := cells4 HX.out
  go_wp2_with fail
  refine (KA.out _).mono ?_
  rintro e w2 ⟨aA, nA, cA, rfl, LA, OA, bq⟩
  have hszA := bq.size
  have HA := Lib.hid (heap_alloc_new w2 (.cells #[.int .i64 la.u, .slice aA nA cA, .int .i64 la.ap, .int .i64 la.d] 26))
  replace LA := Lib.hid (LA.over (below_alloc w2 (.cells #[.int .i64 la.u, .slice aA nA cA, .int .i64 la.ap, .int .i64 la.d] 26)))
  replace OA := Lib.hid (own_later OA (below_alloc w2 (.cells #[.int .i64 la.u, .slice aA nA cA, .int .i64 la.ap, .int .i64 la.d] 26)))
  replace bq := bel2 bq (below_alloc w2 (.cells #[.int .i64 la.u, .slice aA nA cA, .int .i64 la.ap, .int .i64 la.d] 26))
  replace HX := Lib.hid (blockOver bq HX.out)
  replace HY := Lib.hid (blockOver bq HY.out)
  replace bw := bel2 bw bq
  clear bq hxq0 hxq1 hxq2 hxq3
  clear OA
  obtain ⟨hyq0, hyq1, hyq2, hyq3⟩ := cells4 HY.out
  go_wp2_with fail
  refine (KB.out _).mono ?_
  rintro e w3 ⟨aB, nB, cB, rfl, LB, OB, bq⟩
  have hszB := bq.size
  have HB := Lib.hid (heap_alloc_new w3 (.cells #[.int .i64 lb.u, .slice aB nB cB, .int .i64 lb.ap, .int .i64 lb.d] 26))
  replace LB := Lib.hid (LB.over (below_alloc w3 (.cells #[.int .i64 lb.u, .slice aB nB cB, .int .i64 lb.ap, .int .i64 lb.d] 26)))
  replace OB := Lib.hid (own_later OB (below_alloc w3 (.cells #[.int .i64 lb.u, .slice aB nB cB, .int .i64 lb.ap, .int .i64 lb.d] 26)))
  replace bq := bel2 bq (below_alloc w3 (.cells #[.int .i64 lb.u, .slice aB nB cB, .int .i64 lb.ap, .int .i64 lb.d] 26))
  replace HX := Lib.hid (blockOver bq HX.out)
  replace HY := Lib.hid (blockOver bq HY.out)
  replace HA := Lib.hid (blockOver bq HA.out)
  replace LA := Lib.hid (LabAt.over bq LA.out)
  replace bw := bel2 bw bq
  clear bq hyq0 hyq1 hyq2 hyq3
  have hsA : (w2.alloc (.cells #[.int .i64 la.u, .slice aA nA cA, .int .i64 la.ap, .int .i64 la.d] 26)).heap.size = w2.heap.size + 1 := by simp
  rw [hsA] at OB hszB
  obtain ⟨ga, hga⟩ : ∃ ga, w2.heap.size = ga := ⟨_, rfl⟩
  obtain ⟨gb, hgb⟩ : ∃ gb, w3.heap.size = gb := ⟨_, rfl⟩
  have hwga : w.heap.size + 1 < ga := by omega
  have hgab : ga < gb := by omega
  clear hs1 hszA hszB hsA LB
  obtain ⟨p0, p1, p2, p3⟩ := cells4 HA.out
  go_wp2_with fail
  obtain ⟨V, hV⟩ : ∃ V, w3.alloc (.cells #[.int .i64 lb.u, .slice aB nB cB, .int .i64 lb.ap, .int .i64 lb.d] 26) = V := ⟨_, rfl⟩
  rw [hV] at bw HX HY HA HB LA OB p0 p1 p2 p3 ⊢
  rw [hga] at HA OB
  try rw [hga] at p0 p1 p2 p3
  try rw [hga]
  rw [hgb] at HB
  try rw [hgb]
  have hVs : V.heap.size = gb + 1 := by rw [← hV, ← hgb]; simp
  obtain ⟨R, hR⟩ : ∃ R, V.heap.size = R := ⟨_, rfl⟩
  have hgR : ga < R := by omega
  have hgbR : gb < R := by omega
  clear hVs
  have hgV : ga < V.heap.size := by omega
  clear hV hga hgb
  go_cut [] from 18 to 22 (fun wr => V.grownBy wr (some ga) ∧ wr.heap[ga]? = some (.cells #[.int .i64 la.u, .slice (some ⟨R, 0, none⟩) nA 200, .int .i64 la.ap, .int .i64 la.d] 26 (0, 0)) ∧ wr.heap[R]? = some (.cells (filled la.af) 3 (0, 0)))
  case first =>
    have hmk := fun W => run_make (P := Try.prog) W 23 3 i0 (.int .i64 0) Try.underlying23 hi hz0 .i64 .i64 0 200 (by omega) (by omega) (by rw [hz2]; omega) (by omega)
    simp only [hz1, Value.cells, Int.toNat_zero, show (200 : Int).toNat = 200 by rfl, Nat.mul_one] at hmk
    have bM := below_alloc V (.cells (madeCells #[.int .i64 0] 200) 3)
    have z1 := cellOver bM p1
    have HN := Lib.hid (LA.out.1.over bM)
    have hn64 : nA ≤ 200 := by have h1 := LA.out.1.1; have h2 := asc_len okA.out.2.2.1 okA.out.2.1; omega
    have HM := Lib.hid (show (V.alloc (.cells (madeCells #[.int .i64 0] 200) 3)).drew.heap[R]? = some (.cells (madeCells #[.int .i64 0] 200) 3 (0, 0)) from hR ▸ heap_alloc_new V _)
    obtain ⟨wa, hr, hRow, hgr⟩ := append_made (V.alloc (.cells (madeCells #[.int .i64 0] 200) 3)).drew R HM.out aA nA cA la.af HN.out hn64
    have hga2 : wa.heap[ga]? = some (.cells #[.int .i64 la.u, .slice aA nA cA, .int .i64 la.ap, .int .i64 la.d] 26 (0, 0)) := (hgr.block ga (by simp; omega) (by intro e; injection e with e; omega)).trans ((Below.heap_alloc V _ ga (by omega)).trans HA.out)
    have HGA := Lib.hid hga2
    have HROW := Lib.hid hRow
    have HGR := Lib.hid (grown_fill (ga := ga) (i := 1) (v := .slice (some ⟨R, 0, none⟩) nA 200) (hR ▸ hgr))
    clear hga2 hRow hgr bM
    refine wp_region_held_drew (S := fun w' => 0 ≤ w'.heap.size) (by kernel_rfl) (Nat.zero_le _) (fun h0 => ?_)
    refine wpAnyH_take (i := 1) (v := ?_) rfl (by kernel_rfl) (by kernel_rfl) (by kernel_rfl) (fun _ _ _ h => h) (Or.inl ⟨by rfl, ?_⟩) h0 ?_
    rotate_left
    · (intro w hSw; (try dsimp only at hSw); go_simp); all_goals (with_reducible rfl)
    try simp only [List.getElem_toArray, List.getElem_cons_succ, List.getElem_cons_zero, Act.put, List.setIfInBounds_toArray, List.set_cons_zero, List.set_cons_succ]
    refine wpAnyH_ready (rs := [0, 2]) (by kernel_rfl) (by simp) ?_
    refine AllReadyH.cons rfl (fun K hK => ?_) (AllReadyH.cons rfl (fun K hK => ?_) AllReadyH.nil)
    · skip
      go_simp
      clear hmk
      refine hK.out _ _ (Nat.zero_le _) (fun h1 => ?_)
      clear hK K
      try simp only [List.getElem_toArray, List.getElem_cons_succ, List.getElem_cons_zero, Act.put, List.setIfInBounds_toArray, List.set_cons_zero, List.set_cons_succ]
      refine wpAnyH_ready (rs := [2]) (by kernel_rfl) (by simp) ?_
      refine AllReadyH.cons rfl (fun K hK => ?_) AllReadyH.nil
      go_simp
      refine hK.out _ _ (Nat.zero_le _) (fun h2 => ?_)
      clear hK K
      try simp only [List.getElem_toArray, List.getElem_cons_succ, List.getElem_cons_zero, Act.put, List.setIfInBounds_toArray, List.set_cons_zero, List.set_cons_succ]
      refine wpAnyH_ready (rs := [3]) (by kernel_rfl) (by simp) ?_
      refine AllReadyH.cons rfl (fun K hK => ?_) AllReadyH.nil
      rw [if_pos (by rfl)]
      try rw [hR]
      refine Lib.wp_append_run _ (.tmp 18) (.tmp 20) 23 23 rfl _ _ rfl rfl _ _ hr ?_
      refine hK.out _ _ (Nat.zero_le _) (fun h3 => ?_)
      clear hK K
      try simp only [List.getElem_toArray, List.getElem_cons_succ, List.getElem_cons_zero, Act.put, List.setIfInBounds_toArray, List.set_cons_zero, List.set_cons_succ]
      refine wpAnyH_take (i := 4) (v := ?_) rfl (by kernel_rfl) (by kernel_rfl) (by kernel_rfl) (fun _ _ _ h => h) (Or.inl ⟨by rfl, ?_⟩) h3 ?_
      rotate_left
      · (intro w hSw; (try dsimp only at hSw); go_simp); all_goals (with_reducible rfl)
      try simp only [List.getElem_toArray, List.getElem_cons_succ, List.getElem_cons_zero, Act.put, List.setIfInBounds_toArray, List.set_cons_zero, List.set_cons_succ]
      refine wpAnyH_ready (rs := [5]) (by kernel_rfl) (by simp) ?_
      refine AllReadyH.cons rfl (fun K hK => ?_) AllReadyH.nil
      obtain ⟨e0, e1, e2, e3⟩ := cells4 HGA.out
      have f1 := Joins.unfrozen_of_block HGA.out 1
      go_simp
      refine hK.out _ _ (Nat.zero_le _) (fun h4 => ?_)
      clear hK K
      try simp only [List.getElem_toArray, List.getElem_cons_succ, List.getElem_cons_zero, Act.put, List.setIfInBounds_toArray, List.set_cons_zero, List.set_cons_succ]
      refine wpAnyH_done (by kernel_rfl) ?_ _
      clear h0 h1 h2 h3 h4
      go_wp2_with fail
      go_meet
      exact ⟨HGR.out, Joins.block_setCell HGA.out _, (Below.heap_setCell _ _ _ _ (by simp; omega)).trans HROW.out⟩
    · skip
      go_simp
      refine hK.out _ _ (Nat.zero_le _) (fun h1 => ?_)
      clear hK K
      try simp only [List.getElem_toArray, List.getElem_cons_succ, List.getElem_cons_zero, Act.put, List.setIfInBounds_toArray, List.set_cons_zero, List.set_cons_succ]
      refine wpAnyH_ready (rs := [0]) (by kernel_rfl) (by simp) ?_
      refine AllReadyH.cons rfl (fun K hK => ?_) AllReadyH.nil
      go_simp
      clear hmk
      refine hK.out _ _ (Nat.zero_le _) (fun h2 => ?_)
      clear hK K
      try simp only [List.getElem_toArray, List.getElem_cons_succ, List.getElem_cons_zero, Act.put, List.setIfInBounds_toArray, List.set_cons_zero, List.set_cons_succ]
      refine wpAnyH_ready (rs := [3]) (by kernel_rfl) (by simp) ?_
      refine AllReadyH.cons rfl (fun K hK => ?_) AllReadyH.nil
      rw [if_pos (by rfl)]
      try rw [hR]
      refine Lib.wp_append_run _ (.tmp 18) (.tmp 20) 23 23 rfl _ _ rfl rfl _ _ hr ?_
      refine hK.out _ _ (Nat.zero_le _) (fun h3 => ?_)
      clear hK K
      try simp only [List.getElem_toArray, List.getElem_cons_succ, List.getElem_cons_zero, Act.put, List.setIfInBounds_toArray, List.set_cons_zero, List.set_cons_succ]
      refine wpAnyH_take (i := 4) (v := ?_) rfl (by kernel_rfl) (by kernel_rfl) (by kernel_rfl) (fun _ _ _ h => h) (Or.inl ⟨by rfl, ?_⟩) h3 ?_
      rotate_left
      · (intro w hSw; (try dsimp only at hSw); go_simp); all_goals (with_reducible rfl)
      try simp only [List.getElem_toArray, List.getElem_cons_succ, List.getElem_cons_zero, Act.put, List.setIfInBounds_toArray, List.set_cons_zero, List.set_cons_succ]
      refine wpAnyH_ready (rs := [5]) (by kernel_rfl) (by simp) ?_
      refine AllReadyH.cons rfl (fun K hK => ?_) AllReadyH.nil
      obtain ⟨e0, e1, e2, e3⟩ := cells4 HGA.out
      have f1 := Joins.unfrozen_of_block HGA.out 1
      go_simp
      refine hK.out _ _ (Nat.zero_le _) (fun h4 => ?_)
      clear hK K
      try simp only [List.getElem_toArray, List.getElem_cons_succ, List.getElem_cons_zero, Act.put, List.setIfInBounds_toArray, List.set_cons_zero, List.set_cons_succ]
      refine wpAnyH_done (by kernel_rfl) ?_ _
      clear h0 h1 h2 h3 h4
      go_wp2_with fail
      go_meet
      exact ⟨HGR.out, Joins.block_setCell HGA.out _, (Below.heap_setCell _ _ _ _ (by simp; omega)).trans HROW.out⟩
  case rest =>
    obtain ⟨hgw, hA2, hR2⟩ := hcut
    have hsV := hgw.size
    replace HX := Lib.hid ((hgw.block _ (by omega) (by intro e; injection e with e; omega)).trans HX.out)
    replace HY := Lib.hid ((hgw.block _ (by omega) (by intro e; injection e with e; omega)).trans HY.out)
    replace HB := Lib.hid ((hgw.block _ (by omega) (by intro e; injection e with e; omega)).trans HB.out)
    replace HA := Lib.hid hA2
    have HR := Lib.hid hR2
    have OB2 := OB.out.kept hgw (own_ne OB.out (by omega))
    have hl := LA.out.1.1
    have hn64 : nA ≤ 200 := by have h1 := LA.out.1.1; have h2 := asc_len okA.out.2.2.1 okA.out.2.1; omega
    have hi2 := filled_ints hR2 (by omega) (ok_ints okA.out)
    rw [hl] at hi2
    replace LA := Lib.hid (show LabAt wc (some ⟨R, 0, none⟩) nA 200 la from ⟨hi2, okA.out.bd⟩)
    have LB := Lib.hid (labAt_of_own okB.out OB2)
    have bw0 := bw.grown hgw (by omega) (fun q hq => by injection hq with hq; omega)
    have HNL := Lib.hid hl
    clear bw hi2 hgw hA2 hR2 OB OB2 p0 p1 p2 p3 hl hi hz0 hz1 hz2
    obtain ⟨U, rfl⟩ : ∃ U, U = wc := ⟨_, rfl⟩
    have bw := Below.refl U.heap.size U
    have HX0 := HX
    have HY0 := HY
    have HA0 := HA
    have HB0 := HB
    have LA0 := LA
    have LB0 := LB
    obtain ⟨haq0, haq1, haq2, haq3⟩ := cells4 HA.out
    obtain ⟨hbq0, hbq1, hbq2, hbq3⟩ := cells4 HB.out
    go_wp2_with fail
    refine (join_eq la lb lj EJ.out _ _ _ _ _ _ _ LA.out LB.out).mono ?_
    rintro e w4 ⟨aJ, nJ, cJ, rfl, LJ, OJ, bq⟩
    have hszJ := bq.size
    have HJ := Lib.hid (heap_alloc_new w4 (.cells #[.int .i64 lj.u, .slice aJ nJ cJ, .int .i64 lj.ap, .int .i64 lj.d] 26))
    replace LJ := Lib.hid (LJ.over (below_alloc w4 (.cells #[.int .i64 lj.u, .slice aJ nJ cJ, .int .i64 lj.ap, .int .i64 lj.d] 26)))
    have RJ := Lib.hid ((RowOf.of_own OJ).over (below_alloc w4 (.cells #[.int .i64 lj.u, .slice aJ nJ cJ, .int .i64 lj.ap, .int .i64 lj.d] 26)))
    replace bq := bel2 bq (below_alloc w4 (.cells #[.int .i64 lj.u, .slice aJ nJ cJ, .int .i64 lj.ap, .int .i64 lj.d] 26))
    replace HX := Lib.hid (blockOver bq HX.out)
    replace HY := Lib.hid (blockOver bq HY.out)
    replace HA := Lib.hid (blockOver bq HA.out)
    replace HB := Lib.hid (blockOver bq HB.out)
    replace HR := Lib.hid (blockOver bq HR.out)
    replace LA := Lib.hid (LabAt.over bq LA.out)
    replace LB := Lib.hid (LabAt.over bq LB.out)
    replace bw := bel2 bw bq
    clear bq OJ haq0 haq1 haq2 haq3 hbq0 hbq1 hbq2 hbq3
    obtain ⟨haq0, haq1, haq2, haq3⟩ := cells4 HA.out
    obtain ⟨hbq0, hbq1, hbq2, hbq3⟩ := cells4 HB.out
    go_wp2_with fail
    refine (join_eq la lb lj EJ.out _ _ _ _ _ _ _ LA.out LB.out).mono ?_
    rintro e w5 ⟨aK, nK, cK, rfl, LK, OK, bq⟩
    have hszK := bq.size
    have HK := Lib.hid (heap_alloc_new w5 (.cells #[.int .i64 lj.u, .slice aK nK cK, .int .i64 lj.ap, .int .i64 lj.d] 26))
    replace LK := Lib.hid (LK.over (below_alloc w5 (.cells #[.int .i64 lj.u, .slice aK nK cK, .int .i64 lj.ap, .int .i64 lj.d] 26)))
    have OWK := Lib.hid (own_later OK (below_alloc w5 (.cells #[.int .i64 lj.u, .slice aK nK cK, .int .i64 lj.ap, .int .i64 lj.d] 26)))
    replace bq := bel2 bq (below_alloc w5 (.cells #[.int .i64 lj.u, .slice aK nK cK, .int .i64 lj.ap, .int .i64 lj.d] 26))
    replace HX := Lib.hid (blockOver bq HX.out)
    replace HY := Lib.hid (blockOver bq HY.out)
    replace HA := Lib.hid (blockOver bq HA.out)
    replace HB := Lib.hid (blockOver bq HB.out)
    replace HR := Lib.hid (blockOver bq HR.out)
    replace HJ := Lib.hid (blockOver bq HJ.out)
    replace LA := Lib.hid (LabAt.over bq LA.out)
    replace LB := Lib.hid (LabAt.over bq LB.out)
    replace LJ := Lib.hid (LabAt.over bq LJ.out)
    replace bw := bel2 bw bq
    replace RJ := Lib.hid (RJ.out.over bq)
    clear bq OK haq0 haq1 haq2 haq3 hbq0 hbq1 hbq2 hbq3
    have hsJ : (w4.alloc (.cells #[.int .i64 lj.u, .slice aJ nJ cJ, .int .i64 lj.ap, .int .i64 lj.d] 26)).heap.size = w4.heap.size + 1 := by simp
    rw [hsJ] at OWK hszK
    clear hsJ
    obtain ⟨haq0, haq1, haq2, haq3⟩ := cells4 HA.out
    obtain ⟨hbq0, hbq1, hbq2, hbq3⟩ := cells4 HB.out
    go_wp2_with fail
    refine (leq_eq la lb r1 F1.out _ _ _ _ _ _ _ LA.out LB.out).mono ?_
    rintro e w6 ⟨rfl, bq⟩
    replace HX := Lib.hid (blockOver bq HX.out)
    replace HY := Lib.hid (blockOver bq HY.out)
    replace HA := Lib.hid (blockOver bq HA.out)
    replace HB := Lib.hid (blockOver bq HB.out)
    replace HR := Lib.hid (blockOver bq HR.out)
    replace HJ := Lib.hid (blockOver bq HJ.out)
    replace HK := Lib.hid (blockOver bq HK.out)
    replace LA := Lib.hid (LabAt.over bq LA.out)
    replace LB := Lib.hid (LabAt.over bq LB.out)
    replace LJ := Lib.hid (LabAt.over bq LJ.out)
    replace LK := Lib.hid (LabAt.over bq LK.out)
    replace bw := bel2 bw bq
    replace RJ := Lib.hid (RJ.out.over bq)
    replace OWK := Lib.hid (own_later OWK.out bq)
    clear bq haq0 haq1 haq2 haq3 hbq0 hbq1 hbq2 hbq3
    obtain ⟨haq0, haq1, haq2, haq3⟩ := cells4 HA.out
    obtain ⟨hbq0, hbq1, hbq2, hbq3⟩ := cells4 HB.out
    go_wp2_with fail
    refine (allows_eq la 0 0 0 lb.af r2 F2.out _ _ _ _ _ _ _ bd0 LA.out LB.out.1).mono ?_
    rintro e w7 ⟨rfl, bq⟩
    replace HX := Lib.hid (blockOver bq HX.out)
    replace HY := Lib.hid (blockOver bq HY.out)
    replace HA := Lib.hid (blockOver bq HA.out)
    replace HB := Lib.hid (blockOver bq HB.out)
    replace HR := Lib.hid (blockOver bq HR.out)
    replace HJ := Lib.hid (blockOver bq HJ.out)
    replace HK := Lib.hid (blockOver bq HK.out)
    replace LA := Lib.hid (LabAt.over bq LA.out)
    replace LB := Lib.hid (LabAt.over bq LB.out)
    replace LJ := Lib.hid (LabAt.over bq LJ.out)
    replace LK := Lib.hid (LabAt.over bq LK.out)
    replace bw := bel2 bw bq
    replace RJ := Lib.hid (RJ.out.over bq)
    replace OWK := Lib.hid (own_later OWK.out bq)
    clear bq haq0 haq1 haq2 haq3 hbq0 hbq1 hbq2 hbq3
    obtain ⟨hxq0, hxq1, hxq2, hxq3⟩ := cells4 HX.out
    obtain ⟨hyq0, hyq1, hyq2, hyq3⟩ := cells4 HY.out
    obtain ⟨haq0, haq1, haq2, haq3⟩ := cells4 HA.out
    obtain ⟨hbq0, hbq1, hbq2, hbq3⟩ := cells4 HB.out
    go_wp2_with fail
    have bc := Below.refl w7.heap.size w7
    refine wp_region_held_drew (S := fun w' => Below w7.heap.size w7 w' ∧ w'.cell? ⟨w.heap.size, 0, none⟩ = some (.int .i64 x0) ∧ w'.cell? ⟨w.heap.size, 1, none⟩ = some (.int .i64 x1) ∧ w'.cell? ⟨w.heap.size, 2, none⟩ = some (.int .i64 x2) ∧ w'.cell? ⟨w.heap.size, 3, none⟩ = some (.int .i64 x3) ∧ w'.cell? ⟨w.heap.size + 1, 0, none⟩ = some (.int .i64 y0) ∧ w'.cell? ⟨w.heap.size + 1, 1, none⟩ = some (.int .i64 y1) ∧ w'.cell? ⟨w.heap.size + 1, 2, none⟩ = some (.int .i64 y2) ∧ w'.cell? ⟨w.heap.size + 1, 3, none⟩ = some (.int .i64 y3) ∧ w'.cell? ⟨ga, 0, none⟩ = some (.int .i64 la.u) ∧ w'.cell? ⟨ga, 1, none⟩ = some (.slice (some ⟨R, 0, none⟩) nA 200) ∧ w'.cell? ⟨ga, 2, none⟩ = some (.int .i64 la.ap) ∧ w'.cell? ⟨ga, 3, none⟩ = some (.int .i64 la.d) ∧ w'.cell? ⟨gb, 0, none⟩ = some (.int .i64 lb.u) ∧ w'.cell? ⟨gb, 1, none⟩ = some (.slice aB nB cB) ∧ w'.cell? ⟨gb, 2, none⟩ = some (.int .i64 lb.ap) ∧ w'.cell? ⟨gb, 3, none⟩ = some (.int .i64 lb.d)) (by kernel_rfl) ?_ (fun h0 => ?_)
    · exact ⟨bc.drew, hxq0, hxq1, hxq2, hxq3, hyq0, hyq1, hyq2, hyq3, haq0, haq1, haq2, haq3, hbq0, hbq1, hbq2, hbq3⟩
    refine wpAnyH_take (i := 0) (v := ?_) rfl (by kernel_rfl) (by kernel_rfl) (by kernel_rfl) (fun _ _ _ h => h) (Or.inl ⟨by rfl, ?_⟩) h0 ?_
    rotate_left
    · (intro w hSw; (try dsimp only at hSw); go_simp); all_goals (with_reducible rfl)
    try simp only [List.getElem_toArray, List.getElem_cons_succ, List.getElem_cons_zero, Act.put, List.setIfInBounds_toArray, List.set_cons_zero, List.set_cons_succ]
    refine wpAnyH_take (i := 1) (v := ?_) rfl (by kernel_rfl) (by kernel_rfl) (by kernel_rfl) (fun _ _ _ h => h) (Or.inl ⟨by rfl, ?_⟩) h0 ?_
    rotate_left
    · (intro w hSw; (try dsimp only at hSw); go_simp); all_goals (with_reducible rfl)
    try simp only [List.getElem_toArray, List.getElem_cons_succ, List.getElem_cons_zero, Act.put, List.setIfInBounds_toArray, List.set_cons_zero, List.set_cons_succ]
    refine wpAnyH_take (i := 2) (v := ?_) rfl (by kernel_rfl) (by kernel_rfl) (by kernel_rfl) (fun _ _ _ h => h) (Or.inl ⟨by rfl, ?_⟩) h0 ?_
    rotate_left
    · (intro w hSw; (try dsimp only at hSw); go_simp); all_goals (with_reducible rfl)
    try simp only [List.getElem_toArray, List.getElem_cons_succ, List.getElem_cons_zero, Act.put, List.setIfInBounds_toArray, List.set_cons_zero, List.set_cons_succ]
    refine wpAnyH_take (i := 3) (v := ?_) rfl (by kernel_rfl) (by kernel_rfl) (by kernel_rfl) (fun _ _ _ h => h) (Or.inl ⟨by rfl, ?_⟩) h0 ?_
    rotate_left
    · (intro w hSw; (try dsimp only at hSw); go_simp); all_goals (with_reducible rfl)
    try simp only [List.getElem_toArray, List.getElem_cons_succ, List.getElem_cons_zero, Act.put, List.setIfInBounds_toArray, List.set_cons_zero, List.set_cons_succ]
    refine wpAnyH_ready (rs := [4]) (by kernel_rfl) (by simp) ?_
    refine AllReadyH.cons rfl (fun K hK => ?_) AllReadyH.nil
    go_simp
    go_at_call 14
    refine (KA.out _).mono ?_
    rintro e wq0 ⟨av1, nv1, cv1, rfl, Lv1, Ov1, bq⟩
    go_wp2_with fail
    have bX := bel2 h0.1 bq
    refine hK.out _ _ ?_ (fun h1 => ?_)
    · exact ⟨bX, cellOver bX hxq0, cellOver bX hxq1, cellOver bX hxq2, cellOver bX hxq3, cellOver bX hyq0, cellOver bX hyq1, cellOver bX hyq2, cellOver bX hyq3, cellOver bX haq0, cellOver bX haq1, cellOver bX haq2, cellOver bX haq3, cellOver bX hbq0, cellOver bX hbq1, cellOver bX hbq2, cellOver bX hbq3⟩
    clear hK K h0 bX bq Ov1
    try simp only [List.getElem_toArray, List.getElem_cons_succ, List.getElem_cons_zero, Act.put, List.setIfInBounds_toArray, List.set_cons_zero, List.set_cons_succ]
    refine wpAnyH_ready (rs := [5]) (by kernel_rfl) (by simp) ?_
    refine AllReadyH.cons rfl (fun K hK => ?_) AllReadyH.nil
    go_simp
    go_at_call 18
    refine (same_eq la la true SA.out _ _ _ _ _ _ _ (LabAt.over h1.1 LA.out) Lv1).mono ?_
    rintro e wq1 ⟨rfl, bq⟩
    go_wp2_with fail
    have bX := bel2 h1.1 bq
    refine hK.out _ _ ?_ (fun h2 => ?_)
    · exact ⟨bX, cellOver bX hxq0, cellOver bX hxq1, cellOver bX hxq2, cellOver bX hxq3, cellOver bX hyq0, cellOver bX hyq1, cellOver bX hyq2, cellOver bX hyq3, cellOver bX haq0, cellOver bX haq1, cellOver bX haq2, cellOver bX haq3, cellOver bX hbq0, cellOver bX hbq1, cellOver bX hbq2, cellOver bX hbq3⟩
    clear hK K h1 bX bq
    try simp only [List.getElem_toArray, List.getElem_cons_succ, List.getElem_cons_zero, Act.put, List.setIfInBounds_toArray, List.set_cons_zero, List.set_cons_succ]
    refine wpAnyH_take (i := 6) (v := ?_) rfl (by kernel_rfl) (by kernel_rfl) (by kernel_rfl) (fun _ _ _ h => h) (Or.inl ⟨by rfl, ?_⟩) h2 ?_
    rotate_left
    · (intro w hSw; (try dsimp only at hSw); go_simp); all_goals (with_reducible rfl)
    try simp only [List.getElem_toArray, List.getElem_cons_succ, List.getElem_cons_zero, Act.put, List.setIfInBounds_toArray, List.set_cons_zero, List.set_cons_succ]
    refine wpAnyH_take (i := 7) (v := ?_) rfl (by kernel_rfl) (by kernel_rfl) (by kernel_rfl) (fun _ _ _ h => h) (Or.inl ⟨by rfl, ?_⟩) h2 ?_
    rotate_left
    · (intro w hSw; (try dsimp only at hSw); go_simp); all_goals (with_reducible rfl)
    try simp only [List.getElem_toArray, List.getElem_cons_succ, List.getElem_cons_zero, Act.put, List.setIfInBounds_toArray, List.set_cons_zero, List.set_cons_succ]
    refine wpAnyH_take (i := 8) (v := ?_) rfl (by kernel_rfl) (by kernel_rfl) (by kernel_rfl) (fun _ _ _ h => h) (Or.inl ⟨by rfl, ?_⟩) h2 ?_
    rotate_left
    · (intro w hSw; (try dsimp only at hSw); go_simp); all_goals (with_reducible rfl)
    try simp only [List.getElem_toArray, List.getElem_cons_succ, List.getElem_cons_zero, Act.put, List.setIfInBounds_toArray, List.set_cons_zero, List.set_cons_succ]
    refine wpAnyH_take (i := 9) (v := ?_) rfl (by kernel_rfl) (by kernel_rfl) (by kernel_rfl) (fun _ _ _ h => h) (Or.inl ⟨by rfl, ?_⟩) h2 ?_
    rotate_left
    · (intro w hSw; (try dsimp only at hSw); go_simp); all_goals (with_reducible rfl)
    try simp only [List.getElem_toArray, List.getElem_cons_succ, List.getElem_cons_zero, Act.put, List.setIfInBounds_toArray, List.set_cons_zero, List.set_cons_succ]
    refine wpAnyH_ready (rs := [10]) (by kernel_rfl) (by simp) ?_
    refine AllReadyH.cons rfl (fun K hK => ?_) AllReadyH.nil
    go_simp
    go_at_call 14
    refine (KB.out _).mono ?_
    rintro e wq2 ⟨av2, nv2, cv2, rfl, Lv2, Ov2, bq⟩
    go_wp2_with fail
    have bX := bel2 h2.1 bq
    refine hK.out _ _ ?_ (fun h3 => ?_)
    · exact ⟨bX, cellOver bX hxq0, cellOver bX hxq1, cellOver bX hxq2, cellOver bX hxq3, cellOver bX hyq0, cellOver bX hyq1, cellOver bX hyq2, cellOver bX hyq3, cellOver bX haq0, cellOver bX haq1, cellOver bX haq2, cellOver bX haq3, cellOver bX hbq0, cellOver bX hbq1, cellOver bX hbq2, cellOver bX hbq3⟩
    clear hK K h2 bX bq Ov2
    try simp only [List.getElem_toArray, List.getElem_cons_succ, List.getElem_cons_zero, Act.put, List.setIfInBounds_toArray, List.set_cons_zero, List.set_cons_succ]
    refine wpAnyH_ready (rs := [11]) (by kernel_rfl) (by simp) ?_
    refine AllReadyH.cons rfl (fun K hK => ?_) AllReadyH.nil
    go_simp
    go_at_call 18
    refine (same_eq lb lb true SB.out _ _ _ _ _ _ _ (LabAt.over h3.1 LB.out) Lv2).mono ?_
    rintro e wq3 ⟨rfl, bq⟩
    go_wp2_with fail
    have bX := bel2 h3.1 bq
    refine hK.out _ _ ?_ (fun h4 => ?_)
    · exact ⟨bX, cellOver bX hxq0, cellOver bX hxq1, cellOver bX hxq2, cellOver bX hxq3, cellOver bX hyq0, cellOver bX hyq1, cellOver bX hyq2, cellOver bX hyq3, cellOver bX haq0, cellOver bX haq1, cellOver bX haq2, cellOver bX haq3, cellOver bX hbq0, cellOver bX hbq1, cellOver bX hbq2, cellOver bX hbq3⟩
    clear hK K h3 bX bq
    try simp only [List.getElem_toArray, List.getElem_cons_succ, List.getElem_cons_zero, Act.put, List.setIfInBounds_toArray, List.set_cons_zero, List.set_cons_succ]
    refine wpAnyH_take (i := 12) (v := ?_) rfl (by kernel_rfl) (by kernel_rfl) (by kernel_rfl) (fun _ _ _ h => h) (Or.inl ⟨by rfl, ?_⟩) h4 ?_
    rotate_left
    · (intro w hSw; (try dsimp only at hSw); go_simp); all_goals (with_reducible rfl)
    try simp only [List.getElem_toArray, List.getElem_cons_succ, List.getElem_cons_zero, Act.put, List.setIfInBounds_toArray, List.set_cons_zero, List.set_cons_succ]
    refine wpAnyH_take (i := 13) (v := ?_) rfl (by kernel_rfl) (by kernel_rfl) (by kernel_rfl) (fun _ _ _ h => h) (Or.inl ⟨by rfl, ?_⟩) h4 ?_
    rotate_left
    · (intro w hSw; (try dsimp only at hSw); go_simp); all_goals (with_reducible rfl)
    try simp only [List.getElem_toArray, List.getElem_cons_succ, List.getElem_cons_zero, Act.put, List.setIfInBounds_toArray, List.set_cons_zero, List.set_cons_succ]
    refine wpAnyH_done (by kernel_rfl) ?_ _
    have bq := h4.1
    replace HX := Lib.hid (blockOver bq HX.out)
    replace HY := Lib.hid (blockOver bq HY.out)
    replace HA := Lib.hid (blockOver bq HA.out)
    replace HB := Lib.hid (blockOver bq HB.out)
    replace HR := Lib.hid (blockOver bq HR.out)
    replace HJ := Lib.hid (blockOver bq HJ.out)
    replace HK := Lib.hid (blockOver bq HK.out)
    replace LA := Lib.hid (LabAt.over bq LA.out)
    replace LB := Lib.hid (LabAt.over bq LB.out)
    replace LJ := Lib.hid (LabAt.over bq LJ.out)
    replace LK := Lib.hid (LabAt.over bq LK.out)
    replace bw := bel2 bw bq
    replace RJ := Lib.hid (RJ.out.over bq)
    replace OWK := Lib.hid (own_later OWK.out bq)
    clear bq h4 hxq0 hxq1 hxq2 hxq3 hyq0 hyq1 hyq2 hyq3 haq0 haq1 haq2 haq3 hbq0 hbq1 hbq2 hbq3 bc
    obtain ⟨p0, p1, p2, p3⟩ := cells4 HA.out
    go_wp2_with fail
    go_loop [11, 5] (fun i ok => ∃ k : Nat, nA ≤ k ∧ k ≤ 200 ∧ i = .int .i64 k ∧ ok = .bool true) (fun i _ => 200 - (intOf i).toNat)
    case atStart => exact ⟨nA, Nat.le_refl _, hn64, rfl, rfl⟩
    case round =>
      obtain ⟨k, hk1, hk2, rfl, rfl⟩ := hrel
      by_cases hlt : k < 200
      · have hcell := filled_spare HR.out (by rw [HNL.out]; exact hk1) hlt
        have kk0 : (0 : Int) ≤ k := by omega
        have kk2 : (k : Int) < 200 := by omega
        go_wp2
        go_round
        case rel => exact ⟨k + 1, by omega, by omega, by go_num, rfl⟩
        case measure => simp [intOf]; omega
      · obtain rfl : k = 200 := by omega
        rw [show (((200 : Nat) : Int)) = 200 from rfl]
        obtain ⟨j0, j1, j2, j3⟩ := cells4 HJ.out
        clear p0 p1 p2 p3
        go_wp2_with fail
        obtain ⟨BJ, hBJ⟩ : ∃ b, U.heap.size = b := ⟨_, rfl⟩
        obtain ⟨g8, hg8⟩ : ∃ b, w4.heap.size = b := ⟨_, rfl⟩
        obtain ⟨g9, hg9⟩ : ∃ b, w5.heap.size = b := ⟨_, rfl⟩
        rw [hg8] at HJ OWK hszK RJ hszJ
        rw [hg9] at HK hszK
        rw [hBJ] at RJ hszJ
        try rw [hg8]
        try rw [hg9]
        have HBJ := Lib.hid hBJ
        have hg89 : g8 < g9 := by omega
        have hnJ : nJ ≤ 64 := by have h1 := LJ.out.1.1; have h2 := asc_len okJ.out.2.2.1 okJ.out.2.1; omega
        clear hBJ hg8 hg9 j0 j1 j2 j3
        go_loopw [12] (fun i wr => ∃ k : Nat, k ≤ nJ ∧ i = .int .i64 k ∧ RowOf wr aJ nJ BJ g8 ∧ wr.heap[g8]? = some (.cells #[.int .i64 lj.u, .slice aJ nJ cJ, .int .i64 lj.ap, .int .i64 lj.d] 26 (0, 0)) ∧ wr.heap[g9]? = some (.cells #[.int .i64 lj.u, .slice aK nK cK, .int .i64 lj.ap, .int .i64 lj.d] 26 (0, 0)) ∧ wr.ownsRow (g8 + 1) 3 1 (.slice aK nK cK) nK (lj.af.map (Value.int .i64)) ∧ Below BJ U wr) (fun i _ => nJ - (intOf i).toNat)
        case atStart => exact ⟨0, Nat.zero_le _, rfl, RJ.out, HJ.out, HK.out, OWK.out, HBJ.out ▸ bw⟩
        case round =>
          obtain ⟨k, hk, rfl, hrow, hJ, hK, hOK, bel⟩ := hrel
          obtain ⟨j0, j1, j2, j3⟩ := cells4 hJ
          have ROW := Lib.hid hrow
          have HJ2 := Lib.hid hJ
          have HK2 := Lib.hid hK
          have OK2 := Lib.hid hOK
          clear hrow hJ hK hOK
          by_cases hlt : k < nJ
          · obtain ⟨gj, cur, rfl, hlo, hhi, hblk, hcur⟩ := ROW.out.resolve_left (by omega)
            have hcell : wr.cell? ⟨gj, k, none⟩ = some cur[k] := by rw [Joins.cell_of_block hblk]; exact Array.getElem?_eq_getElem (by omega)
            have hfz := Joins.unfrozen_of_block hblk k
            have HBLK := Lib.hid hblk
            have kk0 : (0 : Int) ≤ k := by omega
            have kkn : (k : Int) < nJ := by omega
            clear hblk
            go_wp2
            exact ⟨⟨k + 1, by omega, by go_num, Or.inr ⟨gj, _, rfl, hlo, hhi, Joins.block_setCell HBLK.out _, by simp; omega⟩, (Below.heap_setCell _ _ _ _ (by simp; omega)).trans HJ2.out, (Below.heap_setCell _ _ _ _ (by simp; omega)).trans HK2.out, OK2.out.kept (Lib.grownBy_setCell _ _ _ _) (own_ne OK2.out (by omega)), bel.setCell (by simp; omega) _⟩, by simp [intOf]; omega⟩
          · obtain rfl : k = nJ := by omega
            have bU : Below U.heap.size U wr := by rw [HBJ.out]; exact bel
            replace HX := Lib.hid (blockOver bU HX0.out)
            replace HY := Lib.hid (blockOver bU HY0.out)
            replace HA := Lib.hid (blockOver bU HA0.out)
            replace HB := Lib.hid (blockOver bU HB0.out)
            replace LA := Lib.hid (LA0.out.over bU)
            replace LB := Lib.hid (LB0.out.over bU)
            have LK2 := Lib.hid (labAt_of_own okJ.out OK2.out)
            have BU := Lib.hid bU
            clear bU HX0 HY0 HA0 HB0 LA0 LB0 LJ LK HJ HK RJ OWK
            go_wp2_with fail
            clear j0 j1 j2 j3
            obtain ⟨p0, p1, p2, p3⟩ := cells4 HX.out
            obtain ⟨q0, q1, q2, q3⟩ := cells4 HY.out
            obtain ⟨a0q, a1q, a2q, a3q⟩ := cells4 HA.out
            obtain ⟨b0q, b1q, b2q, b3q⟩ := cells4 HB.out
            obtain ⟨k0q, k1q, k2q, k3q⟩ := cells4 HK2.out
            have bc := Below.refl wr.heap.size wr
            refine wp_region_held_drew (S := fun w' => Below wr.heap.size wr w' ∧ w'.cell? ⟨w.heap.size, 0, none⟩ = some (.int .i64 x0) ∧ w'.cell? ⟨w.heap.size, 1, none⟩ = some (.int .i64 x1) ∧ w'.cell? ⟨w.heap.size, 2, none⟩ = some (.int .i64 x2) ∧ w'.cell? ⟨w.heap.size, 3, none⟩ = some (.int .i64 x3) ∧ w'.cell? ⟨w.heap.size + 1, 0, none⟩ = some (.int .i64 y0) ∧ w'.cell? ⟨w.heap.size + 1, 1, none⟩ = some (.int .i64 y1) ∧ w'.cell? ⟨w.heap.size + 1, 2, none⟩ = some (.int .i64 y2) ∧ w'.cell? ⟨w.heap.size + 1, 3, none⟩ = some (.int .i64 y3) ∧ w'.cell? ⟨ga, 0, none⟩ = some (.int .i64 la.u) ∧ w'.cell? ⟨ga, 1, none⟩ = some (.slice (some ⟨R, 0, none⟩) nA 200) ∧ w'.cell? ⟨ga, 2, none⟩ = some (.int .i64 la.ap) ∧ w'.cell? ⟨ga, 3, none⟩ = some (.int .i64 la.d) ∧ w'.cell? ⟨gb, 0, none⟩ = some (.int .i64 lb.u) ∧ w'.cell? ⟨gb, 1, none⟩ = some (.slice aB nB cB) ∧ w'.cell? ⟨gb, 2, none⟩ = some (.int .i64 lb.ap) ∧ w'.cell? ⟨gb, 3, none⟩ = some (.int .i64 lb.d) ∧ w'.cell? ⟨g9, 0, none⟩ = some (.int .i64 lj.u) ∧ w'.cell? ⟨g9, 1, none⟩ = some (.slice aK nK cK) ∧ w'.cell? ⟨g9, 2, none⟩ = some (.int .i64 lj.ap) ∧ w'.cell? ⟨g9, 3, none⟩ = some (.int .i64 lj.d)) (by kernel_rfl) ?_ (fun h0 => ?_)
            · exact ⟨bc.drew, p0, p1, p2, p3, q0, q1, q2, q3, a0q, a1q, a2q, a3q, b0q, b1q, b2q, b3q, k0q, k1q, k2q, k3q⟩
            refine wpAnyH_take (i := 0) (v := ?_) rfl (by kernel_rfl) (by kernel_rfl) (by kernel_rfl) (fun _ _ _ h => h) (Or.inl ⟨by rfl, ?_⟩) h0 ?_
            rotate_left
            · (intro w hSw; (try dsimp only at hSw); go_simp); all_goals (with_reducible rfl)
            try simp only [List.getElem_toArray, List.getElem_cons_succ, List.getElem_cons_zero, Act.put, List.setIfInBounds_toArray, List.set_cons_zero, List.set_cons_succ]
            refine wpAnyH_take (i := 1) (v := ?_) rfl (by kernel_rfl) (by kernel_rfl) (by kernel_rfl) (fun _ _ _ h => h) (Or.inl ⟨by rfl, ?_⟩) h0 ?_
            rotate_left
            · (intro w hSw; (try dsimp only at hSw); go_simp); all_goals (with_reducible rfl)
            try simp only [List.getElem_toArray, List.getElem_cons_succ, List.getElem_cons_zero, Act.put, List.setIfInBounds_toArray, List.set_cons_zero, List.set_cons_succ]
            refine wpAnyH_take (i := 2) (v := ?_) rfl (by kernel_rfl) (by kernel_rfl) (by kernel_rfl) (fun _ _ _ h => h) (Or.inl ⟨by rfl, ?_⟩) h0 ?_
            rotate_left
            · (intro w hSw; (try dsimp only at hSw); go_simp); all_goals (with_reducible rfl)
            try simp only [List.getElem_toArray, List.getElem_cons_succ, List.getElem_cons_zero, Act.put, List.setIfInBounds_toArray, List.set_cons_zero, List.set_cons_succ]
            refine wpAnyH_take (i := 3) (v := ?_) rfl (by kernel_rfl) (by kernel_rfl) (by kernel_rfl) (fun _ _ _ h => h) (Or.inl ⟨by rfl, ?_⟩) h0 ?_
            rotate_left
            · (intro w hSw; (try dsimp only at hSw); go_simp); all_goals (with_reducible rfl)
            try simp only [List.getElem_toArray, List.getElem_cons_succ, List.getElem_cons_zero, Act.put, List.setIfInBounds_toArray, List.set_cons_zero, List.set_cons_succ]
            refine wpAnyH_ready (rs := [4]) (by kernel_rfl) (by simp) ?_
            refine AllReadyH.cons rfl (fun K hK => ?_) AllReadyH.nil
            go_simp
            go_at_call 14
            refine (KA.out _).mono ?_
            rintro e wq0 ⟨av1, nv1, cv1, rfl, Lv1, Ov1, bq⟩
            go_wp2_with fail
            have bX := bel2 h0.1 bq
            refine hK.out _ _ ?_ (fun h1 => ?_)
            · exact ⟨bX, cellOver bX p0, cellOver bX p1, cellOver bX p2, cellOver bX p3, cellOver bX q0, cellOver bX q1, cellOver bX q2, cellOver bX q3, cellOver bX a0q, cellOver bX a1q, cellOver bX a2q, cellOver bX a3q, cellOver bX b0q, cellOver bX b1q, cellOver bX b2q, cellOver bX b3q, cellOver bX k0q, cellOver bX k1q, cellOver bX k2q, cellOver bX k3q⟩
            clear hK K h0 bX bq Ov1
            try simp only [List.getElem_toArray, List.getElem_cons_succ, List.getElem_cons_zero, Act.put, List.setIfInBounds_toArray, List.set_cons_zero, List.set_cons_succ]
            refine wpAnyH_ready (rs := [5]) (by kernel_rfl) (by simp) ?_
            refine AllReadyH.cons rfl (fun K hK => ?_) AllReadyH.nil
            go_simp
            go_at_call 18
            refine (same_eq la la true SA.out _ _ _ _ _ _ _ (LabAt.over h1.1 LA.out) Lv1).mono ?_
            rintro e wq1 ⟨rfl, bq⟩
            go_wp2_with fail
            have bX := bel2 h1.1 bq
            refine hK.out _ _ ?_ (fun h2 => ?_)
            · exact ⟨bX, cellOver bX p0, cellOver bX p1, cellOver bX p2, cellOver bX p3, cellOver bX q0, cellOver bX q1, cellOver bX q2, cellOver bX q3, cellOver bX a0q, cellOver bX a1q, cellOver bX a2q, cellOver bX a3q, cellOver bX b0q, cellOver bX b1q, cellOver bX b2q, cellOver bX b3q, cellOver bX k0q, cellOver bX k1q, cellOver bX k2q, cellOver bX k3q⟩
            clear hK K h1 bX bq
            try simp only [List.getElem_toArray, List.getElem_cons_succ, List.getElem_cons_zero, Act.put, List.setIfInBounds_toArray, List.set_cons_zero, List.set_cons_succ]
            refine wpAnyH_take (i := 6) (v := ?_) rfl (by kernel_rfl) (by kernel_rfl) (by kernel_rfl) (fun _ _ _ h => h) (Or.inl ⟨by rfl, ?_⟩) h2 ?_
            rotate_left
            · (intro w hSw; (try dsimp only at hSw); go_simp); all_goals (with_reducible rfl)
            try simp only [List.getElem_toArray, List.getElem_cons_succ, List.getElem_cons_zero, Act.put, List.setIfInBounds_toArray, List.set_cons_zero, List.set_cons_succ]
            refine wpAnyH_take (i := 7) (v := ?_) rfl (by kernel_rfl) (by kernel_rfl) (by kernel_rfl) (fun _ _ _ h => h) (Or.inl ⟨by rfl, ?_⟩) h2 ?_
            rotate_left
            · (intro w hSw; (try dsimp only at hSw); go_simp); all_goals (with_reducible rfl)
            try simp only [List.getElem_toArray, List.getElem_cons_succ, List.getElem_cons_zero, Act.put, List.setIfInBounds_toArray, List.set_cons_zero, List.set_cons_succ]
            refine wpAnyH_take (i := 8) (v := ?_) rfl (by kernel_rfl) (by kernel_rfl) (by kernel_rfl) (fun _ _ _ h => h) (Or.inl ⟨by rfl, ?_⟩) h2 ?_
            rotate_left
            · (intro w hSw; (try dsimp only at hSw); go_simp); all_goals (with_reducible rfl)
            try simp only [List.getElem_toArray, List.getElem_cons_succ, List.getElem_cons_zero, Act.put, List.setIfInBounds_toArray, List.set_cons_zero, List.set_cons_succ]
            refine wpAnyH_take (i := 9) (v := ?_) rfl (by kernel_rfl) (by kernel_rfl) (by kernel_rfl) (fun _ _ _ h => h) (Or.inl ⟨by rfl, ?_⟩) h2 ?_
            rotate_left
            · (intro w hSw; (try dsimp only at hSw); go_simp); all_goals (with_reducible rfl)
            try simp only [List.getElem_toArray, List.getElem_cons_succ, List.getElem_cons_zero, Act.put, List.setIfInBounds_toArray, List.set_cons_zero, List.set_cons_succ]
            refine wpAnyH_ready (rs := [10]) (by kernel_rfl) (by simp) ?_
            refine AllReadyH.cons rfl (fun K hK => ?_) AllReadyH.nil
            go_simp
            go_at_call 14
            refine (KB.out _).mono ?_
            rintro e wq2 ⟨av2, nv2, cv2, rfl, Lv2, Ov2, bq⟩
            go_wp2_with fail
            have bX := bel2 h2.1 bq
            refine hK.out _ _ ?_ (fun h3 => ?_)
            · exact ⟨bX, cellOver bX p0, cellOver bX p1, cellOver bX p2, cellOver bX p3, cellOver bX q0, cellOver bX q1, cellOver bX q2, cellOver bX q3, cellOver bX a0q, cellOver bX a1q, cellOver bX a2q, cellOver bX a3q, cellOver bX b0q, cellOver bX b1q, cellOver bX b2q, cellOver bX b3q, cellOver bX k0q, cellOver bX k1q, cellOver bX k2q, cellOver bX k3q⟩
            clear hK K h2 bX bq Ov2
            try simp only [List.getElem_toArray, List.getElem_cons_succ, List.getElem_cons_zero, Act.put, List.setIfInBounds_toArray, List.set_cons_zero, List.set_cons_succ]
            refine wpAnyH_ready (rs := [11]) (by kernel_rfl) (by simp) ?_
            refine AllReadyH.cons rfl (fun K hK => ?_) AllReadyH.nil
            go_simp
            go_at_call 18
            refine (same_eq lb lb true SB.out _ _ _ _ _ _ _ (LabAt.over h3.1 LB.out) Lv2).mono ?_
            rintro e wq3 ⟨rfl, bq⟩
            go_wp2_with fail
            have bX := bel2 h3.1 bq
            refine hK.out _ _ ?_ (fun h4 => ?_)
            · exact ⟨bX, cellOver bX p0, cellOver bX p1, cellOver bX p2, cellOver bX p3, cellOver bX q0, cellOver bX q1, cellOver bX q2, cellOver bX q3, cellOver bX a0q, cellOver bX a1q, cellOver bX a2q, cellOver bX a3q, cellOver bX b0q, cellOver bX b1q, cellOver bX b2q, cellOver bX b3q, cellOver bX k0q, cellOver bX k1q, cellOver bX k2q, cellOver bX k3q⟩
            clear hK K h3 bX bq
            try simp only [List.getElem_toArray, List.getElem_cons_succ, List.getElem_cons_zero, Act.put, List.setIfInBounds_toArray, List.set_cons_zero, List.set_cons_succ]
            refine wpAnyH_take (i := 12) (v := ?_) rfl (by kernel_rfl) (by kernel_rfl) (by kernel_rfl) (fun _ _ _ h => h) (Or.inl ⟨by rfl, ?_⟩) h4 ?_
            rotate_left
            · (intro w hSw; (try dsimp only at hSw); go_simp); all_goals (with_reducible rfl)
            try simp only [List.getElem_toArray, List.getElem_cons_succ, List.getElem_cons_zero, Act.put, List.setIfInBounds_toArray, List.set_cons_zero, List.set_cons_succ]
            refine wpAnyH_take (i := 13) (v := ?_) rfl (by kernel_rfl) (by kernel_rfl) (by kernel_rfl) (fun _ _ _ h => h) (Or.inl ⟨by rfl, ?_⟩) h4 ?_
            rotate_left
            · (intro w hSw; (try dsimp only at hSw); go_simp); all_goals (with_reducible rfl)
            try simp only [List.getElem_toArray, List.getElem_cons_succ, List.getElem_cons_zero, Act.put, List.setIfInBounds_toArray, List.set_cons_zero, List.set_cons_succ]
            refine wpAnyH_take (i := 14) (v := ?_) rfl (by kernel_rfl) (by kernel_rfl) (by kernel_rfl) (fun _ _ _ h => h) (Or.inl ⟨by rfl, ?_⟩) h4 ?_
            rotate_left
            · (intro w hSw; (try dsimp only at hSw); go_simp); all_goals (with_reducible rfl)
            try simp only [List.getElem_toArray, List.getElem_cons_succ, List.getElem_cons_zero, Act.put, List.setIfInBounds_toArray, List.set_cons_zero, List.set_cons_succ]
            refine wpAnyH_take (i := 15) (v := ?_) rfl (by kernel_rfl) (by kernel_rfl) (by kernel_rfl) (fun _ _ _ h => h) (Or.inl ⟨by rfl, ?_⟩) h4 ?_
            rotate_left
            · (intro w hSw; (try dsimp only at hSw); go_simp); all_goals (with_reducible rfl)
            try simp only [List.getElem_toArray, List.getElem_cons_succ, List.getElem_cons_zero, Act.put, List.setIfInBounds_toArray, List.set_cons_zero, List.set_cons_succ]
            refine wpAnyH_take (i := 16) (v := ?_) rfl (by kernel_rfl) (by kernel_rfl) (by kernel_rfl) (fun _ _ _ h => h) (Or.inl ⟨by rfl, ?_⟩) h4 ?_
            rotate_left
            · (intro w hSw; (try dsimp only at hSw); go_simp); all_goals (with_reducible rfl)
            try simp only [List.getElem_toArray, List.getElem_cons_succ, List.getElem_cons_zero, Act.put, List.setIfInBounds_toArray, List.set_cons_zero, List.set_cons_succ]
            refine wpAnyH_ready (rs := [17]) (by kernel_rfl) (by simp) ?_
            refine AllReadyH.cons rfl (fun K hK => ?_) AllReadyH.nil
            go_simp
            go_at_call 22
            refine (join_eq la lb lj EJ.out _ _ _ _ _ _ _ (LabAt.over h4.1 LA.out) (LabAt.over h4.1 LB.out)).mono ?_
            rintro e wq4 ⟨av3, nv3, cv3, rfl, Lv3, Ov3, bq⟩
            go_wp2_with fail
            have bX := bel2 h4.1 bq
            refine hK.out _ _ ?_ (fun h5 => ?_)
            · exact ⟨bX, cellOver bX p0, cellOver bX p1, cellOver bX p2, cellOver bX p3, cellOver bX q0, cellOver bX q1, cellOver bX q2, cellOver bX q3, cellOver bX a0q, cellOver bX a1q, cellOver bX a2q, cellOver bX a3q, cellOver bX b0q, cellOver bX b1q, cellOver bX b2q, cellOver bX b3q, cellOver bX k0q, cellOver bX k1q, cellOver bX k2q, cellOver bX k3q⟩
            clear hK K h4 bX bq Ov3
            try simp only [List.getElem_toArray, List.getElem_cons_succ, List.getElem_cons_zero, Act.put, List.setIfInBounds_toArray, List.set_cons_zero, List.set_cons_succ]
            refine wpAnyH_ready (rs := [18]) (by kernel_rfl) (by simp) ?_
            refine AllReadyH.cons rfl (fun K hK => ?_) AllReadyH.nil
            go_simp
            go_at_call 18
            refine (same_eq lj lj true SJ.out _ _ _ _ _ _ _ (LabAt.over h5.1 LK2.out) Lv3).mono ?_
            rintro e wq5 ⟨rfl, bq⟩
            go_wp2_with fail
            have bX := bel2 h5.1 bq
            refine hK.out _ _ ?_ (fun h6 => ?_)
            · exact ⟨bX, cellOver bX p0, cellOver bX p1, cellOver bX p2, cellOver bX p3, cellOver bX q0, cellOver bX q1, cellOver bX q2, cellOver bX q3, cellOver bX a0q, cellOver bX a1q, cellOver bX a2q, cellOver bX a3q, cellOver bX b0q, cellOver bX b1q, cellOver bX b2q, cellOver bX b3q, cellOver bX k0q, cellOver bX k1q, cellOver bX k2q, cellOver bX k3q⟩
            clear hK K h5 bX bq
            try simp only [List.getElem_toArray, List.getElem_cons_succ, List.getElem_cons_zero, Act.put, List.setIfInBounds_toArray, List.set_cons_zero, List.set_cons_succ]
            refine wpAnyH_take (i := 19) (v := ?_) rfl (by kernel_rfl) (by kernel_rfl) (by kernel_rfl) (fun _ _ _ h => h) (Or.inl ⟨by rfl, ?_⟩) h6 ?_
            rotate_left
            · (intro w hSw; (try dsimp only at hSw); go_simp); all_goals (with_reducible rfl)
            try simp only [List.getElem_toArray, List.getElem_cons_succ, List.getElem_cons_zero, Act.put, List.setIfInBounds_toArray, List.set_cons_zero, List.set_cons_succ]
            refine wpAnyH_take (i := 20) (v := ?_) rfl (by kernel_rfl) (by kernel_rfl) (by kernel_rfl) (fun _ _ _ h => h) (Or.inl ⟨by rfl, ?_⟩) h6 ?_
            rotate_left
            · (intro w hSw; (try dsimp only at hSw); go_simp); all_goals (with_reducible rfl)
            try simp only [List.getElem_toArray, List.getElem_cons_succ, List.getElem_cons_zero, Act.put, List.setIfInBounds_toArray, List.set_cons_zero, List.set_cons_succ]
            refine wpAnyH_done (by kernel_rfl) ?_ _
            have bz := bel2 bw0 (bel2 BU.out h6.1)
            clear h6
            go_wp2
            go_ret
            exact ⟨rfl, bz⟩
end Go.Proofs.Ythpginepnleokaa
