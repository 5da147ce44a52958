/- LabelConditions: the walk of the statement's text. -/
import Derived.Test.YthpginepnleokaaLabQ
import Derived.Deep.RegionHeld3
import Derived.RegionTactic
import Derived.Deep.CutRange
namespace Go.Proofs.Ythpginepnleokaa
open Go.RowKit
set_option linter.unusedSimpArgs false
set_option linter.unusedVariables false
set_option linter.unnecessarySimpa false
theorem cond_just {l : Lab} (h : Ok l) (c : Nat) (hc : c < 4) : allB l c l.u l.af l.ap = !bitB l.d c := by
  rw [Bool.eq_iff_iff, allB_iff]
  simp only [Int.toNat_natCast, Bool.not_eq_true']
  exact ⟨fun k => k.2.2.1, fun k => ⟨h, by omega, k, Int.le_refl _, Int.le_refl _, fun _ hz => hz⟩⟩
theorem all_no_of {l : Lab} {cls now k : Int} {out : List Int} (h : allB l cls now out k = true → False) : allB l cls now out k = false := by
  cases e : allB l cls now out k
  · rfl
  · exact (h e).elim
theorem cond_time (l : Lab) (c : Int) : allB l c (l.u - 1) l.af l.ap = false := all_no_of fun h => by have := ((allB_iff _ _ _ _ _).1 h).2.2.2.1; omega
theorem cond_few (l : Lab) (c : Int) : allB l c l.u l.af (l.ap - 1) = false := all_no_of fun h => by have := ((allB_iff _ _ _ _ _).1 h).2.2.2.2.1; omega
theorem cond_class (l : Lab) (c now k : Int) (out : List Int) (hc : c < 0 ∨ 3 < c) : allB l c now out k = false := all_no_of fun h => by have := ((allB_iff _ _ _ _ _).1 h).2.1; omega
theorem cond_miss {l : Lab} (h : Ok l) (c now k : Int) (j : Nat) (hj : j < l.af.length) : allB l c now (l.af.take j ++ l.af.drop (j + 1)) k = false := all_no_of fun e => by
  have hm := ((allB_iff _ _ _ _ _).1 e).2.2.2.2.2 _ (getD_mem hj)
  rw [List.mem_append] at hm
  rcases hm with hm | hm
  · obtain ⟨i, hi, e2⟩ := List.getElem_of_mem hm
    rw [List.getElem_take] at e2
    have hi' : i < j := by simp at hi; omega
    have := asc_at h.2.2.1 hi' hj
    simp [List.getD, show i < l.af.length by omega, hj] at this e2
    omega
  · obtain ⟨i, hi, e2⟩ := List.getElem_of_mem hm
    rw [List.getElem_drop] at e2
    have hi' : j + 1 + i < l.af.length := by simp at hi; omega
    have := asc_at h.2.2.1 (show j < j + 1 + i by omega) hi'
    simp [List.getD, hi', hj] at this e2
    omega
theorem ints_take {w : World} {a : Option Addr} {n c : Nat} {zs : List Int} (h : IsInts .i64 w a n c zs) (k : Nat) (hk : k ≤ n) : IsInts .i64 w a k c (zs.take k) := by
  obtain ⟨h1, h2, h3, h4, h5⟩ := h
  refine ⟨by simp; omega, by omega, h3, fun z hz => h4 z (List.mem_of_mem_take hz), ?_⟩
  rcases h5 with h5 | ⟨b, off, rfl, hc⟩
  · left; omega
  · refine .inr ⟨b, off, rfl, fun i hi => ?_⟩
    rw [hc i (by omega), getD_take _ _ _ _ hi]
theorem ints_drop {w : World} {b off n c : Nat} {zs : List Int} (h : IsInts .i64 w (some ⟨b, off, none⟩) n c zs) (k : Nat) (hk : k ≤ n) : IsInts .i64 w (if c = k then some ⟨b, off, none⟩ else some ⟨b, off + k, none⟩) (n - k) (c - k) (zs.drop k) := by
  obtain ⟨h1, h2, h3, h4, h5⟩ := h
  refine ⟨by simp; omega, by omega, by omega, fun z hz => h4 z (List.mem_of_mem_drop hz), ?_⟩
  by_cases hnk : n = k
  · left; omega
  · rcases h5 with h5 | ⟨b', off', e, hc⟩
    · left; omega
    · injection e with e
      injection e with e1 e2
      subst e1; subst e2
      rw [if_neg (by omega)]
      refine .inr ⟨b, off + k, rfl, fun i hi => ?_⟩
      rw [Nat.add_assoc, hc (k + i) (by omega)]
      simp [List.getD]
set_option maxRecDepth 100000 in
set_option maxHeartbeats 32000000 in
theorem conditions_walk (x0 x1 x2 x3 p : Int) (w : World) (hx : B4 x0 x1 x2 x3) (hp : (Lit.int .i64 p).wf = true) :
    Calls Try.prog 10 #[.agg #[.int .i64 x0, .int .i64 x1, .int .i64 x2, .int .i64 x3], .int .i64 p] w fun e w' => e = .returned (.bool true) ∧ Below w.heap.size w w' := by
  obtain ⟨la, _, okA, KA⟩ := make_eq _ _ _ _ hx
  have bp := wf64 hp
  obtain ⟨⟨u0, u1⟩, -, -, ⟨ap0, ap1⟩, d0, d1⟩ := okA.out
  obtain ⟨i0, hi, hz0, hz1, hz2⟩ := info_parts intInfo
  clear hx hp
  obtain ⟨hX, bw⟩ := one_alloc w (.cells #[.int .i64 x0, .int .i64 x1, .int .i64 x2, .int .i64 x3] 22)
  have HX := Lib.hid hX
  clear hX
  go_enter Try.func10, Try.ntmps10
  obtain ⟨hxq0, hxq1, hxq2, hxq3⟩ := cells4 HX.out
  go_wp2_with fail
  refine (sane_any _).mono ?_
  rintro e w1 ⟨rfl, bq⟩
  replace HX := Lib.hid (blockOver bq HX.out)
  replace bw := bel2 bw bq
  clear bq hxq0 hxq1 hxq2 hxq3
  obtain ⟨hxq0, hxq1, hxq2, hxq3⟩ := cells4 HX.out
  go_wp2_with fail
  refine (KA.out _).mono ?_
  rintro e w2 ⟨aA, nA, cA, rfl, LA, OA, bq⟩
  have HA := Lib.hid (heap_alloc_new w2 (.cells #[.int .i64 la.u, .slice aA nA cA, .int .i64 la.ap, .int .i64 la.d] 26))
  replace LA := Lib.hid (LA.over (below_alloc w2 (.cells #[.int .i64 la.u, .slice aA nA cA, .int .i64 la.ap, .int .i64 la.d] 26)))
  replace bq := bel2 bq (below_alloc w2 (.cells #[.int .i64 la.u, .slice aA nA cA, .int .i64 la.ap, .int .i64 la.d] 26))
  replace HX := Lib.hid (blockOver bq HX.out)
  replace bw := bel2 bw bq
  clear bq OA hxq0 hxq1 hxq2 hxq3
  obtain ⟨haq0, haq1, haq2, haq3⟩ := cells4 HA.out
  have hn64 : nA ≤ 64 := by have h1 := LA.out.1.1; have h2 := asc_len okA.out.2.2.1 okA.out.2.1; omega
  go_wp2_with fail
  obtain ⟨W0, hW0⟩ : ∃ W0, (w2.alloc (.cells #[.int .i64 la.u, .slice aA nA cA, .int .i64 la.ap, .int .i64 la.d] 26)) = W0 := ⟨_, rfl⟩
  rw [hW0] at bw haq0 haq1 haq2 haq3 ⊢
  rw [hW0] at HA LA
  clear hW0 HX
  go_loopw [7, 5, 8, 9, 10] (fun i ok _ _ _ wr => ∃ k : Nat, k ≤ 4 ∧ i = .int .i64 k ∧ ok = .bool true ∧ Below W0.heap.size W0 wr) (fun i _ _ _ _ _ => 4 - (intOf i).toNat)
  case atStart => exact ⟨0, by omega, rfl, rfl, Below.refl _ _⟩
  case round =>
    obtain ⟨k, hk, rfl, rfl, br⟩ := hrel
    clear haq0 haq1 haq2 haq3
    by_cases hlt : k < 4
    · have kk0 : (0 : Int) ≤ k := by omega
      have kk4 : (k : Int) < 4 := by omega
      have sh := shr_any (d := la.d) (cls := (k : Int)) ⟨d0, d1⟩ ⟨by omega, by omega⟩
      rw [Int.toNat_natCast] at sh
      have cj := cond_just okA.out k hlt

      cases hb : bitB la.d k
      · rw [hb] at sh cj
        simp only [Bool.not_false] at sh cj
        have CJ := Lib.hid cj
        clear cj hb
        by_cases hn0 : nA = 0
        · have hnp' : ¬ ((0 : Int) < (nA : Int)) := by omega
          clear hn0
          have HA1 := Lib.hid (blockOver br HA.out)
          have LA1 := Lib.hid (LA.out.over br)
          have bw1 := bw
          have bw := br
          obtain ⟨ha1q0, ha1q1, ha1q2, ha1q3⟩ := cells4 HA1.out
          go_wp2_with fail
          refine (allows_eq la k la.u la.ap la.af true CJ.out _ _ _ _ _ _ _ (by unfold Bd; omega) LA1.out LA1.out.1).mono ?_
          rintro e w21 ⟨rfl, bq⟩
          replace HA1 := Lib.hid (blockOver bq HA1.out)
          replace LA1 := Lib.hid (LabAt.over bq LA1.out)
          replace bw := bel2 bw bq
          clear bq ha1q0 ha1q1 ha1q2 ha1q3
          obtain ⟨ha1q0, ha1q1, ha1q2, ha1q3⟩ := cells4 HA1.out
          go_wp2_with fail
          refine (allows_eq la k (la.u - 1) la.ap la.af false (cond_time _ _) _ _ _ _ _ _ _ (by unfold Bd; omega) LA1.out LA1.out.1).mono ?_
          rintro e w22 ⟨rfl, bq⟩
          replace HA1 := Lib.hid (blockOver bq HA1.out)
          replace LA1 := Lib.hid (LabAt.over bq LA1.out)
          replace bw := bel2 bw bq
          clear bq ha1q0 ha1q1 ha1q2 ha1q3
          obtain ⟨ha1q0, ha1q1, ha1q2, ha1q3⟩ := cells4 HA1.out
          go_wp2_with fail
          refine (allows_eq la k la.u (la.ap - 1) la.af false (cond_few _ _) _ _ _ _ _ _ _ (by unfold Bd; omega) LA1.out LA1.out.1).mono ?_
          rintro e w23 ⟨rfl, bq⟩
          replace HA1 := Lib.hid (blockOver bq HA1.out)
          replace LA1 := Lib.hid (LabAt.over bq LA1.out)
          replace bw := bel2 bw bq
          clear bq ha1q0 ha1q1 ha1q2 ha1q3
          obtain ⟨p0, p1, p2, p3⟩ := cells4 HA1.out
          go_wp2
          exact ⟨⟨k + 1, by omega, by go_num, rfl, bw⟩, by simp [intOf]; omega⟩
        · have hnp : 0 < nA := by omega
          have hnp' : (0 : Int) < (nA : Int) := by omega
          have HA1 := Lib.hid (blockOver br HA.out)
          have LA1 := Lib.hid (LA.out.over br)
          have bw1 := bw
          have bw := br
          obtain ⟨ha1q0, ha1q1, ha1q2, ha1q3⟩ := cells4 HA1.out
          go_wp2_with fail
          refine (allows_eq la k la.u la.ap la.af true CJ.out _ _ _ _ _ _ _ (by unfold Bd; omega) LA1.out LA1.out.1).mono ?_
          rintro e w21 ⟨rfl, bq⟩
          replace HA1 := Lib.hid (blockOver bq HA1.out)
          replace LA1 := Lib.hid (LabAt.over bq LA1.out)
          replace bw := bel2 bw bq
          clear bq ha1q0 ha1q1 ha1q2 ha1q3
          obtain ⟨ha1q0, ha1q1, ha1q2, ha1q3⟩ := cells4 HA1.out
          go_wp2_with fail
          refine (allows_eq la k (la.u - 1) la.ap la.af false (cond_time _ _) _ _ _ _ _ _ _ (by unfold Bd; omega) LA1.out LA1.out.1).mono ?_
          rintro e w22 ⟨rfl, bq⟩
          replace HA1 := Lib.hid (blockOver bq HA1.out)
          replace LA1 := Lib.hid (LabAt.over bq LA1.out)
          replace bw := bel2 bw bq
          clear bq ha1q0 ha1q1 ha1q2 ha1q3
          obtain ⟨ha1q0, ha1q1, ha1q2, ha1q3⟩ := cells4 HA1.out
          go_wp2_with fail
          refine (allows_eq la k la.u (la.ap - 1) la.af false (cond_few _ _) _ _ _ _ _ _ _ (by unfold Bd; omega) LA1.out LA1.out.1).mono ?_
          rintro e w23 ⟨rfl, bq⟩
          replace HA1 := Lib.hid (blockOver bq HA1.out)
          replace LA1 := Lib.hid (LabAt.over bq LA1.out)
          replace bw := bel2 bw bq
          clear bq ha1q0 ha1q1 ha1q2 ha1q3
          obtain ⟨p0, p1, p2, p3⟩ := cells4 HA1.out
          go_wp2_with fail
          refine (pick_any p nA _ (by omega) (by omega) (by omega)).mono ?_
          rintro e w' ⟨rfl, rfl⟩
          have j0 := pck_lo p nA (by omega)
          have j1 := pck_hi p nA (by omega)
          obtain ⟨j, hj⟩ : ∃ j : Nat, pck p nA = (j : Int) := ⟨(pck p nA).toNat, by omega⟩
          rw [hj] at j0 j1 ⊢
          clear hj
          have hjn : j < nA := by omega
          have hj1 : (j : Int) + 1 ≤ nA := by omega
          obtain ⟨b, off, rfl, -⟩ := LA1.out.1.2.2.2.2.resolve_left hn0
          have hnc : nA ≤ cA := LA1.out.1.2.1
          have hcm : cA ≤ 9223372036854775807 := by have := LA1.out.1.2.2.1; unfold maxLen at this; omega
          have hjc : (j : Int) ≤ (cA : Int) := by omega
          have hnc' : (nA : Int) ≤ (cA : Int) := by omega
          have hj01 : (0 : Int) ≤ (j : Int) + 1 := by omega
          have hmk := fun W => run_make (P := Try.prog) W 23 3 i0 (.int .i64 0) Try.underlying23 hi hz0 .i64 .i64 0 64 (by omega) (by omega) (by rw [hz2]; omega) (by omega)
          simp only [hz1, Value.cells, Int.toNat_zero, show (64 : Int).toNat = 64 by rfl, Nat.mul_one] at hmk
          have hw1 : IntKind.i64.wrap ((j : Int) + 1) = (j : Int) + 1 := IntWalk.i64_in _ (by omega)
          go_wp2_with fail
          have bc := Below.refl w23.heap.size w23
          refine wp_region_held_drew (S := fun w' => Below w23.heap.size w23 w' ∧ w'.cell? ⟨w2.heap.size, 0, none⟩ = some (.int .i64 la.u) ∧ w'.cell? ⟨w2.heap.size, 1, none⟩ = some (.slice (some ⟨b, off, none⟩) nA cA) ∧ w'.cell? ⟨w2.heap.size, 2, none⟩ = some (.int .i64 la.ap) ∧ w'.cell? ⟨w2.heap.size, 3, none⟩ = some (.int .i64 la.d)) (by kernel_rfl) ?_ (fun h0 => ?_)
          · exact ⟨bc.drew, p0, p1, p2, p3⟩
          refine wpAnyH_take (i := 1) (v := ?_) rfl (by kernel_rfl) (by kernel_rfl) (by kernel_rfl) (fun _ _ _ h => h) (Or.inl ⟨by rfl, ?_⟩) h0 ?_
          rotate_left
          · (intro w hSw; (try dsimp only at hSw); go_simp); all_goals (with_reducible rfl)
          try simp only [Act.put, List.setIfInBounds_toArray, List.set_cons_zero, List.set_cons_succ]
          refine wpAnyH_take (i := 2) (v := ?_) rfl (by kernel_rfl) (by kernel_rfl) (by kernel_rfl) (fun _ _ _ h => h) (Or.inl ⟨by rfl, ?_⟩) h0 ?_
          rotate_left
          · (intro w hSw; (try dsimp only at hSw); go_simp); all_goals (with_reducible rfl)
          try simp only [Act.put, List.setIfInBounds_toArray, List.set_cons_zero, List.set_cons_succ]
          refine wpAnyH_take (i := 3) (v := ?_) rfl (by kernel_rfl) (by kernel_rfl) (by kernel_rfl) (fun _ _ _ h => h) (Or.inl ⟨by rfl, ?_⟩) h0 ?_
          rotate_left
          · (intro w hSw; (try dsimp only at hSw); go_simp); all_goals (with_reducible rfl)
          try simp only [Act.put, List.setIfInBounds_toArray, List.set_cons_zero, List.set_cons_succ]
          refine wpAnyH_take (i := 4) (v := ?_) rfl (by kernel_rfl) (by kernel_rfl) (by kernel_rfl) (fun _ _ _ h => h) (Or.inl ⟨by rfl, ?_⟩) h0 ?_
          rotate_left
          · (intro w hSw; (try dsimp only at hSw); go_simp); all_goals (with_reducible rfl)
          try simp only [Act.put, List.setIfInBounds_toArray, List.set_cons_zero, List.set_cons_succ]
          refine wpAnyH_take (i := 6) (v := ?_) rfl (by kernel_rfl) (by kernel_rfl) (by kernel_rfl) (fun _ _ _ h => h) (Or.inl ⟨by rfl, ?_⟩) h0 ?_
          rotate_left
          · (intro w hSw; (try dsimp only at hSw); go_simp); all_goals (with_reducible rfl)
          try simp only [Act.put, List.setIfInBounds_toArray, List.set_cons_zero, List.set_cons_succ]
          refine wpAnyH_take (i := 7) (v := ?_) rfl (by kernel_rfl) (by kernel_rfl) (by kernel_rfl) (fun _ _ _ h => h) (Or.inl ⟨by rfl, ?_⟩) h0 ?_
          rotate_left
          · (intro w hSw; (try dsimp only at hSw); go_simp); all_goals (with_reducible rfl)
          try simp only [Act.put, List.setIfInBounds_toArray, List.set_cons_zero, List.set_cons_succ]
          refine wpAnyH_take (i := 8) (v := ?_) rfl (by kernel_rfl) (by kernel_rfl) (by kernel_rfl) (fun _ _ _ h => h) (Or.inl ⟨by rfl, ?_⟩) h0 ?_
          rotate_left
          · (intro w hSw; (try dsimp only at hSw); go_simp); all_goals (with_reducible rfl)
          try simp only [Act.put, List.setIfInBounds_toArray, List.set_cons_zero, List.set_cons_succ]
          refine wpAnyH_take (i := 9) (v := ?_) rfl (by kernel_rfl) (by kernel_rfl) (by kernel_rfl) (fun _ _ _ h => h) (Or.inl ⟨by rfl, ?_⟩) h0 ?_
          rotate_left
          · (intro w hSw; (try dsimp only at hSw); go_simp); all_goals (with_reducible rfl)
          try simp only [Act.put, List.setIfInBounds_toArray, List.set_cons_zero, List.set_cons_succ]
          refine wpAnyH_take (i := 10) (v := ?_) rfl (by kernel_rfl) (by kernel_rfl) (by kernel_rfl) (fun _ _ _ h => h) (Or.inl ⟨by rfl, ?_⟩) h0 ?_
          rotate_left
          · (intro w hSw; (try dsimp only at hSw); go_simp); all_goals (with_reducible rfl)
          try simp only [Act.put, List.setIfInBounds_toArray, List.set_cons_zero, List.set_cons_succ]
          refine wpAnyH_ready (rs := [0]) (by kernel_rfl) (by simp) ?_
          refine AllReadyH.cons rfl (fun K hK => ?_) AllReadyH.nil
          have hsz0 : w23.heap.size ≤ w23.drew.heap.size := Nat.le_refl _
          go_simp
          clear hmk hw1
          have own0 : (w23.alloc (.cells (madeCells #[.int .i64 0] 64) 3)).drew.ownsRow w23.heap.size 3 1 (.slice (some ⟨w23.heap.size, 0, none⟩) 0 64) 0 [] := World.ownsRow_made w23 _ 64 (Nat.le_refl _) (by unfold maxLen; omega) (by rw [size_madeCells])
          have bX := (below_alloc w23 (.cells (madeCells #[.int .i64 0] 64) 3)).drew
          refine hK.out _ _ ?_ (fun h1 => ?_)
          · exact ⟨bX, cellOver bX p0, cellOver bX p1, cellOver bX p2, cellOver bX p3⟩
          clear hK K h0 bX
          try simp only [Act.put, List.setIfInBounds_toArray, List.set_cons_zero, List.set_cons_succ]
          refine wpAnyH_ready (rs := [5]) (by kernel_rfl) (by simp) ?_
          refine AllReadyH.cons rfl (fun K hK => ?_) AllReadyH.nil
          rw [if_pos (by rfl)]
          obtain ⟨v1, wa, hr1, own1, hg1, -, -⟩ := run_append_ints _ w23.heap.size _ 0 [] own0 (some ⟨b, off, none⟩) j cA (la.af.take j) (ints_take (LA1.out.over h1.1).1 j (by omega)) (by omega) h1.1.size
          obtain ⟨a1, c1, rfl⟩ := own_slice own1
          refine Lib.wp_append_run _ (.tmp 73) (.tmp 77) 23 23 rfl _ _ rfl rfl _ _ hr1 ?_
          have bX := grownBy_own_below h1.1 own0 h1.1.size hg1
          clear hr1 hg1 own0
          refine hK.out _ _ ?_ (fun h2 => ?_)
          · exact ⟨bX, cellOver bX p0, cellOver bX p1, cellOver bX p2, cellOver bX p3⟩
          clear hK K h1 bX
          try simp only [Act.put, List.setIfInBounds_toArray, List.set_cons_zero, List.set_cons_succ]
          refine wpAnyH_ready (rs := [11]) (by kernel_rfl) (by simp) ?_
          refine AllReadyH.cons rfl (fun K hK => ?_) AllReadyH.nil
          rw [if_pos (by rfl)]
          obtain ⟨v2, wb, hr2, own2, hg2, -, -⟩ := run_append_ints _ w23.heap.size _ _ _ own1 _ (nA - (j + 1)) (cA - (j + 1)) (la.af.drop (j + 1)) (ints_drop (LA1.out.over h2.1).1 (j + 1) (by omega)) (by omega) h2.1.size
          obtain ⟨a2, c2, rfl⟩ := own_slice own2
          refine Lib.wp_append_run _ (.tmp 78) (.tmp 83) 23 23 rfl _ _ rfl rfl _ _ hr2 ?_
          have bX := grownBy_own_below h2.1 own1 h2.1.size hg2
          clear hr2 hg2 own1
          refine hK.out _ _ ?_ (fun h3 => ?_)
          · exact ⟨bX, cellOver bX p0, cellOver bX p1, cellOver bX p2, cellOver bX p3⟩
          clear hK K h2 bX
          try simp only [Act.put, List.setIfInBounds_toArray, List.set_cons_zero, List.set_cons_succ]
          refine wpAnyH_take (i := 12) (v := ?_) rfl (by kernel_rfl) (by kernel_rfl) (by kernel_rfl) (fun _ _ _ h => h) (Or.inl ⟨by rfl, ?_⟩) h3 ?_
          rotate_left
          · (intro w hSw; (try dsimp only at hSw); go_simp); all_goals (with_reducible rfl)
          try simp only [Act.put, List.setIfInBounds_toArray, List.set_cons_zero, List.set_cons_succ]
          refine wpAnyH_done (by kernel_rfl) ?_ _
          obtain ⟨A3, hA3⟩ : ∃ A3, (if cA = j + 1 then some (⟨b, off, none⟩ : Addr) else some ⟨b, off + (j + 1), none⟩) = A3 := ⟨_, rfl⟩
          rw [hA3]
          clear hA3
          have IL := Lib.hid (ints_of_own (zs := la.af.take j ++ la.af.drop (j + 1)) (by rw [List.map_append]; simpa using own2) (fun z hz => by
            rw [List.mem_append] at hz
            rcases hz with hz | hz
            · exact ok_ints okA.out z (List.mem_of_mem_take hz)
            · exact ok_ints okA.out z (List.mem_of_mem_drop hz)))
          have LA2 := Lib.hid (LA1.out.over h3.1)
          have HA2 := Lib.hid (blockOver h3.1 HA1.out)
          have bw2 := bel2 bw h3.1
          clear own2 p0 p1 p2 p3 h3
          obtain ⟨p0, p1, p2, p3⟩ := cells4 HA2.out
          go_wp2_with fail
          refine (allows_eq la k la.u la.ap _ false (cond_miss okA.out _ _ _ j (by rw [LA.out.1.1]; exact hjn)) _ _ _ _ _ _ _ (by unfold Bd; omega) LA2.out IL.out).mono ?_
          rintro e wd ⟨rfl, bq⟩
          have bz := bel2 bw2 bq
          clear p0 p1 p2 p3 bq
          go_wp2
          exact ⟨⟨k + 1, by omega, by go_num, rfl, bz⟩, by simp [intOf]; omega⟩
      · rw [hb] at sh cj
        simp only [Bool.not_true] at sh cj
        have CJ := Lib.hid cj
        clear cj hb
        by_cases hn0 : nA = 0
        · have hnp' : ¬ ((0 : Int) < (nA : Int)) := by omega
          clear hn0
          have HA1 := Lib.hid (blockOver br HA.out)
          have LA1 := Lib.hid (LA.out.over br)
          have bw1 := bw
          have bw := br
          obtain ⟨ha1q0, ha1q1, ha1q2, ha1q3⟩ := cells4 HA1.out
          go_wp2_with fail
          refine (allows_eq la k la.u la.ap la.af false CJ.out _ _ _ _ _ _ _ (by unfold Bd; omega) LA1.out LA1.out.1).mono ?_
          rintro e w21 ⟨rfl, bq⟩
          replace HA1 := Lib.hid (blockOver bq HA1.out)
          replace LA1 := Lib.hid (LabAt.over bq LA1.out)
          replace bw := bel2 bw bq
          clear bq ha1q0 ha1q1 ha1q2 ha1q3
          obtain ⟨ha1q0, ha1q1, ha1q2, ha1q3⟩ := cells4 HA1.out
          go_wp2_with fail
          refine (allows_eq la k (la.u - 1) la.ap la.af false (cond_time _ _) _ _ _ _ _ _ _ (by unfold Bd; omega) LA1.out LA1.out.1).mono ?_
          rintro e w22 ⟨rfl, bq⟩
          replace HA1 := Lib.hid (blockOver bq HA1.out)
          replace LA1 := Lib.hid (LabAt.over bq LA1.out)
          replace bw := bel2 bw bq
          clear bq ha1q0 ha1q1 ha1q2 ha1q3
          obtain ⟨ha1q0, ha1q1, ha1q2, ha1q3⟩ := cells4 HA1.out
          go_wp2_with fail
          refine (allows_eq la k la.u (la.ap - 1) la.af false (cond_few _ _) _ _ _ _ _ _ _ (by unfold Bd; omega) LA1.out LA1.out.1).mono ?_
          rintro e w23 ⟨rfl, bq⟩
          replace HA1 := Lib.hid (blockOver bq HA1.out)
          replace LA1 := Lib.hid (LabAt.over bq LA1.out)
          replace bw := bel2 bw bq
          clear bq ha1q0 ha1q1 ha1q2 ha1q3
          obtain ⟨p0, p1, p2, p3⟩ := cells4 HA1.out
          go_wp2
          exact ⟨⟨k + 1, by omega, by go_num, rfl, bw⟩, by simp [intOf]; omega⟩
        · have hnp : 0 < nA := by omega
          have hnp' : (0 : Int) < (nA : Int) := by omega
          have HA1 := Lib.hid (blockOver br HA.out)
          have LA1 := Lib.hid (LA.out.over br)
          have bw1 := bw
          have bw := br
          obtain ⟨ha1q0, ha1q1, ha1q2, ha1q3⟩ := cells4 HA1.out
          go_wp2_with fail
          refine (allows_eq la k la.u la.ap la.af false CJ.out _ _ _ _ _ _ _ (by unfold Bd; omega) LA1.out LA1.out.1).mono ?_
          rintro e w21 ⟨rfl, bq⟩
          replace HA1 := Lib.hid (blockOver bq HA1.out)
          replace LA1 := Lib.hid (LabAt.over bq LA1.out)
          replace bw := bel2 bw bq
          clear bq ha1q0 ha1q1 ha1q2 ha1q3
          obtain ⟨ha1q0, ha1q1, ha1q2, ha1q3⟩ := cells4 HA1.out
          go_wp2_with fail
          refine (allows_eq la k (la.u - 1) la.ap la.af false (cond_time _ _) _ _ _ _ _ _ _ (by unfold Bd; omega) LA1.out LA1.out.1).mono ?_
          rintro e w22 ⟨rfl, bq⟩
          replace HA1 := Lib.hid (blockOver bq HA1.out)
          replace LA1 := Lib.hid (LabAt.over bq LA1.out)
          replace bw := bel2 bw bq
          clear bq ha1q0 ha1q1 ha1q2 ha1q3
          obtain ⟨ha1q0, ha1q1, ha1q2, ha1q3⟩ := cells4 HA1.out
          go_wp2_with fail
          refine (allows_eq la k la.u (la.ap - 1) la.af false (cond_few _ _) _ _ _ _ _ _ _ (by unfold Bd; omega) LA1.out LA1.out.1).mono ?_
          rintro e w23 ⟨rfl, bq⟩
          replace HA1 := Lib.hid (blockOver bq HA1.out)
          replace LA1 := Lib.hid (LabAt.over bq LA1.out)
          replace bw := bel2 bw bq
          clear bq ha1q0 ha1q1 ha1q2 ha1q3
          obtain ⟨p0, p1, p2, p3⟩ := cells4 HA1.out
          go_wp2_with fail
          refine (pick_any p nA _ (by omega) (by omega) (by omega)).mono ?_
          rintro e w' ⟨rfl, rfl⟩
          have j0 := pck_lo p nA (by omega)
          have j1 := pck_hi p nA (by omega)
          obtain ⟨j, hj⟩ : ∃ j : Nat, pck p nA = (j : Int) := ⟨(pck p nA).toNat, by omega⟩
          rw [hj] at j0 j1 ⊢
          clear hj
          have hjn : j < nA := by omega
          have hj1 : (j : Int) + 1 ≤ nA := by omega
          obtain ⟨b, off, rfl, -⟩ := LA1.out.1.2.2.2.2.resolve_left hn0
          have hnc : nA ≤ cA := LA1.out.1.2.1
          have hcm : cA ≤ 9223372036854775807 := by have := LA1.out.1.2.2.1; unfold maxLen at this; omega
          have hjc : (j : Int) ≤ (cA : Int) := by omega
          have hnc' : (nA : Int) ≤ (cA : Int) := by omega
          have hj01 : (0 : Int) ≤ (j : Int) + 1 := by omega
          have hmk := fun W => run_make (P := Try.prog) W 23 3 i0 (.int .i64 0) Try.underlying23 hi hz0 .i64 .i64 0 64 (by omega) (by omega) (by rw [hz2]; omega) (by omega)
          simp only [hz1, Value.cells, Int.toNat_zero, show (64 : Int).toNat = 64 by rfl, Nat.mul_one] at hmk
          have hw1 : IntKind.i64.wrap ((j : Int) + 1) = (j : Int) + 1 := IntWalk.i64_in _ (by omega)
          go_wp2_with fail
          have bc := Below.refl w23.heap.size w23
          refine wp_region_held_drew (S := fun w' => Below w23.heap.size w23 w' ∧ w'.cell? ⟨w2.heap.size, 0, none⟩ = some (.int .i64 la.u) ∧ w'.cell? ⟨w2.heap.size, 1, none⟩ = some (.slice (some ⟨b, off, none⟩) nA cA) ∧ w'.cell? ⟨w2.heap.size, 2, none⟩ = some (.int .i64 la.ap) ∧ w'.cell? ⟨w2.heap.size, 3, none⟩ = some (.int .i64 la.d)) (by kernel_rfl) ?_ (fun h0 => ?_)
          · exact ⟨bc.drew, p0, p1, p2, p3⟩
          refine wpAnyH_take (i := 1) (v := ?_) rfl (by kernel_rfl) (by kernel_rfl) (by kernel_rfl) (fun _ _ _ h => h) (Or.inl ⟨by rfl, ?_⟩) h0 ?_
          rotate_left
          · (intro w hSw; (try dsimp only at hSw); go_simp); all_goals (with_reducible rfl)
          try simp only [Act.put, List.setIfInBounds_toArray, List.set_cons_zero, List.set_cons_succ]
          refine wpAnyH_take (i := 2) (v := ?_) rfl (by kernel_rfl) (by kernel_rfl) (by kernel_rfl) (fun _ _ _ h => h) (Or.inl ⟨by rfl, ?_⟩) h0 ?_
          rotate_left
          · (intro w hSw; (try dsimp only at hSw); go_simp); all_goals (with_reducible rfl)
          try simp only [Act.put, List.setIfInBounds_toArray, List.set_cons_zero, List.set_cons_succ]
          refine wpAnyH_take (i := 3) (v := ?_) rfl (by kernel_rfl) (by kernel_rfl) (by kernel_rfl) (fun _ _ _ h => h) (Or.inl ⟨by rfl, ?_⟩) h0 ?_
          rotate_left
          · (intro w hSw; (try dsimp only at hSw); go_simp); all_goals (with_reducible rfl)
          try simp only [Act.put, List.setIfInBounds_toArray, List.set_cons_zero, List.set_cons_succ]
          refine wpAnyH_take (i := 4) (v := ?_) rfl (by kernel_rfl) (by kernel_rfl) (by kernel_rfl) (fun _ _ _ h => h) (Or.inl ⟨by rfl, ?_⟩) h0 ?_
          rotate_left
          · (intro w hSw; (try dsimp only at hSw); go_simp); all_goals (with_reducible rfl)
          try simp only [Act.put, List.setIfInBounds_toArray, List.set_cons_zero, List.set_cons_succ]
          refine wpAnyH_take (i := 6) (v := ?_) rfl (by kernel_rfl) (by kernel_rfl) (by kernel_rfl) (fun _ _ _ h => h) (Or.inl ⟨by rfl, ?_⟩) h0 ?_
          rotate_left
          · (intro w hSw; (try dsimp only at hSw); go_simp); all_goals (with_reducible rfl)
          try simp only [Act.put, List.setIfInBounds_toArray, List.set_cons_zero, List.set_cons_succ]
          refine wpAnyH_take (i := 7) (v := ?_) rfl (by kernel_rfl) (by kernel_rfl) (by kernel_rfl) (fun _ _ _ h => h) (Or.inl ⟨by rfl, ?_⟩) h0 ?_
          rotate_left
          · (intro w hSw; (try dsimp only at hSw); go_simp); all_goals (with_reducible rfl)
          try simp only [Act.put, List.setIfInBounds_toArray, List.set_cons_zero, List.set_cons_succ]
          refine wpAnyH_take (i := 8) (v := ?_) rfl (by kernel_rfl) (by kernel_rfl) (by kernel_rfl) (fun _ _ _ h => h) (Or.inl ⟨by rfl, ?_⟩) h0 ?_
          rotate_left
          · (intro w hSw; (try dsimp only at hSw); go_simp); all_goals (with_reducible rfl)
          try simp only [Act.put, List.setIfInBounds_toArray, List.set_cons_zero, List.set_cons_succ]
          refine wpAnyH_take (i := 9) (v := ?_) rfl (by kernel_rfl) (by kernel_rfl) (by kernel_rfl) (fun _ _ _ h => h) (Or.inl ⟨by rfl, ?_⟩) h0 ?_
          rotate_left
          · (intro w hSw; (try dsimp only at hSw); go_simp); all_goals (with_reducible rfl)
          try simp only [Act.put, List.setIfInBounds_toArray, List.set_cons_zero, List.set_cons_succ]
          refine wpAnyH_take (i := 10) (v := ?_) rfl (by kernel_rfl) (by kernel_rfl) (by kernel_rfl) (fun _ _ _ h => h) (Or.inl ⟨by rfl, ?_⟩) h0 ?_
          rotate_left
          · (intro w hSw; (try dsimp only at hSw); go_simp); all_goals (with_reducible rfl)
          try simp only [Act.put, List.setIfInBounds_toArray, List.set_cons_zero, List.set_cons_succ]
          refine wpAnyH_ready (rs := [0]) (by kernel_rfl) (by simp) ?_
          refine AllReadyH.cons rfl (fun K hK => ?_) AllReadyH.nil
          have hsz0 : w23.heap.size ≤ w23.drew.heap.size := Nat.le_refl _
          go_simp
          clear hmk hw1
          have own0 : (w23.alloc (.cells (madeCells #[.int .i64 0] 64) 3)).drew.ownsRow w23.heap.size 3 1 (.slice (some ⟨w23.heap.size, 0, none⟩) 0 64) 0 [] := World.ownsRow_made w23 _ 64 (Nat.le_refl _) (by unfold maxLen; omega) (by rw [size_madeCells])
          have bX := (below_alloc w23 (.cells (madeCells #[.int .i64 0] 64) 3)).drew
          refine hK.out _ _ ?_ (fun h1 => ?_)
          · exact ⟨bX, cellOver bX p0, cellOver bX p1, cellOver bX p2, cellOver bX p3⟩
          clear hK K h0 bX
          try simp only [Act.put, List.setIfInBounds_toArray, List.set_cons_zero, List.set_cons_succ]
          refine wpAnyH_ready (rs := [5]) (by kernel_rfl) (by simp) ?_
          refine AllReadyH.cons rfl (fun K hK => ?_) AllReadyH.nil
          rw [if_pos (by rfl)]
          obtain ⟨v1, wa, hr1, own1, hg1, -, -⟩ := run_append_ints _ w23.heap.size _ 0 [] own0 (some ⟨b, off, none⟩) j cA (la.af.take j) (ints_take (LA1.out.over h1.1).1 j (by omega)) (by omega) h1.1.size
          obtain ⟨a1, c1, rfl⟩ := own_slice own1
          refine Lib.wp_append_run _ (.tmp 73) (.tmp 77) 23 23 rfl _ _ rfl rfl _ _ hr1 ?_
          have bX := grownBy_own_below h1.1 own0 h1.1.size hg1
          clear hr1 hg1 own0
          refine hK.out _ _ ?_ (fun h2 => ?_)
          · exact ⟨bX, cellOver bX p0, cellOver bX p1, cellOver bX p2, cellOver bX p3⟩
          clear hK K h1 bX
          try simp only [Act.put, List.setIfInBounds_toArray, List.set_cons_zero, List.set_cons_succ]
          refine wpAnyH_ready (rs := [11]) (by kernel_rfl) (by simp) ?_
          refine AllReadyH.cons rfl (fun K hK => ?_) AllReadyH.nil
          rw [if_pos (by rfl)]
          obtain ⟨v2, wb, hr2, own2, hg2, -, -⟩ := run_append_ints _ w23.heap.size _ _ _ own1 _ (nA - (j + 1)) (cA - (j + 1)) (la.af.drop (j + 1)) (ints_drop (LA1.out.over h2.1).1 (j + 1) (by omega)) (by omega) h2.1.size
          obtain ⟨a2, c2, rfl⟩ := own_slice own2
          refine Lib.wp_append_run _ (.tmp 78) (.tmp 83) 23 23 rfl _ _ rfl rfl _ _ hr2 ?_
          have bX := grownBy_own_below h2.1 own1 h2.1.size hg2
          clear hr2 hg2 own1
          refine hK.out _ _ ?_ (fun h3 => ?_)
          · exact ⟨bX, cellOver bX p0, cellOver bX p1, cellOver bX p2, cellOver bX p3⟩
          clear hK K h2 bX
          try simp only [Act.put, List.setIfInBounds_toArray, List.set_cons_zero, List.set_cons_succ]
          refine wpAnyH_take (i := 12) (v := ?_) rfl (by kernel_rfl) (by kernel_rfl) (by kernel_rfl) (fun _ _ _ h => h) (Or.inl ⟨by rfl, ?_⟩) h3 ?_
          rotate_left
          · (intro w hSw; (try dsimp only at hSw); go_simp); all_goals (with_reducible rfl)
          try simp only [Act.put, List.setIfInBounds_toArray, List.set_cons_zero, List.set_cons_succ]
          refine wpAnyH_done (by kernel_rfl) ?_ _
          obtain ⟨A3, hA3⟩ : ∃ A3, (if cA = j + 1 then some (⟨b, off, none⟩ : Addr) else some ⟨b, off + (j + 1), none⟩) = A3 := ⟨_, rfl⟩
          rw [hA3]
          clear hA3
          have IL := Lib.hid (ints_of_own (zs := la.af.take j ++ la.af.drop (j + 1)) (by rw [List.map_append]; simpa using own2) (fun z hz => by
            rw [List.mem_append] at hz
            rcases hz with hz | hz
            · exact ok_ints okA.out z (List.mem_of_mem_take hz)
            · exact ok_ints okA.out z (List.mem_of_mem_drop hz)))
          have LA2 := Lib.hid (LA1.out.over h3.1)
          have HA2 := Lib.hid (blockOver h3.1 HA1.out)
          have bw2 := bel2 bw h3.1
          clear own2 p0 p1 p2 p3 h3
          obtain ⟨p0, p1, p2, p3⟩ := cells4 HA2.out
          go_wp2_with fail
          refine (allows_eq la k la.u la.ap _ false (cond_miss okA.out _ _ _ j (by rw [LA.out.1.1]; exact hjn)) _ _ _ _ _ _ _ (by unfold Bd; omega) LA2.out IL.out).mono ?_
          rintro e wd ⟨rfl, bq⟩
          have bz := bel2 bw2 bq
          clear p0 p1 p2 p3 bq
          go_wp2
          exact ⟨⟨k + 1, by omega, by go_num, rfl, bz⟩, by simp [intOf]; omega⟩
    · skip
      have hn4 : ¬ ((k : Int) < 4) := by omega
      replace HA := Lib.hid (blockOver br HA.out)
      replace LA := Lib.hid (LA.out.over br)
      replace bw := bel2 bw br
      obtain rfl : k = 4 := by omega
      clear br hn4
      obtain ⟨haq0, haq1, haq2, haq3⟩ := cells4 HA.out
      go_wp2_with fail
      refine (allows_eq la (-1) la.u la.ap la.af false (cond_class _ _ _ _ _ (.inl (by omega))) _ _ _ _ _ _ _ (by unfold Bd; omega) LA.out LA.out.1).mono ?_
      rintro e w41 ⟨rfl, bq⟩
      replace HA := Lib.hid (blockOver bq HA.out)
      replace LA := Lib.hid (LabAt.over bq LA.out)
      replace bw := bel2 bw bq
      clear bq haq0 haq1 haq2 haq3
      obtain ⟨haq0, haq1, haq2, haq3⟩ := cells4 HA.out
      go_wp2_with fail
      refine (allows_eq la 4 la.u la.ap la.af false (cond_class _ _ _ _ _ (.inr (by omega))) _ _ _ _ _ _ _ (by unfold Bd; omega) LA.out LA.out.1).mono ?_
      rintro e w42 ⟨rfl, bq⟩
      replace HA := Lib.hid (blockOver bq HA.out)
      replace LA := Lib.hid (LabAt.over bq LA.out)
      replace bw := bel2 bw bq
      clear bq haq0 haq1 haq2 haq3
      go_wp2
      go_ret
      exact ⟨rfl, bw⟩
end Go.Proofs.Ythpginepnleokaa
