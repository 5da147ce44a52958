/- LabelAllowsMatchesReference: the walk of the statement's text. -/
import Derived.Test.YthpginepnleokaaRaw02
import Derived.Test.YthpginepnleokaaRefAllows02
import Derived.Deep.RegionHeld3
import Derived.RegionTactic
import Derived.Deep.CutRange
namespace Go.Proofs.Ythpginepnleokaa
open Go.RowKit
set_option linter.unusedSimpArgs false
set_option linter.unusedVariables false
set_option linter.unnecessarySimpa false
theorem cells3 {W : World} {g : Nat} {a b c : Value} {t : TypeId} {fr : Nat × Nat} (h : W.heap[g]? = some (.cells #[a, b, c] t fr)) : W.cell? ⟨g, 0, none⟩ = some a ∧ W.cell? ⟨g, 1, none⟩ = some b ∧ W.cell? ⟨g, 2, none⟩ = some c :=
  ⟨by rw [Joins.cell_of_block h]; rfl, by rw [Joins.cell_of_block h]; rfl, by rw [Joins.cell_of_block h]; rfl⟩
theorem refAllows_eq (l : Lab) (cls now k : Int) (out : List Int) (r : Bool) (hr : allB l cls now out k = r) (a : Option Addr) (n c : Nat) (a2 : Option Addr) (n2 c2 : Nat) (w : World) (h : LabAt w a n c l) (h2 : IsInts .i64 w a2 n2 c2 out) :
    Calls Try.prog 25 #[.agg #[.int .i64 l.u, .slice a n c, .int .i64 l.ap, .int .i64 l.d], .int .i64 cls, .int .i64 now, .slice a2 n2 c2, .int .i64 k] w fun e w' => e = .returned (.bool r) ∧ Below w.heap.size w w' := by
  have := refAllows_any l cls now k out a n c a2 n2 c2 w h h2
  rwa [hr] at this
set_option maxRecDepth 100000 in
set_option maxHeartbeats 32000000 in
theorem allowsRef_walk (x0 x1 x2 x3 : Int) (a : Option Addr) (n c : Nat) (zs : List Int) (t0 t1 t2 : Int) (w : World) (hx : B4 x0 x1 x2 x3) (hz : IsInts .i64 w a n c zs) (ht : Bd t0 ∧ Bd t1 ∧ Bd t2) :
    Calls Try.prog 4 #[.agg #[.int .i64 x0, .int .i64 x1, .int .i64 x2, .int .i64 x3], .slice a n c, .agg #[.int .i64 t0, .int .i64 t1, .int .i64 t2]] w fun e w' => e = .returned (.bool true) ∧ Below w.heap.size w w' := by
  obtain ⟨la, _, okA, KA⟩ := make_eq _ _ _ _ hx
  obtain ⟨bt0, bt1, bt2⟩ := ht
  have KR := Lib.hid (fun W hh => raw_any x0 x1 x2 x3 zs a n c W hx.1 hx.2.1 hx.2.2.1 hx.2.2.2 (fun z h => wf64 (hz.2.2.2.1 z h)) hh)
  generalize rawL x0 zs x2 x3 = lr at *
  obtain ⟨hX, hT, bw⟩ := two_allocs w (.cells #[.int .i64 x0, .int .i64 x1, .int .i64 x2, .int .i64 x3] 22) (.cells #[.int .i64 t0, .int .i64 t1, .int .i64 t2] 34)
  have HX := Lib.hid hX
  have HT := Lib.hid hT
  have IZ := Lib.hid (hz.over bw)
  clear hX hT hx hz
  go_enter Try.func4, Try.ntmps4
  obtain ⟨hxq0, hxq1, hxq2, hxq3⟩ := cells4 HX.out
  go_wp2_with fail
  refine (sane_any _).mono ?_
  rintro e w1 ⟨rfl, bq⟩
  replace HX := Lib.hid (blockOver bq HX.out)
  replace HT := Lib.hid (blockOver bq HT.out)
  replace bw := bel2 bw bq
  replace IZ := Lib.hid (IZ.out.over bq)
  clear bq hxq0 hxq1 hxq2 hxq3
  obtain ⟨hxq0, hxq1, hxq2, hxq3⟩ := cells4 HX.out
  go_wp2_with fail
  refine (KA.out _).mono ?_
  rintro e w2 ⟨aA, nA, cA, rfl, LA, OA, bq⟩
  have HA := Lib.hid (heap_alloc_new w2 (.cells #[.int .i64 la.u, .slice aA nA cA, .int .i64 la.ap, .int .i64 la.d] 26))
  replace LA := Lib.hid (LA.over (below_alloc w2 (.cells #[.int .i64 la.u, .slice aA nA cA, .int .i64 la.ap, .int .i64 la.d] 26)))
  replace bq := bel2 bq (below_alloc w2 (.cells #[.int .i64 la.u, .slice aA nA cA, .int .i64 la.ap, .int .i64 la.d] 26))
  replace HX := Lib.hid (blockOver bq HX.out)
  replace HT := Lib.hid (blockOver bq HT.out)
  replace bw := bel2 bw bq
  replace IZ := Lib.hid (IZ.out.over bq)
  clear bq OA hxq0 hxq1 hxq2 hxq3
  obtain ⟨haq0, haq1, haq2, haq3⟩ := cells4 HA.out
  obtain ⟨hxq0, hxq1, hxq2, hxq3⟩ := cells4 HX.out
  go_wp2_with fail
  have bc := Below.refl (w2.alloc (.cells #[.int .i64 la.u, .slice aA nA cA, .int .i64 la.ap, .int .i64 la.d] 26)).heap.size (w2.alloc (.cells #[.int .i64 la.u, .slice aA nA cA, .int .i64 la.ap, .int .i64 la.d] 26))
  refine wp_region_held_drew (S := fun w' => Below (w2.alloc (.cells #[.int .i64 la.u, .slice aA nA cA, .int .i64 la.ap, .int .i64 la.d] 26)).heap.size (w2.alloc (.cells #[.int .i64 la.u, .slice aA nA cA, .int .i64 la.ap, .int .i64 la.d] 26)) w' ∧ w'.cell? ⟨w2.heap.size, 0, none⟩ = some (.int .i64 la.u) ∧ w'.cell? ⟨w2.heap.size, 1, none⟩ = some (.slice aA nA cA) ∧ w'.cell? ⟨w2.heap.size, 2, none⟩ = some (.int .i64 la.ap) ∧ w'.cell? ⟨w2.heap.size, 3, none⟩ = some (.int .i64 la.d) ∧ w'.cell? ⟨w.heap.size, 0, none⟩ = some (.int .i64 x0) ∧ w'.cell? ⟨w.heap.size, 1, none⟩ = some (.int .i64 x1) ∧ w'.cell? ⟨w.heap.size, 2, none⟩ = some (.int .i64 x2) ∧ w'.cell? ⟨w.heap.size, 3, none⟩ = some (.int .i64 x3)) (by kernel_rfl) ?_ (fun h0 => ?_)
  · exact ⟨bc.drew, haq0, haq1, haq2, haq3, hxq0, hxq1, hxq2, hxq3⟩
  refine wpAnyH_take (i := 0) (v := ?_) rfl (by kernel_rfl) (by kernel_rfl) (by kernel_rfl) (fun _ _ _ h => h) (Or.inl ⟨by rfl, ?_⟩) h0 ?_
  rotate_left
  · (intro w hSw; (try dsimp only at hSw); go_simp); all_goals (with_reducible rfl)
  try simp only [List.getElem_toArray, List.getElem_cons_succ, List.getElem_cons_zero, Act.put, List.setIfInBounds_toArray, List.set_cons_zero, List.set_cons_succ]
  refine wpAnyH_take (i := 1) (v := ?_) rfl (by kernel_rfl) (by kernel_rfl) (by kernel_rfl) (fun _ _ _ h => h) (Or.inl ⟨by rfl, ?_⟩) h0 ?_
  rotate_left
  · (intro w hSw; (try dsimp only at hSw); go_simp); all_goals (with_reducible rfl)
  try simp only [List.getElem_toArray, List.getElem_cons_succ, List.getElem_cons_zero, Act.put, List.setIfInBounds_toArray, List.set_cons_zero, List.set_cons_succ]
  refine wpAnyH_take (i := 2) (v := ?_) rfl (by kernel_rfl) (by kernel_rfl) (by kernel_rfl) (fun _ _ _ h => h) (Or.inl ⟨by rfl, ?_⟩) h0 ?_
  rotate_left
  · (intro w hSw; (try dsimp only at hSw); go_simp); all_goals (with_reducible rfl)
  try simp only [List.getElem_toArray, List.getElem_cons_succ, List.getElem_cons_zero, Act.put, List.setIfInBounds_toArray, List.set_cons_zero, List.set_cons_succ]
  refine wpAnyH_take (i := 4) (v := ?_) rfl (by kernel_rfl) (by kernel_rfl) (by kernel_rfl) (fun _ _ _ h => h) (Or.inl ⟨by rfl, ?_⟩) h0 ?_
  rotate_left
  · (intro w hSw; (try dsimp only at hSw); go_simp); all_goals (with_reducible rfl)
  try simp only [List.getElem_toArray, List.getElem_cons_succ, List.getElem_cons_zero, Act.put, List.setIfInBounds_toArray, List.set_cons_zero, List.set_cons_succ]
  refine wpAnyH_take (i := 7) (v := ?_) rfl (by kernel_rfl) (by kernel_rfl) (by kernel_rfl) (fun _ _ _ h => h) (Or.inl ⟨by rfl, ?_⟩) h0 ?_
  rotate_left
  · (intro w hSw; (try dsimp only at hSw); go_simp); all_goals (with_reducible rfl)
  try simp only [List.getElem_toArray, List.getElem_cons_succ, List.getElem_cons_zero, Act.put, List.setIfInBounds_toArray, List.set_cons_zero, List.set_cons_succ]
  refine wpAnyH_ready (rs := [3]) (by kernel_rfl) (by simp) ?_
  refine AllReadyH.cons rfl (fun K hK => ?_) AllReadyH.nil
  go_simp
  go_at_call 15
  refine (KR.out _ (IZ.out.over h0.1)).mono ?_
  rintro e wq0 ⟨av1, nv1, cv1, rfl, Lv1, Ov1, bq⟩
  go_wp2_with fail
  have bX := bel2 h0.1 bq
  refine hK.out _ _ ?_ (fun h1 => ?_)
  · exact ⟨bX, cellOver bX haq0, cellOver bX haq1, cellOver bX haq2, cellOver bX haq3, cellOver bX hxq0, cellOver bX hxq1, cellOver bX hxq2, cellOver bX hxq3⟩
  clear hK K h0 bX bq Ov1
  try simp only [List.getElem_toArray, List.getElem_cons_succ, List.getElem_cons_zero, Act.put, List.setIfInBounds_toArray, List.set_cons_zero, List.set_cons_succ]
  refine wpAnyH_ready (rs := [5]) (by kernel_rfl) (by simp) ?_
  refine AllReadyH.cons rfl (fun K hK => ?_) AllReadyH.nil
  rw [if_pos (by rfl)]
  go_simp
  have HLI := Lib.hid (show ListAt (wq0.alloc (.cells #[.int .i64 la.u, .slice aA nA cA, .int .i64 la.ap, .int .i64 la.d, .int .i64 lr.u, .slice av1 nv1 cv1, .int .i64 lr.ap, .int .i64 lr.d, .int .i64 0, .slice none 0 0, .int .i64 0, .int .i64 0] 26)) wq0.heap.size [(la, aA, nA, cA), (lr, av1, nv1, cv1), (zeroL, none, 0, 0)] from ⟨heap_alloc_new wq0 _, fun e he => by
    simp only [List.mem_cons, List.not_mem_nil, or_false] at he
    rcases he with rfl | rfl | rfl
    · exact LA.out.over (bel2 h1.1 (below_alloc _ _))
    · exact Lv1.over (below_alloc _ _)
    · exact zero_at _⟩)
  have bX := bel2 h1.1 (below_alloc wq0 (.cells #[.int .i64 la.u, .slice aA nA cA, .int .i64 la.ap, .int .i64 la.d, .int .i64 lr.u, .slice av1 nv1 cv1, .int .i64 lr.ap, .int .i64 lr.d, .int .i64 0, .slice none 0 0, .int .i64 0, .int .i64 0] 26))
  refine hK.out _ _ ?_ (fun h2 => ?_)
  · exact ⟨bX, cellOver bX haq0, cellOver bX haq1, cellOver bX haq2, cellOver bX haq3, cellOver bX hxq0, cellOver bX hxq1, cellOver bX hxq2, cellOver bX hxq3⟩
  clear hK K h1 bX
  try simp only [List.getElem_toArray, List.getElem_cons_succ, List.getElem_cons_zero, Act.put, List.setIfInBounds_toArray, List.set_cons_zero, List.set_cons_succ]
  refine wpAnyH_take (i := 6) (v := ?_) rfl (by kernel_rfl) (by kernel_rfl) (by kernel_rfl) (fun _ _ _ h => h) (Or.inl ⟨by rfl, ?_⟩) h2 ?_
  rotate_left
  · (intro w hSw; (try dsimp only at hSw); go_simp); all_goals (with_reducible rfl)
  try simp only [List.getElem_toArray, List.getElem_cons_succ, List.getElem_cons_zero, Act.put, List.setIfInBounds_toArray, List.set_cons_zero, List.set_cons_succ]
  refine wpAnyH_done (by kernel_rfl) ?_ _
  replace bw := bel2 bw h2.1
  replace HA := Lib.hid (blockOver h2.1 HA.out)
  replace HT := Lib.hid (blockOver h2.1 HT.out)
  replace LA := Lib.hid (LA.out.over h2.1)
  replace IZ := Lib.hid (IZ.out.over h2.1)
  clear h2 haq0 haq1 haq2 haq3 hxq0 hxq1 hxq2 hxq3 Lv1 bc HX KA KR okA
  go_wp2_with fail
  obtain ⟨q, hq⟩ : ∃ q, wq0.heap.size = q := ⟨_, rfl⟩
  obtain ⟨W0, hW0⟩ : ∃ W0, wq0.alloc (.cells #[.int .i64 la.u, .slice aA nA cA, .int .i64 la.ap, .int .i64 la.d, .int .i64 lr.u, .slice av1 nv1 cv1, .int .i64 lr.ap, .int .i64 lr.d, .int .i64 0, .slice none 0 0, .int .i64 0, .int .i64 0] 26) = W0 := ⟨_, rfl⟩
  rw [hW0] at bw ⊢
  rw [hW0] at HA HT LA IZ
  rw [hW0, hq] at HLI
  rw [hq]
  obtain ⟨es, hes⟩ : ∃ es : List (Lab × Option Addr × Nat × Nat), [(la, aA, nA, cA), (lr, av1, nv1, cv1), (zeroL, none, 0, 0)] = es := ⟨_, rfl⟩
  have hl3 : es.length = 3 := by rw [← hes]; rfl
  rw [hes] at HLI
  have HL := Lib.hid hl3
  clear hW0 hq hes hl3
  obtain ⟨ga, hga⟩ : ∃ ga, w2.heap.size = ga := ⟨_, rfl⟩
  rw [hga] at HA ⊢
  clear hga
  have hga : ga < W0.heap.size := (Array.getElem?_eq_some_iff.1 HA.out).1
  have hgt : w.heap.size + 1 < W0.heap.size := (Array.getElem?_eq_some_iff.1 HT.out).1
  go_loopw [24, 9, 11, 12] (fun i _ _ _ wr => ∃ k : Nat, k ≤ 3 ∧ i = .int .i64 k ∧ Below W0.heap.size W0 wr) (fun i _ _ _ _ => 3 - (intOf i).toNat)
  case atStart => exact ⟨0, by omega, rfl, Below.refl _ _⟩
  case round =>
    obtain ⟨k, hk, rfl, br⟩ := hrel
    by_cases hlt : k < 3
    · have kk0 : (0 : Int) ≤ k := by omega
      have kk3 : (k : Int) < 3 := by omega
      obtain ⟨lp, ap, np, cp, hm, p0, p1, p2, p3, LP0⟩ := (HLI.out.over br).at_ (k := k) (by rw [HL.out]; exact hlt)
      have brs := br.size
      have hga1 : ga < wr.heap.size := by omega
      obtain ⟨haq0, haq1, haq2, haq3⟩ := cells4 (blockOver br HA.out)
      clear hm brs
      obtain ⟨wo, rfl⟩ : ∃ wo, wo = wr := ⟨_, rfl⟩
      obtain ⟨hP, hS, bPS⟩ := two_allocs wo (.cells #[.int .i64 lp.u, .slice ap np cp, .int .i64 lp.ap, .int .i64 lp.d] 26) (.cells #[.slice a n c, .slice ap np cp, .slice aA nA cA, .slice none 0 0] 23)
      have HP := Lib.hid hP
      have HS := Lib.hid (show SlicesAt ((wo.alloc (.cells #[.int .i64 lp.u, .slice ap np cp, .int .i64 lp.ap, .int .i64 lp.d] 26)).alloc (.cells #[.slice a n c, .slice ap np cp, .slice aA nA cA, .slice none 0 0] 23)) (wo.heap.size + 1) [(zs, a, n, c), (lp.af, ap, np, cp), (la.af, aA, nA, cA), ([], none, 0, 0)] from ⟨hS, fun e he => by
        simp only [List.mem_cons, List.not_mem_nil, or_false] at he
        rcases he with rfl | rfl | rfl | rfl
        · exact IZ.out.over (bel2 br bPS)
        · exact (LP0.over bPS).1
        · exact (LA.out.over (bel2 br bPS)).1
        · exact nil_ints _⟩)
      have LP := Lib.hid (LP0.over bPS)
      have b1 := bel2 br bPS
      clear hP hS LP0
      go_wp2_with fail
      obtain ⟨gp, hgp⟩ : ∃ gp, wo.heap.size = gp := ⟨_, rfl⟩
      obtain ⟨W1, hW1⟩ : ∃ W1, (wo.alloc (.cells #[.int .i64 lp.u, .slice ap np cp, .int .i64 lp.ap, .int .i64 lp.d] 26)).alloc (.cells #[.slice a n c, .slice ap np cp, .slice aA nA cA, .slice none 0 0] 23) = W1 := ⟨_, rfl⟩
      rw [hW1] at b1 LP ⊢
      rw [hW1, hgp] at HP HS
      rw [hgp]
      obtain ⟨E4, hE4⟩ : ∃ L : List (List Int × Option Addr × Nat × Nat), [(zs, a, n, c), (lp.af, ap, np, cp), (la.af, aA, nA, cA), ([], none, 0, 0)] = L := ⟨_, rfl⟩
      have he4 : E4.length = 4 := by rw [← hE4]; rfl
      rw [hE4] at HS
      have HE4 := Lib.hid he4
      clear hW1 hgp hE4 he4 bPS haq0 haq1 haq2 haq3 p0 p1 p2 p3 hga1
      go_loopw [35, 11, 12] (fun i _ _ wr => ∃ j : Nat, j ≤ 4 ∧ i = .int .i64 j ∧ Below W1.heap.size W1 wr) (fun i _ _ _ => 4 - (intOf i).toNat)
      case atStart => exact ⟨0, by omega, rfl, Below.refl _ _⟩
      case round =>
        obtain ⟨j, hj, rfl, bj⟩ := hrel
        by_cases hlj : j < 4
        · have jj0 : (0 : Int) ≤ j := by omega
          have jj4 : (j : Int) < 4 := by omega
          obtain ⟨out, ao, no, co, -, hcell, IO0⟩ := (HS.out.over bj).at_ (k := j) (by rw [HE4.out]; exact hlj)
          obtain ⟨W2, rfl⟩ : ∃ W2, W2 = wr := ⟨_, rfl⟩
          have b2 := bel2 b1 bj
          have IO := Lib.hid IO0
          clear IO0
          go_wp2_with fail
          clear hcell
          go_loopw [12] (fun cl wr => ∃ i : Int, -1 ≤ i ∧ i ≤ 5 ∧ cl = .int .i64 i ∧ Below W2.heap.size W2 wr) (fun cl _ => (5 - intOf cl).toNat)
          case atStart => exact ⟨-1, by omega, by omega, rfl, Below.refl _ _⟩
          case round =>
            obtain ⟨i, hi0, hi5, rfl, bi⟩ := hrel
            have b3 := bel2 bj bi
            obtain ⟨p0, p1, p2, p3⟩ := cells4 (blockOver b3 HP.out)
            obtain ⟨t0q, t1q, t2q⟩ := cells3 (blockOver (bel2 b1 b3) HT.out)
            by_cases hli : i ≤ 4
            · have bdi : Bd i := by unfold Bd; omega
              have LPq := Lib.hid (LP.out.over b3)
              have IOq := Lib.hid (IO.out.over bi)
              obtain ⟨r1, hr1⟩ : ∃ r, allB lp i t1 out t2 = r := ⟨_, rfl⟩
              obtain ⟨r2, hr2⟩ : ∃ r, allB lp i lp.u out lp.ap = r := ⟨_, rfl⟩
              have F1 := Lib.hid hr1
              have F2 := Lib.hid hr2
              have ne1 : (r1 != r1) = false := by simp
              have ne2 : (r2 != r2) = false := by simp
              clear hr1 hr2
              go_wp2_with fail
              have bc := Below.refl wr.heap.size wr
              refine wp_region_held_drew (S := fun w' => Below wr.heap.size wr w' ∧ w'.cell? ⟨gp, 0, none⟩ = some (.int .i64 lp.u) ∧ w'.cell? ⟨gp, 1, none⟩ = some (.slice ap np cp) ∧ w'.cell? ⟨gp, 2, none⟩ = some (.int .i64 lp.ap) ∧ w'.cell? ⟨gp, 3, none⟩ = some (.int .i64 lp.d) ∧ w'.cell? ⟨w.heap.size + 1, 0, none⟩ = some (.int .i64 t0) ∧ w'.cell? ⟨w.heap.size + 1, 1, none⟩ = some (.int .i64 t1) ∧ w'.cell? ⟨w.heap.size + 1, 2, none⟩ = some (.int .i64 t2)) (by kernel_rfl) ?_ (fun h0 => ?_)
              · exact ⟨bc.drew, p0, p1, p2, p3, t0q, t1q, t2q⟩
              refine wpAnyH_take (i := 0) (v := ?_) rfl (by kernel_rfl) (by kernel_rfl) (by kernel_rfl) (fun _ _ _ h => h) (Or.inl ⟨by rfl, ?_⟩) h0 ?_
              rotate_left
              · (intro w hSw; (try dsimp only at hSw); go_simp); all_goals (with_reducible rfl)
              try simp only [List.getElem_toArray, List.getElem_cons_succ, List.getElem_cons_zero, Act.put, List.setIfInBounds_toArray, List.set_cons_zero, List.set_cons_succ]
              refine wpAnyH_take (i := 1) (v := ?_) rfl (by kernel_rfl) (by kernel_rfl) (by kernel_rfl) (fun _ _ _ h => h) (Or.inl ⟨by rfl, ?_⟩) h0 ?_
              rotate_left
              · (intro w hSw; (try dsimp only at hSw); go_simp); all_goals (with_reducible rfl)
              try simp only [List.getElem_toArray, List.getElem_cons_succ, List.getElem_cons_zero, Act.put, List.setIfInBounds_toArray, List.set_cons_zero, List.set_cons_succ]
              refine wpAnyH_take (i := 2) (v := ?_) rfl (by kernel_rfl) (by kernel_rfl) (by kernel_rfl) (fun _ _ _ h => h) (Or.inl ⟨by rfl, ?_⟩) h0 ?_
              rotate_left
              · (intro w hSw; (try dsimp only at hSw); go_simp); all_goals (with_reducible rfl)
              try simp only [List.getElem_toArray, List.getElem_cons_succ, List.getElem_cons_zero, Act.put, List.setIfInBounds_toArray, List.set_cons_zero, List.set_cons_succ]
              refine wpAnyH_take (i := 3) (v := ?_) rfl (by kernel_rfl) (by kernel_rfl) (by kernel_rfl) (fun _ _ _ h => h) (Or.inl ⟨by rfl, ?_⟩) h0 ?_
              rotate_left
              · (intro w hSw; (try dsimp only at hSw); go_simp); all_goals (with_reducible rfl)
              try simp only [List.getElem_toArray, List.getElem_cons_succ, List.getElem_cons_zero, Act.put, List.setIfInBounds_toArray, List.set_cons_zero, List.set_cons_succ]
              refine wpAnyH_take (i := 4) (v := ?_) rfl (by kernel_rfl) (by kernel_rfl) (by kernel_rfl) (fun _ _ _ h => h) (Or.inl ⟨by rfl, ?_⟩) h0 ?_
              rotate_left
              · (intro w hSw; (try dsimp only at hSw); go_simp); all_goals (with_reducible rfl)
              try simp only [List.getElem_toArray, List.getElem_cons_succ, List.getElem_cons_zero, Act.put, List.setIfInBounds_toArray, List.set_cons_zero, List.set_cons_succ]
              refine wpAnyH_take (i := 5) (v := ?_) rfl (by kernel_rfl) (by kernel_rfl) (by kernel_rfl) (fun _ _ _ h => h) (Or.inl ⟨by rfl, ?_⟩) h0 ?_
              rotate_left
              · (intro w hSw; (try dsimp only at hSw); go_simp); all_goals (with_reducible rfl)
              try simp only [List.getElem_toArray, List.getElem_cons_succ, List.getElem_cons_zero, Act.put, List.setIfInBounds_toArray, List.set_cons_zero, List.set_cons_succ]
              refine wpAnyH_take (i := 6) (v := ?_) rfl (by kernel_rfl) (by kernel_rfl) (by kernel_rfl) (fun _ _ _ h => h) (Or.inl ⟨by rfl, ?_⟩) h0 ?_
              rotate_left
              · (intro w hSw; (try dsimp only at hSw); go_simp); all_goals (with_reducible rfl)
              try simp only [List.getElem_toArray, List.getElem_cons_succ, List.getElem_cons_zero, Act.put, List.setIfInBounds_toArray, List.set_cons_zero, List.set_cons_succ]
              refine wpAnyH_take (i := 8) (v := ?_) rfl (by kernel_rfl) (by kernel_rfl) (by kernel_rfl) (fun _ _ _ h => h) (Or.inl ⟨by rfl, ?_⟩) h0 ?_
              rotate_left
              · (intro w hSw; (try dsimp only at hSw); go_simp); all_goals (with_reducible rfl)
              try simp only [List.getElem_toArray, List.getElem_cons_succ, List.getElem_cons_zero, Act.put, List.setIfInBounds_toArray, List.set_cons_zero, List.set_cons_succ]
              refine wpAnyH_take (i := 9) (v := ?_) rfl (by kernel_rfl) (by kernel_rfl) (by kernel_rfl) (fun _ _ _ h => h) (Or.inl ⟨by rfl, ?_⟩) h0 ?_
              rotate_left
              · (intro w hSw; (try dsimp only at hSw); go_simp); all_goals (with_reducible rfl)
              try simp only [List.getElem_toArray, List.getElem_cons_succ, List.getElem_cons_zero, Act.put, List.setIfInBounds_toArray, List.set_cons_zero, List.set_cons_succ]
              refine wpAnyH_take (i := 10) (v := ?_) rfl (by kernel_rfl) (by kernel_rfl) (by kernel_rfl) (fun _ _ _ h => h) (Or.inl ⟨by rfl, ?_⟩) h0 ?_
              rotate_left
              · (intro w hSw; (try dsimp only at hSw); go_simp); all_goals (with_reducible rfl)
              try simp only [List.getElem_toArray, List.getElem_cons_succ, List.getElem_cons_zero, Act.put, List.setIfInBounds_toArray, List.set_cons_zero, List.set_cons_succ]
              refine wpAnyH_take (i := 11) (v := ?_) rfl (by kernel_rfl) (by kernel_rfl) (by kernel_rfl) (fun _ _ _ h => h) (Or.inl ⟨by rfl, ?_⟩) h0 ?_
              rotate_left
              · (intro w hSw; (try dsimp only at hSw); go_simp); all_goals (with_reducible rfl)
              try simp only [List.getElem_toArray, List.getElem_cons_succ, List.getElem_cons_zero, Act.put, List.setIfInBounds_toArray, List.set_cons_zero, List.set_cons_succ]
              refine wpAnyH_take (i := 12) (v := ?_) rfl (by kernel_rfl) (by kernel_rfl) (by kernel_rfl) (fun _ _ _ h => h) (Or.inl ⟨by rfl, ?_⟩) h0 ?_
              rotate_left
              · (intro w hSw; (try dsimp only at hSw); go_simp); all_goals (with_reducible rfl)
              try simp only [List.getElem_toArray, List.getElem_cons_succ, List.getElem_cons_zero, Act.put, List.setIfInBounds_toArray, List.set_cons_zero, List.set_cons_succ]
              refine wpAnyH_take (i := 13) (v := ?_) rfl (by kernel_rfl) (by kernel_rfl) (by kernel_rfl) (fun _ _ _ h => h) (Or.inl ⟨by rfl, ?_⟩) h0 ?_
              rotate_left
              · (intro w hSw; (try dsimp only at hSw); go_simp); all_goals (with_reducible rfl)
              try simp only [List.getElem_toArray, List.getElem_cons_succ, List.getElem_cons_zero, Act.put, List.setIfInBounds_toArray, List.set_cons_zero, List.set_cons_succ]
              refine wpAnyH_take (i := 14) (v := ?_) rfl (by kernel_rfl) (by kernel_rfl) (by kernel_rfl) (fun _ _ _ h => h) (Or.inl ⟨by rfl, ?_⟩) h0 ?_
              rotate_left
              · (intro w hSw; (try dsimp only at hSw); go_simp); all_goals (with_reducible rfl)
              try simp only [List.getElem_toArray, List.getElem_cons_succ, List.getElem_cons_zero, Act.put, List.setIfInBounds_toArray, List.set_cons_zero, List.set_cons_succ]
              refine wpAnyH_ready (rs := [7]) (by kernel_rfl) (by simp) ?_
              refine AllReadyH.cons rfl (fun K hK => ?_) AllReadyH.nil
              go_simp
              go_at_call 24
              refine (allows_eq lp i t1 t2 out r1 F1.out _ _ _ _ _ _ _ bdi (LabAt.over h0.1 LPq.out) (IsInts.over h0.1 IOq.out)).mono ?_
              rintro e wq0 ⟨rfl, bq⟩
              go_wp2_with fail
              have bX := bel2 h0.1 bq
              refine hK.out _ _ ?_ (fun h1 => ?_)
              · exact ⟨bX, cellOver bX p0, cellOver bX p1, cellOver bX p2, cellOver bX p3, cellOver bX t0q, cellOver bX t1q, cellOver bX t2q⟩
              clear hK K h0 bX bq
              try simp only [List.getElem_toArray, List.getElem_cons_succ, List.getElem_cons_zero, Act.put, List.setIfInBounds_toArray, List.set_cons_zero, List.set_cons_succ]
              refine wpAnyH_ready (rs := [15]) (by kernel_rfl) (by simp) ?_
              refine AllReadyH.cons rfl (fun K hK => ?_) AllReadyH.nil
              go_simp
              go_at_call 25
              refine (refAllows_eq lp i t1 t2 out r1 F1.out _ _ _ _ _ _ _ (LabAt.over h1.1 LPq.out) (IsInts.over h1.1 IOq.out)).mono ?_
              rintro e wq1 ⟨rfl, bq⟩
              go_wp2_with fail
              have bX := bel2 h1.1 bq
              refine hK.out _ _ ?_ (fun h2 => ?_)
              · exact ⟨bX, cellOver bX p0, cellOver bX p1, cellOver bX p2, cellOver bX p3, cellOver bX t0q, cellOver bX t1q, cellOver bX t2q⟩
              clear hK K h1 bX bq
              try simp only [List.getElem_toArray, List.getElem_cons_succ, List.getElem_cons_zero, Act.put, List.setIfInBounds_toArray, List.set_cons_zero, List.set_cons_succ]
              refine wpAnyH_take (i := 16) (v := ?_) rfl (by kernel_rfl) (by kernel_rfl) (by kernel_rfl) (fun _ _ _ h => h) (Or.inl ⟨by rfl, ?_⟩) h2 ?_
              rotate_left
              · (intro w hSw; (try dsimp only at hSw); go_simp); all_goals (with_reducible rfl)
              try simp only [List.getElem_toArray, List.getElem_cons_succ, List.getElem_cons_zero, Act.put, List.setIfInBounds_toArray, List.set_cons_zero, List.set_cons_succ]
              refine wpAnyH_take (i := 17) (v := ?_) rfl (by kernel_rfl) (by kernel_rfl) (by kernel_rfl) (fun _ _ _ h => h) (Or.inl ⟨by rfl, ?_⟩) h2 ?_
              rotate_left
              · (intro w hSw; (try dsimp only at hSw); go_simp); all_goals (with_reducible rfl)
              try simp only [List.getElem_toArray, List.getElem_cons_succ, List.getElem_cons_zero, Act.put, List.setIfInBounds_toArray, List.set_cons_zero, List.set_cons_succ]
              refine wpAnyH_take (i := 18) (v := ?_) rfl (by kernel_rfl) (by kernel_rfl) (by kernel_rfl) (fun _ _ _ h => h) (Or.inl ⟨by rfl, ?_⟩) h2 ?_
              rotate_left
              · (intro w hSw; (try dsimp only at hSw); go_simp); all_goals (with_reducible rfl)
              try simp only [List.getElem_toArray, List.getElem_cons_succ, List.getElem_cons_zero, Act.put, List.setIfInBounds_toArray, List.set_cons_zero, List.set_cons_succ]
              refine wpAnyH_take (i := 19) (v := ?_) rfl (by kernel_rfl) (by kernel_rfl) (by kernel_rfl) (fun _ _ _ h => h) (Or.inl ⟨by rfl, ?_⟩) h2 ?_
              rotate_left
              · (intro w hSw; (try dsimp only at hSw); go_simp); all_goals (with_reducible rfl)
              try simp only [List.getElem_toArray, List.getElem_cons_succ, List.getElem_cons_zero, Act.put, List.setIfInBounds_toArray, List.set_cons_zero, List.set_cons_succ]
              refine wpAnyH_take (i := 20) (v := ?_) rfl (by kernel_rfl) (by kernel_rfl) (by kernel_rfl) (fun _ _ _ h => h) (Or.inl ⟨by rfl, ?_⟩) h2 ?_
              rotate_left
              · (intro w hSw; (try dsimp only at hSw); go_simp); all_goals (with_reducible rfl)
              try simp only [List.getElem_toArray, List.getElem_cons_succ, List.getElem_cons_zero, Act.put, List.setIfInBounds_toArray, List.set_cons_zero, List.set_cons_succ]
              refine wpAnyH_take (i := 21) (v := ?_) rfl (by kernel_rfl) (by kernel_rfl) (by kernel_rfl) (fun _ _ _ h => h) (Or.inl ⟨by rfl, ?_⟩) h2 ?_
              rotate_left
              · (intro w hSw; (try dsimp only at hSw); go_simp); all_goals (with_reducible rfl)
              try simp only [List.getElem_toArray, List.getElem_cons_succ, List.getElem_cons_zero, Act.put, List.setIfInBounds_toArray, List.set_cons_zero, List.set_cons_succ]
              refine wpAnyH_take (i := 22) (v := ?_) rfl (by kernel_rfl) (by kernel_rfl) (by kernel_rfl) (fun _ _ _ h => h) (Or.inl ⟨by rfl, ?_⟩) h2 ?_
              rotate_left
              · (intro w hSw; (try dsimp only at hSw); go_simp); all_goals (with_reducible rfl)
              try simp only [List.getElem_toArray, List.getElem_cons_succ, List.getElem_cons_zero, Act.put, List.setIfInBounds_toArray, List.set_cons_zero, List.set_cons_succ]
              refine wpAnyH_take (i := 23) (v := ?_) rfl (by kernel_rfl) (by kernel_rfl) (by kernel_rfl) (fun _ _ _ h => h) (Or.inl ⟨by rfl, ?_⟩) h2 ?_
              rotate_left
              · (intro w hSw; (try dsimp only at hSw); go_simp); all_goals (with_reducible rfl)
              try simp only [List.getElem_toArray, List.getElem_cons_succ, List.getElem_cons_zero, Act.put, List.setIfInBounds_toArray, List.set_cons_zero, List.set_cons_succ]
              refine wpAnyH_take (i := 24) (v := ?_) rfl (by kernel_rfl) (by kernel_rfl) (by kernel_rfl) (fun _ _ _ h => h) (Or.inl ⟨by rfl, ?_⟩) h2 ?_
              rotate_left
              · (intro w hSw; (try dsimp only at hSw); go_simp); all_goals (with_reducible rfl)
              try simp only [List.getElem_toArray, List.getElem_cons_succ, List.getElem_cons_zero, Act.put, List.setIfInBounds_toArray, List.set_cons_zero, List.set_cons_succ]
              refine wpAnyH_take (i := 26) (v := ?_) rfl (by kernel_rfl) (by kernel_rfl) (by kernel_rfl) (fun _ _ _ h => h) (Or.inl ⟨by rfl, ?_⟩) h2 ?_
              rotate_left
              · (intro w hSw; (try dsimp only at hSw); go_simp); all_goals (with_reducible rfl)
              try simp only [List.getElem_toArray, List.getElem_cons_succ, List.getElem_cons_zero, Act.put, List.setIfInBounds_toArray, List.set_cons_zero, List.set_cons_succ]
              refine wpAnyH_take (i := 27) (v := ?_) rfl (by kernel_rfl) (by kernel_rfl) (by kernel_rfl) (fun _ _ _ h => h) (Or.inl ⟨by rfl, ?_⟩) h2 ?_
              rotate_left
              · (intro w hSw; (try dsimp only at hSw); go_simp); all_goals (with_reducible rfl)
              try simp only [List.getElem_toArray, List.getElem_cons_succ, List.getElem_cons_zero, Act.put, List.setIfInBounds_toArray, List.set_cons_zero, List.set_cons_succ]
              refine wpAnyH_take (i := 28) (v := ?_) rfl (by kernel_rfl) (by kernel_rfl) (by kernel_rfl) (fun _ _ _ h => h) (Or.inl ⟨by rfl, ?_⟩) h2 ?_
              rotate_left
              · (intro w hSw; (try dsimp only at hSw); go_simp); all_goals (with_reducible rfl)
              try simp only [List.getElem_toArray, List.getElem_cons_succ, List.getElem_cons_zero, Act.put, List.setIfInBounds_toArray, List.set_cons_zero, List.set_cons_succ]
              refine wpAnyH_take (i := 29) (v := ?_) rfl (by kernel_rfl) (by kernel_rfl) (by kernel_rfl) (fun _ _ _ h => h) (Or.inl ⟨by rfl, ?_⟩) h2 ?_
              rotate_left
              · (intro w hSw; (try dsimp only at hSw); go_simp); all_goals (with_reducible rfl)
              try simp only [List.getElem_toArray, List.getElem_cons_succ, List.getElem_cons_zero, Act.put, List.setIfInBounds_toArray, List.set_cons_zero, List.set_cons_succ]
              refine wpAnyH_take (i := 30) (v := ?_) rfl (by kernel_rfl) (by kernel_rfl) (by kernel_rfl) (fun _ _ _ h => h) (Or.inl ⟨by rfl, ?_⟩) h2 ?_
              rotate_left
              · (intro w hSw; (try dsimp only at hSw); go_simp); all_goals (with_reducible rfl)
              try simp only [List.getElem_toArray, List.getElem_cons_succ, List.getElem_cons_zero, Act.put, List.setIfInBounds_toArray, List.set_cons_zero, List.set_cons_succ]
              refine wpAnyH_take (i := 31) (v := ?_) rfl (by kernel_rfl) (by kernel_rfl) (by kernel_rfl) (fun _ _ _ h => h) (Or.inl ⟨by rfl, ?_⟩) h2 ?_
              rotate_left
              · (intro w hSw; (try dsimp only at hSw); go_simp); all_goals (with_reducible rfl)
              try simp only [List.getElem_toArray, List.getElem_cons_succ, List.getElem_cons_zero, Act.put, List.setIfInBounds_toArray, List.set_cons_zero, List.set_cons_succ]
              refine wpAnyH_take (i := 32) (v := ?_) rfl (by kernel_rfl) (by kernel_rfl) (by kernel_rfl) (fun _ _ _ h => h) (Or.inl ⟨by rfl, ?_⟩) h2 ?_
              rotate_left
              · (intro w hSw; (try dsimp only at hSw); go_simp); all_goals (with_reducible rfl)
              try simp only [List.getElem_toArray, List.getElem_cons_succ, List.getElem_cons_zero, Act.put, List.setIfInBounds_toArray, List.set_cons_zero, List.set_cons_succ]
              refine wpAnyH_ready (rs := [25]) (by kernel_rfl) (by simp) ?_
              refine AllReadyH.cons rfl (fun K hK => ?_) AllReadyH.nil
              go_simp
              go_at_call 24
              refine (allows_eq lp i lp.u lp.ap out r2 F2.out _ _ _ _ _ _ _ bdi (LabAt.over h2.1 LPq.out) (IsInts.over h2.1 IOq.out)).mono ?_
              rintro e wq2 ⟨rfl, bq⟩
              go_wp2_with fail
              have bX := bel2 h2.1 bq
              refine hK.out _ _ ?_ (fun h3 => ?_)
              · exact ⟨bX, cellOver bX p0, cellOver bX p1, cellOver bX p2, cellOver bX p3, cellOver bX t0q, cellOver bX t1q, cellOver bX t2q⟩
              clear hK K h2 bX bq
              try simp only [List.getElem_toArray, List.getElem_cons_succ, List.getElem_cons_zero, Act.put, List.setIfInBounds_toArray, List.set_cons_zero, List.set_cons_succ]
              refine wpAnyH_ready (rs := [33]) (by kernel_rfl) (by simp) ?_
              refine AllReadyH.cons rfl (fun K hK => ?_) AllReadyH.nil
              go_simp
              go_at_call 25
              refine (refAllows_eq lp i lp.u lp.ap out r2 F2.out _ _ _ _ _ _ _ (LabAt.over h3.1 LPq.out) (IsInts.over h3.1 IOq.out)).mono ?_
              rintro e wq3 ⟨rfl, bq⟩
              go_wp2_with fail
              have bX := bel2 h3.1 bq
              refine hK.out _ _ ?_ (fun h4 => ?_)
              · exact ⟨bX, cellOver bX p0, cellOver bX p1, cellOver bX p2, cellOver bX p3, cellOver bX t0q, cellOver bX t1q, cellOver bX t2q⟩
              clear hK K h3 bX bq
              try simp only [List.getElem_toArray, List.getElem_cons_succ, List.getElem_cons_zero, Act.put, List.setIfInBounds_toArray, List.set_cons_zero, List.set_cons_succ]
              refine wpAnyH_take (i := 34) (v := ?_) rfl (by kernel_rfl) (by kernel_rfl) (by kernel_rfl) (fun _ _ _ h => h) (Or.inl ⟨by rfl, ?_⟩) h4 ?_
              rotate_left
              · (intro w hSw; (try dsimp only at hSw); go_simp); all_goals (with_reducible rfl)
              try simp only [List.getElem_toArray, List.getElem_cons_succ, List.getElem_cons_zero, Act.put, List.setIfInBounds_toArray, List.set_cons_zero, List.set_cons_succ]
              refine wpAnyH_take (i := 35) (v := ?_) rfl (by kernel_rfl) (by kernel_rfl) (by kernel_rfl) (fun _ _ _ h => h) (Or.inl ⟨by rfl, ?_⟩) h4 ?_
              rotate_left
              · (intro w hSw; (try dsimp only at hSw); go_simp); all_goals (with_reducible rfl)
              try simp only [List.getElem_toArray, List.getElem_cons_succ, List.getElem_cons_zero, Act.put, List.setIfInBounds_toArray, List.set_cons_zero, List.set_cons_succ]
              refine wpAnyH_done (by kernel_rfl) ?_ _
              have bz := bel2 bi h4.1
              clear h4 ne1 ne2 p0 p1 p2 p3 t0q t1q t2q
              go_wp2
              exact ⟨⟨i + 1, by omega, by omega, rfl, bz⟩, by simp [intOf]; omega⟩
            · obtain rfl : i = 5 := by omega
              have LPq := Lib.hid (LP.out.over b3)
              have IOq := Lib.hid (IO.out.over bi)
              obtain ⟨r1, hr1⟩ : ∃ r, allB lp t0 t1 out t2 = r := ⟨_, rfl⟩
              have F1 := Lib.hid hr1
              have ne1 : (r1 != r1) = false := by simp
              clear hr1
              go_wp2_with fail
              have bc := Below.refl wr.heap.size wr
              refine wp_region_held_drew (S := fun w' => Below wr.heap.size wr w' ∧ w'.cell? ⟨gp, 0, none⟩ = some (.int .i64 lp.u) ∧ w'.cell? ⟨gp, 1, none⟩ = some (.slice ap np cp) ∧ w'.cell? ⟨gp, 2, none⟩ = some (.int .i64 lp.ap) ∧ w'.cell? ⟨gp, 3, none⟩ = some (.int .i64 lp.d) ∧ w'.cell? ⟨w.heap.size + 1, 0, none⟩ = some (.int .i64 t0) ∧ w'.cell? ⟨w.heap.size + 1, 1, none⟩ = some (.int .i64 t1) ∧ w'.cell? ⟨w.heap.size + 1, 2, none⟩ = some (.int .i64 t2)) (by kernel_rfl) ?_ (fun h0 => ?_)
              · exact ⟨bc.drew, p0, p1, p2, p3, t0q, t1q, t2q⟩
              refine wpAnyH_take (i := 0) (v := ?_) rfl (by kernel_rfl) (by kernel_rfl) (by kernel_rfl) (fun _ _ _ h => h) (Or.inl ⟨by rfl, ?_⟩) h0 ?_
              rotate_left
              · (intro w hSw; (try dsimp only at hSw); go_simp); all_goals (with_reducible rfl)
              try simp only [List.getElem_toArray, List.getElem_cons_succ, List.getElem_cons_zero, Act.put, List.setIfInBounds_toArray, List.set_cons_zero, List.set_cons_succ]
              refine wpAnyH_take (i := 1) (v := ?_) rfl (by kernel_rfl) (by kernel_rfl) (by kernel_rfl) (fun _ _ _ h => h) (Or.inl ⟨by rfl, ?_⟩) h0 ?_
              rotate_left
              · (intro w hSw; (try dsimp only at hSw); go_simp); all_goals (with_reducible rfl)
              try simp only [List.getElem_toArray, List.getElem_cons_succ, List.getElem_cons_zero, Act.put, List.setIfInBounds_toArray, List.set_cons_zero, List.set_cons_succ]
              refine wpAnyH_take (i := 2) (v := ?_) rfl (by kernel_rfl) (by kernel_rfl) (by kernel_rfl) (fun _ _ _ h => h) (Or.inl ⟨by rfl, ?_⟩) h0 ?_
              rotate_left
              · (intro w hSw; (try dsimp only at hSw); go_simp); all_goals (with_reducible rfl)
              try simp only [List.getElem_toArray, List.getElem_cons_succ, List.getElem_cons_zero, Act.put, List.setIfInBounds_toArray, List.set_cons_zero, List.set_cons_succ]
              refine wpAnyH_take (i := 3) (v := ?_) rfl (by kernel_rfl) (by kernel_rfl) (by kernel_rfl) (fun _ _ _ h => h) (Or.inl ⟨by rfl, ?_⟩) h0 ?_
              rotate_left
              · (intro w hSw; (try dsimp only at hSw); go_simp); all_goals (with_reducible rfl)
              try simp only [List.getElem_toArray, List.getElem_cons_succ, List.getElem_cons_zero, Act.put, List.setIfInBounds_toArray, List.set_cons_zero, List.set_cons_succ]
              refine wpAnyH_take (i := 4) (v := ?_) rfl (by kernel_rfl) (by kernel_rfl) (by kernel_rfl) (fun _ _ _ h => h) (Or.inl ⟨by rfl, ?_⟩) h0 ?_
              rotate_left
              · (intro w hSw; (try dsimp only at hSw); go_simp); all_goals (with_reducible rfl)
              try simp only [List.getElem_toArray, List.getElem_cons_succ, List.getElem_cons_zero, Act.put, List.setIfInBounds_toArray, List.set_cons_zero, List.set_cons_succ]
              refine wpAnyH_take (i := 5) (v := ?_) rfl (by kernel_rfl) (by kernel_rfl) (by kernel_rfl) (fun _ _ _ h => h) (Or.inl ⟨by rfl, ?_⟩) h0 ?_
              rotate_left
              · (intro w hSw; (try dsimp only at hSw); go_simp); all_goals (with_reducible rfl)
              try simp only [List.getElem_toArray, List.getElem_cons_succ, List.getElem_cons_zero, Act.put, List.setIfInBounds_toArray, List.set_cons_zero, List.set_cons_succ]
              refine wpAnyH_take (i := 6) (v := ?_) rfl (by kernel_rfl) (by kernel_rfl) (by kernel_rfl) (fun _ _ _ h => h) (Or.inl ⟨by rfl, ?_⟩) h0 ?_
              rotate_left
              · (intro w hSw; (try dsimp only at hSw); go_simp); all_goals (with_reducible rfl)
              try simp only [List.getElem_toArray, List.getElem_cons_succ, List.getElem_cons_zero, Act.put, List.setIfInBounds_toArray, List.set_cons_zero, List.set_cons_succ]
              refine wpAnyH_take (i := 7) (v := ?_) rfl (by kernel_rfl) (by kernel_rfl) (by kernel_rfl) (fun _ _ _ h => h) (Or.inl ⟨by rfl, ?_⟩) h0 ?_
              rotate_left
              · (intro w hSw; (try dsimp only at hSw); go_simp); all_goals (with_reducible rfl)
              try simp only [List.getElem_toArray, List.getElem_cons_succ, List.getElem_cons_zero, Act.put, List.setIfInBounds_toArray, List.set_cons_zero, List.set_cons_succ]
              refine wpAnyH_take (i := 9) (v := ?_) rfl (by kernel_rfl) (by kernel_rfl) (by kernel_rfl) (fun _ _ _ h => h) (Or.inl ⟨by rfl, ?_⟩) h0 ?_
              rotate_left
              · (intro w hSw; (try dsimp only at hSw); go_simp); all_goals (with_reducible rfl)
              try simp only [List.getElem_toArray, List.getElem_cons_succ, List.getElem_cons_zero, Act.put, List.setIfInBounds_toArray, List.set_cons_zero, List.set_cons_succ]
              refine wpAnyH_take (i := 10) (v := ?_) rfl (by kernel_rfl) (by kernel_rfl) (by kernel_rfl) (fun _ _ _ h => h) (Or.inl ⟨by rfl, ?_⟩) h0 ?_
              rotate_left
              · (intro w hSw; (try dsimp only at hSw); go_simp); all_goals (with_reducible rfl)
              try simp only [List.getElem_toArray, List.getElem_cons_succ, List.getElem_cons_zero, Act.put, List.setIfInBounds_toArray, List.set_cons_zero, List.set_cons_succ]
              refine wpAnyH_take (i := 11) (v := ?_) rfl (by kernel_rfl) (by kernel_rfl) (by kernel_rfl) (fun _ _ _ h => h) (Or.inl ⟨by rfl, ?_⟩) h0 ?_
              rotate_left
              · (intro w hSw; (try dsimp only at hSw); go_simp); all_goals (with_reducible rfl)
              try simp only [List.getElem_toArray, List.getElem_cons_succ, List.getElem_cons_zero, Act.put, List.setIfInBounds_toArray, List.set_cons_zero, List.set_cons_succ]
              refine wpAnyH_take (i := 12) (v := ?_) rfl (by kernel_rfl) (by kernel_rfl) (by kernel_rfl) (fun _ _ _ h => h) (Or.inl ⟨by rfl, ?_⟩) h0 ?_
              rotate_left
              · (intro w hSw; (try dsimp only at hSw); go_simp); all_goals (with_reducible rfl)
              try simp only [List.getElem_toArray, List.getElem_cons_succ, List.getElem_cons_zero, Act.put, List.setIfInBounds_toArray, List.set_cons_zero, List.set_cons_succ]
              refine wpAnyH_take (i := 13) (v := ?_) rfl (by kernel_rfl) (by kernel_rfl) (by kernel_rfl) (fun _ _ _ h => h) (Or.inl ⟨by rfl, ?_⟩) h0 ?_
              rotate_left
              · (intro w hSw; (try dsimp only at hSw); go_simp); all_goals (with_reducible rfl)
              try simp only [List.getElem_toArray, List.getElem_cons_succ, List.getElem_cons_zero, Act.put, List.setIfInBounds_toArray, List.set_cons_zero, List.set_cons_succ]
              refine wpAnyH_take (i := 14) (v := ?_) rfl (by kernel_rfl) (by kernel_rfl) (by kernel_rfl) (fun _ _ _ h => h) (Or.inl ⟨by rfl, ?_⟩) h0 ?_
              rotate_left
              · (intro w hSw; (try dsimp only at hSw); go_simp); all_goals (with_reducible rfl)
              try simp only [List.getElem_toArray, List.getElem_cons_succ, List.getElem_cons_zero, Act.put, List.setIfInBounds_toArray, List.set_cons_zero, List.set_cons_succ]
              refine wpAnyH_take (i := 15) (v := ?_) rfl (by kernel_rfl) (by kernel_rfl) (by kernel_rfl) (fun _ _ _ h => h) (Or.inl ⟨by rfl, ?_⟩) h0 ?_
              rotate_left
              · (intro w hSw; (try dsimp only at hSw); go_simp); all_goals (with_reducible rfl)
              try simp only [List.getElem_toArray, List.getElem_cons_succ, List.getElem_cons_zero, Act.put, List.setIfInBounds_toArray, List.set_cons_zero, List.set_cons_succ]
              refine wpAnyH_take (i := 16) (v := ?_) rfl (by kernel_rfl) (by kernel_rfl) (by kernel_rfl) (fun _ _ _ h => h) (Or.inl ⟨by rfl, ?_⟩) h0 ?_
              rotate_left
              · (intro w hSw; (try dsimp only at hSw); go_simp); all_goals (with_reducible rfl)
              try simp only [List.getElem_toArray, List.getElem_cons_succ, List.getElem_cons_zero, Act.put, List.setIfInBounds_toArray, List.set_cons_zero, List.set_cons_succ]
              refine wpAnyH_ready (rs := [8]) (by kernel_rfl) (by simp) ?_
              refine AllReadyH.cons rfl (fun K hK => ?_) AllReadyH.nil
              go_simp
              go_at_call 24
              refine (allows_eq lp t0 t1 t2 out r1 F1.out _ _ _ _ _ _ _ bt0 (LabAt.over h0.1 LPq.out) (IsInts.over h0.1 IOq.out)).mono ?_
              rintro e wq0 ⟨rfl, bq⟩
              go_wp2_with fail
              have bX := bel2 h0.1 bq
              refine hK.out _ _ ?_ (fun h1 => ?_)
              · exact ⟨bX, cellOver bX p0, cellOver bX p1, cellOver bX p2, cellOver bX p3, cellOver bX t0q, cellOver bX t1q, cellOver bX t2q⟩
              clear hK K h0 bX bq
              try simp only [List.getElem_toArray, List.getElem_cons_succ, List.getElem_cons_zero, Act.put, List.setIfInBounds_toArray, List.set_cons_zero, List.set_cons_succ]
              refine wpAnyH_ready (rs := [17]) (by kernel_rfl) (by simp) ?_
              refine AllReadyH.cons rfl (fun K hK => ?_) AllReadyH.nil
              go_simp
              go_at_call 25
              refine (refAllows_eq lp t0 t1 t2 out r1 F1.out _ _ _ _ _ _ _ (LabAt.over h1.1 LPq.out) (IsInts.over h1.1 IOq.out)).mono ?_
              rintro e wq1 ⟨rfl, bq⟩
              go_wp2_with fail
              have bX := bel2 h1.1 bq
              refine hK.out _ _ ?_ (fun h2 => ?_)
              · exact ⟨bX, cellOver bX p0, cellOver bX p1, cellOver bX p2, cellOver bX p3, cellOver bX t0q, cellOver bX t1q, cellOver bX t2q⟩
              clear hK K h1 bX bq
              try simp only [List.getElem_toArray, List.getElem_cons_succ, List.getElem_cons_zero, Act.put, List.setIfInBounds_toArray, List.set_cons_zero, List.set_cons_succ]
              refine wpAnyH_take (i := 18) (v := ?_) rfl (by kernel_rfl) (by kernel_rfl) (by kernel_rfl) (fun _ _ _ h => h) (Or.inl ⟨by rfl, ?_⟩) h2 ?_
              rotate_left
              · (intro w hSw; (try dsimp only at hSw); go_simp); all_goals (with_reducible rfl)
              try simp only [List.getElem_toArray, List.getElem_cons_succ, List.getElem_cons_zero, Act.put, List.setIfInBounds_toArray, List.set_cons_zero, List.set_cons_succ]
              refine wpAnyH_done (by kernel_rfl) ?_ _
              have bz := bel2 b3 h2.1
              clear h2 ne1 p0 p1 p2 p3 t0q t1q t2q
              go_wp2
              exact ⟨⟨j + 1, by omega, by go_num, bz⟩, by simp [intOf]; omega⟩
        · obtain rfl : j = 4 := by omega
          have bz := bel2 b1 bj
          go_wp2
          exact ⟨⟨k + 1, by omega, by go_num, bz⟩, by simp [intOf]; omega⟩
    · obtain rfl : k = 3 := by omega
      have bz := bel2 bw br
      go_wp2
      go_ret
      exact ⟨rfl, bz⟩
end Go.Proofs.Ythpginepnleokaa
