import Derived.Test.YthpginepnleokaaRef02
import Derived.Deep.RegionHeld3
import Derived.RegionTactic
namespace Go.Proofs.Ythpginepnleokaa
open Go.RowKit
set_option linter.unusedSimpArgs false
set_option linter.unusedVariables false
set_option linter.unnecessarySimpa false
theorem sub_no {a b : Int} {c : Nat} (hc : c < 4) (h1 : bitB a c = true) (h2 : bitB b c = false) : subD a b = false := by
  cases e : subD a b
  · rfl
  · have := (subD_iff a b).1 e c hc h1
    rw [h2] at this; cases this
theorem sub_yes {a b : Int} (h : ∀ c, c < 4 → bitB a c = true → bitB b c = true) : subD a b = true := (subD_iff a b).2 h
theorem leB_parts (l m : Lab) : leB l m = (decide (l.u ≤ m.u) && (insB l.af m.af && (decide (l.ap ≤ m.ap) && subD l.d m.d))) := rfl
set_option maxRecDepth 100000 in
set_option maxHeartbeats 8000000 in
theorem refLeq_any (l m : Lab) (a : Option Addr) (n c : Nat) (a2 : Option Addr) (n2 c2 : Nat) (w : World) (h : LabAt w a n c l) (h2 : LabAt w a2 n2 c2 m) :
    Calls Try.prog 21 #[.agg #[.int .i64 l.u, .slice a n c, .int .i64 l.ap, .int .i64 l.d], .agg #[.int .i64 m.u, .slice a2 n2 c2, .int .i64 m.ap, .int .i64 m.d]] w fun e w' => e = .returned (.bool (leqB l m)) ∧ Below w.heap.size w w' := by
  obtain ⟨hb0, hb1, bw⟩ := two_allocs w (.cells #[.int .i64 l.u, .slice a n c, .int .i64 l.ap, .int .i64 l.d] 26) (.cells #[.int .i64 m.u, .slice a2 n2 c2, .int .i64 m.ap, .int .i64 m.d] 26)
  have HA := Lib.hid hb0
  have HB := Lib.hid hb1
  have LA := Lib.hid (h.over bw)
  have LB := Lib.hid (h2.over bw)
  have HV := Lib.hid (show leqB l m = (validB l && (validB m && leB l m)) from rfl)
  have HP := Lib.hid (leB_parts l m)
  have O1 := Lib.hid (fun (e : validB l = true) => (validB_iff l).1 e)
  have O2 := Lib.hid (fun (e : validB m = true) => (validB_iff m).1 e)
  have K1 := Lib.hid (fun W hh => refValid_any l a n c W hh)
  have K2 := Lib.hid (fun W hh => refValid_any m a2 n2 c2 W hh)
  clear hb0 hb1 h h2
  cases e1 : validB l
  · rw [e1] at K1 HV
    clear e1 O1
    generalize validB m = b2 at *
    go_enter Try.func21, Try.ntmps21
    obtain ⟨haq0, haq1, haq2, haq3⟩ := cells4 HA.out
    obtain ⟨hbq0, hbq1, hbq2, hbq3⟩ := cells4 HB.out
    go_wp2_with fail
    refine (K1.out _ LA.out).mono ?_
    rintro e w1 ⟨rfl, bq⟩
    replace HA := Lib.hid (blockOver bq HA.out)
    replace HB := Lib.hid (blockOver bq HB.out)
    replace LA := Lib.hid (LabAt.over bq LA.out)
    replace LB := Lib.hid (LabAt.over bq LB.out)
    replace bw := bel2 bw bq
    clear bq haq0 haq1 haq2 haq3 hbq0 hbq1 hbq2 hbq3
    obtain ⟨haq0, haq1, haq2, haq3⟩ := cells4 HA.out
    obtain ⟨hbq0, hbq1, hbq2, hbq3⟩ := cells4 HB.out
    go_wp2_with fail
    refine (K2.out _ LB.out).mono ?_
    rintro e w2 ⟨rfl, bq⟩
    replace HA := Lib.hid (blockOver bq HA.out)
    replace HB := Lib.hid (blockOver bq HB.out)
    replace LA := Lib.hid (LabAt.over bq LA.out)
    replace LB := Lib.hid (LabAt.over bq LB.out)
    replace bw := bel2 bw bq
    clear bq haq0 haq1 haq2 haq3 hbq0 hbq1 hbq2 hbq3
    go_wp2
    go_ret
    exact ⟨ret_bool (by rw [HV.out]; rfl), bw⟩
  cases e2 : validB m
  · rw [e1] at K1 HV
    rw [e2] at K2 HV
    clear e1 e2 O1 O2
    go_enter Try.func21, Try.ntmps21
    obtain ⟨haq0, haq1, haq2, haq3⟩ := cells4 HA.out
    obtain ⟨hbq0, hbq1, hbq2, hbq3⟩ := cells4 HB.out
    go_wp2_with fail
    refine (K1.out _ LA.out).mono ?_
    rintro e w1 ⟨rfl, bq⟩
    replace HA := Lib.hid (blockOver bq HA.out)
    replace HB := Lib.hid (blockOver bq HB.out)
    replace LA := Lib.hid (LabAt.over bq LA.out)
    replace LB := Lib.hid (LabAt.over bq LB.out)
    replace bw := bel2 bw bq
    clear bq haq0 haq1 haq2 haq3 hbq0 hbq1 hbq2 hbq3
    obtain ⟨haq0, haq1, haq2, haq3⟩ := cells4 HA.out
    obtain ⟨hbq0, hbq1, hbq2, hbq3⟩ := cells4 HB.out
    go_wp2_with fail
    refine (K2.out _ LB.out).mono ?_
    rintro e w2 ⟨rfl, bq⟩
    replace HA := Lib.hid (blockOver bq HA.out)
    replace HB := Lib.hid (blockOver bq HB.out)
    replace LA := Lib.hid (LabAt.over bq LA.out)
    replace LB := Lib.hid (LabAt.over bq LB.out)
    replace bw := bel2 bw bq
    clear bq haq0 haq1 haq2 haq3 hbq0 hbq1 hbq2 hbq3
    go_wp2
    go_ret
    exact ⟨ret_bool (by rw [HV.out]; rfl), bw⟩
  have o1 := O1.out e1
  have o2 := O2.out e2
  obtain ⟨-, -, -, -, d10, d11⟩ := o1
  obtain ⟨-, -, -, -, d20, d21⟩ := o2
  rw [e1] at K1 HV
  rw [e2] at K2 HV
  clear e1 e2 O1 O2
  by_cases h1 : l.u ≤ m.u
  · by_cases h2 : l.ap ≤ m.ap
    · go_enter Try.func21, Try.ntmps21
      obtain ⟨haq0, haq1, haq2, haq3⟩ := cells4 HA.out
      obtain ⟨hbq0, hbq1, hbq2, hbq3⟩ := cells4 HB.out
      go_wp2_with fail
      refine (K1.out _ LA.out).mono ?_
      rintro e w1 ⟨rfl, bq⟩
      replace HA := Lib.hid (blockOver bq HA.out)
      replace HB := Lib.hid (blockOver bq HB.out)
      replace LA := Lib.hid (LabAt.over bq LA.out)
      replace LB := Lib.hid (LabAt.over bq LB.out)
      replace bw := bel2 bw bq
      clear bq haq0 haq1 haq2 haq3 hbq0 hbq1 hbq2 hbq3
      obtain ⟨haq0, haq1, haq2, haq3⟩ := cells4 HA.out
      obtain ⟨hbq0, hbq1, hbq2, hbq3⟩ := cells4 HB.out
      go_wp2_with fail
      refine (K2.out _ LB.out).mono ?_
      rintro e w2 ⟨rfl, bq⟩
      replace HA := Lib.hid (blockOver bq HA.out)
      replace HB := Lib.hid (blockOver bq HB.out)
      replace LA := Lib.hid (LabAt.over bq LA.out)
      replace LB := Lib.hid (LabAt.over bq LB.out)
      replace bw := bel2 bw bq
      clear bq haq0 haq1 haq2 haq3 hbq0 hbq1 hbq2 hbq3
      obtain ⟨p0, p1, p2, p3⟩ := cells4 HA.out
      obtain ⟨q0, q1, q2, q3⟩ := cells4 HB.out
      go_wp2_with fail
      clear p0 p1 p2 p3 q0 q1 q2 q3
      go_loopw [7, 8] (fun i _ wr => ∃ k : Nat, k ≤ n ∧ i = .int .i64 k ∧ Hid (∀ j, j < k → hasB m.af (l.af.getD j 0) = true) ∧ Below w2.heap.size w2 wr) (fun i _ _ => n - (intOf i).toNat)
      case atStart => exact ⟨0, Nat.zero_le _, rfl, Lib.hid (fun j hj => by omega), Below.refl _ _⟩
      case round =>
        obtain ⟨k, hk, rfl, hall, br⟩ := hrel
        obtain ⟨p0, p1, p2, p3⟩ := cells4 (blockOver br HA.out)
        obtain ⟨q0, q1, q2, q3⟩ := cells4 (blockOver br HB.out)
        have hln := LA.out.1.1
        have hcm := LA.out.1.2.2.1
        have hnc := LA.out.1.2.1
        unfold maxLen at hcm
        have HLN := Lib.hid hln
        clear hln
        by_cases hlt : k < n
        · obtain ⟨b, off, rfl, cz⟩ := LA.out.1.2.2.2.2.resolve_left (by omega)
          have hcell := cellOver br (cz k hlt)
          have HX := Lib.hid (fun h => all_no (zs := l.af) (out := m.af) (i := k) (by rw [HLN.out]; exact hlt) h)
          have HS : Hid (hasB m.af (l.af.getD k 0) = true → ∀ j, j < k + 1 → hasB m.af (l.af.getD j 0) = true) := Lib.hid (fun hz j hj => by
            by_cases e : j = k
            · rw [e]; exact hz
            · exact hall.out j (by omega))
          clear cz
          generalize l.af.getD k 0 = z at *
          have hltn : (k : Int) < n := by omega
          have kk0 : (0 : Int) ≤ k := by omega
          have KH := Lib.hid (fun W hh => has_any a2 n2 c2 m.af z W hh)
          go_wp2_with fail
          cases e : hasB m.af z
          · rw [e] at KH
            have FE := Lib.hid e
            clear e
            have bc := Below.refl wr.heap.size wr
            refine wp_region_held_drew (S := fun w' => Below wr.heap.size wr w' ∧ w'.cell? ⟨w.heap.size, 0, none⟩ = some (.int .i64 l.u) ∧ w'.cell? ⟨w.heap.size, 1, none⟩ = some (.slice (some ⟨b, off, none⟩) n c) ∧ w'.cell? ⟨w.heap.size, 2, none⟩ = some (.int .i64 l.ap) ∧ w'.cell? ⟨w.heap.size, 3, none⟩ = some (.int .i64 l.d) ∧ w'.cell? ⟨w.heap.size + 1, 0, none⟩ = some (.int .i64 m.u) ∧ w'.cell? ⟨w.heap.size + 1, 1, none⟩ = some (.slice a2 n2 c2) ∧ w'.cell? ⟨w.heap.size + 1, 2, none⟩ = some (.int .i64 m.ap) ∧ w'.cell? ⟨w.heap.size + 1, 3, none⟩ = some (.int .i64 m.d) ∧ w'.cell? ⟨b, off + k, none⟩ = some (.int .i64 z)) (by kernel_rfl) ?_ (fun h0 => ?_)
            · exact ⟨bc.drew, p0, p1, p2, p3, q0, q1, q2, q3, hcell⟩
            refine wpAnyH_take (i := 0) (v := ?_) rfl (by kernel_rfl) (by kernel_rfl) (by kernel_rfl) (fun _ _ _ h => h) (Or.inl ⟨by rfl, ?_⟩) h0 ?_
            rotate_left
            · (intro w hSw; (try dsimp only at hSw); go_simp); all_goals (with_reducible rfl)
            try simp only [List.getElem_toArray, List.getElem_cons_succ, List.getElem_cons_zero, Act.put, List.setIfInBounds_toArray, List.set_cons_zero, List.set_cons_succ]
            refine wpAnyH_take (i := 1) (v := ?_) rfl (by kernel_rfl) (by kernel_rfl) (by kernel_rfl) (fun _ _ _ h => h) (Or.inl ⟨by rfl, ?_⟩) h0 ?_
            rotate_left
            · (intro w hSw; (try dsimp only at hSw); go_simp); all_goals (with_reducible rfl)
            try simp only [List.getElem_toArray, List.getElem_cons_succ, List.getElem_cons_zero, Act.put, List.setIfInBounds_toArray, List.set_cons_zero, List.set_cons_succ]
            refine wpAnyH_take (i := 2) (v := ?_) rfl (by kernel_rfl) (by kernel_rfl) (by kernel_rfl) (fun _ _ _ h => h) (Or.inl ⟨by rfl, ?_⟩) h0 ?_
            rotate_left
            · (intro w hSw; (try dsimp only at hSw); go_simp); all_goals (with_reducible rfl)
            try simp only [List.getElem_toArray, List.getElem_cons_succ, List.getElem_cons_zero, Act.put, List.setIfInBounds_toArray, List.set_cons_zero, List.set_cons_succ]
            refine wpAnyH_take (i := 3) (v := ?_) rfl (by kernel_rfl) (by kernel_rfl) (by kernel_rfl) (fun _ _ _ h => h) (Or.inl ⟨by rfl, ?_⟩) h0 ?_
            rotate_left
            · (intro w hSw; (try dsimp only at hSw); go_simp); all_goals (with_reducible rfl)
            try simp only [List.getElem_toArray, List.getElem_cons_succ, List.getElem_cons_zero, Act.put, List.setIfInBounds_toArray, List.set_cons_zero, List.set_cons_succ]
            refine wpAnyH_take (i := 4) (v := ?_) rfl (by kernel_rfl) (by kernel_rfl) (by kernel_rfl) (fun _ _ _ h => h) (Or.inl ⟨by rfl, ?_⟩) h0 ?_
            rotate_left
            · (intro w hSw; (try dsimp only at hSw); go_simp); all_goals (with_reducible rfl)
            try simp only [List.getElem_toArray, List.getElem_cons_succ, List.getElem_cons_zero, Act.put, List.setIfInBounds_toArray, List.set_cons_zero, List.set_cons_succ]
            refine wpAnyH_take (i := 5) (v := ?_) rfl (by kernel_rfl) (by kernel_rfl) (by kernel_rfl) (fun _ _ _ h => h) (Or.inl ⟨by rfl, ?_⟩) h0 ?_
            rotate_left
            · (intro w hSw; (try dsimp only at hSw); go_simp); all_goals (with_reducible rfl)
            try simp only [List.getElem_toArray, List.getElem_cons_succ, List.getElem_cons_zero, Act.put, List.setIfInBounds_toArray, List.set_cons_zero, List.set_cons_succ]
            refine wpAnyH_take (i := 6) (v := ?_) rfl (by kernel_rfl) (by kernel_rfl) (by kernel_rfl) (fun _ _ _ h => h) (Or.inl ⟨by rfl, ?_⟩) h0 ?_
            rotate_left
            · (intro w hSw; (try dsimp only at hSw); go_simp); all_goals (with_reducible rfl)
            try simp only [List.getElem_toArray, List.getElem_cons_succ, List.getElem_cons_zero, Act.put, List.setIfInBounds_toArray, List.set_cons_zero, List.set_cons_succ]
            refine wpAnyH_ready (rs := [7]) (by kernel_rfl) (by simp) ?_
            refine AllReadyH.cons rfl (fun K hK => ?_) AllReadyH.nil
            go_simp
            go_at_call 32
            refine (KH.out _ ((LB.out.over br).1.over h0.1)).mono ?_
            rintro e w' ⟨rfl, rfl⟩
            go_wp2_with fail
            have bX := h0.1
            refine hK.out _ _ ?_ (fun h1 => ?_)
            · exact ⟨bX, cellOver bX p0, cellOver bX p1, cellOver bX p2, cellOver bX p3, cellOver bX q0, cellOver bX q1, cellOver bX q2, cellOver bX q3, cellOver bX hcell⟩
            clear hK K h0 bX
            try simp only [List.getElem_toArray, List.getElem_cons_succ, List.getElem_cons_zero, Act.put, List.setIfInBounds_toArray, List.set_cons_zero, List.set_cons_succ]
            refine wpAnyH_take (i := 8) (v := ?_) rfl (by kernel_rfl) (by kernel_rfl) (by kernel_rfl) (fun _ _ _ h => h) (Or.inl ⟨by rfl, ?_⟩) h1 ?_
            rotate_left
            · (intro w hSw; (try dsimp only at hSw); go_simp); all_goals (with_reducible rfl)
            try simp only [List.getElem_toArray, List.getElem_cons_succ, List.getElem_cons_zero, Act.put, List.setIfInBounds_toArray, List.set_cons_zero, List.set_cons_succ]
            refine wpAnyH_done (by kernel_rfl) ?_ _
            have bz := bel2 bw (bel2 br h1.1)
            clear h1
            go_wp2
            go_ret
            exact ⟨ret_bool (by rw [HV.out, HP.out, HX.out FE.out]; simp), bz⟩
          · rw [e] at KH
            have FE := Lib.hid e
            clear e
            have bc := Below.refl wr.heap.size wr
            refine wp_region_held_drew (S := fun w' => Below wr.heap.size wr w' ∧ w'.cell? ⟨w.heap.size, 0, none⟩ = some (.int .i64 l.u) ∧ w'.cell? ⟨w.heap.size, 1, none⟩ = some (.slice (some ⟨b, off, none⟩) n c) ∧ w'.cell? ⟨w.heap.size, 2, none⟩ = some (.int .i64 l.ap) ∧ w'.cell? ⟨w.heap.size, 3, none⟩ = some (.int .i64 l.d) ∧ w'.cell? ⟨w.heap.size + 1, 0, none⟩ = some (.int .i64 m.u) ∧ w'.cell? ⟨w.heap.size + 1, 1, none⟩ = some (.slice a2 n2 c2) ∧ w'.cell? ⟨w.heap.size + 1, 2, none⟩ = some (.int .i64 m.ap) ∧ w'.cell? ⟨w.heap.size + 1, 3, none⟩ = some (.int .i64 m.d) ∧ w'.cell? ⟨b, off + k, none⟩ = some (.int .i64 z)) (by kernel_rfl) ?_ (fun h0 => ?_)
            · exact ⟨bc.drew, p0, p1, p2, p3, q0, q1, q2, q3, hcell⟩
            refine wpAnyH_take (i := 0) (v := ?_) rfl (by kernel_rfl) (by kernel_rfl) (by kernel_rfl) (fun _ _ _ h => h) (Or.inl ⟨by rfl, ?_⟩) h0 ?_
            rotate_left
            · (intro w hSw; (try dsimp only at hSw); go_simp); all_goals (with_reducible rfl)
            try simp only [List.getElem_toArray, List.getElem_cons_succ, List.getElem_cons_zero, Act.put, List.setIfInBounds_toArray, List.set_cons_zero, List.set_cons_succ]
            refine wpAnyH_take (i := 1) (v := ?_) rfl (by kernel_rfl) (by kernel_rfl) (by kernel_rfl) (fun _ _ _ h => h) (Or.inl ⟨by rfl, ?_⟩) h0 ?_
            rotate_left
            · (intro w hSw; (try dsimp only at hSw); go_simp); all_goals (with_reducible rfl)
            try simp only [List.getElem_toArray, List.getElem_cons_succ, List.getElem_cons_zero, Act.put, List.setIfInBounds_toArray, List.set_cons_zero, List.set_cons_succ]
            refine wpAnyH_take (i := 2) (v := ?_) rfl (by kernel_rfl) (by kernel_rfl) (by kernel_rfl) (fun _ _ _ h => h) (Or.inl ⟨by rfl, ?_⟩) h0 ?_
            rotate_left
            · (intro w hSw; (try dsimp only at hSw); go_simp); all_goals (with_reducible rfl)
            try simp only [List.getElem_toArray, List.getElem_cons_succ, List.getElem_cons_zero, Act.put, List.setIfInBounds_toArray, List.set_cons_zero, List.set_cons_succ]
            refine wpAnyH_take (i := 3) (v := ?_) rfl (by kernel_rfl) (by kernel_rfl) (by kernel_rfl) (fun _ _ _ h => h) (Or.inl ⟨by rfl, ?_⟩) h0 ?_
            rotate_left
            · (intro w hSw; (try dsimp only at hSw); go_simp); all_goals (with_reducible rfl)
            try simp only [List.getElem_toArray, List.getElem_cons_succ, List.getElem_cons_zero, Act.put, List.setIfInBounds_toArray, List.set_cons_zero, List.set_cons_succ]
            refine wpAnyH_take (i := 4) (v := ?_) rfl (by kernel_rfl) (by kernel_rfl) (by kernel_rfl) (fun _ _ _ h => h) (Or.inl ⟨by rfl, ?_⟩) h0 ?_
            rotate_left
            · (intro w hSw; (try dsimp only at hSw); go_simp); all_goals (with_reducible rfl)
            try simp only [List.getElem_toArray, List.getElem_cons_succ, List.getElem_cons_zero, Act.put, List.setIfInBounds_toArray, List.set_cons_zero, List.set_cons_succ]
            refine wpAnyH_take (i := 5) (v := ?_) rfl (by kernel_rfl) (by kernel_rfl) (by kernel_rfl) (fun _ _ _ h => h) (Or.inl ⟨by rfl, ?_⟩) h0 ?_
            rotate_left
            · (intro w hSw; (try dsimp only at hSw); go_simp); all_goals (with_reducible rfl)
            try simp only [List.getElem_toArray, List.getElem_cons_succ, List.getElem_cons_zero, Act.put, List.setIfInBounds_toArray, List.set_cons_zero, List.set_cons_succ]
            refine wpAnyH_take (i := 6) (v := ?_) rfl (by kernel_rfl) (by kernel_rfl) (by kernel_rfl) (fun _ _ _ h => h) (Or.inl ⟨by rfl, ?_⟩) h0 ?_
            rotate_left
            · (intro w hSw; (try dsimp only at hSw); go_simp); all_goals (with_reducible rfl)
            try simp only [List.getElem_toArray, List.getElem_cons_succ, List.getElem_cons_zero, Act.put, List.setIfInBounds_toArray, List.set_cons_zero, List.set_cons_succ]
            refine wpAnyH_ready (rs := [7]) (by kernel_rfl) (by simp) ?_
            refine AllReadyH.cons rfl (fun K hK => ?_) AllReadyH.nil
            go_simp
            go_at_call 32
            refine (KH.out _ ((LB.out.over br).1.over h0.1)).mono ?_
            rintro e w' ⟨rfl, rfl⟩
            go_wp2_with fail
            have bX := h0.1
            refine hK.out _ _ ?_ (fun h1 => ?_)
            · exact ⟨bX, cellOver bX p0, cellOver bX p1, cellOver bX p2, cellOver bX p3, cellOver bX q0, cellOver bX q1, cellOver bX q2, cellOver bX q3, cellOver bX hcell⟩
            clear hK K h0 bX
            try simp only [List.getElem_toArray, List.getElem_cons_succ, List.getElem_cons_zero, Act.put, List.setIfInBounds_toArray, List.set_cons_zero, List.set_cons_succ]
            refine wpAnyH_take (i := 8) (v := ?_) rfl (by kernel_rfl) (by kernel_rfl) (by kernel_rfl) (fun _ _ _ h => h) (Or.inl ⟨by rfl, ?_⟩) h1 ?_
            rotate_left
            · (intro w hSw; (try dsimp only at hSw); go_simp); all_goals (with_reducible rfl)
            try simp only [List.getElem_toArray, List.getElem_cons_succ, List.getElem_cons_zero, Act.put, List.setIfInBounds_toArray, List.set_cons_zero, List.set_cons_succ]
            refine wpAnyH_done (by kernel_rfl) ?_ _
            have bz := bel2 br h1.1
            clear h1
            go_wp2
            exact ⟨⟨k + 1, by omega, by go_num, Lib.hid (HS.out FE.out), bz⟩, by simp [intOf]; omega⟩
        · obtain rfl : k = n := by omega
          have HI := Lib.hid (all_yes (zs := l.af) (out := m.af) (fun i hi => hall.out i (by rw [← HLN.out]; exact hi)))
          replace bw := bel2 bw br
          replace HA := Lib.hid (blockOver br HA.out)
          replace HB := Lib.hid (blockOver br HB.out)
          clear br LA LB
          go_wp2_with fail
          clear p0 p1 p2 p3 q0 q1 q2 q3
          go_loop [9, 10, 11] (fun i _ _ => ∃ k : Nat, k ≤ 4 ∧ i = .int .i64 k ∧ Hid (∀ j, j < k → bitB l.d j = true → bitB m.d j = true)) (fun i _ _ => 4 - (intOf i).toNat)
          case atStart => exact ⟨0, by omega, rfl, Lib.hid (fun j hj => by omega)⟩
          case round =>
            obtain ⟨r, hr, rfl, hbit⟩ := hrel
            obtain ⟨p0, p1, p2, p3⟩ := cells4 HA.out
            obtain ⟨q0, q1, q2, q3⟩ := cells4 HB.out
            by_cases hlr : r < 4
            · have rr4 : (r : Int) < 4 := by omega
              have KB1 := Lib.hid (fun W => bit_any l.d r W ⟨d10, d11⟩ hlr)
              have KB2 := Lib.hid (fun W => bit_any m.d r W ⟨d20, d21⟩ hlr)
              have HX := Lib.hid (fun h h' => sub_no (a := l.d) (b := m.d) hlr h h')
              have HS : Hid ((bitB l.d r = true → bitB m.d r = true) → ∀ j, j < r + 1 → bitB l.d j = true → bitB m.d j = true) := Lib.hid (fun hz j hj => by
                by_cases e : j = r
                · rw [e]; exact hz
                · exact hbit.out j (by omega))
              cases e1 : bitB l.d r
              · rw [e1] at KB1 HS
                generalize bitB m.d r = b2 at *
                clear HX e1
                go_wp2_with fail
                refine (KB1.out _).mono ?_
                rintro e w' ⟨rfl, rfl⟩
                go_wp2_with fail
                refine (KB2.out _).mono ?_
                rintro e w' ⟨rfl, rfl⟩
                go_wp2
                exact ⟨⟨r + 1, by omega, by go_num, Lib.hid (HS.out (fun h => by cases h))⟩, by simp [intOf]; omega⟩
              · cases e2 : bitB m.d r
                · have F1 := Lib.hid (HX.out e1 e2)
                  rw [e1] at KB1
                  rw [e2] at KB2
                  clear HX HS e1 e2
                  go_wp2_with fail
                  refine (KB1.out _).mono ?_
                  rintro e w' ⟨rfl, rfl⟩
                  go_wp2_with fail
                  refine (KB2.out _).mono ?_
                  rintro e w' ⟨rfl, rfl⟩
                  go_wp2
                  go_ret
                  exact ⟨ret_bool (by rw [HV.out, HP.out, F1.out]; simp), bw⟩
                · rw [e1] at KB1 HS
                  rw [e2] at KB2 HS
                  clear HX e1 e2
                  go_wp2_with fail
                  refine (KB1.out _).mono ?_
                  rintro e w' ⟨rfl, rfl⟩
                  go_wp2_with fail
                  refine (KB2.out _).mono ?_
                  rintro e w' ⟨rfl, rfl⟩
                  go_wp2
                  exact ⟨⟨r + 1, by omega, by go_num, Lib.hid (HS.out (fun _ => by trivial))⟩, by simp [intOf]; omega⟩
            · obtain rfl : r = 4 := by omega
              have HF := Lib.hid (sub_yes hbit.out)
              go_wp2
              go_ret
              exact ⟨ret_bool (by rw [HV.out, HP.out, HI.out, HF.out]; simp; omega), bw⟩
    · skip
      go_enter Try.func21, Try.ntmps21
      obtain ⟨haq0, haq1, haq2, haq3⟩ := cells4 HA.out
      obtain ⟨hbq0, hbq1, hbq2, hbq3⟩ := cells4 HB.out
      go_wp2_with fail
      refine (K1.out _ LA.out).mono ?_
      rintro e w1 ⟨rfl, bq⟩
      replace HA := Lib.hid (blockOver bq HA.out)
      replace HB := Lib.hid (blockOver bq HB.out)
      replace LA := Lib.hid (LabAt.over bq LA.out)
      replace LB := Lib.hid (LabAt.over bq LB.out)
      replace bw := bel2 bw bq
      clear bq haq0 haq1 haq2 haq3 hbq0 hbq1 hbq2 hbq3
      obtain ⟨haq0, haq1, haq2, haq3⟩ := cells4 HA.out
      obtain ⟨hbq0, hbq1, hbq2, hbq3⟩ := cells4 HB.out
      go_wp2_with fail
      refine (K2.out _ LB.out).mono ?_
      rintro e w2 ⟨rfl, bq⟩
      replace HA := Lib.hid (blockOver bq HA.out)
      replace HB := Lib.hid (blockOver bq HB.out)
      replace LA := Lib.hid (LabAt.over bq LA.out)
      replace LB := Lib.hid (LabAt.over bq LB.out)
      replace bw := bel2 bw bq
      clear bq haq0 haq1 haq2 haq3 hbq0 hbq1 hbq2 hbq3
      obtain ⟨p0, p1, p2, p3⟩ := cells4 HA.out
      obtain ⟨q0, q1, q2, q3⟩ := cells4 HB.out
      go_wp2
      go_ret
      exact ⟨ret_bool (by rw [HV.out, HP.out]; simp; omega), bw⟩
  · skip
    go_enter Try.func21, Try.ntmps21
    obtain ⟨haq0, haq1, haq2, haq3⟩ := cells4 HA.out
    obtain ⟨hbq0, hbq1, hbq2, hbq3⟩ := cells4 HB.out
    go_wp2_with fail
    refine (K1.out _ LA.out).mono ?_
    rintro e w1 ⟨rfl, bq⟩
    replace HA := Lib.hid (blockOver bq HA.out)
    replace HB := Lib.hid (blockOver bq HB.out)
    replace LA := Lib.hid (LabAt.over bq LA.out)
    replace LB := Lib.hid (LabAt.over bq LB.out)
    replace bw := bel2 bw bq
    clear bq haq0 haq1 haq2 haq3 hbq0 hbq1 hbq2 hbq3
    obtain ⟨haq0, haq1, haq2, haq3⟩ := cells4 HA.out
    obtain ⟨hbq0, hbq1, hbq2, hbq3⟩ := cells4 HB.out
    go_wp2_with fail
    refine (K2.out _ LB.out).mono ?_
    rintro e w2 ⟨rfl, bq⟩
    replace HA := Lib.hid (blockOver bq HA.out)
    replace HB := Lib.hid (blockOver bq HB.out)
    replace LA := Lib.hid (LabAt.over bq LA.out)
    replace LB := Lib.hid (LabAt.over bq LB.out)
    replace bw := bel2 bw bq
    clear bq haq0 haq1 haq2 haq3 hbq0 hbq1 hbq2 hbq3
    obtain ⟨p0, p1, p2, p3⟩ := cells4 HA.out
    obtain ⟨q0, q1, q2, q3⟩ := cells4 HB.out
    go_wp2
    go_ret
    exact ⟨ret_bool (by rw [HV.out, HP.out]; simp; omega), bw⟩
end Go.Proofs.Ythpginepnleokaa
