import Derived.Test.YtelipjjjlgnjoaaGreatDoorMgP
import Derived.Deep.RegionHeld3
import Derived.BigRegion
namespace Go.Proofs.YtelipjjjlgnjoaaGreatDoor
open Go.RowKit Go.MapKept Go.Shelf
attribute [local go_sem] Oper.semAt_some
set_option maxRecDepth 100000
set_option linter.unusedSimpArgs false
set_option linter.unusedVariables false
set_option maxHeartbeats 4000000 in
theorem equal_any20 (a : Option Addr) (n c : Nat) (es : List BE) (a2 : Option Addr) (n2 c2 : Nat) (fs : List BE) (i : Int) (w : World) (h : IsBlks w a n c es) (h2 : IsBlks w a2 n2 c2 fs) :
    Calls Tryz.prog 20 #[.slice a n c, .slice a2 n2 c2, .int .i64 i] w fun x w' => x = .returned (.bool (eqO (fnd (blks es) i) (fnd (blks fs) i))) ∧ Below w.heap.size w w' := by
  have hcm := h.2.2.1
  have hnc := h.2.1
  have hcm2 := h2.2.2.1
  have hnc2 := h2.2.1
  have HL := Lib.hid h.1
  have HL2 := Lib.hid h2.1
  have H := Lib.hid h
  have H2 := Lib.hid h2
  unfold maxLen at hcm hcm2
  clear h h2
  go_enter Tryz.func20, Tryz.ntmps20
  go_wp2_with fail
  refine (at_any a n c es i w H.out).mono ?_
  rintro x w1 ⟨rfl, b1⟩
  have B1 := Lib.hid b1
  have HF1 := Lib.hid (fnd_idx (blks es) i)
  clear b1
  cases hi : idxI (bids (blks es)) i with
  | none =>
    rw [atV_none hi]
    have F1 := Lib.hid (show fnd (blks es) i = none by rw [HF1.out, hi]; rfl)
    clear hi HF1
    go_wp2_with fail
    refine (at_any a2 n2 c2 fs i w1 (H2.out.over B1.out)).mono ?_
    rintro x w2 ⟨rfl, b2⟩
    have B2 := Lib.hid (bel2 B1.out b2)
    have HF2 := Lib.hid (fnd_idx (blks fs) i)
    clear b2
    cases hi : idxI (bids (blks fs)) i with
    | none =>
      rw [atV_none hi]
      have F2 := Lib.hid (show fnd (blks fs) i = none by rw [HF2.out, hi]; rfl)
      clear hi HF2
      go_wp2
      go_ret
      exact ⟨by rw [F1.out, F2.out]; rfl, B2.out⟩
    | some m =>
      rw [atV_some hi]
      have hm : m < fs.length := by have := idxI_lt hi; rwa [bids_len] at this
      have hme : (blks fs)[m]? = some fs[m].1 := by unfold blks; rw [List.getElem?_map, List.getElem?_eq_getElem hm]; rfl
      have F2 := Lib.hid (show fnd (blks fs) i = some fs[m].1 by rw [HF2.out, hi]; exact hme)
      clear hi HF2 hme
      go_wp2
      go_ret
      exact ⟨by rw [F1.out, F2.out]; rfl, B2.out⟩
  | some k =>
    rw [atV_some hi]
    have hkl : k < es.length := by have := idxI_lt hi; rwa [bids_len] at this
    have hke : (blks es)[k]? = some es[k].1 := by unfold blks; rw [List.getElem?_map, List.getElem?_eq_getElem hkl]; rfl
    have F1 := Lib.hid (show fnd (blks es) i = some es[k].1 by rw [HF1.out, hi]; exact hke)
    have hk : k < n := by rw [HL.out] at hkl; exact hkl
    clear hi HF1 hke
    go_wp2_with fail
    refine (at_any a2 n2 c2 fs i w1 (H2.out.over B1.out)).mono ?_
    rintro x w2 ⟨rfl, b2⟩
    have B2 := Lib.hid (bel2 B1.out b2)
    have HF2 := Lib.hid (fnd_idx (blks fs) i)
    clear b2
    cases hi : idxI (bids (blks fs)) i with
    | none =>
      rw [atV_none hi]
      have F2 := Lib.hid (show fnd (blks fs) i = none by rw [HF2.out, hi]; rfl)
      clear hi HF2
      go_wp2
      go_ret
      exact ⟨by rw [F1.out, F2.out]; rfl, B2.out⟩
    | some m =>
      rw [atV_some hi]
      have hml : m < fs.length := by have := idxI_lt hi; rwa [bids_len] at this
      have hme : (blks fs)[m]? = some fs[m].1 := by unfold blks; rw [List.getElem?_map, List.getElem?_eq_getElem hml]; rfl
      have F2 := Lib.hid (show fnd (blks fs) i = some fs[m].1 by rw [HF2.out, hi]; exact hme)
      have hm : m < n2 := by rw [HL2.out] at hml; exact hml
      clear hi HF2 hme
      obtain ⟨b, off, d, rfl, hd, hok, h9⟩ := (H.out.over B2.out).at_ hk
      obtain ⟨b2, off2, e, rfl, he, hok2, h92⟩ := (H2.out.over B2.out).at_ hm
      have HD := Lib.hid (show es[k] = d by rw [List.getElem?_eq_getElem hkl] at hd; exact Option.some.inj hd)
      have HE := Lib.hid (show fs[m] = e by rw [List.getElem?_eq_getElem hml] at he; exact Option.some.inj he)
      have LD := Lib.hid hok.1
      have LE := Lib.hid hok2.1
      obtain ⟨p0, p1, p2, p3, p4, p5, p6, p7, p8⟩ := h9
      obtain ⟨q0, q1, q2, q3, q4, q5, q6, q7, q8⟩ := h92
      have HOK := Lib.hid hok
      have HOK2 := Lib.hid hok2
      clear hd he hok hok2
      go_wp2
      obtain ⟨wh, hwh⟩ : ∃ wh, wh = w2 := ⟨_, rfl⟩
      subst hwh
      have bc := Below.refl wh.heap.size wh
      refine wp_region_held_drew (S := fun w' => Below wh.heap.size wh w' ∧ w'.cell? ⟨b, off + k * 9, none⟩ = some (.int .i64 d.1.id) ∧ w'.cell? ⟨b, off + k * 9 + 1, none⟩ = some (.int .i64 d.1.kd) ∧ w'.cell? ⟨b, off + k * 9 + 2, none⟩ = some (.string ⟨d.1.tx.toArray⟩) ∧ w'.cell? ⟨b, off + k * 9 + 3, none⟩ = some (.int .i64 d.1.st) ∧ w'.cell? ⟨b, off + k * 9 + 4, none⟩ = some (.int .i64 d.1.rf) ∧ w'.cell? ⟨b, off + k * 9 + 5, none⟩ = some (.int .i64 d.1.lb.u) ∧ w'.cell? ⟨b, off + k * 9 + 6, none⟩ = some (.slice d.2.1 d.2.2.1 d.2.2.2) ∧ w'.cell? ⟨b, off + k * 9 + 7, none⟩ = some (.int .i64 d.1.lb.ap) ∧ w'.cell? ⟨b, off + k * 9 + 8, none⟩ = some (.int .i64 d.1.lb.d) ∧ w'.cell? ⟨b2, off2 + m * 9, none⟩ = some (.int .i64 e.1.id) ∧ w'.cell? ⟨b2, off2 + m * 9 + 1, none⟩ = some (.int .i64 e.1.kd) ∧ w'.cell? ⟨b2, off2 + m * 9 + 2, none⟩ = some (.string ⟨e.1.tx.toArray⟩) ∧ w'.cell? ⟨b2, off2 + m * 9 + 3, none⟩ = some (.int .i64 e.1.st) ∧ w'.cell? ⟨b2, off2 + m * 9 + 4, none⟩ = some (.int .i64 e.1.rf) ∧ w'.cell? ⟨b2, off2 + m * 9 + 5, none⟩ = some (.int .i64 e.1.lb.u) ∧ w'.cell? ⟨b2, off2 + m * 9 + 6, none⟩ = some (.slice e.2.1 e.2.2.1 e.2.2.2) ∧ w'.cell? ⟨b2, off2 + m * 9 + 7, none⟩ = some (.int .i64 e.1.lb.ap) ∧ w'.cell? ⟨b2, off2 + m * 9 + 8, none⟩ = some (.int .i64 e.1.lb.d)) (by kernel_rfl) ?_ (fun h0 => ?_)
      · exact ⟨bc.drew, p0, p1, p2, p3, p4, p5, p6, p7, p8, q0, q1, q2, q3, q4, q5, q6, q7, q8⟩
      refine wpAnyH_take (i := 0) (v := ?_) rfl (by kernel_rfl) (by kernel_rfl) (by kernel_rfl) (fun _ _ _ h => h) (Or.inl ⟨by rfl, ?_⟩) h0 ?_
      rotate_left
      · (intro w hSw; (try dsimp only at hSw); go_simp); all_goals (with_reducible rfl)
      try simp only [List.getElem_toArray, List.getElem_cons_succ, List.getElem_cons_zero, Act.put, List.setIfInBounds_toArray, List.set_cons_zero, List.set_cons_succ]
      refine wpAnyH_take (i := 1) (v := ?_) rfl (by kernel_rfl) (by kernel_rfl) (by kernel_rfl) (fun _ _ _ h => h) (Or.inl ⟨by rfl, ?_⟩) h0 ?_
      rotate_left
      · (intro w hSw; (try dsimp only at hSw); go_simp); all_goals (with_reducible rfl)
      try simp only [List.getElem_toArray, List.getElem_cons_succ, List.getElem_cons_zero, Act.put, List.setIfInBounds_toArray, List.set_cons_zero, List.set_cons_succ]
      refine wpAnyH_take (i := 2) (v := ?_) rfl (by kernel_rfl) (by kernel_rfl) (by kernel_rfl) (fun _ _ _ h => h) (Or.inl ⟨by rfl, ?_⟩) h0 ?_
      rotate_left
      · (intro w hSw; (try dsimp only at hSw); go_simp); all_goals (with_reducible rfl)
      try simp only [List.getElem_toArray, List.getElem_cons_succ, List.getElem_cons_zero, Act.put, List.setIfInBounds_toArray, List.set_cons_zero, List.set_cons_succ]
      refine wpAnyH_take (i := 3) (v := ?_) rfl (by kernel_rfl) (by kernel_rfl) (by kernel_rfl) (fun _ _ _ h => h) (Or.inl ⟨by rfl, ?_⟩) h0 ?_
      rotate_left
      · (intro w hSw; (try dsimp only at hSw); go_simp); all_goals (with_reducible rfl)
      try simp only [List.getElem_toArray, List.getElem_cons_succ, List.getElem_cons_zero, Act.put, List.setIfInBounds_toArray, List.set_cons_zero, List.set_cons_succ]
      refine wpAnyH_take (i := 4) (v := ?_) rfl (by kernel_rfl) (by kernel_rfl) (by kernel_rfl) (fun _ _ _ h => h) (Or.inl ⟨by rfl, ?_⟩) h0 ?_
      rotate_left
      · (intro w hSw; (try dsimp only at hSw); go_simp); all_goals (with_reducible rfl)
      try simp only [List.getElem_toArray, List.getElem_cons_succ, List.getElem_cons_zero, Act.put, List.setIfInBounds_toArray, List.set_cons_zero, List.set_cons_succ]
      refine wpAnyH_take (i := 5) (v := ?_) rfl (by kernel_rfl) (by kernel_rfl) (by kernel_rfl) (fun _ _ _ h => h) (Or.inl ⟨by rfl, ?_⟩) h0 ?_
      rotate_left
      · (intro w hSw; (try dsimp only at hSw); go_simp); all_goals (with_reducible rfl)
      try simp only [List.getElem_toArray, List.getElem_cons_succ, List.getElem_cons_zero, Act.put, List.setIfInBounds_toArray, List.set_cons_zero, List.set_cons_succ]
      refine wpAnyH_take (i := 6) (v := ?_) rfl (by kernel_rfl) (by kernel_rfl) (by kernel_rfl) (fun _ _ _ h => h) (Or.inl ⟨by rfl, ?_⟩) h0 ?_
      rotate_left
      · (intro w hSw; (try dsimp only at hSw); go_simp); all_goals (with_reducible rfl)
      try simp only [List.getElem_toArray, List.getElem_cons_succ, List.getElem_cons_zero, Act.put, List.setIfInBounds_toArray, List.set_cons_zero, List.set_cons_succ]
      refine wpAnyH_take (i := 7) (v := ?_) rfl (by kernel_rfl) (by kernel_rfl) (by kernel_rfl) (fun _ _ _ h => h) (Or.inl ⟨by rfl, ?_⟩) h0 ?_
      rotate_left
      · (intro w hSw; (try dsimp only at hSw); go_simp); all_goals (with_reducible rfl)
      try simp only [List.getElem_toArray, List.getElem_cons_succ, List.getElem_cons_zero, Act.put, List.setIfInBounds_toArray, List.set_cons_zero, List.set_cons_succ]
      refine wpAnyH_ready (rs := [8]) (by kernel_rfl) (by simp) ?_
      refine AllReadyH.cons rfl (fun K hK => ?_) AllReadyH.nil
      go_simp
      go_at_call 40
      refine (bsame_any d e _ (HOK.out.over h0.1) (HOK2.out.over h0.1)).mono ?_
      rintro e wq0 ⟨rfl, bq⟩
      go_wp2_with fail
      have bX := bel2 h0.1 bq
      refine hK.out _ _ ?_ (fun h1 => ?_)
      · exact ⟨bX, cellOver bX p0, cellOver bX p1, cellOver bX p2, cellOver bX p3, cellOver bX p4, cellOver bX p5, cellOver bX p6, cellOver bX p7, cellOver bX p8, cellOver bX q0, cellOver bX q1, cellOver bX q2, cellOver bX q3, cellOver bX q4, cellOver bX q5, cellOver bX q6, cellOver bX q7, cellOver bX q8⟩
      clear hK K h0 bX bq
      try simp only [List.getElem_toArray, List.getElem_cons_succ, List.getElem_cons_zero, Act.put, List.setIfInBounds_toArray, List.set_cons_zero, List.set_cons_succ]
      refine wpAnyH_take (i := 9) (v := ?_) rfl (by kernel_rfl) (by kernel_rfl) (by kernel_rfl) (fun _ _ _ h => h) (Or.inl ⟨by rfl, ?_⟩) h1 ?_
      rotate_left
      · (intro w hSw; (try dsimp only at hSw); go_simp); all_goals (with_reducible rfl)
      try simp only [List.getElem_toArray, List.getElem_cons_succ, List.getElem_cons_zero, Act.put, List.setIfInBounds_toArray, List.set_cons_zero, List.set_cons_succ]
      refine wpAnyH_done (by kernel_rfl) ?_ _
      have BX := Lib.hid (bel2 B2.out h1.1)
      clear h1 p0 p1 p2 p3 p4 p5 p6 p7 p8 q0 q1 q2 q3 q4 q5 q6 q7 q8
      go_wp2
      go_ret
      exact ⟨by rw [F1.out, F2.out, HD.out, HE.out]; rfl, BX.out⟩

def inS (p q : List Blk) : Bool := p.all (fun b => eqO (fnd p b.id) (fnd q b.id))
theorem inS_of {p q : List Blk} (h : ∀ i, fnd p i = fnd q i) : inS p q = true := by
  unfold inS; rw [List.all_eq_true]; intro b _; exact (eqO_iff _ _).2 (h b.id)
theorem inS_no {es fs : List BE} {k : Nat} {e : BE} (h : es[k]? = some e) (hn : eqO (fnd (blks es) e.1.id) (fnd (blks fs) e.1.id) = false) : inS (blks es) (blks fs) = false := by
  cases hc : inS (blks es) (blks fs) with
  | false => rfl
  | true =>
    unfold inS at hc
    rw [List.all_eq_true] at hc
    have := hc e.1 (List.mem_map.2 ⟨e, List.mem_of_getElem? h, rfl⟩)
    rw [hn] at this; cases this
theorem inS_yes {es fs : List BE} {n : Nat} (hn : es.length = n) (h : ∀ j e, j < n → es[j]? = some e → eqO (fnd (blks es) e.1.id) (fnd (blks fs) e.1.id) = true) : inS (blks es) (blks fs) = true := by
  unfold inS; rw [List.all_eq_true]; intro b hb
  obtain ⟨e, he, rfl⟩ := List.mem_map.1 hb
  obtain ⟨j, hj⟩ := List.getElem?_of_mem he
  exact h j e (by have := (List.getElem?_eq_some_iff.1 hj).1; omega) hj
set_option maxHeartbeats 4000000 in
theorem in_any (a : Option Addr) (n c : Nat) (es : List BE) (a2 : Option Addr) (n2 c2 : Nat) (fs : List BE) (w : World) (h : IsBlks w a n c es) (h2 : IsBlks w a2 n2 c2 fs) :
    Calls Tryz.prog 41 #[.slice a n c, .slice a2 n2 c2] w fun x w' => x = .returned (.bool (inS (blks es) (blks fs))) ∧ Below w.heap.size w w' := by
  have hcm := h.2.2.1
  have hnc := h.2.1
  have HL := Lib.hid h.1
  have H := Lib.hid h
  have H2 := Lib.hid h2
  unfold maxLen at hcm
  clear h h2
  go_enter Tryz.func41, Tryz.ntmps41
  go_wp2
  go_loopw [5, 6] (fun x _ wr => ∃ k : Nat, k ≤ n ∧ x = .int .i64 k ∧ Hid (∀ j e, j < k → es[j]? = some e → eqO (fnd (blks es) e.1.id) (fnd (blks fs) e.1.id) = true) ∧ Hid (Below w.heap.size w wr)) (fun x _ _ => n - (intOf x).toNat)
  case atStart => exact ⟨0, Nat.zero_le _, rfl, Lib.hid (fun j e hj => by omega), Lib.hid (Below.refl _ _)⟩
  case round =>
    obtain ⟨k, hk, rfl, hv, hb⟩ := hrel
    by_cases hlt : k < n
    · obtain ⟨b, off, e, rfl, he, hok, h9⟩ := (H.out.over hb.out).at_ hlt
      have HE := Lib.hid he
      have K := Lib.hid (equal_any20 (some ⟨b, off, none⟩) n c es a2 n2 c2 fs e.1.id wr (H.out.over hb.out) (H2.out.over hb.out))
      obtain ⟨p0, p1, p2, p3, p4, p5, p6, p7, p8⟩ := h9
      have g1 : (k : Int) < n := by omega
      clear he hok p1 p2 p3 p4 p5 p6 p7 p8
      go_wp2_with fail
      refine K.out.mono ?_
      rintro x w2 ⟨rfl, b2⟩
      have B2 := Lib.hid (bel2 hb.out b2)
      clear b2
      cases hq : eqO (fnd (blks es) e.1.id) (fnd (blks fs) e.1.id)
      · have HN := Lib.hid (inS_no HE.out hq)
        clear hq
        go_wp2
        go_ret
        exact ⟨ret_bool HN.out.symm, B2.out⟩
      · have HN := Lib.hid hq
        clear hq
        go_wp2
        go_roundw
        case rel => exact ⟨k + 1, by omega, by go_num, Lib.hid (fun j e' hj he' => by
          by_cases q : j = k
          · subst q; rw [HE.out] at he'; cases he'; exact HN.out
          · exact hv.out j e' (by omega) he'), B2⟩
        case measure => simp [intOf]; omega
    · obtain rfl : k = n := by omega
      have HY := Lib.hid (inS_yes HL.out hv.out)
      go_wp2
      go_ret
      exact ⟨ret_bool HY.out.symm, hb.out⟩
theorem alike_any (a : Option Addr) (n c : Nat) (es : List BE) (a2 : Option Addr) (n2 c2 : Nat) (fs : List BE) (w : World) (h : IsBlks w a n c es) (h2 : IsBlks w a2 n2 c2 fs) :
    Calls Tryz.prog 23 #[.slice a n c, .slice a2 n2 c2] w fun x w' => x = .returned (.bool (inS (blks es) (blks fs) && inS (blks fs) (blks es))) ∧ Below w.heap.size w w' := by
  have H := Lib.hid h
  have H2 := Lib.hid h2
  clear h h2
  go_enter Tryz.func23, Tryz.ntmps23
  go_wp2_with fail
  refine (in_any a n c es a2 n2 c2 fs w H.out H2.out).mono ?_
  rintro x w1 ⟨rfl, b1⟩
  have B1 := Lib.hid b1
  clear b1
  go_wp2_with fail
  refine (in_any a2 n2 c2 fs a n c es w1 (H2.out.over B1.out) (H.out.over B1.out)).mono ?_
  rintro x w2 ⟨rfl, b1⟩
  have B2 := Lib.hid (bel2 B1.out b1)
  clear b1
  cases h1 : inS (blks es) (blks fs) <;> cases h2 : inS (blks fs) (blks es)
  all_goals
    have Q1 := Lib.hid h1
    have Q2 := Lib.hid h2
    clear h1 h2
    go_wp2
    go_ret
    exact ⟨by rw [Q1.out, Q2.out]; rfl, B2.out⟩
theorem mv_go {o X : List Int} {s t : Bool × Int} {x : Int} (h : X.foldl (mvS o) s = t) : (X ++ [x]).foldl (mvS o) s = mvS o t x := by rw [List.foldl_append, h]; rfl
set_option maxHeartbeats 4000000 in
theorem ordered_any (a : Option Addr) (n c : Nat) (es : List BE) (a2 : Option Addr) (n2 c2 : Nat) (fs : List BE) (w : World) (h : IsBlks w a n c es) (h2 : IsBlks w a2 n2 c2 fs) :
    Calls Tryz.prog 24 #[.slice a n c, .slice a2 n2 c2] w fun x w' => x = .returned (.bool (!movI (bids (blks fs)) (bids (blks es)))) ∧ Below w.heap.size w w' := by
  have hcm := h.2.2.1
  have hnc := h.2.1
  have HL := Lib.hid h.1
  have H := Lib.hid h
  have H2 := Lib.hid h2
  unfold maxLen at hcm
  clear h h2
  go_enter Tryz.func24, Tryz.ntmps24
  go_wp2
  go_loopw [6, 7, 5] (fun i _ l wr => ∃ (k : Nat) (last : Int), k ≤ n ∧ i = .int .i64 k ∧ l = .int .i64 last ∧ Hid ((bids (blks (es.take k))).foldl (mvS (bids (blks fs))) (false, -1) = (false, last)) ∧ Hid (Below w.heap.size w wr)) (fun i _ _ _ => n - (intOf i).toNat)
  case atStart => exact ⟨0, -1, Nat.zero_le _, rfl, rfl, Lib.hid rfl, Lib.hid (Below.refl _ _)⟩
  case round =>
    obtain ⟨k, last, hk, rfl, rfl, hst, bw⟩ := hrel
    by_cases hlt : k < n
    · obtain ⟨b, off, e, rfl, he, hok, h9⟩ := (H.out.over bw.out).at_ hlt
      have HE := Lib.hid he
      obtain ⟨p0, p1, p2, p3, p4, p5, p6, p7, p8⟩ := h9
      have hltn : (k : Int) < n := by omega
      have HT := Lib.hid (bids_take_succ HE.out)
      have K := Lib.hid (at_any a2 n2 c2 fs e.1.id wr (H2.out.over bw.out))
      clear he hok p1 p2 p3 p4 p5 p6 p7 p8
      go_wp2_with fail
      refine K.out.mono ?_
      rintro x w2 ⟨rfl, b2⟩
      have BX := Lib.hid (bel2 bw.out b2)
      clear b2
      cases hf : idxI (bids (blks fs)) e.1.id with
      | none =>
        rw [atV_none hf]
        have HS := Lib.hid (show mvS (bids (blks fs)) (false, last) e.1.id = (false, last) by unfold mvS; rw [hf]; simp)
        clear hf
        go_wp2
        go_roundw
        case rel => exact ⟨k + 1, last, by omega, by go_num, rfl, Lib.hid (by rw [HT.out, mv_go hst.out, HS.out]), BX⟩
        case measure => simp [intOf]; omega
      | some m =>
        rw [atV_some hf]
        by_cases hm : (m : Int) < last
        · have HS := Lib.hid (show mvS (bids (blks fs)) (false, last) e.1.id = (true, last) by unfold mvS; rw [hf]; simp [hm])
          have HR := Lib.hid (show movI (bids (blks fs)) (bids (blks es)) = true by
            have h1 : ((bids (blks (es.take (k + 1)))).foldl (mvS (bids (blks fs))) (false, -1)).1 = true := by rw [HT.out, mv_go hst.out, HS.out]
            have h2 : bids (blks es) = bids (blks (es.take (k + 1))) ++ bids (blks (es.drop (k + 1))) := by
              conv => lhs; rw [← List.take_append_drop (k + 1) es]
              simp [bids, blks]
            rw [← movI_ref, h2, List.foldl_append, mvS_true _ _ _ h1]; exact h1)
          clear hf
          go_wp2
          go_ret
          exact ⟨by rw [HR.out]; rfl, BX.out⟩
        · have HS := Lib.hid (show mvS (bids (blks fs)) (false, last) e.1.id = (false, (m : Int)) by unfold mvS; rw [hf]; simp [hm])
          clear hf
          go_wp2
          go_roundw
          case rel => exact ⟨k + 1, m, by omega, by go_num, rfl, Lib.hid (by rw [HT.out, mv_go hst.out, HS.out]), BX⟩
          case measure => simp [intOf]; omega
    · obtain rfl : k = n := by omega
      rw [bids_take (by rw [HL.out]; exact Nat.le_refl _)] at hst
      have HR := Lib.hid (show movI (bids (blks fs)) (bids (blks es)) = false by rw [← movI_ref, hst.out])
      go_wp2
      go_ret
      exact ⟨by rw [HR.out]; rfl, bw.out⟩
set_option maxHeartbeats 4000000 in
theorem refmoved_any (a : Option Addr) (n c : Nat) (es : List BE) (a2 : Option Addr) (n2 c2 : Nat) (fs : List BE) (w : World) (h : IsBlks w a n c es) (h2 : IsBlks w a2 n2 c2 fs) :
    Calls Tryz.prog 34 #[.slice a2 n2 c2, .slice a n c] w fun x w' => x = .returned (.bool (movI (bids (blks fs)) (bids (blks es)))) ∧ Below w.heap.size w w' := by
  have hcm := h.2.2.1
  have hnc := h.2.1
  have HL := Lib.hid h.1
  have H := Lib.hid h
  have H2 := Lib.hid h2
  unfold maxLen at hcm
  clear h h2
  go_enter Tryz.func34, Tryz.ntmps34
  go_wp2
  go_loopw [6, 7, 5] (fun i _ l wr => ∃ (k : Nat) (last : Int), k ≤ n ∧ i = .int .i64 k ∧ l = .int .i64 last ∧ Hid ((bids (blks (es.take k))).foldl (mvS (bids (blks fs))) (false, -1) = (false, last)) ∧ Hid (Below w.heap.size w wr)) (fun i _ _ _ => n - (intOf i).toNat)
  case atStart => exact ⟨0, -1, Nat.zero_le _, rfl, rfl, Lib.hid rfl, Lib.hid (Below.refl _ _)⟩
  case round =>
    obtain ⟨k, last, hk, rfl, rfl, hst, bw⟩ := hrel
    by_cases hlt : k < n
    · obtain ⟨b, off, e, rfl, he, hok, h9⟩ := (H.out.over bw.out).at_ hlt
      have HE := Lib.hid he
      obtain ⟨p0, p1, p2, p3, p4, p5, p6, p7, p8⟩ := h9
      have hltn : (k : Int) < n := by omega
      have HT := Lib.hid (bids_take_succ HE.out)
      have K := Lib.hid (refat_any a2 n2 c2 fs e.1.id wr (H2.out.over bw.out))
      clear he hok p1 p2 p3 p4 p5 p6 p7 p8
      go_wp2_with fail
      refine K.out.mono ?_
      rintro x w2 ⟨rfl, b2⟩
      have BX := Lib.hid (bel2 bw.out b2)
      clear b2
      cases hf : idxI (bids (blks fs)) e.1.id with
      | none =>
        rw [atV_none hf]
        have HS := Lib.hid (show mvS (bids (blks fs)) (false, last) e.1.id = (false, last) by unfold mvS; rw [hf]; simp)
        clear hf
        go_wp2
        go_roundw
        case rel => exact ⟨k + 1, last, by omega, by go_num, rfl, Lib.hid (by rw [HT.out, mv_go hst.out, HS.out]), BX⟩
        case measure => simp [intOf]; omega
      | some m =>
        rw [atV_some hf]
        by_cases hm : (m : Int) < last
        · have HS := Lib.hid (show mvS (bids (blks fs)) (false, last) e.1.id = (true, last) by unfold mvS; rw [hf]; simp [hm])
          have HR := Lib.hid (show movI (bids (blks fs)) (bids (blks es)) = true by
            have h1 : ((bids (blks (es.take (k + 1)))).foldl (mvS (bids (blks fs))) (false, -1)).1 = true := by rw [HT.out, mv_go hst.out, HS.out]
            have h2 : bids (blks es) = bids (blks (es.take (k + 1))) ++ bids (blks (es.drop (k + 1))) := by
              conv => lhs; rw [← List.take_append_drop (k + 1) es]
              simp [bids, blks]
            rw [← movI_ref, h2, List.foldl_append, mvS_true _ _ _ h1]; exact h1)
          clear hf
          go_wp2
          go_ret
          exact ⟨by rw [HR.out]; rfl, BX.out⟩
        · have HS := Lib.hid (show mvS (bids (blks fs)) (false, last) e.1.id = (false, (m : Int)) by unfold mvS; rw [hf]; simp [hm])
          clear hf
          go_wp2
          go_roundw
          case rel => exact ⟨k + 1, m, by omega, by go_num, rfl, Lib.hid (by rw [HT.out, mv_go hst.out, HS.out]), BX⟩
          case measure => simp [intOf]; omega
    · obtain rfl : k = n := by omega
      rw [bids_take (by rw [HL.out]; exact Nat.le_refl _)] at hst
      have HR := Lib.hid (show movI (bids (blks fs)) (bids (blks es)) = false by rw [← movI_ref, hst.out])
      go_wp2
      go_ret
      exact ⟨by rw [HR.out]; rfl, bw.out⟩
theorem IsInts.cell_at {k : IntKind} {w : World} {a : Option Addr} {n c : Nat} {zs : List Int} (h : IsInts k w a n c zs) {i : Nat} (hi : i < n) : ∃ b off, a = some ⟨b, off, none⟩ ∧ w.cell? ⟨b, off + i, none⟩ = some (.int k (zs.getD i 0)) := by
  obtain ⟨_, _, _, _, h0 | ⟨b, off, h1, h2⟩⟩ := h
  · omega
  · exact ⟨b, off, h1, h2 i hi⟩
theorem has_any (a : Option Addr) (n c : Nat) (zs : List Int) (i : Int) (w : World) (h : IsInts .i64 w a n c zs) :
    Calls Tryz.prog 21 #[.slice a n c, .int .i64 i] w fun x w' => x = .returned (.bool (zs.contains i)) ∧ Below w.heap.size w w' := by
  have hcm := h.2.2.1
  have hnc := h.2.1
  have HL := Lib.hid h.1
  have H := Lib.hid h
  unfold maxLen at hcm
  clear h
  go_enter Tryz.func21, Tryz.ntmps21
  go_wp2
  go_loopw [5] (fun x wr => ∃ k : Nat, k ≤ n ∧ x = .int .i64 k ∧ Hid (∀ j, j < k → zs.getD j 0 ≠ i) ∧ Hid (Below w.heap.size w wr)) (fun x _ => n - (intOf x).toNat)
  case atStart => exact ⟨0, Nat.zero_le _, rfl, Lib.hid (fun j hj => by omega), Lib.hid (Below.refl _ _)⟩
  case round =>
    obtain ⟨k, hk, rfl, hv, hb⟩ := hrel
    by_cases hlt : k < n
    · obtain ⟨b, off, rfl, hcell⟩ := (H.out.over hb.out).cell_at hlt
      have g1 : (k : Int) < n := by omega
      obtain ⟨z, hz⟩ : ∃ z, zs.getD k 0 = z := ⟨_, rfl⟩
      rw [hz] at hcell
      have HZ := Lib.hid hz
      clear hz
      cases hq : (z == i)
      · have HN := Lib.hid (show z ≠ i by simpa using hq)
        go_wp2
        go_roundw
        case rel => exact ⟨k + 1, by omega, by go_num, Lib.hid (fun j hj => by
          by_cases q : j = k
          · subst q; rw [HZ.out]; exact HN.out
          · exact hv.out j (by omega)), hb⟩
        case measure => simp [intOf]; omega
      · have HN := Lib.hid (show z = i by simpa using hq)
        have HA := Lib.hid (show zs.contains i = true by
          have hl : k < zs.length := by rw [HL.out]; exact hlt
          rw [List.contains_iff_mem, ← HN.out, ← HZ.out, List.getD_eq_getElem?_getD, List.getElem?_eq_getElem hl]
          exact List.getElem_mem hl)
        go_wp2
        go_ret
        exact ⟨by rw [HA.out]; rfl, hb.out⟩
    · obtain rfl : k = n := by omega
      have HA := Lib.hid (show zs.contains i = false by
        cases hc : zs.contains i with
        | false => rfl
        | true =>
          rw [List.contains_iff_mem] at hc
          obtain ⟨j, hj⟩ := List.getElem?_of_mem hc
          have hl := (List.getElem?_eq_some_iff.1 hj).1
          exact absurd (show zs.getD j 0 = i by rw [List.getD_eq_getElem?_getD, hj]; rfl) (hv.out j (by rw [← HL.out]; exact hl)))
      go_wp2
      go_ret
      exact ⟨by rw [HA.out]; rfl, hb.out⟩
theorem ints_eq_of {xs ys : List Int} (hl : xs.length = ys.length) (h : ∀ j, j < xs.length → xs.getD j 0 = ys.getD j 0) : xs = ys := by
  apply List.ext_getElem hl
  intro j h1 h2
  have := h j h1
  rwa [List.getD_eq_getElem?_getD, List.getD_eq_getElem?_getD, List.getElem?_eq_getElem h1, List.getElem?_eq_getElem h2] at this
theorem refints_any (a : Option Addr) (n c : Nat) (xs : List Int) (a2 : Option Addr) (n2 c2 : Nat) (ys : List Int) (w : World) (h : IsInts .i64 w a n c xs) (h2 : IsInts .i64 w a2 n2 c2 ys) :
    Calls Tryz.prog 17 #[.slice a n c, .slice a2 n2 c2] w fun x w' => x = .returned (.bool (decide (xs = ys))) ∧ Below w.heap.size w w' := by
  have hcm := h.2.2.1
  have hnc := h.2.1
  have hcm2 := h2.2.2.1
  have hnc2 := h2.2.1
  have HL := Lib.hid h.1
  have HL2 := Lib.hid h2.1
  have H := Lib.hid h
  have H2 := Lib.hid h2
  unfold maxLen at hcm hcm2
  clear h h2
  go_enter Tryz.func17, Tryz.ntmps17
  by_cases hn : (n : Int) = n2
  rotate_left
  · have HN := Lib.hid (show decide (xs = ys) = false by
      rw [decide_eq_false_iff_not]; intro e; apply hn; rw [← HL.out, ← HL2.out, e])
    go_wp2
    go_ret
    exact ⟨by rw [HN.out]; rfl, Below.refl _ _⟩
  obtain rfl : n = n2 := by omega
  go_wp2
  go_loopw [5] (fun x wr => ∃ k : Nat, k ≤ n ∧ x = .int .i64 k ∧ Hid (∀ j, j < k → xs.getD j 0 = ys.getD j 0) ∧ Hid (Below w.heap.size w wr)) (fun x _ => n - (intOf x).toNat)
  case atStart => exact ⟨0, Nat.zero_le _, rfl, Lib.hid (fun j hj => by omega), Lib.hid (Below.refl _ _)⟩
  case round =>
    obtain ⟨k, hk, rfl, hv, hb⟩ := hrel
    by_cases hlt : k < n
    · obtain ⟨b, off, rfl, hcell⟩ := (H.out.over hb.out).cell_at hlt
      obtain ⟨b2, off2, rfl, hcell2⟩ := (H2.out.over hb.out).cell_at hlt
      have g1 : (k : Int) < n := by omega
      obtain ⟨z, hz⟩ : ∃ z, xs.getD k 0 = z := ⟨_, rfl⟩
      obtain ⟨y, hy⟩ : ∃ y, ys.getD k 0 = y := ⟨_, rfl⟩
      rw [hz] at hcell
      rw [hy] at hcell2
      have HZ := Lib.hid hz
      have HY := Lib.hid hy
      have BD := Lib.hid ((Below.refl w.heap.size w).trans (below_drew hb.out))
      clear hz hy
      cases hq : (z == y)
      · have HN := Lib.hid (show decide (xs = ys) = false by
          rw [decide_eq_false_iff_not]; intro e
          have : z = y := by rw [← HZ.out, ← HY.out, e]
          rw [this] at hq; simp at hq)
        go_wp2
        go_region
        go_wp2
        go_ret
        exact ⟨by rw [HN.out]; rfl, BD.out⟩
      · have HN := Lib.hid (show z = y by simpa using hq)
        go_wp2
        go_region
        go_wp2
        go_roundw
        case rel => exact ⟨k + 1, by omega, by go_num, Lib.hid (fun j hj => by
          by_cases q : j = k
          · subst q; rw [HZ.out, HY.out]; exact HN.out
          · exact hv.out j (by omega)), BD⟩
        case measure => simp [intOf]; omega
    · obtain rfl : k = n := by omega
      have HA := Lib.hid (show decide (xs = ys) = true by
        rw [decide_eq_true_iff]; exact ints_eq_of (by rw [HL.out, HL2.out]) (fun j hj => hv.out j (by rw [← HL.out]; exact hj)))
      go_wp2
      go_ret
      exact ⟨by rw [HA.out]; rfl, hb.out⟩
end Go.Proofs.YtelipjjjlgnjoaaGreatDoor
