import Derived.Test.YtelipjjjlgnjoaaGreatDoorMgM
import Derived.Deep.RegionHeld3
namespace Go.Proofs.YtelipjjjlgnjoaaGreatDoor
open Go.RowKit Go.MapKept Go.Shelf
attribute [local go_sem] Oper.semAt_some
set_option maxRecDepth 100000
set_option linter.unusedSimpArgs false
set_option linter.unusedVariables false
def atV (l : List Int) (i : Int) : Int := match idxI l i with | some k => (k : Int) | none => -1
theorem atV_none {l : List Int} {i : Int} (h : idxI l i = none) : atV l i = -1 := by unfold atV; rw [h]
theorem atV_some {l : List Int} {i : Int} {k : Nat} (h : idxI l i = some k) : atV l i = (k : Int) := by unfold atV; rw [h]
theorem fnd_idx : ∀ (l : List Blk) (i : Int), fnd l i = (idxI (bids l) i).bind (fun k => l[k]?)
  | [], i => rfl
  | b :: l, i => by
    have ih := fnd_idx l i
    by_cases hb : b.id = i
    · simp [fnd, bids, idxI, hb]
    · have h2 : (b.id == i) = false := by simpa using hb
      show (b :: l).find? _ = _
      rw [List.find?_cons, h2]
      show fnd l i = _
      rw [ih]
      show _ = (idxI (b.id :: bids l) i).bind _
      rw [show idxI (b.id :: bids l) i = (idxI (bids l) i).map (· + 1) from by simp [idxI, hb]]
      cases idxI (bids l) i <;> simp
theorem bids_at {es : List BE} {j : Nat} {e : BE} (h : es[j]? = some e) : (bids (blks es))[j]? = some e.1.id := by
  unfold bids blks; rw [List.getElem?_map, List.getElem?_map, h]; rfl
theorem bids_len (es : List BE) : (bids (blks es)).length = es.length := by simp [bids, blks]
theorem at_any (a : Option Addr) (n c : Nat) (es : List BE) (i : Int) (w : World) (h : IsBlks w a n c es) :
    Calls Tryz.prog 22 #[.slice a n c, .int .i64 i] w fun x w' => x = .returned (.int .i64 (atV (bids (blks es)) i)) ∧ Below w.heap.size w w' := by
  have hcm := h.2.2.1
  have hnc := h.2.1
  have HL := Lib.hid h.1
  have H := Lib.hid h
  unfold maxLen at hcm
  clear h
  go_enter Tryz.func22, Tryz.ntmps22
  go_wp2
  go_loopw [5] (fun x wr => ∃ k : Nat, k ≤ n ∧ x = .int .i64 k ∧ Hid (∀ j, j < k → (bids (blks es))[j]? ≠ some i) ∧ Hid (Below w.heap.size w wr)) (fun x _ => n - (intOf x).toNat)
  case atStart => exact ⟨0, Nat.zero_le _, rfl, Lib.hid (fun j hj => by omega), Lib.hid (Below.refl _ _)⟩
  case round =>
    obtain ⟨k, hk, rfl, hv, hb⟩ := hrel
    by_cases hlt : k < n
    · obtain ⟨b, off, e, rfl, he, hok, h9⟩ := (H.out.over hb.out).at_ hlt
      have HE := Lib.hid (bids_at he)
      obtain ⟨p0, p1, p2, p3, p4, p5, p6, p7, p8⟩ := h9
      have g1 : (k : Int) < n := by omega
      clear he hok p1 p2 p3 p4 p5 p6 p7 p8
      cases hq : (e.1.id == i)
      · have HN := Lib.hid (show e.1.id ≠ i by simpa using hq)
        go_wp2
        go_roundw
        case rel => exact ⟨k + 1, by omega, by go_num, Lib.hid (fun j hj => by
          by_cases q : j = k
          · subst q; rw [HE.out]; intro hc; exact HN.out (Option.some.inj hc)
          · exact hv.out j (by omega)), hb⟩
        case measure => simp [intOf]; omega
      · have HN := Lib.hid (show e.1.id = i by simpa using hq)
        have HA := Lib.hid (atV_some (idxI_of (by rw [HE.out, HN.out]) hv.out))
        go_wp2
        go_ret
        exact ⟨by rw [HA.out]; rfl, hb.out⟩
    · obtain rfl : k = n := by omega
      have HA := Lib.hid (atV_none (l := bids (blks es)) (i := i) (idxI_none.2 (fun hm => by
        obtain ⟨j, hj⟩ := List.getElem?_of_mem hm
        have := (List.getElem?_eq_some_iff.1 hj).1
        rw [bids_len, HL.out] at this
        exact hv.out j this hj)))
      go_wp2
      go_ret
      exact ⟨by rw [HA.out]; rfl, hb.out⟩
theorem refat_any (a : Option Addr) (n c : Nat) (es : List BE) (i : Int) (w : World) (h : IsBlks w a n c es) :
    Calls Tryz.prog 35 #[.slice a n c, .int .i64 i] w fun x w' => x = .returned (.int .i64 (atV (bids (blks es)) i)) ∧ Below w.heap.size w w' := by
  have hcm := h.2.2.1
  have hnc := h.2.1
  have HL := Lib.hid h.1
  have H := Lib.hid h
  unfold maxLen at hcm
  clear h
  go_enter Tryz.func35, Tryz.ntmps35
  go_wp2
  go_loopw [5] (fun x wr => ∃ k : Nat, k ≤ n ∧ x = .int .i64 k ∧ Hid (∀ j, j < k → (bids (blks es))[j]? ≠ some i) ∧ Hid (Below w.heap.size w wr)) (fun x _ => n - (intOf x).toNat)
  case atStart => exact ⟨0, Nat.zero_le _, rfl, Lib.hid (fun j hj => by omega), Lib.hid (Below.refl _ _)⟩
  case round =>
    obtain ⟨k, hk, rfl, hv, hb⟩ := hrel
    by_cases hlt : k < n
    · obtain ⟨b, off, e, rfl, he, hok, h9⟩ := (H.out.over hb.out).at_ hlt
      have HE := Lib.hid (bids_at he)
      obtain ⟨p0, p1, p2, p3, p4, p5, p6, p7, p8⟩ := h9
      have g1 : (k : Int) < n := by omega
      clear he hok p1 p2 p3 p4 p5 p6 p7 p8
      cases hq : (e.1.id == i)
      · have HN := Lib.hid (show e.1.id ≠ i by simpa using hq)
        go_wp2
        go_roundw
        case rel => exact ⟨k + 1, by omega, by go_num, Lib.hid (fun j hj => by
          by_cases q : j = k
          · subst q; rw [HE.out]; intro hc; exact HN.out (Option.some.inj hc)
          · exact hv.out j (by omega)), hb⟩
        case measure => simp [intOf]; omega
      · have HN := Lib.hid (show e.1.id = i by simpa using hq)
        have HA := Lib.hid (atV_some (idxI_of (by rw [HE.out, HN.out]) hv.out))
        go_wp2
        go_ret
        exact ⟨by rw [HA.out]; rfl, hb.out⟩
    · obtain rfl : k = n := by omega
      have HA := Lib.hid (atV_none (l := bids (blks es)) (i := i) (idxI_none.2 (fun hm => by
        obtain ⟨j, hj⟩ := List.getElem?_of_mem hm
        have := (List.getElem?_eq_some_iff.1 hj).1
        rw [bids_len, HL.out] at this
        exact hv.out j this hj)))
      go_wp2
      go_ret
      exact ⟨by rw [HA.out]; rfl, hb.out⟩
set_option maxHeartbeats 4000000 in
theorem refequal_any (a : Option Addr) (n c : Nat) (es : List BE) (a2 : Option Addr) (n2 c2 : Nat) (fs : List BE) (i : Int) (w : World) (h : IsBlks w a n c es) (h2 : IsBlks w a2 n2 c2 fs) :
    Calls Tryz.prog 56 #[.slice a n c, .slice a2 n2 c2, .int .i64 i] w fun x w' => x = .returned (.bool (eqO (fnd (blks es) i) (fnd (blks fs) i))) ∧ Below w.heap.size w w' := by
  have hcm := h.2.2.1
  have hnc := h.2.1
  have hcm2 := h2.2.2.1
  have hnc2 := h2.2.1
  have HL := Lib.hid h.1
  have HL2 := Lib.hid h2.1
  have H := Lib.hid h
  have H2 := Lib.hid h2
  unfold maxLen at hcm hcm2
  clear h h2
  go_enter Tryz.func56, Tryz.ntmps56
  go_wp2_with fail
  refine (refat_any a n c es i w H.out).mono ?_
  rintro x w1 ⟨rfl, b1⟩
  have B1 := Lib.hid b1
  have HF1 := Lib.hid (fnd_idx (blks es) i)
  clear b1
  cases hi : idxI (bids (blks es)) i with
  | none =>
    rw [atV_none hi]
    have F1 := Lib.hid (show fnd (blks es) i = none by rw [HF1.out, hi]; rfl)
    clear hi HF1
    go_wp2_with fail
    refine (refat_any a2 n2 c2 fs i w1 (H2.out.over B1.out)).mono ?_
    rintro x w2 ⟨rfl, b2⟩
    have B2 := Lib.hid (bel2 B1.out b2)
    have HF2 := Lib.hid (fnd_idx (blks fs) i)
    clear b2
    cases hi : idxI (bids (blks fs)) i with
    | none =>
      rw [atV_none hi]
      have F2 := Lib.hid (show fnd (blks fs) i = none by rw [HF2.out, hi]; rfl)
      clear hi HF2
      go_wp2
      go_ret
      exact ⟨by rw [F1.out, F2.out]; rfl, B2.out⟩
    | some m =>
      rw [atV_some hi]
      have hm : m < fs.length := by have := idxI_lt hi; rwa [bids_len] at this
      have hme : (blks fs)[m]? = some fs[m].1 := by unfold blks; rw [List.getElem?_map, List.getElem?_eq_getElem hm]; rfl
      have F2 := Lib.hid (show fnd (blks fs) i = some fs[m].1 by rw [HF2.out, hi]; exact hme)
      clear hi HF2 hme
      go_wp2
      go_ret
      exact ⟨by rw [F1.out, F2.out]; rfl, B2.out⟩
  | some k =>
    rw [atV_some hi]
    have hkl : k < es.length := by have := idxI_lt hi; rwa [bids_len] at this
    have hke : (blks es)[k]? = some es[k].1 := by unfold blks; rw [List.getElem?_map, List.getElem?_eq_getElem hkl]; rfl
    have F1 := Lib.hid (show fnd (blks es) i = some es[k].1 by rw [HF1.out, hi]; exact hke)
    have hk : k < n := by rw [HL.out] at hkl; exact hkl
    clear hi HF1 hke
    go_wp2_with fail
    refine (refat_any a2 n2 c2 fs i w1 (H2.out.over B1.out)).mono ?_
    rintro x w2 ⟨rfl, b2⟩
    have B2 := Lib.hid (bel2 B1.out b2)
    have HF2 := Lib.hid (fnd_idx (blks fs) i)
    clear b2
    cases hi : idxI (bids (blks fs)) i with
    | none =>
      rw [atV_none hi]
      have F2 := Lib.hid (show fnd (blks fs) i = none by rw [HF2.out, hi]; rfl)
      clear hi HF2
      go_wp2
      go_ret
      exact ⟨by rw [F1.out, F2.out]; rfl, B2.out⟩
    | some m =>
      rw [atV_some hi]
      have hml : m < fs.length := by have := idxI_lt hi; rwa [bids_len] at this
      have hme : (blks fs)[m]? = some fs[m].1 := by unfold blks; rw [List.getElem?_map, List.getElem?_eq_getElem hml]; rfl
      have F2 := Lib.hid (show fnd (blks fs) i = some fs[m].1 by rw [HF2.out, hi]; exact hme)
      have hm : m < n2 := by rw [HL2.out] at hml; exact hml
      clear hi HF2 hme
      obtain ⟨b, off, d, rfl, hd, hok, h9⟩ := (H.out.over B2.out).at_ hk
      obtain ⟨b2, off2, e, rfl, he, hok2, h92⟩ := (H2.out.over B2.out).at_ hm
      have HD := Lib.hid (show es[k] = d by rw [List.getElem?_eq_getElem hkl] at hd; exact Option.some.inj hd)
      have HE := Lib.hid (show fs[m] = e by rw [List.getElem?_eq_getElem hml] at he; exact Option.some.inj he)
      have LD := Lib.hid hok.1
      have LE := Lib.hid hok2.1
      obtain ⟨p0, p1, p2, p3, p4, p5, p6, p7, p8⟩ := h9
      obtain ⟨q0, q1, q2, q3, q4, q5, q6, q7, q8⟩ := h92
      have HOK := Lib.hid hok
      have HOK2 := Lib.hid hok2
      clear hd he hok hok2
      go_wp2
      obtain ⟨wh, hwh⟩ : ∃ wh, wh = w2 := ⟨_, rfl⟩
      subst hwh
      have bc := Below.refl wh.heap.size wh
      refine wp_region_held_drew (S := fun w' => Below wh.heap.size wh w' ∧ w'.cell? ⟨b, off + k * 9, none⟩ = some (.int .i64 d.1.id) ∧ w'.cell? ⟨b, off + k * 9 + 1, none⟩ = some (.int .i64 d.1.kd) ∧ w'.cell? ⟨b, off + k * 9 + 2, none⟩ = some (.string ⟨d.1.tx.toArray⟩) ∧ w'.cell? ⟨b, off + k * 9 + 3, none⟩ = some (.int .i64 d.1.st) ∧ w'.cell? ⟨b, off + k * 9 + 4, none⟩ = some (.int .i64 d.1.rf) ∧ w'.cell? ⟨b, off + k * 9 + 5, none⟩ = some (.int .i64 d.1.lb.u) ∧ w'.cell? ⟨b, off + k * 9 + 6, none⟩ = some (.slice d.2.1 d.2.2.1 d.2.2.2) ∧ w'.cell? ⟨b, off + k * 9 + 7, none⟩ = some (.int .i64 d.1.lb.ap) ∧ w'.cell? ⟨b, off + k * 9 + 8, none⟩ = some (.int .i64 d.1.lb.d) ∧ w'.cell? ⟨b2, off2 + m * 9, none⟩ = some (.int .i64 e.1.id) ∧ w'.cell? ⟨b2, off2 + m * 9 + 1, none⟩ = some (.int .i64 e.1.kd) ∧ w'.cell? ⟨b2, off2 + m * 9 + 2, none⟩ = some (.string ⟨e.1.tx.toArray⟩) ∧ w'.cell? ⟨b2, off2 + m * 9 + 3, none⟩ = some (.int .i64 e.1.st) ∧ w'.cell? ⟨b2, off2 + m * 9 + 4, none⟩ = some (.int .i64 e.1.rf) ∧ w'.cell? ⟨b2, off2 + m * 9 + 5, none⟩ = some (.int .i64 e.1.lb.u) ∧ w'.cell? ⟨b2, off2 + m * 9 + 6, none⟩ = some (.slice e.2.1 e.2.2.1 e.2.2.2) ∧ w'.cell? ⟨b2, off2 + m * 9 + 7, none⟩ = some (.int .i64 e.1.lb.ap) ∧ w'.cell? ⟨b2, off2 + m * 9 + 8, none⟩ = some (.int .i64 e.1.lb.d)) (by kernel_rfl) ?_ (fun h0 => ?_)
      · exact ⟨bc.drew, p0, p1, p2, p3, p4, p5, p6, p7, p8, q0, q1, q2, q3, q4, q5, q6, q7, q8⟩
      refine wpAnyH_take (i := 0) (v := ?_) rfl (by kernel_rfl) (by kernel_rfl) (by kernel_rfl) (fun _ _ _ h => h) (Or.inl ⟨by rfl, ?_⟩) h0 ?_
      rotate_left
      · (intro w hSw; (try dsimp only at hSw); go_simp); all_goals (with_reducible rfl)
      try simp only [List.getElem_toArray, List.getElem_cons_succ, List.getElem_cons_zero, Act.put, List.setIfInBounds_toArray, List.set_cons_zero, List.set_cons_succ]
      refine wpAnyH_take (i := 1) (v := ?_) rfl (by kernel_rfl) (by kernel_rfl) (by kernel_rfl) (fun _ _ _ h => h) (Or.inl ⟨by rfl, ?_⟩) h0 ?_
      rotate_left
      · (intro w hSw; (try dsimp only at hSw); go_simp); all_goals (with_reducible rfl)
      try simp only [List.getElem_toArray, List.getElem_cons_succ, List.getElem_cons_zero, Act.put, List.setIfInBounds_toArray, List.set_cons_zero, List.set_cons_succ]
      refine wpAnyH_take (i := 2) (v := ?_) rfl (by kernel_rfl) (by kernel_rfl) (by kernel_rfl) (fun _ _ _ h => h) (Or.inl ⟨by rfl, ?_⟩) h0 ?_
      rotate_left
      · (intro w hSw; (try dsimp only at hSw); go_simp); all_goals (with_reducible rfl)
      try simp only [List.getElem_toArray, List.getElem_cons_succ, List.getElem_cons_zero, Act.put, List.setIfInBounds_toArray, List.set_cons_zero, List.set_cons_succ]
      refine wpAnyH_take (i := 3) (v := ?_) rfl (by kernel_rfl) (by kernel_rfl) (by kernel_rfl) (fun _ _ _ h => h) (Or.inl ⟨by rfl, ?_⟩) h0 ?_
      rotate_left
      · (intro w hSw; (try dsimp only at hSw); go_simp); all_goals (with_reducible rfl)
      try simp only [List.getElem_toArray, List.getElem_cons_succ, List.getElem_cons_zero, Act.put, List.setIfInBounds_toArray, List.set_cons_zero, List.set_cons_succ]
      refine wpAnyH_take (i := 4) (v := ?_) rfl (by kernel_rfl) (by kernel_rfl) (by kernel_rfl) (fun _ _ _ h => h) (Or.inl ⟨by rfl, ?_⟩) h0 ?_
      rotate_left
      · (intro w hSw; (try dsimp only at hSw); go_simp); all_goals (with_reducible rfl)
      try simp only [List.getElem_toArray, List.getElem_cons_succ, List.getElem_cons_zero, Act.put, List.setIfInBounds_toArray, List.set_cons_zero, List.set_cons_succ]
      refine wpAnyH_take (i := 5) (v := ?_) rfl (by kernel_rfl) (by kernel_rfl) (by kernel_rfl) (fun _ _ _ h => h) (Or.inl ⟨by rfl, ?_⟩) h0 ?_
      rotate_left
      · (intro w hSw; (try dsimp only at hSw); go_simp); all_goals (with_reducible rfl)
      try simp only [List.getElem_toArray, List.getElem_cons_succ, List.getElem_cons_zero, Act.put, List.setIfInBounds_toArray, List.set_cons_zero, List.set_cons_succ]
      refine wpAnyH_take (i := 6) (v := ?_) rfl (by kernel_rfl) (by kernel_rfl) (by kernel_rfl) (fun _ _ _ h => h) (Or.inl ⟨by rfl, ?_⟩) h0 ?_
      rotate_left
      · (intro w hSw; (try dsimp only at hSw); go_simp); all_goals (with_reducible rfl)
      try simp only [List.getElem_toArray, List.getElem_cons_succ, List.getElem_cons_zero, Act.put, List.setIfInBounds_toArray, List.set_cons_zero, List.set_cons_succ]
      refine wpAnyH_take (i := 7) (v := ?_) rfl (by kernel_rfl) (by kernel_rfl) (by kernel_rfl) (fun _ _ _ h => h) (Or.inl ⟨by rfl, ?_⟩) h0 ?_
      rotate_left
      · (intro w hSw; (try dsimp only at hSw); go_simp); all_goals (with_reducible rfl)
      try simp only [List.getElem_toArray, List.getElem_cons_succ, List.getElem_cons_zero, Act.put, List.setIfInBounds_toArray, List.set_cons_zero, List.set_cons_succ]
      refine wpAnyH_ready (rs := [8]) (by kernel_rfl) (by simp) ?_
      refine AllReadyH.cons rfl (fun K hK => ?_) AllReadyH.nil
      go_simp
      go_at_call 36
      refine (refsame_any d.1 e.1 d.2.1 d.2.2.1 d.2.2.2 e.2.1 e.2.2.1 e.2.2.2 _ (LD.out.over h0.1) (LE.out.over h0.1)).mono ?_
      rintro e wq0 ⟨rfl, bq⟩
      go_wp2_with fail
      have bX := bel2 h0.1 bq
      refine hK.out _ _ ?_ (fun h1 => ?_)
      · exact ⟨bX, cellOver bX p0, cellOver bX p1, cellOver bX p2, cellOver bX p3, cellOver bX p4, cellOver bX p5, cellOver bX p6, cellOver bX p7, cellOver bX p8, cellOver bX q0, cellOver bX q1, cellOver bX q2, cellOver bX q3, cellOver bX q4, cellOver bX q5, cellOver bX q6, cellOver bX q7, cellOver bX q8⟩
      clear hK K h0 bX bq
      try simp only [List.getElem_toArray, List.getElem_cons_succ, List.getElem_cons_zero, Act.put, List.setIfInBounds_toArray, List.set_cons_zero, List.set_cons_succ]
      refine wpAnyH_take (i := 9) (v := ?_) rfl (by kernel_rfl) (by kernel_rfl) (by kernel_rfl) (fun _ _ _ h => h) (Or.inl ⟨by rfl, ?_⟩) h1 ?_
      rotate_left
      · (intro w hSw; (try dsimp only at hSw); go_simp); all_goals (with_reducible rfl)
      try simp only [List.getElem_toArray, List.getElem_cons_succ, List.getElem_cons_zero, Act.put, List.setIfInBounds_toArray, List.set_cons_zero, List.set_cons_succ]
      refine wpAnyH_done (by kernel_rfl) ?_ _
      have BX := Lib.hid (bel2 B2.out h1.1)
      clear h1 p0 p1 p2 p3 p4 p5 p6 p7 p8 q0 q1 q2 q3 q4 q5 q6 q7 q8
      go_wp2
      go_ret
      exact ⟨by rw [F1.out, F2.out, HD.out, HE.out]; rfl, BX.out⟩
end Go.Proofs.YtelipjjjlgnjoaaGreatDoor
