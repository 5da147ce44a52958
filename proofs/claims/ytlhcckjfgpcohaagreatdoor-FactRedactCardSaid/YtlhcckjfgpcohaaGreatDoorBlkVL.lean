import Derived.Test.YtlhcckjfgpcohaaGreatDoorBlkS
import Derived.Deep.RegionHeld3
namespace Go.Proofs.YtlhcckjfgpcohaaGreatDoor
open Go.RowKit Go.MapKept
set_option maxRecDepth 100000
set_option linter.unusedSimpArgs false
set_option linter.unusedVariables false
theorem vL_bad {es : List BE} {k : Nat} {e : BE} (he : es[k]? = some e) (h : vB e.1 = false) : vL (blks es) = false := by
  have : (blks es).all vB = false := by
    rw [List.all_eq_false]
    exact ⟨e.1, List.mem_map_of_mem (List.mem_of_getElem? he), by simp [h]⟩
  simp [vL, this]
theorem vL_long {es : List BE} (h : 24 < es.length) : vL (blks es) = false := by
  have : decide ((blks es).length ≤ 24) = false := by simp [blks]; omega
  simp [vL, this]
theorem vL_dup {es : List BE} {k : Nat} {e : BE} (he : es[k]? = some e) (h : hasB (es.take k) e.1.id = true) : vL (blks es) = false := by
  have hn : ¬ ((blks es).map Blk.id).Nodup := by
    intro hn
    rw [hasB_iff] at h
    simp only [blks, List.map_map, List.mem_map] at h hn
    obtain ⟨f, hf, hfe⟩ := h
    obtain ⟨j, hj, hfj⟩ := List.getElem_of_mem hf
    simp only [List.length_take] at hj
    obtain ⟨hk, hke⟩ := List.getElem?_eq_some_iff.1 he
    have h1 := List.pairwise_iff_getElem.1 hn j k (by simp; omega) (by simp; omega) (by omega)
    apply h1
    simp only [List.getElem_map, Function.comp]
    rw [hke]
    simp only [List.getElem_take] at hfj
    rw [hfj]
    exact hfe
  simp [vL, hn]
theorem vL_yes {es : List BE} (hl : es.length ≤ 24) (h : ∀ j e, j < es.length → es[j]? = some e → vB e.1 = true ∧ hasB (es.take j) e.1.id = false) : vL (blks es) = true := by
  simp only [vL, Bool.and_eq_true, decide_eq_true_eq, List.all_eq_true]
  refine ⟨by simpa [blks] using hl, ?_, ?_⟩
  · intro b hb
    obtain ⟨e, he, rfl⟩ := List.mem_map.1 hb
    obtain ⟨j, hj, rfl⟩ := List.getElem_of_mem he
    exact (h j _ hj (List.getElem?_eq_getElem hj)).1
  · show ((blks es).map Blk.id).Pairwise _
    rw [List.pairwise_iff_getElem]
    intro i j hi hj hij
    simp only [blks, List.length_map] at hi hj
    have h2 := (h j _ hj (List.getElem?_eq_getElem hj)).2
    intro q
    rw [← Bool.not_eq_true, hasB_iff] at h2
    apply h2
    simp only [blks, List.map_map, List.getElem_map, Function.comp, List.mem_map] at q ⊢
    refine ⟨es[i], ?_, q⟩
    rw [List.mem_iff_getElem]
    exact ⟨i, by simp; omega, by simp⟩
set_option maxHeartbeats 8000000 in
theorem vlist_any (a : Option Addr) (n c : Nat) (es : List BE) (w : World) (h : IsBlks w a n c es) :
    Calls Tryz.prog 86 #[.slice a n c] w fun x w' => x = .returned (.bool (vL (blks es))) ∧ Below w.heap.size w w' := by
  have hcm := h.2.2.1
  have hnc := h.2.1
  have HL := Lib.hid h.1
  have H := Lib.hid h
  unfold maxLen at hcm
  clear h
  by_cases h24 : 24 < n
  · have HN := Lib.hid (vL_long (es := es) (by rw [HL.out]; exact h24))
    go_enter Tryz.func86, Tryz.ntmps86
    go_wp2
    go_ret
    exact ⟨ret_bool HN.out.symm, Below.refl _ _⟩
  · go_enter Tryz.func86, Tryz.ntmps86
    go_wp2
    go_loopw [10, 3, 4] (fun i _ _ wr => ∃ k : Nat, k ≤ n ∧ i = .int .i64 k ∧ Hid (∀ j e, j < k → es[j]? = some e → vB e.1 = true ∧ hasB (es.take j) e.1.id = false) ∧ Below w.heap.size w wr) (fun i _ _ _ => n - (intOf i).toNat)
    case atStart => exact ⟨0, Nat.zero_le _, rfl, Lib.hid (fun j e hj => by omega), Below.refl _ _⟩
    case round =>
      obtain ⟨k, hk, rfl, hall, bw⟩ := hrel
      by_cases hlt : k < n
      · obtain ⟨b, off, e, rfl, he, hok, h9⟩ := (H.out.over bw).at_ hlt
        have HE := Lib.hid he
        have HO := Lib.hid hok
        obtain ⟨p0, p1, p2, p3, p4, p5, p6, p7, p8⟩ := h9
        clear he hok
        have hltn : (k : Int) < n := by omega
        go_wp2_with fail
        have HB := Lib.hid (heap_alloc_new wr (.cells (elB e).toArray 49))
        have B2 := below_alloc wr (.cells (elB e).toArray 49)
        have hgk : wr.heap.size < (wr.alloc (.cells (elB e).toArray 49)).heap.size := by simp
        obtain ⟨W1, hW1⟩ : ∃ W1, wr.alloc (.cells #[.int .i64 e.1.id, .int .i64 e.1.kd, .string ⟨e.1.tx.toArray⟩, .int .i64 e.1.st, .int .i64 e.1.rf, .int .i64 e.1.lb.u, .slice e.2.1 e.2.2.1 e.2.2.2, .int .i64 e.1.lb.ap, .int .i64 e.1.lb.d] 49) = W1 := ⟨_, rfl⟩
        rw [hW1]
        rw [show wr.alloc (.cells (elB e).toArray 49) = W1 from hW1] at HB B2 hgk
        obtain ⟨g0, hg0⟩ : ∃ g0, g0 = wr.heap.size := ⟨_, rfl⟩
        rw [← hg0] at HB hgk ⊢
        clear hW1 hg0
        obtain ⟨r0, r1, r2, r3, r4, r5, r6, r7, r8⟩ := Nine.of_block HB.out
        simp only [Nat.zero_add] at r1 r2 r3 r4 r5 r6 r7 r8
        have BW := Lib.hid (bel2 bw B2)
        have HB2 := Lib.hid B2
        have HI := Lib.hid (((H.out.over bw).over B2).take (k := k) (by omega))
        clear bw B2 p0 p1 p2 p3 p4 p5 p6 p7 p8
        cases hv : vB e.1
        · have HV := Lib.hid hv
          clear hv
          have bc := Below.refl W1.heap.size W1
          refine wp_region_held_drew (S := fun w' => Below W1.heap.size W1 w' ∧ w'.cell? ⟨g0, 0, none⟩ = some (.int .i64 e.1.id) ∧ w'.cell? ⟨g0, 1, none⟩ = some (.int .i64 e.1.kd) ∧ w'.cell? ⟨g0, 2, none⟩ = some (.string ⟨e.1.tx.toArray⟩) ∧ w'.cell? ⟨g0, 3, none⟩ = some (.int .i64 e.1.st) ∧ w'.cell? ⟨g0, 4, none⟩ = some (.int .i64 e.1.rf) ∧ w'.cell? ⟨g0, 5, none⟩ = some (.int .i64 e.1.lb.u) ∧ w'.cell? ⟨g0, 6, none⟩ = some (.slice e.2.1 e.2.2.1 e.2.2.2) ∧ w'.cell? ⟨g0, 7, none⟩ = some (.int .i64 e.1.lb.ap) ∧ w'.cell? ⟨g0, 8, none⟩ = some (.int .i64 e.1.lb.d)) (by kernel_rfl) ?_ (fun h0 => ?_)
          · exact ⟨bc.drew, r0, r1, r2, r3, r4, r5, r6, r7, r8⟩
          refine wpAnyH_take (i := 0) (v := ?_) rfl (by kernel_rfl) (by kernel_rfl) (by kernel_rfl) (fun _ _ _ h => h) (Or.inl ⟨by rfl, ?_⟩) h0 ?_
          rotate_left
          · (intro w hSw; (try dsimp only at hSw); go_simp); all_goals (with_reducible rfl)
          try simp only [List.getElem_toArray, List.getElem_cons_succ, List.getElem_cons_zero, Act.put, List.setIfInBounds_toArray, List.set_cons_zero, List.set_cons_succ]
          refine wpAnyH_ready (rs := [1]) (by kernel_rfl) (by simp) ?_
          refine AllReadyH.cons rfl (fun K hK => ?_) AllReadyH.nil
          go_simp
          go_at_call 102
          refine ((HV.out ▸ bvalid_be e _ ((HO.out.over HB2.out).over h0.1) : Calls _ _ _ _ (fun x w' => x = .returned (.bool false) ∧ Below _ _ w'))).mono ?_
          rintro e wq0 ⟨rfl, bq⟩
          go_wp2_with fail
          have bX := bel2 h0.1 bq
          refine hK.out _ _ ?_ (fun h1 => ?_)
          · exact ⟨bX, cellOver bX r0, cellOver bX r1, cellOver bX r2, cellOver bX r3, cellOver bX r4, cellOver bX r5, cellOver bX r6, cellOver bX r7, cellOver bX r8⟩
          clear hK K h0 bX bq
          try simp only [List.getElem_toArray, List.getElem_cons_succ, List.getElem_cons_zero, Act.put, List.setIfInBounds_toArray, List.set_cons_zero, List.set_cons_succ]
          refine wpAnyH_take (i := 2) (v := ?_) rfl (by kernel_rfl) (by kernel_rfl) (by kernel_rfl) (fun _ _ _ h => h) (Or.inl ⟨by rfl, ?_⟩) h1 ?_
          rotate_left
          · (intro w hSw; (try dsimp only at hSw); go_simp); all_goals (with_reducible rfl)
          try simp only [List.getElem_toArray, List.getElem_cons_succ, List.getElem_cons_zero, Act.put, List.setIfInBounds_toArray, List.set_cons_zero, List.set_cons_succ]
          refine wpAnyH_take (i := 3) (v := ?_) rfl (by kernel_rfl) (by kernel_rfl) (by kernel_rfl) (fun _ _ _ h => h) (Or.inl ⟨by rfl, ?_⟩) h1 ?_
          rotate_left
          · (intro w hSw; (try dsimp only at hSw); go_simp); all_goals (with_reducible rfl)
          try simp only [List.getElem_toArray, List.getElem_cons_succ, List.getElem_cons_zero, Act.put, List.setIfInBounds_toArray, List.set_cons_zero, List.set_cons_succ]
          refine wpAnyH_take (i := 4) (v := undef) rfl (by kernel_rfl) (by kernel_rfl) (by kernel_rfl) (fun _ _ _ h => h) (Or.inr ⟨by rfl, rfl⟩) h1 ?_
          try simp only [List.getElem_toArray, List.getElem_cons_succ, List.getElem_cons_zero, Act.put, List.setIfInBounds_toArray, List.set_cons_zero, List.set_cons_succ]
          refine wpAnyH_take (i := 5) (v := undef) rfl (by kernel_rfl) (by kernel_rfl) (by kernel_rfl) (fun _ _ _ h => h) (Or.inr ⟨by rfl, rfl⟩) h1 ?_
          try simp only [List.getElem_toArray, List.getElem_cons_succ, List.getElem_cons_zero, Act.put, List.setIfInBounds_toArray, List.set_cons_zero, List.set_cons_succ]
          refine wpAnyH_take (i := 6) (v := undef) rfl (by kernel_rfl) (by kernel_rfl) (by kernel_rfl) (fun _ _ _ h => h) (Or.inr ⟨by rfl, rfl⟩) h1 ?_
          try simp only [List.getElem_toArray, List.getElem_cons_succ, List.getElem_cons_zero, Act.put, List.setIfInBounds_toArray, List.set_cons_zero, List.set_cons_succ]
          refine wpAnyH_take (i := 7) (v := undef) rfl (by kernel_rfl) (by kernel_rfl) (by kernel_rfl) (fun _ _ _ h => h) (Or.inr ⟨by rfl, rfl⟩) h1 ?_
          try simp only [List.getElem_toArray, List.getElem_cons_succ, List.getElem_cons_zero, Act.put, List.setIfInBounds_toArray, List.set_cons_zero, List.set_cons_succ]
          refine wpAnyH_take (i := 8) (v := undef) rfl (by kernel_rfl) (by kernel_rfl) (by kernel_rfl) (fun _ _ _ h => h) (Or.inr ⟨by rfl, rfl⟩) h1 ?_
          try simp only [List.getElem_toArray, List.getElem_cons_succ, List.getElem_cons_zero, Act.put, List.setIfInBounds_toArray, List.set_cons_zero, List.set_cons_succ]
          refine wpAnyH_take (i := 9) (v := undef) rfl (by kernel_rfl) (by kernel_rfl) (by kernel_rfl) (fun _ _ _ h => h) (Or.inr ⟨by rfl, rfl⟩) h1 ?_
          try simp only [List.getElem_toArray, List.getElem_cons_succ, List.getElem_cons_zero, Act.put, List.setIfInBounds_toArray, List.set_cons_zero, List.set_cons_succ]
          refine wpAnyH_take (i := 10) (v := ?_) rfl (by kernel_rfl) (by kernel_rfl) (by kernel_rfl) (fun _ _ _ h => h) (Or.inl ⟨by rfl, ?_⟩) h1 ?_
          rotate_left
          · (intro w hSw; (try dsimp only at hSw); go_simp); all_goals (with_reducible rfl)
          try simp only [List.getElem_toArray, List.getElem_cons_succ, List.getElem_cons_zero, Act.put, List.setIfInBounds_toArray, List.set_cons_zero, List.set_cons_succ]
          refine wpAnyH_done (by kernel_rfl) ?_ _
          have HN := Lib.hid (vL_bad (es := es) HE.out HV.out)
          have bz := h1.1
          clear h1
          go_wp2
          go_ret
          exact ⟨ret_bool HN.out.symm, bel2 BW.out bz⟩
        · have HV := Lib.hid hv
          clear hv
          have hkc : (k : Int) ≤ c := by omega
          have bc := Below.refl W1.heap.size W1
          refine wp_region_held_drew (S := fun w' => Below W1.heap.size W1 w' ∧ w'.cell? ⟨g0, 0, none⟩ = some (.int .i64 e.1.id) ∧ w'.cell? ⟨g0, 1, none⟩ = some (.int .i64 e.1.kd) ∧ w'.cell? ⟨g0, 2, none⟩ = some (.string ⟨e.1.tx.toArray⟩) ∧ w'.cell? ⟨g0, 3, none⟩ = some (.int .i64 e.1.st) ∧ w'.cell? ⟨g0, 4, none⟩ = some (.int .i64 e.1.rf) ∧ w'.cell? ⟨g0, 5, none⟩ = some (.int .i64 e.1.lb.u) ∧ w'.cell? ⟨g0, 6, none⟩ = some (.slice e.2.1 e.2.2.1 e.2.2.2) ∧ w'.cell? ⟨g0, 7, none⟩ = some (.int .i64 e.1.lb.ap) ∧ w'.cell? ⟨g0, 8, none⟩ = some (.int .i64 e.1.lb.d)) (by kernel_rfl) ?_ (fun h0 => ?_)
          · exact ⟨bc.drew, r0, r1, r2, r3, r4, r5, r6, r7, r8⟩
          refine wpAnyH_take (i := 0) (v := ?_) rfl (by kernel_rfl) (by kernel_rfl) (by kernel_rfl) (fun _ _ _ h => h) (Or.inl ⟨by rfl, ?_⟩) h0 ?_
          rotate_left
          · (intro w hSw; (try dsimp only at hSw); go_simp); all_goals (with_reducible rfl)
          try simp only [List.getElem_toArray, List.getElem_cons_succ, List.getElem_cons_zero, Act.put, List.setIfInBounds_toArray, List.set_cons_zero, List.set_cons_succ]
          refine wpAnyH_ready (rs := [1]) (by kernel_rfl) (by simp) ?_
          refine AllReadyH.cons rfl (fun K hK => ?_) AllReadyH.nil
          go_simp
          go_at_call 102
          refine ((HV.out ▸ bvalid_be e _ ((HO.out.over HB2.out).over h0.1) : Calls _ _ _ _ (fun x w' => x = .returned (.bool true) ∧ Below _ _ w'))).mono ?_
          rintro e wq0 ⟨rfl, bq⟩
          go_wp2_with fail
          have bX := bel2 h0.1 bq
          refine hK.out _ _ ?_ (fun h1 => ?_)
          · exact ⟨bX, cellOver bX r0, cellOver bX r1, cellOver bX r2, cellOver bX r3, cellOver bX r4, cellOver bX r5, cellOver bX r6, cellOver bX r7, cellOver bX r8⟩
          clear hK K h0 bX bq
          try simp only [List.getElem_toArray, List.getElem_cons_succ, List.getElem_cons_zero, Act.put, List.setIfInBounds_toArray, List.set_cons_zero, List.set_cons_succ]
          refine wpAnyH_take (i := 2) (v := ?_) rfl (by kernel_rfl) (by kernel_rfl) (by kernel_rfl) (fun _ _ _ h => h) (Or.inl ⟨by rfl, ?_⟩) h1 ?_
          rotate_left
          · (intro w hSw; (try dsimp only at hSw); go_simp); all_goals (with_reducible rfl)
          try simp only [List.getElem_toArray, List.getElem_cons_succ, List.getElem_cons_zero, Act.put, List.setIfInBounds_toArray, List.set_cons_zero, List.set_cons_succ]
          refine wpAnyH_take (i := 3) (v := ?_) rfl (by kernel_rfl) (by kernel_rfl) (by kernel_rfl) (fun _ _ _ h => h) (Or.inl ⟨by rfl, ?_⟩) h1 ?_
          rotate_left
          · (intro w hSw; (try dsimp only at hSw); go_simp); all_goals (with_reducible rfl)
          try simp only [List.getElem_toArray, List.getElem_cons_succ, List.getElem_cons_zero, Act.put, List.setIfInBounds_toArray, List.set_cons_zero, List.set_cons_succ]
          refine wpAnyH_take (i := 4) (v := ?_) rfl (by kernel_rfl) (by kernel_rfl) (by kernel_rfl) (fun _ _ _ h => h) (Or.inl ⟨by rfl, ?_⟩) h1 ?_
          rotate_left
          · (intro w hSw; (try dsimp only at hSw); go_simp); all_goals (with_reducible rfl)
          try simp only [List.getElem_toArray, List.getElem_cons_succ, List.getElem_cons_zero, Act.put, List.setIfInBounds_toArray, List.set_cons_zero, List.set_cons_succ]
          refine wpAnyH_take (i := 5) (v := ?_) rfl (by kernel_rfl) (by kernel_rfl) (by kernel_rfl) (fun _ _ _ h => h) (Or.inl ⟨by rfl, ?_⟩) h1 ?_
          rotate_left
          · (intro w hSw; (try dsimp only at hSw); go_simp); all_goals (with_reducible rfl)
          try simp only [List.getElem_toArray, List.getElem_cons_succ, List.getElem_cons_zero, Act.put, List.setIfInBounds_toArray, List.set_cons_zero, List.set_cons_succ]
          refine wpAnyH_take (i := 6) (v := ?_) rfl (by kernel_rfl) (by kernel_rfl) (by kernel_rfl) (fun _ _ _ h => h) (Or.inl ⟨by rfl, ?_⟩) h1 ?_
          rotate_left
          · (intro w hSw; (try dsimp only at hSw); go_simp); all_goals (with_reducible rfl)
          try simp only [List.getElem_toArray, List.getElem_cons_succ, List.getElem_cons_zero, Act.put, List.setIfInBounds_toArray, List.set_cons_zero, List.set_cons_succ]
          refine wpAnyH_take (i := 7) (v := ?_) rfl (by kernel_rfl) (by kernel_rfl) (by kernel_rfl) (fun _ _ _ h => h) (Or.inl ⟨by rfl, ?_⟩) h1 ?_
          rotate_left
          · (intro w hSw; (try dsimp only at hSw); go_simp); all_goals (with_reducible rfl)
          try simp only [List.getElem_toArray, List.getElem_cons_succ, List.getElem_cons_zero, Act.put, List.setIfInBounds_toArray, List.set_cons_zero, List.set_cons_succ]
          refine wpAnyH_take (i := 8) (v := ?_) rfl (by kernel_rfl) (by kernel_rfl) (by kernel_rfl) (fun _ _ _ h => h) (Or.inl ⟨by rfl, ?_⟩) h1 ?_
          rotate_left
          · (intro w hSw; (try dsimp only at hSw); go_simp); all_goals (with_reducible rfl)
          try simp only [List.getElem_toArray, List.getElem_cons_succ, List.getElem_cons_zero, Act.put, List.setIfInBounds_toArray, List.set_cons_zero, List.set_cons_succ]
          refine wpAnyH_ready (rs := [9]) (by kernel_rfl) (by simp) ?_
          refine AllReadyH.cons rfl (fun K hK => ?_) AllReadyH.nil
          go_simp
          go_at_call 103
          refine (hasid_any _ _ _ _ e.1.id _ (HI.out.over h1.1)).mono ?_
          rintro e wq1 ⟨rfl, bq⟩
          go_wp2_with fail
          have bX := bel2 h1.1 bq
          refine hK.out _ _ ?_ (fun h2 => ?_)
          · exact ⟨bX, cellOver bX r0, cellOver bX r1, cellOver bX r2, cellOver bX r3, cellOver bX r4, cellOver bX r5, cellOver bX r6, cellOver bX r7, cellOver bX r8⟩
          clear hK K h1 bX bq
          try simp only [List.getElem_toArray, List.getElem_cons_succ, List.getElem_cons_zero, Act.put, List.setIfInBounds_toArray, List.set_cons_zero, List.set_cons_succ]
          refine wpAnyH_take (i := 10) (v := ?_) rfl (by kernel_rfl) (by kernel_rfl) (by kernel_rfl) (fun _ _ _ h => h) (Or.inl ⟨by rfl, ?_⟩) h2 ?_
          rotate_left
          · (intro w hSw; (try dsimp only at hSw); go_simp); all_goals (with_reducible rfl)
          try simp only [List.getElem_toArray, List.getElem_cons_succ, List.getElem_cons_zero, Act.put, List.setIfInBounds_toArray, List.set_cons_zero, List.set_cons_succ]
          refine wpAnyH_done (by kernel_rfl) ?_ _
          have bz := Lib.hid h2.1
          clear h2
          cases hd : hasB (es.take k) e.1.id
          · have HD := Lib.hid hd
            clear hd
            go_wp2
            go_roundw
            case rel => exact ⟨k + 1, by omega, by go_num, Lib.hid (fun j e' hj he' => by
              by_cases ej : j = k
              · subst ej; rw [HE.out] at he'; cases he'; exact ⟨HV.out, HD.out⟩
              · exact hall.out j e' (by omega) he'), bel2 BW.out bz.out⟩
            case measure => simp [intOf]; omega
          · have HN := Lib.hid (vL_dup (es := es) HE.out hd)
            clear hd
            go_wp2
            go_ret
            exact ⟨ret_bool HN.out.symm, bel2 BW.out bz.out⟩
      · obtain rfl : k = n := by omega
        have HY := Lib.hid (vL_yes (es := es) (by rw [HL.out]; omega) (fun j e hj he => hall.out j e (by rw [← HL.out]; exact hj) he))
        go_wp2
        go_ret
        exact ⟨ret_bool HY.out.symm, bw⟩
end Go.Proofs.YtlhcckjfgpcohaaGreatDoor
