import Derived.Test.YtcapfjonkcekoaaDoorRefPut
import Derived.Test.YtcapfjonkcekoaaDoorRefVList
import Derived.Deep.RegionHeld3
import Derived.RegionTactic
import Derived.Deep.CutRange
namespace Go.Proofs.YtcapfjonkcekoaaDoor
open Go.RowKit Go.MapKept
set_option maxRecDepth 100000
set_option linter.unusedSimpArgs false
set_option linter.unusedVariables false
theorem take_snoc_q {α : Type} {l : List α} {k : Nat} {e : α} (he : l[k]? = some e) : l.take (k + 1) = l.take k ++ [e] := by
  rw [List.take_add_one, he]; rfl
def flatE (es : List BE) : List UInt8 := (blks es).flatMap encB
theorem flatE_succ {es : List BE} {k : Nat} {e : BE} (h : es[k]? = some e) : flatE (es.take (k + 1)) = flatE (es.take k) ++ encB e.1 := by
  obtain ⟨hk, rfl⟩ := List.getElem?_eq_some_iff.1 h
  unfold flatE blks
  rw [List.take_succ_eq_append_getElem hk, List.map_append, List.flatMap_append]
  simp
set_option maxHeartbeats 16000000 in
theorem refencode_any (a : Option Addr) (n c : Nat) (es : List BE) (w : World) (h : IsBlks w a n c es) :
    Calls Tryd.prog 27 #[.slice a n c] w fun x w' => x = .returned (.tuple #[.string ⟨(encR (blks es)).1.toArray⟩, .int .i64 (encR (blks es)).2]) ∧ Below w.heap.size w w' := by
  have hcm := h.2.2.1
  have hnc := h.2.1
  have HL := Lib.hid h.1
  have H := Lib.hid h
  have K := Lib.hid (refvlist_any a n c es w h)
  unfold maxLen at hcm
  clear h
  cases hv : vL (blks es)
  · rw [hv] at K
    have HR := Lib.hid (show encR (blks es) = ([], 30) by unfold encR; rw [hv]; rfl)
    clear hv
    go_enter Tryd.func27, Tryd.ntmps27
    go_wp2_with fail
    refine K.out.mono ?_
    rintro x w1 ⟨rfl, b1⟩
    go_wp2
    go_ret2
    rw [HR.out]
    exact ⟨rfl, b1⟩
  · rw [hv] at K
    have HR := Lib.hid (show encR (blks es) = (encL (blks es), 0) by unfold encR; rw [hv]; rfl)
    have VO := Lib.hid (vL_ok hv)
    have VB : Hid (∀ x ∈ blks es, vB x = true) := Lib.hid (by simp only [vL, Bool.and_eq_true, List.all_eq_true] at hv; exact hv.2.1)
    have hn24 : n ≤ 24 := by
      have := VO.out.1
      simp only [blks, List.length_map, HL.out] at this; omega
    have KN := Lib.hid (fun W => number_any (n : Int) W (by rw [okInt_iff]; omega))
    clear hv
    go_enter Tryd.func27, Tryd.ntmps27
    go_wp2_with fail
    refine K.out.mono ?_
    rintro x w1 ⟨rfl, b1⟩
    have B1 := Lib.hid b1
    clear b1
    go_wp2_with fail
    refine (KN.out _).mono ?_
    rintro x w2 ⟨rfl, b2⟩
    have B2 := Lib.hid (bel2 B1.out b2)
    clear b2 B1
    go_wp2
    go_loopw [6, 5] (fun i v wr => ∃ k : Nat, k ≤ n ∧ i = .int .i64 k ∧ v = .string ⟨(encInt (n : Int) ++ flatE (es.take k)).toArray⟩ ∧ Hid (Below w.heap.size w wr)) (fun i _ _ => n - (intOf i).toNat)
    case atStart => exact ⟨0, Nat.zero_le _, rfl, by simp [flatE, blks], B2⟩
    case round =>
      obtain ⟨k, hk, rfl, rfl, hb⟩ := hrel
      by_cases hlt : k < n
      · obtain ⟨b, off, e, rfl, he, hok, h9⟩ := (H.out.over hb.out).at_ hlt
        have FS := Lib.hid (flatE_succ he)
        have OK := Lib.hid (VO.out.2 e.1 (List.mem_map.2 ⟨e, List.mem_of_getElem? he, rfl⟩))
        have LE := Lib.hid hok.1
        obtain ⟨p0, p1, p2, p3, p4, p5, p6, p7, p8⟩ := h9
        have g1 : (k : Int) < n := by omega
        have htx : e.1.tx.length ≤ 65536 := OK.out.2.2.1
        have zx := mk_size' e.1.tx
        have KS := Lib.hid (fun W => refPutStr_yes ⟨e.1.tx.toArray⟩ W (by rw [mk_size']; exact htx))
        clear he hok
        go_wp2_with fail
        have hal := below_alloc wr (.cells #[.int .i64 e.1.id, .int .i64 e.1.kd, .string ⟨e.1.tx.toArray⟩, .int .i64 e.1.st, .int .i64 e.1.rf, .int .i64 e.1.lb.u, .slice e.2.1 e.2.2.1 e.2.2.2, .int .i64 e.1.lb.ap, .int .i64 e.1.lb.d] 26)
        have HB0 := Lib.hid (heap_alloc_new wr (.cells #[.int .i64 e.1.id, .int .i64 e.1.kd, .string ⟨e.1.tx.toArray⟩, .int .i64 e.1.st, .int .i64 e.1.rf, .int .i64 e.1.lb.u, .slice e.2.1 e.2.2.1 e.2.2.2, .int .i64 e.1.lb.ap, .int .i64 e.1.lb.d] 26))
        refine (KS.out _).mono ?_
        rintro x w3 ⟨rfl, b3⟩
        have B3 := Lib.hid (bel2 (bel2 hb.out hal) b3)
        have BR := Lib.hid (bel2 hal b3)
        have HB := Lib.hid (blockOver b3 HB0.out)
        have LE3 := Lib.hid (LE.out.over BR.out)
        clear b3 hal HB0 p0 p1 p2 p3 p4 p5 p6 p7 p8
        have zP := mk_size' (encInt (n : Int) ++ flatE (es.take k))
        have hP : (encInt (n : Int) ++ flatE (es.take k)).length ≤ 100000 := by
          have h1 := encInt_len (n : Int)
          have h2 := encs_len (blks (es.take k)) (fun x hx => by
            obtain ⟨y, hy, rfl⟩ := List.mem_map.1 hx
            exact VB.out y.1 (List.mem_map.2 ⟨y, List.mem_of_mem_take hy, rfl⟩))
          rw [List.length_append]
          unfold flatE
          have : (blks (es.take k)).length ≤ 24 := by simp [blks]; omega
          omega
        generalize hPe : encInt (n : Int) ++ flatE (es.take k) = P at *
        have HPE := Lib.hid hPe
        clear hPe
        obtain ⟨gb, hgb⟩ : ∃ gb, gb = wr.heap.size := ⟨_, rfl⟩
        rw [← hgb] at HB ⊢
        clear hgb
        have q0 : w3.cell? ⟨gb, 0, none⟩ = some (.int .i64 e.1.id) := by rw [Joins.cell_of_block HB.out]; rfl
        have q1 : w3.cell? ⟨gb, 1, none⟩ = some (.int .i64 e.1.kd) := by rw [Joins.cell_of_block HB.out]; rfl
        have q2 : w3.cell? ⟨gb, 2, none⟩ = some (.string ⟨e.1.tx.toArray⟩) := by rw [Joins.cell_of_block HB.out]; rfl
        have q3 : w3.cell? ⟨gb, 3, none⟩ = some (.int .i64 e.1.st) := by rw [Joins.cell_of_block HB.out]; rfl
        have q4 : w3.cell? ⟨gb, 4, none⟩ = some (.int .i64 e.1.rf) := by rw [Joins.cell_of_block HB.out]; rfl
        have q5 : w3.cell? ⟨gb, 5, none⟩ = some (.int .i64 e.1.lb.u) := by rw [Joins.cell_of_block HB.out]; rfl
        have q6 : w3.cell? ⟨gb, 6, none⟩ = some (.slice e.2.1 e.2.2.1 e.2.2.2) := by rw [Joins.cell_of_block HB.out]; rfl
        have q7 : w3.cell? ⟨gb, 7, none⟩ = some (.int .i64 e.1.lb.ap) := by rw [Joins.cell_of_block HB.out]; rfl
        have q8 : w3.cell? ⟨gb, 8, none⟩ = some (.int .i64 e.1.lb.d) := by rw [Joins.cell_of_block HB.out]; rfl
        have N := Lib.hid (fun (m : Int) (hm : okInt m = true) W => number_any m W hm)
        have zl := encInt_len (e.1.tx.length : Int)
        have zl2 := mk_size' (encInt (e.1.tx.length : Int))
        have za := encInt_len e.1.id
        have za2 := mk_size' (encInt e.1.id)
        have zb := encInt_len e.1.kd
        have zb2 := mk_size' (encInt e.1.kd)
        have zc := encInt_len e.1.st
        have zc2 := mk_size' (encInt e.1.st)
        have zd := encInt_len e.1.rf
        have zd2 := mk_size' (encInt e.1.rf)
        go_wp2
        have bc := Below.refl w3.heap.size w3
        refine wp_region_held_drew (S := fun w' => Below w3.heap.size w3 w' ∧ w'.cell? ⟨gb, 0, none⟩ = some (.int .i64 e.1.id) ∧ w'.cell? ⟨gb, 1, none⟩ = some (.int .i64 e.1.kd) ∧ w'.cell? ⟨gb, 2, none⟩ = some (.string ⟨e.1.tx.toArray⟩) ∧ w'.cell? ⟨gb, 3, none⟩ = some (.int .i64 e.1.st) ∧ w'.cell? ⟨gb, 4, none⟩ = some (.int .i64 e.1.rf) ∧ w'.cell? ⟨gb, 5, none⟩ = some (.int .i64 e.1.lb.u) ∧ w'.cell? ⟨gb, 6, none⟩ = some (.slice e.2.1 e.2.2.1 e.2.2.2) ∧ w'.cell? ⟨gb, 7, none⟩ = some (.int .i64 e.1.lb.ap) ∧ w'.cell? ⟨gb, 8, none⟩ = some (.int .i64 e.1.lb.d)) (by kernel_rfl) ?_ (fun h0 => ?_)
        · exact ⟨bc.drew, q0, q1, q2, q3, q4, q5, q6, q7, q8⟩
        refine wpAnyH_take (i := 0) (v := ?_) rfl (by kernel_rfl) (by kernel_rfl) (by kernel_rfl) (fun _ _ _ h => h) (Or.inl ⟨by rfl, ?_⟩) h0 ?_
        rotate_left
        · (intro w hSw; (try dsimp only at hSw); go_simp; (try rw [if_neg (by omega)])); all_goals (with_reducible rfl)
        try simp only [List.getElem_toArray, List.getElem_cons_succ, List.getElem_cons_zero, Act.put, List.setIfInBounds_toArray, List.set_cons_zero, List.set_cons_succ]
        refine wpAnyH_take (i := 1) (v := ?_) rfl (by kernel_rfl) (by kernel_rfl) (by kernel_rfl) (fun _ _ _ h => h) (Or.inl ⟨by rfl, ?_⟩) h0 ?_
        rotate_left
        · (intro w hSw; (try dsimp only at hSw); go_simp; (try rw [if_neg (by omega)])); all_goals (with_reducible rfl)
        try simp only [List.getElem_toArray, List.getElem_cons_succ, List.getElem_cons_zero, Act.put, List.setIfInBounds_toArray, List.set_cons_zero, List.set_cons_succ]
        refine wpAnyH_take (i := 2) (v := ?_) rfl (by kernel_rfl) (by kernel_rfl) (by kernel_rfl) (fun _ _ _ h => h) (Or.inl ⟨by rfl, ?_⟩) h0 ?_
        rotate_left
        · (intro w hSw; (try dsimp only at hSw); go_simp; (try rw [if_neg (by omega)])); all_goals (with_reducible rfl)
        try simp only [List.getElem_toArray, List.getElem_cons_succ, List.getElem_cons_zero, Act.put, List.setIfInBounds_toArray, List.set_cons_zero, List.set_cons_succ]
        refine wpAnyH_take (i := 5) (v := ?_) rfl (by kernel_rfl) (by kernel_rfl) (by kernel_rfl) (fun _ _ _ h => h) (Or.inl ⟨by rfl, ?_⟩) h0 ?_
        rotate_left
        · (intro w hSw; (try dsimp only at hSw); go_simp; (try rw [if_neg (by omega)])); all_goals (with_reducible rfl)
        try simp only [List.getElem_toArray, List.getElem_cons_succ, List.getElem_cons_zero, Act.put, List.setIfInBounds_toArray, List.set_cons_zero, List.set_cons_succ]
        refine wpAnyH_take (i := 6) (v := ?_) rfl (by kernel_rfl) (by kernel_rfl) (by kernel_rfl) (fun _ _ _ h => h) (Or.inl ⟨by rfl, ?_⟩) h0 ?_
        rotate_left
        · (intro w hSw; (try dsimp only at hSw); go_simp; (try rw [if_neg (by omega)])); all_goals (with_reducible rfl)
        try simp only [List.getElem_toArray, List.getElem_cons_succ, List.getElem_cons_zero, Act.put, List.setIfInBounds_toArray, List.set_cons_zero, List.set_cons_succ]
        refine wpAnyH_take (i := 9) (v := ?_) rfl (by kernel_rfl) (by kernel_rfl) (by kernel_rfl) (fun _ _ _ h => h) (Or.inl ⟨by rfl, ?_⟩) h0 ?_
        rotate_left
        · (intro w hSw; (try dsimp only at hSw); go_simp; (try rw [if_neg (by omega)])); all_goals (with_reducible rfl)
        try simp only [List.getElem_toArray, List.getElem_cons_succ, List.getElem_cons_zero, Act.put, List.setIfInBounds_toArray, List.set_cons_zero, List.set_cons_succ]
        refine wpAnyH_take (i := 11) (v := ?_) rfl (by kernel_rfl) (by kernel_rfl) (by kernel_rfl) (fun _ _ _ h => h) (Or.inl ⟨by rfl, ?_⟩) h0 ?_
        rotate_left
        · (intro w hSw; (try dsimp only at hSw); go_simp; (try rw [if_neg (by omega)])); all_goals (with_reducible rfl)
        try simp only [List.getElem_toArray, List.getElem_cons_succ, List.getElem_cons_zero, Act.put, List.setIfInBounds_toArray, List.set_cons_zero, List.set_cons_succ]
        refine wpAnyH_take (i := 12) (v := ?_) rfl (by kernel_rfl) (by kernel_rfl) (by kernel_rfl) (fun _ _ _ h => h) (Or.inl ⟨by rfl, ?_⟩) h0 ?_
        rotate_left
        · (intro w hSw; (try dsimp only at hSw); go_simp; (try rw [if_neg (by omega)])); all_goals (with_reducible rfl)
        try simp only [List.getElem_toArray, List.getElem_cons_succ, List.getElem_cons_zero, Act.put, List.setIfInBounds_toArray, List.set_cons_zero, List.set_cons_succ]
        refine wpAnyH_take (i := 15) (v := ?_) rfl (by kernel_rfl) (by kernel_rfl) (by kernel_rfl) (fun _ _ _ h => h) (Or.inl ⟨by rfl, ?_⟩) h0 ?_
        rotate_left
        · (intro w hSw; (try dsimp only at hSw); go_simp; (try rw [if_neg (by omega)])); all_goals (with_reducible rfl)
        try simp only [List.getElem_toArray, List.getElem_cons_succ, List.getElem_cons_zero, Act.put, List.setIfInBounds_toArray, List.set_cons_zero, List.set_cons_succ]
        refine wpAnyH_take (i := 16) (v := ?_) rfl (by kernel_rfl) (by kernel_rfl) (by kernel_rfl) (fun _ _ _ h => h) (Or.inl ⟨by rfl, ?_⟩) h0 ?_
        rotate_left
        · (intro w hSw; (try dsimp only at hSw); go_simp; (try rw [if_neg (by omega)])); all_goals (with_reducible rfl)
        try simp only [List.getElem_toArray, List.getElem_cons_succ, List.getElem_cons_zero, Act.put, List.setIfInBounds_toArray, List.set_cons_zero, List.set_cons_succ]
        refine wpAnyH_ready (rs := [3]) (by kernel_rfl) (by simp) ?_
        refine AllReadyH.cons rfl (fun K hK => ?_) AllReadyH.nil
        go_simp
        go_at_call 52
        refine (N.out _ OK.out.1 _).mono ?_
        rintro e wq0 ⟨rfl, bq⟩
        go_wp2_with fail
        have bX := bel2 h0.1 bq
        refine hK.out _ _ ?_ (fun h1 => ?_)
        · exact ⟨bX, cellOver bX q0, cellOver bX q1, cellOver bX q2, cellOver bX q3, cellOver bX q4, cellOver bX q5, cellOver bX q6, cellOver bX q7, cellOver bX q8⟩
        clear hK K h0 bX bq
        try simp only [List.getElem_toArray, List.getElem_cons_succ, List.getElem_cons_zero, Act.put, List.setIfInBounds_toArray, List.set_cons_zero, List.set_cons_succ]
        refine wpAnyH_take (i := 4) (v := ?_) rfl (by kernel_rfl) (by kernel_rfl) (by kernel_rfl) (fun _ _ _ h => h) (Or.inl ⟨by rfl, ?_⟩) h1 ?_
        rotate_left
        · (intro w hSw; (try dsimp only at hSw); go_simp; (try rw [if_neg (by omega)])); all_goals (with_reducible rfl)
        try simp only [List.getElem_toArray, List.getElem_cons_succ, List.getElem_cons_zero, Act.put, List.setIfInBounds_toArray, List.set_cons_zero, List.set_cons_succ]
        refine wpAnyH_ready (rs := [7]) (by kernel_rfl) (by simp) ?_
        refine AllReadyH.cons rfl (fun K hK => ?_) AllReadyH.nil
        go_simp
        go_at_call 52
        refine (N.out _ OK.out.2.1 _).mono ?_
        rintro e wq1 ⟨rfl, bq⟩
        go_wp2_with fail
        have bX := bel2 h1.1 bq
        refine hK.out _ _ ?_ (fun h2 => ?_)
        · exact ⟨bX, cellOver bX q0, cellOver bX q1, cellOver bX q2, cellOver bX q3, cellOver bX q4, cellOver bX q5, cellOver bX q6, cellOver bX q7, cellOver bX q8⟩
        clear hK K h1 bX bq
        try simp only [List.getElem_toArray, List.getElem_cons_succ, List.getElem_cons_zero, Act.put, List.setIfInBounds_toArray, List.set_cons_zero, List.set_cons_succ]
        refine wpAnyH_take (i := 8) (v := ?_) rfl (by kernel_rfl) (by kernel_rfl) (by kernel_rfl) (fun _ _ _ h => h) (Or.inl ⟨by rfl, ?_⟩) h2 ?_
        rotate_left
        · (intro w hSw; (try dsimp only at hSw); go_simp; (try rw [if_neg (by omega)])); all_goals (with_reducible rfl)
        try simp only [List.getElem_toArray, List.getElem_cons_succ, List.getElem_cons_zero, Act.put, List.setIfInBounds_toArray, List.set_cons_zero, List.set_cons_succ]
        refine wpAnyH_take (i := 10) (v := ?_) rfl (by kernel_rfl) (by kernel_rfl) (by kernel_rfl) (fun _ _ _ h => h) (Or.inl ⟨by rfl, ?_⟩) h2 ?_
        rotate_left
        · (intro w hSw; (try dsimp only at hSw); go_simp; (try rw [if_neg (by omega)])); all_goals (with_reducible rfl)
        try simp only [List.getElem_toArray, List.getElem_cons_succ, List.getElem_cons_zero, Act.put, List.setIfInBounds_toArray, List.set_cons_zero, List.set_cons_succ]
        refine wpAnyH_ready (rs := [13]) (by kernel_rfl) (by simp) ?_
        refine AllReadyH.cons rfl (fun K hK => ?_) AllReadyH.nil
        go_simp
        go_at_call 52
        refine (N.out _ OK.out.2.2.2.1 _).mono ?_
        rintro e wq2 ⟨rfl, bq⟩
        go_wp2_with fail
        have bX := bel2 h2.1 bq
        refine hK.out _ _ ?_ (fun h3 => ?_)
        · exact ⟨bX, cellOver bX q0, cellOver bX q1, cellOver bX q2, cellOver bX q3, cellOver bX q4, cellOver bX q5, cellOver bX q6, cellOver bX q7, cellOver bX q8⟩
        clear hK K h2 bX bq
        try simp only [List.getElem_toArray, List.getElem_cons_succ, List.getElem_cons_zero, Act.put, List.setIfInBounds_toArray, List.set_cons_zero, List.set_cons_succ]
        refine wpAnyH_take (i := 14) (v := ?_) rfl (by kernel_rfl) (by kernel_rfl) (by kernel_rfl) (fun _ _ _ h => h) (Or.inl ⟨by rfl, ?_⟩) h3 ?_
        rotate_left
        · (intro w hSw; (try dsimp only at hSw); go_simp; (try rw [if_neg (by omega)])); all_goals (with_reducible rfl)
        try simp only [List.getElem_toArray, List.getElem_cons_succ, List.getElem_cons_zero, Act.put, List.setIfInBounds_toArray, List.set_cons_zero, List.set_cons_succ]
        refine wpAnyH_ready (rs := [17]) (by kernel_rfl) (by simp) ?_
        refine AllReadyH.cons rfl (fun K hK => ?_) AllReadyH.nil
        go_simp
        go_at_call 52
        refine (N.out _ OK.out.2.2.2.2.1 _).mono ?_
        rintro e wq3 ⟨rfl, bq⟩
        go_wp2_with fail
        have bX := bel2 h3.1 bq
        refine hK.out _ _ ?_ (fun h4 => ?_)
        · exact ⟨bX, cellOver bX q0, cellOver bX q1, cellOver bX q2, cellOver bX q3, cellOver bX q4, cellOver bX q5, cellOver bX q6, cellOver bX q7, cellOver bX q8⟩
        clear hK K h3 bX bq
        try simp only [List.getElem_toArray, List.getElem_cons_succ, List.getElem_cons_zero, Act.put, List.setIfInBounds_toArray, List.set_cons_zero, List.set_cons_succ]
        refine wpAnyH_take (i := 18) (v := ?_) rfl (by kernel_rfl) (by kernel_rfl) (by kernel_rfl) (fun _ _ _ h => h) (Or.inl ⟨by rfl, ?_⟩) h4 ?_
        rotate_left
        · (intro w hSw; (try dsimp only at hSw); go_simp; (try rw [if_neg (by omega)])); all_goals (with_reducible rfl)
        try simp only [List.getElem_toArray, List.getElem_cons_succ, List.getElem_cons_zero, Act.put, List.setIfInBounds_toArray, List.set_cons_zero, List.set_cons_succ]
        refine wpAnyH_take (i := 19) (v := ?_) rfl (by kernel_rfl) (by kernel_rfl) (by kernel_rfl) (fun _ _ _ h => h) (Or.inl ⟨by rfl, ?_⟩) h4 ?_
        rotate_left
        · (intro w hSw; (try dsimp only at hSw); go_simp; (try rw [if_neg (by omega)])); all_goals (with_reducible rfl)
        try simp only [List.getElem_toArray, List.getElem_cons_succ, List.getElem_cons_zero, Act.put, List.setIfInBounds_toArray, List.set_cons_zero, List.set_cons_succ]
        refine wpAnyH_done (by kernel_rfl) ?_ _
        obtain ⟨bX1, r0, r1, r2, r3, r4, r5, r6, r7, r8⟩ := h4
        have BQ := Lib.hid (bel2 B3.out bX1)
        have LQ := Lib.hid (LE3.out.over bX1)
        generalize hS : (⟨P.toArray⟩ : ByteArray) ++ ⟨(encInt e.1.id).toArray⟩ ++ ⟨(encInt e.1.kd).toArray⟩ ++ (⟨(encInt (e.1.tx.length : Int)).toArray⟩ ++ ⟨e.1.tx.toArray⟩) ++ ⟨(encInt e.1.st).toArray⟩ ++ ⟨(encInt e.1.rf).toArray⟩ = S
        have hSs : S.size ≤ 300000 := by rw [← hS]; simp only [ByteArray.size_append]; omega
        have HSL := Lib.hid (show S.data.toList = P ++ (encInt e.1.id ++ (encInt e.1.kd ++ (encS e.1.tx ++ (encInt e.1.st ++ encInt e.1.rf)))) by rw [← hS]; simp [encS])
        clear hS bX1 q0 q1 q2 q3 q4 q5 q6 q7 q8 za za2 zb zb2 zc zc2 zd zd2
        have zu := encInt_len e.1.lb.u
        have zu2 := mk_size' (encInt e.1.lb.u)
        have zn := encInt_len (e.2.2.1 : Int)
        have zn2 := mk_size' (encInt (e.2.2.1 : Int))
        have hal : e.1.lb.af.length = e.2.2.1 := LQ.out.1.1
        have h64 : e.2.2.1 ≤ 64 := by have := OK.out.2.2.2.2.2.2.1.1; rw [hal] at this; omega
        have NL := Lib.hid (fun W => number_any (e.2.2.1 : Int) W (by rw [okInt_iff]; omega))
        go_wp2
        have bc := Below.refl wq3.heap.size wq3
        refine wp_region_held_drew (S := fun w' => Below wq3.heap.size wq3 w' ∧ w'.cell? ⟨gb, 0, none⟩ = some (.int .i64 e.1.id) ∧ w'.cell? ⟨gb, 1, none⟩ = some (.int .i64 e.1.kd) ∧ w'.cell? ⟨gb, 2, none⟩ = some (.string ⟨e.1.tx.toArray⟩) ∧ w'.cell? ⟨gb, 3, none⟩ = some (.int .i64 e.1.st) ∧ w'.cell? ⟨gb, 4, none⟩ = some (.int .i64 e.1.rf) ∧ w'.cell? ⟨gb, 5, none⟩ = some (.int .i64 e.1.lb.u) ∧ w'.cell? ⟨gb, 6, none⟩ = some (.slice e.2.1 e.2.2.1 e.2.2.2) ∧ w'.cell? ⟨gb, 7, none⟩ = some (.int .i64 e.1.lb.ap) ∧ w'.cell? ⟨gb, 8, none⟩ = some (.int .i64 e.1.lb.d)) (by kernel_rfl) ?_ (fun j0 => ?_)
        · exact ⟨bc.drew, r0, r1, r2, r3, r4, r5, r6, r7, r8⟩
        refine wpAnyH_take (i := 0) (v := ?_) rfl (by kernel_rfl) (by kernel_rfl) (by kernel_rfl) (fun _ _ _ h => h) (Or.inl ⟨by rfl, ?_⟩) j0 ?_
        rotate_left
        · (intro w hSw; (try dsimp only at hSw); go_simp; (try rw [if_neg (by omega)])); all_goals (with_reducible rfl)
        try simp only [List.getElem_toArray, List.getElem_cons_succ, List.getElem_cons_zero, Act.put, List.setIfInBounds_toArray, List.set_cons_zero, List.set_cons_succ]
        refine wpAnyH_take (i := 1) (v := ?_) rfl (by kernel_rfl) (by kernel_rfl) (by kernel_rfl) (fun _ _ _ h => h) (Or.inl ⟨by rfl, ?_⟩) j0 ?_
        rotate_left
        · (intro w hSw; (try dsimp only at hSw); go_simp; (try rw [if_neg (by omega)])); all_goals (with_reducible rfl)
        try simp only [List.getElem_toArray, List.getElem_cons_succ, List.getElem_cons_zero, Act.put, List.setIfInBounds_toArray, List.set_cons_zero, List.set_cons_succ]
        refine wpAnyH_take (i := 2) (v := ?_) rfl (by kernel_rfl) (by kernel_rfl) (by kernel_rfl) (fun _ _ _ h => h) (Or.inl ⟨by rfl, ?_⟩) j0 ?_
        rotate_left
        · (intro w hSw; (try dsimp only at hSw); go_simp; (try rw [if_neg (by omega)])); all_goals (with_reducible rfl)
        try simp only [List.getElem_toArray, List.getElem_cons_succ, List.getElem_cons_zero, Act.put, List.setIfInBounds_toArray, List.set_cons_zero, List.set_cons_succ]
        refine wpAnyH_take (i := 3) (v := ?_) rfl (by kernel_rfl) (by kernel_rfl) (by kernel_rfl) (fun _ _ _ h => h) (Or.inl ⟨by rfl, ?_⟩) j0 ?_
        rotate_left
        · (intro w hSw; (try dsimp only at hSw); go_simp; (try rw [if_neg (by omega)])); all_goals (with_reducible rfl)
        try simp only [List.getElem_toArray, List.getElem_cons_succ, List.getElem_cons_zero, Act.put, List.setIfInBounds_toArray, List.set_cons_zero, List.set_cons_succ]
        refine wpAnyH_take (i := 6) (v := ?_) rfl (by kernel_rfl) (by kernel_rfl) (by kernel_rfl) (fun _ _ _ h => h) (Or.inl ⟨by rfl, ?_⟩) j0 ?_
        rotate_left
        · (intro w hSw; (try dsimp only at hSw); go_simp; (try rw [if_neg (by omega)])); all_goals (with_reducible rfl)
        try simp only [List.getElem_toArray, List.getElem_cons_succ, List.getElem_cons_zero, Act.put, List.setIfInBounds_toArray, List.set_cons_zero, List.set_cons_succ]
        refine wpAnyH_take (i := 7) (v := ?_) rfl (by kernel_rfl) (by kernel_rfl) (by kernel_rfl) (fun _ _ _ h => h) (Or.inl ⟨by rfl, ?_⟩) j0 ?_
        rotate_left
        · (intro w hSw; (try dsimp only at hSw); go_simp; (try rw [if_neg (by omega)])); all_goals (with_reducible rfl)
        try simp only [List.getElem_toArray, List.getElem_cons_succ, List.getElem_cons_zero, Act.put, List.setIfInBounds_toArray, List.set_cons_zero, List.set_cons_succ]
        refine wpAnyH_take (i := 8) (v := ?_) rfl (by kernel_rfl) (by kernel_rfl) (by kernel_rfl) (fun _ _ _ h => h) (Or.inl ⟨by rfl, ?_⟩) j0 ?_
        rotate_left
        · (intro w hSw; (try dsimp only at hSw); go_simp; (try rw [if_neg (by omega)])); all_goals (with_reducible rfl)
        try simp only [List.getElem_toArray, List.getElem_cons_succ, List.getElem_cons_zero, Act.put, List.setIfInBounds_toArray, List.set_cons_zero, List.set_cons_succ]
        refine wpAnyH_take (i := 9) (v := ?_) rfl (by kernel_rfl) (by kernel_rfl) (by kernel_rfl) (fun _ _ _ h => h) (Or.inl ⟨by rfl, ?_⟩) j0 ?_
        rotate_left
        · (intro w hSw; (try dsimp only at hSw); go_simp; (try rw [if_neg (by omega)])); all_goals (with_reducible rfl)
        try simp only [List.getElem_toArray, List.getElem_cons_succ, List.getElem_cons_zero, Act.put, List.setIfInBounds_toArray, List.set_cons_zero, List.set_cons_succ]
        refine wpAnyH_ready (rs := [4]) (by kernel_rfl) (by simp) ?_
        refine AllReadyH.cons rfl (fun K hK => ?_) AllReadyH.nil
        go_simp
        go_at_call 52
        refine (N.out _ OK.out.2.2.2.2.2.1 _).mono ?_
        rintro e wq0 ⟨rfl, bq⟩
        go_wp2_with fail
        have bX := bel2 j0.1 bq
        refine hK.out _ _ ?_ (fun j1 => ?_)
        · exact ⟨bX, cellOver bX r0, cellOver bX r1, cellOver bX r2, cellOver bX r3, cellOver bX r4, cellOver bX r5, cellOver bX r6, cellOver bX r7, cellOver bX r8⟩
        clear hK K j0 bX bq
        try simp only [List.getElem_toArray, List.getElem_cons_succ, List.getElem_cons_zero, Act.put, List.setIfInBounds_toArray, List.set_cons_zero, List.set_cons_succ]
        refine wpAnyH_take (i := 5) (v := ?_) rfl (by kernel_rfl) (by kernel_rfl) (by kernel_rfl) (fun _ _ _ h => h) (Or.inl ⟨by rfl, ?_⟩) j1 ?_
        rotate_left
        · (intro w hSw; (try dsimp only at hSw); go_simp; (try rw [if_neg (by omega)])); all_goals (with_reducible rfl)
        try simp only [List.getElem_toArray, List.getElem_cons_succ, List.getElem_cons_zero, Act.put, List.setIfInBounds_toArray, List.set_cons_zero, List.set_cons_succ]
        refine wpAnyH_ready (rs := [10]) (by kernel_rfl) (by simp) ?_
        refine AllReadyH.cons rfl (fun K hK => ?_) AllReadyH.nil
        go_simp
        go_at_call 52
        refine (NL.out _).mono ?_
        rintro e wq1 ⟨rfl, bq⟩
        go_wp2_with fail
        have bX := bel2 j1.1 bq
        refine hK.out _ _ ?_ (fun j2 => ?_)
        · exact ⟨bX, cellOver bX r0, cellOver bX r1, cellOver bX r2, cellOver bX r3, cellOver bX r4, cellOver bX r5, cellOver bX r6, cellOver bX r7, cellOver bX r8⟩
        clear hK K j1 bX bq
        try simp only [List.getElem_toArray, List.getElem_cons_succ, List.getElem_cons_zero, Act.put, List.setIfInBounds_toArray, List.set_cons_zero, List.set_cons_succ]
        refine wpAnyH_take (i := 11) (v := ?_) rfl (by kernel_rfl) (by kernel_rfl) (by kernel_rfl) (fun _ _ _ h => h) (Or.inl ⟨by rfl, ?_⟩) j2 ?_
        rotate_left
        · (intro w hSw; (try dsimp only at hSw); go_simp; (try rw [if_neg (by omega)])); all_goals (with_reducible rfl)
        try simp only [List.getElem_toArray, List.getElem_cons_succ, List.getElem_cons_zero, Act.put, List.setIfInBounds_toArray, List.set_cons_zero, List.set_cons_succ]
        refine wpAnyH_take (i := 12) (v := ?_) rfl (by kernel_rfl) (by kernel_rfl) (by kernel_rfl) (fun _ _ _ h => h) (Or.inl ⟨by rfl, ?_⟩) j2 ?_
        rotate_left
        · (intro w hSw; (try dsimp only at hSw); go_simp; (try rw [if_neg (by omega)])); all_goals (with_reducible rfl)
        try simp only [List.getElem_toArray, List.getElem_cons_succ, List.getElem_cons_zero, Act.put, List.setIfInBounds_toArray, List.set_cons_zero, List.set_cons_succ]
        refine wpAnyH_done (by kernel_rfl) ?_ _
        obtain ⟨bX2, t0, t1, t2, t3, t4, t5, t6, t7, t8⟩ := j2
        have BQ2 := Lib.hid (bel2 BQ.out bX2)
        have LQ2 := Lib.hid (LQ.out.over bX2)
        generalize hS2 : S ++ ⟨(encInt e.1.lb.u).toArray⟩ ++ ⟨(encInt (e.2.2.1 : Int)).toArray⟩ = S2
        have hSs2 : S2.size ≤ 400000 := by rw [← hS2]; simp only [ByteArray.size_append]; omega
        have HSL2 := Lib.hid (show S2.data.toList = P ++ (encInt e.1.id ++ (encInt e.1.kd ++ (encS e.1.tx ++ (encInt e.1.st ++ (encInt e.1.rf ++ (encInt e.1.lb.u ++ encInt (e.2.2.1 : Int))))))) by rw [← hS2]; simp [HSL.out])
        clear hS2 bX2 r0 r1 r2 r3 r4 r5 r6 r7 r8 zu zu2 zn zn2
        obtain ⟨Q, hQ⟩ : ∃ Q, Q = S2.data.toList := ⟨_, rfl⟩
        have hS2q : S2 = ⟨Q.toArray⟩ := by rw [hQ, ← bytes_mk]
        have hQl : Q.length ≤ 400000 := by rw [hQ, slen]; exact hSs2
        rw [hS2q]
        rw [← hQ] at HSL2
        clear hS2q hQ hSs2
        obtain ⟨wv, hwv⟩ : ∃ wv, wv = wq1 := ⟨_, rfl⟩
        rw [← hwv] at BQ2 LQ2 t0 t1 t2 t3 t4 t5 t6 t7 t8 ⊢
        clear hwv
        go_wp2
        go_loopw [10, 5] (fun i v wz => ∃ j : Nat, j ≤ e.2.2.1 ∧ i = .int .i64 j ∧ v = .string ⟨(Q ++ (e.1.lb.af.take j).flatMap encInt).toArray⟩ ∧ Hid (Below wv.heap.size wv wz)) (fun i _ _ => e.2.2.1 - (intOf i).toNat)
        case atStart => exact ⟨0, Nat.zero_le _, rfl, by simp, Lib.hid (Below.refl _ _)⟩
        case round =>
          obtain ⟨j, hj, rfl, rfl, hbz⟩ := hrel
          have s0 := cellOver hbz.out t0
          have s1 := cellOver hbz.out t1
          have s2 := cellOver hbz.out t2
          have s3 := cellOver hbz.out t3
          have s4 := cellOver hbz.out t4
          have s5 := cellOver hbz.out t5
          have s6 := cellOver hbz.out t6
          have s7 := cellOver hbz.out t7
          have s8 := cellOver hbz.out t8
          have hfl := flat_len (e.1.lb.af.take j)
          have hjl : (e.1.lb.af.take j).length ≤ 64 := by simp; omega
          have zj := mk_size' (Q ++ (e.1.lb.af.take j).flatMap encInt)
          rw [List.length_append] at zj
          by_cases hjlt : j < e.2.2.1
          · obtain ⟨bb, oo, hea, hc⟩ := LQ2.out.1.2.2.2.2.resolve_left (by omega)
            have hcj := cellOver hbz.out (hc j hjlt)
            have hzj : e.1.lb.af[j]? = some (e.1.lb.af.getD j 0) := by simp [List.getD, show j < e.1.lb.af.length by omega]
            have hoz := OK.out.2.2.2.2.2.2.1.2 _ (List.mem_of_getElem? hzj)
            have FT := Lib.hid (take_snoc_q hzj)
            generalize e.1.lb.af.getD j 0 = z at *
            have KZ := Lib.hid (fun W => number_any z W hoz)
            have zz := encInt_len z
            have zz2 := mk_size' (encInt z)
            have g2 : (j : Int) < e.2.2.1 := by omega
            rw [hea] at s6
            clear hc hzj hoz hea
            go_wp2_with fail
            refine (KZ.out _).mono ?_
            rintro x wy ⟨rfl, b5⟩
            have B5 := Lib.hid (bel2 hbz.out b5)
            clear b5
            go_wp2
            go_roundw
            case rel => exact ⟨j + 1, by omega, by go_num, by rw [FT.out, List.flatMap_append]; congr 1; exact bytes_ext (by simp), B5⟩
            case measure => simp [intOf]; omega
          · obtain rfl : j = e.2.2.1 := by omega
            have hta : e.1.lb.af.take e.2.2.1 = e.1.lb.af := List.take_of_length_le (by omega)
            rw [hta] at zj hfl ⊢
            have zy := encInt_len e.1.lb.ap
            have zy2 := mk_size' (encInt e.1.lb.ap)
            have zw := encInt_len e.1.lb.d
            have zw2 := mk_size' (encInt e.1.lb.d)
            have hTl : (Q ++ e.1.lb.af.flatMap encInt).length ≤ 500000 := by rw [List.length_append]; omega
            obtain ⟨T, hT⟩ : ∃ T, T = Q ++ e.1.lb.af.flatMap encInt := ⟨_, rfl⟩
            have HTT := Lib.hid hT
            have zT := mk_size' T
            rw [← hT] at hTl ⊢
            clear hT zj hfl
            go_wp2
            have bc := Below.refl wr.heap.size wr
            refine wp_region_held_drew (S := fun w' => Below wr.heap.size wr w' ∧ w'.cell? ⟨gb, 0, none⟩ = some (.int .i64 e.1.id) ∧ w'.cell? ⟨gb, 1, none⟩ = some (.int .i64 e.1.kd) ∧ w'.cell? ⟨gb, 2, none⟩ = some (.string ⟨e.1.tx.toArray⟩) ∧ w'.cell? ⟨gb, 3, none⟩ = some (.int .i64 e.1.st) ∧ w'.cell? ⟨gb, 4, none⟩ = some (.int .i64 e.1.rf) ∧ w'.cell? ⟨gb, 5, none⟩ = some (.int .i64 e.1.lb.u) ∧ w'.cell? ⟨gb, 6, none⟩ = some (.slice e.2.1 e.2.2.1 e.2.2.2) ∧ w'.cell? ⟨gb, 7, none⟩ = some (.int .i64 e.1.lb.ap) ∧ w'.cell? ⟨gb, 8, none⟩ = some (.int .i64 e.1.lb.d)) (by kernel_rfl) ?_ (fun y0 => ?_)
            · exact ⟨bc.drew, s0, s1, s2, s3, s4, s5, s6, s7, s8⟩
            refine wpAnyH_take (i := 0) (v := ?_) rfl (by kernel_rfl) (by kernel_rfl) (by kernel_rfl) (fun _ _ _ h => h) (Or.inl ⟨by rfl, ?_⟩) y0 ?_
            rotate_left
            · (intro w hSw; (try dsimp only at hSw); go_simp; (try rw [if_neg (by omega)])); all_goals (with_reducible rfl)
            try simp only [List.getElem_toArray, List.getElem_cons_succ, List.getElem_cons_zero, Act.put, List.setIfInBounds_toArray, List.set_cons_zero, List.set_cons_succ]
            refine wpAnyH_take (i := 1) (v := ?_) rfl (by kernel_rfl) (by kernel_rfl) (by kernel_rfl) (fun _ _ _ h => h) (Or.inl ⟨by rfl, ?_⟩) y0 ?_
            rotate_left
            · (intro w hSw; (try dsimp only at hSw); go_simp; (try rw [if_neg (by omega)])); all_goals (with_reducible rfl)
            try simp only [List.getElem_toArray, List.getElem_cons_succ, List.getElem_cons_zero, Act.put, List.setIfInBounds_toArray, List.set_cons_zero, List.set_cons_succ]
            refine wpAnyH_take (i := 2) (v := ?_) rfl (by kernel_rfl) (by kernel_rfl) (by kernel_rfl) (fun _ _ _ h => h) (Or.inl ⟨by rfl, ?_⟩) y0 ?_
            rotate_left
            · (intro w hSw; (try dsimp only at hSw); go_simp; (try rw [if_neg (by omega)])); all_goals (with_reducible rfl)
            try simp only [List.getElem_toArray, List.getElem_cons_succ, List.getElem_cons_zero, Act.put, List.setIfInBounds_toArray, List.set_cons_zero, List.set_cons_succ]
            refine wpAnyH_take (i := 3) (v := ?_) rfl (by kernel_rfl) (by kernel_rfl) (by kernel_rfl) (fun _ _ _ h => h) (Or.inl ⟨by rfl, ?_⟩) y0 ?_
            rotate_left
            · (intro w hSw; (try dsimp only at hSw); go_simp; (try rw [if_neg (by omega)])); all_goals (with_reducible rfl)
            try simp only [List.getElem_toArray, List.getElem_cons_succ, List.getElem_cons_zero, Act.put, List.setIfInBounds_toArray, List.set_cons_zero, List.set_cons_succ]
            refine wpAnyH_take (i := 6) (v := ?_) rfl (by kernel_rfl) (by kernel_rfl) (by kernel_rfl) (fun _ _ _ h => h) (Or.inl ⟨by rfl, ?_⟩) y0 ?_
            rotate_left
            · (intro w hSw; (try dsimp only at hSw); go_simp; (try rw [if_neg (by omega)])); all_goals (with_reducible rfl)
            try simp only [List.getElem_toArray, List.getElem_cons_succ, List.getElem_cons_zero, Act.put, List.setIfInBounds_toArray, List.set_cons_zero, List.set_cons_succ]
            refine wpAnyH_take (i := 7) (v := ?_) rfl (by kernel_rfl) (by kernel_rfl) (by kernel_rfl) (fun _ _ _ h => h) (Or.inl ⟨by rfl, ?_⟩) y0 ?_
            rotate_left
            · (intro w hSw; (try dsimp only at hSw); go_simp; (try rw [if_neg (by omega)])); all_goals (with_reducible rfl)
            try simp only [List.getElem_toArray, List.getElem_cons_succ, List.getElem_cons_zero, Act.put, List.setIfInBounds_toArray, List.set_cons_zero, List.set_cons_succ]
            refine wpAnyH_take (i := 8) (v := ?_) rfl (by kernel_rfl) (by kernel_rfl) (by kernel_rfl) (fun _ _ _ h => h) (Or.inl ⟨by rfl, ?_⟩) y0 ?_
            rotate_left
            · (intro w hSw; (try dsimp only at hSw); go_simp; (try rw [if_neg (by omega)])); all_goals (with_reducible rfl)
            try simp only [List.getElem_toArray, List.getElem_cons_succ, List.getElem_cons_zero, Act.put, List.setIfInBounds_toArray, List.set_cons_zero, List.set_cons_succ]
            refine wpAnyH_ready (rs := [4]) (by kernel_rfl) (by simp) ?_
            refine AllReadyH.cons rfl (fun K hK => ?_) AllReadyH.nil
            go_simp
            go_at_call 52
            refine (N.out _ OK.out.2.2.2.2.2.2.2.1 _).mono ?_
            rintro e wq0 ⟨rfl, bq⟩
            go_wp2_with fail
            have bX := bel2 y0.1 bq
            refine hK.out _ _ ?_ (fun y1 => ?_)
            · exact ⟨bX, cellOver bX s0, cellOver bX s1, cellOver bX s2, cellOver bX s3, cellOver bX s4, cellOver bX s5, cellOver bX s6, cellOver bX s7, cellOver bX s8⟩
            clear hK K y0 bX bq
            try simp only [List.getElem_toArray, List.getElem_cons_succ, List.getElem_cons_zero, Act.put, List.setIfInBounds_toArray, List.set_cons_zero, List.set_cons_succ]
            refine wpAnyH_take (i := 5) (v := ?_) rfl (by kernel_rfl) (by kernel_rfl) (by kernel_rfl) (fun _ _ _ h => h) (Or.inl ⟨by rfl, ?_⟩) y1 ?_
            rotate_left
            · (intro w hSw; (try dsimp only at hSw); go_simp; (try rw [if_neg (by omega)])); all_goals (with_reducible rfl)
            try simp only [List.getElem_toArray, List.getElem_cons_succ, List.getElem_cons_zero, Act.put, List.setIfInBounds_toArray, List.set_cons_zero, List.set_cons_succ]
            refine wpAnyH_ready (rs := [9]) (by kernel_rfl) (by simp) ?_
            refine AllReadyH.cons rfl (fun K hK => ?_) AllReadyH.nil
            go_simp
            go_at_call 52
            refine (N.out _ OK.out.2.2.2.2.2.2.2.2 _).mono ?_
            rintro e wq1 ⟨rfl, bq⟩
            go_wp2_with fail
            have bX := bel2 y1.1 bq
            refine hK.out _ _ ?_ (fun y2 => ?_)
            · exact ⟨bX, cellOver bX s0, cellOver bX s1, cellOver bX s2, cellOver bX s3, cellOver bX s4, cellOver bX s5, cellOver bX s6, cellOver bX s7, cellOver bX s8⟩
            clear hK K y1 bX bq
            try simp only [List.getElem_toArray, List.getElem_cons_succ, List.getElem_cons_zero, Act.put, List.setIfInBounds_toArray, List.set_cons_zero, List.set_cons_succ]
            refine wpAnyH_take (i := 10) (v := ?_) rfl (by kernel_rfl) (by kernel_rfl) (by kernel_rfl) (fun _ _ _ h => h) (Or.inl ⟨by rfl, ?_⟩) y2 ?_
            rotate_left
            · (intro w hSw; (try dsimp only at hSw); go_simp; (try rw [if_neg (by omega)])); all_goals (with_reducible rfl)
            try simp only [List.getElem_toArray, List.getElem_cons_succ, List.getElem_cons_zero, Act.put, List.setIfInBounds_toArray, List.set_cons_zero, List.set_cons_succ]
            refine wpAnyH_take (i := 11) (v := ?_) rfl (by kernel_rfl) (by kernel_rfl) (by kernel_rfl) (fun _ _ _ h => h) (Or.inl ⟨by rfl, ?_⟩) y2 ?_
            rotate_left
            · (intro w hSw; (try dsimp only at hSw); go_simp; (try rw [if_neg (by omega)])); all_goals (with_reducible rfl)
            try simp only [List.getElem_toArray, List.getElem_cons_succ, List.getElem_cons_zero, Act.put, List.setIfInBounds_toArray, List.set_cons_zero, List.set_cons_succ]
            refine wpAnyH_done (by kernel_rfl) ?_ _
            have BF := Lib.hid (bel2 (bel2 BQ2.out hbz.out) y2.1)
            clear y2 s0 s1 s2 s3 s4 s5 s6 s7 s8
            go_wp2
            go_roundw
            case rel => exact ⟨k + 1, by omega, by go_num, by rw [FS.out, ← List.append_assoc, HPE.out]; congr 1; exact bytes_ext (by simp [HTT.out, HSL2.out, encB, encN, hal]), BF⟩
            case measure => simp [intOf]; omega
      · obtain rfl : k = n := by omega
        have hall : es.take k = es := List.take_of_length_le (by rw [HL.out]; exact Nat.le_refl _)
        rw [hall]
        have hE : encL (blks es) = encInt (k : Int) ++ flatE es := by unfold encL flatE; rw [show (blks es).length = k by simp [blks, HL.out]]
        have HE := Lib.hid hE
        clear hE
        go_wp2
        go_ret2
        rw [HR.out, HE.out]
        exact ⟨rfl, hb.out⟩
end Go.Proofs.YtcapfjonkcekoaaDoor
