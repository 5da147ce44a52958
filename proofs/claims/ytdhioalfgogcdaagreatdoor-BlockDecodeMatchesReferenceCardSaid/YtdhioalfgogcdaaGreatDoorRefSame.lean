/- The reference's comparing of blocks. -/
import Derived.Test.YtdhioalfgogcdaaGreatDoorBlkVL
import Derived.Test.YtdhioalfgogcdaaGreatDoorBlkO
import Derived.Test.YtdhioalfgogcdaaGreatDoorBlkS
import Derived.Deep.RegionHeld3
import Derived.RegionTactic
import Derived.Deep.CutRange
import Derived.BigQuiet
namespace Go.Proofs.YtdhioalfgogcdaaGreatDoor
open Go.RowKit Go.MapKept
set_option maxRecDepth 100000
set_option linter.unusedSimpArgs false
set_option linter.unusedVariables false
theorem dec_beq {α : Type} [BEq α] [LawfulBEq α] [DecidableEq α] (p q : α) : decide (p = q) = (p == q) := by by_cases h : p = q <;> simp [h]
theorem sB_eq (x y : Blk) : sB x y = ((x.id == y.id) && ((x.kd == y.kd) && ((x.tx == y.tx) && ((x.st == y.st) && ((x.rf == y.rf) && sameB x.lb y.lb))))) := by
  unfold sB
  simp only [dec_beq]
set_option maxHeartbeats 8000000 in
theorem refsame_any (x y : Blk) (a : Option Addr) (n c : Nat) (a2 : Option Addr) (n2 c2 : Nat) (w : World) (h : LabAt w a n c x.lb) (h2 : LabAt w a2 n2 c2 y.lb) :
    Calls Tryz.prog 19 #[blkV x a n c, blkV y a2 n2 c2] w fun e w' => e = .returned (.bool (sB x y)) ∧ Below w.heap.size w w' := by
  have B0 := Lib.hid (((Below.refl w.heap.size w).alloc (Nat.le_refl _) (.cells #[.int .i64 x.id, .int .i64 x.kd, .string ⟨x.tx.toArray⟩, .int .i64 x.st, .int .i64 x.rf, .int .i64 x.lb.u, .slice a n c, .int .i64 x.lb.ap, .int .i64 x.lb.d] 33)).alloc (by simp) (.cells #[.int .i64 y.id, .int .i64 y.kd, .string ⟨y.tx.toArray⟩, .int .i64 y.st, .int .i64 y.rf, .int .i64 y.lb.u, .slice a2 n2 c2, .int .i64 y.lb.ap, .int .i64 y.lb.d] 33))
  have KL := Lib.hid (refSame_any x.lb y.lb a n c a2 n2 c2 _ (h.over B0.out) (h2.over B0.out))
  have HS := Lib.hid (sB_eq x y)
  clear h h2
  unfold blkV
  generalize sameB x.lb y.lb = sl at *
  generalize sB x y = R at *
  go_enter Tryz.func19, Tryz.ntmps19
  cases e0 : (x.id == y.id)
  · have HR := Lib.hid (show R = false by rw [HS.out]; simp [e0])
    go_wp2
    go_ret
    exact ⟨ret_bool HR.out.symm, B0.out⟩
  cases e1 : (x.kd == y.kd)
  · have HR := Lib.hid (show R = false by rw [HS.out]; simp [e0, e1])
    go_wp2
    go_ret
    exact ⟨ret_bool HR.out.symm, B0.out⟩
  cases e2 : (x.tx == y.tx)
  · have HR := Lib.hid (show R = false by rw [HS.out]; simp [e0, e1, e2])
    go_wp2
    go_ret
    exact ⟨ret_bool HR.out.symm, B0.out⟩
  cases e3 : (x.st == y.st)
  · have HR := Lib.hid (show R = false by rw [HS.out]; simp [e0, e1, e2, e3])
    go_wp2
    go_ret
    exact ⟨ret_bool HR.out.symm, B0.out⟩
  cases e4 : (x.rf == y.rf)
  · have HR := Lib.hid (show R = false by rw [HS.out]; simp [e0, e1, e2, e3, e4])
    go_wp2
    go_ret
    exact ⟨ret_bool HR.out.symm, B0.out⟩
  have HR := Lib.hid (show R = sl by rw [HS.out]; simp [e0, e1, e2, e3, e4])
  go_wp2_with fail
  refine KL.out.mono ?_
  rintro z w1 ⟨rfl, b1⟩
  go_wp2
  go_ret
  exact ⟨ret_bool HR.out.symm, bel2 B0.out b1⟩
theorem sL_no_len {es fs : List BE} (h : es.length ≠ fs.length) : sL (blks es) (blks fs) = false := by
  cases hv : sL (blks es) (blks fs)
  · rfl
  · rw [sL_iff] at hv
    have := congrArg List.length hv
    simp [blks] at this
    exact absurd this h
theorem sL_no_at {es fs : List BE} {k : Nat} {d e : BE} (hd : es[k]? = some d) (he : fs[k]? = some e) (h : sB d.1 e.1 = false) : sL (blks es) (blks fs) = false := by
  cases hv : sL (blks es) (blks fs)
  · rfl
  · rw [sL_iff] at hv
    have h1 : (blks es)[k]? = some d.1 := by simp [blks, hd]
    have h2 : (blks fs)[k]? = some e.1 := by simp [blks, he]
    rw [hv, h2] at h1
    rw [(sB_iff d.1 e.1).2 (Option.some.inj h1).symm] at h
    cases h
theorem sL_yes_all {es fs : List BE} (hl : es.length = fs.length) (h : ∀ (k : Nat) (d e : BE), es[k]? = some d → fs[k]? = some e → sB d.1 e.1 = true) : sL (blks es) (blks fs) = true := by
  rw [sL_iff]
  apply List.ext_getElem (by simp [blks, hl])
  intro k h1 h2
  simp only [blks, List.length_map] at h1 h2
  simp only [blks, List.getElem_map]
  exact (sB_iff _ _).1 (h k _ _ (List.getElem?_eq_getElem h1) (List.getElem?_eq_getElem h2))
set_option maxHeartbeats 16000000 in
theorem refsamel_any (a : Option Addr) (n c : Nat) (es : List BE) (a2 : Option Addr) (n2 c2 : Nat) (fs : List BE) (w : World) (h : IsBlks w a n c es) (h2 : IsBlks w a2 n2 c2 fs) :
    Calls Tryz.prog 7 #[.slice a n c, .slice a2 n2 c2] w fun x w' => x = .returned (.bool (sL (blks es) (blks fs))) ∧ Below w.heap.size w w' := by
  have hcm := h.2.2.1
  have hnc := h.2.1
  have hcm2 := h2.2.2.1
  have hnc2 := h2.2.1
  have HL := Lib.hid h.1
  have HL2 := Lib.hid h2.1
  have H := Lib.hid h
  have H2 := Lib.hid h2
  unfold maxLen at hcm hcm2
  clear h h2
  go_enter Tryz.func7, Tryz.ntmps7
  by_cases hn : (n : Int) = n2
  rotate_left
  · have HN := Lib.hid (sL_no_len (es := es) (fs := fs) (by rw [HL.out, HL2.out]; omega))
    go_wp2
    go_ret
    exact ⟨ret_bool HN.out.symm, Below.refl _ _⟩
  obtain rfl : n = n2 := by omega
  go_wp2
  go_loopw [5, 6] (fun i _ wr => ∃ k : Nat, k ≤ n ∧ i = .int .i64 k ∧ Hid (∀ j d e, j < k → es[j]? = some d → fs[j]? = some e → sB d.1 e.1 = true) ∧ Hid (Below w.heap.size w wr)) (fun i _ _ => n - (intOf i).toNat)
  case atStart => exact ⟨0, Nat.zero_le _, rfl, Lib.hid (fun j d e hj => by omega), Lib.hid (Below.refl _ _)⟩
  case round =>
    obtain ⟨k, hk, rfl, hv, hb⟩ := hrel
    by_cases hlt : k < n
    · obtain ⟨b, off, d, rfl, hd, hok, h9⟩ := (H.out.over hb.out).at_ hlt
      obtain ⟨b2, off2, e, rfl, he, hok2, h92⟩ := (H2.out.over hb.out).at_ hlt
      have HD := Lib.hid hd
      have HE := Lib.hid he
      have LD := Lib.hid hok.1
      have LE := Lib.hid hok2.1
      obtain ⟨p0, p1, p2, p3, p4, p5, p6, p7, p8⟩ := h9
      obtain ⟨q0, q1, q2, q3, q4, q5, q6, q7, q8⟩ := h92
      have g1 : (k : Int) < n := by omega
      clear hd he hok hok2
      go_wp2
      have bc := Below.refl wr.heap.size wr
      refine wp_region_held_drew (S := fun w' => Below wr.heap.size wr w' ∧ w'.cell? ⟨b, off + k * 9, none⟩ = some (.int .i64 d.1.id) ∧ w'.cell? ⟨b, off + k * 9 + 1, none⟩ = some (.int .i64 d.1.kd) ∧ w'.cell? ⟨b, off + k * 9 + 2, none⟩ = some (.string ⟨d.1.tx.toArray⟩) ∧ w'.cell? ⟨b, off + k * 9 + 3, none⟩ = some (.int .i64 d.1.st) ∧ w'.cell? ⟨b, off + k * 9 + 4, none⟩ = some (.int .i64 d.1.rf) ∧ w'.cell? ⟨b, off + k * 9 + 5, none⟩ = some (.int .i64 d.1.lb.u) ∧ w'.cell? ⟨b, off + k * 9 + 6, none⟩ = some (.slice d.2.1 d.2.2.1 d.2.2.2) ∧ w'.cell? ⟨b, off + k * 9 + 7, none⟩ = some (.int .i64 d.1.lb.ap) ∧ w'.cell? ⟨b, off + k * 9 + 8, none⟩ = some (.int .i64 d.1.lb.d) ∧ w'.cell? ⟨b2, off2 + k * 9, none⟩ = some (.int .i64 e.1.id) ∧ w'.cell? ⟨b2, off2 + k * 9 + 1, none⟩ = some (.int .i64 e.1.kd) ∧ w'.cell? ⟨b2, off2 + k * 9 + 2, none⟩ = some (.string ⟨e.1.tx.toArray⟩) ∧ w'.cell? ⟨b2, off2 + k * 9 + 3, none⟩ = some (.int .i64 e.1.st) ∧ w'.cell? ⟨b2, off2 + k * 9 + 4, none⟩ = some (.int .i64 e.1.rf) ∧ w'.cell? ⟨b2, off2 + k * 9 + 5, none⟩ = some (.int .i64 e.1.lb.u) ∧ w'.cell? ⟨b2, off2 + k * 9 + 6, none⟩ = some (.slice e.2.1 e.2.2.1 e.2.2.2) ∧ w'.cell? ⟨b2, off2 + k * 9 + 7, none⟩ = some (.int .i64 e.1.lb.ap) ∧ w'.cell? ⟨b2, off2 + k * 9 + 8, none⟩ = some (.int .i64 e.1.lb.d)) (by kernel_rfl) ?_ (fun h0 => ?_)
      · exact ⟨bc.drew, p0, p1, p2, p3, p4, p5, p6, p7, p8, q0, q1, q2, q3, q4, q5, q6, q7, q8⟩
      refine wpAnyH_take (i := 0) (v := ?_) rfl (by kernel_rfl) (by kernel_rfl) (by kernel_rfl) (fun _ _ _ h => h) (Or.inl ⟨by rfl, ?_⟩) h0 ?_
      rotate_left
      · (intro w hSw; (try dsimp only at hSw); go_simp); all_goals (with_reducible rfl)
      try simp only [List.getElem_toArray, List.getElem_cons_succ, List.getElem_cons_zero, Act.put, List.setIfInBounds_toArray, List.set_cons_zero, List.set_cons_succ]
      refine wpAnyH_take (i := 1) (v := ?_) rfl (by kernel_rfl) (by kernel_rfl) (by kernel_rfl) (fun _ _ _ h => h) (Or.inl ⟨by rfl, ?_⟩) h0 ?_
      rotate_left
      · (intro w hSw; (try dsimp only at hSw); go_simp); all_goals (with_reducible rfl)
      try simp only [List.getElem_toArray, List.getElem_cons_succ, List.getElem_cons_zero, Act.put, List.setIfInBounds_toArray, List.set_cons_zero, List.set_cons_succ]
      refine wpAnyH_take (i := 2) (v := ?_) rfl (by kernel_rfl) (by kernel_rfl) (by kernel_rfl) (fun _ _ _ h => h) (Or.inl ⟨by rfl, ?_⟩) h0 ?_
      rotate_left
      · (intro w hSw; (try dsimp only at hSw); go_simp); all_goals (with_reducible rfl)
      try simp only [List.getElem_toArray, List.getElem_cons_succ, List.getElem_cons_zero, Act.put, List.setIfInBounds_toArray, List.set_cons_zero, List.set_cons_succ]
      refine wpAnyH_take (i := 3) (v := ?_) rfl (by kernel_rfl) (by kernel_rfl) (by kernel_rfl) (fun _ _ _ h => h) (Or.inl ⟨by rfl, ?_⟩) h0 ?_
      rotate_left
      · (intro w hSw; (try dsimp only at hSw); go_simp); all_goals (with_reducible rfl)
      try simp only [List.getElem_toArray, List.getElem_cons_succ, List.getElem_cons_zero, Act.put, List.setIfInBounds_toArray, List.set_cons_zero, List.set_cons_succ]
      refine wpAnyH_take (i := 4) (v := ?_) rfl (by kernel_rfl) (by kernel_rfl) (by kernel_rfl) (fun _ _ _ h => h) (Or.inl ⟨by rfl, ?_⟩) h0 ?_
      rotate_left
      · (intro w hSw; (try dsimp only at hSw); go_simp); all_goals (with_reducible rfl)
      try simp only [List.getElem_toArray, List.getElem_cons_succ, List.getElem_cons_zero, Act.put, List.setIfInBounds_toArray, List.set_cons_zero, List.set_cons_succ]
      refine wpAnyH_take (i := 5) (v := ?_) rfl (by kernel_rfl) (by kernel_rfl) (by kernel_rfl) (fun _ _ _ h => h) (Or.inl ⟨by rfl, ?_⟩) h0 ?_
      rotate_left
      · (intro w hSw; (try dsimp only at hSw); go_simp); all_goals (with_reducible rfl)
      try simp only [List.getElem_toArray, List.getElem_cons_succ, List.getElem_cons_zero, Act.put, List.setIfInBounds_toArray, List.set_cons_zero, List.set_cons_succ]
      refine wpAnyH_take (i := 6) (v := ?_) rfl (by kernel_rfl) (by kernel_rfl) (by kernel_rfl) (fun _ _ _ h => h) (Or.inl ⟨by rfl, ?_⟩) h0 ?_
      rotate_left
      · (intro w hSw; (try dsimp only at hSw); go_simp); all_goals (with_reducible rfl)
      try simp only [List.getElem_toArray, List.getElem_cons_succ, List.getElem_cons_zero, Act.put, List.setIfInBounds_toArray, List.set_cons_zero, List.set_cons_succ]
      refine wpAnyH_take (i := 7) (v := ?_) rfl (by kernel_rfl) (by kernel_rfl) (by kernel_rfl) (fun _ _ _ h => h) (Or.inl ⟨by rfl, ?_⟩) h0 ?_
      rotate_left
      · (intro w hSw; (try dsimp only at hSw); go_simp); all_goals (with_reducible rfl)
      try simp only [List.getElem_toArray, List.getElem_cons_succ, List.getElem_cons_zero, Act.put, List.setIfInBounds_toArray, List.set_cons_zero, List.set_cons_succ]
      refine wpAnyH_ready (rs := [8]) (by kernel_rfl) (by simp) ?_
      refine AllReadyH.cons rfl (fun K hK => ?_) AllReadyH.nil
      go_simp
      go_at_call 19
      refine (refsame_any d.1 e.1 d.2.1 d.2.2.1 d.2.2.2 e.2.1 e.2.2.1 e.2.2.2 _ (LD.out.over h0.1) (LE.out.over h0.1)).mono ?_
      rintro e wq0 ⟨rfl, bq⟩
      go_wp2_with fail
      have bX := bel2 h0.1 bq
      refine hK.out _ _ ?_ (fun h1 => ?_)
      · exact ⟨bX, cellOver bX p0, cellOver bX p1, cellOver bX p2, cellOver bX p3, cellOver bX p4, cellOver bX p5, cellOver bX p6, cellOver bX p7, cellOver bX p8, cellOver bX q0, cellOver bX q1, cellOver bX q2, cellOver bX q3, cellOver bX q4, cellOver bX q5, cellOver bX q6, cellOver bX q7, cellOver bX q8⟩
      clear hK K h0 bX bq
      try simp only [List.getElem_toArray, List.getElem_cons_succ, List.getElem_cons_zero, Act.put, List.setIfInBounds_toArray, List.set_cons_zero, List.set_cons_succ]
      refine wpAnyH_take (i := 9) (v := ?_) rfl (by kernel_rfl) (by kernel_rfl) (by kernel_rfl) (fun _ _ _ h => h) (Or.inl ⟨by rfl, ?_⟩) h1 ?_
      rotate_left
      · (intro w hSw; (try dsimp only at hSw); go_simp); all_goals (with_reducible rfl)
      try simp only [List.getElem_toArray, List.getElem_cons_succ, List.getElem_cons_zero, Act.put, List.setIfInBounds_toArray, List.set_cons_zero, List.set_cons_succ]
      refine wpAnyH_done (by kernel_rfl) ?_ _
      have BX := Lib.hid (bel2 hb.out h1.1)
      clear h1 p0 p1 p2 p3 p4 p5 p6 p7 p8 q0 q1 q2 q3 q4 q5 q6 q7 q8
      cases hs : sB d.1 e.1
      · have HN := Lib.hid (sL_no_at HD.out HE.out hs)
        go_wp2
        go_ret
        exact ⟨ret_bool HN.out.symm, BX.out⟩
      · have HSB := Lib.hid hs
        go_wp2
        go_roundw
        case rel => exact ⟨k + 1, by omega, by go_num, Lib.hid (fun j d' e' hj hd' he' => by
          by_cases q : j = k
          · subst q; rw [HD.out] at hd'; rw [HE.out] at he'; cases hd'; cases he'; exact HSB.out
          · exact hv.out j d' e' (by omega) hd' he'), BX⟩
        case measure => simp [intOf]; omega
    · obtain rfl : k = n := by omega
      have HY := Lib.hid (sL_yes_all (es := es) (fs := fs) (by rw [HL.out, HL2.out]) (fun j d e hd he => hv.out j d e (by have := (List.getElem?_eq_some_iff.1 hd).1; rw [HL.out] at this; exact this) hd he))
      go_wp2
      go_ret
      exact ⟨ret_bool HY.out.symm, hb.out⟩
end Go.Proofs.YtdhioalfgogcdaaGreatDoor
