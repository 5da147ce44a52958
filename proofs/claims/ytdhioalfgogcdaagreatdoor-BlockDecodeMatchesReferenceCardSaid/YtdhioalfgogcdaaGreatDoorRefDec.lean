/- The reference's decoder of blocks: what it returns, for all strings. -/
import Derived.Test.YtdhioalfgogcdaaGreatDoorRefInt
import Derived.Test.YtdhioalfgogcdaaGreatDoorRefDecP
import Derived.Test.YtdhioalfgogcdaaGreatDoorBlkD5
import Derived.Deep.RegionHeld3
namespace Go.Proofs.YtdhioalfgogcdaaGreatDoor
open Go.RowKit Go.MapKept
set_option maxRecDepth 100000
set_option linter.unusedSimpArgs false
set_option linter.unusedVariables false
/-- What the reference's reader in block R reads, how far it is, and its error. -/
def RfAt (w : World) (R : Nat) (s : ByteArray) (σ : Int × Int) : Prop := w.heap[R]? = some (.cells #[.string s, .int .i64 σ.1, .int .i64 σ.2] 48 (0, 0))
theorem rf_cells {w : World} {R : Nat} {s : ByteArray} {σ : Int × Int} (h : RfAt w R s σ) : w.cell? ⟨R, 0, none⟩ = some (.string s) ∧ w.cell? ⟨R, 1, none⟩ = some (.int .i64 σ.1) ∧ w.cell? ⟨R, 2, none⟩ = some (.int .i64 σ.2) := cells3 h
theorem rf_over {w w' : World} {R : Nat} {s : ByteArray} {σ : Int × Int} (hb : Below w.heap.size w w') (h : RfAt w R s σ) : RfAt w' R s σ := blockOver hb h
theorem rf_setNew {R g : Nat} {w : World} {s : ByteArray} {σ : Int × Int} (h : RfAt w R s σ) (hg : R ≠ g) (o : Nat) (v : Value) : RfAt (w.setCell ⟨g, o, none⟩ v) R s σ :=
  (Below.heap_setCell w ⟨g, o, none⟩ v R hg).trans h
set_option maxHeartbeats 4000000 in
theorem rfnum_any (R : Nat) (s : ByteArray) (σ : Int × Int) (w : World) (hs : s.size ≤ maxLen) (h : RfAt w R s σ) :
    Calls Tryz.prog 40 #[.pointer (some ⟨R, 0, none⟩)] w fun e w' => e = .returned (.int .i64 ((rfI s.data.toList σ).1)) ∧ RfAt w' R s (rfI s.data.toList σ).2 ∧ Keeps R w w' := by
  obtain ⟨a, er⟩ := σ
  obtain ⟨c0, c1, c2⟩ := rf_cells h
  simp only at c1 c2
  have H := Lib.hid h
  clear h
  by_cases he : er = 0
  · subst he
    have HR := Lib.hid (show rfI s.data.toList (a, 0) = if (intAt s.data.toList a).2.2 ≠ 0 then (0, (a, 10)) else intAt s.data.toList a by unfold rfI; rw [if_neg (by simp)])
    have KD := Lib.hid (fun W => refInt_any s a W hs)
    generalize rfI s.data.toList (a, 0) = r at *
    generalize intAt s.data.toList a = q at *
    obtain ⟨v, at2, err2⟩ := q
    simp only at HR KD
    go_enter Tryz.func40, Tryz.ntmps40
    go_wp2_with fail
    refine wp_region_held_drew (S := fun w' => w'.cell? ⟨R, 0, none⟩ = some (.string s) ∧ w'.cell? ⟨R, 1, none⟩ = some (.int .i64 a)) (by kernel_rfl) ?_ (fun h0 => ?_)
    · exact ⟨c0, c1⟩
    refine wpAnyH_take (i := 0) (v := ?_) rfl (by kernel_rfl) (by kernel_rfl) (by kernel_rfl) (fun _ _ _ h => h) (Or.inl ⟨by rfl, ?_⟩) h0 ?_
    rotate_left
    · (intro w hSw; (try dsimp only at hSw); go_simp); all_goals (with_reducible rfl)
    try simp only [List.getElem_toArray, List.getElem_cons_succ, List.getElem_cons_zero, Act.put, List.setIfInBounds_toArray, List.set_cons_zero, List.set_cons_succ]
    refine wpAnyH_take (i := 1) (v := ?_) rfl (by kernel_rfl) (by kernel_rfl) (by kernel_rfl) (fun _ _ _ h => h) (Or.inl ⟨by rfl, ?_⟩) h0 ?_
    rotate_left
    · (intro w hSw; (try dsimp only at hSw); go_simp); all_goals (with_reducible rfl)
    try simp only [List.getElem_toArray, List.getElem_cons_succ, List.getElem_cons_zero, Act.put, List.setIfInBounds_toArray, List.set_cons_zero, List.set_cons_succ]
    refine wpAnyH_take (i := 2) (v := ?_) rfl (by kernel_rfl) (by kernel_rfl) (by kernel_rfl) (fun _ _ _ h => h) (Or.inl ⟨by rfl, ?_⟩) h0 ?_
    rotate_left
    · (intro w hSw; (try dsimp only at hSw); go_simp); all_goals (with_reducible rfl)
    try simp only [List.getElem_toArray, List.getElem_cons_succ, List.getElem_cons_zero, Act.put, List.setIfInBounds_toArray, List.set_cons_zero, List.set_cons_succ]
    refine wpAnyH_take (i := 3) (v := ?_) rfl (by kernel_rfl) (by kernel_rfl) (by kernel_rfl) (fun _ _ _ h => h) (Or.inl ⟨by rfl, ?_⟩) h0 ?_
    rotate_left
    · (intro w hSw; (try dsimp only at hSw); go_simp); all_goals (with_reducible rfl)
    try simp only [List.getElem_toArray, List.getElem_cons_succ, List.getElem_cons_zero, Act.put, List.setIfInBounds_toArray, List.set_cons_zero, List.set_cons_succ]
    refine wpAnyH_take (i := 4) (v := ?_) rfl (by kernel_rfl) (by kernel_rfl) (by kernel_rfl) (fun _ _ _ h => h) (Or.inl ⟨by rfl, ?_⟩) h0 ?_
    rotate_left
    · (intro w hSw; (try dsimp only at hSw); go_simp); all_goals (with_reducible rfl)
    try simp only [List.getElem_toArray, List.getElem_cons_succ, List.getElem_cons_zero, Act.put, List.setIfInBounds_toArray, List.set_cons_zero, List.set_cons_succ]
    refine wpAnyH_take (i := 5) (v := ?_) rfl (by kernel_rfl) (by kernel_rfl) (by kernel_rfl) (fun _ _ _ h => h) (Or.inl ⟨by rfl, ?_⟩) h0 ?_
    rotate_left
    · (intro w hSw; (try dsimp only at hSw); go_simp); all_goals (with_reducible rfl)
    try simp only [List.getElem_toArray, List.getElem_cons_succ, List.getElem_cons_zero, Act.put, List.setIfInBounds_toArray, List.set_cons_zero, List.set_cons_succ]
    refine wpAnyH_take (i := 6) (v := ?_) rfl (by kernel_rfl) (by kernel_rfl) (by kernel_rfl) (fun _ _ _ h => h) (Or.inl ⟨by rfl, ?_⟩) h0 ?_
    rotate_left
    · (intro w hSw; (try dsimp only at hSw); go_simp); all_goals (with_reducible rfl)
    try simp only [List.getElem_toArray, List.getElem_cons_succ, List.getElem_cons_zero, Act.put, List.setIfInBounds_toArray, List.set_cons_zero, List.set_cons_succ]
    refine wpAnyH_take (i := 7) (v := ?_) rfl (by kernel_rfl) (by kernel_rfl) (by kernel_rfl) (fun _ _ _ h => h) (Or.inl ⟨by rfl, ?_⟩) h0 ?_
    rotate_left
    · (intro w hSw; (try dsimp only at hSw); go_simp); all_goals (with_reducible rfl)
    try simp only [List.getElem_toArray, List.getElem_cons_succ, List.getElem_cons_zero, Act.put, List.setIfInBounds_toArray, List.set_cons_zero, List.set_cons_succ]
    refine wpAnyH_ready (rs := [8]) (by kernel_rfl) (by simp) ?_
    refine AllReadyH.cons rfl (fun K hK => ?_) AllReadyH.nil
    go_simp
    go_at_call 75
    refine (KD.out _).mono ?_
    rintro e w1 ⟨rfl, bq⟩
    go_wp2_with fail
    have H1 := Lib.hid (rf_over bq H.out)
    have K1 := Lib.hid ((Keeps.refl R w).drew.trans (Keeps.of_below (R := R) bq))
    have bS := And.intro (cellOver bq h0.1) (cellOver bq h0.2)
    refine hK.out _ _ ?_ (fun h1 => ?_)
    · exact bS
    clear hK K h0 bS bq
    try simp only [List.getElem_toArray, List.getElem_cons_succ, List.getElem_cons_zero, Act.put, List.setIfInBounds_toArray, List.set_cons_zero, List.set_cons_succ]
    refine wpAnyH_take (i := 9) (v := ?_) rfl (by kernel_rfl) (by kernel_rfl) (by kernel_rfl) (fun _ _ _ h => h) (Or.inl ⟨by rfl, ?_⟩) h1 ?_
    rotate_left
    · (intro w hSw; (try dsimp only at hSw); go_simp); all_goals (with_reducible rfl)
    try simp only [List.getElem_toArray, List.getElem_cons_succ, List.getElem_cons_zero, Act.put, List.setIfInBounds_toArray, List.set_cons_zero, List.set_cons_succ]
    refine wpAnyH_take (i := 10) (v := ?_) rfl (by kernel_rfl) (by kernel_rfl) (by kernel_rfl) (fun _ _ _ h => h) (Or.inl ⟨by rfl, ?_⟩) h1 ?_
    rotate_left
    · (intro w hSw; (try dsimp only at hSw); go_simp); all_goals (with_reducible rfl)
    try simp only [List.getElem_toArray, List.getElem_cons_succ, List.getElem_cons_zero, Act.put, List.setIfInBounds_toArray, List.set_cons_zero, List.set_cons_succ]
    refine wpAnyH_take (i := 11) (v := ?_) rfl (by kernel_rfl) (by kernel_rfl) (by kernel_rfl) (fun _ _ _ h => h) (Or.inl ⟨by rfl, ?_⟩) h1 ?_
    rotate_left
    · (intro w hSw; (try dsimp only at hSw); go_simp); all_goals (with_reducible rfl)
    try simp only [List.getElem_toArray, List.getElem_cons_succ, List.getElem_cons_zero, Act.put, List.setIfInBounds_toArray, List.set_cons_zero, List.set_cons_succ]
    refine wpAnyH_take (i := 12) (v := ?_) rfl (by kernel_rfl) (by kernel_rfl) (by kernel_rfl) (fun _ _ _ h => h) (Or.inl ⟨by rfl, ?_⟩) h1 ?_
    rotate_left
    · (intro w hSw; (try dsimp only at hSw); go_simp); all_goals (with_reducible rfl)
    try simp only [List.getElem_toArray, List.getElem_cons_succ, List.getElem_cons_zero, Act.put, List.setIfInBounds_toArray, List.set_cons_zero, List.set_cons_succ]
    refine wpAnyH_take (i := 13) (v := ?_) rfl (by kernel_rfl) (by kernel_rfl) (by kernel_rfl) (fun _ _ _ h => h) (Or.inl ⟨by rfl, ?_⟩) h1 ?_
    rotate_left
    · (intro w hSw; (try dsimp only at hSw); go_simp); all_goals (with_reducible rfl)
    try simp only [List.getElem_toArray, List.getElem_cons_succ, List.getElem_cons_zero, Act.put, List.setIfInBounds_toArray, List.set_cons_zero, List.set_cons_succ]
    refine wpAnyH_take (i := 14) (v := ?_) rfl (by kernel_rfl) (by kernel_rfl) (by kernel_rfl) (fun _ _ _ h => h) (Or.inl ⟨by rfl, ?_⟩) h1 ?_
    rotate_left
    · (intro w hSw; (try dsimp only at hSw); go_simp); all_goals (with_reducible rfl)
    try simp only [List.getElem_toArray, List.getElem_cons_succ, List.getElem_cons_zero, Act.put, List.setIfInBounds_toArray, List.set_cons_zero, List.set_cons_succ]
    refine wpAnyH_take (i := 15) (v := ?_) rfl (by kernel_rfl) (by kernel_rfl) (by kernel_rfl) (fun _ _ _ h => h) (Or.inl ⟨by rfl, ?_⟩) h1 ?_
    rotate_left
    · (intro w hSw; (try dsimp only at hSw); go_simp); all_goals (with_reducible rfl)
    try simp only [List.getElem_toArray, List.getElem_cons_succ, List.getElem_cons_zero, Act.put, List.setIfInBounds_toArray, List.set_cons_zero, List.set_cons_succ]
    refine wpAnyH_done (by kernel_rfl) ?_ _
    clear h1
    clear c0 c1 c2
    obtain ⟨d0, d1, d2⟩ := rf_cells H1.out
    have f1 := Joins.unfrozen_of_block H1.out 1
    have f2 := Joins.unfrozen_of_block H1.out 2
    by_cases e2 : err2 = 0
    · subst e2
      have HR2 := Lib.hid (show r = (v, at2, 0) by rw [HR.out, if_neg (by simp)])
      have H2 := Lib.hid (show RfAt (w1.setCell ⟨R, 1, none⟩ (.int .i64 at2)) R s (at2, 0) from Joins.block_setCell H1.out (.int .i64 at2))
      have K2 := Lib.hid (K1.out.setCell 1 (.int .i64 at2))
      clear HR H1 K1
      go_wp2
      go_ret
      rw [HR2.out]
      exact ⟨rfl, H2.out, K2.out⟩
    · have g1 : (err2 == 0) = false := by simp [e2]
      have g2 : (err2 != 0) = true := by simp [e2]
      have HR2 := Lib.hid (show r = (0, a, 10) by rw [HR.out, if_pos e2])
      have H2 := Lib.hid (show RfAt (w1.setCell ⟨R, 2, none⟩ (.int .i64 10)) R s (a, 10) from Joins.block_setCell H1.out (.int .i64 10))
      have K2 := Lib.hid (K1.out.setCell 2 (.int .i64 10))
      clear HR H1 K1 e2
      go_wp2
      go_ret
      rw [HR2.out]
      exact ⟨rfl, H2.out, K2.out⟩
  · have hr : rfI s.data.toList (a, er) = (0, (a, er)) := by unfold rfI; rw [if_pos he]
    rw [hr]
    have g1 : (er == 0) = false := by simp [he]
    have g2 : (er != 0) = true := by simp [he]
    clear hr he
    go_enter Tryz.func40, Tryz.ntmps40
    go_wp2
    go_ret
    exact ⟨rfl, H.out, Keeps.refl _ _⟩
set_option maxHeartbeats 4000000 in
theorem rftxt_any (R : Nat) (s : ByteArray) (σ : Int × Int) (w : World) (hs : s.size ≤ maxLen) (h : RfAt w R s σ) :
    Calls Tryz.prog 41 #[.pointer (some ⟨R, 0, none⟩)] w fun e w' => e = .returned (.string ⟨((rfS s.data.toList σ).1).toArray⟩) ∧ RfAt w' R s (rfS s.data.toList σ).2 ∧ Keeps R w w' := by
  obtain ⟨a, er⟩ := σ
  obtain ⟨c0, c1, c2⟩ := rf_cells h
  simp only at c1 c2
  have H := Lib.hid h
  clear h
  by_cases he : er = 0
  · subst he
    have HR := Lib.hid (show rfS s.data.toList (a, 0) = if (strAt s.data.toList a).2.2 ≠ 0 then ([], (a, 10)) else strAt s.data.toList a by unfold rfS; rw [if_neg (by simp)])
    have KD := Lib.hid (fun W => refString_any s a W hs)
    generalize rfS s.data.toList (a, 0) = r at *
    generalize strAt s.data.toList a = q at *
    obtain ⟨v, at2, err2⟩ := q
    simp only at HR KD
    go_enter Tryz.func41, Tryz.ntmps41
    go_wp2_with fail
    refine wp_region_held_drew (S := fun w' => w'.cell? ⟨R, 0, none⟩ = some (.string s) ∧ w'.cell? ⟨R, 1, none⟩ = some (.int .i64 a)) (by kernel_rfl) ?_ (fun h0 => ?_)
    · exact ⟨c0, c1⟩
    refine wpAnyH_take (i := 0) (v := ?_) rfl (by kernel_rfl) (by kernel_rfl) (by kernel_rfl) (fun _ _ _ h => h) (Or.inl ⟨by rfl, ?_⟩) h0 ?_
    rotate_left
    · (intro w hSw; (try dsimp only at hSw); go_simp); all_goals (with_reducible rfl)
    try simp only [List.getElem_toArray, List.getElem_cons_succ, List.getElem_cons_zero, Act.put, List.setIfInBounds_toArray, List.set_cons_zero, List.set_cons_succ]
    refine wpAnyH_take (i := 1) (v := ?_) rfl (by kernel_rfl) (by kernel_rfl) (by kernel_rfl) (fun _ _ _ h => h) (Or.inl ⟨by rfl, ?_⟩) h0 ?_
    rotate_left
    · (intro w hSw; (try dsimp only at hSw); go_simp); all_goals (with_reducible rfl)
    try simp only [List.getElem_toArray, List.getElem_cons_succ, List.getElem_cons_zero, Act.put, List.setIfInBounds_toArray, List.set_cons_zero, List.set_cons_succ]
    refine wpAnyH_take (i := 2) (v := ?_) rfl (by kernel_rfl) (by kernel_rfl) (by kernel_rfl) (fun _ _ _ h => h) (Or.inl ⟨by rfl, ?_⟩) h0 ?_
    rotate_left
    · (intro w hSw; (try dsimp only at hSw); go_simp); all_goals (with_reducible rfl)
    try simp only [List.getElem_toArray, List.getElem_cons_succ, List.getElem_cons_zero, Act.put, List.setIfInBounds_toArray, List.set_cons_zero, List.set_cons_succ]
    refine wpAnyH_take (i := 3) (v := ?_) rfl (by kernel_rfl) (by kernel_rfl) (by kernel_rfl) (fun _ _ _ h => h) (Or.inl ⟨by rfl, ?_⟩) h0 ?_
    rotate_left
    · (intro w hSw; (try dsimp only at hSw); go_simp); all_goals (with_reducible rfl)
    try simp only [List.getElem_toArray, List.getElem_cons_succ, List.getElem_cons_zero, Act.put, List.setIfInBounds_toArray, List.set_cons_zero, List.set_cons_succ]
    refine wpAnyH_take (i := 4) (v := ?_) rfl (by kernel_rfl) (by kernel_rfl) (by kernel_rfl) (fun _ _ _ h => h) (Or.inl ⟨by rfl, ?_⟩) h0 ?_
    rotate_left
    · (intro w hSw; (try dsimp only at hSw); go_simp); all_goals (with_reducible rfl)
    try simp only [List.getElem_toArray, List.getElem_cons_succ, List.getElem_cons_zero, Act.put, List.setIfInBounds_toArray, List.set_cons_zero, List.set_cons_succ]
    refine wpAnyH_take (i := 5) (v := ?_) rfl (by kernel_rfl) (by kernel_rfl) (by kernel_rfl) (fun _ _ _ h => h) (Or.inl ⟨by rfl, ?_⟩) h0 ?_
    rotate_left
    · (intro w hSw; (try dsimp only at hSw); go_simp); all_goals (with_reducible rfl)
    try simp only [List.getElem_toArray, List.getElem_cons_succ, List.getElem_cons_zero, Act.put, List.setIfInBounds_toArray, List.set_cons_zero, List.set_cons_succ]
    refine wpAnyH_take (i := 6) (v := ?_) rfl (by kernel_rfl) (by kernel_rfl) (by kernel_rfl) (fun _ _ _ h => h) (Or.inl ⟨by rfl, ?_⟩) h0 ?_
    rotate_left
    · (intro w hSw; (try dsimp only at hSw); go_simp); all_goals (with_reducible rfl)
    try simp only [List.getElem_toArray, List.getElem_cons_succ, List.getElem_cons_zero, Act.put, List.setIfInBounds_toArray, List.set_cons_zero, List.set_cons_succ]
    refine wpAnyH_take (i := 7) (v := ?_) rfl (by kernel_rfl) (by kernel_rfl) (by kernel_rfl) (fun _ _ _ h => h) (Or.inl ⟨by rfl, ?_⟩) h0 ?_
    rotate_left
    · (intro w hSw; (try dsimp only at hSw); go_simp); all_goals (with_reducible rfl)
    try simp only [List.getElem_toArray, List.getElem_cons_succ, List.getElem_cons_zero, Act.put, List.setIfInBounds_toArray, List.set_cons_zero, List.set_cons_succ]
    refine wpAnyH_ready (rs := [8]) (by kernel_rfl) (by simp) ?_
    refine AllReadyH.cons rfl (fun K hK => ?_) AllReadyH.nil
    go_simp
    go_at_call 76
    refine (KD.out _).mono ?_
    rintro e w1 ⟨rfl, bq⟩
    go_wp2_with fail
    have H1 := Lib.hid (rf_over bq H.out)
    have K1 := Lib.hid ((Keeps.refl R w).drew.trans (Keeps.of_below (R := R) bq))
    have bS := And.intro (cellOver bq h0.1) (cellOver bq h0.2)
    refine hK.out _ _ ?_ (fun h1 => ?_)
    · exact bS
    clear hK K h0 bS bq
    try simp only [List.getElem_toArray, List.getElem_cons_succ, List.getElem_cons_zero, Act.put, List.setIfInBounds_toArray, List.set_cons_zero, List.set_cons_succ]
    refine wpAnyH_take (i := 9) (v := ?_) rfl (by kernel_rfl) (by kernel_rfl) (by kernel_rfl) (fun _ _ _ h => h) (Or.inl ⟨by rfl, ?_⟩) h1 ?_
    rotate_left
    · (intro w hSw; (try dsimp only at hSw); go_simp); all_goals (with_reducible rfl)
    try simp only [List.getElem_toArray, List.getElem_cons_succ, List.getElem_cons_zero, Act.put, List.setIfInBounds_toArray, List.set_cons_zero, List.set_cons_succ]
    refine wpAnyH_take (i := 10) (v := ?_) rfl (by kernel_rfl) (by kernel_rfl) (by kernel_rfl) (fun _ _ _ h => h) (Or.inl ⟨by rfl, ?_⟩) h1 ?_
    rotate_left
    · (intro w hSw; (try dsimp only at hSw); go_simp); all_goals (with_reducible rfl)
    try simp only [List.getElem_toArray, List.getElem_cons_succ, List.getElem_cons_zero, Act.put, List.setIfInBounds_toArray, List.set_cons_zero, List.set_cons_succ]
    refine wpAnyH_take (i := 11) (v := ?_) rfl (by kernel_rfl) (by kernel_rfl) (by kernel_rfl) (fun _ _ _ h => h) (Or.inl ⟨by rfl, ?_⟩) h1 ?_
    rotate_left
    · (intro w hSw; (try dsimp only at hSw); go_simp); all_goals (with_reducible rfl)
    try simp only [List.getElem_toArray, List.getElem_cons_succ, List.getElem_cons_zero, Act.put, List.setIfInBounds_toArray, List.set_cons_zero, List.set_cons_succ]
    refine wpAnyH_take (i := 12) (v := ?_) rfl (by kernel_rfl) (by kernel_rfl) (by kernel_rfl) (fun _ _ _ h => h) (Or.inl ⟨by rfl, ?_⟩) h1 ?_
    rotate_left
    · (intro w hSw; (try dsimp only at hSw); go_simp); all_goals (with_reducible rfl)
    try simp only [List.getElem_toArray, List.getElem_cons_succ, List.getElem_cons_zero, Act.put, List.setIfInBounds_toArray, List.set_cons_zero, List.set_cons_succ]
    refine wpAnyH_take (i := 13) (v := ?_) rfl (by kernel_rfl) (by kernel_rfl) (by kernel_rfl) (fun _ _ _ h => h) (Or.inl ⟨by rfl, ?_⟩) h1 ?_
    rotate_left
    · (intro w hSw; (try dsimp only at hSw); go_simp); all_goals (with_reducible rfl)
    try simp only [List.getElem_toArray, List.getElem_cons_succ, List.getElem_cons_zero, Act.put, List.setIfInBounds_toArray, List.set_cons_zero, List.set_cons_succ]
    refine wpAnyH_take (i := 14) (v := ?_) rfl (by kernel_rfl) (by kernel_rfl) (by kernel_rfl) (fun _ _ _ h => h) (Or.inl ⟨by rfl, ?_⟩) h1 ?_
    rotate_left
    · (intro w hSw; (try dsimp only at hSw); go_simp); all_goals (with_reducible rfl)
    try simp only [List.getElem_toArray, List.getElem_cons_succ, List.getElem_cons_zero, Act.put, List.setIfInBounds_toArray, List.set_cons_zero, List.set_cons_succ]
    refine wpAnyH_take (i := 15) (v := ?_) rfl (by kernel_rfl) (by kernel_rfl) (by kernel_rfl) (fun _ _ _ h => h) (Or.inl ⟨by rfl, ?_⟩) h1 ?_
    rotate_left
    · (intro w hSw; (try dsimp only at hSw); go_simp); all_goals (with_reducible rfl)
    try simp only [List.getElem_toArray, List.getElem_cons_succ, List.getElem_cons_zero, Act.put, List.setIfInBounds_toArray, List.set_cons_zero, List.set_cons_succ]
    refine wpAnyH_done (by kernel_rfl) ?_ _
    clear h1
    clear c0 c1 c2
    obtain ⟨d0, d1, d2⟩ := rf_cells H1.out
    have f1 := Joins.unfrozen_of_block H1.out 1
    have f2 := Joins.unfrozen_of_block H1.out 2
    by_cases e2 : err2 = 0
    · subst e2
      have HR2 := Lib.hid (show r = (v, at2, 0) by rw [HR.out, if_neg (by simp)])
      have H2 := Lib.hid (show RfAt (w1.setCell ⟨R, 1, none⟩ (.int .i64 at2)) R s (at2, 0) from Joins.block_setCell H1.out (.int .i64 at2))
      have K2 := Lib.hid (K1.out.setCell 1 (.int .i64 at2))
      clear HR H1 K1
      go_wp2
      go_ret
      rw [HR2.out]
      exact ⟨rfl, H2.out, K2.out⟩
    · have g1 : (err2 == 0) = false := by simp [e2]
      have g2 : (err2 != 0) = true := by simp [e2]
      have HR2 := Lib.hid (show r = ([], a, 10) by rw [HR.out, if_pos e2])
      have H2 := Lib.hid (show RfAt (w1.setCell ⟨R, 2, none⟩ (.int .i64 10)) R s (a, 10) from Joins.block_setCell H1.out (.int .i64 10))
      have K2 := Lib.hid (K1.out.setCell 2 (.int .i64 10))
      clear HR H1 K1 e2
      go_wp2
      go_ret
      rw [HR2.out]
      exact ⟨rfl, H2.out, K2.out⟩
  · have hr : rfS s.data.toList (a, er) = ([], (a, er)) := by unfold rfS; rw [if_pos he]
    rw [hr]
    have g1 : (er == 0) = false := by simp [he]
    have g2 : (er != 0) = true := by simp [he]
    clear hr he
    go_enter Tryz.func41, Tryz.ntmps41
    go_wp2
    go_ret
    exact ⟨rfl, H.out, Keeps.refl _ _⟩
set_option maxHeartbeats 4000000 in
theorem rfcount_any (R : Nat) (s : ByteArray) (most : Int) (σ : Int × Int) (w : World) (hs : s.size ≤ maxLen) (h : RfAt w R s σ) :
    Calls Tryz.prog 16 #[.pointer (some ⟨R, 0, none⟩), .int .i64 most] w fun e w' => e = .returned (.int .i64 (rfC s.data.toList most σ).1) ∧ RfAt w' R s (rfC s.data.toList most σ).2 ∧ Keeps R w w' := by
  have K := Lib.hid (rfnum_any R s σ w hs h)
  have HR := Lib.hid (show rfC s.data.toList most σ = if (rfI s.data.toList σ).2.2 ≠ 0 then (0, (rfI s.data.toList σ).2) else if inB (rfI s.data.toList σ).1 0 most = true then rfI s.data.toList σ else (0, ((rfI s.data.toList σ).2.1, 30)) from rfl)
  clear h hs
  generalize rfC s.data.toList most σ = r at *
  generalize rfI s.data.toList σ = q at *
  obtain ⟨n, a, er⟩ := q
  simp only at K HR
  go_enter Tryz.func16, Tryz.ntmps16
  go_wp2_with fail
  refine K.out.mono ?_
  rintro x w1 ⟨rfl, h1, k1⟩
  have H1 := Lib.hid h1
  have K1 := Lib.hid k1
  obtain ⟨d0, d1, d2⟩ := rf_cells h1
  have f2 := Joins.unfrozen_of_block h1 2
  simp only at d1 d2
  clear h1 k1 K
  by_cases he : er = 0
  · subst he
    by_cases hn : 0 ≤ n ∧ n ≤ most
    · have HR2 := Lib.hid (show r = (n, a, 0) by rw [HR.out, if_neg (by simp), if_pos (by simp [inB]; exact hn)])
      obtain ⟨n1, n2⟩ := hn
      clear HR
      go_wp2
      go_ret
      rw [HR2.out]
      exact ⟨rfl, H1.out, K1.out⟩
    · have HR2 := Lib.hid (show r = (0, a, 30) by rw [HR.out, if_neg (by simp), if_neg (by simp [inB]; omega)])
      have H2 := Lib.hid (show RfAt (w1.setCell ⟨R, 2, none⟩ (.int .i64 30)) R s (a, 30) from Joins.block_setCell H1.out (.int .i64 30))
      have K2 := Lib.hid (K1.out.setCell 2 (.int .i64 30))
      clear HR H1 K1
      by_cases n1 : n < 0
      · clear hn
        go_wp2
        go_ret
        rw [HR2.out]
        exact ⟨rfl, H2.out, K2.out⟩
      · have n2 : most < n := by omega
        have n3 : 0 ≤ n := by omega
        clear hn
        go_wp2
        go_ret
        rw [HR2.out]
        exact ⟨rfl, H2.out, K2.out⟩
  · have g1 : (er == 0) = false := by simp [he]
    have g2 : (er != 0) = true := by simp [he]
    have HR2 := Lib.hid (show r = (0, a, er) by rw [HR.out, if_pos he])
    clear HR he
    go_wp2
    go_ret
    rw [HR2.out]
    exact ⟨rfl, H1.out, K1.out⟩
end Go.Proofs.YtdhioalfgogcdaaGreatDoor
