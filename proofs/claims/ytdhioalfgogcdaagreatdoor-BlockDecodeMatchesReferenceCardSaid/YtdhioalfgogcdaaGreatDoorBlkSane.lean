import Derived.Test.YtdhioalfgogcdaaGreatDoorBlkP2
import Derived.Test.YtdhioalfgogcdaaGreatDoorBlkD5
import Derived.Deep.RegionHeld3
namespace Go.Proofs.YtdhioalfgogcdaaGreatDoor
open Go.RowKit Go.MapKept
set_option maxRecDepth 100000
set_option linter.unusedSimpArgs false
set_option linter.unusedVariables false
def sC : Blk := ⟨7, 5, [99, 105, 116, 121, 45, 104, 97, 108, 108], 0, 0, zeroL⟩
def sO : Blk := ⟨7, 5, [67, 105, 116, 121], 0, 0, zeroL⟩
def sQ : Blk := ⟨7, 3, [], 3, 0, zeroL⟩
def s1 : Blk := ⟨1, 1, [82, 97, 105, 110], 0, 0, zeroL⟩
def s2 : Blk := ⟨2, 2, [73, 116, 32, 114, 97, 105, 110, 101, 100, 46, 32, 32, 73, 116, 32, 115, 116, 111, 112, 112, 101, 100, 46], 0, 0, zeroL⟩
def s3 : Blk := ⟨9, 5, [114, 97, 105, 110], 0, 0, zeroL⟩
def beN (b : Blk) : BE := (b, none, 0, 0)
theorem beN_ok (w : World) (b : Blk) (h0 : b.lb = zeroL) (h1 : b.tx.length ≤ 1000) (h2 : Bd b.id ∧ Bd b.kd ∧ Bd b.st ∧ Bd b.rf) : BeOk w (beN b) :=
  ⟨by show LabAt w none 0 0 b.lb; rw [h0]; exact ⟨nil_ints w, by simp [zeroL, Bd]⟩, by show b.tx.length ≤ _; unfold maxLen; omega, h2⟩
theorem blks_block {W : World} {g : Nat} {t : TypeId} {fr : Nat × Nat} (es : List BE) (n : Nat) (hn : es.length = n) (hl : n ≤ 1000) (he : ∀ e ∈ es, BeOk W e) (h : W.heap[g]? = some (.cells (es.flatMap elB).toArray t fr)) : IsBlks W (some ⟨g, 0, none⟩) n n es := by
  refine ⟨hn, Nat.le_refl _, by unfold maxLen; omega, he, .inr ⟨g, 0, rfl, fun k e hk j v hv => ?_⟩⟩
  rw [Joins.cell_of_block h, Nat.zero_add]
  simpa using flat9_at es k e hk j v hv
theorem sane_v : vL [s1, s2, s3] = true ∧ vL [s1, s1] = false ∧ vB sC = true ∧ vB sO = false ∧ vB sQ = false := by decide +kernel
theorem sane_s : sentP [68, 114, 46, 32, 74, 46, 32, 83, 109, 105, 116, 104, 32, 32, 119, 111, 110, 46, 32, 32, 82, 101, 97, 108, 108, 121, 63, 33, 32, 65, 116, 32, 51, 46, 53, 32, 116, 111, 32, 49] = [[68, 114, 46], [74, 46, 32, 83, 109, 105, 116, 104, 32, 32, 119, 111, 110, 46], [82, 101, 97, 108, 108, 121, 63, 33], [65, 116, 32, 51, 46, 53, 32, 116, 111, 32, 49]] := by decide +kernel
theorem sane_p : plainP [s1, s2, s3] = [82, 97, 105, 110, 10, 73, 116, 32, 114, 97, 105, 110, 101, 100, 46, 32, 73, 116, 32, 115, 116, 111, 112, 112, 101, 100, 46, 10, 35, 114, 97, 105, 110, 10] := by decide +kernel
def oB (b : Blk) : Obj := .cells (elB (beN b)).toArray 33
def sL3 : List BE := [beN s1, beN s2, beN s3]
def oL : Obj := .cells (sL3.flatMap elB).toArray 33
theorem be_sane (w : World) : (∀ e ∈ sL3, BeOk w e) ∧ BeOk w (beN sC) ∧ BeOk w (beN sO) ∧ BeOk w (beN sQ) := by
  refine ⟨?_, beN_ok w sC rfl (by decide) (by simp [sC, Bd]), beN_ok w sO rfl (by decide) (by simp [sO, Bd]), beN_ok w sQ rfl (by decide) (by simp [sQ, Bd])⟩
  intro e he
  simp only [sL3, List.mem_cons, List.mem_nil_iff, or_false] at he
  rcases he with rfl | rfl | rfl
  · exact beN_ok w s1 rfl (by decide) (by simp [s1, Bd])
  · exact beN_ok w s2 rfl (by decide) (by simp [s2, Bd])
  · exact beN_ok w s3 rfl (by decide) (by simp [s3, Bd])
theorem own_cap {w : World} {base : Nat} {e : TypeId} {size : Nat} {a : Option Addr} {n c : Nat} {xs : List Value} (h : w.ownsRow base e size (.slice a n c) n xs) : n ≤ c := by
  rcases h.2 with ⟨hv, h0⟩ | ⟨g, cap, cur, hv, hg, hh, hnc, hcm, hcs, ht⟩
  · omega
  · injection hv with h1 h2 h3; omega
theorem four_strs {W : World} {base c : Nat} {a : Option Addr} {x0 x1 x2 x3 : List UInt8} (h : W.ownsRow base 9 1 (.slice a 4 c) 4 ([x0, x1, x2, x3].map strV)) : ∃ g, a = some ⟨g, 0, none⟩ ∧ W.cell? ⟨g, 0, none⟩ = some (.string ⟨x0.toArray⟩) ∧ W.cell? ⟨g, 1, none⟩ = some (.string ⟨x1.toArray⟩) ∧ W.cell? ⟨g, 2, none⟩ = some (.string ⟨x2.toArray⟩) ∧ W.cell? ⟨g, 3, none⟩ = some (.string ⟨x3.toArray⟩) := by
  rcases h.2 with ⟨hv, h0⟩ | ⟨g, cap, cur, hv, hg, hh, hnc, hcm, hcs, ht⟩
  · cases h0
  · injection hv with h1 h2 h3
    refine ⟨g, h1, ?_⟩
    have key : ∀ j v, ([x0, x1, x2, x3].map strV)[j]? = some v → W.cell? ⟨g, j, none⟩ = some v := by
      intro j v hj
      rw [← ht, List.getElem?_take] at hj
      split at hj
      · rw [Joins.cell_of_block hh]
        simpa using hj
      · simp at hj
    exact ⟨key 0 _ rfl, key 1 _ rfl, key 2 _ rfl, key 3 _ rfl⟩
set_option maxHeartbeats 16000000 in
theorem sane_any (w : World) : Calls Tryz.prog 4 #[] w fun e w' => e = .returned (.bool true) ∧ Below w.heap.size w w' := by
  obtain ⟨W1, hW1⟩ : ∃ W1, allocs w [oB sC, oB sO, oB sQ, oL] = W1 := ⟨_, rfl⟩
  have hget := allocs_get w [oB sC, oB sO, oB sQ, oL]
  have hbw := allocs_below w [oB sC, oB sO, oB sQ, oL] w (Below.refl _ _)
  rw [hW1] at hget hbw
  have G0 := Lib.hid (show W1.heap[w.heap.size]? = some (.cells (elB (beN sC)).toArray 33 (0, 0)) from hget 0)
  have G1 := Lib.hid (show W1.heap[w.heap.size + 1]? = some (.cells (elB (beN sO)).toArray 33 (0, 0)) from hget 1)
  have G2 := Lib.hid (show W1.heap[w.heap.size + 1 + 1]? = some (.cells (elB (beN sQ)).toArray 33 (0, 0)) from hget 2)
  have G3 := Lib.hid (show W1.heap[w.heap.size + 1 + 1 + 1]? = some (.cells (sL3.flatMap elB).toArray 33 (0, 0)) from hget 3)
  have BW := Lib.hid hbw
  have HW1 := Lib.hid hW1
  clear hget hbw hW1
  obtain ⟨E, hE⟩ : ∃ E, encL [s1, s2, s3] = E := ⟨_, rfl⟩
  have E1 : Hid (encR (blks sL3) = (E, 0)) := Lib.hid (by rw [← hE]; show encR [s1, s2, s3] = _; unfold encR; rw [if_pos sane_v.1])
  have E2 : Hid (encR (blks [beN s1, beN s1]) = ([], 30)) := Lib.hid (by show encR [s1, s1] = _; unfold encR; rw [sane_v.2.1]; rfl)
  have E3 : Hid (decP (⟨E.toArray⟩ : ByteArray).data.toList = ([s1, s2, s3], 0)) := Lib.hid (by rw [← hE]; exact dec_enc sane_v.1)
  have E4 : Hid ((decP ((⟨E.toArray⟩ : ByteArray) ++ ⟨#[120]⟩).data.toList).2 = 10) := Lib.hid (by
    have h1 : ((⟨E.toArray⟩ : ByteArray) ++ ⟨#[120]⟩).data.toList = E ++ [120] := by simp
    rw [h1, ← hE]; exact dec_more sane_v.1 [120] (by simp))
  have hEl := encs_len [s1, s2, s3] (by
    intro b hb
    have := sane_v.1
    simp only [vL, Bool.and_eq_true, List.all_eq_true] at this
    exact this.2.1 b hb)
  have EL : Hid (E.length ≤ 4000) := Lib.hid (by
    rw [← hE]; unfold encL; rw [List.length_append]
    have := encInt_len (([s1, s2, s3] : List Blk).length : Int)
    simp only [List.length_cons, List.length_nil] at *
    omega)
  clear hE hEl
  go_enter Tryz.func4, Tryz.ntmps4
  go_wp2_with fail
  show Calls Tryz.prog 8 _ (allocs w [oB sC, oB sO, oB sQ, oL]) _
  rw [HW1.out]
  have hgt := Lib.hid (Array.getElem?_eq_some_iff.1 G3.out).1
  have HI1 := Lib.hid (blks_block sL3 3 rfl (by omega) (be_sane W1).1 G3.out)
  clear HW1
  refine (encode_any _ _ _ sL3 W1 HI1.out).mono ?_
  rintro x w2 ⟨rfl, b2⟩
  rw [E1.out]
  have BW2 := Lib.hid (bel2 BW.out b2)
  have F0 := Lib.hid (blockOver b2 G0.out)
  have F1 := Lib.hid (blockOver b2 G1.out)
  have F2 := Lib.hid (blockOver b2 G2.out)
  have F3 := Lib.hid (blockOver b2 G3.out)
  clear b2 G0 G1 G2 G3 BW HI1
  go_wp2_with fail
  obtain ⟨gl, hgl⟩ : ∃ gl, gl = w.heap.size + 1 + 1 + 1 := ⟨_, rfl⟩
  have F3b := Lib.hid (show w2.heap[gl]? = some (.cells (sL3.flatMap elB).toArray 33 (0, 0)) by rw [hgl]; exact F3.out)
  have c0 : w2.cell? ⟨w.heap.size + 1 + 1 + 1, 0, none⟩ = some (.int .i64 1) := by rw [Joins.cell_of_block F3.out]; rfl
  have c1 : w2.cell? ⟨w.heap.size + 1 + 1 + 1, 1, none⟩ = some (.int .i64 1) := by rw [Joins.cell_of_block F3.out]; rfl
  have c2 : w2.cell? ⟨w.heap.size + 1 + 1 + 1, 2, none⟩ = some (.string ⟨#[82, 97, 105, 110]⟩) := by rw [Joins.cell_of_block F3.out]; rfl
  have c3 : w2.cell? ⟨w.heap.size + 1 + 1 + 1, 3, none⟩ = some (.int .i64 0) := by rw [Joins.cell_of_block F3.out]; rfl
  have c4 : w2.cell? ⟨w.heap.size + 1 + 1 + 1, 4, none⟩ = some (.int .i64 0) := by rw [Joins.cell_of_block F3.out]; rfl
  have c5 : w2.cell? ⟨w.heap.size + 1 + 1 + 1, 5, none⟩ = some (.int .i64 0) := by rw [Joins.cell_of_block F3.out]; rfl
  have c6 : w2.cell? ⟨w.heap.size + 1 + 1 + 1, 6, none⟩ = some (.slice none 0 0) := by rw [Joins.cell_of_block F3.out]; rfl
  have c7 : w2.cell? ⟨w.heap.size + 1 + 1 + 1, 7, none⟩ = some (.int .i64 0) := by rw [Joins.cell_of_block F3.out]; rfl
  have c8 : w2.cell? ⟨w.heap.size + 1 + 1 + 1, 8, none⟩ = some (.int .i64 0) := by rw [Joins.cell_of_block F3.out]; rfl
  clear hgl F3b
  have bc := Below.refl w2.heap.size w2
  refine wp_region_held_drew (S := fun w' => Below w2.heap.size w2 w' ∧ w'.cell? ⟨w.heap.size + 1 + 1 + 1, 0, none⟩ = some (.int .i64 1) ∧ w'.cell? ⟨w.heap.size + 1 + 1 + 1, 1, none⟩ = some (.int .i64 1) ∧ w'.cell? ⟨w.heap.size + 1 + 1 + 1, 2, none⟩ = some (.string ⟨#[82, 97, 105, 110]⟩) ∧ w'.cell? ⟨w.heap.size + 1 + 1 + 1, 3, none⟩ = some (.int .i64 0) ∧ w'.cell? ⟨w.heap.size + 1 + 1 + 1, 4, none⟩ = some (.int .i64 0) ∧ w'.cell? ⟨w.heap.size + 1 + 1 + 1, 5, none⟩ = some (.int .i64 0) ∧ w'.cell? ⟨w.heap.size + 1 + 1 + 1, 6, none⟩ = some (.slice none 0 0) ∧ w'.cell? ⟨w.heap.size + 1 + 1 + 1, 7, none⟩ = some (.int .i64 0) ∧ w'.cell? ⟨w.heap.size + 1 + 1 + 1, 8, none⟩ = some (.int .i64 0)) (by kernel_rfl) ?_ (fun h0 => ?_)
  · exact ⟨bc.drew, c0, c1, c2, c3, c4, c5, c6, c7, c8⟩
  refine wpAnyH_take (i := 0) (v := ?_) rfl (by kernel_rfl) (by kernel_rfl) (by kernel_rfl) (fun _ _ _ h => h) (Or.inl ⟨by rfl, ?_⟩) h0 ?_
  rotate_left
  · (intro w hSw; (try dsimp only at hSw); go_simp); all_goals (with_reducible rfl)
  try simp only [List.getElem_toArray, List.getElem_cons_succ, List.getElem_cons_zero, Act.put, List.setIfInBounds_toArray, List.set_cons_zero, List.set_cons_succ]
  refine wpAnyH_take (i := 1) (v := ?_) rfl (by kernel_rfl) (by kernel_rfl) (by kernel_rfl) (fun _ _ _ h => h) (Or.inl ⟨by rfl, ?_⟩) h0 ?_
  rotate_left
  · (intro w hSw; (try dsimp only at hSw); go_simp); all_goals (with_reducible rfl)
  try simp only [List.getElem_toArray, List.getElem_cons_succ, List.getElem_cons_zero, Act.put, List.setIfInBounds_toArray, List.set_cons_zero, List.set_cons_succ]
  refine wpAnyH_take (i := 2) (v := ?_) rfl (by kernel_rfl) (by kernel_rfl) (by kernel_rfl) (fun _ _ _ h => h) (Or.inl ⟨by rfl, ?_⟩) h0 ?_
  rotate_left
  · (intro w hSw; (try dsimp only at hSw); go_simp); all_goals (with_reducible rfl)
  try simp only [List.getElem_toArray, List.getElem_cons_succ, List.getElem_cons_zero, Act.put, List.setIfInBounds_toArray, List.set_cons_zero, List.set_cons_succ]
  refine wpAnyH_take (i := 3) (v := ?_) rfl (by kernel_rfl) (by kernel_rfl) (by kernel_rfl) (fun _ _ _ h => h) (Or.inl ⟨by rfl, ?_⟩) h0 ?_
  rotate_left
  · (intro w hSw; (try dsimp only at hSw); go_simp); all_goals (with_reducible rfl)
  try simp only [List.getElem_toArray, List.getElem_cons_succ, List.getElem_cons_zero, Act.put, List.setIfInBounds_toArray, List.set_cons_zero, List.set_cons_succ]
  refine wpAnyH_take (i := 4) (v := ?_) rfl (by kernel_rfl) (by kernel_rfl) (by kernel_rfl) (fun _ _ _ h => h) (Or.inl ⟨by rfl, ?_⟩) h0 ?_
  rotate_left
  · (intro w hSw; (try dsimp only at hSw); go_simp); all_goals (with_reducible rfl)
  try simp only [List.getElem_toArray, List.getElem_cons_succ, List.getElem_cons_zero, Act.put, List.setIfInBounds_toArray, List.set_cons_zero, List.set_cons_succ]
  refine wpAnyH_take (i := 5) (v := ?_) rfl (by kernel_rfl) (by kernel_rfl) (by kernel_rfl) (fun _ _ _ h => h) (Or.inl ⟨by rfl, ?_⟩) h0 ?_
  rotate_left
  · (intro w hSw; (try dsimp only at hSw); go_simp); all_goals (with_reducible rfl)
  try simp only [List.getElem_toArray, List.getElem_cons_succ, List.getElem_cons_zero, Act.put, List.setIfInBounds_toArray, List.set_cons_zero, List.set_cons_succ]
  refine wpAnyH_ready (rs := [6]) (by kernel_rfl) (by simp) ?_
  refine AllReadyH.cons rfl (fun K hK => ?_) AllReadyH.nil
  go_simp
  have bX := below_alloc w2 (.cells ([beN s1, beN s1].flatMap elB).toArray 33)
  have HI2 := Lib.hid (blks_block [beN s1, beN s1] 2 rfl (by omega) (fun e he => by simp only [List.mem_cons, List.mem_nil_iff, or_false, or_self] at he; rw [he]; exact beN_ok _ s1 rfl (by decide) (by simp [s1, Bd])) (show (w2.alloc (.cells ([beN s1, beN s1].flatMap elB).toArray 33)).drew.heap[w2.heap.size]? = some (.cells ([beN s1, beN s1].flatMap elB).toArray 33 (0, 0)) from heap_alloc_new w2 (.cells ([beN s1, beN s1].flatMap elB).toArray 33)))
  have bX2 := bX.drew
  refine hK.out _ _ ?_ (fun h1 => ?_)
  · exact ⟨bX2, cellOver bX2 c0, cellOver bX2 c1, cellOver bX2 c2, cellOver bX2 c3, cellOver bX2 c4, cellOver bX2 c5, cellOver bX2 c6, cellOver bX2 c7, cellOver bX2 c8⟩
  clear hK K h0 bX bX2
  try simp only [List.getElem_toArray, List.getElem_cons_succ, List.getElem_cons_zero, Act.put, List.setIfInBounds_toArray, List.set_cons_zero, List.set_cons_succ]
  refine wpAnyH_ready (rs := [7]) (by kernel_rfl) (by simp) ?_
  refine AllReadyH.cons rfl (fun K hK => ?_) AllReadyH.nil
  go_simp
  go_at_call 8
  refine (encode_any _ _ _ [beN s1, beN s1] _ HI2.out).mono ?_
  rintro x w3 ⟨rfl, bq⟩
  rw [E2.out]
  go_wp2_with fail
  have bX := bel2 h1.1 bq
  refine hK.out _ _ ?_ (fun h2 => ?_)
  · exact ⟨bX, cellOver bX c0, cellOver bX c1, cellOver bX c2, cellOver bX c3, cellOver bX c4, cellOver bX c5, cellOver bX c6, cellOver bX c7, cellOver bX c8⟩
  clear hK K h1 bX bq
  try simp only [List.getElem_toArray, List.getElem_cons_succ, List.getElem_cons_zero, Act.put, List.setIfInBounds_toArray, List.set_cons_zero, List.set_cons_succ]
  refine wpAnyH_take (i := 8) (v := ?_) rfl (by kernel_rfl) (by kernel_rfl) (by kernel_rfl) (fun _ _ _ h => h) (Or.inl ⟨by rfl, ?_⟩) h2 ?_
  rotate_left
  · (intro w hSw; (try dsimp only at hSw); go_simp); all_goals (with_reducible rfl)
  try simp only [List.getElem_toArray, List.getElem_cons_succ, List.getElem_cons_zero, Act.put, List.setIfInBounds_toArray, List.set_cons_zero, List.set_cons_succ]
  refine wpAnyH_take (i := 9) (v := ?_) rfl (by kernel_rfl) (by kernel_rfl) (by kernel_rfl) (fun _ _ _ h => h) (Or.inl ⟨by rfl, ?_⟩) h2 ?_
  rotate_left
  · (intro w hSw; (try dsimp only at hSw); go_simp); all_goals (with_reducible rfl)
  try simp only [List.getElem_toArray, List.getElem_cons_succ, List.getElem_cons_zero, Act.put, List.setIfInBounds_toArray, List.set_cons_zero, List.set_cons_succ]
  refine wpAnyH_take (i := 10) (v := ?_) rfl (by kernel_rfl) (by kernel_rfl) (by kernel_rfl) (fun _ _ _ h => h) (Or.inl ⟨by rfl, ?_⟩) h2 ?_
  rotate_left
  · (intro w hSw; (try dsimp only at hSw); go_simp); all_goals (with_reducible rfl)
  try simp only [List.getElem_toArray, List.getElem_cons_succ, List.getElem_cons_zero, Act.put, List.setIfInBounds_toArray, List.set_cons_zero, List.set_cons_succ]
  refine wpAnyH_take (i := 11) (v := ?_) rfl (by kernel_rfl) (by kernel_rfl) (by kernel_rfl) (fun _ _ _ h => h) (Or.inl ⟨by rfl, ?_⟩) h2 ?_
  rotate_left
  · (intro w hSw; (try dsimp only at hSw); go_simp); all_goals (with_reducible rfl)
  try simp only [List.getElem_toArray, List.getElem_cons_succ, List.getElem_cons_zero, Act.put, List.setIfInBounds_toArray, List.set_cons_zero, List.set_cons_succ]
  refine wpAnyH_take (i := 12) (v := ?_) rfl (by kernel_rfl) (by kernel_rfl) (by kernel_rfl) (fun _ _ _ h => h) (Or.inl ⟨by rfl, ?_⟩) h2 ?_
  rotate_left
  · (intro w hSw; (try dsimp only at hSw); go_simp); all_goals (with_reducible rfl)
  try simp only [List.getElem_toArray, List.getElem_cons_succ, List.getElem_cons_zero, Act.put, List.setIfInBounds_toArray, List.set_cons_zero, List.set_cons_succ]
  refine wpAnyH_done (by kernel_rfl) ?_ _
  have b3 := h2.1
  clear h2 c0 c1 c2 c3 c4 c5 c6 c7 c8 bc HI2
  have BW3 := Lib.hid (bel2 BW2.out b3)
  replace F0 := Lib.hid (blockOver b3 F0.out)
  replace F1 := Lib.hid (blockOver b3 F1.out)
  replace F2 := Lib.hid (blockOver b3 F2.out)
  replace F3 := Lib.hid (blockOver b3 F3.out)
  clear b3 BW2
  go_wp2_with fail
  refine (decode_any ⟨E.toArray⟩ w3 (by have := EL.out; rw [mk_size']; unfold maxLen; omega)).mono ?_
  rintro x w4 ⟨a4, c4, es4, rfl, hes4, hi4, b4⟩
  rw [E3.out] at hes4 hi4 ⊢
  have HES := Lib.hid hes4
  have HI4 := Lib.hid hi4
  clear hes4 hi4
  have BW4 := Lib.hid (bel2 BW3.out b4)
  replace F0 := Lib.hid (blockOver b4 F0.out)
  replace F1 := Lib.hid (blockOver b4 F1.out)
  replace F2 := Lib.hid (blockOver b4 F2.out)
  replace F3 := Lib.hid (blockOver b4 F3.out)
  clear b4 BW3
  simp only [List.length_cons, List.length_nil] at HI4 ⊢
  have hEs : E.length ≤ 4000 := EL.out
  have hES2 : (⟨E.toArray⟩ : ByteArray).size ≤ 4000 := by rw [mk_size']; exact hEs
  go_wp2_with fail
  refine (decode_any _ w4 (by simp [ByteArray.size_append]; unfold maxLen; have : (⟨#[120]⟩ : ByteArray).size = 1 := rfl; omega)).mono ?_
  rintro x w5 ⟨a5, c5, es5, rfl, -, -, b5⟩
  rw [E4.out]
  have HI5 := Lib.hid (HI4.out.over b5)
  clear HI4
  have BW5 := Lib.hid (bel2 BW4.out b5)
  replace F0 := Lib.hid (blockOver b5 F0.out)
  replace F1 := Lib.hid (blockOver b5 F1.out)
  replace F2 := Lib.hid (blockOver b5 F2.out)
  replace F3 := Lib.hid (blockOver b5 F3.out)
  clear b5 BW4
  clear hEs hES2
  generalize (decP ((⟨E.toArray⟩ : ByteArray) ++ ⟨#[120]⟩).data.toList).1.length = n5
  go_wp2_with fail
  have KS := sents_any ⟨#[68, 114, 46, 32, 74, 46, 32, 83, 109, 105, 116, 104, 32, 32, 119, 111, 110, 46, 32, 32, 82, 101, 97, 108, 108, 121, 63, 33, 32, 65, 116, 32, 51, 46, 53, 32, 116, 111, 32, 49]⟩ w5 (by decide)
  rw [show (⟨#[68, 114, 46, 32, 74, 46, 32, 83, 109, 105, 116, 104, 32, 32, 119, 111, 110, 46, 32, 32, 82, 101, 97, 108, 108, 121, 63, 33, 32, 65, 116, 32, 51, 46, 53, 32, 116, 111, 32, 49]⟩ : ByteArray).data.toList = [68, 114, 46, 32, 74, 46, 32, 83, 109, 105, 116, 104, 32, 32, 119, 111, 110, 46, 32, 32, 82, 101, 97, 108, 108, 121, 63, 33, 32, 65, 116, 32, 51, 46, 53, 32, 116, 111, 32, 49] from rfl, sane_s] at KS
  simp only [List.length_cons, List.length_nil] at KS
  refine KS.mono ?_
  clear KS
  rintro x w6 ⟨a6, c6, rfl, o6, b6⟩
  have HO6 := Lib.hid o6
  have HI6 := Lib.hid (HI5.out.over b6)
  clear HI5 o6
  have BW6 := Lib.hid (bel2 BW5.out b6)
  replace F0 := Lib.hid (blockOver b6 F0.out)
  replace F1 := Lib.hid (blockOver b6 F1.out)
  replace F2 := Lib.hid (blockOver b6 F2.out)
  replace F3 := Lib.hid (blockOver b6 F3.out)
  clear b6 BW5
  obtain ⟨r0, r1, r2, r3, r4, r5, r6, r7, r8⟩ := Nine.of_block F0.out
  simp only [Nat.zero_add, beN, sC, zeroL] at r0 r1 r2 r3 r4 r5 r6 r7 r8
  go_wp2_with fail
  have KV := bvalid_be (beN sC) w6 (be_sane _).2.1
  rw [show vB (beN sC).1 = true from sane_v.2.2.1] at KV
  refine KV.mono ?_
  clear KV r0 r1 r2 r3 r4 r5 r6 r7 r8
  rintro x w7 ⟨rfl, b7⟩
  have HO7 := Lib.hid (own_over HO6.out b7)
  have HI7 := Lib.hid (HI6.out.over b7)
  clear HO6 HI6
  have BW7 := Lib.hid (bel2 BW6.out b7)
  replace F0 := Lib.hid (blockOver b7 F0.out)
  replace F1 := Lib.hid (blockOver b7 F1.out)
  replace F2 := Lib.hid (blockOver b7 F2.out)
  replace F3 := Lib.hid (blockOver b7 F3.out)
  clear b7 BW6
  obtain ⟨r0, r1, r2, r3, r4, r5, r6, r7, r8⟩ := Nine.of_block F1.out
  simp only [Nat.zero_add, beN, sO, zeroL] at r0 r1 r2 r3 r4 r5 r6 r7 r8
  go_wp2_with fail
  have KV := bvalid_be (beN sO) w7 (be_sane _).2.2.1
  rw [show vB (beN sO).1 = false from sane_v.2.2.2.1] at KV
  refine KV.mono ?_
  clear KV r0 r1 r2 r3 r4 r5 r6 r7 r8
  rintro x w8 ⟨rfl, b8⟩
  have HO8 := Lib.hid (own_over HO7.out b8)
  have HI8 := Lib.hid (HI7.out.over b8)
  clear HO7 HI7
  have BW8 := Lib.hid (bel2 BW7.out b8)
  replace F0 := Lib.hid (blockOver b8 F0.out)
  replace F1 := Lib.hid (blockOver b8 F1.out)
  replace F2 := Lib.hid (blockOver b8 F2.out)
  replace F3 := Lib.hid (blockOver b8 F3.out)
  clear b8 BW7
  obtain ⟨r0, r1, r2, r3, r4, r5, r6, r7, r8⟩ := Nine.of_block F2.out
  simp only [Nat.zero_add, beN, sQ, zeroL] at r0 r1 r2 r3 r4 r5 r6 r7 r8
  go_wp2_with fail
  have KV := bvalid_be (beN sQ) w8 (be_sane _).2.2.2
  rw [show vB (beN sQ).1 = false from sane_v.2.2.2.2] at KV
  refine KV.mono ?_
  clear KV r0 r1 r2 r3 r4 r5 r6 r7 r8
  rintro x w9 ⟨rfl, b9⟩
  have HO9 := Lib.hid (own_over HO8.out b9)
  have HI9 := Lib.hid (HI8.out.over b9)
  clear HO8 HI8
  have BW9 := Lib.hid (bel2 BW8.out b9)
  replace F0 := Lib.hid (blockOver b9 F0.out)
  replace F1 := Lib.hid (blockOver b9 F1.out)
  replace F2 := Lib.hid (blockOver b9 F2.out)
  replace F3 := Lib.hid (blockOver b9 F3.out)
  clear b9 BW8
  go_wp2_with fail
  have KE := samel_any _ 3 3 sL3 _ 3 c4 es4 w9 (blks_block sL3 3 rfl (by omega) (be_sane w9).1 F3.out) HI9.out
  rw [show sL (blks sL3) (blks es4) = true by rw [HES.out]; exact sL_self _] at KE
  refine KE.mono ?_
  clear KE
  rintro x w10 ⟨rfl, b10⟩
  have HO10 := Lib.hid (own_over HO9.out b10)
  clear HO9 HI9
  have BW10 := Lib.hid (bel2 BW9.out b10)
  replace F0 := Lib.hid (blockOver b10 F0.out)
  replace F1 := Lib.hid (blockOver b10 F1.out)
  replace F2 := Lib.hid (blockOver b10 F2.out)
  replace F3 := Lib.hid (blockOver b10 F3.out)
  clear b10 BW9
  obtain ⟨g6, rfl, z0, z1, z2, z3⟩ := four_strs HO10.out
  have hc6 : 4 ≤ c6 := own_cap HO10.out
  go_wp2_with fail
  have KP := plain_any _ 3 3 sL3 w10 (blks_block sL3 3 rfl (by omega) (be_sane w10).1 F3.out) (by omega) (by decide)
  rw [show plainP (blks sL3) = _ from sane_p] at KP
  refine KP.mono ?_
  clear KP z0 z1 z2 z3 HO10
  rintro x w11 ⟨rfl, b11⟩
  have BW11 := Lib.hid (bel2 BW10.out b11)
  replace F0 := Lib.hid (blockOver b11 F0.out)
  replace F1 := Lib.hid (blockOver b11 F1.out)
  replace F2 := Lib.hid (blockOver b11 F2.out)
  replace F3 := Lib.hid (blockOver b11 F3.out)
  clear b11 BW10
  go_wp2
  go_ret
  exact ⟨rfl, BW11.out⟩
end Go.Proofs.YtdhioalfgogcdaaGreatDoor
