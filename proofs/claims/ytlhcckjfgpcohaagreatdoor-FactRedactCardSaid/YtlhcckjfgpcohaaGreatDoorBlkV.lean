import Derived.Test.YtlhcckjfgpcohaaGreatDoorBlkK
import Derived.Deep.RegionWith
import Derived.Deep.RegionHeld3
import Derived.RegionTactic
import Derived.Laws.EntriesVeiled
import Derived.Deep.CutRange
namespace Go.Proofs.YtlhcckjfgpcohaaGreatDoor
open Go.RowKit Go.MapKept
set_option maxRecDepth 100000
set_option linter.unusedSimpArgs false
set_option linter.unusedVariables false
def Kinds (w : World) (e : Ending) (w' : World) : Prop := ∃ g : Nat, e = .returned (.map (some g)) ∧ w'.heap[g]? = some (kM g 5) ∧ w'.heap[g + 1]? = some (oneS [34]) ∧ w'.heap[g + 1 + 1]? = some (oneS [34]) ∧ w'.heap[g + 1 + 1 + 1]? = some (oneS [91]) ∧ w'.heap[g + 1 + 1 + 1 + 1]? = some (oneS [93]) ∧ w'.heap[g + 1 + 1 + 1 + 1 + 1]? = some (oneS [35]) ∧ w'.heap[g + 1 + 1 + 1 + 1 + 1 + 1]? = some (oneS []) ∧ Below w.heap.size w w'
theorem allocs_heap : ∀ (os : List Obj) (w : World), (allocs w os).heap = w.heap ++ os.toArray
  | [], w => by simp [allocs]
  | o :: os, w => by
    show (allocs (w.alloc o) os).heap = _
    rw [allocs_heap os]
    show w.heap.push o ++ os.toArray = _
    simp
theorem allocs_get (w : World) (os : List Obj) (i : Nat) : (allocs w os).heap[w.heap.size + i]? = os[i]? := by
  rw [allocs_heap]
  simp [Array.getElem?_append]
  omega
theorem allocs_below (w : World) : ∀ (os : List Obj) (W : World), Below w.heap.size w W → Below w.heap.size w (allocs W os)
  | [], W, h => h
  | o :: os, W, h => allocs_below w os (W.alloc o) (h.alloc h.size o)
theorem kinds_at (w : World) : Calls Tryz.prog 104 #[] w (Kinds w) := by
  refine (kinds_any w).mono ?_
  rintro e w' ⟨rfl, rfl⟩
  have h := allocs_get w [kM w.heap.size 5, oneS [34], oneS [34], oneS [91], oneS [93], oneS [35], oneS []]
  exact ⟨w.heap.size, rfl, h 0, h 1, h 2, h 3, h 4, h 5, h 6, allocs_below w _ _ (below_alloc w _)⟩
/-- What the table gives for a kind. -/
def kindV (g : Nat) (k : Int) : Value := if k = 1 then .agg #[fv 108, fv 109, fv 110] else if k = 2 then .agg #[fv 108, fv 109, fv 111] else if k = 3 then .agg #[fv 112, fv 113, bw2 (g + 1) (g + 1 + 1)] else if k = 4 then .agg #[fv 108, fv 109, bw2 (g + 1 + 1 + 1) (g + 1 + 1 + 1 + 1)] else if k = 5 then .agg #[fv 115, fv 109, bw2 (g + 1 + 1 + 1 + 1 + 1) (g + 1 + 1 + 1 + 1 + 1 + 1)] else .agg #[.nilFunc, .nilFunc, .nilFunc]
theorem find_kind (g : Nat) (k : Int) : Instr.findNow (.int .i64) (.int .i64 k) (kindsE g) 0 = if inB k 1 5 = true then some (some ((k - 1).toNat, kindV g k)) else some none := by
  by_cases h1 : k = 1
  · subst h1; rfl
  by_cases h2 : k = 2
  · subst h2; rfl
  by_cases h3 : k = 3
  · subst h3; rfl
  by_cases h4 : k = 4
  · subst h4; rfl
  by_cases h5 : k = 5
  · subst h5; rfl
  rw [if_neg (by simp [inB]; omega)]
  exact find_none k _ 0 (by simp [kindsE, ent]; omega)
theorem look_any (g : Nat) (k : Int) (W : World) (hg : W.heap[g]? = some (kM g 5)) : (Instr.lookup 133 (.map (some g)) (.int .i64 k) true).run Tryz.prog W = .ok (.tuple #[kindV g k, .bool (inB k 1 5)]) W := by
  have hkk : IsKey (.int .i64) (.int .i64 k) := by simp [IsKey]
  have hg' : W.heap[g]? = some (.map (kindsE g).toArray 5) := hg
  have hf := find_kind g k
  by_cases hb : inB k 1 5 = true
  · rw [if_pos hb] at hf
    simp [Instr.lookup, run_underlying und55, MapKept.run_getObj_map hg', MapKept.run_checkKey Tryz.underlying3 hkk, MapKept.run_findKey Tryz.underlying3 hf, Result.andThen, hb]
  · rw [if_neg hb] at hf
    have hz := Tryz.zeroValue131 W
    have hk : kindV g k = .agg #[.nilFunc, .nilFunc, .nilFunc] := by
      simp only [inB, decide_eq_true_eq] at hb
      unfold kindV
      rw [if_neg (by omega), if_neg (by omega), if_neg (by omega), if_neg (by omega), if_neg (by omega)]
    simp [Instr.lookup, run_underlying und55, MapKept.run_getObj_map hg', MapKept.run_checkKey Tryz.underlying3 hkk, MapKept.run_findKey Tryz.underlying3 hf, Result.andThen, hb, hk, hz]

theorem cells3 {W : World} {g : Nat} {a b c : Value} {t : TypeId} {fr : Nat × Nat} (h : W.heap[g]? = some (.cells #[a, b, c] t fr)) : W.cell? ⟨g, 0, none⟩ = some a ∧ W.cell? ⟨g, 1, none⟩ = some b ∧ W.cell? ⟨g, 2, none⟩ = some c :=
  ⟨by rw [Joins.cell_of_block h]; rfl, by rw [Joins.cell_of_block h]; rfl, by rw [Joins.cell_of_block h]; rfl⟩
/-- A block by value. -/
def blkV (b : Blk) (a : Option Addr) (n c : Nat) : Value := .agg #[.int .i64 b.id, .int .i64 b.kd, .string ⟨b.tx.toArray⟩, .int .i64 b.st, .int .i64 b.rf, .int .i64 b.lb.u, .slice a n c, .int .i64 b.lb.ap, .int .i64 b.lb.d]
set_option maxHeartbeats 4000000 in
theorem bvalid_walk62 (id kd st rf u ap d : Int) (s : ByteArray) (a : Option Addr) (n c : Nat) (w : World) (nZ : Nat) (cp : Nat → Array Value) (bK bI bT bS bL : Bool)
    (hk : ∀ g, kindV g kd = .agg #[.func (.func 108) #[] #[], .func (.func 109) #[] #[], .func (.func nZ) #[] (cp g)]) (hb : inB kd 1 5 = true)
    (KI : Hid (∀ W : World, Calls Tryz.prog 105 #[.int .i64 id, .int .i64 1, .int .i64 1000] W fun e w' => e = .returned (.bool bI) ∧ W = w'))
    (KT : Hid (∀ W : World, Calls Tryz.prog 108 #[.string s] W fun e w' => e = .returned (.bool bT) ∧ W = w'))
    (KS : Hid (∀ W : World, Calls Tryz.prog 109 #[.int .i64 st, .int .i64 rf] W fun e w' => e = .returned (.bool bS) ∧ W = w'))
    (KL : Hid (∀ W : World, Below w.heap.size w W → Calls Tryz.prog 41 #[.agg #[.int .i64 u, .slice a n c, .int .i64 ap, .int .i64 d]] W fun e w' => e = .returned (.bool bL) ∧ Below W.heap.size W w')) :
    Calls Tryz.prog 102 #[.agg #[.int .i64 id, .int .i64 kd, .string s, .int .i64 st, .int .i64 rf, .int .i64 u, .slice a n c, .int .i64 ap, .int .i64 d]] w fun e w' => e = .returned (.bool (bI && (bT && (bS && bL)))) ∧ Below w.heap.size w w' := by
  have LK : Hid (∀ (g : Nat) (W : World), W.heap[g]? = some (kM g 5) → (Instr.lookup 133 (.map (some g)) (.int .i64 kd) true).run Tryz.prog W = .ok (.tuple #[.agg #[.func (.func 108) #[] #[], .func (.func 109) #[] #[], .func (.func nZ) #[] (cp g)], .bool true]) W) := Lib.hid (fun g W hg => by
    rw [look_any g kd W hg, hk g, hb])
  clear hk hb
  have B0 : Below w.heap.size w (w.alloc (.cells #[.int .i64 id, .int .i64 kd, .string s, .int .i64 st, .int .i64 rf, .int .i64 u, .slice a n c, .int .i64 ap, .int .i64 d] 49)) := below_alloc _ _
  go_enter Tryz.func102, Tryz.ntmps102
  go_wp2_with fail
  have HB := Lib.hid (heap_alloc_new w (.cells #[.int .i64 id, .int .i64 kd, .string s, .int .i64 st, .int .i64 rf, .int .i64 u, .slice a n c, .int .i64 ap, .int .i64 d] 49))
  obtain ⟨W1, hW1⟩ : ∃ W1, w.alloc (.cells #[.int .i64 id, .int .i64 kd, .string s, .int .i64 st, .int .i64 rf, .int .i64 u, .slice a n c, .int .i64 ap, .int .i64 d] 49) = W1 := ⟨_, rfl⟩
  rw [hW1] at B0 HB ⊢
  obtain ⟨g0, hg0⟩ : ∃ g0, g0 = w.heap.size := ⟨_, rfl⟩
  rw [← hg0] at HB ⊢
  clear hW1 hg0
  have hg1 : g0 < W1.heap.size := (Array.getElem?_eq_some_iff.1 HB.out).1
  go_cut [3, 4] from 5 to 11 (fun p q wr => ∃ gp, p = .pointer (some ⟨gp, 0, none⟩) ∧ q = .bool true ∧ wr.cell? ⟨gp, 0, none⟩ = some (.func (.func 108) #[] #[]) ∧ wr.cell? ⟨gp, 1, none⟩ = some (.func (.func 109) #[] #[]) ∧ Below W1.heap.size W1 wr)
  case first =>
    have bc := Below.refl W1.heap.size W1
    have c1 : W1.cell? ⟨g0, 1, none⟩ = some (.int .i64 kd) := by rw [Joins.cell_of_block HB.out]; rfl
    refine wp_region_held_drew (S := fun w' => Below W1.heap.size W1 w' ∧ w'.cell? ⟨g0, 1, none⟩ = some (.int .i64 kd)) (by kernel_rfl) ?_ (fun h0 => ?_)
    · exact ⟨bc.drew, c1⟩
    refine wpAnyH_take (i := 1) (v := ?_) rfl (by kernel_rfl) (by kernel_rfl) (by kernel_rfl) (fun _ _ _ h => h) (Or.inl ⟨by rfl, ?_⟩) h0 ?_
    rotate_left
    · (intro w hSw; (try dsimp only at hSw); go_simp); all_goals (with_reducible rfl)
    try simp only [List.getElem_toArray, List.getElem_cons_succ, List.getElem_cons_zero, Act.put, List.setIfInBounds_toArray, List.set_cons_zero, List.set_cons_succ]
    refine wpAnyH_take (i := 2) (v := ?_) rfl (by kernel_rfl) (by kernel_rfl) (by kernel_rfl) (fun _ _ _ h => h) (Or.inl ⟨by rfl, ?_⟩) h0 ?_
    rotate_left
    · (intro w hSw; (try dsimp only at hSw); go_simp); all_goals (with_reducible rfl)
    try simp only [List.getElem_toArray, List.getElem_cons_succ, List.getElem_cons_zero, Act.put, List.setIfInBounds_toArray, List.set_cons_zero, List.set_cons_succ]
    refine wpAnyH_ready (rs := [0, 7]) (by kernel_rfl) (by simp) ?_
    refine AllReadyH.cons rfl (fun K hK => ?_) (AllReadyH.cons rfl (fun K hK => ?_) AllReadyH.nil)
    · skip
      go_simp
      go_at_call 104
      refine (kinds_at _).mono ?_
      rintro e w1 ⟨gm, rfl, hm, -, -, -, -, -, -, bq⟩
      go_wp2_with fail
      have bX := bel2 h0.1 bq
      have HM := Lib.hid hm
      refine hK.out _ _ ?_ (fun h1 => ?_)
      · exact ⟨bX, cellOver bX c1⟩
      clear hK K h0 bX bq hm
      try simp only [List.getElem_toArray, List.getElem_cons_succ, List.getElem_cons_zero, Act.put, List.setIfInBounds_toArray, List.set_cons_zero, List.set_cons_succ]
      refine wpAnyH_ready (rs := [3, 7]) (by kernel_rfl) (by simp) ?_
      refine AllReadyH.cons rfl (fun K hK => ?_) (AllReadyH.cons rfl (fun K hK => ?_) AllReadyH.nil)
      · skip
        have lk := LK.out gm w1 HM.out
        go_simp
        have bX := h1.1
        refine hK.out _ _ ?_ (fun h2 => ?_)
        · exact ⟨bX, cellOver bX c1⟩
        clear hK K h1 bX lk
        try simp only [List.getElem_toArray, List.getElem_cons_succ, List.getElem_cons_zero, Act.put, List.setIfInBounds_toArray, List.set_cons_zero, List.set_cons_succ]
        refine wpAnyH_take (i := 4) (v := ?_) rfl (by kernel_rfl) (by kernel_rfl) (by kernel_rfl) (fun _ _ _ h => h) (Or.inl ⟨by rfl, ?_⟩) h2 ?_
        rotate_left
        · (intro w hSw; (try dsimp only at hSw); go_simp); all_goals (with_reducible rfl)
        try simp only [List.getElem_toArray, List.getElem_cons_succ, List.getElem_cons_zero, Act.put, List.setIfInBounds_toArray, List.set_cons_zero, List.set_cons_succ]
        refine wpAnyH_take (i := 5) (v := ?_) rfl (by kernel_rfl) (by kernel_rfl) (by kernel_rfl) (fun _ _ _ h => h) (Or.inl ⟨by rfl, ?_⟩) h2 ?_
        rotate_left
        · (intro w hSw; (try dsimp only at hSw); go_simp); all_goals (with_reducible rfl)
        try simp only [List.getElem_toArray, List.getElem_cons_succ, List.getElem_cons_zero, Act.put, List.setIfInBounds_toArray, List.set_cons_zero, List.set_cons_succ]
        refine wpAnyH_take (i := 6) (v := ?_) rfl (by kernel_rfl) (by kernel_rfl) (by kernel_rfl) (fun _ _ _ h => h) (Or.inl ⟨by rfl, ?_⟩) h2 ?_
        rotate_left
        · (intro w hSw; (try dsimp only at hSw); go_simp); all_goals (with_reducible rfl)
        try simp only [List.getElem_toArray, List.getElem_cons_succ, List.getElem_cons_zero, Act.put, List.setIfInBounds_toArray, List.set_cons_zero, List.set_cons_succ]
        refine wpAnyH_ready (rs := [7]) (by kernel_rfl) (by simp) ?_
        refine AllReadyH.cons rfl (fun K hK => ?_) AllReadyH.nil
        go_simp
        obtain ⟨gg, hgg⟩ : ∃ gg, w1.heap.size = gg := ⟨_, rfl⟩
        have HG := Lib.hid (show (w1.alloc (.cells #[.nilFunc, .nilFunc, .nilFunc] 131)).heap[gg]? = some (.cells #[.nilFunc, .nilFunc, .nilFunc] 131 (0, 0)) from hgg ▸ heap_alloc_new w1 (.cells #[.nilFunc, .nilFunc, .nilFunc] 131))
        have hgc : W1.heap.size ≤ gg := by rw [← hgg]; exact h2.1.size
        have bX := bel2 h2.1 (below_alloc w1 (.cells #[.nilFunc, .nilFunc, .nilFunc] 131))
        replace HM := Lib.hid (blockOver (below_alloc w1 (.cells #[.nilFunc, .nilFunc, .nilFunc] 131)) HM.out)
        try rw [hgg]
        refine hK.out _ _ ?_ (fun h3 => ?_)
        · exact ⟨bX, cellOver bX c1⟩
        clear hK K h2 bX
        try simp only [List.getElem_toArray, List.getElem_cons_succ, List.getElem_cons_zero, Act.put, List.setIfInBounds_toArray, List.set_cons_zero, List.set_cons_succ]
        try rw [hgg]
        clear hgg
        refine wpAnyH_ready (rs := [8]) (by kernel_rfl) (by simp) ?_
        refine AllReadyH.cons rfl (fun K hK => ?_) AllReadyH.nil
        obtain ⟨z0q, z1q, z2q⟩ := cells3 HG.out
        have f0 := Joins.unfrozen_of_block HG.out 0
        have f1 := Joins.unfrozen_of_block HG.out 1
        have f2 := Joins.unfrozen_of_block HG.out 2
        go_simp
        have hfin : ((((w1.alloc (.cells #[.nilFunc, .nilFunc, .nilFunc] 131)).setCell ⟨gg, 0, none⟩ (.func (.func 108) #[] #[])).setCell ⟨gg, 1, none⟩ (.func (.func 109) #[] #[])).setCell ⟨gg, 2, none⟩ (.func (.func nZ) #[] (cp gm))).heap[gg]? = some (.cells #[(.func (.func 108) #[] #[]), (.func (.func 109) #[] #[]), (.func (.func nZ) #[] (cp gm))] 131 (0, 0)) := Joins.block_setCell (Joins.block_setCell (Joins.block_setCell HG.out _) _) _
        have bX := ((h3.1.setCell (p := ⟨gg, 0, none⟩) hgc (.func (.func 108) #[] #[])).setCell (p := ⟨gg, 1, none⟩) hgc (.func (.func 109) #[] #[])).setCell (p := ⟨gg, 2, none⟩) hgc (.func (.func nZ) #[] (cp gm))
        have bF := bX
        have HF := Lib.hid hfin
        clear hfin z0q z1q z2q f0 f1 f2
        refine hK.out _ _ ?_ (fun h4 => ?_)
        · exact ⟨bX, cellOver bX c1⟩
        clear hK K h3 bX
        try simp only [List.getElem_toArray, List.getElem_cons_succ, List.getElem_cons_zero, Act.put, List.setIfInBounds_toArray, List.set_cons_zero, List.set_cons_succ]
        refine wpAnyH_take (i := 9) (v := ?_) rfl (by kernel_rfl) (by kernel_rfl) (by kernel_rfl) (fun _ _ _ h => h) (Or.inl ⟨by rfl, ?_⟩) h4 ?_
        rotate_left
        · (intro w hSw; (try dsimp only at hSw); go_simp); all_goals (with_reducible rfl)
        try simp only [List.getElem_toArray, List.getElem_cons_succ, List.getElem_cons_zero, Act.put, List.setIfInBounds_toArray, List.set_cons_zero, List.set_cons_succ]
        refine wpAnyH_done (by kernel_rfl) ?_ _
        clear h4
        go_wp2_with fail
        go_meet
        exact ⟨_, rfl, rfl, by rw [Joins.cell_of_block HF.out]; rfl, by rw [Joins.cell_of_block HF.out]; rfl, bF⟩
      · skip
        go_simp
        obtain ⟨gg, hgg⟩ : ∃ gg, w1.heap.size = gg := ⟨_, rfl⟩
        have HG := Lib.hid (show (w1.alloc (.cells #[.nilFunc, .nilFunc, .nilFunc] 131)).heap[gg]? = some (.cells #[.nilFunc, .nilFunc, .nilFunc] 131 (0, 0)) from hgg ▸ heap_alloc_new w1 (.cells #[.nilFunc, .nilFunc, .nilFunc] 131))
        have hgc : W1.heap.size ≤ gg := by rw [← hgg]; exact h1.1.size
        have bX := bel2 h1.1 (below_alloc w1 (.cells #[.nilFunc, .nilFunc, .nilFunc] 131))
        replace HM := Lib.hid (blockOver (below_alloc w1 (.cells #[.nilFunc, .nilFunc, .nilFunc] 131)) HM.out)
        try rw [hgg]
        refine hK.out _ _ ?_ (fun h2 => ?_)
        · exact ⟨bX, cellOver bX c1⟩
        clear hK K h1 bX
        try simp only [List.getElem_toArray, List.getElem_cons_succ, List.getElem_cons_zero, Act.put, List.setIfInBounds_toArray, List.set_cons_zero, List.set_cons_succ]
        try rw [hgg]
        clear hgg
        refine wpAnyH_ready (rs := [3]) (by kernel_rfl) (by simp) ?_
        refine AllReadyH.cons rfl (fun K hK => ?_) AllReadyH.nil
        have lk := LK.out gm (w1.alloc (.cells #[.nilFunc, .nilFunc, .nilFunc] 131)) HM.out
        go_simp
        have bX := h2.1
        refine hK.out _ _ ?_ (fun h3 => ?_)
        · exact ⟨bX, cellOver bX c1⟩
        clear hK K h2 bX lk
        try simp only [List.getElem_toArray, List.getElem_cons_succ, List.getElem_cons_zero, Act.put, List.setIfInBounds_toArray, List.set_cons_zero, List.set_cons_succ]
        refine wpAnyH_take (i := 4) (v := ?_) rfl (by kernel_rfl) (by kernel_rfl) (by kernel_rfl) (fun _ _ _ h => h) (Or.inl ⟨by rfl, ?_⟩) h3 ?_
        rotate_left
        · (intro w hSw; (try dsimp only at hSw); go_simp); all_goals (with_reducible rfl)
        try simp only [List.getElem_toArray, List.getElem_cons_succ, List.getElem_cons_zero, Act.put, List.setIfInBounds_toArray, List.set_cons_zero, List.set_cons_succ]
        refine wpAnyH_take (i := 5) (v := ?_) rfl (by kernel_rfl) (by kernel_rfl) (by kernel_rfl) (fun _ _ _ h => h) (Or.inl ⟨by rfl, ?_⟩) h3 ?_
        rotate_left
        · (intro w hSw; (try dsimp only at hSw); go_simp); all_goals (with_reducible rfl)
        try simp only [List.getElem_toArray, List.getElem_cons_succ, List.getElem_cons_zero, Act.put, List.setIfInBounds_toArray, List.set_cons_zero, List.set_cons_succ]
        refine wpAnyH_take (i := 6) (v := ?_) rfl (by kernel_rfl) (by kernel_rfl) (by kernel_rfl) (fun _ _ _ h => h) (Or.inl ⟨by rfl, ?_⟩) h3 ?_
        rotate_left
        · (intro w hSw; (try dsimp only at hSw); go_simp); all_goals (with_reducible rfl)
        try simp only [List.getElem_toArray, List.getElem_cons_succ, List.getElem_cons_zero, Act.put, List.setIfInBounds_toArray, List.set_cons_zero, List.set_cons_succ]
        refine wpAnyH_ready (rs := [8]) (by kernel_rfl) (by simp) ?_
        refine AllReadyH.cons rfl (fun K hK => ?_) AllReadyH.nil
        obtain ⟨z0q, z1q, z2q⟩ := cells3 HG.out
        have f0 := Joins.unfrozen_of_block HG.out 0
        have f1 := Joins.unfrozen_of_block HG.out 1
        have f2 := Joins.unfrozen_of_block HG.out 2
        go_simp
        have hfin : ((((w1.alloc (.cells #[.nilFunc, .nilFunc, .nilFunc] 131)).setCell ⟨gg, 0, none⟩ (.func (.func 108) #[] #[])).setCell ⟨gg, 1, none⟩ (.func (.func 109) #[] #[])).setCell ⟨gg, 2, none⟩ (.func (.func nZ) #[] (cp gm))).heap[gg]? = some (.cells #[(.func (.func 108) #[] #[]), (.func (.func 109) #[] #[]), (.func (.func nZ) #[] (cp gm))] 131 (0, 0)) := Joins.block_setCell (Joins.block_setCell (Joins.block_setCell HG.out _) _) _
        have bX := ((h3.1.setCell (p := ⟨gg, 0, none⟩) hgc (.func (.func 108) #[] #[])).setCell (p := ⟨gg, 1, none⟩) hgc (.func (.func 109) #[] #[])).setCell (p := ⟨gg, 2, none⟩) hgc (.func (.func nZ) #[] (cp gm))
        have bF := bX
        have HF := Lib.hid hfin
        clear hfin z0q z1q z2q f0 f1 f2
        refine hK.out _ _ ?_ (fun h4 => ?_)
        · exact ⟨bX, cellOver bX c1⟩
        clear hK K h3 bX
        try simp only [List.getElem_toArray, List.getElem_cons_succ, List.getElem_cons_zero, Act.put, List.setIfInBounds_toArray, List.set_cons_zero, List.set_cons_succ]
        refine wpAnyH_take (i := 9) (v := ?_) rfl (by kernel_rfl) (by kernel_rfl) (by kernel_rfl) (fun _ _ _ h => h) (Or.inl ⟨by rfl, ?_⟩) h4 ?_
        rotate_left
        · (intro w hSw; (try dsimp only at hSw); go_simp); all_goals (with_reducible rfl)
        try simp only [List.getElem_toArray, List.getElem_cons_succ, List.getElem_cons_zero, Act.put, List.setIfInBounds_toArray, List.set_cons_zero, List.set_cons_succ]
        refine wpAnyH_done (by kernel_rfl) ?_ _
        clear h4
        go_wp2_with fail
        go_meet
        exact ⟨_, rfl, rfl, by rw [Joins.cell_of_block HF.out]; rfl, by rw [Joins.cell_of_block HF.out]; rfl, bF⟩
    · skip
      go_simp
      have HG := Lib.hid (show (W1.alloc (.cells #[.nilFunc, .nilFunc, .nilFunc] 131)).heap[W1.heap.size]? = some (.cells #[.nilFunc, .nilFunc, .nilFunc] 131 (0, 0)) from heap_alloc_new W1 (.cells #[.nilFunc, .nilFunc, .nilFunc] 131))
      have hgc : W1.heap.size ≤ W1.heap.size := Nat.le_refl _
      have bX := (below_alloc W1 (.cells #[.nilFunc, .nilFunc, .nilFunc] 131)).drew
      refine hK.out _ _ ?_ (fun h1 => ?_)
      · exact ⟨bX, cellOver bX c1⟩
      clear hK K h0 bX
      try simp only [List.getElem_toArray, List.getElem_cons_succ, List.getElem_cons_zero, Act.put, List.setIfInBounds_toArray, List.set_cons_zero, List.set_cons_succ]
      refine wpAnyH_ready (rs := [0]) (by kernel_rfl) (by simp) ?_
      refine AllReadyH.cons rfl (fun K hK => ?_) AllReadyH.nil
      go_simp
      go_at_call 104
      refine (kinds_at _).mono ?_
      rintro e w1 ⟨gm, rfl, hm, -, -, -, -, -, -, bq⟩
      go_wp2_with fail
      have bX := bel2 h1.1 bq
      have HM := Lib.hid hm
      replace HG := Lib.hid (blockOver bq HG.out)
      refine hK.out _ _ ?_ (fun h2 => ?_)
      · exact ⟨bX, cellOver bX c1⟩
      clear hK K h1 bX bq hm
      try simp only [List.getElem_toArray, List.getElem_cons_succ, List.getElem_cons_zero, Act.put, List.setIfInBounds_toArray, List.set_cons_zero, List.set_cons_succ]
      refine wpAnyH_ready (rs := [3]) (by kernel_rfl) (by simp) ?_
      refine AllReadyH.cons rfl (fun K hK => ?_) AllReadyH.nil
      have lk := LK.out gm w1 HM.out
      go_simp
      have bX := h2.1
      refine hK.out _ _ ?_ (fun h3 => ?_)
      · exact ⟨bX, cellOver bX c1⟩
      clear hK K h2 bX lk
      try simp only [List.getElem_toArray, List.getElem_cons_succ, List.getElem_cons_zero, Act.put, List.setIfInBounds_toArray, List.set_cons_zero, List.set_cons_succ]
      refine wpAnyH_take (i := 4) (v := ?_) rfl (by kernel_rfl) (by kernel_rfl) (by kernel_rfl) (fun _ _ _ h => h) (Or.inl ⟨by rfl, ?_⟩) h3 ?_
      rotate_left
      · (intro w hSw; (try dsimp only at hSw); go_simp); all_goals (with_reducible rfl)
      try simp only [List.getElem_toArray, List.getElem_cons_succ, List.getElem_cons_zero, Act.put, List.setIfInBounds_toArray, List.set_cons_zero, List.set_cons_succ]
      refine wpAnyH_take (i := 5) (v := ?_) rfl (by kernel_rfl) (by kernel_rfl) (by kernel_rfl) (fun _ _ _ h => h) (Or.inl ⟨by rfl, ?_⟩) h3 ?_
      rotate_left
      · (intro w hSw; (try dsimp only at hSw); go_simp); all_goals (with_reducible rfl)
      try simp only [List.getElem_toArray, List.getElem_cons_succ, List.getElem_cons_zero, Act.put, List.setIfInBounds_toArray, List.set_cons_zero, List.set_cons_succ]
      refine wpAnyH_take (i := 6) (v := ?_) rfl (by kernel_rfl) (by kernel_rfl) (by kernel_rfl) (fun _ _ _ h => h) (Or.inl ⟨by rfl, ?_⟩) h3 ?_
      rotate_left
      · (intro w hSw; (try dsimp only at hSw); go_simp); all_goals (with_reducible rfl)
      try simp only [List.getElem_toArray, List.getElem_cons_succ, List.getElem_cons_zero, Act.put, List.setIfInBounds_toArray, List.set_cons_zero, List.set_cons_succ]
      refine wpAnyH_ready (rs := [8]) (by kernel_rfl) (by simp) ?_
      refine AllReadyH.cons rfl (fun K hK => ?_) AllReadyH.nil
      obtain ⟨z0q, z1q, z2q⟩ := cells3 HG.out
      have f0 := Joins.unfrozen_of_block HG.out 0
      have f1 := Joins.unfrozen_of_block HG.out 1
      have f2 := Joins.unfrozen_of_block HG.out 2
      go_simp
      have hfin : (((w1.setCell ⟨W1.heap.size, 0, none⟩ (.func (.func 108) #[] #[])).setCell ⟨W1.heap.size, 1, none⟩ (.func (.func 109) #[] #[])).setCell ⟨W1.heap.size, 2, none⟩ (.func (.func nZ) #[] (cp gm))).heap[W1.heap.size]? = some (.cells #[(.func (.func 108) #[] #[]), (.func (.func 109) #[] #[]), (.func (.func nZ) #[] (cp gm))] 131 (0, 0)) := Joins.block_setCell (Joins.block_setCell (Joins.block_setCell HG.out _) _) _
      have bX := ((h3.1.setCell (p := ⟨W1.heap.size, 0, none⟩) hgc (.func (.func 108) #[] #[])).setCell (p := ⟨W1.heap.size, 1, none⟩) hgc (.func (.func 109) #[] #[])).setCell (p := ⟨W1.heap.size, 2, none⟩) hgc (.func (.func nZ) #[] (cp gm))
      have bF := bX
      have HF := Lib.hid hfin
      clear hfin z0q z1q z2q f0 f1 f2
      refine hK.out _ _ ?_ (fun h4 => ?_)
      · exact ⟨bX, cellOver bX c1⟩
      clear hK K h3 bX
      try simp only [List.getElem_toArray, List.getElem_cons_succ, List.getElem_cons_zero, Act.put, List.setIfInBounds_toArray, List.set_cons_zero, List.set_cons_succ]
      refine wpAnyH_take (i := 9) (v := ?_) rfl (by kernel_rfl) (by kernel_rfl) (by kernel_rfl) (fun _ _ _ h => h) (Or.inl ⟨by rfl, ?_⟩) h4 ?_
      rotate_left
      · (intro w hSw; (try dsimp only at hSw); go_simp); all_goals (with_reducible rfl)
      try simp only [List.getElem_toArray, List.getElem_cons_succ, List.getElem_cons_zero, Act.put, List.setIfInBounds_toArray, List.set_cons_zero, List.set_cons_succ]
      refine wpAnyH_done (by kernel_rfl) ?_ _
      clear h4
      go_wp2_with fail
      go_meet
      exact ⟨_, rfl, rfl, by rw [Joins.cell_of_block HF.out]; rfl, by rw [Joins.cell_of_block HF.out]; rfl, bF⟩
  case rest =>
    obtain ⟨gp, rfl, rfl, p0, p1, bw⟩ := hcut
    have b0 : Below w.heap.size w wc := bel2 B0 bw
    have c0 := cellOver bw (show W1.cell? ⟨g0, 0, none⟩ = some (.int .i64 id) by rw [Joins.cell_of_block HB.out]; rfl)
    have c2 := cellOver bw (show W1.cell? ⟨g0, 2, none⟩ = some (.string s) by rw [Joins.cell_of_block HB.out]; rfl)
    have c3 := cellOver bw (show W1.cell? ⟨g0, 3, none⟩ = some (.int .i64 st) by rw [Joins.cell_of_block HB.out]; rfl)
    have c4 := cellOver bw (show W1.cell? ⟨g0, 4, none⟩ = some (.int .i64 rf) by rw [Joins.cell_of_block HB.out]; rfl)
    have c5 := cellOver bw (show W1.cell? ⟨g0, 5, none⟩ = some (.int .i64 u) by rw [Joins.cell_of_block HB.out]; rfl)
    have c6 := cellOver bw (show W1.cell? ⟨g0, 6, none⟩ = some (.slice a n c) by rw [Joins.cell_of_block HB.out]; rfl)
    have c7 := cellOver bw (show W1.cell? ⟨g0, 7, none⟩ = some (.int .i64 ap) by rw [Joins.cell_of_block HB.out]; rfl)
    have c8 := cellOver bw (show W1.cell? ⟨g0, 8, none⟩ = some (.int .i64 d) by rw [Joins.cell_of_block HB.out]; rfl)
    have HB0 := Lib.hid b0
    clear HB LK B0 bw b0 hg1
    cases bI
    · go_wp2_with fail
      refine (KI.out _).mono ?_
      rintro e w' ⟨rfl, rfl⟩
      go_wp2
      go_ret
      exact ⟨ret_bool rfl, HB0.out⟩
    · cases bT
      · go_wp2_with fail
        refine (KI.out _).mono ?_
        rintro e w' ⟨rfl, rfl⟩
        go_wp2_with fail
        refine (KT.out _).mono ?_
        rintro e w' ⟨rfl, rfl⟩
        go_wp2
        go_ret
        exact ⟨ret_bool rfl, HB0.out⟩
      · cases bS
        · go_wp2_with fail
          refine (KI.out _).mono ?_
          rintro e w' ⟨rfl, rfl⟩
          go_wp2_with fail
          refine (KT.out _).mono ?_
          rintro e w' ⟨rfl, rfl⟩
          go_wp2_with fail
          refine (KS.out _).mono ?_
          rintro e w' ⟨rfl, rfl⟩
          go_wp2
          go_ret
          exact ⟨ret_bool rfl, HB0.out⟩
        · go_wp2_with fail
          refine (KI.out _).mono ?_
          rintro e w' ⟨rfl, rfl⟩
          go_wp2_with fail
          refine (KT.out _).mono ?_
          rintro e w' ⟨rfl, rfl⟩
          go_wp2_with fail
          refine (KS.out _).mono ?_
          rintro e w' ⟨rfl, rfl⟩
          go_wp2_with fail
          refine (KL.out _ HB0.out).mono ?_
          rintro e w' ⟨rfl, bq⟩
          go_wp2
          go_ret
          exact ⟨ret_bool (by simp), bel2 HB0.out bq⟩
set_option maxHeartbeats 4000000 in
theorem bvalid_walk66 (id kd st rf u ap d : Int) (s : ByteArray) (a : Option Addr) (n c : Nat) (w : World) (nZ : Nat) (cp : Nat → Array Value) (bK bI bT bS bL : Bool)
    (hk : ∀ g, kindV g kd = .agg #[.func (.func 112) #[] #[], .func (.func 113) #[] #[], .func (.func nZ) #[] (cp g)]) (hb : inB kd 1 5 = true)
    (KI : Hid (∀ W : World, Calls Tryz.prog 105 #[.int .i64 id, .int .i64 1, .int .i64 1000] W fun e w' => e = .returned (.bool bI) ∧ W = w'))
    (KT : Hid (∀ W : World, Calls Tryz.prog 112 #[.string s] W fun e w' => e = .returned (.bool bT) ∧ W = w'))
    (KS : Hid (∀ W : World, Calls Tryz.prog 113 #[.int .i64 st, .int .i64 rf] W fun e w' => e = .returned (.bool bS) ∧ W = w'))
    (KL : Hid (∀ W : World, Below w.heap.size w W → Calls Tryz.prog 41 #[.agg #[.int .i64 u, .slice a n c, .int .i64 ap, .int .i64 d]] W fun e w' => e = .returned (.bool bL) ∧ Below W.heap.size W w')) :
    Calls Tryz.prog 102 #[.agg #[.int .i64 id, .int .i64 kd, .string s, .int .i64 st, .int .i64 rf, .int .i64 u, .slice a n c, .int .i64 ap, .int .i64 d]] w fun e w' => e = .returned (.bool (bI && (bT && (bS && bL)))) ∧ Below w.heap.size w w' := by
  have LK : Hid (∀ (g : Nat) (W : World), W.heap[g]? = some (kM g 5) → (Instr.lookup 133 (.map (some g)) (.int .i64 kd) true).run Tryz.prog W = .ok (.tuple #[.agg #[.func (.func 112) #[] #[], .func (.func 113) #[] #[], .func (.func nZ) #[] (cp g)], .bool true]) W) := Lib.hid (fun g W hg => by
    rw [look_any g kd W hg, hk g, hb])
  clear hk hb
  have B0 : Below w.heap.size w (w.alloc (.cells #[.int .i64 id, .int .i64 kd, .string s, .int .i64 st, .int .i64 rf, .int .i64 u, .slice a n c, .int .i64 ap, .int .i64 d] 49)) := below_alloc _ _
  go_enter Tryz.func102, Tryz.ntmps102
  go_wp2_with fail
  have HB := Lib.hid (heap_alloc_new w (.cells #[.int .i64 id, .int .i64 kd, .string s, .int .i64 st, .int .i64 rf, .int .i64 u, .slice a n c, .int .i64 ap, .int .i64 d] 49))
  obtain ⟨W1, hW1⟩ : ∃ W1, w.alloc (.cells #[.int .i64 id, .int .i64 kd, .string s, .int .i64 st, .int .i64 rf, .int .i64 u, .slice a n c, .int .i64 ap, .int .i64 d] 49) = W1 := ⟨_, rfl⟩
  rw [hW1] at B0 HB ⊢
  obtain ⟨g0, hg0⟩ : ∃ g0, g0 = w.heap.size := ⟨_, rfl⟩
  rw [← hg0] at HB ⊢
  clear hW1 hg0
  have hg1 : g0 < W1.heap.size := (Array.getElem?_eq_some_iff.1 HB.out).1
  go_cut [3, 4] from 5 to 11 (fun p q wr => ∃ gp, p = .pointer (some ⟨gp, 0, none⟩) ∧ q = .bool true ∧ wr.cell? ⟨gp, 0, none⟩ = some (.func (.func 112) #[] #[]) ∧ wr.cell? ⟨gp, 1, none⟩ = some (.func (.func 113) #[] #[]) ∧ Below W1.heap.size W1 wr)
  case first =>
    have bc := Below.refl W1.heap.size W1
    have c1 : W1.cell? ⟨g0, 1, none⟩ = some (.int .i64 kd) := by rw [Joins.cell_of_block HB.out]; rfl
    refine wp_region_held_drew (S := fun w' => Below W1.heap.size W1 w' ∧ w'.cell? ⟨g0, 1, none⟩ = some (.int .i64 kd)) (by kernel_rfl) ?_ (fun h0 => ?_)
    · exact ⟨bc.drew, c1⟩
    refine wpAnyH_take (i := 1) (v := ?_) rfl (by kernel_rfl) (by kernel_rfl) (by kernel_rfl) (fun _ _ _ h => h) (Or.inl ⟨by rfl, ?_⟩) h0 ?_
    rotate_left
    · (intro w hSw; (try dsimp only at hSw); go_simp); all_goals (with_reducible rfl)
    try simp only [List.getElem_toArray, List.getElem_cons_succ, List.getElem_cons_zero, Act.put, List.setIfInBounds_toArray, List.set_cons_zero, List.set_cons_succ]
    refine wpAnyH_take (i := 2) (v := ?_) rfl (by kernel_rfl) (by kernel_rfl) (by kernel_rfl) (fun _ _ _ h => h) (Or.inl ⟨by rfl, ?_⟩) h0 ?_
    rotate_left
    · (intro w hSw; (try dsimp only at hSw); go_simp); all_goals (with_reducible rfl)
    try simp only [List.getElem_toArray, List.getElem_cons_succ, List.getElem_cons_zero, Act.put, List.setIfInBounds_toArray, List.set_cons_zero, List.set_cons_succ]
    refine wpAnyH_ready (rs := [0, 7]) (by kernel_rfl) (by simp) ?_
    refine AllReadyH.cons rfl (fun K hK => ?_) (AllReadyH.cons rfl (fun K hK => ?_) AllReadyH.nil)
    · skip
      go_simp
      go_at_call 104
      refine (kinds_at _).mono ?_
      rintro e w1 ⟨gm, rfl, hm, -, -, -, -, -, -, bq⟩
      go_wp2_with fail
      have bX := bel2 h0.1 bq
      have HM := Lib.hid hm
      refine hK.out _ _ ?_ (fun h1 => ?_)
      · exact ⟨bX, cellOver bX c1⟩
      clear hK K h0 bX bq hm
      try simp only [List.getElem_toArray, List.getElem_cons_succ, List.getElem_cons_zero, Act.put, List.setIfInBounds_toArray, List.set_cons_zero, List.set_cons_succ]
      refine wpAnyH_ready (rs := [3, 7]) (by kernel_rfl) (by simp) ?_
      refine AllReadyH.cons rfl (fun K hK => ?_) (AllReadyH.cons rfl (fun K hK => ?_) AllReadyH.nil)
      · skip
        have lk := LK.out gm w1 HM.out
        go_simp
        have bX := h1.1
        refine hK.out _ _ ?_ (fun h2 => ?_)
        · exact ⟨bX, cellOver bX c1⟩
        clear hK K h1 bX lk
        try simp only [List.getElem_toArray, List.getElem_cons_succ, List.getElem_cons_zero, Act.put, List.setIfInBounds_toArray, List.set_cons_zero, List.set_cons_succ]
        refine wpAnyH_take (i := 4) (v := ?_) rfl (by kernel_rfl) (by kernel_rfl) (by kernel_rfl) (fun _ _ _ h => h) (Or.inl ⟨by rfl, ?_⟩) h2 ?_
        rotate_left
        · (intro w hSw; (try dsimp only at hSw); go_simp); all_goals (with_reducible rfl)
        try simp only [List.getElem_toArray, List.getElem_cons_succ, List.getElem_cons_zero, Act.put, List.setIfInBounds_toArray, List.set_cons_zero, List.set_cons_succ]
        refine wpAnyH_take (i := 5) (v := ?_) rfl (by kernel_rfl) (by kernel_rfl) (by kernel_rfl) (fun _ _ _ h => h) (Or.inl ⟨by rfl, ?_⟩) h2 ?_
        rotate_left
        · (intro w hSw; (try dsimp only at hSw); go_simp); all_goals (with_reducible rfl)
        try simp only [List.getElem_toArray, List.getElem_cons_succ, List.getElem_cons_zero, Act.put, List.setIfInBounds_toArray, List.set_cons_zero, List.set_cons_succ]
        refine wpAnyH_take (i := 6) (v := ?_) rfl (by kernel_rfl) (by kernel_rfl) (by kernel_rfl) (fun _ _ _ h => h) (Or.inl ⟨by rfl, ?_⟩) h2 ?_
        rotate_left
        · (intro w hSw; (try dsimp only at hSw); go_simp); all_goals (with_reducible rfl)
        try simp only [List.getElem_toArray, List.getElem_cons_succ, List.getElem_cons_zero, Act.put, List.setIfInBounds_toArray, List.set_cons_zero, List.set_cons_succ]
        refine wpAnyH_ready (rs := [7]) (by kernel_rfl) (by simp) ?_
        refine AllReadyH.cons rfl (fun K hK => ?_) AllReadyH.nil
        go_simp
        obtain ⟨gg, hgg⟩ : ∃ gg, w1.heap.size = gg := ⟨_, rfl⟩
        have HG := Lib.hid (show (w1.alloc (.cells #[.nilFunc, .nilFunc, .nilFunc] 131)).heap[gg]? = some (.cells #[.nilFunc, .nilFunc, .nilFunc] 131 (0, 0)) from hgg ▸ heap_alloc_new w1 (.cells #[.nilFunc, .nilFunc, .nilFunc] 131))
        have hgc : W1.heap.size ≤ gg := by rw [← hgg]; exact h2.1.size
        have bX := bel2 h2.1 (below_alloc w1 (.cells #[.nilFunc, .nilFunc, .nilFunc] 131))
        replace HM := Lib.hid (blockOver (below_alloc w1 (.cells #[.nilFunc, .nilFunc, .nilFunc] 131)) HM.out)
        try rw [hgg]
        refine hK.out _ _ ?_ (fun h3 => ?_)
        · exact ⟨bX, cellOver bX c1⟩
        clear hK K h2 bX
        try simp only [List.getElem_toArray, List.getElem_cons_succ, List.getElem_cons_zero, Act.put, List.setIfInBounds_toArray, List.set_cons_zero, List.set_cons_succ]
        try rw [hgg]
        clear hgg
        refine wpAnyH_ready (rs := [8]) (by kernel_rfl) (by simp) ?_
        refine AllReadyH.cons rfl (fun K hK => ?_) AllReadyH.nil
        obtain ⟨z0q, z1q, z2q⟩ := cells3 HG.out
        have f0 := Joins.unfrozen_of_block HG.out 0
        have f1 := Joins.unfrozen_of_block HG.out 1
        have f2 := Joins.unfrozen_of_block HG.out 2
        go_simp
        have hfin : ((((w1.alloc (.cells #[.nilFunc, .nilFunc, .nilFunc] 131)).setCell ⟨gg, 0, none⟩ (.func (.func 112) #[] #[])).setCell ⟨gg, 1, none⟩ (.func (.func 113) #[] #[])).setCell ⟨gg, 2, none⟩ (.func (.func nZ) #[] (cp gm))).heap[gg]? = some (.cells #[(.func (.func 112) #[] #[]), (.func (.func 113) #[] #[]), (.func (.func nZ) #[] (cp gm))] 131 (0, 0)) := Joins.block_setCell (Joins.block_setCell (Joins.block_setCell HG.out _) _) _
        have bX := ((h3.1.setCell (p := ⟨gg, 0, none⟩) hgc (.func (.func 112) #[] #[])).setCell (p := ⟨gg, 1, none⟩) hgc (.func (.func 113) #[] #[])).setCell (p := ⟨gg, 2, none⟩) hgc (.func (.func nZ) #[] (cp gm))
        have bF := bX
        have HF := Lib.hid hfin
        clear hfin z0q z1q z2q f0 f1 f2
        refine hK.out _ _ ?_ (fun h4 => ?_)
        · exact ⟨bX, cellOver bX c1⟩
        clear hK K h3 bX
        try simp only [List.getElem_toArray, List.getElem_cons_succ, List.getElem_cons_zero, Act.put, List.setIfInBounds_toArray, List.set_cons_zero, List.set_cons_succ]
        refine wpAnyH_take (i := 9) (v := ?_) rfl (by kernel_rfl) (by kernel_rfl) (by kernel_rfl) (fun _ _ _ h => h) (Or.inl ⟨by rfl, ?_⟩) h4 ?_
        rotate_left
        · (intro w hSw; (try dsimp only at hSw); go_simp); all_goals (with_reducible rfl)
        try simp only [List.getElem_toArray, List.getElem_cons_succ, List.getElem_cons_zero, Act.put, List.setIfInBounds_toArray, List.set_cons_zero, List.set_cons_succ]
        refine wpAnyH_done (by kernel_rfl) ?_ _
        clear h4
        go_wp2_with fail
        go_meet
        exact ⟨_, rfl, rfl, by rw [Joins.cell_of_block HF.out]; rfl, by rw [Joins.cell_of_block HF.out]; rfl, bF⟩
      · skip
        go_simp
        obtain ⟨gg, hgg⟩ : ∃ gg, w1.heap.size = gg := ⟨_, rfl⟩
        have HG := Lib.hid (show (w1.alloc (.cells #[.nilFunc, .nilFunc, .nilFunc] 131)).heap[gg]? = some (.cells #[.nilFunc, .nilFunc, .nilFunc] 131 (0, 0)) from hgg ▸ heap_alloc_new w1 (.cells #[.nilFunc, .nilFunc, .nilFunc] 131))
        have hgc : W1.heap.size ≤ gg := by rw [← hgg]; exact h1.1.size
        have bX := bel2 h1.1 (below_alloc w1 (.cells #[.nilFunc, .nilFunc, .nilFunc] 131))
        replace HM := Lib.hid (blockOver (below_alloc w1 (.cells #[.nilFunc, .nilFunc, .nilFunc] 131)) HM.out)
        try rw [hgg]
        refine hK.out _ _ ?_ (fun h2 => ?_)
        · exact ⟨bX, cellOver bX c1⟩
        clear hK K h1 bX
        try simp only [List.getElem_toArray, List.getElem_cons_succ, List.getElem_cons_zero, Act.put, List.setIfInBounds_toArray, List.set_cons_zero, List.set_cons_succ]
        try rw [hgg]
        clear hgg
        refine wpAnyH_ready (rs := [3]) (by kernel_rfl) (by simp) ?_
        refine AllReadyH.cons rfl (fun K hK => ?_) AllReadyH.nil
        have lk := LK.out gm (w1.alloc (.cells #[.nilFunc, .nilFunc, .nilFunc] 131)) HM.out
        go_simp
        have bX := h2.1
        refine hK.out _ _ ?_ (fun h3 => ?_)
        · exact ⟨bX, cellOver bX c1⟩
        clear hK K h2 bX lk
        try simp only [List.getElem_toArray, List.getElem_cons_succ, List.getElem_cons_zero, Act.put, List.setIfInBounds_toArray, List.set_cons_zero, List.set_cons_succ]
        refine wpAnyH_take (i := 4) (v := ?_) rfl (by kernel_rfl) (by kernel_rfl) (by kernel_rfl) (fun _ _ _ h => h) (Or.inl ⟨by rfl, ?_⟩) h3 ?_
        rotate_left
        · (intro w hSw; (try dsimp only at hSw); go_simp); all_goals (with_reducible rfl)
        try simp only [List.getElem_toArray, List.getElem_cons_succ, List.getElem_cons_zero, Act.put, List.setIfInBounds_toArray, List.set_cons_zero, List.set_cons_succ]
        refine wpAnyH_take (i := 5) (v := ?_) rfl (by kernel_rfl) (by kernel_rfl) (by kernel_rfl) (fun _ _ _ h => h) (Or.inl ⟨by rfl, ?_⟩) h3 ?_
        rotate_left
        · (intro w hSw; (try dsimp only at hSw); go_simp); all_goals (with_reducible rfl)
        try simp only [List.getElem_toArray, List.getElem_cons_succ, List.getElem_cons_zero, Act.put, List.setIfInBounds_toArray, List.set_cons_zero, List.set_cons_succ]
        refine wpAnyH_take (i := 6) (v := ?_) rfl (by kernel_rfl) (by kernel_rfl) (by kernel_rfl) (fun _ _ _ h => h) (Or.inl ⟨by rfl, ?_⟩) h3 ?_
        rotate_left
        · (intro w hSw; (try dsimp only at hSw); go_simp); all_goals (with_reducible rfl)
        try simp only [List.getElem_toArray, List.getElem_cons_succ, List.getElem_cons_zero, Act.put, List.setIfInBounds_toArray, List.set_cons_zero, List.set_cons_succ]
        refine wpAnyH_ready (rs := [8]) (by kernel_rfl) (by simp) ?_
        refine AllReadyH.cons rfl (fun K hK => ?_) AllReadyH.nil
        obtain ⟨z0q, z1q, z2q⟩ := cells3 HG.out
        have f0 := Joins.unfrozen_of_block HG.out 0
        have f1 := Joins.unfrozen_of_block HG.out 1
        have f2 := Joins.unfrozen_of_block HG.out 2
        go_simp
        have hfin : ((((w1.alloc (.cells #[.nilFunc, .nilFunc, .nilFunc] 131)).setCell ⟨gg, 0, none⟩ (.func (.func 112) #[] #[])).setCell ⟨gg, 1, none⟩ (.func (.func 113) #[] #[])).setCell ⟨gg, 2, none⟩ (.func (.func nZ) #[] (cp gm))).heap[gg]? = some (.cells #[(.func (.func 112) #[] #[]), (.func (.func 113) #[] #[]), (.func (.func nZ) #[] (cp gm))] 131 (0, 0)) := Joins.block_setCell (Joins.block_setCell (Joins.block_setCell HG.out _) _) _
        have bX := ((h3.1.setCell (p := ⟨gg, 0, none⟩) hgc (.func (.func 112) #[] #[])).setCell (p := ⟨gg, 1, none⟩) hgc (.func (.func 113) #[] #[])).setCell (p := ⟨gg, 2, none⟩) hgc (.func (.func nZ) #[] (cp gm))
        have bF := bX
        have HF := Lib.hid hfin
        clear hfin z0q z1q z2q f0 f1 f2
        refine hK.out _ _ ?_ (fun h4 => ?_)
        · exact ⟨bX, cellOver bX c1⟩
        clear hK K h3 bX
        try simp only [List.getElem_toArray, List.getElem_cons_succ, List.getElem_cons_zero, Act.put, List.setIfInBounds_toArray, List.set_cons_zero, List.set_cons_succ]
        refine wpAnyH_take (i := 9) (v := ?_) rfl (by kernel_rfl) (by kernel_rfl) (by kernel_rfl) (fun _ _ _ h => h) (Or.inl ⟨by rfl, ?_⟩) h4 ?_
        rotate_left
        · (intro w hSw; (try dsimp only at hSw); go_simp); all_goals (with_reducible rfl)
        try simp only [List.getElem_toArray, List.getElem_cons_succ, List.getElem_cons_zero, Act.put, List.setIfInBounds_toArray, List.set_cons_zero, List.set_cons_succ]
        refine wpAnyH_done (by kernel_rfl) ?_ _
        clear h4
        go_wp2_with fail
        go_meet
        exact ⟨_, rfl, rfl, by rw [Joins.cell_of_block HF.out]; rfl, by rw [Joins.cell_of_block HF.out]; rfl, bF⟩
    · skip
      go_simp
      have HG := Lib.hid (show (W1.alloc (.cells #[.nilFunc, .nilFunc, .nilFunc] 131)).heap[W1.heap.size]? = some (.cells #[.nilFunc, .nilFunc, .nilFunc] 131 (0, 0)) from heap_alloc_new W1 (.cells #[.nilFunc, .nilFunc, .nilFunc] 131))
      have hgc : W1.heap.size ≤ W1.heap.size := Nat.le_refl _
      have bX := (below_alloc W1 (.cells #[.nilFunc, .nilFunc, .nilFunc] 131)).drew
      refine hK.out _ _ ?_ (fun h1 => ?_)
      · exact ⟨bX, cellOver bX c1⟩
      clear hK K h0 bX
      try simp only [List.getElem_toArray, List.getElem_cons_succ, List.getElem_cons_zero, Act.put, List.setIfInBounds_toArray, List.set_cons_zero, List.set_cons_succ]
      refine wpAnyH_ready (rs := [0]) (by kernel_rfl) (by simp) ?_
      refine AllReadyH.cons rfl (fun K hK => ?_) AllReadyH.nil
      go_simp
      go_at_call 104
      refine (kinds_at _).mono ?_
      rintro e w1 ⟨gm, rfl, hm, -, -, -, -, -, -, bq⟩
      go_wp2_with fail
      have bX := bel2 h1.1 bq
      have HM := Lib.hid hm
      replace HG := Lib.hid (blockOver bq HG.out)
      refine hK.out _ _ ?_ (fun h2 => ?_)
      · exact ⟨bX, cellOver bX c1⟩
      clear hK K h1 bX bq hm
      try simp only [List.getElem_toArray, List.getElem_cons_succ, List.getElem_cons_zero, Act.put, List.setIfInBounds_toArray, List.set_cons_zero, List.set_cons_succ]
      refine wpAnyH_ready (rs := [3]) (by kernel_rfl) (by simp) ?_
      refine AllReadyH.cons rfl (fun K hK => ?_) AllReadyH.nil
      have lk := LK.out gm w1 HM.out
      go_simp
      have bX := h2.1
      refine hK.out _ _ ?_ (fun h3 => ?_)
      · exact ⟨bX, cellOver bX c1⟩
      clear hK K h2 bX lk
      try simp only [List.getElem_toArray, List.getElem_cons_succ, List.getElem_cons_zero, Act.put, List.setIfInBounds_toArray, List.set_cons_zero, List.set_cons_succ]
      refine wpAnyH_take (i := 4) (v := ?_) rfl (by kernel_rfl) (by kernel_rfl) (by kernel_rfl) (fun _ _ _ h => h) (Or.inl ⟨by rfl, ?_⟩) h3 ?_
      rotate_left
      · (intro w hSw; (try dsimp only at hSw); go_simp); all_goals (with_reducible rfl)
      try simp only [List.getElem_toArray, List.getElem_cons_succ, List.getElem_cons_zero, Act.put, List.setIfInBounds_toArray, List.set_cons_zero, List.set_cons_succ]
      refine wpAnyH_take (i := 5) (v := ?_) rfl (by kernel_rfl) (by kernel_rfl) (by kernel_rfl) (fun _ _ _ h => h) (Or.inl ⟨by rfl, ?_⟩) h3 ?_
      rotate_left
      · (intro w hSw; (try dsimp only at hSw); go_simp); all_goals (with_reducible rfl)
      try simp only [List.getElem_toArray, List.getElem_cons_succ, List.getElem_cons_zero, Act.put, List.setIfInBounds_toArray, List.set_cons_zero, List.set_cons_succ]
      refine wpAnyH_take (i := 6) (v := ?_) rfl (by kernel_rfl) (by kernel_rfl) (by kernel_rfl) (fun _ _ _ h => h) (Or.inl ⟨by rfl, ?_⟩) h3 ?_
      rotate_left
      · (intro w hSw; (try dsimp only at hSw); go_simp); all_goals (with_reducible rfl)
      try simp only [List.getElem_toArray, List.getElem_cons_succ, List.getElem_cons_zero, Act.put, List.setIfInBounds_toArray, List.set_cons_zero, List.set_cons_succ]
      refine wpAnyH_ready (rs := [8]) (by kernel_rfl) (by simp) ?_
      refine AllReadyH.cons rfl (fun K hK => ?_) AllReadyH.nil
      obtain ⟨z0q, z1q, z2q⟩ := cells3 HG.out
      have f0 := Joins.unfrozen_of_block HG.out 0
      have f1 := Joins.unfrozen_of_block HG.out 1
      have f2 := Joins.unfrozen_of_block HG.out 2
      go_simp
      have hfin : (((w1.setCell ⟨W1.heap.size, 0, none⟩ (.func (.func 112) #[] #[])).setCell ⟨W1.heap.size, 1, none⟩ (.func (.func 113) #[] #[])).setCell ⟨W1.heap.size, 2, none⟩ (.func (.func nZ) #[] (cp gm))).heap[W1.heap.size]? = some (.cells #[(.func (.func 112) #[] #[]), (.func (.func 113) #[] #[]), (.func (.func nZ) #[] (cp gm))] 131 (0, 0)) := Joins.block_setCell (Joins.block_setCell (Joins.block_setCell HG.out _) _) _
      have bX := ((h3.1.setCell (p := ⟨W1.heap.size, 0, none⟩) hgc (.func (.func 112) #[] #[])).setCell (p := ⟨W1.heap.size, 1, none⟩) hgc (.func (.func 113) #[] #[])).setCell (p := ⟨W1.heap.size, 2, none⟩) hgc (.func (.func nZ) #[] (cp gm))
      have bF := bX
      have HF := Lib.hid hfin
      clear hfin z0q z1q z2q f0 f1 f2
      refine hK.out _ _ ?_ (fun h4 => ?_)
      · exact ⟨bX, cellOver bX c1⟩
      clear hK K h3 bX
      try simp only [List.getElem_toArray, List.getElem_cons_succ, List.getElem_cons_zero, Act.put, List.setIfInBounds_toArray, List.set_cons_zero, List.set_cons_succ]
      refine wpAnyH_take (i := 9) (v := ?_) rfl (by kernel_rfl) (by kernel_rfl) (by kernel_rfl) (fun _ _ _ h => h) (Or.inl ⟨by rfl, ?_⟩) h4 ?_
      rotate_left
      · (intro w hSw; (try dsimp only at hSw); go_simp); all_goals (with_reducible rfl)
      try simp only [List.getElem_toArray, List.getElem_cons_succ, List.getElem_cons_zero, Act.put, List.setIfInBounds_toArray, List.set_cons_zero, List.set_cons_succ]
      refine wpAnyH_done (by kernel_rfl) ?_ _
      clear h4
      go_wp2_with fail
      go_meet
      exact ⟨_, rfl, rfl, by rw [Joins.cell_of_block HF.out]; rfl, by rw [Joins.cell_of_block HF.out]; rfl, bF⟩
  case rest =>
    obtain ⟨gp, rfl, rfl, p0, p1, bw⟩ := hcut
    have b0 : Below w.heap.size w wc := bel2 B0 bw
    have c0 := cellOver bw (show W1.cell? ⟨g0, 0, none⟩ = some (.int .i64 id) by rw [Joins.cell_of_block HB.out]; rfl)
    have c2 := cellOver bw (show W1.cell? ⟨g0, 2, none⟩ = some (.string s) by rw [Joins.cell_of_block HB.out]; rfl)
    have c3 := cellOver bw (show W1.cell? ⟨g0, 3, none⟩ = some (.int .i64 st) by rw [Joins.cell_of_block HB.out]; rfl)
    have c4 := cellOver bw (show W1.cell? ⟨g0, 4, none⟩ = some (.int .i64 rf) by rw [Joins.cell_of_block HB.out]; rfl)
    have c5 := cellOver bw (show W1.cell? ⟨g0, 5, none⟩ = some (.int .i64 u) by rw [Joins.cell_of_block HB.out]; rfl)
    have c6 := cellOver bw (show W1.cell? ⟨g0, 6, none⟩ = some (.slice a n c) by rw [Joins.cell_of_block HB.out]; rfl)
    have c7 := cellOver bw (show W1.cell? ⟨g0, 7, none⟩ = some (.int .i64 ap) by rw [Joins.cell_of_block HB.out]; rfl)
    have c8 := cellOver bw (show W1.cell? ⟨g0, 8, none⟩ = some (.int .i64 d) by rw [Joins.cell_of_block HB.out]; rfl)
    have HB0 := Lib.hid b0
    clear HB LK B0 bw b0 hg1
    cases bI
    · go_wp2_with fail
      refine (KI.out _).mono ?_
      rintro e w' ⟨rfl, rfl⟩
      go_wp2
      go_ret
      exact ⟨ret_bool rfl, HB0.out⟩
    · cases bT
      · go_wp2_with fail
        refine (KI.out _).mono ?_
        rintro e w' ⟨rfl, rfl⟩
        go_wp2_with fail
        refine (KT.out _).mono ?_
        rintro e w' ⟨rfl, rfl⟩
        go_wp2
        go_ret
        exact ⟨ret_bool rfl, HB0.out⟩
      · cases bS
        · go_wp2_with fail
          refine (KI.out _).mono ?_
          rintro e w' ⟨rfl, rfl⟩
          go_wp2_with fail
          refine (KT.out _).mono ?_
          rintro e w' ⟨rfl, rfl⟩
          go_wp2_with fail
          refine (KS.out _).mono ?_
          rintro e w' ⟨rfl, rfl⟩
          go_wp2
          go_ret
          exact ⟨ret_bool rfl, HB0.out⟩
        · go_wp2_with fail
          refine (KI.out _).mono ?_
          rintro e w' ⟨rfl, rfl⟩
          go_wp2_with fail
          refine (KT.out _).mono ?_
          rintro e w' ⟨rfl, rfl⟩
          go_wp2_with fail
          refine (KS.out _).mono ?_
          rintro e w' ⟨rfl, rfl⟩
          go_wp2_with fail
          refine (KL.out _ HB0.out).mono ?_
          rintro e w' ⟨rfl, bq⟩
          go_wp2
          go_ret
          exact ⟨ret_bool (by simp), bel2 HB0.out bq⟩
set_option maxHeartbeats 4000000 in
theorem bvalid_walk69 (id kd st rf u ap d : Int) (s : ByteArray) (a : Option Addr) (n c : Nat) (w : World) (nZ : Nat) (cp : Nat → Array Value) (bK bI bT bS bL : Bool)
    (hk : ∀ g, kindV g kd = .agg #[.func (.func 115) #[] #[], .func (.func 109) #[] #[], .func (.func nZ) #[] (cp g)]) (hb : inB kd 1 5 = true)
    (KI : Hid (∀ W : World, Calls Tryz.prog 105 #[.int .i64 id, .int .i64 1, .int .i64 1000] W fun e w' => e = .returned (.bool bI) ∧ W = w'))
    (KT : Hid (∀ W : World, Calls Tryz.prog 115 #[.string s] W fun e w' => e = .returned (.bool bT) ∧ W = w'))
    (KS : Hid (∀ W : World, Calls Tryz.prog 109 #[.int .i64 st, .int .i64 rf] W fun e w' => e = .returned (.bool bS) ∧ W = w'))
    (KL : Hid (∀ W : World, Below w.heap.size w W → Calls Tryz.prog 41 #[.agg #[.int .i64 u, .slice a n c, .int .i64 ap, .int .i64 d]] W fun e w' => e = .returned (.bool bL) ∧ Below W.heap.size W w')) :
    Calls Tryz.prog 102 #[.agg #[.int .i64 id, .int .i64 kd, .string s, .int .i64 st, .int .i64 rf, .int .i64 u, .slice a n c, .int .i64 ap, .int .i64 d]] w fun e w' => e = .returned (.bool (bI && (bT && (bS && bL)))) ∧ Below w.heap.size w w' := by
  have LK : Hid (∀ (g : Nat) (W : World), W.heap[g]? = some (kM g 5) → (Instr.lookup 133 (.map (some g)) (.int .i64 kd) true).run Tryz.prog W = .ok (.tuple #[.agg #[.func (.func 115) #[] #[], .func (.func 109) #[] #[], .func (.func nZ) #[] (cp g)], .bool true]) W) := Lib.hid (fun g W hg => by
    rw [look_any g kd W hg, hk g, hb])
  clear hk hb
  have B0 : Below w.heap.size w (w.alloc (.cells #[.int .i64 id, .int .i64 kd, .string s, .int .i64 st, .int .i64 rf, .int .i64 u, .slice a n c, .int .i64 ap, .int .i64 d] 49)) := below_alloc _ _
  go_enter Tryz.func102, Tryz.ntmps102
  go_wp2_with fail
  have HB := Lib.hid (heap_alloc_new w (.cells #[.int .i64 id, .int .i64 kd, .string s, .int .i64 st, .int .i64 rf, .int .i64 u, .slice a n c, .int .i64 ap, .int .i64 d] 49))
  obtain ⟨W1, hW1⟩ : ∃ W1, w.alloc (.cells #[.int .i64 id, .int .i64 kd, .string s, .int .i64 st, .int .i64 rf, .int .i64 u, .slice a n c, .int .i64 ap, .int .i64 d] 49) = W1 := ⟨_, rfl⟩
  rw [hW1] at B0 HB ⊢
  obtain ⟨g0, hg0⟩ : ∃ g0, g0 = w.heap.size := ⟨_, rfl⟩
  rw [← hg0] at HB ⊢
  clear hW1 hg0
  have hg1 : g0 < W1.heap.size := (Array.getElem?_eq_some_iff.1 HB.out).1
  go_cut [3, 4] from 5 to 11 (fun p q wr => ∃ gp, p = .pointer (some ⟨gp, 0, none⟩) ∧ q = .bool true ∧ wr.cell? ⟨gp, 0, none⟩ = some (.func (.func 115) #[] #[]) ∧ wr.cell? ⟨gp, 1, none⟩ = some (.func (.func 109) #[] #[]) ∧ Below W1.heap.size W1 wr)
  case first =>
    have bc := Below.refl W1.heap.size W1
    have c1 : W1.cell? ⟨g0, 1, none⟩ = some (.int .i64 kd) := by rw [Joins.cell_of_block HB.out]; rfl
    refine wp_region_held_drew (S := fun w' => Below W1.heap.size W1 w' ∧ w'.cell? ⟨g0, 1, none⟩ = some (.int .i64 kd)) (by kernel_rfl) ?_ (fun h0 => ?_)
    · exact ⟨bc.drew, c1⟩
    refine wpAnyH_take (i := 1) (v := ?_) rfl (by kernel_rfl) (by kernel_rfl) (by kernel_rfl) (fun _ _ _ h => h) (Or.inl ⟨by rfl, ?_⟩) h0 ?_
    rotate_left
    · (intro w hSw; (try dsimp only at hSw); go_simp); all_goals (with_reducible rfl)
    try simp only [List.getElem_toArray, List.getElem_cons_succ, List.getElem_cons_zero, Act.put, List.setIfInBounds_toArray, List.set_cons_zero, List.set_cons_succ]
    refine wpAnyH_take (i := 2) (v := ?_) rfl (by kernel_rfl) (by kernel_rfl) (by kernel_rfl) (fun _ _ _ h => h) (Or.inl ⟨by rfl, ?_⟩) h0 ?_
    rotate_left
    · (intro w hSw; (try dsimp only at hSw); go_simp); all_goals (with_reducible rfl)
    try simp only [List.getElem_toArray, List.getElem_cons_succ, List.getElem_cons_zero, Act.put, List.setIfInBounds_toArray, List.set_cons_zero, List.set_cons_succ]
    refine wpAnyH_ready (rs := [0, 7]) (by kernel_rfl) (by simp) ?_
    refine AllReadyH.cons rfl (fun K hK => ?_) (AllReadyH.cons rfl (fun K hK => ?_) AllReadyH.nil)
    · skip
      go_simp
      go_at_call 104
      refine (kinds_at _).mono ?_
      rintro e w1 ⟨gm, rfl, hm, -, -, -, -, -, -, bq⟩
      go_wp2_with fail
      have bX := bel2 h0.1 bq
      have HM := Lib.hid hm
      refine hK.out _ _ ?_ (fun h1 => ?_)
      · exact ⟨bX, cellOver bX c1⟩
      clear hK K h0 bX bq hm
      try simp only [List.getElem_toArray, List.getElem_cons_succ, List.getElem_cons_zero, Act.put, List.setIfInBounds_toArray, List.set_cons_zero, List.set_cons_succ]
      refine wpAnyH_ready (rs := [3, 7]) (by kernel_rfl) (by simp) ?_
      refine AllReadyH.cons rfl (fun K hK => ?_) (AllReadyH.cons rfl (fun K hK => ?_) AllReadyH.nil)
      · skip
        have lk := LK.out gm w1 HM.out
        go_simp
        have bX := h1.1
        refine hK.out _ _ ?_ (fun h2 => ?_)
        · exact ⟨bX, cellOver bX c1⟩
        clear hK K h1 bX lk
        try simp only [List.getElem_toArray, List.getElem_cons_succ, List.getElem_cons_zero, Act.put, List.setIfInBounds_toArray, List.set_cons_zero, List.set_cons_succ]
        refine wpAnyH_take (i := 4) (v := ?_) rfl (by kernel_rfl) (by kernel_rfl) (by kernel_rfl) (fun _ _ _ h => h) (Or.inl ⟨by rfl, ?_⟩) h2 ?_
        rotate_left
        · (intro w hSw; (try dsimp only at hSw); go_simp); all_goals (with_reducible rfl)
        try simp only [List.getElem_toArray, List.getElem_cons_succ, List.getElem_cons_zero, Act.put, List.setIfInBounds_toArray, List.set_cons_zero, List.set_cons_succ]
        refine wpAnyH_take (i := 5) (v := ?_) rfl (by kernel_rfl) (by kernel_rfl) (by kernel_rfl) (fun _ _ _ h => h) (Or.inl ⟨by rfl, ?_⟩) h2 ?_
        rotate_left
        · (intro w hSw; (try dsimp only at hSw); go_simp); all_goals (with_reducible rfl)
        try simp only [List.getElem_toArray, List.getElem_cons_succ, List.getElem_cons_zero, Act.put, List.setIfInBounds_toArray, List.set_cons_zero, List.set_cons_succ]
        refine wpAnyH_take (i := 6) (v := ?_) rfl (by kernel_rfl) (by kernel_rfl) (by kernel_rfl) (fun _ _ _ h => h) (Or.inl ⟨by rfl, ?_⟩) h2 ?_
        rotate_left
        · (intro w hSw; (try dsimp only at hSw); go_simp); all_goals (with_reducible rfl)
        try simp only [List.getElem_toArray, List.getElem_cons_succ, List.getElem_cons_zero, Act.put, List.setIfInBounds_toArray, List.set_cons_zero, List.set_cons_succ]
        refine wpAnyH_ready (rs := [7]) (by kernel_rfl) (by simp) ?_
        refine AllReadyH.cons rfl (fun K hK => ?_) AllReadyH.nil
        go_simp
        obtain ⟨gg, hgg⟩ : ∃ gg, w1.heap.size = gg := ⟨_, rfl⟩
        have HG := Lib.hid (show (w1.alloc (.cells #[.nilFunc, .nilFunc, .nilFunc] 131)).heap[gg]? = some (.cells #[.nilFunc, .nilFunc, .nilFunc] 131 (0, 0)) from hgg ▸ heap_alloc_new w1 (.cells #[.nilFunc, .nilFunc, .nilFunc] 131))
        have hgc : W1.heap.size ≤ gg := by rw [← hgg]; exact h2.1.size
        have bX := bel2 h2.1 (below_alloc w1 (.cells #[.nilFunc, .nilFunc, .nilFunc] 131))
        replace HM := Lib.hid (blockOver (below_alloc w1 (.cells #[.nilFunc, .nilFunc, .nilFunc] 131)) HM.out)
        try rw [hgg]
        refine hK.out _ _ ?_ (fun h3 => ?_)
        · exact ⟨bX, cellOver bX c1⟩
        clear hK K h2 bX
        try simp only [List.getElem_toArray, List.getElem_cons_succ, List.getElem_cons_zero, Act.put, List.setIfInBounds_toArray, List.set_cons_zero, List.set_cons_succ]
        try rw [hgg]
        clear hgg
        refine wpAnyH_ready (rs := [8]) (by kernel_rfl) (by simp) ?_
        refine AllReadyH.cons rfl (fun K hK => ?_) AllReadyH.nil
        obtain ⟨z0q, z1q, z2q⟩ := cells3 HG.out
        have f0 := Joins.unfrozen_of_block HG.out 0
        have f1 := Joins.unfrozen_of_block HG.out 1
        have f2 := Joins.unfrozen_of_block HG.out 2
        go_simp
        have hfin : ((((w1.alloc (.cells #[.nilFunc, .nilFunc, .nilFunc] 131)).setCell ⟨gg, 0, none⟩ (.func (.func 115) #[] #[])).setCell ⟨gg, 1, none⟩ (.func (.func 109) #[] #[])).setCell ⟨gg, 2, none⟩ (.func (.func nZ) #[] (cp gm))).heap[gg]? = some (.cells #[(.func (.func 115) #[] #[]), (.func (.func 109) #[] #[]), (.func (.func nZ) #[] (cp gm))] 131 (0, 0)) := Joins.block_setCell (Joins.block_setCell (Joins.block_setCell HG.out _) _) _
        have bX := ((h3.1.setCell (p := ⟨gg, 0, none⟩) hgc (.func (.func 115) #[] #[])).setCell (p := ⟨gg, 1, none⟩) hgc (.func (.func 109) #[] #[])).setCell (p := ⟨gg, 2, none⟩) hgc (.func (.func nZ) #[] (cp gm))
        have bF := bX
        have HF := Lib.hid hfin
        clear hfin z0q z1q z2q f0 f1 f2
        refine hK.out _ _ ?_ (fun h4 => ?_)
        · exact ⟨bX, cellOver bX c1⟩
        clear hK K h3 bX
        try simp only [List.getElem_toArray, List.getElem_cons_succ, List.getElem_cons_zero, Act.put, List.setIfInBounds_toArray, List.set_cons_zero, List.set_cons_succ]
        refine wpAnyH_take (i := 9) (v := ?_) rfl (by kernel_rfl) (by kernel_rfl) (by kernel_rfl) (fun _ _ _ h => h) (Or.inl ⟨by rfl, ?_⟩) h4 ?_
        rotate_left
        · (intro w hSw; (try dsimp only at hSw); go_simp); all_goals (with_reducible rfl)
        try simp only [List.getElem_toArray, List.getElem_cons_succ, List.getElem_cons_zero, Act.put, List.setIfInBounds_toArray, List.set_cons_zero, List.set_cons_succ]
        refine wpAnyH_done (by kernel_rfl) ?_ _
        clear h4
        go_wp2_with fail
        go_meet
        exact ⟨_, rfl, rfl, by rw [Joins.cell_of_block HF.out]; rfl, by rw [Joins.cell_of_block HF.out]; rfl, bF⟩
      · skip
        go_simp
        obtain ⟨gg, hgg⟩ : ∃ gg, w1.heap.size = gg := ⟨_, rfl⟩
        have HG := Lib.hid (show (w1.alloc (.cells #[.nilFunc, .nilFunc, .nilFunc] 131)).heap[gg]? = some (.cells #[.nilFunc, .nilFunc, .nilFunc] 131 (0, 0)) from hgg ▸ heap_alloc_new w1 (.cells #[.nilFunc, .nilFunc, .nilFunc] 131))
        have hgc : W1.heap.size ≤ gg := by rw [← hgg]; exact h1.1.size
        have bX := bel2 h1.1 (below_alloc w1 (.cells #[.nilFunc, .nilFunc, .nilFunc] 131))
        replace HM := Lib.hid (blockOver (below_alloc w1 (.cells #[.nilFunc, .nilFunc, .nilFunc] 131)) HM.out)
        try rw [hgg]
        refine hK.out _ _ ?_ (fun h2 => ?_)
        · exact ⟨bX, cellOver bX c1⟩
        clear hK K h1 bX
        try simp only [List.getElem_toArray, List.getElem_cons_succ, List.getElem_cons_zero, Act.put, List.setIfInBounds_toArray, List.set_cons_zero, List.set_cons_succ]
        try rw [hgg]
        clear hgg
        refine wpAnyH_ready (rs := [3]) (by kernel_rfl) (by simp) ?_
        refine AllReadyH.cons rfl (fun K hK => ?_) AllReadyH.nil
        have lk := LK.out gm (w1.alloc (.cells #[.nilFunc, .nilFunc, .nilFunc] 131)) HM.out
        go_simp
        have bX := h2.1
        refine hK.out _ _ ?_ (fun h3 => ?_)
        · exact ⟨bX, cellOver bX c1⟩
        clear hK K h2 bX lk
        try simp only [List.getElem_toArray, List.getElem_cons_succ, List.getElem_cons_zero, Act.put, List.setIfInBounds_toArray, List.set_cons_zero, List.set_cons_succ]
        refine wpAnyH_take (i := 4) (v := ?_) rfl (by kernel_rfl) (by kernel_rfl) (by kernel_rfl) (fun _ _ _ h => h) (Or.inl ⟨by rfl, ?_⟩) h3 ?_
        rotate_left
        · (intro w hSw; (try dsimp only at hSw); go_simp); all_goals (with_reducible rfl)
        try simp only [List.getElem_toArray, List.getElem_cons_succ, List.getElem_cons_zero, Act.put, List.setIfInBounds_toArray, List.set_cons_zero, List.set_cons_succ]
        refine wpAnyH_take (i := 5) (v := ?_) rfl (by kernel_rfl) (by kernel_rfl) (by kernel_rfl) (fun _ _ _ h => h) (Or.inl ⟨by rfl, ?_⟩) h3 ?_
        rotate_left
        · (intro w hSw; (try dsimp only at hSw); go_simp); all_goals (with_reducible rfl)
        try simp only [List.getElem_toArray, List.getElem_cons_succ, List.getElem_cons_zero, Act.put, List.setIfInBounds_toArray, List.set_cons_zero, List.set_cons_succ]
        refine wpAnyH_take (i := 6) (v := ?_) rfl (by kernel_rfl) (by kernel_rfl) (by kernel_rfl) (fun _ _ _ h => h) (Or.inl ⟨by rfl, ?_⟩) h3 ?_
        rotate_left
        · (intro w hSw; (try dsimp only at hSw); go_simp); all_goals (with_reducible rfl)
        try simp only [List.getElem_toArray, List.getElem_cons_succ, List.getElem_cons_zero, Act.put, List.setIfInBounds_toArray, List.set_cons_zero, List.set_cons_succ]
        refine wpAnyH_ready (rs := [8]) (by kernel_rfl) (by simp) ?_
        refine AllReadyH.cons rfl (fun K hK => ?_) AllReadyH.nil
        obtain ⟨z0q, z1q, z2q⟩ := cells3 HG.out
        have f0 := Joins.unfrozen_of_block HG.out 0
        have f1 := Joins.unfrozen_of_block HG.out 1
        have f2 := Joins.unfrozen_of_block HG.out 2
        go_simp
        have hfin : ((((w1.alloc (.cells #[.nilFunc, .nilFunc, .nilFunc] 131)).setCell ⟨gg, 0, none⟩ (.func (.func 115) #[] #[])).setCell ⟨gg, 1, none⟩ (.func (.func 109) #[] #[])).setCell ⟨gg, 2, none⟩ (.func (.func nZ) #[] (cp gm))).heap[gg]? = some (.cells #[(.func (.func 115) #[] #[]), (.func (.func 109) #[] #[]), (.func (.func nZ) #[] (cp gm))] 131 (0, 0)) := Joins.block_setCell (Joins.block_setCell (Joins.block_setCell HG.out _) _) _
        have bX := ((h3.1.setCell (p := ⟨gg, 0, none⟩) hgc (.func (.func 115) #[] #[])).setCell (p := ⟨gg, 1, none⟩) hgc (.func (.func 109) #[] #[])).setCell (p := ⟨gg, 2, none⟩) hgc (.func (.func nZ) #[] (cp gm))
        have bF := bX
        have HF := Lib.hid hfin
        clear hfin z0q z1q z2q f0 f1 f2
        refine hK.out _ _ ?_ (fun h4 => ?_)
        · exact ⟨bX, cellOver bX c1⟩
        clear hK K h3 bX
        try simp only [List.getElem_toArray, List.getElem_cons_succ, List.getElem_cons_zero, Act.put, List.setIfInBounds_toArray, List.set_cons_zero, List.set_cons_succ]
        refine wpAnyH_take (i := 9) (v := ?_) rfl (by kernel_rfl) (by kernel_rfl) (by kernel_rfl) (fun _ _ _ h => h) (Or.inl ⟨by rfl, ?_⟩) h4 ?_
        rotate_left
        · (intro w hSw; (try dsimp only at hSw); go_simp); all_goals (with_reducible rfl)
        try simp only [List.getElem_toArray, List.getElem_cons_succ, List.getElem_cons_zero, Act.put, List.setIfInBounds_toArray, List.set_cons_zero, List.set_cons_succ]
        refine wpAnyH_done (by kernel_rfl) ?_ _
        clear h4
        go_wp2_with fail
        go_meet
        exact ⟨_, rfl, rfl, by rw [Joins.cell_of_block HF.out]; rfl, by rw [Joins.cell_of_block HF.out]; rfl, bF⟩
    · skip
      go_simp
      have HG := Lib.hid (show (W1.alloc (.cells #[.nilFunc, .nilFunc, .nilFunc] 131)).heap[W1.heap.size]? = some (.cells #[.nilFunc, .nilFunc, .nilFunc] 131 (0, 0)) from heap_alloc_new W1 (.cells #[.nilFunc, .nilFunc, .nilFunc] 131))
      have hgc : W1.heap.size ≤ W1.heap.size := Nat.le_refl _
      have bX := (below_alloc W1 (.cells #[.nilFunc, .nilFunc, .nilFunc] 131)).drew
      refine hK.out _ _ ?_ (fun h1 => ?_)
      · exact ⟨bX, cellOver bX c1⟩
      clear hK K h0 bX
      try simp only [List.getElem_toArray, List.getElem_cons_succ, List.getElem_cons_zero, Act.put, List.setIfInBounds_toArray, List.set_cons_zero, List.set_cons_succ]
      refine wpAnyH_ready (rs := [0]) (by kernel_rfl) (by simp) ?_
      refine AllReadyH.cons rfl (fun K hK => ?_) AllReadyH.nil
      go_simp
      go_at_call 104
      refine (kinds_at _).mono ?_
      rintro e w1 ⟨gm, rfl, hm, -, -, -, -, -, -, bq⟩
      go_wp2_with fail
      have bX := bel2 h1.1 bq
      have HM := Lib.hid hm
      replace HG := Lib.hid (blockOver bq HG.out)
      refine hK.out _ _ ?_ (fun h2 => ?_)
      · exact ⟨bX, cellOver bX c1⟩
      clear hK K h1 bX bq hm
      try simp only [List.getElem_toArray, List.getElem_cons_succ, List.getElem_cons_zero, Act.put, List.setIfInBounds_toArray, List.set_cons_zero, List.set_cons_succ]
      refine wpAnyH_ready (rs := [3]) (by kernel_rfl) (by simp) ?_
      refine AllReadyH.cons rfl (fun K hK => ?_) AllReadyH.nil
      have lk := LK.out gm w1 HM.out
      go_simp
      have bX := h2.1
      refine hK.out _ _ ?_ (fun h3 => ?_)
      · exact ⟨bX, cellOver bX c1⟩
      clear hK K h2 bX lk
      try simp only [List.getElem_toArray, List.getElem_cons_succ, List.getElem_cons_zero, Act.put, List.setIfInBounds_toArray, List.set_cons_zero, List.set_cons_succ]
      refine wpAnyH_take (i := 4) (v := ?_) rfl (by kernel_rfl) (by kernel_rfl) (by kernel_rfl) (fun _ _ _ h => h) (Or.inl ⟨by rfl, ?_⟩) h3 ?_
      rotate_left
      · (intro w hSw; (try dsimp only at hSw); go_simp); all_goals (with_reducible rfl)
      try simp only [List.getElem_toArray, List.getElem_cons_succ, List.getElem_cons_zero, Act.put, List.setIfInBounds_toArray, List.set_cons_zero, List.set_cons_succ]
      refine wpAnyH_take (i := 5) (v := ?_) rfl (by kernel_rfl) (by kernel_rfl) (by kernel_rfl) (fun _ _ _ h => h) (Or.inl ⟨by rfl, ?_⟩) h3 ?_
      rotate_left
      · (intro w hSw; (try dsimp only at hSw); go_simp); all_goals (with_reducible rfl)
      try simp only [List.getElem_toArray, List.getElem_cons_succ, List.getElem_cons_zero, Act.put, List.setIfInBounds_toArray, List.set_cons_zero, List.set_cons_succ]
      refine wpAnyH_take (i := 6) (v := ?_) rfl (by kernel_rfl) (by kernel_rfl) (by kernel_rfl) (fun _ _ _ h => h) (Or.inl ⟨by rfl, ?_⟩) h3 ?_
      rotate_left
      · (intro w hSw; (try dsimp only at hSw); go_simp); all_goals (with_reducible rfl)
      try simp only [List.getElem_toArray, List.getElem_cons_succ, List.getElem_cons_zero, Act.put, List.setIfInBounds_toArray, List.set_cons_zero, List.set_cons_succ]
      refine wpAnyH_ready (rs := [8]) (by kernel_rfl) (by simp) ?_
      refine AllReadyH.cons rfl (fun K hK => ?_) AllReadyH.nil
      obtain ⟨z0q, z1q, z2q⟩ := cells3 HG.out
      have f0 := Joins.unfrozen_of_block HG.out 0
      have f1 := Joins.unfrozen_of_block HG.out 1
      have f2 := Joins.unfrozen_of_block HG.out 2
      go_simp
      have hfin : (((w1.setCell ⟨W1.heap.size, 0, none⟩ (.func (.func 115) #[] #[])).setCell ⟨W1.heap.size, 1, none⟩ (.func (.func 109) #[] #[])).setCell ⟨W1.heap.size, 2, none⟩ (.func (.func nZ) #[] (cp gm))).heap[W1.heap.size]? = some (.cells #[(.func (.func 115) #[] #[]), (.func (.func 109) #[] #[]), (.func (.func nZ) #[] (cp gm))] 131 (0, 0)) := Joins.block_setCell (Joins.block_setCell (Joins.block_setCell HG.out _) _) _
      have bX := ((h3.1.setCell (p := ⟨W1.heap.size, 0, none⟩) hgc (.func (.func 115) #[] #[])).setCell (p := ⟨W1.heap.size, 1, none⟩) hgc (.func (.func 109) #[] #[])).setCell (p := ⟨W1.heap.size, 2, none⟩) hgc (.func (.func nZ) #[] (cp gm))
      have bF := bX
      have HF := Lib.hid hfin
      clear hfin z0q z1q z2q f0 f1 f2
      refine hK.out _ _ ?_ (fun h4 => ?_)
      · exact ⟨bX, cellOver bX c1⟩
      clear hK K h3 bX
      try simp only [List.getElem_toArray, List.getElem_cons_succ, List.getElem_cons_zero, Act.put, List.setIfInBounds_toArray, List.set_cons_zero, List.set_cons_succ]
      refine wpAnyH_take (i := 9) (v := ?_) rfl (by kernel_rfl) (by kernel_rfl) (by kernel_rfl) (fun _ _ _ h => h) (Or.inl ⟨by rfl, ?_⟩) h4 ?_
      rotate_left
      · (intro w hSw; (try dsimp only at hSw); go_simp); all_goals (with_reducible rfl)
      try simp only [List.getElem_toArray, List.getElem_cons_succ, List.getElem_cons_zero, Act.put, List.setIfInBounds_toArray, List.set_cons_zero, List.set_cons_succ]
      refine wpAnyH_done (by kernel_rfl) ?_ _
      clear h4
      go_wp2_with fail
      go_meet
      exact ⟨_, rfl, rfl, by rw [Joins.cell_of_block HF.out]; rfl, by rw [Joins.cell_of_block HF.out]; rfl, bF⟩
  case rest =>
    obtain ⟨gp, rfl, rfl, p0, p1, bw⟩ := hcut
    have b0 : Below w.heap.size w wc := bel2 B0 bw
    have c0 := cellOver bw (show W1.cell? ⟨g0, 0, none⟩ = some (.int .i64 id) by rw [Joins.cell_of_block HB.out]; rfl)
    have c2 := cellOver bw (show W1.cell? ⟨g0, 2, none⟩ = some (.string s) by rw [Joins.cell_of_block HB.out]; rfl)
    have c3 := cellOver bw (show W1.cell? ⟨g0, 3, none⟩ = some (.int .i64 st) by rw [Joins.cell_of_block HB.out]; rfl)
    have c4 := cellOver bw (show W1.cell? ⟨g0, 4, none⟩ = some (.int .i64 rf) by rw [Joins.cell_of_block HB.out]; rfl)
    have c5 := cellOver bw (show W1.cell? ⟨g0, 5, none⟩ = some (.int .i64 u) by rw [Joins.cell_of_block HB.out]; rfl)
    have c6 := cellOver bw (show W1.cell? ⟨g0, 6, none⟩ = some (.slice a n c) by rw [Joins.cell_of_block HB.out]; rfl)
    have c7 := cellOver bw (show W1.cell? ⟨g0, 7, none⟩ = some (.int .i64 ap) by rw [Joins.cell_of_block HB.out]; rfl)
    have c8 := cellOver bw (show W1.cell? ⟨g0, 8, none⟩ = some (.int .i64 d) by rw [Joins.cell_of_block HB.out]; rfl)
    have HB0 := Lib.hid b0
    clear HB LK B0 bw b0 hg1
    cases bI
    · go_wp2_with fail
      refine (KI.out _).mono ?_
      rintro e w' ⟨rfl, rfl⟩
      go_wp2
      go_ret
      exact ⟨ret_bool rfl, HB0.out⟩
    · cases bT
      · go_wp2_with fail
        refine (KI.out _).mono ?_
        rintro e w' ⟨rfl, rfl⟩
        go_wp2_with fail
        refine (KT.out _).mono ?_
        rintro e w' ⟨rfl, rfl⟩
        go_wp2
        go_ret
        exact ⟨ret_bool rfl, HB0.out⟩
      · cases bS
        · go_wp2_with fail
          refine (KI.out _).mono ?_
          rintro e w' ⟨rfl, rfl⟩
          go_wp2_with fail
          refine (KT.out _).mono ?_
          rintro e w' ⟨rfl, rfl⟩
          go_wp2_with fail
          refine (KS.out _).mono ?_
          rintro e w' ⟨rfl, rfl⟩
          go_wp2
          go_ret
          exact ⟨ret_bool rfl, HB0.out⟩
        · go_wp2_with fail
          refine (KI.out _).mono ?_
          rintro e w' ⟨rfl, rfl⟩
          go_wp2_with fail
          refine (KT.out _).mono ?_
          rintro e w' ⟨rfl, rfl⟩
          go_wp2_with fail
          refine (KS.out _).mono ?_
          rintro e w' ⟨rfl, rfl⟩
          go_wp2_with fail
          refine (KL.out _ HB0.out).mono ?_
          rintro e w' ⟨rfl, bq⟩
          go_wp2
          go_ret
          exact ⟨ret_bool (by simp), bel2 HB0.out bq⟩

set_option maxHeartbeats 4000000 in
theorem bvalid_none (id kd st rf u ap d : Int) (s : ByteArray) (a : Option Addr) (n c : Nat) (w : World)
    (hk : ∀ g, kindV g kd = .agg #[.nilFunc, .nilFunc, .nilFunc]) (hb : inB kd 1 5 = false) :
    Calls Tryz.prog 102 #[.agg #[.int .i64 id, .int .i64 kd, .string s, .int .i64 st, .int .i64 rf, .int .i64 u, .slice a n c, .int .i64 ap, .int .i64 d]] w fun e w' => e = .returned (.bool false) ∧ Below w.heap.size w w' := by
  have LK : Hid (∀ (g : Nat) (W : World), W.heap[g]? = some (kM g 5) → (Instr.lookup 133 (.map (some g)) (.int .i64 kd) true).run Tryz.prog W = .ok (.tuple #[.agg #[.nilFunc, .nilFunc, .nilFunc], .bool false]) W) := Lib.hid (fun g W hg => by
    rw [look_any g kd W hg, hk g, hb])
  clear hk hb
  have B0 : Below w.heap.size w (w.alloc (.cells #[.int .i64 id, .int .i64 kd, .string s, .int .i64 st, .int .i64 rf, .int .i64 u, .slice a n c, .int .i64 ap, .int .i64 d] 49)) := below_alloc _ _
  go_enter Tryz.func102, Tryz.ntmps102
  go_wp2_with fail
  have HB := Lib.hid (heap_alloc_new w (.cells #[.int .i64 id, .int .i64 kd, .string s, .int .i64 st, .int .i64 rf, .int .i64 u, .slice a n c, .int .i64 ap, .int .i64 d] 49))
  obtain ⟨W1, hW1⟩ : ∃ W1, w.alloc (.cells #[.int .i64 id, .int .i64 kd, .string s, .int .i64 st, .int .i64 rf, .int .i64 u, .slice a n c, .int .i64 ap, .int .i64 d] 49) = W1 := ⟨_, rfl⟩
  rw [hW1] at B0 HB ⊢
  obtain ⟨g0, hg0⟩ : ∃ g0, g0 = w.heap.size := ⟨_, rfl⟩
  rw [← hg0] at HB ⊢
  clear hW1 hg0
  have hg1 : g0 < W1.heap.size := (Array.getElem?_eq_some_iff.1 HB.out).1
  go_cut [3, 4] from 5 to 11 (fun p q wr => ∃ gp, p = .pointer (some ⟨gp, 0, none⟩) ∧ q = .bool false ∧ wr.cell? ⟨gp, 0, none⟩ = some .nilFunc ∧ wr.cell? ⟨gp, 1, none⟩ = some .nilFunc ∧ Below W1.heap.size W1 wr)
  case first =>
    have bc := Below.refl W1.heap.size W1
    have c1 : W1.cell? ⟨g0, 1, none⟩ = some (.int .i64 kd) := by rw [Joins.cell_of_block HB.out]; rfl
    refine wp_region_held_drew (S := fun w' => Below W1.heap.size W1 w' ∧ w'.cell? ⟨g0, 1, none⟩ = some (.int .i64 kd)) (by kernel_rfl) ?_ (fun h0 => ?_)
    · exact ⟨bc.drew, c1⟩
    refine wpAnyH_take (i := 1) (v := ?_) rfl (by kernel_rfl) (by kernel_rfl) (by kernel_rfl) (fun _ _ _ h => h) (Or.inl ⟨by rfl, ?_⟩) h0 ?_
    rotate_left
    · (intro w hSw; (try dsimp only at hSw); go_simp); all_goals (with_reducible rfl)
    try simp only [List.getElem_toArray, List.getElem_cons_succ, List.getElem_cons_zero, Act.put, List.setIfInBounds_toArray, List.set_cons_zero, List.set_cons_succ]
    refine wpAnyH_take (i := 2) (v := ?_) rfl (by kernel_rfl) (by kernel_rfl) (by kernel_rfl) (fun _ _ _ h => h) (Or.inl ⟨by rfl, ?_⟩) h0 ?_
    rotate_left
    · (intro w hSw; (try dsimp only at hSw); go_simp); all_goals (with_reducible rfl)
    try simp only [List.getElem_toArray, List.getElem_cons_succ, List.getElem_cons_zero, Act.put, List.setIfInBounds_toArray, List.set_cons_zero, List.set_cons_succ]
    refine wpAnyH_ready (rs := [0, 7]) (by kernel_rfl) (by simp) ?_
    refine AllReadyH.cons rfl (fun K hK => ?_) (AllReadyH.cons rfl (fun K hK => ?_) AllReadyH.nil)
    · skip
      go_simp
      go_at_call 104
      refine (kinds_at _).mono ?_
      rintro e w1 ⟨gm, rfl, hm, -, -, -, -, -, -, bq⟩
      go_wp2_with fail
      have bX := bel2 h0.1 bq
      have HM := Lib.hid hm
      refine hK.out _ _ ?_ (fun h1 => ?_)
      · exact ⟨bX, cellOver bX c1⟩
      clear hK K h0 bX bq hm
      try simp only [List.getElem_toArray, List.getElem_cons_succ, List.getElem_cons_zero, Act.put, List.setIfInBounds_toArray, List.set_cons_zero, List.set_cons_succ]
      refine wpAnyH_ready (rs := [3, 7]) (by kernel_rfl) (by simp) ?_
      refine AllReadyH.cons rfl (fun K hK => ?_) (AllReadyH.cons rfl (fun K hK => ?_) AllReadyH.nil)
      · skip
        have lk := LK.out gm w1 HM.out
        go_simp
        have bX := h1.1
        refine hK.out _ _ ?_ (fun h2 => ?_)
        · exact ⟨bX, cellOver bX c1⟩
        clear hK K h1 bX lk
        try simp only [List.getElem_toArray, List.getElem_cons_succ, List.getElem_cons_zero, Act.put, List.setIfInBounds_toArray, List.set_cons_zero, List.set_cons_succ]
        refine wpAnyH_take (i := 4) (v := ?_) rfl (by kernel_rfl) (by kernel_rfl) (by kernel_rfl) (fun _ _ _ h => h) (Or.inl ⟨by rfl, ?_⟩) h2 ?_
        rotate_left
        · (intro w hSw; (try dsimp only at hSw); go_simp); all_goals (with_reducible rfl)
        try simp only [List.getElem_toArray, List.getElem_cons_succ, List.getElem_cons_zero, Act.put, List.setIfInBounds_toArray, List.set_cons_zero, List.set_cons_succ]
        refine wpAnyH_take (i := 5) (v := ?_) rfl (by kernel_rfl) (by kernel_rfl) (by kernel_rfl) (fun _ _ _ h => h) (Or.inl ⟨by rfl, ?_⟩) h2 ?_
        rotate_left
        · (intro w hSw; (try dsimp only at hSw); go_simp); all_goals (with_reducible rfl)
        try simp only [List.getElem_toArray, List.getElem_cons_succ, List.getElem_cons_zero, Act.put, List.setIfInBounds_toArray, List.set_cons_zero, List.set_cons_succ]
        refine wpAnyH_take (i := 6) (v := ?_) rfl (by kernel_rfl) (by kernel_rfl) (by kernel_rfl) (fun _ _ _ h => h) (Or.inl ⟨by rfl, ?_⟩) h2 ?_
        rotate_left
        · (intro w hSw; (try dsimp only at hSw); go_simp); all_goals (with_reducible rfl)
        try simp only [List.getElem_toArray, List.getElem_cons_succ, List.getElem_cons_zero, Act.put, List.setIfInBounds_toArray, List.set_cons_zero, List.set_cons_succ]
        refine wpAnyH_ready (rs := [7]) (by kernel_rfl) (by simp) ?_
        refine AllReadyH.cons rfl (fun K hK => ?_) AllReadyH.nil
        go_simp
        obtain ⟨gg, hgg⟩ : ∃ gg, w1.heap.size = gg := ⟨_, rfl⟩
        have HG := Lib.hid (show (w1.alloc (.cells #[.nilFunc, .nilFunc, .nilFunc] 131)).heap[gg]? = some (.cells #[.nilFunc, .nilFunc, .nilFunc] 131 (0, 0)) from hgg ▸ heap_alloc_new w1 (.cells #[.nilFunc, .nilFunc, .nilFunc] 131))
        have hgc : W1.heap.size ≤ gg := by rw [← hgg]; exact h2.1.size
        have bX := bel2 h2.1 (below_alloc w1 (.cells #[.nilFunc, .nilFunc, .nilFunc] 131))
        replace HM := Lib.hid (blockOver (below_alloc w1 (.cells #[.nilFunc, .nilFunc, .nilFunc] 131)) HM.out)
        try rw [hgg]
        refine hK.out _ _ ?_ (fun h3 => ?_)
        · exact ⟨bX, cellOver bX c1⟩
        clear hK K h2 bX
        try simp only [List.getElem_toArray, List.getElem_cons_succ, List.getElem_cons_zero, Act.put, List.setIfInBounds_toArray, List.set_cons_zero, List.set_cons_succ]
        try rw [hgg]
        clear hgg
        refine wpAnyH_ready (rs := [8]) (by kernel_rfl) (by simp) ?_
        refine AllReadyH.cons rfl (fun K hK => ?_) AllReadyH.nil
        obtain ⟨z0q, z1q, z2q⟩ := cells3 HG.out
        have f0 := Joins.unfrozen_of_block HG.out 0
        have f1 := Joins.unfrozen_of_block HG.out 1
        have f2 := Joins.unfrozen_of_block HG.out 2
        go_simp
        have hfin : ((((w1.alloc (.cells #[.nilFunc, .nilFunc, .nilFunc] 131)).setCell ⟨gg, 0, none⟩ .nilFunc).setCell ⟨gg, 1, none⟩ .nilFunc).setCell ⟨gg, 2, none⟩ .nilFunc).heap[gg]? = some (.cells #[.nilFunc, .nilFunc, .nilFunc] 131 (0, 0)) := Joins.block_setCell (Joins.block_setCell (Joins.block_setCell HG.out _) _) _
        have bX := ((h3.1.setCell (p := ⟨gg, 0, none⟩) hgc .nilFunc).setCell (p := ⟨gg, 1, none⟩) hgc .nilFunc).setCell (p := ⟨gg, 2, none⟩) hgc .nilFunc
        have bF := bX
        have HF := Lib.hid hfin
        clear hfin z0q z1q z2q f0 f1 f2
        refine hK.out _ _ ?_ (fun h4 => ?_)
        · exact ⟨bX, cellOver bX c1⟩
        clear hK K h3 bX
        try simp only [List.getElem_toArray, List.getElem_cons_succ, List.getElem_cons_zero, Act.put, List.setIfInBounds_toArray, List.set_cons_zero, List.set_cons_succ]
        refine wpAnyH_take (i := 9) (v := ?_) rfl (by kernel_rfl) (by kernel_rfl) (by kernel_rfl) (fun _ _ _ h => h) (Or.inl ⟨by rfl, ?_⟩) h4 ?_
        rotate_left
        · (intro w hSw; (try dsimp only at hSw); go_simp); all_goals (with_reducible rfl)
        try simp only [List.getElem_toArray, List.getElem_cons_succ, List.getElem_cons_zero, Act.put, List.setIfInBounds_toArray, List.set_cons_zero, List.set_cons_succ]
        refine wpAnyH_done (by kernel_rfl) ?_ _
        clear h4
        go_wp2_with fail
        go_meet
        exact ⟨_, rfl, rfl, by rw [Joins.cell_of_block HF.out]; rfl, by rw [Joins.cell_of_block HF.out]; rfl, bF⟩
      · skip
        go_simp
        obtain ⟨gg, hgg⟩ : ∃ gg, w1.heap.size = gg := ⟨_, rfl⟩
        have HG := Lib.hid (show (w1.alloc (.cells #[.nilFunc, .nilFunc, .nilFunc] 131)).heap[gg]? = some (.cells #[.nilFunc, .nilFunc, .nilFunc] 131 (0, 0)) from hgg ▸ heap_alloc_new w1 (.cells #[.nilFunc, .nilFunc, .nilFunc] 131))
        have hgc : W1.heap.size ≤ gg := by rw [← hgg]; exact h1.1.size
        have bX := bel2 h1.1 (below_alloc w1 (.cells #[.nilFunc, .nilFunc, .nilFunc] 131))
        replace HM := Lib.hid (blockOver (below_alloc w1 (.cells #[.nilFunc, .nilFunc, .nilFunc] 131)) HM.out)
        try rw [hgg]
        refine hK.out _ _ ?_ (fun h2 => ?_)
        · exact ⟨bX, cellOver bX c1⟩
        clear hK K h1 bX
        try simp only [List.getElem_toArray, List.getElem_cons_succ, List.getElem_cons_zero, Act.put, List.setIfInBounds_toArray, List.set_cons_zero, List.set_cons_succ]
        try rw [hgg]
        clear hgg
        refine wpAnyH_ready (rs := [3]) (by kernel_rfl) (by simp) ?_
        refine AllReadyH.cons rfl (fun K hK => ?_) AllReadyH.nil
        have lk := LK.out gm (w1.alloc (.cells #[.nilFunc, .nilFunc, .nilFunc] 131)) HM.out
        go_simp
        have bX := h2.1
        refine hK.out _ _ ?_ (fun h3 => ?_)
        · exact ⟨bX, cellOver bX c1⟩
        clear hK K h2 bX lk
        try simp only [List.getElem_toArray, List.getElem_cons_succ, List.getElem_cons_zero, Act.put, List.setIfInBounds_toArray, List.set_cons_zero, List.set_cons_succ]
        refine wpAnyH_take (i := 4) (v := ?_) rfl (by kernel_rfl) (by kernel_rfl) (by kernel_rfl) (fun _ _ _ h => h) (Or.inl ⟨by rfl, ?_⟩) h3 ?_
        rotate_left
        · (intro w hSw; (try dsimp only at hSw); go_simp); all_goals (with_reducible rfl)
        try simp only [List.getElem_toArray, List.getElem_cons_succ, List.getElem_cons_zero, Act.put, List.setIfInBounds_toArray, List.set_cons_zero, List.set_cons_succ]
        refine wpAnyH_take (i := 5) (v := ?_) rfl (by kernel_rfl) (by kernel_rfl) (by kernel_rfl) (fun _ _ _ h => h) (Or.inl ⟨by rfl, ?_⟩) h3 ?_
        rotate_left
        · (intro w hSw; (try dsimp only at hSw); go_simp); all_goals (with_reducible rfl)
        try simp only [List.getElem_toArray, List.getElem_cons_succ, List.getElem_cons_zero, Act.put, List.setIfInBounds_toArray, List.set_cons_zero, List.set_cons_succ]
        refine wpAnyH_take (i := 6) (v := ?_) rfl (by kernel_rfl) (by kernel_rfl) (by kernel_rfl) (fun _ _ _ h => h) (Or.inl ⟨by rfl, ?_⟩) h3 ?_
        rotate_left
        · (intro w hSw; (try dsimp only at hSw); go_simp); all_goals (with_reducible rfl)
        try simp only [List.getElem_toArray, List.getElem_cons_succ, List.getElem_cons_zero, Act.put, List.setIfInBounds_toArray, List.set_cons_zero, List.set_cons_succ]
        refine wpAnyH_ready (rs := [8]) (by kernel_rfl) (by simp) ?_
        refine AllReadyH.cons rfl (fun K hK => ?_) AllReadyH.nil
        obtain ⟨z0q, z1q, z2q⟩ := cells3 HG.out
        have f0 := Joins.unfrozen_of_block HG.out 0
        have f1 := Joins.unfrozen_of_block HG.out 1
        have f2 := Joins.unfrozen_of_block HG.out 2
        go_simp
        have hfin : ((((w1.alloc (.cells #[.nilFunc, .nilFunc, .nilFunc] 131)).setCell ⟨gg, 0, none⟩ .nilFunc).setCell ⟨gg, 1, none⟩ .nilFunc).setCell ⟨gg, 2, none⟩ .nilFunc).heap[gg]? = some (.cells #[.nilFunc, .nilFunc, .nilFunc] 131 (0, 0)) := Joins.block_setCell (Joins.block_setCell (Joins.block_setCell HG.out _) _) _
        have bX := ((h3.1.setCell (p := ⟨gg, 0, none⟩) hgc .nilFunc).setCell (p := ⟨gg, 1, none⟩) hgc .nilFunc).setCell (p := ⟨gg, 2, none⟩) hgc .nilFunc
        have bF := bX
        have HF := Lib.hid hfin
        clear hfin z0q z1q z2q f0 f1 f2
        refine hK.out _ _ ?_ (fun h4 => ?_)
        · exact ⟨bX, cellOver bX c1⟩
        clear hK K h3 bX
        try simp only [List.getElem_toArray, List.getElem_cons_succ, List.getElem_cons_zero, Act.put, List.setIfInBounds_toArray, List.set_cons_zero, List.set_cons_succ]
        refine wpAnyH_take (i := 9) (v := ?_) rfl (by kernel_rfl) (by kernel_rfl) (by kernel_rfl) (fun _ _ _ h => h) (Or.inl ⟨by rfl, ?_⟩) h4 ?_
        rotate_left
        · (intro w hSw; (try dsimp only at hSw); go_simp); all_goals (with_reducible rfl)
        try simp only [List.getElem_toArray, List.getElem_cons_succ, List.getElem_cons_zero, Act.put, List.setIfInBounds_toArray, List.set_cons_zero, List.set_cons_succ]
        refine wpAnyH_done (by kernel_rfl) ?_ _
        clear h4
        go_wp2_with fail
        go_meet
        exact ⟨_, rfl, rfl, by rw [Joins.cell_of_block HF.out]; rfl, by rw [Joins.cell_of_block HF.out]; rfl, bF⟩
    · skip
      go_simp
      have HG := Lib.hid (show (W1.alloc (.cells #[.nilFunc, .nilFunc, .nilFunc] 131)).heap[W1.heap.size]? = some (.cells #[.nilFunc, .nilFunc, .nilFunc] 131 (0, 0)) from heap_alloc_new W1 (.cells #[.nilFunc, .nilFunc, .nilFunc] 131))
      have hgc : W1.heap.size ≤ W1.heap.size := Nat.le_refl _
      have bX := (below_alloc W1 (.cells #[.nilFunc, .nilFunc, .nilFunc] 131)).drew
      refine hK.out _ _ ?_ (fun h1 => ?_)
      · exact ⟨bX, cellOver bX c1⟩
      clear hK K h0 bX
      try simp only [List.getElem_toArray, List.getElem_cons_succ, List.getElem_cons_zero, Act.put, List.setIfInBounds_toArray, List.set_cons_zero, List.set_cons_succ]
      refine wpAnyH_ready (rs := [0]) (by kernel_rfl) (by simp) ?_
      refine AllReadyH.cons rfl (fun K hK => ?_) AllReadyH.nil
      go_simp
      go_at_call 104
      refine (kinds_at _).mono ?_
      rintro e w1 ⟨gm, rfl, hm, -, -, -, -, -, -, bq⟩
      go_wp2_with fail
      have bX := bel2 h1.1 bq
      have HM := Lib.hid hm
      replace HG := Lib.hid (blockOver bq HG.out)
      refine hK.out _ _ ?_ (fun h2 => ?_)
      · exact ⟨bX, cellOver bX c1⟩
      clear hK K h1 bX bq hm
      try simp only [List.getElem_toArray, List.getElem_cons_succ, List.getElem_cons_zero, Act.put, List.setIfInBounds_toArray, List.set_cons_zero, List.set_cons_succ]
      refine wpAnyH_ready (rs := [3]) (by kernel_rfl) (by simp) ?_
      refine AllReadyH.cons rfl (fun K hK => ?_) AllReadyH.nil
      have lk := LK.out gm w1 HM.out
      go_simp
      have bX := h2.1
      refine hK.out _ _ ?_ (fun h3 => ?_)
      · exact ⟨bX, cellOver bX c1⟩
      clear hK K h2 bX lk
      try simp only [List.getElem_toArray, List.getElem_cons_succ, List.getElem_cons_zero, Act.put, List.setIfInBounds_toArray, List.set_cons_zero, List.set_cons_succ]
      refine wpAnyH_take (i := 4) (v := ?_) rfl (by kernel_rfl) (by kernel_rfl) (by kernel_rfl) (fun _ _ _ h => h) (Or.inl ⟨by rfl, ?_⟩) h3 ?_
      rotate_left
      · (intro w hSw; (try dsimp only at hSw); go_simp); all_goals (with_reducible rfl)
      try simp only [List.getElem_toArray, List.getElem_cons_succ, List.getElem_cons_zero, Act.put, List.setIfInBounds_toArray, List.set_cons_zero, List.set_cons_succ]
      refine wpAnyH_take (i := 5) (v := ?_) rfl (by kernel_rfl) (by kernel_rfl) (by kernel_rfl) (fun _ _ _ h => h) (Or.inl ⟨by rfl, ?_⟩) h3 ?_
      rotate_left
      · (intro w hSw; (try dsimp only at hSw); go_simp); all_goals (with_reducible rfl)
      try simp only [List.getElem_toArray, List.getElem_cons_succ, List.getElem_cons_zero, Act.put, List.setIfInBounds_toArray, List.set_cons_zero, List.set_cons_succ]
      refine wpAnyH_take (i := 6) (v := ?_) rfl (by kernel_rfl) (by kernel_rfl) (by kernel_rfl) (fun _ _ _ h => h) (Or.inl ⟨by rfl, ?_⟩) h3 ?_
      rotate_left
      · (intro w hSw; (try dsimp only at hSw); go_simp); all_goals (with_reducible rfl)
      try simp only [List.getElem_toArray, List.getElem_cons_succ, List.getElem_cons_zero, Act.put, List.setIfInBounds_toArray, List.set_cons_zero, List.set_cons_succ]
      refine wpAnyH_ready (rs := [8]) (by kernel_rfl) (by simp) ?_
      refine AllReadyH.cons rfl (fun K hK => ?_) AllReadyH.nil
      obtain ⟨z0q, z1q, z2q⟩ := cells3 HG.out
      have f0 := Joins.unfrozen_of_block HG.out 0
      have f1 := Joins.unfrozen_of_block HG.out 1
      have f2 := Joins.unfrozen_of_block HG.out 2
      go_simp
      have hfin : (((w1.setCell ⟨W1.heap.size, 0, none⟩ .nilFunc).setCell ⟨W1.heap.size, 1, none⟩ .nilFunc).setCell ⟨W1.heap.size, 2, none⟩ .nilFunc).heap[W1.heap.size]? = some (.cells #[.nilFunc, .nilFunc, .nilFunc] 131 (0, 0)) := Joins.block_setCell (Joins.block_setCell (Joins.block_setCell HG.out _) _) _
      have bX := ((h3.1.setCell (p := ⟨W1.heap.size, 0, none⟩) hgc .nilFunc).setCell (p := ⟨W1.heap.size, 1, none⟩) hgc .nilFunc).setCell (p := ⟨W1.heap.size, 2, none⟩) hgc .nilFunc
      have bF := bX
      have HF := Lib.hid hfin
      clear hfin z0q z1q z2q f0 f1 f2
      refine hK.out _ _ ?_ (fun h4 => ?_)
      · exact ⟨bX, cellOver bX c1⟩
      clear hK K h3 bX
      try simp only [List.getElem_toArray, List.getElem_cons_succ, List.getElem_cons_zero, Act.put, List.setIfInBounds_toArray, List.set_cons_zero, List.set_cons_succ]
      refine wpAnyH_take (i := 9) (v := ?_) rfl (by kernel_rfl) (by kernel_rfl) (by kernel_rfl) (fun _ _ _ h => h) (Or.inl ⟨by rfl, ?_⟩) h4 ?_
      rotate_left
      · (intro w hSw; (try dsimp only at hSw); go_simp); all_goals (with_reducible rfl)
      try simp only [List.getElem_toArray, List.getElem_cons_succ, List.getElem_cons_zero, Act.put, List.setIfInBounds_toArray, List.set_cons_zero, List.set_cons_succ]
      refine wpAnyH_done (by kernel_rfl) ?_ _
      clear h4
      go_wp2_with fail
      go_meet
      exact ⟨_, rfl, rfl, by rw [Joins.cell_of_block HF.out]; rfl, by rw [Joins.cell_of_block HF.out]; rfl, bF⟩
  case rest =>
    obtain ⟨gp, rfl, rfl, p0, p1, bw⟩ := hcut
    have b0 : Below w.heap.size w wc := bel2 B0 bw
    have c0 := cellOver bw (show W1.cell? ⟨g0, 0, none⟩ = some (.int .i64 id) by rw [Joins.cell_of_block HB.out]; rfl)
    have c2 := cellOver bw (show W1.cell? ⟨g0, 2, none⟩ = some (.string s) by rw [Joins.cell_of_block HB.out]; rfl)
    have c3 := cellOver bw (show W1.cell? ⟨g0, 3, none⟩ = some (.int .i64 st) by rw [Joins.cell_of_block HB.out]; rfl)
    have c4 := cellOver bw (show W1.cell? ⟨g0, 4, none⟩ = some (.int .i64 rf) by rw [Joins.cell_of_block HB.out]; rfl)
    have c5 := cellOver bw (show W1.cell? ⟨g0, 5, none⟩ = some (.int .i64 u) by rw [Joins.cell_of_block HB.out]; rfl)
    have c6 := cellOver bw (show W1.cell? ⟨g0, 6, none⟩ = some (.slice a n c) by rw [Joins.cell_of_block HB.out]; rfl)
    have c7 := cellOver bw (show W1.cell? ⟨g0, 7, none⟩ = some (.int .i64 ap) by rw [Joins.cell_of_block HB.out]; rfl)
    have c8 := cellOver bw (show W1.cell? ⟨g0, 8, none⟩ = some (.int .i64 d) by rw [Joins.cell_of_block HB.out]; rfl)
    have HB0 := Lib.hid b0
    clear HB LK B0 bw b0 hg1
    go_wp2
    go_ret
    exact ⟨ret_bool rfl, HB0.out⟩

theorem mk_data (l : List UInt8) : (⟨l.toArray⟩ : ByteArray).data.toList = l := rfl
theorem bvalid_any (b : Blk) (a : Option Addr) (n c : Nat) (w : World) (h : LabAt w a n c b.lb) (hs : b.tx.length ≤ maxLen) :
    Calls Tryz.prog 102 #[blkV b a n c] w fun e w' => e = .returned (.bool (vB b)) ∧ Below w.heap.size w w' := by
  have hs' : (⟨b.tx.toArray⟩ : ByteArray).size ≤ maxLen := by simpa [ByteArray.size] using hs
  have KI := Lib.hid (fun W => binside_any b.id 1 1000 W)
  have KL : Hid (∀ W : World, Below w.heap.size w W → Calls Tryz.prog 41 #[.agg #[.int .i64 b.lb.u, .slice a n c, .int .i64 b.lb.ap, .int .i64 b.lb.d]] W fun e w' => e = .returned (.bool (validB b.lb)) ∧ Below W.heap.size W w') := Lib.hid (fun W hb => valid_any b.lb a n c W (h.over hb))
  have K62 := Lib.hid (fun W => fill_any ⟨b.tx.toArray⟩ W hs')
  have K66 := Lib.hid (fun W => text_any ⟨b.tx.toArray⟩ W hs')
  have K69 := Lib.hid (fun W => name_any ⟨b.tx.toArray⟩ W hs')
  have K63 := Lib.hid (fun W => nsrc_any b.st b.rf W)
  have K67 := Lib.hid (fun W => src_any b.st b.rf W)
  unfold blkV vB
  by_cases hk : inB b.kd 1 5 = true
  · rw [hk]
    simp only [inB, decide_eq_true_eq] at hk
    have five : b.kd = 1 ∨ b.kd = 2 ∨ b.kd = 3 ∨ b.kd = 4 ∨ b.kd = 5 := by omega
    rw [Bool.true_and]
    rcases five with h5 | h5 | h5 | h5 | h5
    · rw [h5]; exact bvalid_walk62 b.id 1 b.st b.rf b.lb.u b.lb.ap b.lb.d ⟨b.tx.toArray⟩ a n c w 110 (fun _ => #[]) true _ _ _ _ (fun _ => rfl) rfl KI K62 K63 KL
    · rw [h5]; exact bvalid_walk62 b.id 2 b.st b.rf b.lb.u b.lb.ap b.lb.d ⟨b.tx.toArray⟩ a n c w 111 (fun _ => #[]) true _ _ _ _ (fun _ => rfl) rfl KI K62 K63 KL
    · rw [h5]; exact bvalid_walk66 b.id 3 b.st b.rf b.lb.u b.lb.ap b.lb.d ⟨b.tx.toArray⟩ a n c w 121 (fun g => #[.pointer (some ⟨g + 1, 0, none⟩), .pointer (some ⟨g + 1 + 1, 0, none⟩)]) true _ _ _ _ (fun _ => rfl) rfl KI K66 K67 KL
    · rw [h5]; exact bvalid_walk62 b.id 4 b.st b.rf b.lb.u b.lb.ap b.lb.d ⟨b.tx.toArray⟩ a n c w 121 (fun g => #[.pointer (some ⟨g + 1 + 1 + 1, 0, none⟩), .pointer (some ⟨g + 1 + 1 + 1 + 1, 0, none⟩)]) true _ _ _ _ (fun _ => rfl) rfl KI K62 K63 KL
    · rw [h5]; exact bvalid_walk69 b.id 5 b.st b.rf b.lb.u b.lb.ap b.lb.d ⟨b.tx.toArray⟩ a n c w 121 (fun g => #[.pointer (some ⟨g + 1 + 1 + 1 + 1 + 1, 0, none⟩), .pointer (some ⟨g + 1 + 1 + 1 + 1 + 1 + 1, 0, none⟩)]) true _ _ _ _ (fun _ => rfl) rfl KI K69 K63 KL
  · have hk' : inB b.kd 1 5 = false := by simpa using hk
    rw [hk', Bool.false_and]
    exact bvalid_none b.id b.kd b.st b.rf b.lb.u b.lb.ap b.lb.d ⟨b.tx.toArray⟩ a n c w (fun g => by
      simp only [inB, decide_eq_true_eq] at hk
      unfold kindV
      rw [if_neg (by omega), if_neg (by omega), if_neg (by omega), if_neg (by omega), if_neg (by omega)]) hk'
end Go.Proofs.YtlhcckjfgpcohaaGreatDoor
