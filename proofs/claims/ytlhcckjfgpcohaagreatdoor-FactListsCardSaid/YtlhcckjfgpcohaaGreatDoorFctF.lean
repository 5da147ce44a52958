/- Package fact: a field's test and its clearing, for every field. -/
import Derived.Test.YtlhcckjfgpcohaaGreatDoorFctE
import Derived.Laws.EntriesVeiled
namespace Go.Proofs.YtlhcckjfgpcohaaGreatDoor
open Go.RowKit
set_option maxRecDepth 100000
set_option linter.unusedSimpArgs false
set_option linter.unusedVariables false
theorem f2_enter (c : Cls) (args : Array Value) (w : World) : Sem.run Tryz.prog (callFunc c.f2 args) w = .ok (.enter c.f2 args) w := by
  cases c <;> kernel_rfl
theorem f3_enter (c : Cls) (args : Array Value) (w : World) : Sem.run Tryz.prog (callFunc c.f3 args) w = .ok (.enter c.f3 args) w := by
  cases c <;> kernel_rfl
theorem f1_enter (c : Cls) (args : Array Value) (w : World) : Sem.run Tryz.prog (callFunc c.f1 args) w = .ok (.enter c.f1 args) w := by
  cases c <;> kernel_rfl
set_option maxHeartbeats 1000000 in
theorem bs_call (B : Nat) (bs rv : Int) (w : World) (hr : -9223372036854775808 ≤ rv - 1 ∧ rv - 1 ≤ 9223372036854775807) (h6 : w.cell? ⟨B, 6, none⟩ = some (.int .i64 bs)) (h5 : w.cell? ⟨B, 5, none⟩ = some (.int .i64 rv)) :
    Calls Tryz.prog 77 #[pt B] w fun e w' => e = .returned (.bool (inB bs 0 (rv - 1))) ∧ Below w.heap.size w w' := by
  have K := Lib.hid (fun W => (inside5 bs 0 (rv - 1) W).mono (fun e w' h => And.intro h.1 h.2.symm))
  have hw : IntKind.i64.wrap (rv - 1) = rv - 1 := IntWalk.i64_in _ (by omega)
  go_enter Tryz.func77, Tryz.ntmps77
  go_wp2_with fail
  go_quiet ((go_at_call 65; exact Calls.quiet_of_same (K.out _)))
  go_wp2
  go_ret
  exact ⟨rfl, below_drewN (Below.refl _ _) _⟩
set_option maxHeartbeats 1000000 in
theorem clear_i (p B o g3 : Nat) (u : Value) (w : World) (hp : Hid (Finds p B o)) (h3 : w.cell? ⟨g3, 0, none⟩ = some (.func (.func p) #[] #[])) (hc : w.cell? ⟨B, o, none⟩ = some u) (hf : w.frozen? ⟨B, o, none⟩ = false) :
    Calls Tryz.prog 91 #[pt B, pt g3] w fun e w' => e = .returned (.tuple #[]) ∧ w' = w.setCell ⟨B, o, none⟩ (.int .i64 0) := by
  have hcf := hp.out.enter
  go_enter Tryz.func91, Tryz.ntmps91
  go_wp2_with fail
  refine (hp.out.call _).mono ?_
  rintro e w1 ⟨rfl, rfl⟩
  go_wp2
  first | (go_end0; exact ⟨rfl, rfl⟩) | exact ⟨rfl, rfl⟩ | (go_ret; exact ⟨rfl, rfl⟩)
set_option maxHeartbeats 1000000 in
theorem clear_s (p B o g3 : Nat) (u : Value) (w : World) (hp : Hid (Finds p B o)) (h3 : w.cell? ⟨g3, 0, none⟩ = some (.func (.func p) #[] #[])) (hc : w.cell? ⟨B, o, none⟩ = some u) (hf : w.frozen? ⟨B, o, none⟩ = false) :
    Calls Tryz.prog 94 #[pt B, pt g3] w fun e w' => e = .returned (.tuple #[]) ∧ w' = w.setCell ⟨B, o, none⟩ (.string ⟨#[]⟩) := by
  have hcf := hp.out.enter
  go_enter Tryz.func94, Tryz.ntmps94
  go_wp2_with fail
  refine (hp.out.call _).mono ?_
  rintro e w1 ⟨rfl, rfl⟩
  go_wp2
  first | (go_end0; exact ⟨rfl, rfl⟩) | exact ⟨rfl, rfl⟩ | (go_ret; exact ⟨rfl, rfl⟩)
set_option maxHeartbeats 1000000 in
theorem clear_t (p B o g3 : Nat) (u : Value) (w : World) (hp : Hid (Finds p B o)) (h3 : w.cell? ⟨g3, 0, none⟩ = some (.func (.func p) #[] #[])) (hc : w.cell? ⟨B, o, none⟩ = some u) (hf : w.frozen? ⟨B, o, none⟩ = false) :
    Calls Tryz.prog 97 #[pt B, pt g3] w fun e w' => e = .returned (.tuple #[]) ∧ w' = w.setCell ⟨B, o, none⟩ (.slice none 0 0) := by
  have hcf := hp.out.enter
  go_enter Tryz.func97, Tryz.ntmps97
  go_wp2_with fail
  refine (hp.out.call _).mono ?_
  rintro e w1 ⟨rfl, rfl⟩
  go_wp2
  first | (go_end0; exact ⟨rfl, rfl⟩) | exact ⟨rfl, rfl⟩ | (go_ret; exact ⟨rfl, rfl⟩)
set_option maxHeartbeats 1000000 in
theorem clear_b (p B o g3 : Nat) (u : Value) (w : World) (hp : Hid (Finds p B o)) (h3 : w.cell? ⟨g3, 0, none⟩ = some (.func (.func p) #[] #[])) (hc : w.cell? ⟨B, o, none⟩ = some u) (hf : w.frozen? ⟨B, o, none⟩ = false) :
    Calls Tryz.prog 101 #[pt B, pt g3] w fun e w' => e = .returned (.tuple #[]) ∧ w' = w.setCell ⟨B, o, none⟩ (.slice none 0 0) := by
  have hcf := hp.out.enter
  go_enter Tryz.func101, Tryz.ntmps101
  go_wp2_with fail
  refine (hp.out.call _).mono ?_
  rintro e w1 ⟨rfl, rfl⟩
  go_wp2
  first | (go_end0; exact ⟨rfl, rfl⟩) | exact ⟨rfl, rfl⟩ | (go_ret; exact ⟨rfl, rfl⟩)
theorem lab_cells {W : World} {B g3 m : Nat} {e : FE} (hF : FcAt W B e) : (W.cell? ⟨B, 11, none⟩ = some (.int .i64 e.f.lb.u) ∧ W.cell? ⟨B, 12, none⟩ = some (.slice e.la e.ln e.lc) ∧ W.cell? ⟨B, 13, none⟩ = some (.int .i64 e.f.lb.ap) ∧ W.cell? ⟨B, 14, none⟩ = some (.int .i64 e.f.lb.d) ∧ W.frozen? ⟨B, 11, none⟩ = false ∧ W.frozen? ⟨B, 12, none⟩ = false ∧ W.frozen? ⟨B, 13, none⟩ = false ∧ W.frozen? ⟨B, 14, none⟩ = false) := by
  have f := fun j => Joins.unfrozen_of_block hF j
  exact ⟨hF.cell 11, hF.cell 12, hF.cell 13, hF.cell 14, f 11, f 12, f 13, f 14⟩
theorem cell_other {W : World} {a : Addr} {p : Addr} (v : Value) (h : p.block ≠ a.block) : (W.setCell a v).cell? p = W.cell? p := by
  unfold World.cell?
  rw [Below.heap_setCell _ _ _ _ h]
set_option maxHeartbeats 2000000 in
theorem clear_a (B g3 : Nat) (e : FE) (w : World) (hF : FcAt w B e) (b3 : Blk1 w g3 (.func (.func 39) #[] #[])) :
    Calls Tryz.prog 71 #[pt B, pt g3] w fun r w' => r = .returned (.tuple #[]) ∧ FcAt w' B (clrE .lb e) ∧ Keeps B w w' := by
  have hBw : B < w.heap.size := (Array.getElem?_eq_some_iff.1 hF).1
  have hg : g3 ≠ B := by
    obtain ⟨tt, ht⟩ := b3
    rintro rfl
    unfold FcAt at hF
    rw [hF] at ht
    have := congrArg Array.size (Obj.cells.inj (Option.some.inj ht)).1
    simp [elF] at this
  have BA := below_alloc w (.cells #[.int .i64 0, .slice none 0 0, .int .i64 0, .int .i64 0] 26)
  have F1 := hF.over BA
  have h3v := (b3.over BA).cell
  have N4 := heap_alloc_new w (.cells #[.int .i64 0, .slice none 0 0, .int .i64 0, .int .i64 0] 26)
  obtain ⟨z0, z1, z2, z3⟩ := cells4 N4
  have HC := Lib.hid (lab_cells (g3 := g3) (m := 0) F1)
  have F2 : FcAt (((((w.alloc (.cells #[.int .i64 0, .slice none 0 0, .int .i64 0, .int .i64 0] 26)).drew.setCell ⟨B, 11, none⟩ (.int .i64 0)).setCell ⟨B, 12, none⟩ (.slice none 0 0)).setCell ⟨B, 13, none⟩ (.int .i64 0)).setCell ⟨B, 14, none⟩ (.int .i64 0)) B (clrE .lb e) := (((F1.set (e' := { e with f := { e.f with lb := { e.f.lb with u := 0 } } }) 11 (.int .i64 0) rfl).set (e' := { e with f := { e.f with lb := { e.f.lb with u := 0 } }, la := none, ln := 0, lc := 0 }) 12 (.slice none 0 0) rfl).set (e' := { e with f := { e.f with lb := { e.f.lb with u := 0, ap := 0 } }, la := none, ln := 0, lc := 0 }) 13 (.int .i64 0) rfl).set 14 (.int .i64 0) rfl
  have HF2 := Lib.hid F2
  have HK := Lib.hid ((((((Keeps.refl B w).alloc (.cells #[.int .i64 0, .slice none 0 0, .int .i64 0, .int .i64 0] 26)).drew.setCell 11 (.int .i64 0)).setCell 12 (.slice none 0 0)).setCell 13 (.int .i64 0)).setCell 14 (.int .i64 0))
  have hne : w.heap.size ≠ B := by omega
  have HSB := Lib.hid (show (((((w.alloc (.cells #[.int .i64 0, .slice none 0 0, .int .i64 0, .int .i64 0] 26)).drew.setCell ⟨B, 11, none⟩ (.int .i64 0)).setCell ⟨B, 12, none⟩ (.slice none 0 0)).setCell ⟨B, 13, none⟩ (.int .i64 0)).setCell ⟨B, 14, none⟩ (.int .i64 0)).cell? ⟨g3, 0, none⟩ = some (.func (.func 39) #[] #[]) ∧ (((((w.alloc (.cells #[.int .i64 0, .slice none 0 0, .int .i64 0, .int .i64 0] 26)).drew.setCell ⟨B, 11, none⟩ (.int .i64 0)).setCell ⟨B, 12, none⟩ (.slice none 0 0)).setCell ⟨B, 13, none⟩ (.int .i64 0)).setCell ⟨B, 14, none⟩ (.int .i64 0)).cell? ⟨w.heap.size, 0, none⟩ = some (.int .i64 0) ∧ (((((w.alloc (.cells #[.int .i64 0, .slice none 0 0, .int .i64 0, .int .i64 0] 26)).drew.setCell ⟨B, 11, none⟩ (.int .i64 0)).setCell ⟨B, 12, none⟩ (.slice none 0 0)).setCell ⟨B, 13, none⟩ (.int .i64 0)).setCell ⟨B, 14, none⟩ (.int .i64 0)).cell? ⟨w.heap.size, 1, none⟩ = some (.slice none 0 0) ∧ (((((w.alloc (.cells #[.int .i64 0, .slice none 0 0, .int .i64 0, .int .i64 0] 26)).drew.setCell ⟨B, 11, none⟩ (.int .i64 0)).setCell ⟨B, 12, none⟩ (.slice none 0 0)).setCell ⟨B, 13, none⟩ (.int .i64 0)).setCell ⟨B, 14, none⟩ (.int .i64 0)).cell? ⟨w.heap.size, 2, none⟩ = some (.int .i64 0) ∧ (((((w.alloc (.cells #[.int .i64 0, .slice none 0 0, .int .i64 0, .int .i64 0] 26)).drew.setCell ⟨B, 11, none⟩ (.int .i64 0)).setCell ⟨B, 12, none⟩ (.slice none 0 0)).setCell ⟨B, 13, none⟩ (.int .i64 0)).setCell ⟨B, 14, none⟩ (.int .i64 0)).cell? ⟨w.heap.size, 3, none⟩ = some (.int .i64 0) from by
    refine ⟨?_, ?_, ?_, ?_, ?_⟩ <;> (rw [cell_other _ (by first | exact hg | exact hne), cell_other _ (by first | exact hg | exact hne), cell_other _ (by first | exact hg | exact hne), cell_other _ (by first | exact hg | exact hne)]; first | exact h3v | exact z0 | exact z1 | exact z2 | exact z3))
  clear hF b3 hg BA F1 N4 F2 hne hBw
  go_enter Tryz.func71, Tryz.ntmps71
  go_wp2_with fail
  refine wp_region_held_drew (S := fun w' => w'.cell? ⟨g3, 0, none⟩ = some (.func (.func 39) #[] #[]) ∧ w'.cell? ⟨w.heap.size, 0, none⟩ = some (.int .i64 0) ∧ w'.cell? ⟨w.heap.size, 1, none⟩ = some (.slice none 0 0) ∧ w'.cell? ⟨w.heap.size, 2, none⟩ = some (.int .i64 0) ∧ w'.cell? ⟨w.heap.size, 3, none⟩ = some (.int .i64 0)) (by kernel_rfl) ?_ (fun h0 => ?_)
  · exact ⟨h3v, z0, z1, z2, z3⟩
  refine wpAnyH_take (i := 0) (v := ?_) rfl (by kernel_rfl) (by kernel_rfl) (by kernel_rfl) (fun _ _ _ h => h) (Or.inl ⟨by rfl, ?_⟩) h0 ?_
  rotate_left
  · (intro w hSw; (try dsimp only at hSw); go_simp); all_goals (with_reducible rfl)
  try simp only [List.getElem_toArray, List.getElem_cons_succ, List.getElem_cons_zero, Act.put, List.setIfInBounds_toArray, List.set_cons_zero, List.set_cons_succ]
  refine wpAnyH_take (i := 1) (v := ?_) rfl (by kernel_rfl) (by kernel_rfl) (by kernel_rfl) (fun _ _ _ h => h) (Or.inl ⟨by rfl, ?_⟩) h0 ?_
  rotate_left
  · (intro w hSw; (try dsimp only at hSw); go_simp); all_goals (with_reducible rfl)
  try simp only [List.getElem_toArray, List.getElem_cons_succ, List.getElem_cons_zero, Act.put, List.setIfInBounds_toArray, List.set_cons_zero, List.set_cons_succ]
  refine wpAnyH_take (i := 3) (v := ?_) rfl (by kernel_rfl) (by kernel_rfl) (by kernel_rfl) (fun _ _ _ h => h) (Or.inl ⟨by rfl, ?_⟩) h0 ?_
  rotate_left
  · (intro w hSw; (try dsimp only at hSw); go_simp); all_goals (with_reducible rfl)
  try simp only [List.getElem_toArray, List.getElem_cons_succ, List.getElem_cons_zero, Act.put, List.setIfInBounds_toArray, List.set_cons_zero, List.set_cons_succ]
  refine wpAnyH_ready (rs := [2]) (by kernel_rfl) (by simp) ?_
  refine AllReadyH.cons rfl (fun K hK => ?_) AllReadyH.nil
  go_simp
  go_at_call 39
  refine (place_lb B _).mono ?_
  rintro e w1 ⟨rfl, rfl⟩
  go_wp2_with fail
  have bS := h0
  refine hK.out _ _ ?_ (fun h1 => ?_)
  · exact bS
  clear hK K h0 bS
  try simp only [List.getElem_toArray, List.getElem_cons_succ, List.getElem_cons_zero, Act.put, List.setIfInBounds_toArray, List.set_cons_zero, List.set_cons_succ]
  refine wpAnyH_take (i := 4) (v := ?_) rfl (by kernel_rfl) (by kernel_rfl) (by kernel_rfl) (fun _ _ _ h => h) (Or.inl ⟨by rfl, ?_⟩) h1 ?_
  rotate_left
  · (intro w hSw; (try dsimp only at hSw); go_simp); all_goals (with_reducible rfl)
  try simp only [List.getElem_toArray, List.getElem_cons_succ, List.getElem_cons_zero, Act.put, List.setIfInBounds_toArray, List.set_cons_zero, List.set_cons_succ]
  refine wpAnyH_ready (rs := [5]) (by kernel_rfl) (by simp) ?_
  refine AllReadyH.cons rfl (fun K hK => ?_) AllReadyH.nil
  go_simp
  obtain ⟨c11, c12, c13, c14, f11, f12, f13, f14⟩ := HC.out
  go_simp
  clear c11 c12 c13 c14 f11 f12 f13 f14
  have bS := HSB.out
  refine hK.out _ _ ?_ (fun h2 => ?_)
  · exact bS
  clear hK K h1 bS
  try simp only [List.getElem_toArray, List.getElem_cons_succ, List.getElem_cons_zero, Act.put, List.setIfInBounds_toArray, List.set_cons_zero, List.set_cons_succ]
  refine wpAnyH_done (by kernel_rfl) ?_ _
  clear h2
  go_wp2
  first | (go_end0; exact ⟨rfl, HF2.out, HK.out⟩) | exact ⟨rfl, HF2.out, HK.out⟩ | (go_ret; exact ⟨rfl, HF2.out, HK.out⟩)
theorem bl_len {w : World} {a : Option Addr} {n c : Nat} {l : List Blk} (h : IsBl w a n c l) : n = l.length := by
  obtain ⟨es, h1, h2⟩ := h
  rw [← h1, ← h2.1]; simp [blks]
/-- A field's test. -/
theorem valid_fld (x : Fld) (hx : isBs x = false) (B : Nat) (e : FE) (g3 g5 : Nat) (w : World) (hF : FcAt w B e) (ok : FeOk w e) (b3 : Blk1 w g3 (.func (.func (plN x)) #[] #[])) (b5 : TstAt w x g5) :
    Calls Tryz.prog x.cls.f2 #[pt B, pt g5, pt g3] w fun r w' => r = .returned (.bool (valF x e.f)) ∧ Below w.heap.size w w' := by
  obtain ⟨s1, s2, s3, s4, s5⟩ := ok.strs
  cases x
  · obtain ⟨lo, hi, b6, b7, b8⟩ := b5
    exact valid_i _ B _ g3 g5 lo hi _ _ _ w (Lib.hid (finds .n B)) b3.cell b6.cell b7.cell b8.cell (hF.cell _)
  · obtain ⟨lo, hi, b6, b7, b8⟩ := b5
    exact valid_i _ B _ g3 g5 lo hi _ _ _ w (Lib.hid (finds .tm B)) b3.cell b6.cell b7.cell b8.cell (hF.cell _)
  · obtain ⟨lo, hi, b6, b7, b8⟩ := b5
    exact valid_i _ B _ g3 g5 lo hi _ _ _ w (Lib.hid (finds .kd B)) b3.cell b6.cell b7.cell b8.cell (hF.cell _)
  · obtain ⟨lo, hi, b6, b7, b8⟩ := b5
    exact valid_i _ B _ g3 g5 lo hi _ _ _ w (Lib.hid (finds .st B)) b3.cell b6.cell b7.cell b8.cell (hF.cell _)
  · have hq : ∀ W, Calls Tryz.prog (tstN .lg) #[.string ⟨e.f.lg.toArray⟩] W fun r w' => r = .returned (.bool (valF .lg e.f)) ∧ w' = W := fun W => (name5 ⟨e.f.lg.toArray⟩ W (by rw [mk_size']; exact s1)).mono (fun r w' h => ⟨h.1, h.2.symm⟩)
    exact valid_s _ _ B _ g3 g5 ⟨e.f.lg.toArray⟩ _ w (Lib.hid (finds .lg B)) (Lib.hid hq) (tst_enter .lg) b3.cell b5.cell (hF.cell _)
  · obtain ⟨lo, hi, b6, b7, b8⟩ := b5
    exact valid_i _ B _ g3 g5 lo hi _ _ _ w (Lib.hid (finds .rv B)) b3.cell b6.cell b7.cell b8.cell (hF.cell _)
  · cases hx
  · have hq : ∀ W, Calls Tryz.prog (tstN .ti) #[.string ⟨e.f.ti.toArray⟩] W fun r w' => r = .returned (.bool (valF .ti e.f)) ∧ w' = W := fun W => (full5 ⟨e.f.ti.toArray⟩ W (by rw [mk_size']; exact s2)).mono (fun r w' h => ⟨h.1, h.2.symm⟩)
    exact valid_s _ _ B _ g3 g5 ⟨e.f.ti.toArray⟩ _ w (Lib.hid (finds .ti B)) (Lib.hid hq) (tst_enter .ti) b3.cell b5.cell (hF.cell _)
  · have hq : ∀ W, Calls Tryz.prog (tstN .au) #[.string ⟨e.f.au.toArray⟩] W fun r w' => r = .returned (.bool (valF .au e.f)) ∧ w' = W := fun W => (name5 ⟨e.f.au.toArray⟩ W (by rw [mk_size']; exact s3)).mono (fun r w' h => ⟨h.1, h.2.symm⟩)
    exact valid_s _ _ B _ g3 g5 ⟨e.f.au.toArray⟩ _ w (Lib.hid (finds .au B)) (Lib.hid hq) (tst_enter .au) b3.cell b5.cell (hF.cell _)
  · exact valid_t B g3 g5 _ _ _ _ w (Lib.hid fun W hW => (topics5 _ _ _ _ W (ok.tp.over hW)).mono (fun r w' h => ⟨h.1, h.2 ▸ Below.refl _ _⟩)) b3.cell b5.cell (hF.cell _)
  · obtain ⟨es, h1, h2⟩ := ok.bl
    have hv : valF .bl e.f = vL (blks es) := by rw [h1]; rfl
    rw [hv]
    exact valid_b B g3 g5 _ _ _ _ w (Lib.hid fun W hW => vlist_any _ _ _ es W (h2.over hW)) b3.cell b5.cell (hF.cell _)
  · exact valid_a B g3 g5 _ _ _ _ _ _ _ w (Lib.hid fun W hW => valid_any e.f.lb _ _ _ W (ok.lb.over hW)) b3.cell b5.cell (hF.cell _) (hF.cell _) (hF.cell _) (hF.cell _)
  · obtain ⟨lo, hi, b6, b7, b8⟩ := b5
    exact valid_i _ B _ g3 g5 lo hi _ _ _ w (Lib.hid (finds .ed B)) b3.cell b6.cell b7.cell b8.cell (hF.cell _)
  · obtain ⟨lo, hi, b6, b7, b8⟩ := b5
    exact valid_i _ B _ g3 g5 lo hi _ _ _ w (Lib.hid (finds .bk B)) b3.cell b6.cell b7.cell b8.cell (hF.cell _)
  · obtain ⟨lo, hi, b6, b7, b8⟩ := b5
    exact valid_i _ B _ g3 g5 lo hi _ _ _ w (Lib.hid (finds .se B)) b3.cell b6.cell b7.cell b8.cell (hF.cell _)
  · have hq : ∀ W, Calls Tryz.prog (tstN .tx) #[.string ⟨e.f.tx.toArray⟩] W fun r w' => r = .returned (.bool (valF .tx e.f)) ∧ w' = W := fun W => (full5 ⟨e.f.tx.toArray⟩ W (by rw [mk_size']; exact s4)).mono (fun r w' h => ⟨h.1, h.2.symm⟩)
    exact valid_s _ _ B _ g3 g5 ⟨e.f.tx.toArray⟩ _ w (Lib.hid (finds .tx B)) (Lib.hid hq) (tst_enter .tx) b3.cell b5.cell (hF.cell _)
  · have hq : ∀ W, Calls Tryz.prog (tstN .sx) #[.string ⟨e.f.tx.toArray⟩] W fun r w' => r = .returned (.bool (valF .sx e.f)) ∧ w' = W := fun W => (source5 ⟨e.f.tx.toArray⟩ W (by rw [mk_size']; exact s4)).mono (fun r w' h => ⟨h.1, h.2.symm⟩)
    exact valid_s _ _ B _ g3 g5 ⟨e.f.tx.toArray⟩ _ w (Lib.hid (finds .sx B)) (Lib.hid hq) (tst_enter .sx) b3.cell b5.cell (hF.cell _)
  · have hq : ∀ W, Calls Tryz.prog (tstN .nm) #[.string ⟨e.f.nm.toArray⟩] W fun r w' => r = .returned (.bool (valF .nm e.f)) ∧ w' = W := fun W => (name5 ⟨e.f.nm.toArray⟩ W (by rw [mk_size']; exact s5)).mono (fun r w' h => ⟨h.1, h.2.symm⟩)
    exact valid_s _ _ B _ g3 g5 ⟨e.f.nm.toArray⟩ _ w (Lib.hid (finds .nm B)) (Lib.hid hq) (tst_enter .nm) b3.cell b5.cell (hF.cell _)
  · obtain ⟨lo, hi, b6, b7, b8⟩ := b5
    exact valid_i _ B _ g3 g5 lo hi _ _ _ w (Lib.hid (finds .pt B)) b3.cell b6.cell b7.cell b8.cell (hF.cell _)
  · obtain ⟨lo, hi, b6, b7, b8⟩ := b5
    exact valid_i _ B _ g3 g5 lo hi _ _ _ w (Lib.hid (finds .cl B)) b3.cell b6.cell b7.cell b8.cell (hF.cell _)
  · obtain ⟨lo, hi, b6, b7, b8⟩ := b5
    exact valid_i _ B _ g3 g5 lo hi _ _ _ w (Lib.hid (finds .un B)) b3.cell b6.cell b7.cell b8.cell (hF.cell _)
/-- A field's clearing. -/
theorem clear_fld (x : Fld) (B : Nat) (e : FE) (g3 : Nat) (w : World) (hF : FcAt w B e) (b3 : Blk1 w g3 (.func (.func (plN x)) #[] #[])) :
    Calls Tryz.prog x.cls.f3 #[pt B, pt g3] w fun r w' => r = .returned (.tuple #[]) ∧ FcAt w' B (clrE x e) ∧ Keeps B w w' := by
  have hz := fun j => Joins.unfrozen_of_block hF j
  cases x
  · refine (clear_i _ B _ g3 _ w (Lib.hid (finds .n B)) b3.cell (hF.cell _) (hz _)).mono ?_
    rintro r w' ⟨rfl, rfl⟩
    exact ⟨rfl, hF.set _ _ rfl, (Keeps.refl B w).setCell _ _⟩
  · refine (clear_i _ B _ g3 _ w (Lib.hid (finds .tm B)) b3.cell (hF.cell _) (hz _)).mono ?_
    rintro r w' ⟨rfl, rfl⟩
    exact ⟨rfl, hF.set _ _ rfl, (Keeps.refl B w).setCell _ _⟩
  · refine (clear_i _ B _ g3 _ w (Lib.hid (finds .kd B)) b3.cell (hF.cell _) (hz _)).mono ?_
    rintro r w' ⟨rfl, rfl⟩
    exact ⟨rfl, hF.set _ _ rfl, (Keeps.refl B w).setCell _ _⟩
  · refine (clear_i _ B _ g3 _ w (Lib.hid (finds .st B)) b3.cell (hF.cell _) (hz _)).mono ?_
    rintro r w' ⟨rfl, rfl⟩
    exact ⟨rfl, hF.set _ _ rfl, (Keeps.refl B w).setCell _ _⟩
  · refine (clear_s _ B _ g3 _ w (Lib.hid (finds .lg B)) b3.cell (hF.cell _) (hz _)).mono ?_
    rintro r w' ⟨rfl, rfl⟩
    exact ⟨rfl, hF.set _ _ rfl, (Keeps.refl B w).setCell _ _⟩
  · refine (clear_i _ B _ g3 _ w (Lib.hid (finds .rv B)) b3.cell (hF.cell _) (hz _)).mono ?_
    rintro r w' ⟨rfl, rfl⟩
    exact ⟨rfl, hF.set _ _ rfl, (Keeps.refl B w).setCell _ _⟩
  · refine (clear_i _ B _ g3 _ w (Lib.hid (finds .bs B)) b3.cell (hF.cell _) (hz _)).mono ?_
    rintro r w' ⟨rfl, rfl⟩
    exact ⟨rfl, hF.set _ _ rfl, (Keeps.refl B w).setCell _ _⟩
  · refine (clear_s _ B _ g3 _ w (Lib.hid (finds .ti B)) b3.cell (hF.cell _) (hz _)).mono ?_
    rintro r w' ⟨rfl, rfl⟩
    exact ⟨rfl, hF.set _ _ rfl, (Keeps.refl B w).setCell _ _⟩
  · refine (clear_s _ B _ g3 _ w (Lib.hid (finds .au B)) b3.cell (hF.cell _) (hz _)).mono ?_
    rintro r w' ⟨rfl, rfl⟩
    exact ⟨rfl, hF.set _ _ rfl, (Keeps.refl B w).setCell _ _⟩
  · refine (clear_t _ B _ g3 _ w (Lib.hid (finds .tp B)) b3.cell (hF.cell _) (hz _)).mono ?_
    rintro r w' ⟨rfl, rfl⟩
    exact ⟨rfl, hF.set _ _ rfl, (Keeps.refl B w).setCell _ _⟩
  · refine (clear_b _ B _ g3 _ w (Lib.hid (finds .bl B)) b3.cell (hF.cell _) (hz _)).mono ?_
    rintro r w' ⟨rfl, rfl⟩
    exact ⟨rfl, hF.set _ _ rfl, (Keeps.refl B w).setCell _ _⟩
  · exact clear_a B g3 e w hF b3
  · refine (clear_i _ B _ g3 _ w (Lib.hid (finds .ed B)) b3.cell (hF.cell _) (hz _)).mono ?_
    rintro r w' ⟨rfl, rfl⟩
    exact ⟨rfl, hF.set _ _ rfl, (Keeps.refl B w).setCell _ _⟩
  · refine (clear_i _ B _ g3 _ w (Lib.hid (finds .bk B)) b3.cell (hF.cell _) (hz _)).mono ?_
    rintro r w' ⟨rfl, rfl⟩
    exact ⟨rfl, hF.set _ _ rfl, (Keeps.refl B w).setCell _ _⟩
  · refine (clear_i _ B _ g3 _ w (Lib.hid (finds .se B)) b3.cell (hF.cell _) (hz _)).mono ?_
    rintro r w' ⟨rfl, rfl⟩
    exact ⟨rfl, hF.set _ _ rfl, (Keeps.refl B w).setCell _ _⟩
  · refine (clear_s _ B _ g3 _ w (Lib.hid (finds .tx B)) b3.cell (hF.cell _) (hz _)).mono ?_
    rintro r w' ⟨rfl, rfl⟩
    exact ⟨rfl, hF.set _ _ rfl, (Keeps.refl B w).setCell _ _⟩
  · refine (clear_s _ B _ g3 _ w (Lib.hid (finds .sx B)) b3.cell (hF.cell _) (hz _)).mono ?_
    rintro r w' ⟨rfl, rfl⟩
    exact ⟨rfl, hF.set _ _ rfl, (Keeps.refl B w).setCell _ _⟩
  · refine (clear_s _ B _ g3 _ w (Lib.hid (finds .nm B)) b3.cell (hF.cell _) (hz _)).mono ?_
    rintro r w' ⟨rfl, rfl⟩
    exact ⟨rfl, hF.set _ _ rfl, (Keeps.refl B w).setCell _ _⟩
  · refine (clear_i _ B _ g3 _ w (Lib.hid (finds .pt B)) b3.cell (hF.cell _) (hz _)).mono ?_
    rintro r w' ⟨rfl, rfl⟩
    exact ⟨rfl, hF.set _ _ rfl, (Keeps.refl B w).setCell _ _⟩
  · refine (clear_i _ B _ g3 _ w (Lib.hid (finds .cl B)) b3.cell (hF.cell _) (hz _)).mono ?_
    rintro r w' ⟨rfl, rfl⟩
    exact ⟨rfl, hF.set _ _ rfl, (Keeps.refl B w).setCell _ _⟩
  · refine (clear_i _ B _ g3 _ w (Lib.hid (finds .un B)) b3.cell (hF.cell _) (hz _)).mono ?_
    rintro r w' ⟨rfl, rfl⟩
    exact ⟨rfl, hF.set _ _ rfl, (Keeps.refl B w).setCell _ _⟩
end Go.Proofs.YtlhcckjfgpcohaaGreatDoor
