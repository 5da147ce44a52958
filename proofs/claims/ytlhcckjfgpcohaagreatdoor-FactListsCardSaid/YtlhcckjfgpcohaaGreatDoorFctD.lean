/- Package fact: a fact in memory; a field's test, and its clearing. -/
import Derived.Test.YtlhcckjfgpcohaaGreatDoorFctC
import Derived.Test.YtlhcckjfgpcohaaGreatDoorBlkD1
import Derived.Deep.QuietTactic
import Derived.BigQuiet
import Derived.Deep.RegionHeld3
namespace Go.Proofs.YtlhcckjfgpcohaaGreatDoor
open Go.RowKit
set_option maxRecDepth 100000
set_option linter.unusedSimpArgs false
set_option linter.unusedVariables false
/-- A fact with the addresses of its lists. -/
structure FE where
  f : Fct
  ta : Option Addr
  tn : Nat
  tc : Nat
  ba : Option Addr
  bn : Nat
  bc : Nat
  la : Option Addr
  ln : Nat
  lc : Nat
def elF (e : FE) : List Value := [.int .i64 e.f.n, .int .i64 e.f.tm, .int .i64 e.f.kd, .int .i64 e.f.st, .string ⟨e.f.lg.toArray⟩, .int .i64 e.f.rv, .int .i64 e.f.bs, .string ⟨e.f.ti.toArray⟩, .string ⟨e.f.au.toArray⟩, .slice e.ta e.tn e.tc, .slice e.ba e.bn e.bc, .int .i64 e.f.lb.u, .slice e.la e.ln e.lc, .int .i64 e.f.lb.ap, .int .i64 e.f.lb.d, .int .i64 e.f.ed, .int .i64 e.f.bk, .int .i64 e.f.se, .string ⟨e.f.tx.toArray⟩, .string ⟨e.f.nm.toArray⟩, .int .i64 e.f.pt, .int .i64 e.f.cl, .int .i64 e.f.un]
def IsTp (w : World) (a : Option Addr) (n c : Nat) (l : List (List UInt8)) : Prop :=
  l.length = n ∧ n ≤ c ∧ c ≤ maxLen ∧ (∀ s ∈ l, s.length ≤ maxLen) ∧ (n = 0 ∨ ∃ b off, a = some ⟨b, off, none⟩ ∧ ∀ i s, l[i]? = some s → w.cell? ⟨b, off + i, none⟩ = some (.string ⟨s.toArray⟩))
def IsBl (w : World) (a : Option Addr) (n c : Nat) (l : List Blk) : Prop := ∃ es, blks es = l ∧ IsBlks w a n c es
structure FeOk (w : World) (e : FE) : Prop where
  tp : IsTp w e.ta e.tn e.tc e.f.tp
  bl : IsBl w e.ba e.bn e.bc e.f.bl
  lb : LabAt w e.la e.ln e.lc e.f.lb
  ints : Bd e.f.n ∧ Bd e.f.tm ∧ Bd e.f.kd ∧ Bd e.f.st ∧ Bd e.f.rv ∧ Bd e.f.bs ∧ Bd e.f.ed ∧ Bd e.f.bk ∧ Bd e.f.se ∧ Bd e.f.pt ∧ Bd e.f.cl ∧ Bd e.f.un
  strs : e.f.lg.length ≤ maxLen ∧ e.f.ti.length ≤ maxLen ∧ e.f.au.length ≤ maxLen ∧ e.f.tx.length ≤ maxLen ∧ e.f.nm.length ≤ maxLen
theorem IsTp.over {w w' : World} {a : Option Addr} {n c : Nat} {l : List (List UInt8)} (hb : Below w.heap.size w w') (h : IsTp w a n c l) : IsTp w' a n c l := by
  obtain ⟨h1, h2, h3, h4, h5⟩ := h
  refine ⟨h1, h2, h3, h4, h5.imp id ?_⟩
  rintro ⟨b, off, e, hc⟩
  exact ⟨b, off, e, fun i s hs => cellOver hb (hc i s hs)⟩
theorem IsBl.over {w w' : World} {a : Option Addr} {n c : Nat} {l : List Blk} (hb : Below w.heap.size w w') (h : IsBl w a n c l) : IsBl w' a n c l := by
  obtain ⟨es, h1, h2⟩ := h
  exact ⟨es, h1, h2.over hb⟩
theorem FeOk.over {w w' : World} {e : FE} (hb : Below w.heap.size w w') (h : FeOk w e) : FeOk w' e := ⟨h.tp.over hb, h.bl.over hb, h.lb.over hb, h.ints, h.strs⟩
theorem nil_tp (w : World) : IsTp w none 0 0 [] := ⟨rfl, Nat.le_refl _, by unfold maxLen; omega, by simp, .inl rfl⟩
theorem nil_bl (w : World) : IsBl w none 0 0 [] := ⟨[], rfl, rfl, Nat.le_refl _, by unfold maxLen; omega, by simp, .inl rfl⟩
theorem nil_lab (w : World) : LabAt w none 0 0 zeroL := ⟨nil_ints w, by simp [zeroL, Bd]⟩
/-- A variable that holds a fact. -/
def FcAt (W : World) (B : Nat) (e : FE) : Prop := W.heap[B]? = some (.cells (elF e).toArray 28 (0, 0))
theorem FcAt.cell {W : World} {B : Nat} {e : FE} (h : FcAt W B e) (j : Nat) : W.cell? ⟨B, j, none⟩ = (elF e)[j]? := by
  unfold FcAt at h
  rw [Joins.cell_of_block h]
  simp
theorem FcAt.over {W W' : World} {B : Nat} {e : FE} (hb : Below W.heap.size W W') (h : FcAt W B e) : FcAt W' B e := blockOver hb h
theorem FcAt.set {W : World} {B : Nat} {e e' : FE} (h : FcAt W B e) (o : Nat) (v : Value) (he : (elF e).toArray.setIfInBounds o v = (elF e').toArray) : FcAt (W.setCell ⟨B, o, none⟩ v) B e' := by
  unfold FcAt at h ⊢
  rw [← he]
  exact Joins.block_setCell h v
/-- e with one field zero. -/
def clrE (x : Fld) (e : FE) : FE :=
  match x with
  | .tp => { e with f := setF x zF e.f, ta := none, tn := 0, tc := 0 }
  | .bl => { e with f := setF x zF e.f, ba := none, bn := 0, bc := 0 }
  | .lb => { e with f := setF x zF e.f, la := none, ln := 0, lc := 0 }
  | _ => { e with f := setF x zF e.f }
theorem clrE_f (x : Fld) (e : FE) : (clrE x e).f = setF x zF e.f := by cases x <;> rfl
theorem clrE_ok {x : Fld} {w : World} {e : FE} (h : FeOk w e) : FeOk w (clrE x e) := by
  obtain ⟨h1, h2, h3, ⟨i1, i2, i3, i4, i5, i6, i7, i8, i9, i10, i11, i12⟩, ⟨s1, s2, s3, s4, s5⟩⟩ := h
  have z : Bd 0 := by simp [Bd]
  have z2 : (0 : Nat) ≤ maxLen := Nat.zero_le _
  cases x <;> first
    | exact ⟨h1, h2, h3, ⟨by first | exact i1 | exact z, by first | exact i2 | exact z, by first | exact i3 | exact z, by first | exact i4 | exact z, by first | exact i5 | exact z, by first | exact i6 | exact z, by first | exact i7 | exact z, by first | exact i8 | exact z, by first | exact i9 | exact z, by first | exact i10 | exact z, by first | exact i11 | exact z, by first | exact i12 | exact z⟩, ⟨by first | exact s1 | exact z2, by first | exact s2 | exact z2, by first | exact s3 | exact z2, by first | exact s4 | exact z2, by first | exact s5 | exact z2⟩⟩
    | exact ⟨nil_tp w, h2, h3, ⟨i1, i2, i3, i4, i5, i6, i7, i8, i9, i10, i11, i12⟩, ⟨s1, s2, s3, s4, s5⟩⟩
    | exact ⟨h1, nil_bl w, h3, ⟨i1, i2, i3, i4, i5, i6, i7, i8, i9, i10, i11, i12⟩, ⟨s1, s2, s3, s4, s5⟩⟩
    | exact ⟨h1, h2, nil_lab w, ⟨i1, i2, i3, i4, i5, i6, i7, i8, i9, i10, i11, i12⟩, ⟨s1, s2, s3, s4, s5⟩⟩
theorem pl_enter (x : Fld) (args : Array Value) (w : World) : Sem.run Tryz.prog (callFunc (plN x) args) w = .ok (.enter (plN x) args) w := by
  cases x <;> kernel_rfl
theorem tst_enter (x : Fld) (args : Array Value) (w : World) : Sem.run Tryz.prog (callFunc (tstN x) args) w = .ok (.enter (tstN x) args) w := by
  cases x <;> kernel_rfl
/-- A function that finds a place in a fact. -/
structure Finds (p B o : Nat) : Prop where
  call : ∀ W, Calls Tryz.prog p #[pt B] W fun e w' => e = .returned (.pointer (some ⟨B, o, none⟩)) ∧ w' = W
  enter : ∀ args W, Sem.run Tryz.prog (callFunc p args) W = .ok (.enter p args) W
theorem finds (x : Fld) (B : Nat) : Finds (plN x) B (plO x) := ⟨fun W => (place_any x B W).mono (fun e w' h => ⟨h.1, h.2.symm⟩), pl_enter x⟩
set_option maxHeartbeats 1000000 in
theorem number1_any (n lo hi : Int) (gl gh : Nat) (w : World) (hl : w.cell? ⟨gl, 0, none⟩ = some (.int .i64 lo)) (hh : w.cell? ⟨gh, 0, none⟩ = some (.int .i64 hi)) :
    Calls Tryz.prog 64 #[.int .i64 n, pt gl, pt gh] w fun e w' => e = .returned (.bool (inB n lo hi)) ∧ w' = w := by
  go_enter Tryz.func64, Tryz.ntmps64
  go_wp2_with fail
  refine (inside5 n lo hi _).mono ?_
  rintro e w' ⟨rfl, rfl⟩
  go_wp2
  go_ret
  exact ⟨rfl, rfl⟩
set_option maxHeartbeats 1000000 in
theorem valid_i (p B o g3 g5 gl gh : Nat) (n lo hi : Int) (w : World) (hp : Hid (Finds p B o))
    (h3 : w.cell? ⟨g3, 0, none⟩ = some (.func (.func p) #[] #[])) (h5 : w.cell? ⟨g5, 0, none⟩ = some (.func (.func 64) #[] #[pt gl, pt gh]))
    (hl : w.cell? ⟨gl, 0, none⟩ = some (.int .i64 lo)) (hh : w.cell? ⟨gh, 0, none⟩ = some (.int .i64 hi)) (hn : w.cell? ⟨B, o, none⟩ = some (.int .i64 n)) :
    Calls Tryz.prog 90 #[pt B, pt g5, pt g3] w fun e w' => e = .returned (.bool (inB n lo hi)) ∧ Below w.heap.size w w' := by
  have K := Lib.hid (fun W hl hh => number1_any n lo hi gl gh W hl hh)
  have hcf := hp.out.enter
  go_enter Tryz.func90, Tryz.ntmps90
  go_wp2_with fail
  go_quiet (first | (go_at_call 64; exact Calls.quiet_of_same (K.out _ hl hh)) | (exact Calls.quiet_of_same (hp.out.call _)))
  go_wp2
  go_ret
  exact ⟨rfl, below_drewN (Below.refl _ _) _⟩
set_option maxHeartbeats 1000000 in
theorem valid_s (p q B o g3 g5 : Nat) (s : ByteArray) (R : Bool) (w : World) (hp : Hid (Finds p B o)) (hq : Hid (∀ W, Calls Tryz.prog q #[.string s] W fun e w' => e = .returned (.bool R) ∧ w' = W)) (hcq : ∀ args W, Sem.run Tryz.prog (callFunc q args) W = .ok (.enter q args) W)
    (h3 : w.cell? ⟨g3, 0, none⟩ = some (.func (.func p) #[] #[])) (h5 : w.cell? ⟨g5, 0, none⟩ = some (.func (.func q) #[] #[]))
    (hn : w.cell? ⟨B, o, none⟩ = some (.string s)) :
    Calls Tryz.prog 93 #[pt B, pt g5, pt g3] w fun e w' => e = .returned (.bool R) ∧ Below w.heap.size w w' := by
  have hcf := hp.out.enter
  go_enter Tryz.func93, Tryz.ntmps93
  go_wp2_with fail
  go_quiet (first | (exact Calls.quiet_of_same (hp.out.call _)) | (exact Calls.quiet_of_same (hq.out _)))
  go_wp2
  go_ret
  exact ⟨rfl, below_drewN (Below.refl _ _) _⟩
set_option maxHeartbeats 2000000 in
theorem valid_a (B g3 g5 : Nat) (u k d : Int) (a : Option Addr) (n c : Nat) (R : Bool) (w : World) (hq : Hid (∀ W, Below w.heap.size w W → Calls Tryz.prog 41 #[.agg #[.int .i64 u, .slice a n c, .int .i64 k, .int .i64 d]] W fun e w' => e = .returned (.bool R) ∧ Below W.heap.size W w'))
    (h3 : w.cell? ⟨g3, 0, none⟩ = some (.func (.func 39) #[] #[])) (h5 : w.cell? ⟨g5, 0, none⟩ = some (.func (.func 41) #[] #[]))
    (c11 : w.cell? ⟨B, 11, none⟩ = some (.int .i64 u)) (c12 : w.cell? ⟨B, 12, none⟩ = some (.slice a n c)) (c13 : w.cell? ⟨B, 13, none⟩ = some (.int .i64 k)) (c14 : w.cell? ⟨B, 14, none⟩ = some (.int .i64 d)) :
    Calls Tryz.prog 70 #[pt B, pt g5, pt g3] w fun e w' => e = .returned (.bool R) ∧ Below w.heap.size w w' := by
  go_enter Tryz.func70, Tryz.ntmps70
  go_wp2_with fail
  refine wp_region_held_drew (S := fun w' => Below w.heap.size w w' ∧ w'.cell? ⟨g3, 0, none⟩ = some (.func (.func 39) #[] #[]) ∧ w'.cell? ⟨g5, 0, none⟩ = some (.func (.func 41) #[] #[]) ∧ w'.cell? ⟨B, 11, none⟩ = some (.int .i64 u) ∧ w'.cell? ⟨B, 12, none⟩ = some (.slice a n c) ∧ w'.cell? ⟨B, 13, none⟩ = some (.int .i64 k) ∧ w'.cell? ⟨B, 14, none⟩ = some (.int .i64 d)) (by kernel_rfl) ?_ (fun h0 => ?_)
  · exact ⟨(Below.refl w.heap.size w).drew, h3, h5, c11, c12, c13, c14⟩
  refine wpAnyH_take (i := 0) (v := ?_) rfl (by kernel_rfl) (by kernel_rfl) (by kernel_rfl) (fun _ _ _ h => h) (Or.inl ⟨by rfl, ?_⟩) h0 ?_
  rotate_left
  · (intro w hSw; (try dsimp only at hSw); go_simp); all_goals (with_reducible rfl)
  try simp only [List.getElem_toArray, List.getElem_cons_succ, List.getElem_cons_zero, Act.put, List.setIfInBounds_toArray, List.set_cons_zero, List.set_cons_succ]
  refine wpAnyH_take (i := 1) (v := ?_) rfl (by kernel_rfl) (by kernel_rfl) (by kernel_rfl) (fun _ _ _ h => h) (Or.inl ⟨by rfl, ?_⟩) h0 ?_
  rotate_left
  · (intro w hSw; (try dsimp only at hSw); go_simp); all_goals (with_reducible rfl)
  try simp only [List.getElem_toArray, List.getElem_cons_succ, List.getElem_cons_zero, Act.put, List.setIfInBounds_toArray, List.set_cons_zero, List.set_cons_succ]
  refine wpAnyH_take (i := 2) (v := ?_) rfl (by kernel_rfl) (by kernel_rfl) (by kernel_rfl) (fun _ _ _ h => h) (Or.inl ⟨by rfl, ?_⟩) h0 ?_
  rotate_left
  · (intro w hSw; (try dsimp only at hSw); go_simp); all_goals (with_reducible rfl)
  try simp only [List.getElem_toArray, List.getElem_cons_succ, List.getElem_cons_zero, Act.put, List.setIfInBounds_toArray, List.set_cons_zero, List.set_cons_succ]
  refine wpAnyH_ready (rs := [3]) (by kernel_rfl) (by simp) ?_
  refine AllReadyH.cons rfl (fun K hK => ?_) AllReadyH.nil
  go_simp
  go_at_call 39
  refine (place_lb B _).mono ?_
  rintro e w1 ⟨rfl, rfl⟩
  go_wp2_with fail
  have bS := h0
  refine hK.out _ _ ?_ (fun h1 => ?_)
  · exact bS
  clear hK K h0 bS
  try simp only [List.getElem_toArray, List.getElem_cons_succ, List.getElem_cons_zero, Act.put, List.setIfInBounds_toArray, List.set_cons_zero, List.set_cons_succ]
  refine wpAnyH_take (i := 4) (v := ?_) rfl (by kernel_rfl) (by kernel_rfl) (by kernel_rfl) (fun _ _ _ h => h) (Or.inl ⟨by rfl, ?_⟩) h1 ?_
  rotate_left
  · (intro w hSw; (try dsimp only at hSw); go_simp); all_goals (with_reducible rfl)
  try simp only [List.getElem_toArray, List.getElem_cons_succ, List.getElem_cons_zero, Act.put, List.setIfInBounds_toArray, List.set_cons_zero, List.set_cons_succ]
  refine wpAnyH_take (i := 5) (v := ?_) rfl (by kernel_rfl) (by kernel_rfl) (by kernel_rfl) (fun _ _ _ h => h) (Or.inl ⟨by rfl, ?_⟩) h1 ?_
  rotate_left
  · (intro w hSw; (try dsimp only at hSw); go_simp); all_goals (with_reducible rfl)
  try simp only [List.getElem_toArray, List.getElem_cons_succ, List.getElem_cons_zero, Act.put, List.setIfInBounds_toArray, List.set_cons_zero, List.set_cons_succ]
  refine wpAnyH_ready (rs := [6]) (by kernel_rfl) (by simp) ?_
  refine AllReadyH.cons rfl (fun K hK => ?_) AllReadyH.nil
  go_simp
  go_at_call 41
  refine (hq.out _ h1.1).mono ?_
  rintro e w1 ⟨rfl, bq⟩
  go_wp2_with fail
  have bS := And.intro (bel2 h1.1 bq) (And.intro (cellOver bq (h1.2.1)) (And.intro (cellOver bq (h1.2.2.1)) (And.intro (cellOver bq (h1.2.2.2.1)) (And.intro (cellOver bq (h1.2.2.2.2.1)) (And.intro (cellOver bq (h1.2.2.2.2.2.1)) (cellOver bq (h1.2.2.2.2.2.2)))))))
  have BQ := Lib.hid (bel2 h1.1 bq)
  clear bq
  refine hK.out _ _ ?_ (fun h2 => ?_)
  · exact bS
  clear hK K h1 bS
  try simp only [List.getElem_toArray, List.getElem_cons_succ, List.getElem_cons_zero, Act.put, List.setIfInBounds_toArray, List.set_cons_zero, List.set_cons_succ]
  refine wpAnyH_take (i := 7) (v := ?_) rfl (by kernel_rfl) (by kernel_rfl) (by kernel_rfl) (fun _ _ _ h => h) (Or.inl ⟨by rfl, ?_⟩) h2 ?_
  rotate_left
  · (intro w hSw; (try dsimp only at hSw); go_simp); all_goals (with_reducible rfl)
  try simp only [List.getElem_toArray, List.getElem_cons_succ, List.getElem_cons_zero, Act.put, List.setIfInBounds_toArray, List.set_cons_zero, List.set_cons_succ]
  refine wpAnyH_done (by kernel_rfl) ?_ _
  clear h2
  go_wp2
  go_ret
  exact ⟨rfl, BQ.out⟩
set_option maxHeartbeats 2000000 in
theorem valid_t (B g3 g5 : Nat) (a : Option Addr) (n c : Nat) (R : Bool) (w : World) (hq : Hid (∀ W, Below w.heap.size w W → Calls Tryz.prog 83 #[.slice a n c] W fun e w' => e = .returned (.bool R) ∧ Below W.heap.size W w'))
    (h3 : w.cell? ⟨g3, 0, none⟩ = some (.func (.func 81) #[] #[])) (h5 : w.cell? ⟨g5, 0, none⟩ = some (.func (.func 83) #[] #[]))
    (c9 : w.cell? ⟨B, 9, none⟩ = some (.slice a n c)) :
    Calls Tryz.prog 96 #[pt B, pt g5, pt g3] w fun e w' => e = .returned (.bool R) ∧ Below w.heap.size w w' := by
  go_enter Tryz.func96, Tryz.ntmps96
  go_wp2_with fail
  refine wp_region_held_drew (S := fun w' => Below w.heap.size w w' ∧ w'.cell? ⟨g3, 0, none⟩ = some (.func (.func 81) #[] #[]) ∧ w'.cell? ⟨g5, 0, none⟩ = some (.func (.func 83) #[] #[]) ∧ w'.cell? ⟨B, 9, none⟩ = some (.slice a n c)) (by kernel_rfl) ?_ (fun h0 => ?_)
  · exact ⟨(Below.refl w.heap.size w).drew, h3, h5, c9⟩
  refine wpAnyH_take (i := 0) (v := ?_) rfl (by kernel_rfl) (by kernel_rfl) (by kernel_rfl) (fun _ _ _ h => h) (Or.inl ⟨by rfl, ?_⟩) h0 ?_
  rotate_left
  · (intro w hSw; (try dsimp only at hSw); go_simp); all_goals (with_reducible rfl)
  try simp only [List.getElem_toArray, List.getElem_cons_succ, List.getElem_cons_zero, Act.put, List.setIfInBounds_toArray, List.set_cons_zero, List.set_cons_succ]
  refine wpAnyH_take (i := 1) (v := ?_) rfl (by kernel_rfl) (by kernel_rfl) (by kernel_rfl) (fun _ _ _ h => h) (Or.inl ⟨by rfl, ?_⟩) h0 ?_
  rotate_left
  · (intro w hSw; (try dsimp only at hSw); go_simp); all_goals (with_reducible rfl)
  try simp only [List.getElem_toArray, List.getElem_cons_succ, List.getElem_cons_zero, Act.put, List.setIfInBounds_toArray, List.set_cons_zero, List.set_cons_succ]
  refine wpAnyH_take (i := 2) (v := ?_) rfl (by kernel_rfl) (by kernel_rfl) (by kernel_rfl) (fun _ _ _ h => h) (Or.inl ⟨by rfl, ?_⟩) h0 ?_
  rotate_left
  · (intro w hSw; (try dsimp only at hSw); go_simp); all_goals (with_reducible rfl)
  try simp only [List.getElem_toArray, List.getElem_cons_succ, List.getElem_cons_zero, Act.put, List.setIfInBounds_toArray, List.set_cons_zero, List.set_cons_succ]
  refine wpAnyH_ready (rs := [3]) (by kernel_rfl) (by simp) ?_
  refine AllReadyH.cons rfl (fun K hK => ?_) AllReadyH.nil
  go_simp
  go_at_call 81
  refine (place_tp B _).mono ?_
  rintro e w1 ⟨rfl, rfl⟩
  go_wp2_with fail
  have bS := h0
  refine hK.out _ _ ?_ (fun h1 => ?_)
  · exact bS
  clear hK K h0 bS
  try simp only [List.getElem_toArray, List.getElem_cons_succ, List.getElem_cons_zero, Act.put, List.setIfInBounds_toArray, List.set_cons_zero, List.set_cons_succ]
  refine wpAnyH_take (i := 4) (v := ?_) rfl (by kernel_rfl) (by kernel_rfl) (by kernel_rfl) (fun _ _ _ h => h) (Or.inl ⟨by rfl, ?_⟩) h1 ?_
  rotate_left
  · (intro w hSw; (try dsimp only at hSw); go_simp); all_goals (with_reducible rfl)
  try simp only [List.getElem_toArray, List.getElem_cons_succ, List.getElem_cons_zero, Act.put, List.setIfInBounds_toArray, List.set_cons_zero, List.set_cons_succ]
  refine wpAnyH_take (i := 5) (v := ?_) rfl (by kernel_rfl) (by kernel_rfl) (by kernel_rfl) (fun _ _ _ h => h) (Or.inl ⟨by rfl, ?_⟩) h1 ?_
  rotate_left
  · (intro w hSw; (try dsimp only at hSw); go_simp); all_goals (with_reducible rfl)
  try simp only [List.getElem_toArray, List.getElem_cons_succ, List.getElem_cons_zero, Act.put, List.setIfInBounds_toArray, List.set_cons_zero, List.set_cons_succ]
  refine wpAnyH_ready (rs := [6]) (by kernel_rfl) (by simp) ?_
  refine AllReadyH.cons rfl (fun K hK => ?_) AllReadyH.nil
  go_simp
  go_at_call 83
  refine (hq.out _ h1.1).mono ?_
  rintro e w1 ⟨rfl, bq⟩
  go_wp2_with fail
  have bS := And.intro (bel2 h1.1 bq) (And.intro (cellOver bq (h1.2.1)) (And.intro (cellOver bq (h1.2.2.1)) (cellOver bq (h1.2.2.2))))
  have BQ := Lib.hid (bel2 h1.1 bq)
  clear bq
  refine hK.out _ _ ?_ (fun h2 => ?_)
  · exact bS
  clear hK K h1 bS
  try simp only [List.getElem_toArray, List.getElem_cons_succ, List.getElem_cons_zero, Act.put, List.setIfInBounds_toArray, List.set_cons_zero, List.set_cons_succ]
  refine wpAnyH_take (i := 7) (v := ?_) rfl (by kernel_rfl) (by kernel_rfl) (by kernel_rfl) (fun _ _ _ h => h) (Or.inl ⟨by rfl, ?_⟩) h2 ?_
  rotate_left
  · (intro w hSw; (try dsimp only at hSw); go_simp); all_goals (with_reducible rfl)
  try simp only [List.getElem_toArray, List.getElem_cons_succ, List.getElem_cons_zero, Act.put, List.setIfInBounds_toArray, List.set_cons_zero, List.set_cons_succ]
  refine wpAnyH_done (by kernel_rfl) ?_ _
  clear h2
  go_wp2
  go_ret
  exact ⟨rfl, BQ.out⟩
set_option maxHeartbeats 2000000 in
theorem valid_b (B g3 g5 : Nat) (a : Option Addr) (n c : Nat) (R : Bool) (w : World) (hq : Hid (∀ W, Below w.heap.size w W → Calls Tryz.prog 86 #[.slice a n c] W fun e w' => e = .returned (.bool R) ∧ Below W.heap.size W w'))
    (h3 : w.cell? ⟨g3, 0, none⟩ = some (.func (.func 85) #[] #[])) (h5 : w.cell? ⟨g5, 0, none⟩ = some (.func (.func 86) #[] #[]))
    (c10 : w.cell? ⟨B, 10, none⟩ = some (.slice a n c)) :
    Calls Tryz.prog 100 #[pt B, pt g5, pt g3] w fun e w' => e = .returned (.bool R) ∧ Below w.heap.size w w' := by
  go_enter Tryz.func100, Tryz.ntmps100
  go_wp2_with fail
  refine wp_region_held_drew (S := fun w' => Below w.heap.size w w' ∧ w'.cell? ⟨g3, 0, none⟩ = some (.func (.func 85) #[] #[]) ∧ w'.cell? ⟨g5, 0, none⟩ = some (.func (.func 86) #[] #[]) ∧ w'.cell? ⟨B, 10, none⟩ = some (.slice a n c)) (by kernel_rfl) ?_ (fun h0 => ?_)
  · exact ⟨(Below.refl w.heap.size w).drew, h3, h5, c10⟩
  refine wpAnyH_take (i := 0) (v := ?_) rfl (by kernel_rfl) (by kernel_rfl) (by kernel_rfl) (fun _ _ _ h => h) (Or.inl ⟨by rfl, ?_⟩) h0 ?_
  rotate_left
  · (intro w hSw; (try dsimp only at hSw); go_simp); all_goals (with_reducible rfl)
  try simp only [List.getElem_toArray, List.getElem_cons_succ, List.getElem_cons_zero, Act.put, List.setIfInBounds_toArray, List.set_cons_zero, List.set_cons_succ]
  refine wpAnyH_take (i := 1) (v := ?_) rfl (by kernel_rfl) (by kernel_rfl) (by kernel_rfl) (fun _ _ _ h => h) (Or.inl ⟨by rfl, ?_⟩) h0 ?_
  rotate_left
  · (intro w hSw; (try dsimp only at hSw); go_simp); all_goals (with_reducible rfl)
  try simp only [List.getElem_toArray, List.getElem_cons_succ, List.getElem_cons_zero, Act.put, List.setIfInBounds_toArray, List.set_cons_zero, List.set_cons_succ]
  refine wpAnyH_take (i := 2) (v := ?_) rfl (by kernel_rfl) (by kernel_rfl) (by kernel_rfl) (fun _ _ _ h => h) (Or.inl ⟨by rfl, ?_⟩) h0 ?_
  rotate_left
  · (intro w hSw; (try dsimp only at hSw); go_simp); all_goals (with_reducible rfl)
  try simp only [List.getElem_toArray, List.getElem_cons_succ, List.getElem_cons_zero, Act.put, List.setIfInBounds_toArray, List.set_cons_zero, List.set_cons_succ]
  refine wpAnyH_ready (rs := [3]) (by kernel_rfl) (by simp) ?_
  refine AllReadyH.cons rfl (fun K hK => ?_) AllReadyH.nil
  go_simp
  go_at_call 85
  refine (place_bl B _).mono ?_
  rintro e w1 ⟨rfl, rfl⟩
  go_wp2_with fail
  have bS := h0
  refine hK.out _ _ ?_ (fun h1 => ?_)
  · exact bS
  clear hK K h0 bS
  try simp only [List.getElem_toArray, List.getElem_cons_succ, List.getElem_cons_zero, Act.put, List.setIfInBounds_toArray, List.set_cons_zero, List.set_cons_succ]
  refine wpAnyH_take (i := 4) (v := ?_) rfl (by kernel_rfl) (by kernel_rfl) (by kernel_rfl) (fun _ _ _ h => h) (Or.inl ⟨by rfl, ?_⟩) h1 ?_
  rotate_left
  · (intro w hSw; (try dsimp only at hSw); go_simp); all_goals (with_reducible rfl)
  try simp only [List.getElem_toArray, List.getElem_cons_succ, List.getElem_cons_zero, Act.put, List.setIfInBounds_toArray, List.set_cons_zero, List.set_cons_succ]
  refine wpAnyH_take (i := 5) (v := ?_) rfl (by kernel_rfl) (by kernel_rfl) (by kernel_rfl) (fun _ _ _ h => h) (Or.inl ⟨by rfl, ?_⟩) h1 ?_
  rotate_left
  · (intro w hSw; (try dsimp only at hSw); go_simp); all_goals (with_reducible rfl)
  try simp only [List.getElem_toArray, List.getElem_cons_succ, List.getElem_cons_zero, Act.put, List.setIfInBounds_toArray, List.set_cons_zero, List.set_cons_succ]
  refine wpAnyH_ready (rs := [6]) (by kernel_rfl) (by simp) ?_
  refine AllReadyH.cons rfl (fun K hK => ?_) AllReadyH.nil
  go_simp
  go_at_call 86
  refine (hq.out _ h1.1).mono ?_
  rintro e w1 ⟨rfl, bq⟩
  go_wp2_with fail
  have bS := And.intro (bel2 h1.1 bq) (And.intro (cellOver bq (h1.2.1)) (And.intro (cellOver bq (h1.2.2.1)) (cellOver bq (h1.2.2.2))))
  have BQ := Lib.hid (bel2 h1.1 bq)
  clear bq
  refine hK.out _ _ ?_ (fun h2 => ?_)
  · exact bS
  clear hK K h1 bS
  try simp only [List.getElem_toArray, List.getElem_cons_succ, List.getElem_cons_zero, Act.put, List.setIfInBounds_toArray, List.set_cons_zero, List.set_cons_succ]
  refine wpAnyH_take (i := 7) (v := ?_) rfl (by kernel_rfl) (by kernel_rfl) (by kernel_rfl) (fun _ _ _ h => h) (Or.inl ⟨by rfl, ?_⟩) h2 ?_
  rotate_left
  · (intro w hSw; (try dsimp only at hSw); go_simp); all_goals (with_reducible rfl)
  try simp only [List.getElem_toArray, List.getElem_cons_succ, List.getElem_cons_zero, Act.put, List.setIfInBounds_toArray, List.set_cons_zero, List.set_cons_succ]
  refine wpAnyH_done (by kernel_rfl) ?_ _
  clear h2
  go_wp2
  go_ret
  exact ⟨rfl, BQ.out⟩
end Go.Proofs.YtlhcckjfgpcohaaGreatDoor
