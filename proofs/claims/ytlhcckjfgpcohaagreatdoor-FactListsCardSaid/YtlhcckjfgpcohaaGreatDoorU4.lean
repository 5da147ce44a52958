/- A fact that is handed back through a variable. Package fact: a reader reads fields. Package fact: a reader reads lists of fields. Package fact: a reader reads a field. Package fact: a reader reads lists of fields, and a fact. Package fact: Decode. -/
import Derived.Test.YtlhcckjfgpcohaaGreatDoorU1
import Derived.Test.YtlhcckjfgpcohaaGreatDoorU3
import Derived.Deep.MidRow
import Derived.Laws.IdiomCopy
import Derived.Test.YtlhcckjfgpcohaaGreatDoorU2
import Derived.Defers
import Derived.Recover
import Derived.Tactics2
import Derived.Laws.Pointers
namespace Go.Proofs.YtlhcckjfgpcohaaGreatDoor
open Go.RowKit
set_option maxRecDepth 100000
set_option linter.unusedSimpArgs false
set_option linter.unusedVariables false
theorem results_two {P : Program} {fn : Func} {tmps : Array Value} {w : World} {t1 t2 : TypeId} {a1 a2 : Addr} {v1 v2 : Value} (hr : fn.results = #[.cell 2 t1, .cell 3 t2]) (h1 : (loadVar t1 a1).run P w = .ok v1 w) (h2 : (loadVar t2 a2).run P w = .ok v2 w)
    (ht1 : tmps.getD 2 undef = .pointer (some a1)) (ht2 : tmps.getD 3 undef = .pointer (some a2)) : (results fn tmps).run P w = .ok (.tuple #[v1, v2]) w := by
  simp only [results, hr, ht1, ht2, asAddr, List.mapM_cons, List.mapM_nil, Sem.run_bind, Sem.run_pure, Result.andThen_ok, h1, h2, bind_pure_comp, Array.mapM_eq_mapM_toList, Sem.run_map]
  rfl
theorem results_one {P : Program} {fn : Func} {tmps : Array Value} {w : World} {t1 : TypeId} {a1 : Addr} {k : Nat} {v1 : Value} (hr : fn.results = #[.cell k t1]) (h1 : (loadVar t1 a1).run P w = .ok v1 w)
    (ht1 : tmps.getD k undef = .pointer (some a1)) : (results fn tmps).run P w = .ok v1 w := by
  simp only [results, hr, ht1, asAddr, List.mapM_cons, List.mapM_nil, Sem.run_bind, Sem.run_pure, Result.andThen_ok, h1, bind_pure_comp, Array.mapM_eq_mapM_toList, Sem.run_map]
  rfl
theorem Kp.setCells {S : Nat → Prop} {a : World} {g : Nat} (hg : S g) : ∀ (vs : List Value) (o : Nat) (w : World), Kp S a w → Kp S a (w.setCells g o vs)
  | [], _, _, h => h
  | v :: vs, o, w, h => Kp.setCells hg vs (o + 1) _ (h.setCell hg o v)
theorem FcAt.range {W : World} {B : Nat} {e : FE} (h : FcAt W B e) : W.rangeAt B 0 (elF e) := fun j v hv => by
  rw [Nat.zero_add, h.cell]; exact hv
theorem FcAt.there {W : World} {B : Nat} {e : FE} (h : FcAt W B e) : W.there B 0 23 := fun j hj => by
  refine ⟨?_, ?_⟩
  · rw [Nat.zero_add, h.cell, List.getElem?_eq_getElem (by simpa [elF] using hj)]; rfl
  · exact Joins.unfrozen_of_block h _
theorem FcAt.other {W : World} {B g o : Nat} {e : FE} {v : Value} (h : FcAt W B e) (hne : B ≠ g) : FcAt (W.setCell ⟨g, o, none⟩ v) B e := by
  unfold FcAt
  rw [Below.heap_setCell _ _ _ _ hne]
  exact h
theorem load_fact {W : World} {B : Nat} {e : FE} (h : W.rangeAt B 0 (elF e)) : (loadVar 28 ⟨B, 0, none⟩).run Tryz.prog W = .ok (aggF e) W :=
  run_loadVar_mid W B 0 28 (elF e) _ h Tryz.underlying28 rfl (by kernel_rfl)
/-- A store of a whole fact. -/
theorem wpList_storeK {ops : Array Oper} {rest : List Oper} {op : Oper} {a : Act} {W : World} {Q : Exit → Act → World → Prop} (B : Nat) (e : FE) (hT : W.there B 0 23) (x y : Operand) (hgd : op.guard = none) (ho : op.op = .store 28 x y)
    (hx : a.eval x = .pointer (some ⟨B, 0, none⟩)) (hy : a.eval y = .agg (elF e).toArray) (h : wpList Tryz.prog ops Q rest (a.put op.dst undef) (W.setCells B 0 (elF e))) : wpList Tryz.prog ops Q (op :: rest) a W :=
  wpList_store_mid hgd 28 x y ho B 0 (elF e).toArray hx hy (by simpa [elF] using hT) (by kernel_rfl) (one_elF e) h
end Go.Proofs.YtlhcckjfgpcohaaGreatDoor
namespace Go.Proofs.YtlhcckjfgpcohaaGreatDoor
open Go.RowKit
set_option maxRecDepth 100000
set_option linter.unusedSimpArgs false
set_option linter.unusedVariables false
theorem Blk1.kp {w w' : World} {R Bf g : Nat} {s : ByteArray} {q : Int} {e : FE} {v : Value} (hR : Rd5 w R s q) (hF : FcAt w Bf e) (hk : Kp (RG R Bf) w w') (b : Blk1 w g v) : Blk1 w' g v := by
  have hne := blk1_ne hF b
  obtain ⟨t, ht⟩ := b
  refine ⟨t, hk.heap ht ?_⟩
  rintro (rfl | rfl)
  · unfold Rd5 at hR
    rw [hR] at ht
    have h2 := (Obj.cells.inj (Option.some.inj ht)).2.1
    exact t.2.2.2 h2.symm
  · exact hne rfl
theorem TstAt.kp {w w' : World} {R Bf g : Nat} {s : ByteArray} {q : Int} {e : FE} {x : Fld} (hR : Rd5 w R s q) (hF : FcAt w Bf e) (hk : Kp (RG R Bf) w w') (h : TstAt w x g) : TstAt w' x g := by
  unfold TstAt at h ⊢
  split
  · rename_i q
    rw [q] at h
    obtain ⟨lo, hi, h1, h2, h3⟩ := h
    exact ⟨lo, hi, h1.kp hR hF hk, h2.kp hR hF hk, h3.kp hR hF hk⟩
  · rename_i q
    split at h
    · rename_i q2; exact absurd q2 q
    · exact h.kp hR hF hk
theorem IsFld.kp {w w' : World} {R Bf : Nat} {s : ByteArray} {q : Int} {e : FE} {x : Fld} {v : V3} (hR : Rd5 w R s q) (hF : FcAt w Bf e) (hk : Kp (RG R Bf) w w') (h : IsFld w x v) : IsFld w' x v := by
  obtain ⟨g3, g4, g5, h0, h1, h2, h3⟩ := h
  exact ⟨g3, g4, g5, h0, h1.kp hR hF hk, h2.kp hR hF hk, h3.kp hR hF hk⟩
theorem Flds.kp {w w' : World} {R Bf : Nat} {s : ByteArray} {q : Int} {e : FE} (hR : Rd5 w R s q) (hF : FcAt w Bf e) (hk : Kp (RG R Bf) w w') : ∀ {l : List Fld} {vs : List V3}, Flds w l vs → Flds w' l vs
  | [], [], _ => trivial
  | x :: l, v :: vs, h => ⟨h.1.kp hR hF hk, Flds.kp hR hF hk h.2⟩
  | [], _ :: _, h => h
  | _ :: _, [], h => h
theorem IsFls.kp {w w' : World} {R Bf : Nat} {s : ByteArray} {q : Int} {e : FE} {a : Option Addr} {n c : Nat} {l : List Fld} (hR : Rd5 w R s q) (hF : FcAt w Bf e) (hk : Kp (RG R Bf) w w') (h0 : 0 < l.length) (h : IsFls w a n c l) : IsFls w' a n c l := by
  obtain ⟨vs, ⟨h1, h2, h3, h4, b, off, e5, h6, h7⟩, hf⟩ := h
  obtain ⟨x, hx⟩ : ∃ x, l[0]? = some x := ⟨l[0], List.getElem?_eq_getElem h0⟩
  obtain ⟨v, hv, hfl⟩ := hf.at hx
  have hne : b ≠ Bf := by
    rintro rfl
    obtain ⟨g3, g4, g5, rfl, _⟩ := hfl
    have := h7 0 _ hv 0 _ rfl
    rw [hF.cell] at this
    exact elF_nofunc _ _ _ _ _ this
  obtain ⟨cs, t, fr, hh⟩ := h6
  have hneR : b ≠ R := by
    rintro rfl
    unfold Rd5 at hR
    rw [hR] at hh
    exact t.2.2.2 (Obj.cells.inj (Option.some.inj hh)).2.1.symm
  have hb2 := hk.heap hh (by rintro (q | q); exact hneR q; exact hne q)
  refine ⟨vs, ⟨h1, h2, h3, h4, b, off, e5, ⟨cs, t, fr, hb2⟩, fun k v hv j u hu => ?_⟩, hf.kp hR hF hk⟩
  have hc := h7 k v hv j u hu
  rw [Joins.cell_of_block hh] at hc
  rw [Joins.cell_of_block hb2]
  exact hc
set_option maxHeartbeats 2000000 in
theorem r1_i (R p Bf g3 g4 : Nat) (e : FE) (o : Nat) (s : ByteArray) (q : Int) (w : World) (hs : s.size ≤ maxLen) (h : Rd5 w R s q) (hne : Bf ≠ R) (hp : Hid (Finds p Bf o)) (hF : FcAt w Bf e) (b3 : Blk1 w g3 (.func (.func p) #[] #[])) (b4 : Blk1 w g4 (.func (.methodOf 79 "copydesk/fact.number") #[] #[])) (ho : o < (elF e).toArray.size) :
    Calls Tryz.prog 89 #[cvR R, pt Bf, pt g4, pt g3] w (RdOut R (RG R Bf) s (intAt s.data.toList q).2 (fun w' => w'.heap[Bf]? = some (.cells ((elF e).toArray.setIfInBounds o (.int .i64 (intAt s.data.toList q).1)) 28 (0, 0))) w) := by
  have KC := Lib.hid (rnumber R Bf o s q (elF e).toArray 28 w.drew hs h hne hF ho)
  have HS := Lib.hid (fun w' (hk : Kp (RG R Bf) w w') => And.intro (b4.kp h hF hk).cell (b3.kp h hF hk).cell)
  have h3 := b3.cell
  have h4 := b4.cell
  have hcf := hp.out.enter
  have hm1 := fun w => mR_number ⟨R, 0, none⟩ w
  have hm2 := fun w => mR_text ⟨R, 0, none⟩ w
  have hm3 := fun w => mR_blocks ⟨R, 0, none⟩ w
  clear h hF b3 b4
  unfold cvR at *
  go_enter Tryz.func89, Tryz.ntmps89
  go_wp2_with fail
  refine wp_region_held_drew (S := fun w' => w'.cell? ⟨g4, 0, none⟩ = some (.func (.methodOf 79 "copydesk/fact.number") #[] #[]) ∧ w'.cell? ⟨g3, 0, none⟩ = some (.func (.func p) #[] #[])) (by kernel_rfl) ?_ (fun h0 => ?_)
  · exact ⟨h4, h3⟩
  refine wpAnyH_take (i := 0) (v := ?_) rfl (by kernel_rfl) (by kernel_rfl) (by kernel_rfl) (fun _ _ _ h => h) (Or.inl ⟨by rfl, ?_⟩) h0 ?_
  rotate_left
  · (intro w hSw; (try dsimp only at hSw); go_simp); all_goals (with_reducible rfl)
  try simp only [List.getElem_toArray, List.getElem_cons_succ, List.getElem_cons_zero, Act.put, List.setIfInBounds_toArray, List.set_cons_zero, List.set_cons_succ]
  refine wpAnyH_take (i := 1) (v := ?_) rfl (by kernel_rfl) (by kernel_rfl) (by kernel_rfl) (fun _ _ _ h => h) (Or.inl ⟨by rfl, ?_⟩) h0 ?_
  rotate_left
  · (intro w hSw; (try dsimp only at hSw); go_simp); all_goals (with_reducible rfl)
  try simp only [List.getElem_toArray, List.getElem_cons_succ, List.getElem_cons_zero, Act.put, List.setIfInBounds_toArray, List.set_cons_zero, List.set_cons_succ]
  refine wpAnyH_take (i := 2) (v := ?_) rfl (by kernel_rfl) (by kernel_rfl) (by kernel_rfl) (fun _ _ _ h => h) (Or.inl ⟨by rfl, ?_⟩) h0 ?_
  rotate_left
  · (intro w hSw; (try dsimp only at hSw); go_simp); all_goals (with_reducible rfl)
  try simp only [List.getElem_toArray, List.getElem_cons_succ, List.getElem_cons_zero, Act.put, List.setIfInBounds_toArray, List.set_cons_zero, List.set_cons_succ]
  refine wpAnyH_take (i := 3) (v := ?_) rfl (by kernel_rfl) (by kernel_rfl) (by kernel_rfl) (fun _ _ _ h => h) (Or.inl ⟨by rfl, ?_⟩) h0 ?_
  rotate_left
  · (intro w hSw; (try dsimp only at hSw); go_simp); all_goals (with_reducible rfl)
  try simp only [List.getElem_toArray, List.getElem_cons_succ, List.getElem_cons_zero, Act.put, List.setIfInBounds_toArray, List.set_cons_zero, List.set_cons_succ]
  refine wpAnyH_ready (rs := [4]) (by kernel_rfl) (by simp) ?_
  refine AllReadyH.cons rfl (fun K hK => ?_) AllReadyH.nil
  go_simp
  refine (hp.out.call _).mono ?_
  rintro e w1 ⟨rfl, rfl⟩
  go_wp2_with fail
  have bS := h0
  refine hK.out _ _ ?_ (fun h1 => ?_)
  · exact bS
  clear hK K h0 bS
  try simp only [List.getElem_toArray, List.getElem_cons_succ, List.getElem_cons_zero, Act.put, List.setIfInBounds_toArray, List.set_cons_zero, List.set_cons_succ]
  refine wpAnyH_ready (rs := [5]) (by kernel_rfl) (by simp) ?_
  refine AllReadyH.cons rfl (fun K hK => ?_) AllReadyH.nil
  go_simp
  refine KC.out.mono ?_
  rintro e2 w2 (⟨k1, rfl, k2, k3, k4⟩ | ⟨k1, rfl, hk⟩)
  rotate_left
  · have H0 := Lib.hid k1
    have HK := Lib.hid (show Kp (RG R Bf) w w2 from (Kp.of_below (below_drew w)).trans hk)
    clear k1 hk
    exact ⟨rfl, .inr ⟨H0.out, rfl, HK.out⟩⟩
  have Q1 := Lib.hid k1
  have Q2 := Lib.hid k2
  have Q3 := Lib.hid k3
  have Q4 := Lib.hid (show Kp (RG R Bf) w w2 from (Kp.of_below (below_drew w)).trans k4)
  clear k1 k2 k3 k4
  go_wp2_with fail
  have bS := HS.out _ Q4.out
  refine hK.out _ _ ?_ (fun h2 => ?_)
  · exact bS
  clear hK K h1 bS
  try simp only [List.getElem_toArray, List.getElem_cons_succ, List.getElem_cons_zero, Act.put, List.setIfInBounds_toArray, List.set_cons_zero, List.set_cons_succ]
  refine wpAnyH_done (by kernel_rfl) ?_ _
  clear h2
  clear hm1 hm2 hm3 KC HS
  go_wp2
  go_end0
  exact .inl ⟨Q1.out, rfl, Q2.out, Q3.out, Q4.out⟩
set_option maxHeartbeats 2000000 in
theorem r1_s (R p Bf g3 g4 : Nat) (e : FE) (o : Nat) (s : ByteArray) (q : Int) (w : World) (hs : s.size ≤ maxLen) (h : Rd5 w R s q) (hne : Bf ≠ R) (hp : Hid (Finds p Bf o)) (hF : FcAt w Bf e) (b3 : Blk1 w g3 (.func (.func p) #[] #[])) (b4 : Blk1 w g4 (.func (.methodOf 79 "copydesk/fact.text") #[] #[])) (ho : o < (elF e).toArray.size) :
    Calls Tryz.prog 92 #[cvR R, pt Bf, pt g4, pt g3] w (RdOut R (RG R Bf) s (strAt s.data.toList q).2 (fun w' => w'.heap[Bf]? = some (.cells ((elF e).toArray.setIfInBounds o (.string ⟨((strAt s.data.toList q).1).toArray⟩)) 28 (0, 0))) w) := by
  have KC := Lib.hid (rtext R Bf o s q (elF e).toArray 28 w.drew hs h hne hF ho)
  have HS := Lib.hid (fun w' (hk : Kp (RG R Bf) w w') => And.intro (b4.kp h hF hk).cell (b3.kp h hF hk).cell)
  have h3 := b3.cell
  have h4 := b4.cell
  have hcf := hp.out.enter
  have hm1 := fun w => mR_number ⟨R, 0, none⟩ w
  have hm2 := fun w => mR_text ⟨R, 0, none⟩ w
  have hm3 := fun w => mR_blocks ⟨R, 0, none⟩ w
  clear h hF b3 b4
  unfold cvR at *
  go_enter Tryz.func92, Tryz.ntmps92
  go_wp2_with fail
  refine wp_region_held_drew (S := fun w' => w'.cell? ⟨g4, 0, none⟩ = some (.func (.methodOf 79 "copydesk/fact.text") #[] #[]) ∧ w'.cell? ⟨g3, 0, none⟩ = some (.func (.func p) #[] #[])) (by kernel_rfl) ?_ (fun h0 => ?_)
  · exact ⟨h4, h3⟩
  refine wpAnyH_take (i := 0) (v := ?_) rfl (by kernel_rfl) (by kernel_rfl) (by kernel_rfl) (fun _ _ _ h => h) (Or.inl ⟨by rfl, ?_⟩) h0 ?_
  rotate_left
  · (intro w hSw; (try dsimp only at hSw); go_simp); all_goals (with_reducible rfl)
  try simp only [List.getElem_toArray, List.getElem_cons_succ, List.getElem_cons_zero, Act.put, List.setIfInBounds_toArray, List.set_cons_zero, List.set_cons_succ]
  refine wpAnyH_take (i := 1) (v := ?_) rfl (by kernel_rfl) (by kernel_rfl) (by kernel_rfl) (fun _ _ _ h => h) (Or.inl ⟨by rfl, ?_⟩) h0 ?_
  rotate_left
  · (intro w hSw; (try dsimp only at hSw); go_simp); all_goals (with_reducible rfl)
  try simp only [List.getElem_toArray, List.getElem_cons_succ, List.getElem_cons_zero, Act.put, List.setIfInBounds_toArray, List.set_cons_zero, List.set_cons_succ]
  refine wpAnyH_take (i := 2) (v := ?_) rfl (by kernel_rfl) (by kernel_rfl) (by kernel_rfl) (fun _ _ _ h => h) (Or.inl ⟨by rfl, ?_⟩) h0 ?_
  rotate_left
  · (intro w hSw; (try dsimp only at hSw); go_simp); all_goals (with_reducible rfl)
  try simp only [List.getElem_toArray, List.getElem_cons_succ, List.getElem_cons_zero, Act.put, List.setIfInBounds_toArray, List.set_cons_zero, List.set_cons_succ]
  refine wpAnyH_take (i := 3) (v := ?_) rfl (by kernel_rfl) (by kernel_rfl) (by kernel_rfl) (fun _ _ _ h => h) (Or.inl ⟨by rfl, ?_⟩) h0 ?_
  rotate_left
  · (intro w hSw; (try dsimp only at hSw); go_simp); all_goals (with_reducible rfl)
  try simp only [List.getElem_toArray, List.getElem_cons_succ, List.getElem_cons_zero, Act.put, List.setIfInBounds_toArray, List.set_cons_zero, List.set_cons_succ]
  refine wpAnyH_ready (rs := [4]) (by kernel_rfl) (by simp) ?_
  refine AllReadyH.cons rfl (fun K hK => ?_) AllReadyH.nil
  go_simp
  refine (hp.out.call _).mono ?_
  rintro e w1 ⟨rfl, rfl⟩
  go_wp2_with fail
  have bS := h0
  refine hK.out _ _ ?_ (fun h1 => ?_)
  · exact bS
  clear hK K h0 bS
  try simp only [List.getElem_toArray, List.getElem_cons_succ, List.getElem_cons_zero, Act.put, List.setIfInBounds_toArray, List.set_cons_zero, List.set_cons_succ]
  refine wpAnyH_ready (rs := [5]) (by kernel_rfl) (by simp) ?_
  refine AllReadyH.cons rfl (fun K hK => ?_) AllReadyH.nil
  go_simp
  refine KC.out.mono ?_
  rintro e2 w2 (⟨k1, rfl, k2, k3, k4⟩ | ⟨k1, rfl, hk⟩)
  rotate_left
  · have H0 := Lib.hid k1
    have HK := Lib.hid (show Kp (RG R Bf) w w2 from (Kp.of_below (below_drew w)).trans hk)
    clear k1 hk
    exact ⟨rfl, .inr ⟨H0.out, rfl, HK.out⟩⟩
  have Q1 := Lib.hid k1
  have Q2 := Lib.hid k2
  have Q3 := Lib.hid k3
  have Q4 := Lib.hid (show Kp (RG R Bf) w w2 from (Kp.of_below (below_drew w)).trans k4)
  clear k1 k2 k3 k4
  go_wp2_with fail
  have bS := HS.out _ Q4.out
  refine hK.out _ _ ?_ (fun h2 => ?_)
  · exact bS
  clear hK K h1 bS
  try simp only [List.getElem_toArray, List.getElem_cons_succ, List.getElem_cons_zero, Act.put, List.setIfInBounds_toArray, List.set_cons_zero, List.set_cons_succ]
  refine wpAnyH_done (by kernel_rfl) ?_ _
  clear h2
  clear hm1 hm2 hm3 KC HS
  go_wp2
  go_end0
  exact .inl ⟨Q1.out, rfl, Q2.out, Q3.out, Q4.out⟩
set_option maxHeartbeats 2000000 in
theorem r1_b (R p Bf g3 g4 : Nat) (e : FE) (o : Nat) (s : ByteArray) (q : Int) (w : World) (hs : s.size ≤ maxLen) (h : Rd5 w R s q) (hne : Bf ≠ R) (hp : Hid (Finds p Bf o)) (hF : FcAt w Bf e) (b3 : Blk1 w g3 (.func (.func p) #[] #[])) (b4 : Blk1 w g4 (.func (.methodOf 79 "copydesk/fact.blocks") #[] #[])) (ho : o < (elF e).toArray.size) :
    Calls Tryz.prog 99 #[cvR R, pt Bf, pt g4, pt g3] w (RdOut R (RG R Bf) s (rdBl s.data.toList (q, 0)).2 (BlAt Bf o (elF e).toArray 28 w.heap.size (rdBl s.data.toList (q, 0)).1) w) := by
  have KC := Lib.hid (rblocks R Bf o s q (elF e).toArray 28 w.drew hs h hne hF ho)
  have HS := Lib.hid (fun w' (hk : Kp (RG R Bf) w w') => And.intro (b4.kp h hF hk).cell (b3.kp h hF hk).cell)
  have h3 := b3.cell
  have h4 := b4.cell
  have hcf := hp.out.enter
  have hm1 := fun w => mR_number ⟨R, 0, none⟩ w
  have hm2 := fun w => mR_text ⟨R, 0, none⟩ w
  have hm3 := fun w => mR_blocks ⟨R, 0, none⟩ w
  clear h hF b3 b4
  unfold cvR at *
  go_enter Tryz.func99, Tryz.ntmps99
  go_wp2_with fail
  refine wp_region_held_drew (S := fun w' => w'.cell? ⟨g4, 0, none⟩ = some (.func (.methodOf 79 "copydesk/fact.blocks") #[] #[]) ∧ w'.cell? ⟨g3, 0, none⟩ = some (.func (.func p) #[] #[])) (by kernel_rfl) ?_ (fun h0 => ?_)
  · exact ⟨h4, h3⟩
  refine wpAnyH_take (i := 0) (v := ?_) rfl (by kernel_rfl) (by kernel_rfl) (by kernel_rfl) (fun _ _ _ h => h) (Or.inl ⟨by rfl, ?_⟩) h0 ?_
  rotate_left
  · (intro w hSw; (try dsimp only at hSw); go_simp); all_goals (with_reducible rfl)
  try simp only [List.getElem_toArray, List.getElem_cons_succ, List.getElem_cons_zero, Act.put, List.setIfInBounds_toArray, List.set_cons_zero, List.set_cons_succ]
  refine wpAnyH_take (i := 1) (v := ?_) rfl (by kernel_rfl) (by kernel_rfl) (by kernel_rfl) (fun _ _ _ h => h) (Or.inl ⟨by rfl, ?_⟩) h0 ?_
  rotate_left
  · (intro w hSw; (try dsimp only at hSw); go_simp); all_goals (with_reducible rfl)
  try simp only [List.getElem_toArray, List.getElem_cons_succ, List.getElem_cons_zero, Act.put, List.setIfInBounds_toArray, List.set_cons_zero, List.set_cons_succ]
  refine wpAnyH_take (i := 2) (v := ?_) rfl (by kernel_rfl) (by kernel_rfl) (by kernel_rfl) (fun _ _ _ h => h) (Or.inl ⟨by rfl, ?_⟩) h0 ?_
  rotate_left
  · (intro w hSw; (try dsimp only at hSw); go_simp); all_goals (with_reducible rfl)
  try simp only [List.getElem_toArray, List.getElem_cons_succ, List.getElem_cons_zero, Act.put, List.setIfInBounds_toArray, List.set_cons_zero, List.set_cons_succ]
  refine wpAnyH_take (i := 3) (v := ?_) rfl (by kernel_rfl) (by kernel_rfl) (by kernel_rfl) (fun _ _ _ h => h) (Or.inl ⟨by rfl, ?_⟩) h0 ?_
  rotate_left
  · (intro w hSw; (try dsimp only at hSw); go_simp); all_goals (with_reducible rfl)
  try simp only [List.getElem_toArray, List.getElem_cons_succ, List.getElem_cons_zero, Act.put, List.setIfInBounds_toArray, List.set_cons_zero, List.set_cons_succ]
  refine wpAnyH_ready (rs := [4]) (by kernel_rfl) (by simp) ?_
  refine AllReadyH.cons rfl (fun K hK => ?_) AllReadyH.nil
  go_simp
  refine (hp.out.call _).mono ?_
  rintro e w1 ⟨rfl, rfl⟩
  go_wp2_with fail
  have bS := h0
  refine hK.out _ _ ?_ (fun h1 => ?_)
  · exact bS
  clear hK K h0 bS
  try simp only [List.getElem_toArray, List.getElem_cons_succ, List.getElem_cons_zero, Act.put, List.setIfInBounds_toArray, List.set_cons_zero, List.set_cons_succ]
  refine wpAnyH_ready (rs := [5]) (by kernel_rfl) (by simp) ?_
  refine AllReadyH.cons rfl (fun K hK => ?_) AllReadyH.nil
  go_simp
  refine KC.out.mono ?_
  rintro e2 w2 (⟨k1, rfl, k2, k3, k4⟩ | ⟨k1, rfl, hk⟩)
  rotate_left
  · have H0 := Lib.hid k1
    have HK := Lib.hid (show Kp (RG R Bf) w w2 from (Kp.of_below (below_drew w)).trans hk)
    clear k1 hk
    exact ⟨rfl, .inr ⟨H0.out, rfl, HK.out⟩⟩
  have Q1 := Lib.hid k1
  have Q2 := Lib.hid k2
  have Q3 := Lib.hid k3
  have Q4 := Lib.hid (show Kp (RG R Bf) w w2 from (Kp.of_below (below_drew w)).trans k4)
  clear k1 k2 k3 k4
  go_wp2_with fail
  have bS := HS.out _ Q4.out
  refine hK.out _ _ ?_ (fun h2 => ?_)
  · exact bS
  clear hK K h1 bS
  try simp only [List.getElem_toArray, List.getElem_cons_succ, List.getElem_cons_zero, Act.put, List.setIfInBounds_toArray, List.set_cons_zero, List.set_cons_succ]
  refine wpAnyH_done (by kernel_rfl) ?_ _
  clear h2
  clear hm1 hm2 hm3 KC HS
  go_wp2
  go_end0
  exact .inl ⟨Q1.out, rfl, Q2.out, Q3.out, Q4.out⟩
set_option maxHeartbeats 2000000 in
theorem r1_t (R p Bf g3 g4 : Nat) (e : FE) (o : Nat) (s : ByteArray) (q : Int) (w : World) (hs : s.size ≤ maxLen) (h : Rd5 w R s q) (hne : Bf ≠ R) (hp : Hid (Finds p Bf o)) (hF : FcAt w Bf e) (b3 : Blk1 w g3 (.func (.func p) #[] #[])) (b4 : Blk1 w g4 (.func (.func 82) #[] #[])) (ho : (elF e).toArray[o]? = some (.slice none 0 0)) :
    Calls Tryz.prog 95 #[cvR R, pt Bf, pt g4, pt g3] w (RdOut R (RG R Bf) s (rdLE 50 s.data.toList 4 (rdS s.data.toList) (q, 0)).2 (LsAt valS 9 Bf o (elF e).toArray 28 w.heap.size (rdLE 50 s.data.toList 4 (rdS s.data.toList) (q, 0)).1) w) := by
  have KC := Lib.hid (rtopics R Bf o s q (elF e).toArray 28 w.drew hs h hne hF ho)
  have HS := Lib.hid (fun w' (hk : Kp (RG R Bf) w w') => And.intro (b4.kp h hF hk).cell (b3.kp h hF hk).cell)
  have h3 := b3.cell
  have h4 := b4.cell
  have hcf := hp.out.enter
  have hm1 := fun w => mR_number ⟨R, 0, none⟩ w
  have hm2 := fun w => mR_text ⟨R, 0, none⟩ w
  have hm3 := fun w => mR_blocks ⟨R, 0, none⟩ w
  clear h hF b3 b4
  unfold cvR at *
  go_enter Tryz.func95, Tryz.ntmps95
  go_wp2_with fail
  refine wp_region_held_drew (S := fun w' => w'.cell? ⟨g4, 0, none⟩ = some (.func (.func 82) #[] #[]) ∧ w'.cell? ⟨g3, 0, none⟩ = some (.func (.func p) #[] #[])) (by kernel_rfl) ?_ (fun h0 => ?_)
  · exact ⟨h4, h3⟩
  refine wpAnyH_take (i := 0) (v := ?_) rfl (by kernel_rfl) (by kernel_rfl) (by kernel_rfl) (fun _ _ _ h => h) (Or.inl ⟨by rfl, ?_⟩) h0 ?_
  rotate_left
  · (intro w hSw; (try dsimp only at hSw); go_simp); all_goals (with_reducible rfl)
  try simp only [List.getElem_toArray, List.getElem_cons_succ, List.getElem_cons_zero, Act.put, List.setIfInBounds_toArray, List.set_cons_zero, List.set_cons_succ]
  refine wpAnyH_take (i := 1) (v := ?_) rfl (by kernel_rfl) (by kernel_rfl) (by kernel_rfl) (fun _ _ _ h => h) (Or.inl ⟨by rfl, ?_⟩) h0 ?_
  rotate_left
  · (intro w hSw; (try dsimp only at hSw); go_simp); all_goals (with_reducible rfl)
  try simp only [List.getElem_toArray, List.getElem_cons_succ, List.getElem_cons_zero, Act.put, List.setIfInBounds_toArray, List.set_cons_zero, List.set_cons_succ]
  refine wpAnyH_take (i := 2) (v := ?_) rfl (by kernel_rfl) (by kernel_rfl) (by kernel_rfl) (fun _ _ _ h => h) (Or.inl ⟨by rfl, ?_⟩) h0 ?_
  rotate_left
  · (intro w hSw; (try dsimp only at hSw); go_simp); all_goals (with_reducible rfl)
  try simp only [List.getElem_toArray, List.getElem_cons_succ, List.getElem_cons_zero, Act.put, List.setIfInBounds_toArray, List.set_cons_zero, List.set_cons_succ]
  refine wpAnyH_take (i := 3) (v := ?_) rfl (by kernel_rfl) (by kernel_rfl) (by kernel_rfl) (fun _ _ _ h => h) (Or.inl ⟨by rfl, ?_⟩) h0 ?_
  rotate_left
  · (intro w hSw; (try dsimp only at hSw); go_simp); all_goals (with_reducible rfl)
  try simp only [List.getElem_toArray, List.getElem_cons_succ, List.getElem_cons_zero, Act.put, List.setIfInBounds_toArray, List.set_cons_zero, List.set_cons_succ]
  refine wpAnyH_ready (rs := [4]) (by kernel_rfl) (by simp) ?_
  refine AllReadyH.cons rfl (fun K hK => ?_) AllReadyH.nil
  go_simp
  refine (hp.out.call _).mono ?_
  rintro e w1 ⟨rfl, rfl⟩
  go_wp2_with fail
  have bS := h0
  refine hK.out _ _ ?_ (fun h1 => ?_)
  · exact bS
  clear hK K h0 bS
  try simp only [List.getElem_toArray, List.getElem_cons_succ, List.getElem_cons_zero, Act.put, List.setIfInBounds_toArray, List.set_cons_zero, List.set_cons_succ]
  refine wpAnyH_ready (rs := [5]) (by kernel_rfl) (by simp) ?_
  refine AllReadyH.cons rfl (fun K hK => ?_) AllReadyH.nil
  go_simp
  refine KC.out.mono ?_
  rintro e2 w2 (⟨k1, rfl, k2, k3, k4⟩ | ⟨k1, rfl, hk⟩)
  rotate_left
  · have H0 := Lib.hid k1
    have HK := Lib.hid (show Kp (RG R Bf) w w2 from (Kp.of_below (below_drew w)).trans hk)
    clear k1 hk
    exact ⟨rfl, .inr ⟨H0.out, rfl, HK.out⟩⟩
  have Q1 := Lib.hid k1
  have Q2 := Lib.hid k2
  have Q3 := Lib.hid k3
  have Q4 := Lib.hid (show Kp (RG R Bf) w w2 from (Kp.of_below (below_drew w)).trans k4)
  clear k1 k2 k3 k4
  go_wp2_with fail
  have bS := HS.out _ Q4.out
  refine hK.out _ _ ?_ (fun h2 => ?_)
  · exact bS
  clear hK K h1 bS
  try simp only [List.getElem_toArray, List.getElem_cons_succ, List.getElem_cons_zero, Act.put, List.setIfInBounds_toArray, List.set_cons_zero, List.set_cons_succ]
  refine wpAnyH_done (by kernel_rfl) ?_ _
  clear h2
  clear hm1 hm2 hm3 KC HS
  go_wp2
  go_end0
  exact .inl ⟨Q1.out, rfl, Q2.out, Q3.out, Q4.out⟩
set_option maxHeartbeats 2000000 in
theorem r1_a (R p Bf g3 g4 : Nat) (e : FE) (o : Nat) (s : ByteArray) (q : Int) (w : World) (hs : s.size ≤ maxLen) (h : Rd5 w R s q) (hne : Bf ≠ R) (hp : Hid (Finds p Bf o)) (hF : FcAt w Bf e) (b3 : Blk1 w g3 (.func (.func p) #[] #[])) (b4 : Blk1 w g4 (.func (.func 40) #[] #[])) (ho3 : o + 3 < (elF e).toArray.size) (ho : (elF e).toArray[o + 1]? = some (.slice none 0 0)) :
    Calls Tryz.prog 69 #[cvR R, pt Bf, pt g4, pt g3] w (RdOut R (RG R Bf) s (rdA s.data.toList (q, 0)).2 (LbAt Bf o (elF e).toArray 28 w.heap.size (rdA s.data.toList (q, 0)).1) w) := by
  have KC := Lib.hid (rlabel R Bf o s q (elF e).toArray 28 w.drew hs h hne hF ho3 ho)
  have HS := Lib.hid (fun w' (hk : Kp (RG R Bf) w w') => And.intro (b4.kp h hF hk).cell (b3.kp h hF hk).cell)
  have h3 := b3.cell
  have h4 := b4.cell
  have hcf := hp.out.enter
  have hm1 := fun w => mR_number ⟨R, 0, none⟩ w
  have hm2 := fun w => mR_text ⟨R, 0, none⟩ w
  have hm3 := fun w => mR_blocks ⟨R, 0, none⟩ w
  clear h hF b3 b4
  unfold cvR at *
  go_enter Tryz.func69, Tryz.ntmps69
  go_wp2_with fail
  refine wp_region_held_drew (S := fun w' => w'.cell? ⟨g4, 0, none⟩ = some (.func (.func 40) #[] #[]) ∧ w'.cell? ⟨g3, 0, none⟩ = some (.func (.func p) #[] #[])) (by kernel_rfl) ?_ (fun h0 => ?_)
  · exact ⟨h4, h3⟩
  refine wpAnyH_take (i := 0) (v := ?_) rfl (by kernel_rfl) (by kernel_rfl) (by kernel_rfl) (fun _ _ _ h => h) (Or.inl ⟨by rfl, ?_⟩) h0 ?_
  rotate_left
  · (intro w hSw; (try dsimp only at hSw); go_simp); all_goals (with_reducible rfl)
  try simp only [List.getElem_toArray, List.getElem_cons_succ, List.getElem_cons_zero, Act.put, List.setIfInBounds_toArray, List.set_cons_zero, List.set_cons_succ]
  refine wpAnyH_take (i := 1) (v := ?_) rfl (by kernel_rfl) (by kernel_rfl) (by kernel_rfl) (fun _ _ _ h => h) (Or.inl ⟨by rfl, ?_⟩) h0 ?_
  rotate_left
  · (intro w hSw; (try dsimp only at hSw); go_simp); all_goals (with_reducible rfl)
  try simp only [List.getElem_toArray, List.getElem_cons_succ, List.getElem_cons_zero, Act.put, List.setIfInBounds_toArray, List.set_cons_zero, List.set_cons_succ]
  refine wpAnyH_take (i := 2) (v := ?_) rfl (by kernel_rfl) (by kernel_rfl) (by kernel_rfl) (fun _ _ _ h => h) (Or.inl ⟨by rfl, ?_⟩) h0 ?_
  rotate_left
  · (intro w hSw; (try dsimp only at hSw); go_simp); all_goals (with_reducible rfl)
  try simp only [List.getElem_toArray, List.getElem_cons_succ, List.getElem_cons_zero, Act.put, List.setIfInBounds_toArray, List.set_cons_zero, List.set_cons_succ]
  refine wpAnyH_take (i := 3) (v := ?_) rfl (by kernel_rfl) (by kernel_rfl) (by kernel_rfl) (fun _ _ _ h => h) (Or.inl ⟨by rfl, ?_⟩) h0 ?_
  rotate_left
  · (intro w hSw; (try dsimp only at hSw); go_simp); all_goals (with_reducible rfl)
  try simp only [List.getElem_toArray, List.getElem_cons_succ, List.getElem_cons_zero, Act.put, List.setIfInBounds_toArray, List.set_cons_zero, List.set_cons_succ]
  refine wpAnyH_ready (rs := [4]) (by kernel_rfl) (by simp) ?_
  refine AllReadyH.cons rfl (fun K hK => ?_) AllReadyH.nil
  go_simp
  refine (hp.out.call _).mono ?_
  rintro e w1 ⟨rfl, rfl⟩
  go_wp2_with fail
  have bS := h0
  refine hK.out _ _ ?_ (fun h1 => ?_)
  · exact bS
  clear hK K h0 bS
  try simp only [List.getElem_toArray, List.getElem_cons_succ, List.getElem_cons_zero, Act.put, List.setIfInBounds_toArray, List.set_cons_zero, List.set_cons_succ]
  refine wpAnyH_ready (rs := [5]) (by kernel_rfl) (by simp) ?_
  refine AllReadyH.cons rfl (fun K hK => ?_) AllReadyH.nil
  go_simp
  refine KC.out.mono ?_
  rintro e2 w2 (⟨k1, rfl, k2, k3, k4⟩ | ⟨k1, rfl, hk⟩)
  rotate_left
  · have H0 := Lib.hid k1
    have HK := Lib.hid (show Kp (RG R Bf) w w2 from (Kp.of_below (below_drew w)).trans hk)
    clear k1 hk
    exact ⟨rfl, .inr ⟨H0.out, rfl, HK.out⟩⟩
  have Q1 := Lib.hid k1
  have Q2 := Lib.hid k2
  have Q3 := Lib.hid k3
  have Q4 := Lib.hid (show Kp (RG R Bf) w w2 from (Kp.of_below (below_drew w)).trans k4)
  clear k1 k2 k3 k4
  go_wp2_with fail
  have bS := HS.out _ Q4.out
  refine hK.out _ _ ?_ (fun h2 => ?_)
  · exact bS
  clear hK K h1 bS
  try simp only [List.getElem_toArray, List.getElem_cons_succ, List.getElem_cons_zero, Act.put, List.setIfInBounds_toArray, List.set_cons_zero, List.set_cons_succ]
  refine wpAnyH_done (by kernel_rfl) ?_ _
  clear h2
  clear hm1 hm2 hm3 KC HS
  go_wp2
  go_end0
  exact .inl ⟨Q1.out, rfl, Q2.out, Q3.out, Q4.out⟩
end Go.Proofs.YtlhcckjfgpcohaaGreatDoor
namespace Go.Proofs.YtlhcckjfgpcohaaGreatDoor
open Go.RowKit
set_option maxRecDepth 100000
set_option linter.unusedSimpArgs false
set_option linter.unusedVariables false
theorem rdN_all {α : Type} {P : α → Prop} {f : Int × Int → α × (Int × Int)} (hf : ∀ σ, P (f σ).1) : ∀ (n : Nat) (σ : Int × Int), ∀ x ∈ (rdN f n σ).1, P x
  | 0, σ, x, h => by simp [rdN] at h
  | n + 1, σ, x, h => by
    rw [rdN] at h
    rcases List.mem_cons.1 h with rfl | h
    · exact hf σ
    · exact rdN_all hf n _ x h
theorem rdLE_all {α : Type} {P : α → Prop} {s : List UInt8} {most : Int} {f : Int × Int → α × (Int × Int)} (hf : ∀ σ, P (f σ).1) (σ : Int × Int) : ∀ x ∈ (rdLE 50 s most f σ).1, P x := by
  unfold rdLE
  repeat' split
  · intro x h; cases h
  · intro x h; cases h
  · exact rdN_all hf _ _
  · intro x h; cases h
theorem rdS_len6 (s : List UInt8) (σ : Int × Int) : (rdS s σ).1.length ≤ maxLen := Nat.le_trans (rdS_len s σ) (by unfold maxLen; omega)
/-- A fact whose lists are the call's own. -/
structure FeIn (base : Nat) (w : World) (e : FE) : Prop where
  tp : w.ownsRow base 9 1 (.slice e.ta e.tn e.tc) e.tn (e.f.tp.map valS)
  tl : ∀ s ∈ e.f.tp, s.length ≤ maxLen
  bl : ∃ es, blks es = e.f.bl ∧ w.ownsRow base 49 9 (.slice e.ba e.bn e.bc) e.bn (es.flatMap elB) ∧ ∀ x ∈ es, BeIn base w x
  la : w.ownsRow base 3 1 (.slice e.la e.ln e.lc) e.ln (e.f.lb.af.map valI)
  lb : (∀ z ∈ e.f.lb.af, Bd z) ∧ Bd e.f.lb.u ∧ Bd e.f.lb.ap ∧ Bd e.f.lb.d
  ints : Bd e.f.n ∧ Bd e.f.tm ∧ Bd e.f.kd ∧ Bd e.f.st ∧ Bd e.f.rv ∧ Bd e.f.bs ∧ Bd e.f.ed ∧ Bd e.f.bk ∧ Bd e.f.se ∧ Bd e.f.pt ∧ Bd e.f.cl ∧ Bd e.f.un
  strs : e.f.lg.length ≤ maxLen ∧ e.f.ti.length ≤ maxLen ∧ e.f.au.length ≤ maxLen ∧ e.f.tx.length ≤ maxLen ∧ e.f.nm.length ≤ maxLen
theorem tp_of_own {w : World} {base : Nat} {a : Option Addr} {n c : Nat} {l : List (List UInt8)} (h : w.ownsRow base 9 1 (.slice a n c) n (l.map valS)) (hz : ∀ z ∈ l, z.length ≤ maxLen) : IsTp w a n c l := by
  have hl := h.1
  rw [List.length_map, Nat.mul_one] at hl
  rcases h.2 with ⟨hv, h0⟩ | ⟨g, cap, cur, hv, _, _, hnc, hm, _⟩
  · cases hv
    exact ⟨hl, Nat.le_refl _, by unfold maxLen; omega, hz, .inl rfl⟩
  · have hc := h.cells (g := g) (by cases hv; rfl)
    cases hv
    refine ⟨hl, hnc, hm, hz, .inr ⟨g, 0, rfl, fun i s hs => ?_⟩⟩
    have := hc i (valS s) (by rw [List.getElem?_map, hs]; rfl)
    rw [add_at] at this
    simpa using this
theorem FeIn.ok {base : Nat} {w : World} {e : FE} (h : FeIn base w e) : FeOk w e := by
  obtain ⟨es, h1, h2, h3⟩ := h.bl
  exact ⟨tp_of_own h.tp h.tl, ⟨es, h1, blks_of_own h2 (fun x hx => (h3 x hx).ok)⟩, ⟨ints_of_own h.la h.lb.1, h.lb.2⟩, h.ints, h.strs⟩
theorem FeIn.kp {S : Nat → Prop} {base : Nat} {w w' : World} {e : FE} (hk : Kp S w w') (hs : ∀ k, S k → k < base) (h : FeIn base w e) : FeIn base w' e := by
  obtain ⟨es, h1, h2, h3⟩ := h.bl
  exact ⟨hk.own hs h.tp, h.tl, ⟨es, h1, hk.own hs h2, fun x hx => ⟨(h3 x hx).1, hk.own hs (h3 x hx).2⟩⟩, hk.own hs h.la, h.lb, h.ints, h.strs⟩
theorem FeIn.mono {base base' : Nat} {w : World} {e : FE} (hb : base' ≤ base) (h : FeIn base w e) : FeIn base' w e := by
  obtain ⟨es, h1, h2, h3⟩ := h.bl
  exact ⟨own_mono h.tp hb, h.tl, ⟨es, h1, own_mono h2 hb, fun x hx => ⟨(h3 x hx).1, own_mono (h3 x hx).2 hb⟩⟩, own_mono h.la hb, h.lb, h.ints, h.strs⟩
theorem FeIn.zero (base : Nat) (w : World) : FeIn base w zE :=
  ⟨World.ownsRow_nil _ _ _ _, by simp [zE, zF], ⟨[], rfl, World.ownsRow_nil _ _ _ _, by simp⟩, World.ownsRow_nil _ _ _ _, by simp [zE, zF, zeroL, Bd], by simp [zE, zF, Bd], by simp [zE, zF]⟩
/-- e with a field of v, whose list lies at a. -/
def updE (x : Fld) (v : Fct) (a : Option Addr) (n c : Nat) (e : FE) : FE :=
  match x with
  | .tp => { e with f := setF x v e.f, ta := a, tn := n, tc := c }
  | .bl => { e with f := setF x v e.f, ba := a, bn := n, bc := c }
  | .lb => { e with f := setF x v e.f, la := a, ln := n, lc := c }
  | _ => { e with f := setF x v e.f }
theorem updE_f (x : Fld) (v : Fct) (a : Option Addr) (n c : Nat) (e : FE) : (updE x v a n c e).f = setF x v e.f := by cases x <;> rfl
/-- A list that is to be read is nil before. -/
def HzX (x : Fld) (e : FE) : Prop :=
  match x with
  | .tp => e.ta = none ∧ e.tn = 0 ∧ e.tc = 0
  | .lb => e.la = none ∧ e.ln = 0 ∧ e.lc = 0
  | _ => True
theorem HzX.upd {x y : Fld} (h : x.slot ≠ y.slot) (v : Fct) (a : Option Addr) (n c : Nat) {e : FE} (hz : HzX x e) : HzX x (updE y v a n c e) := by
  cases x <;> first
    | trivial
    | (cases y <;> first | exact hz | exact absurd rfl h)
end Go.Proofs.YtlhcckjfgpcohaaGreatDoor
namespace Go.Proofs.YtlhcckjfgpcohaaGreatDoor
open Go.RowKit
set_option maxRecDepth 100000
set_option linter.unusedSimpArgs false
set_option linter.unusedVariables false
/-- What a reader leaves of a fact. -/
def RdF (R Bf base : Nat) (s : ByteArray) (r : Fct × (Int × Int)) (e : FE) (P : FE → Prop) (w : World) : Ending → World → Prop :=
  RdOut R (RG R Bf) s r.2 (fun w' => ∃ e', FcAt w' Bf e' ∧ e'.f = r.1 ∧ FeIn base w' e' ∧ P e') w
theorem RdOut.imp {R : Nat} {S : Nat → Prop} {s : ByteArray} {p : Int × Int} {Q Q' : World → Prop} {w : World} {e : Ending} {w' : World} (h : RdOut R S s p Q w e w') (hq : p.2 = 0 → Kp S w w' → Q w' → Q' w') : RdOut R S s p Q' w e w' := by
  rcases h with ⟨h1, h2, h3, h4, h5⟩ | h
  · exact .inl ⟨h1, h2, h3, hq h1 h5 h4, h5⟩
  · exact .inr h
theorem FcAt.of_set {w : World} {Bf o : Nat} {e e' : FE} {v : Value} (h : w.heap[Bf]? = some (.cells ((elF e).toArray.setIfInBounds o v) 28 (0, 0))) (he : (elF e).toArray.setIfInBounds o v = (elF e').toArray) : FcAt w Bf e' := by
  unfold FcAt
  rw [← he]
  exact h
theorem FeIn.upd {base : Nat} {w : World} {e : FE} (h : FeIn base w e) (x : Fld) (v : Fct) (a : Option Addr) (n c : Nat) (hx : FeIn base w (updE x v a n c zE)) : FeIn base w (updE x v a n c e) := by
  obtain ⟨es, h1, h2, h3⟩ := h.bl
  obtain ⟨k1, k2, k3, k4, k5, k6, k7⟩ := hx
  obtain ⟨i1, i2, i3, i4, i5, i6, i7, i8, i9, i10, i11, i12⟩ := h.ints
  obtain ⟨s1, s2, s3, s4, s5⟩ := h.strs
  obtain ⟨j1, j2, j3, j4, j5, j6, j7, j8, j9, j10, j11, j12⟩ := k6
  obtain ⟨t1, t2, t3, t4, t5⟩ := k7
  cases x <;> refine ⟨?_, ?_, ?_, ?_, ?_, ?_, ?_⟩
  all_goals first
    | exact h.tp
    | exact h.tl
    | exact h.bl
    | exact h.la
    | exact h.lb
    | exact h.ints
    | exact h.strs
    | exact k1
    | exact k2
    | exact k3
    | exact k4
    | exact k5
    | exact ⟨by first | exact i1 | exact j1, by first | exact i2 | exact j2, by first | exact i3 | exact j3, by first | exact i4 | exact j4, by first | exact i5 | exact j5, by first | exact i6 | exact j6, by first | exact i7 | exact j7, by first | exact i8 | exact j8, by first | exact i9 | exact j9, by first | exact i10 | exact j10, by first | exact i11 | exact j11, by first | exact i12 | exact j12⟩
    | exact ⟨by first | exact s1 | exact t1, by first | exact s2 | exact t2, by first | exact s3 | exact t3, by first | exact s4 | exact t4, by first | exact s5 | exact t5⟩
theorem FeIn.one {base : Nat} {w : World} (x : Fld) (v : Fct) (h1 : Fld.slot x ≠ 9 ∧ Fld.slot x ≠ 10 ∧ Fld.slot x ≠ 11) (hi : Bd v.n ∧ Bd v.tm ∧ Bd v.kd ∧ Bd v.st ∧ Bd v.rv ∧ Bd v.bs ∧ Bd v.ed ∧ Bd v.bk ∧ Bd v.se ∧ Bd v.pt ∧ Bd v.cl ∧ Bd v.un) (hs : v.lg.length ≤ maxLen ∧ v.ti.length ≤ maxLen ∧ v.au.length ≤ maxLen ∧ v.tx.length ≤ maxLen ∧ v.nm.length ≤ maxLen) : FeIn base w (updE x v none 0 0 zE) := by
  obtain ⟨j1, j2, j3, j4, j5, j6, j7, j8, j9, j10, j11, j12⟩ := hi
  obtain ⟨t1, t2, t3, t4, t5⟩ := hs
  have z := FeIn.zero base w
  have b0 : Bd 0 := by simp [Bd]
  have l0 : (0 : Nat) ≤ maxLen := Nat.zero_le _
  cases x <;> first
    | exact absurd rfl h1.1
    | exact absurd rfl h1.2.1
    | exact absurd rfl h1.2.2
    | (refine ⟨z.tp, z.tl, z.bl, z.la, z.lb, ⟨?_, ?_, ?_, ?_, ?_, ?_, ?_, ?_, ?_, ?_, ?_, ?_⟩, ⟨?_, ?_, ?_, ?_, ?_⟩⟩ <;> first | exact b0 | exact l0 | assumption)
theorem zF_bd : Bd zF.n ∧ Bd zF.tm ∧ Bd zF.kd ∧ Bd zF.st ∧ Bd zF.rv ∧ Bd zF.bs ∧ Bd zF.ed ∧ Bd zF.bk ∧ Bd zF.se ∧ Bd zF.pt ∧ Bd zF.cl ∧ Bd zF.un := by simp [zF, Bd]
theorem zF_len : zF.lg.length ≤ maxLen ∧ zF.ti.length ≤ maxLen ∧ zF.au.length ≤ maxLen ∧ zF.tx.length ≤ maxLen ∧ zF.nm.length ≤ maxLen := by simp [zF]
/-- A field, read. -/
theorem rfield (x : Fld) (R Bf g3 g4 base : Nat) (e : FE) (s : ByteArray) (q : Int) (w : World) (hs : s.size ≤ maxLen) (h : Rd5 w R s q) (hne : Bf ≠ R) (hF : FcAt w Bf e) (hI : FeIn base w e) (hb : ∀ k, RG R Bf k → k < base) (hbw : base ≤ w.heap.size) (hz : HzX x e) (b3 : Blk1 w g3 (.func (.func (plN x)) #[] #[])) (b4 : Blk1 w g4 (.func x.cls.code #[] #[])) :
    Calls Tryz.prog x.cls.f1 #[cvR R, pt Bf, pt g4, pt g3] w (RdF R Bf base s (setF x (rdV x s.data.toList (q, 0)).1 e.f, (rdV x s.data.toList (q, 0)).2) e (fun e' => ∃ a n c v, e' = updE x v a n c e) w) := by
  unfold RdF
  cases x
  · refine (r1_i R _ Bf g3 g4 e _ s q w hs h hne (Lib.hid (finds .n Bf)) hF b3 b4 (by simp [elF, plO])).mono (fun r w' hr => RdOut.imp (by rw [show (rdV .n s.data.toList (q, 0)).2 = (intAt s.data.toList q).2 by show (rdI _ _).2 = _; rw [rdI_at]]; exact hr) (fun _ hk h2 => ?_))
    refine ⟨updE .n { zF with n := (intAt s.data.toList q).1 } none 0 0 e, FcAt.of_set h2 rfl, by rw [updE_f]; show _ = setF .n { zF with n := (rdI _ _).1 } e.f; rw [rdI_at], ?_, none, 0, 0, _, rfl⟩
    exact (hI.kp hk hb).upd _ _ _ _ _ (FeIn.one .n _ (by decide) (by have := zF_bd; simp only [this, intAt_bd, and_self]) zF_len)
  · refine (r1_i R _ Bf g3 g4 e _ s q w hs h hne (Lib.hid (finds .tm Bf)) hF b3 b4 (by simp [elF, plO])).mono (fun r w' hr => RdOut.imp (by rw [show (rdV .tm s.data.toList (q, 0)).2 = (intAt s.data.toList q).2 by show (rdI _ _).2 = _; rw [rdI_at]]; exact hr) (fun _ hk h2 => ?_))
    refine ⟨updE .tm { zF with tm := (intAt s.data.toList q).1 } none 0 0 e, FcAt.of_set h2 rfl, by rw [updE_f]; show _ = setF .tm { zF with tm := (rdI _ _).1 } e.f; rw [rdI_at], ?_, none, 0, 0, _, rfl⟩
    exact (hI.kp hk hb).upd _ _ _ _ _ (FeIn.one .tm _ (by decide) (by have := zF_bd; simp only [this, intAt_bd, and_self]) zF_len)
  · refine (r1_i R _ Bf g3 g4 e _ s q w hs h hne (Lib.hid (finds .kd Bf)) hF b3 b4 (by simp [elF, plO])).mono (fun r w' hr => RdOut.imp (by rw [show (rdV .kd s.data.toList (q, 0)).2 = (intAt s.data.toList q).2 by show (rdI _ _).2 = _; rw [rdI_at]]; exact hr) (fun _ hk h2 => ?_))
    refine ⟨updE .kd { zF with kd := (intAt s.data.toList q).1 } none 0 0 e, FcAt.of_set h2 rfl, by rw [updE_f]; show _ = setF .kd { zF with kd := (rdI _ _).1 } e.f; rw [rdI_at], ?_, none, 0, 0, _, rfl⟩
    exact (hI.kp hk hb).upd _ _ _ _ _ (FeIn.one .kd _ (by decide) (by have := zF_bd; simp only [this, intAt_bd, and_self]) zF_len)
  · refine (r1_i R _ Bf g3 g4 e _ s q w hs h hne (Lib.hid (finds .st Bf)) hF b3 b4 (by simp [elF, plO])).mono (fun r w' hr => RdOut.imp (by rw [show (rdV .st s.data.toList (q, 0)).2 = (intAt s.data.toList q).2 by show (rdI _ _).2 = _; rw [rdI_at]]; exact hr) (fun _ hk h2 => ?_))
    refine ⟨updE .st { zF with st := (intAt s.data.toList q).1 } none 0 0 e, FcAt.of_set h2 rfl, by rw [updE_f]; show _ = setF .st { zF with st := (rdI _ _).1 } e.f; rw [rdI_at], ?_, none, 0, 0, _, rfl⟩
    exact (hI.kp hk hb).upd _ _ _ _ _ (FeIn.one .st _ (by decide) (by have := zF_bd; simp only [this, intAt_bd, and_self]) zF_len)
  · refine (r1_s R _ Bf g3 g4 e _ s q w hs h hne (Lib.hid (finds .lg Bf)) hF b3 b4 (by simp [elF, plO])).mono (fun r w' hr => RdOut.imp (by rw [show (rdV .lg s.data.toList (q, 0)).2 = (strAt s.data.toList q).2 by show (rdS _ _).2 = _; rw [rdS_at]]; exact hr) (fun _ hk h2 => ?_))
    refine ⟨updE .lg { zF with lg := (strAt s.data.toList q).1 } none 0 0 e, FcAt.of_set h2 rfl, by rw [updE_f]; show _ = setF .lg { zF with lg := (rdS _ _).1 } e.f; rw [rdS_at], ?_, none, 0, 0, _, rfl⟩
    exact (hI.kp hk hb).upd _ _ _ _ _ (FeIn.one .lg _ (by decide) zF_bd (by have := zF_len; have h9 : (strAt s.data.toList q).1.length ≤ maxLen := Nat.le_trans (strAt_len _ _) (by unfold maxLen; omega); simp only [this, h9, and_self]))
  · refine (r1_i R _ Bf g3 g4 e _ s q w hs h hne (Lib.hid (finds .rv Bf)) hF b3 b4 (by simp [elF, plO])).mono (fun r w' hr => RdOut.imp (by rw [show (rdV .rv s.data.toList (q, 0)).2 = (intAt s.data.toList q).2 by show (rdI _ _).2 = _; rw [rdI_at]]; exact hr) (fun _ hk h2 => ?_))
    refine ⟨updE .rv { zF with rv := (intAt s.data.toList q).1 } none 0 0 e, FcAt.of_set h2 rfl, by rw [updE_f]; show _ = setF .rv { zF with rv := (rdI _ _).1 } e.f; rw [rdI_at], ?_, none, 0, 0, _, rfl⟩
    exact (hI.kp hk hb).upd _ _ _ _ _ (FeIn.one .rv _ (by decide) (by have := zF_bd; simp only [this, intAt_bd, and_self]) zF_len)
  · refine (r1_i R _ Bf g3 g4 e _ s q w hs h hne (Lib.hid (finds .bs Bf)) hF b3 b4 (by simp [elF, plO])).mono (fun r w' hr => RdOut.imp (by rw [show (rdV .bs s.data.toList (q, 0)).2 = (intAt s.data.toList q).2 by show (rdI _ _).2 = _; rw [rdI_at]]; exact hr) (fun _ hk h2 => ?_))
    refine ⟨updE .bs { zF with bs := (intAt s.data.toList q).1 } none 0 0 e, FcAt.of_set h2 rfl, by rw [updE_f]; show _ = setF .bs { zF with bs := (rdI _ _).1 } e.f; rw [rdI_at], ?_, none, 0, 0, _, rfl⟩
    exact (hI.kp hk hb).upd _ _ _ _ _ (FeIn.one .bs _ (by decide) (by have := zF_bd; simp only [this, intAt_bd, and_self]) zF_len)
  · refine (r1_s R _ Bf g3 g4 e _ s q w hs h hne (Lib.hid (finds .ti Bf)) hF b3 b4 (by simp [elF, plO])).mono (fun r w' hr => RdOut.imp (by rw [show (rdV .ti s.data.toList (q, 0)).2 = (strAt s.data.toList q).2 by show (rdS _ _).2 = _; rw [rdS_at]]; exact hr) (fun _ hk h2 => ?_))
    refine ⟨updE .ti { zF with ti := (strAt s.data.toList q).1 } none 0 0 e, FcAt.of_set h2 rfl, by rw [updE_f]; show _ = setF .ti { zF with ti := (rdS _ _).1 } e.f; rw [rdS_at], ?_, none, 0, 0, _, rfl⟩
    exact (hI.kp hk hb).upd _ _ _ _ _ (FeIn.one .ti _ (by decide) zF_bd (by have := zF_len; have h9 : (strAt s.data.toList q).1.length ≤ maxLen := Nat.le_trans (strAt_len _ _) (by unfold maxLen; omega); simp only [this, h9, and_self]))
  · refine (r1_s R _ Bf g3 g4 e _ s q w hs h hne (Lib.hid (finds .au Bf)) hF b3 b4 (by simp [elF, plO])).mono (fun r w' hr => RdOut.imp (by rw [show (rdV .au s.data.toList (q, 0)).2 = (strAt s.data.toList q).2 by show (rdS _ _).2 = _; rw [rdS_at]]; exact hr) (fun _ hk h2 => ?_))
    refine ⟨updE .au { zF with au := (strAt s.data.toList q).1 } none 0 0 e, FcAt.of_set h2 rfl, by rw [updE_f]; show _ = setF .au { zF with au := (rdS _ _).1 } e.f; rw [rdS_at], ?_, none, 0, 0, _, rfl⟩
    exact (hI.kp hk hb).upd _ _ _ _ _ (FeIn.one .au _ (by decide) zF_bd (by have := zF_len; have h9 : (strAt s.data.toList q).1.length ≤ maxLen := Nat.le_trans (strAt_len _ _) (by unfold maxLen; omega); simp only [this, h9, and_self]))
  · obtain ⟨z1, z2, z3⟩ := hz
    refine (r1_t R _ Bf g3 g4 e _ s q w hs h hne (Lib.hid (finds .tp Bf)) hF b3 b4 (by show some (Value.slice e.ta e.tn e.tc) = _; rw [z1, z2, z3])).mono (fun r w' hr => RdOut.imp hr (fun _ hk h2 => ?_))
    obtain ⟨a, c, h3, h4⟩ := h2
    refine ⟨updE .tp { zF with tp := (rdLE 50 s.data.toList 4 (rdS s.data.toList) (q, 0)).1 } a _ c e, FcAt.of_set h3 rfl, by rw [updE_f]; rfl, ?_, a, _, c, _, rfl⟩
    refine (hI.kp hk hb).upd _ _ _ _ _ ?_
    have z := FeIn.zero base w'
    exact ⟨own_mono h4 hbw, rdLE_all (rdS_len6 _) _, z.bl, z.la, z.lb, z.ints, z.strs⟩
  · refine (r1_b R _ Bf g3 g4 e _ s q w hs h hne (Lib.hid (finds .bl Bf)) hF b3 b4 (by simp [elF, plO])).mono (fun r w' hr => RdOut.imp hr (fun _ hk h2 => ?_))
    obtain ⟨a, c, es, h3, h4, h5, h6⟩ := h2
    refine ⟨updE .bl { zF with bl := (rdBl s.data.toList (q, 0)).1 } a _ c e, FcAt.of_set h3 rfl, by rw [updE_f]; rfl, ?_, a, _, c, _, rfl⟩
    refine (hI.kp hk hb).upd _ _ _ _ _ ?_
    have z := FeIn.zero base w'
    exact ⟨z.tp, z.tl, ⟨es, h4, own_mono h5 hbw, fun x hx => ⟨(h6 x hx).1, own_mono (h6 x hx).2 hbw⟩⟩, z.la, z.lb, z.ints, z.strs⟩
  · obtain ⟨z1, z2, z3⟩ := hz
    refine (r1_a R _ Bf g3 g4 e _ s q w hs h hne (Lib.hid (finds .lb Bf)) hF b3 b4 (by simp [elF, plO]) (by show some (Value.slice e.la e.ln e.lc) = _; rw [z1, z2, z3])).mono (fun r w' hr => RdOut.imp hr (fun _ hk h2 => ?_))
    obtain ⟨a, c, h3, h4⟩ := h2
    refine ⟨updE .lb { zF with lb := (rdA s.data.toList (q, 0)).1 } a _ c e, by unfold FcAt; exact h3, by rw [updE_f]; rfl, ?_, a, _, c, _, rfl⟩
    refine (hI.kp hk hb).upd _ _ _ _ _ ?_
    have z := FeIn.zero base w'
    exact ⟨z.tp, z.tl, z.bl, own_mono h4 hbw, ⟨rdLE_all (rdI_bd _) _, rdI_bd _ _, rdI_bd _ _, rdI_bd _ _⟩, z.ints, z.strs⟩
  · refine (r1_i R _ Bf g3 g4 e _ s q w hs h hne (Lib.hid (finds .ed Bf)) hF b3 b4 (by simp [elF, plO])).mono (fun r w' hr => RdOut.imp (by rw [show (rdV .ed s.data.toList (q, 0)).2 = (intAt s.data.toList q).2 by show (rdI _ _).2 = _; rw [rdI_at]]; exact hr) (fun _ hk h2 => ?_))
    refine ⟨updE .ed { zF with ed := (intAt s.data.toList q).1 } none 0 0 e, FcAt.of_set h2 rfl, by rw [updE_f]; show _ = setF .ed { zF with ed := (rdI _ _).1 } e.f; rw [rdI_at], ?_, none, 0, 0, _, rfl⟩
    exact (hI.kp hk hb).upd _ _ _ _ _ (FeIn.one .ed _ (by decide) (by have := zF_bd; simp only [this, intAt_bd, and_self]) zF_len)
  · refine (r1_i R _ Bf g3 g4 e _ s q w hs h hne (Lib.hid (finds .bk Bf)) hF b3 b4 (by simp [elF, plO])).mono (fun r w' hr => RdOut.imp (by rw [show (rdV .bk s.data.toList (q, 0)).2 = (intAt s.data.toList q).2 by show (rdI _ _).2 = _; rw [rdI_at]]; exact hr) (fun _ hk h2 => ?_))
    refine ⟨updE .bk { zF with bk := (intAt s.data.toList q).1 } none 0 0 e, FcAt.of_set h2 rfl, by rw [updE_f]; show _ = setF .bk { zF with bk := (rdI _ _).1 } e.f; rw [rdI_at], ?_, none, 0, 0, _, rfl⟩
    exact (hI.kp hk hb).upd _ _ _ _ _ (FeIn.one .bk _ (by decide) (by have := zF_bd; simp only [this, intAt_bd, and_self]) zF_len)
  · refine (r1_i R _ Bf g3 g4 e _ s q w hs h hne (Lib.hid (finds .se Bf)) hF b3 b4 (by simp [elF, plO])).mono (fun r w' hr => RdOut.imp (by rw [show (rdV .se s.data.toList (q, 0)).2 = (intAt s.data.toList q).2 by show (rdI _ _).2 = _; rw [rdI_at]]; exact hr) (fun _ hk h2 => ?_))
    refine ⟨updE .se { zF with se := (intAt s.data.toList q).1 } none 0 0 e, FcAt.of_set h2 rfl, by rw [updE_f]; show _ = setF .se { zF with se := (rdI _ _).1 } e.f; rw [rdI_at], ?_, none, 0, 0, _, rfl⟩
    exact (hI.kp hk hb).upd _ _ _ _ _ (FeIn.one .se _ (by decide) (by have := zF_bd; simp only [this, intAt_bd, and_self]) zF_len)
  · refine (r1_s R _ Bf g3 g4 e _ s q w hs h hne (Lib.hid (finds .tx Bf)) hF b3 b4 (by simp [elF, plO])).mono (fun r w' hr => RdOut.imp (by rw [show (rdV .tx s.data.toList (q, 0)).2 = (strAt s.data.toList q).2 by show (rdS _ _).2 = _; rw [rdS_at]]; exact hr) (fun _ hk h2 => ?_))
    refine ⟨updE .tx { zF with tx := (strAt s.data.toList q).1 } none 0 0 e, FcAt.of_set h2 rfl, by rw [updE_f]; show _ = setF .tx { zF with tx := (rdS _ _).1 } e.f; rw [rdS_at], ?_, none, 0, 0, _, rfl⟩
    exact (hI.kp hk hb).upd _ _ _ _ _ (FeIn.one .tx _ (by decide) zF_bd (by have := zF_len; have h9 : (strAt s.data.toList q).1.length ≤ maxLen := Nat.le_trans (strAt_len _ _) (by unfold maxLen; omega); simp only [this, h9, and_self]))
  · refine (r1_s R _ Bf g3 g4 e _ s q w hs h hne (Lib.hid (finds .sx Bf)) hF b3 b4 (by simp [elF, plO])).mono (fun r w' hr => RdOut.imp (by rw [show (rdV .sx s.data.toList (q, 0)).2 = (strAt s.data.toList q).2 by show (rdS _ _).2 = _; rw [rdS_at]]; exact hr) (fun _ hk h2 => ?_))
    refine ⟨updE .sx { zF with tx := (strAt s.data.toList q).1 } none 0 0 e, FcAt.of_set h2 rfl, by rw [updE_f]; show _ = setF .sx { zF with tx := (rdS _ _).1 } e.f; rw [rdS_at], ?_, none, 0, 0, _, rfl⟩
    exact (hI.kp hk hb).upd _ _ _ _ _ (FeIn.one .sx _ (by decide) zF_bd (by have := zF_len; have h9 : (strAt s.data.toList q).1.length ≤ maxLen := Nat.le_trans (strAt_len _ _) (by unfold maxLen; omega); simp only [this, h9, and_self]))
  · refine (r1_s R _ Bf g3 g4 e _ s q w hs h hne (Lib.hid (finds .nm Bf)) hF b3 b4 (by simp [elF, plO])).mono (fun r w' hr => RdOut.imp (by rw [show (rdV .nm s.data.toList (q, 0)).2 = (strAt s.data.toList q).2 by show (rdS _ _).2 = _; rw [rdS_at]]; exact hr) (fun _ hk h2 => ?_))
    refine ⟨updE .nm { zF with nm := (strAt s.data.toList q).1 } none 0 0 e, FcAt.of_set h2 rfl, by rw [updE_f]; show _ = setF .nm { zF with nm := (rdS _ _).1 } e.f; rw [rdS_at], ?_, none, 0, 0, _, rfl⟩
    exact (hI.kp hk hb).upd _ _ _ _ _ (FeIn.one .nm _ (by decide) zF_bd (by have := zF_len; have h9 : (strAt s.data.toList q).1.length ≤ maxLen := Nat.le_trans (strAt_len _ _) (by unfold maxLen; omega); simp only [this, h9, and_self]))
  · refine (r1_i R _ Bf g3 g4 e _ s q w hs h hne (Lib.hid (finds .pt Bf)) hF b3 b4 (by simp [elF, plO])).mono (fun r w' hr => RdOut.imp (by rw [show (rdV .pt s.data.toList (q, 0)).2 = (intAt s.data.toList q).2 by show (rdI _ _).2 = _; rw [rdI_at]]; exact hr) (fun _ hk h2 => ?_))
    refine ⟨updE .pt { zF with pt := (intAt s.data.toList q).1 } none 0 0 e, FcAt.of_set h2 rfl, by rw [updE_f]; show _ = setF .pt { zF with pt := (rdI _ _).1 } e.f; rw [rdI_at], ?_, none, 0, 0, _, rfl⟩
    exact (hI.kp hk hb).upd _ _ _ _ _ (FeIn.one .pt _ (by decide) (by have := zF_bd; simp only [this, intAt_bd, and_self]) zF_len)
  · refine (r1_i R _ Bf g3 g4 e _ s q w hs h hne (Lib.hid (finds .cl Bf)) hF b3 b4 (by simp [elF, plO])).mono (fun r w' hr => RdOut.imp (by rw [show (rdV .cl s.data.toList (q, 0)).2 = (intAt s.data.toList q).2 by show (rdI _ _).2 = _; rw [rdI_at]]; exact hr) (fun _ hk h2 => ?_))
    refine ⟨updE .cl { zF with cl := (intAt s.data.toList q).1 } none 0 0 e, FcAt.of_set h2 rfl, by rw [updE_f]; show _ = setF .cl { zF with cl := (rdI _ _).1 } e.f; rw [rdI_at], ?_, none, 0, 0, _, rfl⟩
    exact (hI.kp hk hb).upd _ _ _ _ _ (FeIn.one .cl _ (by decide) (by have := zF_bd; simp only [this, intAt_bd, and_self]) zF_len)
  · refine (r1_i R _ Bf g3 g4 e _ s q w hs h hne (Lib.hid (finds .un Bf)) hF b3 b4 (by simp [elF, plO])).mono (fun r w' hr => RdOut.imp (by rw [show (rdV .un s.data.toList (q, 0)).2 = (intAt s.data.toList q).2 by show (rdI _ _).2 = _; rw [rdI_at]]; exact hr) (fun _ hk h2 => ?_))
    refine ⟨updE .un { zF with un := (intAt s.data.toList q).1 } none 0 0 e, FcAt.of_set h2 rfl, by rw [updE_f]; show _ = setF .un { zF with un := (rdI _ _).1 } e.f; rw [rdI_at], ?_, none, 0, 0, _, rfl⟩
    exact (hI.kp hk hb).upd _ _ _ _ _ (FeIn.one .un _ (by decide) (by have := zF_bd; simp only [this, intAt_bd, and_self]) zF_len)
end Go.Proofs.YtlhcckjfgpcohaaGreatDoor
namespace Go.Proofs.YtlhcckjfgpcohaaGreatDoor
open Go.RowKit
set_option maxRecDepth 100000
set_option linter.unusedSimpArgs false
set_option linter.unusedVariables false
def HzTo (fl : List Fld) (k : Nat) (e e' : FE) : Prop := ∀ y, (∀ x ∈ fl.take k, y.slot ≠ x.slot) → HzX y e → HzX y e'
theorem f1_enter6 (c : Cls) (args : Array Value) (w : World) : Sem.run Tryz.prog (callFunc c.f1 args) w = .ok (.enter c.f1 args) w := f1_enter c args w
set_option maxHeartbeats 4000000 in
theorem rfields (R Bf base : Nat) (a : Option Addr) (n c : Nat) (fl : List Fld) (e : FE) (s : ByteArray) (q : Int) (w : World) (hs : s.size ≤ maxLen) (h : Rd5 w R s q) (hne : Bf ≠ R) (hF : FcAt w Bf e) (hI : FeIn base w e) (hb : ∀ k, RG R Bf k → k < base) (hbw : base ≤ w.heap.size)
    (hfl : IsFls w a n c fl) (hn : n ≤ 12) (h0 : 0 < fl.length) (hz : ∀ x ∈ fl, HzX x e) (hp : fl.Pairwise (fun x y => x.slot ≠ y.slot)) :
    Calls Tryz.prog 32 #[cvR R, pt Bf, .slice a n c] w (RdF R Bf base s (seqF fl s.data.toList e.f (q, 0)) e (HzTo fl fl.length e) w) := by
  have HLN := Lib.hid hfl.len
  have hcm : c ≤ maxLen := by obtain ⟨vs, h1, h2⟩ := hfl; exact h1.2.2.1
  have hnc : n ≤ c := by obtain ⟨vs, h1, h2⟩ := hfl; exact h1.2.1
  unfold maxLen at hcm
  have HFL := Lib.hid (fun w' (hk : Kp (RG R Bf) w w') => hfl.kp h hF hk h0)
  have HZ := Lib.hid hz
  have HP := Lib.hid hp
  have HR0 := Lib.hid h
  have HF0 := Lib.hid hF
  have HI0 := Lib.hid hI
  have HBW := Lib.hid hbw
  have HS := Lib.hid hs
  have HB := Lib.hid hb
  obtain ⟨Z, hZ⟩ : ∃ Z : Nat → Fct × (Int × Int), Z = fun k => seqF (fl.take k) s.data.toList e.f (q, 0) := ⟨_, rfl⟩
  have e0 : seqF fl s.data.toList e.f (q, 0) = Z n := by rw [hZ]; simp only; rw [show n = fl.length from HLN.out, List.take_length]
  rw [e0]
  have S0 : Hid (Z 0 = (e.f, (q, 0))) := Lib.hid (by rw [hZ]; rfl)
  have S1 : Hid (∀ k x, fl[k]? = some x → Z (k + 1) = (setF x (rdV x s.data.toList (Z k).2).1 (Z k).1, (rdV x s.data.toList (Z k).2).2)) := Lib.hid (by rw [hZ]; exact fun k x hx => seqF_take_succ hx _ _ _)
  have SC : Hid (∀ k x, fl[k]? = some x → (rdV x s.data.toList (Z k).2).2.2 ≠ 0 → (Z n).2 = (rdV x s.data.toList (Z k).2).2) := Lib.hid (by rw [← e0, hZ]; exact fun k x hx => seqF_stop hx _ _ _)
  clear h hF hI hfl hs hb hZ e0 hz hp hbw h0
  unfold cvR
  go_enter Tryz.func32, Tryz.ntmps32
  go_wp2_with fail
  go_loopw [10, 7] (fun i _ wr => ∃ k : Nat, ∃ e' : FE, k ≤ n ∧ i = .int .i64 k ∧ Hid ((Z k).2.2 = 0) ∧ Hid (Rd5 wr R s (Z k).2.1) ∧ Hid (FcAt wr Bf e') ∧ Hid (e'.f = (Z k).1) ∧ Hid (FeIn base wr e') ∧ Hid (HzTo fl k e e') ∧ Hid (Kp (RG R Bf) w wr)) (fun i _ _ => n - (intOf i).toNat)
  case atStart => exact ⟨0, e, Nat.zero_le _, rfl, Lib.hid (by rw [S0.out]), Lib.hid (by rw [S0.out]; exact HR0.out), HF0, Lib.hid (by rw [S0.out]), HI0, Lib.hid (fun y _ hy => hy), Lib.hid (Kp.refl _ _)⟩
  case round =>
    clear HR0 HF0 HI0 S0
    obtain ⟨k, e', hk, rfl, z1, z2, z3, z4, z5, z6, z7⟩ := hrel
    by_cases hlt : k < n
    · obtain ⟨x, hx⟩ : ∃ x, fl[k]? = some x := ⟨fl[k]'(by rw [← HLN.out]; exact hlt), List.getElem?_eq_getElem _⟩
      obtain ⟨b, off, g3, g4, g5, rfl, b3, b4, b5, c0, c1, c2⟩ := fls_at (HFL.out _ z7.out) hx
      have HX := Lib.hid hx
      have HB3 := Lib.hid b3
      have HB4 := Lib.hid b4
      have HZx : Hid (HzX x e') := Lib.hid (z6.out x (fun y hy => by
        obtain ⟨j, hj, hjy⟩ := List.mem_iff_getElem.1 hy
        rw [List.length_take] at hj
        have h1 := List.pairwise_iff_getElem.1 HP.out j k (by omega) (List.getElem?_eq_some_iff.1 hx).1 (by omega)
        rw [List.getElem_take] at hjy
        rw [(List.getElem?_eq_some_iff.1 hx).2, hjy] at h1
        exact fun q => h1 q.symm) (HZ.out x (List.mem_of_getElem? hx)))
      clear hx b3 b4 b5
      have hltn : (k : Int) < n := by omega
      obtain ⟨fq, cq, hq⟩ : ∃ fq cq, (if isBs x = true then Value.func (.func 77) #[] #[] else .func (.func x.cls.f2) #[] #[pt g5, pt g3]) = .func fq #[] cq := by
        split
        · exact ⟨_, _, rfl⟩
        · exact ⟨_, _, rfl⟩
      rw [hq] at c1
      clear hq
      have E1 := f1_enter x.cls
      have K1 := Lib.hid (fun W h hF hI hbw b3 b4 => rfield x R Bf g3 g4 base e' s (Z k).2.1 W HS.out h hne hF hI HB.out hbw HZx.out b3 b4)
      have hpair : ((Z k).2.1, 0) = (Z k).2 := (pair_eta z1.out).symm
      rw [hpair, z4.out, ← S1.out k x HX.out] at K1
      clear hpair
      generalize x.cls.f1 = f1 at *
      generalize x.cls.f3 = f3 at *
      go_wp2_with fail
      have hba := below_alloc wr (.cells #[.func (.func f1) #[] #[pt g4, pt g3], .func fq #[] cq, .func (.func f3) #[] #[pt g3]] 67)
      have HKA := Lib.hid (z7.out.trans (Kp.of_below hba))
      have hca : (wr.alloc (.cells #[.func (.func f1) #[] #[pt g4, pt g3], .func fq #[] cq, .func (.func f3) #[] #[pt g3]] 67)).cell? ⟨wr.heap.size, 0, none⟩ = some (.func (.func f1) #[] #[pt g4, pt g3]) := by rw [Joins.cell_of_block (heap_alloc_new wr _)]; rfl
      have HKa := Lib.hid (Kp.of_below (S := RG R Bf) hba)
      refine (K1.out _ (z2.out.over hba) (z3.out.over hba) (z5.out.kp HKa.out HB.out) (Nat.le_trans HBW.out HKA.out.size) (HB3.out.over hba) (HB4.out.over hba)).mono ?_
      rintro r w2 (⟨r1, rfl, r2, ⟨e2, r3, r4, r5, ⟨ua, un, uc, uv, rfl⟩⟩, r6⟩ | ⟨r1, rfl, rk⟩)
      · have q1 := Lib.hid r1
        have q2 := Lib.hid r2
        have q3 := Lib.hid r3
        have q4 := Lib.hid r4
        have q5 := Lib.hid r5
        have q6 : Hid (HzTo fl (k + 1) e (updE x uv ua un uc e')) := Lib.hid (fun y hy hye => by
          rw [take_snocF HX.out] at hy
          exact (z6.out y (fun x hx => hy x (List.mem_append_left _ hx)) hye).upd (hy x (by simp)) _ _ _ _)
        have q7 := Lib.hid (HKA.out.trans r6)
        clear r1 r2 r3 r4 r5 r6 hba hca HKA HKa c0 c1 c2 K1 z1 z2 z3 z4 z5 z6 z7 HB3 HB4 HZx HX
        go_wp2_with fail
        go_roundw
        case rel => exact ⟨k + 1, _, by omega, by go_num, q1, q2, q3, q4, q5, q6, q7⟩
        case measure => simp [intOf]; omega
      · have hfe : (Z n).2 = (Z (k + 1)).2 := by
          have h1 := S1.out k x HX.out
          rw [SC.out k x HX.out (by rw [h1] at r1; exact r1), h1]
        have H0 := Lib.hid r1
        have HK := Lib.hid (HKA.out.trans rk)
        have HFE := Lib.hid hfe
        clear r1 rk hba hca HKA HKa c0 c1 c2 K1 z1 z2 z3 z4 z5 z6 z7 HB3 HB4 HZx HX hfe
        exact ⟨rfl, .inr ⟨by rw [HFE.out]; exact H0.out, by rw [HFE.out]; rfl, HK.out⟩⟩
    · obtain rfl : n = k := by omega
      have hzl : Hid (HzTo fl fl.length e e') := Lib.hid (by have := z6.out; rw [← HLN.out]; exact this)
      clear HFL z6
      go_wp2
      go_end0
      exact .inl ⟨z1.out, rfl, z2.out, ⟨e', z3.out, z4.out, z5.out, hzl.out⟩, z7.out⟩
set_option maxHeartbeats 4000000 in
theorem rfact (R Bf base : Nat) (s : ByteArray) (w : World) (hs : s.size ≤ maxLen) (h : Rd5 w R s 0) (hne : Bf ≠ R) (hF : FcAt w Bf zE) (hb : ∀ k, RG R Bf k → k < base) (hbw : base ≤ w.heap.size) :
    Calls Tryz.prog 21 #[cvR R, pt Bf] w (RdF R Bf base s (preF s.data.toList) zE (fun _ => True) w) := by
  have HR0 := Lib.hid h
  have HF0 := Lib.hid hF
  have HBW := Lib.hid hbw
  have HS := Lib.hid hs
  have HB := Lib.hid hb
  clear h hF hs hb hbw
  unfold cvR
  go_enter Tryz.func21, Tryz.ntmps21
  go_wp2_with fail
  refine (head5 _).mono ?_
  rintro r w1 ⟨a3, rfl, h3, b3⟩
  have R1 := Lib.hid (HR0.out.over b3)
  have F1 := Lib.hid (HF0.out.over b3)
  have K1 := Lib.hid (Kp.of_below (S := RG R Bf) b3)
  have H3 := Lib.hid h3
  clear h3 b3 HR0 HF0
  go_wp2_with fail
  refine (show Calls _ _ #[.iface 70 (.pointer (some ⟨R, 0, none⟩)), _, _] _ _ from rfields R Bf base a3 3 3 hdF zE s 0 w1 HS.out R1.out hne F1.out (FeIn.zero _ _) HB.out (Nat.le_trans HBW.out K1.out.size) H3.out (by omega) (by decide) (by intro x hx; simp only [hdF, List.mem_cons, List.not_mem_nil, or_false] at hx; rcases hx with rfl | rfl | rfl <;> trivial) (by decide)).mono ?_
  rintro r w2 (⟨r1, rfl, r2, ⟨e2, r3, r4, r5, r7⟩, r6⟩ | ⟨r1, rfl, rk⟩)
  rotate_left
  · have H0 := Lib.hid r1
    have HK := Lib.hid (K1.out.trans rk)
    clear r1 rk H3 R1 F1 K1
    exact ⟨rfl, .inr (by rw [preF_hd H0.out]; exact ⟨H0.out, rfl, HK.out⟩)⟩
  have Q1 : Hid ((seqF hdF s.data.toList zF (0, 0)).2.2 = 0) := Lib.hid r1
  have R2 := Lib.hid r2
  have F2 := Lib.hid r3
  have E2 : Hid (e2.f = (seqF hdF s.data.toList zF (0, 0)).1) := Lib.hid r4
  have I2 := Lib.hid r5
  have Z2 : Hid (∀ y, (∀ x ∈ hdF, y.slot ≠ x.slot) → HzX y zE → HzX y e2) := Lib.hid r7
  have K2 := Lib.hid (K1.out.trans r6)
  clear r1 r2 r3 r4 r5 r6 r7 H3 R1 F1 K1
  have q2 : w2.cell? ⟨Bf, 2, none⟩ = some (.int .i64 e2.f.kd) := F2.out.cell 2
  have KO := Lib.hid (fun W => fieldsOf5 e2.f.kd W)
  cases ho : ownF e2.f.kd with
  | none =>
    rw [ho] at KO
    have HO : Hid ((preF s.data.toList).2.2 = 50) := Lib.hid (preF_no Q1.out (by rw [← E2.out]; exact ho))
    clear ho
    go_wp2_with fail
    refine (KO.out _).mono ?_
    rintro r w3 hr
    obtain ⟨rfl, bb⟩ : r = .returned (.tuple #[.slice none 0 0, .bool false]) ∧ Below w2.heap.size w2 w3 := hr
    have HK := Lib.hid (K2.out.trans (Kp.of_below bb))
    clear bb KO R2 F2 E2 I2 Z2 K2 q2
    go_wp2
    exact ⟨rfl, .inr ⟨by rw [HO.out]; decide, by rw [HO.out]; rfl, HK.out⟩⟩
  | some fl =>
    rw [ho] at KO
    have HO : Hid (preF s.data.toList = seqF fl s.data.toList e2.f ((seqF hdF s.data.toList zF (0, 0)).2.1, 0)) := Lib.hid (by
      rw [E2.out]
      exact preF_some (pair_eta Q1.out) (by rw [← E2.out]; exact ho))
    obtain ⟨g1, g2, g3, g4⟩ := own_hd ho
    have HLN : Hid (fl.length ≤ 9 ∧ 0 < fl.length) := Lib.hid (by
      rcases own_cases ho with ⟨_, rfl⟩ | ⟨_, rfl⟩ | ⟨_, rfl⟩ | ⟨_, rfl⟩ | ⟨_, rfl⟩ | ⟨_, rfl⟩ | ⟨_, rfl⟩ | ⟨_, rfl⟩ | ⟨_, rfl⟩ | ⟨_, rfl⟩ <;> simp)
    have HZ : Hid (∀ x ∈ fl, HzX x e2) := Lib.hid (fun x hx => Z2.out x (fun y hy => (g1 x hx y hy).symm) (by cases x <;> first | trivial | exact ⟨rfl, rfl, rfl⟩))
    have HPW := Lib.hid g4
    clear ho g1 g2 g3 g4 Z2
    go_wp2_with fail
    refine (KO.out _).mono ?_
    rintro r w3 hr
    obtain ⟨a, n, c, rfl, hfl, bb⟩ : ∃ a n c, r = .returned (.tuple #[.slice a n c, .bool true]) ∧ IsFls w3 a n c fl ∧ Below w2.heap.size w2 w3 := hr
    have R3 := Lib.hid (R2.out.over bb)
    have F3 := Lib.hid (F2.out.over bb)
    have K3' := Lib.hid (Kp.of_below (S := RG R Bf) bb)
    have I3 := Lib.hid (I2.out.kp K3'.out HB.out)
    have K3 := Lib.hid (K2.out.trans K3'.out)
    have HFL := Lib.hid hfl
    have HN : Hid (n ≤ 12) := Lib.hid (by have h1 := hfl.len; have h2 := HLN.out; omega)
    clear bb hfl KO R2 F2 I2 K2 q2 K3'
    go_wp2_with fail
    refine (show Calls _ _ #[.iface 70 (.pointer (some ⟨R, 0, none⟩)), _, _] _ _ from rfields R Bf base a n c fl e2 s _ w3 HS.out R3.out hne F3.out I3.out HB.out (Nat.le_trans HBW.out K3.out.size) HFL.out HN.out HLN.out.2 HZ.out HPW.out).mono ?_
    rintro r w4 (⟨r1, rfl, r2, ⟨e4, r3, r4, r5, r7⟩, r6⟩ | ⟨r1, rfl, rk⟩)
    · have q1 := Lib.hid r1
      have q2 := Lib.hid r2
      have q3 := Lib.hid r3
      have q4 := Lib.hid r4
      have q5 := Lib.hid r5
      have q7 := Lib.hid (K3.out.trans r6)
      clear r1 r2 r3 r4 r5 r6 r7 R3 F3 I3 K3 HFL
      go_wp2
      go_end0
      show RdF R Bf base s (preF s.data.toList) zE (fun _ => True) w _ _
      rw [HO.out]
      exact .inl ⟨q1.out, rfl, q2.out, ⟨e4, q3.out, q4.out, q5.out, trivial⟩, q7.out⟩
    · have H0 := Lib.hid r1
      have HK := Lib.hid (K3.out.trans rk)
      clear r1 rk R3 F3 I3 K3 HFL
      exact ⟨rfl, .inr (by rw [HO.out]; exact ⟨H0.out, rfl, HK.out⟩)⟩
end Go.Proofs.YtlhcckjfgpcohaaGreatDoor
namespace Go.Proofs.YtlhcckjfgpcohaaGreatDoor
open Go.RowKit
set_option maxRecDepth 100000
set_option linter.unusedSimpArgs false
set_option linter.unusedVariables false
theorem ta5_y (n : Int) (w : World) : (Instr.typeAssert (.iface 31 (.int .i64 n)) 20 31 true).run Tryz.prog w = .ok (.tuple #[.int .i64 n, .bool true]) w := by kernel_rfl
theorem ta5_n (w : World) : (Instr.typeAssert .nilIface 20 31 true).run Tryz.prog w = .ok (.tuple #[.int .i64 0, .bool false]) w := by kernel_rfl
abbrev zC : List Value := elF zE
theorem wp_of_tmps {P : Program} {c : Code} {Q : Exit → Act → World → Prop} {tm tm' : Array Value} {ds : List Deferred} {w : World} (h : tm = tm') (k : c.wp P Q { tmps := tm', defers := ds } w) : c.wp P Q { tmps := tm, defers := ds } w := h ▸ k
set_option maxHeartbeats 4000000 in
theorem catch5 (Bf Be : Nat) (n : Int) (w : World) (x : Int) (hE : w.cell? ⟨Be, 0, none⟩ = some (.int .i64 x)) (hz : w.frozen? ⟨Be, 0, none⟩ = false) (hne : Be ≠ Bf) (hT : w.there Bf 0 23):
    CallsD Tryz.prog 26 #[.pointer (some ⟨Bf, 0, none⟩), .pointer (some ⟨Be, 0, none⟩)] (.panicking ({ v := .iface 31 (.int .i64 n), recovered := false } :: [])) w fun r u' w' =>
      r = .returned (.tuple #[]) ∧ u' = .panicking ({ v := .iface 31 (.int .i64 n), recovered := true } :: []) ∧ w' = (w.setCells Bf 0 zC).setCell ⟨Be, 0, none⟩ (.int .i64 n) := by
  have hE2 : (w.setCells Bf 0 zC).cell? ⟨Be, 0, none⟩ = some (.int .i64 x) := by
    rw [World.cell?_setCells_out Bf zC 0 w _ (fun h => absurd h hne)]; exact hE
  have hz2 : (w.setCells Bf 0 zC).frozen? ⟨Be, 0, none⟩ = false := by rw [World.frozen?_setCells]; exact hz
  have hT2 : Hid (w.there Bf 0 zC.toArray.size) := Lib.hid hT
  obtain ⟨w2, hw2⟩ : ∃ w2, w.setCells Bf 0 zC = w2 := ⟨_, rfl⟩
  rw [hw2] at hE2 hz2
  have HW := Lib.hid hw2
  clear hw2 hT
  refine callsD_of_wpS Tryz.func26 rfl fun c₀ cs hu => ?_
  apply wpS_seq
  apply wpS_region
  have h1 := ta5_y n
  simp [wpOpsS, go_sem, recoverD, hu, Tryz.ntmps26, Exit.thenS, h1]
  apply wpS_seq
  apply wpS_region
  simp [wpOpsS, go_sem, Exit.thenS]
  refine wpS_cond (t := true) (by simp [Act.eval, Array.replicate]) ?_
  simp only [if_true]
  refine wpS_of_wp ?_
  clear h1
  refine wp_of_tmps (tm' := #[.pointer (some ⟨Bf, 0, none⟩), .pointer (some ⟨Be, 0, none⟩), .int .i64 n, .bool true, .tuple #[.int .i64 n, .bool true], .iface 31 (.int .i64 n), .tuple #[.int .i64 n, .bool true], .int .i64 n, .bool true, .bool true, undef, undef]) (by kernel_rfl) ?_
  go_wp2_with (refine wpList_store_mid rfl 28 _ _ rfl Bf 0 zC.toArray rfl rfl hT2.out (by kernel_rfl) (by rw [List.all_toArray]; rfl) ?_; rw [show zC.toArray.toList = zC from rfl, HW.out])
  have hfin := HW.out
  rw [hfin]
  cases c₀
  simp_all [bodyPostS, results, Tryz.results26, go_sem]
theorem idle5 (p q : Addr) (w : World) :
    CallsD Tryz.prog 26 #[.pointer (some p), .pointer (some q)] .returning w fun e u' w' => e = .returned (.tuple #[]) ∧ u' = .returning ∧ w' = w := by
  have h1 := ta5_n
  refine callsD_of_wpS Tryz.func26 rfl fun c₀ cs hu => ?_
  apply wpS_seq
  apply wpS_region
  simp [wpOpsS, go_sem, recoverD, hu, Tryz.ntmps26, Exit.thenS, h1]
  apply wpS_seq
  apply wpS_region
  simp [wpOpsS, go_sem, Exit.thenS]
  refine wpS_cond (t := false) (by simp [Act.eval, Array.replicate]) ?_
  simp only [Bool.false_eq_true, if_false]
  refine wpS_of_wp (wp_skip ?_)
  cases c₀
  simp_all [bodyPostS, results, Tryz.results26]
theorem load_err {W : World} {b : Nat} {n : Int} (h : W.cell? ⟨b, 0, none⟩ = some (.int .i64 n)) : (loadVar 31 ⟨b, 0, none⟩).run Tryz.prog W = .ok (.int .i64 n) W := by
  simp [loadVar, go_sem, h]
/-- What Decode gives. -/
def DecOut (s : List UInt8) (w : World) (r : Ending) (w' : World) : Prop :=
  ∃ e', r = .returned (.tuple #[aggF e', .int .i64 (decF s).2]) ∧ e'.f = (decF s).1 ∧ FeIn w.heap.size w' e' ∧ Below w.heap.size w w'
/-- The deferred call, where reading has failed. -/
theorem caught (s : List UInt8) (Bf : Nat) (n : Int) (w w1 : World) (tmps : Array Value) (hd : decF s = (zF, n)) (hw : w.heap.size = Bf) (hT : w1.there Bf 0 23) (hE : w1.heap[Bf + 1]? = some (.cells #[.int .i64 0] 31 (0, 0))) (hb : Below Bf w w1)
    (ht1 : tmps.getD 2 undef = .pointer (some ⟨Bf, 0, none⟩)) (ht2 : tmps.getD 3 undef = .pointer (some ⟨Bf + 1, 0, none⟩)) :
    Leaves Tryz.prog Tryz.f14 tmps (DecOut s w) [{ target := .fn (.func 26) #[.pointer (some ⟨Bf, 0, none⟩), .pointer (some ⟨Bf + 1, 0, none⟩)], args := #[] }] (.panicking [{ v := .iface 31 (.int .i64 n), recovered := false }]) w1 := by
  have cE : w1.cell? ⟨Bf + 1, 0, none⟩ = some (.int .i64 0) := by rw [Joins.cell_of_block hE]; rfl
  have fE := Joins.unfrozen_of_block hE 0
  refine leaves_cons (f := 26) (args := #[.pointer (some ⟨Bf, 0, none⟩), .pointer (some ⟨Bf + 1, 0, none⟩)]) (by simp) (by simp [go_sem]) ?_
  refine (catch5 Bf (Bf + 1) n w1 0 cE fE (by omega) hT).mono ?_
  rintro e' u' w2 ⟨rfl, rfl, rfl⟩
  have hr : ((w1.setCells Bf 0 zC).setCell ⟨Bf + 1, 0, none⟩ (.int .i64 n)).rangeAt Bf 0 (elF zE) := by
    have h0 := World.rangeAt_setCells_same w1 Bf 0 zC (by simpa [elF] using hT)
    intro j v hv
    have h1 := h0 j v hv
    rw [World.cell?_setCell_far _ _ _ _ (by show Bf + 1 ≠ Bf; omega)]
    exact h1
  have hc : ((w1.setCells Bf 0 zC).setCell ⟨Bf + 1, 0, none⟩ (.int .i64 n)).cell? ⟨Bf + 1, 0, none⟩ = some (.int .i64 n) := by
    refine World.cell?_setCell_same (u := .int .i64 0) _ _ _ ?_
    rw [World.cell?_setCells_out Bf zC 0 w1 _ (fun h => absurd h (by show Bf + 1 ≠ Bf; omega))]
    exact cE
  have hk : Kp (RG Bf (Bf + 1)) w1 ((w1.setCells Bf 0 zC).setCell ⟨Bf + 1, 0, none⟩ (.int .i64 n)) := (Kp.setCells (.inl rfl) _ _ _ (Kp.refl _ _)).setCell (.inr rfl) _ _
  have hbb : Below w.heap.size w ((w1.setCells Bf 0 zC).setCell ⟨Bf + 1, 0, none⟩ (.int .i64 n)) := by
    rw [hw]
    exact hb.trans (hk.below (by have := hb.size; omega) (by rintro q (rfl | rfl) <;> omega))
  exact ⟨.tuple #[aggF zE, .int .i64 n], results_two rfl (load_fact hr) (load_err hc) ht1 ht2, zE, by rw [hd], by rw [hd]; rfl, FeIn.zero _ _, hbb⟩
set_option maxHeartbeats 4000000 in
theorem decode5 (s : ByteArray) (w : World) (hs : s.size ≤ maxLen) : Calls Tryz.prog 14 #[.string s] w (DecOut s.data.toList w) := by
  have hmf : ∀ (fn : Fn) (first cap : Array Value) (w : World), (Instr.makeFunc fn first cap).run Tryz.prog w = .ok (.func fn first cap) w := fun _ _ _ _ => rfl
  have HSZ := Lib.hid (show s.size = s.data.toList.length by simp)
  have hsm : s.size ≤ 9223372036854775807 := by unfold maxLen at hs; omega
  obtain ⟨Bf, hBf⟩ : ∃ Bf, Bf = w.heap.size := ⟨_, rfl⟩
  obtain ⟨W0, hW0⟩ : ∃ W0, W0 = (((w.alloc (.cells #[.int .i64 0, .int .i64 0, .int .i64 0, .int .i64 0, .string ⟨#[]⟩, .int .i64 0, .int .i64 0, .string ⟨#[]⟩, .string ⟨#[]⟩, .slice none 0 0, .slice none 0 0, .int .i64 0, .slice none 0 0, .int .i64 0, .int .i64 0, .int .i64 0, .int .i64 0, .int .i64 0, .string ⟨#[]⟩, .string ⟨#[]⟩, .int .i64 0, .int .i64 0, .int .i64 0] 28)).alloc (.cells #[.int .i64 0] 31)).alloc (.cells #[.string s, .int .i64 0] 72)) := ⟨_, rfl⟩
  have HW0 := Lib.hid hW0
  have B0 : Hid (Below Bf w W0) := Lib.hid (by rw [hW0, hBf]; exact bel2 (bel2 (below_alloc w _) (below_alloc _ _)) (below_alloc _ _))
  have F0 : Hid (FcAt W0 Bf zE) := Lib.hid (by
    rw [hW0, hBf]
    exact blockOver (below_alloc _ _) (blockOver (below_alloc _ _) (heap_alloc_new w _)))
  have E0 : Hid (W0.heap[Bf + 1]? = some (.cells #[.int .i64 0] 31 (0, 0))) := Lib.hid (by
    rw [hW0, hBf]
    have := heap_alloc_new (w.alloc (.cells #[.int .i64 0, .int .i64 0, .int .i64 0, .int .i64 0, .string ⟨#[]⟩, .int .i64 0, .int .i64 0, .string ⟨#[]⟩, .string ⟨#[]⟩, .slice none 0 0, .slice none 0 0, .int .i64 0, .slice none 0 0, .int .i64 0, .int .i64 0, .int .i64 0, .int .i64 0, .int .i64 0, .string ⟨#[]⟩, .string ⟨#[]⟩, .int .i64 0, .int .i64 0, .int .i64 0] 28)) (.cells #[.int .i64 0] 31)
    rw [show (w.alloc (.cells #[.int .i64 0, .int .i64 0, .int .i64 0, .int .i64 0, .string ⟨#[]⟩, .int .i64 0, .int .i64 0, .string ⟨#[]⟩, .string ⟨#[]⟩, .slice none 0 0, .slice none 0 0, .int .i64 0, .slice none 0 0, .int .i64 0, .int .i64 0, .int .i64 0, .int .i64 0, .int .i64 0, .string ⟨#[]⟩, .string ⟨#[]⟩, .int .i64 0, .int .i64 0, .int .i64 0] 28)).heap.size = w.heap.size + 1 by simp] at this
    exact blockOver (below_alloc _ _) this)
  have R0 : Hid (Rd5 W0 (Bf + 2) s 0) := Lib.hid (by
    rw [hW0, hBf]
    have := heap_alloc_new ((w.alloc (.cells #[.int .i64 0, .int .i64 0, .int .i64 0, .int .i64 0, .string ⟨#[]⟩, .int .i64 0, .int .i64 0, .string ⟨#[]⟩, .string ⟨#[]⟩, .slice none 0 0, .slice none 0 0, .int .i64 0, .slice none 0 0, .int .i64 0, .int .i64 0, .int .i64 0, .int .i64 0, .int .i64 0, .string ⟨#[]⟩, .string ⟨#[]⟩, .int .i64 0, .int .i64 0, .int .i64 0] 28)).alloc (.cells #[.int .i64 0] 31)) (.cells #[.string s, .int .i64 0] 72)
    rw [show ((w.alloc (.cells #[.int .i64 0, .int .i64 0, .int .i64 0, .int .i64 0, .string ⟨#[]⟩, .int .i64 0, .int .i64 0, .string ⟨#[]⟩, .string ⟨#[]⟩, .slice none 0 0, .slice none 0 0, .int .i64 0, .slice none 0 0, .int .i64 0, .int .i64 0, .int .i64 0, .int .i64 0, .int .i64 0, .string ⟨#[]⟩, .string ⟨#[]⟩, .int .i64 0, .int .i64 0, .int .i64 0] 28)).alloc (.cells #[.int .i64 0] 31)).heap.size = w.heap.size + 2 by simp] at this
    exact this)
  have hsz0 : Hid (W0.heap.size = Bf + 3) := Lib.hid (by rw [hW0, hBf]; simp)
  have KF := Lib.hid (rfact (Bf + 2) Bf (Bf + 3) s W0 hs R0.out (by omega) F0.out (by rintro k (rfl | rfl) <;> omega) (by rw [hsz0.out]; omega))
  have HBF := Lib.hid hBf
  have hBs : w.heap.size = Bf := hBf.symm
  clear hW0 hBf
  go_enter_defers Tryz.func14, Tryz.ntmps14
  go_wp2_with fail
  rw [← HW0.out]
  refine KF.out.mono ?_
  clear KF
  rintro e w1 (⟨h0, rfl, hR, ⟨e1, hF, hf, hI, -⟩, hK⟩ | ⟨h0, rfl, hK⟩)
  rotate_left
  · have HX := Lib.hid h0
    have hd : decF s.data.toList = (zF, (preF s.data.toList).2.2) := by rw [decF_pre, if_pos h0]
    obtain ⟨cs', hcs, hh⟩ := hK.kept Bf _ _ F0.out
    have hE1 := hK.heap E0.out (by rintro (q | q) <;> omega)
    have hb1 : Below Bf w w1 := B0.out.trans (hK.below (by rw [hsz0.out]; omega) (by rintro q (rfl | rfl) <;> omega))
    have hT : w1.there Bf 0 23 := fun j hj => ⟨by
      rw [Nat.zero_add, Joins.cell_of_block hh, Array.getElem?_eq_getElem (by rw [hcs]; simpa [elF] using hj)]; rfl, Joins.unfrozen_of_block hh _⟩
    exact caught s.data.toList Bf _ w w1 _ hd hBs hT hE1 hb1 rfl rfl
  have hE1 := hK.heap E0.out (by rintro (q | q) <;> omega)
  have hb1 : Below Bf w w1 := B0.out.trans (hK.below (by rw [hsz0.out]; omega) (by rintro q (rfl | rfl) <;> omega))
  obtain ⟨f2, p2, er2, HP⟩ : ∃ f2 p2 er2, Hid (preF s.data.toList = (f2, p2, er2)) := ⟨_, _, _, Lib.hid rfl⟩
  rw [HP.out] at h0 hR hf
  obtain rfl : er2 = 0 := h0
  simp only at hR hf
  have cR := (cells2 hR).2
  have HE1 := Lib.hid hE1
  have HB1 := Lib.hid hb1
  have HF := Lib.hid hF
  have HI := Lib.hid hI
  have Hf := Lib.hid hf
  have hT := Lib.hid hF.there
  clear hE1 hb1 hF hI hf hR hK
  by_cases hlt : p2 < s.size
  · have hd : Hid (decF s.data.toList = (zF, 10)) := Lib.hid (by rw [decF_pre, HP.out, if_neg (by simp), if_pos (by rw [← HSZ.out]; exact hlt)])
    go_wp2_with fail
    exact caught s.data.toList Bf 10 w w1 _ hd.out hBs hT.out HE1.out HB1.out rfl rfl
  · have KV := Lib.hid (valid5 e1 w1 HI.out.ok)
    go_wp2_with (refine wpList_load28 _ Bf e1 ?F rfl rfl rfl ?_; (case F => exact HF.out))
    refine (show Calls _ _ #[aggF e1] _ _ from KV.out.mono ?_)
    rintro r w2 ⟨rfl, b2⟩
    have HF2 := Lib.hid (HF.out.over b2)
    have HE2 := Lib.hid (blockOver b2 HE1.out)
    have HB2 : Hid (Below Bf w w2) := Lib.hid (HB1.out.trans (b2.mono (by have := HB1.out.size; rw [hBs] at this; exact this)))
    have HI2 : Hid (FeIn (Bf + 3) w2 e1) := Lib.hid (HI.out.kp (Kp.of_below (S := RG Bf (Bf + 1)) b2) (by rintro k (rfl | rfl) <;> omega))
    clear b2 KV HF HE1 HB1 HI cR
    cases hv : vF e1.f
    · have hd : Hid (decF s.data.toList = (zF, 50)) := Lib.hid (by
        rw [decF_pre, HP.out, if_neg (by simp), if_neg (by rw [← HSZ.out]; show ¬ p2 < (s.size : Int); omega), if_pos (by rw [← Hf.out]; exact hv)])
      go_wp2_with fail
      exact caught s.data.toList Bf 50 w w2 _ hd.out hBs HF2.out.there HE2.out HB2.out rfl rfl
    · have hd : Hid (decF s.data.toList = (e1.f, 0)) := Lib.hid (by
        rw [decF_pre, HP.out, if_neg (by simp), if_neg (by rw [← HSZ.out]; show ¬ p2 < (s.size : Int); omega), if_neg (by rw [← Hf.out]; simp [hv]), ← Hf.out])
      obtain ⟨W3, hW3⟩ : ∃ W3, w2.setCells Bf 0 (elF e1) = W3 := ⟨_, rfl⟩
      have c3 : W3.cell? ⟨Bf + 1, 0, none⟩ = some (.int .i64 0) := by
        rw [← hW3, World.cell?_setCells_out Bf _ 0 w2 _ (fun h => absurd h (by show Bf + 1 ≠ Bf; omega)), Joins.cell_of_block HE2.out]; rfl
      have f3 : W3.frozen? ⟨Bf + 1, 0, none⟩ = false := by rw [← hW3, World.frozen?_setCells]; exact Joins.unfrozen_of_block HE2.out 0
      have K3 : Hid (Kp (RG Bf (Bf + 1)) w2 (W3.setCell ⟨Bf + 1, 0, none⟩ (.int .i64 0))) := Lib.hid (by rw [← hW3]; exact (Kp.setCells (.inl rfl) _ _ _ (Kp.refl _ _)).setCell (.inr rfl) _ _)
      have R3 : Hid ((W3.setCell ⟨Bf + 1, 0, none⟩ (.int .i64 0)).rangeAt Bf 0 (elF e1)) := Lib.hid (by
        have h0 := World.rangeAt_setCells_same w2 Bf 0 (elF e1) (by simpa [elF] using HF2.out.there)
        rw [hW3] at h0
        intro j v hv
        rw [World.cell?_setCell_far _ _ _ _ (by show Bf + 1 ≠ Bf; omega)]
        exact h0 j v hv)
      have C3 : Hid ((W3.setCell ⟨Bf + 1, 0, none⟩ (.int .i64 0)).cell? ⟨Bf + 1, 0, none⟩ = some (.int .i64 0)) := Lib.hid (World.cell?_setCell_same _ _ _ c3)
      have HT2 := Lib.hid HF2.out.there
      have HW3 := Lib.hid hW3
      clear hW3
      go_wp2_with (first | (refine wpList_load28 _ Bf e1 ?F rfl rfl rfl ?_; (case F => exact HF2.out)) | (refine wpList_storeK Bf e1 ?T _ _ rfl rfl rfl rfl ?_; (case T => exact HT2.out); rw [HW3.out]))
      refine leaves_cons (f := 26) (args := #[.pointer (some ⟨Bf, 0, none⟩), .pointer (some ⟨Bf + 1, 0, none⟩)]) (by simp) (by simp [go_sem]) ?_
      refine (idle5 _ _ _).mono ?_
      rintro e' u' w' ⟨rfl, rfl, rfl⟩
      have hbb : Below w.heap.size w (W3.setCell ⟨Bf + 1, 0, none⟩ (.int .i64 0)) := by
        rw [hBs]
        exact HB2.out.trans (K3.out.below (by have := HB2.out.size; omega) (by rintro q (rfl | rfl) <;> omega))
      exact ⟨.tuple #[aggF e1, .int .i64 0], results_two rfl (load_fact R3.out) (load_err C3.out) rfl rfl, e1, by rw [hd.out], by rw [hd.out], (HI2.out.kp K3.out (by rintro k (rfl | rfl) <;> omega)).mono (by omega), hbb⟩
end Go.Proofs.YtlhcckjfgpcohaaGreatDoor
