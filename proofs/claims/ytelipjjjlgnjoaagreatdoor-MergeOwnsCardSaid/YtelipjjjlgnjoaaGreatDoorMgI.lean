import Derived.Test.YtelipjjjlgnjoaaGreatDoorMgF
import Derived.Test.YtelipjjjlgnjoaaGreatDoorMgH
import Derived.RangeFuncBox
import Derived.RangeFuncWrites
import Derived.Outline
namespace Go.Proofs.YtelipjjjlgnjoaaGreatDoor
open Go.RowKit Go.MapKept Go.Shelf
attribute [local go_sem] Oper.semAt_some
set_option maxRecDepth 100000
set_option linter.unusedSimpArgs false
set_option linter.unusedVariables false
theorem ids_any (g : Nat) (w : World) : Calls Tryz.prog 46 #[.slice (some ⟨g, 0, none⟩) 3 3] w fun e w' => e = .returned (.func (.func 65) #[] #[.pointer (some ⟨w.heap.size, 0, none⟩)]) ∧ w' = w.alloc (.cells #[.slice (some ⟨g, 0, none⟩) 3 3] 53) := by
  go_enter Tryz.func46, Tryz.ntmps46
  go_wp2
  go_ret
  exact ⟨rfl, rfl⟩
/-- A number that an int can hold. -/
abbrev I64 : Type := { x : Int // Bd x }
def ints (q : List I64) : List Int := q.map (·.1)
theorem ints_snoc (q : List I64) (x : I64) : ints (q ++ [x]) = ints q ++ [x.1] := by simp [ints]
theorem ids_stops (n : Nat) (hn : 2 ≤ n) (Bt g : Nat) (T : List SL) (w₀ w : World) (hW0 : Below w₀.heap.size w₀ w) (hL : IsLs w₀ w g T) (hBt : w.heap[Bt]? = some (.cells #[.slice (some ⟨g, 0, none⟩) T.length T.length] 53 (0, 0))) :
    SeqStopsK Fence.wide n Tryz.prog 65 #[.pointer (some ⟨Bt, 0, none⟩)] (fun x : I64 => #[Value.int .i64 x.1]) (KpI w₀ Bt g) (fun ys => ints ys = idsU (lsI T) T.length) (fun pre => ints pre <+: idsU (lsI T) T.length) 200000 w := fun l J Jx W hW hJa hJxa hY h0 => by
  refine (ids1_in n hn l Bt g T w₀ (fun pre W => ∃ q, ints q = pre ∧ J q W) (fun pre W => ∃ q, ints q = pre ∧ Jx q W) ?_ ?_ W (belowOver hW0 (Nat.le_refl _) hW) (hL.over hW) (blockOver hW hBt) ⟨[], rfl, h0⟩).mono ?_
  · rintro s W W' ⟨q, rfl, hJ⟩ hb
    exact ⟨q, rfl, hJa q W W' none hJ ⟨hb.os, hb.tape, hb.output, hb.size, fun k hk _ => hb.block k hk⟩ (fun r e => by cases e)⟩
  · rintro pre x W1 ⟨q, rfl, hJ⟩ hlen hx
    refine (hY q ⟨x, hx⟩ W1 hJ (by simpa [ints] using hlen)).mono ?_
    rintro e W' (⟨h1, h2, h3⟩ | ⟨h1, h2⟩)
    · exact .inl ⟨h1, ⟨_, ints_snoc q ⟨x, hx⟩, h2⟩, h3⟩
    · exact .inr ⟨h1, ⟨_, ints_snoc q ⟨x, hx⟩, h2⟩⟩
  · rintro e W' ⟨h1, ⟨ys, h2, q, h3, h4⟩ | ⟨pre, h2, q, h3, h4⟩⟩
    · exact ⟨h1, .inl ⟨q, h3.trans h2, h4⟩⟩
    · exact ⟨h1, .inr ⟨q, (show ints q <+: idsU (lsI T) T.length by rw [h3]; exact h2), h4⟩⟩
theorem kpI_t {w₀ : World} {Bt g : Nat} {A B C : World} (h : KpI w₀ Bt g A B) (k : KpI w₀ Bt g B C) : KpI w₀ Bt g A C := ⟨fun hc => k.1 (h.1 hc), k.2.1.trans h.2.1, k.2.2.trans h.2.2⟩
theorem kpI_b {w₀ w : World} {Bt g : Nat} (hw : w₀.heap.size ≤ w.heap.size) (hB : Bt < w.heap.size) (hg : g < w.heap.size) (W : World) (l : Nat) (o o' : Obj) (hl : w.heap.size ≤ l) (h : W.heap[l]? = some o) (hc : o.isCells = false) (hk : o.isWalk = false) : KpI w₀ Bt g W (W.putObj l o') :=
  ⟨fun hb => hb.trans (belowK_b (w := w) hw W l o o' hl h hc hk), World.putObj_heap_other (by omega), World.putObj_heap_other (by omega)⟩
/- what is chosen -/
def beO : Option BE → BE
  | some e => e
  | none => beZ
def chE (p q r : List BE) (i : Int) : BE × Bool := chsE (beO (fndE p i)) (beO (fndE q i)) (beO (fndE r i))
def mgE (p q r : List BE) (i : Int) : Option BE := if ((chE p q r i).1.1.id == 0) = true then none else some (chE p q r i).1
def cfE (p q r : List BE) (i : Int) : Bool := (chE p q r i).2
theorem fndE_map (p : List BE) (i : Int) : (fndE p i).map (·.1) = fnd (blks p) i := by
  unfold fndE fnd blks
  rw [List.find?_map]; rfl
theorem fndE_mem {p : List BE} {i : Int} {e : BE} (h : fndE p i = some e) : e ∈ p ∧ e.1.id = i := by
  refine ⟨List.mem_of_find?_eq_some h, ?_⟩
  have := List.find?_some h
  simpa using this
def Nz (x : Option BE) : Prop := ∀ e, x = some e → e.1.id ≠ 0
theorem sB_beO {x y : Option BE} (hx : Nz x) (hy : Nz y) : sB (beO y).1 (beO x).1 = eqO (y.map (·.1)) (x.map (·.1)) := by
  cases x with
  | none =>
    cases y with
    | none => exact (sB_iff _ _).2 rfl
    | some f =>
      show sB f.1 beZ.1 = false
      have := hy f rfl
      simp [sB, beZ, this]
  | some e =>
    cases y with
    | none =>
      show sB beZ.1 e.1 = false
      have := hx e rfl
      simp [sB, beZ, Ne.symm this]
    | some f => rfl
theorem beO_none {z : Option BE} (hz : Nz z) : ((beO z).1.id == 0) = (z.map (·.1)).isNone := by
  cases z with
  | none => rfl
  | some e => simpa [beO] using hz e rfl
theorem chsE_rel (x y z : Option BE) (hx : Nz x) (hy : Nz y) (hz : Nz z) : ∃ o, (o = y ∨ o = z) ∧ (chsE (beO x) (beO y) (beO z)).1 = beO o ∧ (chs (x.map (·.1)) (y.map (·.1)) (z.map (·.1))).1 = o.map (·.1) ∧ (chsE (beO x) (beO y) (beO z)).2 = (chs (x.map (·.1)) (y.map (·.1)) (z.map (·.1))).2 := by
  unfold chsE chs
  rw [sB_beO hx hy, sB_beO hx hz, sB_beO hy hz, beO_none hz]
  by_cases h1 : eqO (y.map (·.1)) (x.map (·.1)) = true
  · exact ⟨z, .inr rfl, by rw [if_pos h1], by rw [if_pos h1], by rw [if_pos h1, if_pos h1]⟩
  · rw [if_neg h1, if_neg h1]
    by_cases h2 : (eqO (z.map (·.1)) (x.map (·.1)) || eqO (z.map (·.1)) (y.map (·.1))) = true
    · exact ⟨y, .inl rfl, by rw [if_pos h2], by rw [if_pos h2], by rw [if_pos h2, if_pos h2]⟩
    · rw [if_neg h2, if_neg h2]
      by_cases h3 : (z.map (·.1)).isNone = true
      · exact ⟨y, .inl rfl, by rw [if_pos h3], by rw [if_pos h3], by rw [if_pos h3, if_pos h3]⟩
      · exact ⟨z, .inr rfl, by rw [if_neg h3], by rw [if_neg h3], by rw [if_neg h3, if_neg h3]⟩
section
variable {p q r : List BE}
theorem nz_of {l : List BE} (h : vL (blks l) = true) (i : Int) : Nz (fndE l i) := by
  intro e he
  have := ids_bd h (i := e.1.id) (List.mem_map.2 ⟨e.1, List.mem_map.2 ⟨e, (fndE_mem he).1, rfl⟩, rfl⟩)
  omega
theorem chE_rel (h : v3 (blks p) (blks q) (blks r) = true) (i : Int) : ∃ o, (o = fndE q i ∨ o = fndE r i) ∧ (chE p q r i).1 = beO o ∧ mrg (blks p) (blks q) (blks r) i = o.map (·.1) ∧ cfE p q r i = cfl (blks p) (blks q) (blks r) i ∧ mgE p q r i = o := by
  obtain ⟨hp, hq, hr⟩ := v3_iff.1 h
  obtain ⟨o, h1, h2, h3, h4⟩ := chsE_rel (fndE p i) (fndE q i) (fndE r i) (nz_of hp i) (nz_of hq i) (nz_of hr i)
  rw [fndE_map, fndE_map, fndE_map] at h3 h4
  have hz : Nz o := by rcases h1 with rfl | rfl; exact nz_of hq i; exact nz_of hr i
  refine ⟨o, h1, h2, h3, h4, ?_⟩
  unfold mgE
  rw [show (chE p q r i).1 = beO o from h2, beO_none hz]
  cases o with
  | none => rfl
  | some e => rfl
theorem mgE_map (h : v3 (blks p) (blks q) (blks r) = true) (i : Int) : (mgE p q r i).map (·.1) = mrg (blks p) (blks q) (blks r) i := by
  obtain ⟨o, _, _, h3, _, h5⟩ := chE_rel h i
  rw [h3, h5]
theorem mB_has (h : v3 (blks p) (blks q) (blks r) = true) (i : Int) : mB (mgE p q r) i = hasM (blks p) (blks q) (blks r) i := by
  unfold mB hasM
  rw [← mgE_map h]
  cases mgE p q r i <;> rfl
theorem mgE_from (h : v3 (blks p) (blks q) (blks r) = true) {i : Int} {e : BE} (he : mgE p q r i = some e) : (e ∈ q ∨ e ∈ r) ∧ e.1.id = i := by
  obtain ⟨o, h1, _, _, _, h5⟩ := chE_rel h i
  rw [h5] at he
  subst he
  rcases h1 with h1 | h1
  · exact ⟨.inl (fndE_mem h1.symm).1, (fndE_mem h1.symm).2⟩
  · exact ⟨.inr (fndE_mem h1.symm).1, (fndE_mem h1.symm).2⟩
end
/- counting -/
def cstep (m : Int → Bool) (s : List Int × Nat) (x : Int) : List Int × Nat := (s.1 ++ [x], if (m x && !s.1.contains x) = true then s.2 + 1 else s.2)
def cntS (m : Int → Bool) (q : List Int) : Nat := (q.foldl (cstep m) ([], 0)).2
theorem cstep_fst (m : Int → Bool) : ∀ (q s : List Int) (n : Nat), (q.foldl (cstep m) (s, n)).1 = s ++ q
  | [], s, n => by simp
  | x :: q, s, n => by rw [List.foldl_cons, cstep, cstep_fst]; simp
theorem cntS_snoc (m : Int → Bool) (q : List Int) (x : Int) : cntS m (q ++ [x]) = if (m x && !q.contains x) = true then cntS m q + 1 else cntS m q := by
  unfold cntS
  rw [List.foldl_append, List.foldl_cons, List.foldl_nil]
  conv => lhs; rw [cstep]
  rw [cstep_fst, List.nil_append]
theorem cntS_nodup (m : Int → Bool) : ∀ (q s : List Int) (n : Nat), (s ++ q).Nodup → (q.foldl (cstep m) (s, n)).2 = n + (q.filter m).length
  | [], s, n, _ => by simp
  | x :: q, s, n, h => by
    have hx : x ∉ s := by
      intro hq
      rw [List.nodup_append] at h
      exact h.2.2 x hq x List.mem_cons_self rfl
    have h2 : (s ++ [x] ++ q).Nodup := by simpa using h
    rw [List.foldl_cons, cstep, cntS_nodup m q _ _ h2]
    have hc : s.contains x = false := by simpa using hx
    rw [hc]
    cases hm : m x <;> simp [hm]
    omega
theorem cntS_len (m : Int → Bool) : ∀ (q s : List Int) (n : Nat), (q.foldl (cstep m) (s, n)).2 ≤ n + q.length
  | [], s, n => by simp
  | x :: q, s, n => by
    rw [List.foldl_cons, cstep]
    refine Nat.le_trans (cntS_len m q _ _) ?_
    rw [List.length_cons]
    split <;> omega
/-- W is W0 but for the blocks G and B and for new ones. -/
structure Kb (W0 W : World) (G B : Nat) : Prop where
  os : W.os = W0.os
  tape : W.tape = W0.tape
  output : W.output = W0.output
  size : W0.heap.size ≤ W.heap.size
  block : ∀ k, k < W0.heap.size → k ≠ G → k ≠ B → W.heap[k]? = W0.heap[k]?
theorem Kb.refl (W0 : World) (G B : Nat) : Kb W0 W0 G B := ⟨rfl, rfl, rfl, Nat.le_refl _, fun _ _ _ _ => rfl⟩
theorem Kb.grown {W0 W W' : World} {G B : Nat} {row : Option Nat} (h : Kb W0 W G B) (hg : W.grownBy W' row) (hr : ∀ k, row = some k → k = G ∨ k = B ∨ W0.heap.size ≤ k) : Kb W0 W' G B :=
  ⟨hg.os.trans h.os, hg.tape.trans h.tape, hg.output.trans h.output, Nat.le_trans h.size hg.size, fun k hk hG hB =>
    (hg.block k (Nat.lt_of_lt_of_le hk h.size) (fun e => by rcases hr k e.symm with q | q | q; exact hG q; exact hB q; omega)).trans (h.block k hk hG hB)⟩
theorem Kb.over {W0 W W' : World} {G B : Nat} (h : Kb W0 W G B) (hb : Below W.heap.size W W') : Kb W0 W' G B :=
  h.grown (row := none) ⟨hb.os, hb.tape, hb.output, hb.size, fun k hk _ => hb.block k hk⟩ (fun k e => by cases e)
theorem Kb.setB {W0 W : World} {G B : Nat} (h : Kb W0 W G B) (v : Value) : Kb W0 (W.setCell ⟨B, 0, none⟩ v) G B :=
  h.grown (grownBy_setCell' W B v) (fun k e => by cases e; exact .inr (.inl rfl))
theorem Kb.alloc {W0 W : World} {G B : Nat} (h : Kb W0 W G B) (o : Obj) : Kb W0 (W.alloc o) G B := h.over (below_alloc W o)
theorem Kb.below {w W0 W : World} {G B : Nat} (h : Kb W0 W G B) (hw : Below w.heap.size w W0) (hG : w.heap.size ≤ G) (hB : w.heap.size ≤ B) : Below w.heap.size w W :=
  ⟨h.os.trans hw.os, h.tape.trans hw.tape, h.output.trans hw.output, Nat.le_trans hw.size h.size, fun k hk => (h.block k (Nat.lt_of_lt_of_le hk hw.size) (by omega) (by omega)).trans (hw.block k hk)⟩
theorem Kb.at_ {W0 W : World} {G B k : Nat} {o : Obj} (h : Kb W0 W G B) (ho : W0.heap[k]? = some o) (hG : k ≠ G) (hB : k ≠ B) : W.heap[k]? = some o :=
  (h.block k (Array.getElem?_eq_some_iff.1 ho).1 hG hB).trans ho
theorem Kb.map {W0 W : World} {G B g n : Nat} {f : Int → Option Value} {P : Program} {k : TypeId} (h : Kb W0 W G B) (hm : IsMapV W0 P k g n f) (hG : g ≠ G) (hB : g ≠ B) : IsMapV W P k g n f := hm.block (h.block g hm.lt hG hB)
theorem Kb.kp {w₀ W0 W W' : World} {G B Bt g : Nat} (h : Kb W0 W G B) (h' : Kb W0 W' G B) (hw : Below w₀.heap.size w₀ W0) (hG : w₀.heap.size ≤ G) (hB : w₀.heap.size ≤ B) (hBt : Bt < W0.heap.size) (hg : g < W0.heap.size) (n1 : Bt ≠ G) (n2 : Bt ≠ B) (n3 : g ≠ G) (n4 : g ≠ B) : KpI w₀ Bt g W W' :=
  ⟨fun _ => h'.below hw hG hB, (h'.block Bt hBt n1 n2).trans (h.block Bt hBt n1 n2).symm, (h'.block g hg n3 n4).trans (h.block g hg n3 n4).symm⟩
def mgP (mg : Int → Option BE) (q : List Int) (i : Int) : Option BE := if q.contains i = true then mg i else none
theorem mgP_snoc_none {mg : Int → Option BE} {q : List Int} {x : Int} (h : mg x = none) : mgP mg (q ++ [x]) = mgP mg q := by
  funext i
  unfold mgP
  by_cases hi : i = x
  · subst hi; simp [h]
  · simp [hi]
theorem mgP_snoc_some {mg : Int → Option BE} {q : List Int} {x : Int} {e : BE} (h : mg x = some e) : putV (mapE (mgP mg q)) x (bv e) = mapE (mgP mg (q ++ [x])) := by
  funext i
  unfold putV mapE mgP
  by_cases hi : i = x
  · subst hi; simp [h]
  · simp [hi]
theorem cnt_none {mg : Int → Option BE} {q : List Int} {x : Int} (h : mg x = none) : cntS (mB mg) (q ++ [x]) = cntS (mB mg) q := by
  rw [cntS_snoc]; simp [mB, h]
theorem cnt_some {mg : Int → Option BE} {q : List Int} {x : Int} {e : BE} (h : mg x = some e) : cntS (mB mg) (q ++ [x]) = if (mapE (mgP mg q) x).isSome = true then cntS (mB mg) q else cntS (mB mg) q + 1 := by
  rw [cntS_snoc]
  by_cases hc : x ∈ q <;> simp [mB, h, mapE, mgP, hc]
theorem cellB {W : World} {k : Nat} {v : Value} {t : TypeId} {fr : Nat × Nat} (h : W.heap[k]? = some (.cells #[v] t fr)) : W.cell? ⟨k, 0, none⟩ = some v := by rw [Joins.cell_of_block h]; rfl
/-- What holds between two rounds, q having come. -/
def Inv (W0 : World) (G B : Nat) (mg : Int → Option BE) (cf : Int → Bool) (q : List Int) (W : World) : Prop :=
  (Kb W0 W G B ∧ IsMapV W Tryz.prog 3 G (cntS (mB mg) q) (mapE (mgP mg q))) ∧ ∃ v, Boxed W B 25 v ∧ W.ownsRow W0.heap.size 3 1 v (q.filter cf).length (intsV (q.filter cf)) ∧ True
theorem inv_own (W0 : World) (G B : Nat) (mg : Int → Option BE) (cf : Int → Bool) (hG : G < W0.heap.size) : OwnFrom W0.heap.size (fun (pre : List I64) W => Inv W0 G B mg cf (ints pre) W) := by
  refine OwnFrom.and (fun s A C row hs hg hr => ⟨hs.1.grown hg (fun k e => .inr (.inr (hr k e).1)), hs.2.kept hg (fun e => by have := (hr _ e.symm).1; omega)⟩) (Own.from ?_ _)
  exact holdsRow_own W0.heap.size B 25 3 1 (fun pre : List I64 => ((ints pre).filter cf).length) (fun pre => intsV ((ints pre).filter cf)) (fun _ _ => True)
theorem look_beO {p : List BE} {i : Int} {e : BE} (he : beO (fndE p i) = e) (z : Value) (hz : z = bv beZ) : (mapB p i).getD z = .agg #[.int .i64 e.1.id, .int .i64 e.1.kd, .string ⟨e.1.tx.toArray⟩, .int .i64 e.1.st, .int .i64 e.1.rf, .int .i64 e.1.lb.u, .slice e.2.1 e.2.2.1 e.2.2.2, .int .i64 e.1.lb.ap, .int .i64 e.1.lb.d] := by
  subst he hz
  unfold mapB
  cases fndE p i <;> rfl
theorem beO_ok {p : List BE} {w : World} (h : ∀ e ∈ p, BeOk w e) (i : Int) : BeOk w (beO (fndE p i)) := by
  cases hf : fndE p i with
  | none => exact beZ_ok w
  | some e => exact h e (fndE_mem hf).1
end Go.Proofs.YtelipjjjlgnjoaaGreatDoor
