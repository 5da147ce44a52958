/- Package fact: the lists of fields that are made. -/
import Derived.Test.YtlhcckjfgpcohaaGreatDoorFctG
import Derived.Laws.EntriesVeiled
namespace Go.Proofs.YtlhcckjfgpcohaaGreatDoor
open Go.RowKit
set_option maxRecDepth 100000
set_option linter.unusedSimpArgs false
set_option linter.unusedVariables false
/-- The fields of a list, one by one. -/
def Flds (W : World) : List Fld → List V3 → Prop
  | [], [] => True
  | x :: l, v :: vs => IsFld W x v ∧ Flds W l vs
  | _, _ => False
theorem Flds.over {W W' : World} (hb : Below W.heap.size W W') : ∀ {l : List Fld} {vs : List V3}, Flds W l vs → Flds W' l vs
  | [], [], _ => trivial
  | x :: l, v :: vs, h => ⟨h.1.over hb, Flds.over hb h.2⟩
  | [], _ :: _, h => h
  | _ :: _, [], h => h
theorem Flds.app {W : World} : ∀ {l m : List Fld} {vs us : List V3}, Flds W l vs → Flds W m us → Flds W (l ++ m) (vs ++ us)
  | [], _, [], _, _, h => h
  | x :: l, _, v :: vs, _, h, k => ⟨h.1, Flds.app h.2 k⟩
  | [], _, _ :: _, _, h, _ => h.elim
  | _ :: _, _, [], _, h, _ => h.elim
theorem Flds.len {W : World} : ∀ {l : List Fld} {vs : List V3}, Flds W l vs → vs.length = l.length
  | [], [], _ => rfl
  | x :: l, v :: vs, h => by rw [List.length_cons, List.length_cons, Flds.len h.2]
  | [], _ :: _, h => h.elim
  | _ :: _, [], h => h.elim
theorem Flds.at {W : World} : ∀ {l : List Fld} {vs : List V3} {k : Nat} {x : Fld}, Flds W l vs → l[k]? = some x → ∃ v, vs[k]? = some v ∧ IsFld W x v
  | x :: l, v :: vs, 0, y, h, hk => by
    simp only [List.getElem?_cons_zero, Option.some.injEq] at hk
    exact ⟨v, rfl, hk ▸ h.1⟩
  | x :: l, v :: vs, k + 1, y, h, hk => by
    simp only [List.getElem?_cons_succ] at hk ⊢
    exact Flds.at h.2 hk
  | [], [], _, _, _, hk => by simp at hk
  | [], _ :: _, _, _, h, _ => h.elim
  | _ :: _, [], _, _, h, _ => h.elim
theorem fld_one {W : World} {x : Fld} {v : V3} (h : IsFld W x v) : One3 v := by
  obtain ⟨g3, g4, g5, rfl, _⟩ := h
  refine ⟨rfl, ?_, rfl⟩
  simp only
  split <;> rfl
theorem Flds.one {W : World} : ∀ {l : List Fld} {vs : List V3}, Flds W l vs → ∀ v ∈ vs, One3 v
  | [], [], _, v, hv => by simp at hv
  | x :: l, u :: vs, h, v, hv => by
    rcases List.mem_cons.1 hv with rfl | hv
    · exact fld_one h.1
    · exact Flds.one h.2 v hv
  | [], _ :: _, h, _, _ => h.elim
  | _ :: _, [], h, _, _ => h.elim
/-- A slice of the fields l. -/
def IsFls (W : World) (a : Option Addr) (n c : Nat) (l : List Fld) : Prop := ∃ vs, IsTr W a n c vs ∧ Flds W l vs
theorem IsFls.over {W W' : World} {a : Option Addr} {n c : Nat} {l : List Fld} (hb : Below W.heap.size W W') (h : IsFls W a n c l) : IsFls W' a n c l := by
  obtain ⟨vs, h1, h2⟩ := h
  exact ⟨vs, h1.over hb, h2.over hb⟩
theorem IsFls.len {W : World} {a : Option Addr} {n c : Nat} {l : List Fld} (h : IsFls W a n c l) : n = l.length := by
  obtain ⟨vs, h1, h2⟩ := h
  rw [← h1.1, h2.len]
/-- A new block that holds fields. -/
theorem fls_new {W : World} {vs : List V3} {l : List Fld} (g : Nat) (hg : g = W.heap.size) (n : Nat) (hn : l.length = n) (hn1 : n ≤ 1000) (hf : Flds W l vs) (cs : Array Value) (hcs : cs = (vs.flatMap trV).toArray) : IsFls (W.alloc (.cells cs 67)) (some ⟨g, 0, none⟩) n n l := by
  subst hg
  have hb := below_alloc W (.cells cs 67)
  refine ⟨vs, ⟨by rw [hf.len, hn], Nat.le_refl _, by unfold maxLen; omega, hf.one, W.heap.size, 0, rfl, rowOk_of (by decide) (heap_alloc_new W _), fun k v hk j u hu => ?_⟩, hf.over hb⟩
  rw [Joins.cell_of_block (heap_alloc_new W _), hcs, Nat.zero_add]
  simpa using flat3_at hk j u hu
set_option maxHeartbeats 2000000 in
theorem head5 (w : World) : Calls Tryz.prog 25 #[] w fun e w' => ∃ a, e = .returned (.slice a 3 3) ∧ IsFls w' a 3 3 hdF ∧ Below w.heap.size w w' := by
  go_enter Tryz.func25, Tryz.ntmps25
  go_wp2_with fail
  refine (number_fld .n rfl rfl w).mono ?_
  rintro e w1 ⟨⟨p1, q1, r1⟩, rfl, f1, bb⟩
  have F1 := Lib.hid f1
  have B1 := Lib.hid (bb)
  clear f1 bb
  simp only [agg3]
  go_wp2_with fail
  refine (number_fld .tm rfl rfl w1).mono ?_
  rintro e w2 ⟨⟨p2, q2, r2⟩, rfl, f2, bb⟩
  have F2 := Lib.hid f2
  replace F1 := Lib.hid (F1.out.over bb)
  have B2 := Lib.hid (bel2 B1.out bb)
  clear f2 bb B1
  simp only [agg3]
  go_wp2_with fail
  refine (number_fld .kd rfl rfl w2).mono ?_
  rintro e w3 ⟨⟨p3, q3, r3⟩, rfl, f3, bb⟩
  have F3 := Lib.hid f3
  replace F1 := Lib.hid (F1.out.over bb)
  replace F2 := Lib.hid (F2.out.over bb)
  have B3 := Lib.hid (bel2 B2.out bb)
  clear f3 bb B2
  simp only [agg3]
  go_wp2_with fail
  have HN := Lib.hid (fls_new (W := w3) (vs := [(p1, q1, r1), (p2, q2, r2), (p3, q3, r3)]) (l := hdF) w3.heap.size rfl 3 rfl (by decide) ⟨F1.out, F2.out, F3.out, trivial⟩ #[p1, q1, r1, p2, q2, r2, p3, q3, r3] rfl)
  have HB := Lib.hid (bel2 B3.out (below_alloc w3 (.cells #[p1, q1, r1, p2, q2, r2, p3, q3, r3] 67)))
  clear F1 F2 F3 B3
  go_wp2
  go_ret
  exact ⟨_, rfl, HN.out, HB.out⟩
theorem fld_shape {W : World} {x : Fld} {p q r : Value} (h : IsFld W x (p, q, r)) : ∃ fp cp fr cr, p = .func fp #[] cp ∧ r = .func fr #[] cr := by
  obtain ⟨g3, g4, g5, hv, _⟩ := h
  simp only [Prod.mk.injEq] at hv
  exact ⟨_, _, _, _, hv.1, hv.2.2⟩
theorem fld_shape2 {W : World} {x : Fld} {p q r : Value} (h : IsFld W x (p, q, r)) : ∃ fq cq, q = .func fq #[] cq := by
  obtain ⟨g3, g4, g5, hv, _⟩ := h
  simp only [Prod.mk.injEq] at hv
  rw [hv.2.1]
  split
  · exact ⟨_, _, rfl⟩
  · exact ⟨_, _, rfl⟩
theorem bs_fld (w : World) :
    Calls Tryz.prog 33 #[.func (.func (plN .bs)) #[] #[], .int .i64 0, .int .i64 99] w fun e w' => ∃ p q r, e = .returned (.agg #[p, q, r]) ∧ IsFld w' .bs (p, .func (.func 77) #[] #[], r) ∧ (∃ fq cq, q = .func fq #[] cq) ∧ Below w.heap.size w w' := by
  refine (number_raw (plN .bs) 0 99 w).mono ?_
  rintro e w' ⟨g3, g4, g5, gl, gh, rfl, b3, b4, b5, b6, b7, bb⟩
  exact ⟨_, _, _, rfl, ⟨g3, g4, g5, rfl, b3, b4, gl, gh, b5, b6, b7⟩, ⟨_, _, rfl⟩, bb⟩
set_option maxHeartbeats 4000000 in
theorem revision5 (w : World) : Calls Tryz.prog 47 #[] w fun e w' => ∃ a, e = .returned (.slice a 6 6) ∧ IsFls w' a 6 6 [.rv, .bs, .ti, .au, .tp, .bl] ∧ Below w.heap.size w w' := by
  go_enter Tryz.func47, Tryz.ntmps47
  go_wp2_with fail
  refine (number_fld .rv rfl rfl _).mono ?_
  rintro e w1 ⟨⟨p1, q1, r1⟩, rfl, f, bb⟩
  obtain ⟨fq1, cq1, rfl⟩ := fld_shape2 f
  obtain ⟨fp1, cp1, fr1, cr1, rfl, rfl⟩ := fld_shape f
  have B1 := Lib.hid (bel2 bb (below_alloc w1 (.cells #[.func fp1 #[] cp1, .func fq1 #[] cq1, .func fr1 #[] cr1] 67)))
  have F1 := Lib.hid (f.over (below_alloc w1 (.cells #[.func fp1 #[] cp1, .func fq1 #[] cq1, .func fr1 #[] cr1] 67)))
  have X1 := Lib.hid (heap_alloc_new w1 (.cells #[.func fp1 #[] cp1, .func fq1 #[] cq1, .func fr1 #[] cr1] 67))
  clear f bb
  try simp only [agg3]
  go_wp2_with fail
  refine (bs_fld _).mono ?_
  rintro e w2 ⟨p2, q2, r2, rfl, f, hq, bb⟩
  obtain ⟨fp2, cp2, fr2, cr2, rfl, rfl⟩ := fld_shape f
  obtain ⟨fq2, cq2, rfl⟩ := hq
  replace F1 := Lib.hid (F1.out.over bb)
  replace X1 := Lib.hid (blockOver bb X1.out)
  replace B1 := Lib.hid (bel2 (bel2 B1.out bb) (below_alloc w2 (.cells #[.func fp2 #[] cp2, .func (.func 77) #[] #[], .func fr2 #[] cr2] 67)))
  have F2 := Lib.hid (f.over (below_alloc w2 (.cells #[.func fp2 #[] cp2, .func (.func 77) #[] #[], .func fr2 #[] cr2] 67)))
  have X2 := Lib.hid (heap_alloc_new w2 (.cells #[.func fp2 #[] cp2, .func (.func 77) #[] #[], .func fr2 #[] cr2] 67))
  replace F1 := Lib.hid (F1.out.over (below_alloc w2 (.cells #[.func fp2 #[] cp2, .func (.func 77) #[] #[], .func fr2 #[] cr2] 67)))
  replace X1 := Lib.hid (blockOver (below_alloc w2 (.cells #[.func fp2 #[] cp2, .func (.func 77) #[] #[], .func fr2 #[] cr2] 67)) X1.out)
  clear f bb
  try simp only [agg3]
  go_wp2_with fail
  refine (text_fld .ti rfl _).mono ?_
  rintro e w3 ⟨⟨p3, q3, r3⟩, rfl, f, bb⟩
  obtain ⟨fq3, cq3, rfl⟩ := fld_shape2 f
  obtain ⟨fp3, cp3, fr3, cr3, rfl, rfl⟩ := fld_shape f
  replace F1 := Lib.hid (F1.out.over bb)
  replace X1 := Lib.hid (blockOver bb X1.out)
  replace F2 := Lib.hid (F2.out.over bb)
  replace X2 := Lib.hid (blockOver bb X2.out)
  replace B1 := Lib.hid (bel2 (bel2 B1.out bb) (below_alloc w3 (.cells #[.func fp3 #[] cp3, .func fq3 #[] cq3, .func fr3 #[] cr3] 67)))
  have F3 := Lib.hid (f.over (below_alloc w3 (.cells #[.func fp3 #[] cp3, .func fq3 #[] cq3, .func fr3 #[] cr3] 67)))
  have X3 := Lib.hid (heap_alloc_new w3 (.cells #[.func fp3 #[] cp3, .func fq3 #[] cq3, .func fr3 #[] cr3] 67))
  replace F1 := Lib.hid (F1.out.over (below_alloc w3 (.cells #[.func fp3 #[] cp3, .func fq3 #[] cq3, .func fr3 #[] cr3] 67)))
  replace X1 := Lib.hid (blockOver (below_alloc w3 (.cells #[.func fp3 #[] cp3, .func fq3 #[] cq3, .func fr3 #[] cr3] 67)) X1.out)
  replace F2 := Lib.hid (F2.out.over (below_alloc w3 (.cells #[.func fp3 #[] cp3, .func fq3 #[] cq3, .func fr3 #[] cr3] 67)))
  replace X2 := Lib.hid (blockOver (below_alloc w3 (.cells #[.func fp3 #[] cp3, .func fq3 #[] cq3, .func fr3 #[] cr3] 67)) X2.out)
  clear f bb
  try simp only [agg3]
  go_wp2_with fail
  refine (text_fld .au rfl _).mono ?_
  rintro e w4 ⟨⟨p4, q4, r4⟩, rfl, f, bb⟩
  obtain ⟨fq4, cq4, rfl⟩ := fld_shape2 f
  obtain ⟨fp4, cp4, fr4, cr4, rfl, rfl⟩ := fld_shape f
  replace F1 := Lib.hid (F1.out.over bb)
  replace X1 := Lib.hid (blockOver bb X1.out)
  replace F2 := Lib.hid (F2.out.over bb)
  replace X2 := Lib.hid (blockOver bb X2.out)
  replace F3 := Lib.hid (F3.out.over bb)
  replace X3 := Lib.hid (blockOver bb X3.out)
  replace B1 := Lib.hid (bel2 (bel2 B1.out bb) (below_alloc w4 (.cells #[.func fp4 #[] cp4, .func fq4 #[] cq4, .func fr4 #[] cr4] 67)))
  have F4 := Lib.hid (f.over (below_alloc w4 (.cells #[.func fp4 #[] cp4, .func fq4 #[] cq4, .func fr4 #[] cr4] 67)))
  have X4 := Lib.hid (heap_alloc_new w4 (.cells #[.func fp4 #[] cp4, .func fq4 #[] cq4, .func fr4 #[] cr4] 67))
  replace F1 := Lib.hid (F1.out.over (below_alloc w4 (.cells #[.func fp4 #[] cp4, .func fq4 #[] cq4, .func fr4 #[] cr4] 67)))
  replace X1 := Lib.hid (blockOver (below_alloc w4 (.cells #[.func fp4 #[] cp4, .func fq4 #[] cq4, .func fr4 #[] cr4] 67)) X1.out)
  replace F2 := Lib.hid (F2.out.over (below_alloc w4 (.cells #[.func fp4 #[] cp4, .func fq4 #[] cq4, .func fr4 #[] cr4] 67)))
  replace X2 := Lib.hid (blockOver (below_alloc w4 (.cells #[.func fp4 #[] cp4, .func fq4 #[] cq4, .func fr4 #[] cr4] 67)) X2.out)
  replace F3 := Lib.hid (F3.out.over (below_alloc w4 (.cells #[.func fp4 #[] cp4, .func fq4 #[] cq4, .func fr4 #[] cr4] 67)))
  replace X3 := Lib.hid (blockOver (below_alloc w4 (.cells #[.func fp4 #[] cp4, .func fq4 #[] cq4, .func fr4 #[] cr4] 67)) X3.out)
  clear f bb
  try simp only [agg3]
  go_wp2_with fail
  refine (topics_fld _).mono ?_
  rintro e w5 ⟨⟨p5, q5, r5⟩, rfl, f, bb⟩
  obtain ⟨fq5, cq5, rfl⟩ := fld_shape2 f
  obtain ⟨fp5, cp5, fr5, cr5, rfl, rfl⟩ := fld_shape f
  replace F1 := Lib.hid (F1.out.over bb)
  replace X1 := Lib.hid (blockOver bb X1.out)
  replace F2 := Lib.hid (F2.out.over bb)
  replace X2 := Lib.hid (blockOver bb X2.out)
  replace F3 := Lib.hid (F3.out.over bb)
  replace X3 := Lib.hid (blockOver bb X3.out)
  replace F4 := Lib.hid (F4.out.over bb)
  replace X4 := Lib.hid (blockOver bb X4.out)
  replace B1 := Lib.hid (bel2 (bel2 B1.out bb) (below_alloc w5 (.cells #[.func fp5 #[] cp5, .func fq5 #[] cq5, .func fr5 #[] cr5] 67)))
  have F5 := Lib.hid (f.over (below_alloc w5 (.cells #[.func fp5 #[] cp5, .func fq5 #[] cq5, .func fr5 #[] cr5] 67)))
  have X5 := Lib.hid (heap_alloc_new w5 (.cells #[.func fp5 #[] cp5, .func fq5 #[] cq5, .func fr5 #[] cr5] 67))
  replace F1 := Lib.hid (F1.out.over (below_alloc w5 (.cells #[.func fp5 #[] cp5, .func fq5 #[] cq5, .func fr5 #[] cr5] 67)))
  replace X1 := Lib.hid (blockOver (below_alloc w5 (.cells #[.func fp5 #[] cp5, .func fq5 #[] cq5, .func fr5 #[] cr5] 67)) X1.out)
  replace F2 := Lib.hid (F2.out.over (below_alloc w5 (.cells #[.func fp5 #[] cp5, .func fq5 #[] cq5, .func fr5 #[] cr5] 67)))
  replace X2 := Lib.hid (blockOver (below_alloc w5 (.cells #[.func fp5 #[] cp5, .func fq5 #[] cq5, .func fr5 #[] cr5] 67)) X2.out)
  replace F3 := Lib.hid (F3.out.over (below_alloc w5 (.cells #[.func fp5 #[] cp5, .func fq5 #[] cq5, .func fr5 #[] cr5] 67)))
  replace X3 := Lib.hid (blockOver (below_alloc w5 (.cells #[.func fp5 #[] cp5, .func fq5 #[] cq5, .func fr5 #[] cr5] 67)) X3.out)
  replace F4 := Lib.hid (F4.out.over (below_alloc w5 (.cells #[.func fp5 #[] cp5, .func fq5 #[] cq5, .func fr5 #[] cr5] 67)))
  replace X4 := Lib.hid (blockOver (below_alloc w5 (.cells #[.func fp5 #[] cp5, .func fq5 #[] cq5, .func fr5 #[] cr5] 67)) X4.out)
  clear f bb
  try simp only [agg3]
  go_wp2_with fail
  refine (blocks_fld _).mono ?_
  rintro e w6 ⟨⟨p6, q6, r6⟩, rfl, f, bb⟩
  obtain ⟨fq6, cq6, rfl⟩ := fld_shape2 f
  obtain ⟨fp6, cp6, fr6, cr6, rfl, rfl⟩ := fld_shape f
  replace F1 := Lib.hid (F1.out.over bb)
  replace X1 := Lib.hid (blockOver bb X1.out)
  replace F2 := Lib.hid (F2.out.over bb)
  replace X2 := Lib.hid (blockOver bb X2.out)
  replace F3 := Lib.hid (F3.out.over bb)
  replace X3 := Lib.hid (blockOver bb X3.out)
  replace F4 := Lib.hid (F4.out.over bb)
  replace X4 := Lib.hid (blockOver bb X4.out)
  replace F5 := Lib.hid (F5.out.over bb)
  replace X5 := Lib.hid (blockOver bb X5.out)
  replace B1 := Lib.hid (bel2 (bel2 B1.out bb) (below_alloc w6 (.cells #[.func fp6 #[] cp6, .func fq6 #[] cq6, .func fr6 #[] cr6] 67)))
  have F6 := Lib.hid (f.over (below_alloc w6 (.cells #[.func fp6 #[] cp6, .func fq6 #[] cq6, .func fr6 #[] cr6] 67)))
  have X6 := Lib.hid (heap_alloc_new w6 (.cells #[.func fp6 #[] cp6, .func fq6 #[] cq6, .func fr6 #[] cr6] 67))
  replace F1 := Lib.hid (F1.out.over (below_alloc w6 (.cells #[.func fp6 #[] cp6, .func fq6 #[] cq6, .func fr6 #[] cr6] 67)))
  replace X1 := Lib.hid (blockOver (below_alloc w6 (.cells #[.func fp6 #[] cp6, .func fq6 #[] cq6, .func fr6 #[] cr6] 67)) X1.out)
  replace F2 := Lib.hid (F2.out.over (below_alloc w6 (.cells #[.func fp6 #[] cp6, .func fq6 #[] cq6, .func fr6 #[] cr6] 67)))
  replace X2 := Lib.hid (blockOver (below_alloc w6 (.cells #[.func fp6 #[] cp6, .func fq6 #[] cq6, .func fr6 #[] cr6] 67)) X2.out)
  replace F3 := Lib.hid (F3.out.over (below_alloc w6 (.cells #[.func fp6 #[] cp6, .func fq6 #[] cq6, .func fr6 #[] cr6] 67)))
  replace X3 := Lib.hid (blockOver (below_alloc w6 (.cells #[.func fp6 #[] cp6, .func fq6 #[] cq6, .func fr6 #[] cr6] 67)) X3.out)
  replace F4 := Lib.hid (F4.out.over (below_alloc w6 (.cells #[.func fp6 #[] cp6, .func fq6 #[] cq6, .func fr6 #[] cr6] 67)))
  replace X4 := Lib.hid (blockOver (below_alloc w6 (.cells #[.func fp6 #[] cp6, .func fq6 #[] cq6, .func fr6 #[] cr6] 67)) X4.out)
  replace F5 := Lib.hid (F5.out.over (below_alloc w6 (.cells #[.func fp6 #[] cp6, .func fq6 #[] cq6, .func fr6 #[] cr6] 67)))
  replace X5 := Lib.hid (blockOver (below_alloc w6 (.cells #[.func fp6 #[] cp6, .func fq6 #[] cq6, .func fr6 #[] cr6] 67)) X5.out)
  clear f bb
  try simp only [agg3]
  obtain ⟨c10, c11, c12⟩ := cells3 X1.out
  obtain ⟨c20, c21, c22⟩ := cells3 X2.out
  obtain ⟨c30, c31, c32⟩ := cells3 X3.out
  obtain ⟨c40, c41, c42⟩ := cells3 X4.out
  obtain ⟨c50, c51, c52⟩ := cells3 X5.out
  obtain ⟨c60, c61, c62⟩ := cells3 X6.out
  have HN := Lib.hid (fls_new (W := w6.alloc (.cells #[.func fp6 #[] cp6, .func fq6 #[] cq6, .func fr6 #[] cr6] 67)) (vs := [(.func fp1 #[] cp1, .func fq1 #[] cq1, .func fr1 #[] cr1), (.func fp2 #[] cp2, .func (.func 77) #[] #[], .func fr2 #[] cr2), (.func fp3 #[] cp3, .func fq3 #[] cq3, .func fr3 #[] cr3), (.func fp4 #[] cp4, .func fq4 #[] cq4, .func fr4 #[] cr4), (.func fp5 #[] cp5, .func fq5 #[] cq5, .func fr5 #[] cr5), (.func fp6 #[] cp6, .func fq6 #[] cq6, .func fr6 #[] cr6)]) (l := [.rv, .bs, .ti, .au, .tp, .bl]) (w6.heap.size + 1) (by simp) 6 rfl (by decide) ⟨F1.out, F2.out, F3.out, F4.out, F5.out, F6.out, trivial⟩ #[.func fp1 #[] cp1, .func fq1 #[] cq1, .func fr1 #[] cr1, .func fp2 #[] cp2, .func (.func 77) #[] #[], .func fr2 #[] cr2, .func fp3 #[] cp3, .func fq3 #[] cq3, .func fr3 #[] cr3, .func fp4 #[] cp4, .func fq4 #[] cq4, .func fr4 #[] cr4, .func fp5 #[] cp5, .func fq5 #[] cq5, .func fr5 #[] cr5, .func fp6 #[] cp6, .func fq6 #[] cq6, .func fr6 #[] cr6] rfl)
  have HB := Lib.hid (bel2 B1.out (below_alloc (w6.alloc (.cells #[.func fp6 #[] cp6, .func fq6 #[] cq6, .func fr6 #[] cr6] 67)) (.cells #[.func fp1 #[] cp1, .func fq1 #[] cq1, .func fr1 #[] cr1, .func fp2 #[] cp2, .func (.func 77) #[] #[], .func fr2 #[] cr2, .func fp3 #[] cp3, .func fq3 #[] cq3, .func fr3 #[] cr3, .func fp4 #[] cp4, .func fq4 #[] cq4, .func fr4 #[] cr4, .func fp5 #[] cp5, .func fq5 #[] cq5, .func fr5 #[] cr5, .func fp6 #[] cp6, .func fq6 #[] cq6, .func fr6 #[] cr6] 67)))
  clear F1 X1 F2 X2 F3 X3 F4 X4 F5 X5 F6 X6 B1
  go_wp2
  go_ret
  exact ⟨_, rfl, HN.out, HB.out⟩
end Go.Proofs.YtlhcckjfgpcohaaGreatDoor
