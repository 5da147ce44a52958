/- Package fact: fieldsOf of a revision, and of any kind. -/
import Derived.Test.YtlhcckjfgpcohaaGreatDoorFctI
namespace Go.Proofs.YtlhcckjfgpcohaaGreatDoor
open Go.RowKit
set_option maxRecDepth 100000
set_option linter.unusedSimpArgs false
set_option linter.unusedVariables false
theorem below_undrew {B : Nat} {X W : World} (h : Below B X W) : Below B X.drew W := ⟨h.os, h.tape, h.output, h.size, h.block⟩
theorem IsFls.drewn {W : World} {a : Option Addr} {n c : Nat} {l : List Fld} (h : IsFls W a n c l) : IsFls W.drew a n c l := h.over (below_drew W)
theorem concat_fls2 (g : Nat) (a1 : Option Addr) (n1 c1 : Nat) (l1 : List Fld) (a2 : Option Addr) (n2 c2 : Nat) (l2 : List Fld) (w : World) (h1 : IsFls w a1 n1 c1 l1) (h2 : IsFls w a2 n2 c2 l2) (hb : w.heap[g]? = some (.cells #[.slice a1 n1 c1, .slice a2 n2 c2] 60 (0, 0))) (b1 : 0 < n1 ∧ n1 ≤ 50) (b2 : 0 < n2 ∧ n2 ≤ 50) :
    Calls Tryz.prog 24 #[.slice (some ⟨g, 0, none⟩) 2 2] w fun e w' => ∃ a c, e = .returned (.slice a (n1 + n2) c) ∧ IsFls w' a (n1 + n2) c (l1 ++ l2) ∧ Below w.heap.size w w' := by
  obtain ⟨vs1, T1, F1⟩ := h1
  obtain ⟨vs2, T2, F2⟩ := h2
  have hlen : lensP [⟨a1, n1, c1, vs1⟩, ⟨a2, n2, c2, vs2⟩] = n1 + n2 := by simp [lensP]
  have hcat : cat [⟨a1, n1, c1, vs1⟩, ⟨a2, n2, c2, vs2⟩] = vs1 ++ vs2 := by simp [cat]
  refine (concat5 g 2 2 [⟨a1, n1, c1, vs1⟩, ⟨a2, n2, c2, vs2⟩] w rfl (by decide) (by decide) ?_ ?_ (Array.getElem?_eq_some_iff.1 hb).1).mono ?_
  · intro i x hx
    rcases i with _ | _ | i
    · simp at hx; subst hx; rw [Joins.cell_of_block hb]; rfl
    · simp at hx; subst hx; rw [Joins.cell_of_block hb]; rfl
    · simp at hx
  · intro x hx
    simp only [List.mem_cons, List.not_mem_nil, or_false] at hx
    rcases hx with rfl | rfl
    · exact ⟨T1, b1⟩
    · exact ⟨T2, b2⟩
  · rintro e w' ⟨a, c, rfl, ho, hbl⟩
    rw [hlen] at ho ⊢
    rw [hcat] at ho
    have hF : Flds w (l1 ++ l2) (vs1 ++ vs2) := F1.app F2
    have hF' := hF.over hbl
    exact ⟨a, c, rfl, ⟨_, tr_of_own ho (by omega) hF'.one, hF'⟩, hbl⟩
theorem concat_fls3 (g : Nat) (a1 : Option Addr) (n1 c1 : Nat) (l1 : List Fld) (a2 : Option Addr) (n2 c2 : Nat) (l2 : List Fld) (a3 : Option Addr) (n3 c3 : Nat) (l3 : List Fld) (w : World) (h1 : IsFls w a1 n1 c1 l1) (h2 : IsFls w a2 n2 c2 l2) (h3 : IsFls w a3 n3 c3 l3) (hb : w.heap[g]? = some (.cells #[.slice a1 n1 c1, .slice a2 n2 c2, .slice a3 n3 c3] 60 (0, 0))) (b1 : 0 < n1 ∧ n1 ≤ 50) (b2 : 0 < n2 ∧ n2 ≤ 50) (b3 : 0 < n3 ∧ n3 ≤ 50) :
    Calls Tryz.prog 24 #[.slice (some ⟨g, 0, none⟩) 3 3] w fun e w' => ∃ a c, e = .returned (.slice a (n1 + n2 + n3) c) ∧ IsFls w' a (n1 + n2 + n3) c (l1 ++ (l2 ++ l3)) ∧ Below w.heap.size w w' := by
  obtain ⟨vs1, T1, F1⟩ := h1
  obtain ⟨vs2, T2, F2⟩ := h2
  obtain ⟨vs3, T3, F3⟩ := h3
  have hlen : lensP [⟨a1, n1, c1, vs1⟩, ⟨a2, n2, c2, vs2⟩, ⟨a3, n3, c3, vs3⟩] = n1 + n2 + n3 := by simp [lensP]; omega
  have hcat : cat [⟨a1, n1, c1, vs1⟩, ⟨a2, n2, c2, vs2⟩, ⟨a3, n3, c3, vs3⟩] = vs1 ++ (vs2 ++ vs3) := by simp [cat]
  refine (concat5 g 3 3 [⟨a1, n1, c1, vs1⟩, ⟨a2, n2, c2, vs2⟩, ⟨a3, n3, c3, vs3⟩] w rfl (by decide) (by decide) ?_ ?_ (Array.getElem?_eq_some_iff.1 hb).1).mono ?_
  · intro i x hx
    rcases i with _ | _ | _ | i
    · simp at hx; subst hx; rw [Joins.cell_of_block hb]; rfl
    · simp at hx; subst hx; rw [Joins.cell_of_block hb]; rfl
    · simp at hx; subst hx; rw [Joins.cell_of_block hb]; rfl
    · simp at hx
  · intro x hx
    simp only [List.mem_cons, List.not_mem_nil, or_false] at hx
    rcases hx with rfl | rfl | rfl
    · exact ⟨T1, b1⟩
    · exact ⟨T2, b2⟩
    · exact ⟨T3, b3⟩
  · rintro e w' ⟨a, c, rfl, ho, hbl⟩
    rw [hlen] at ho ⊢
    rw [hcat] at ho
    have hF : Flds w (l1 ++ (l2 ++ l3)) (vs1 ++ (vs2 ++ vs3)) := F1.app (F2.app F3)
    have hF' := hF.over hbl
    exact ⟨a, c, rfl, ⟨_, tr_of_own ho (by omega) hF'.one, hF'⟩, hbl⟩
set_option maxHeartbeats 8000000 in
theorem own1 (w : World) : Calls Tryz.prog 23 #[.int .i64 1] w (Own (some [.st, .lg, .rv, .bs, .ti, .au, .tp, .bl, .lb]) w) := by
  go_enter Tryz.func23, Tryz.ntmps23
  go_wp2_with fail
  refine (number_fld .st rfl rfl _).mono ?_
  rintro e w1 ⟨⟨p1, q1, r1⟩, rfl, f, bb⟩
  obtain ⟨fq1, cq1, rfl⟩ := fld_shape2 f
  obtain ⟨fp1, cp1, fr1, cr1, rfl, rfl⟩ := fld_shape f
  have B1 := Lib.hid (bel2 bb (below_alloc w1 (.cells #[.func fp1 #[] cp1, .func fq1 #[] cq1, .func fr1 #[] cr1] 67)))
  have F1 := Lib.hid (f.over (below_alloc w1 (.cells #[.func fp1 #[] cp1, .func fq1 #[] cq1, .func fr1 #[] cr1] 67)))
  have X1 := Lib.hid (heap_alloc_new w1 (.cells #[.func fp1 #[] cp1, .func fq1 #[] cq1, .func fr1 #[] cr1] 67))
  clear f bb
  try simp only [agg3]
  go_wp2_with fail
  refine (text_fld .lg rfl _).mono ?_
  rintro e w2 ⟨⟨p2, q2, r2⟩, rfl, f, bb⟩
  obtain ⟨fq2, cq2, rfl⟩ := fld_shape2 f
  obtain ⟨fp2, cp2, fr2, cr2, rfl, rfl⟩ := fld_shape f
  replace F1 := Lib.hid (F1.out.over bb)
  replace X1 := Lib.hid (blockOver bb X1.out)
  replace B1 := Lib.hid (bel2 (bel2 B1.out bb) (below_alloc w2 (.cells #[.func fp2 #[] cp2, .func fq2 #[] cq2, .func fr2 #[] cr2] 67)))
  have F2 := Lib.hid (f.over (below_alloc w2 (.cells #[.func fp2 #[] cp2, .func fq2 #[] cq2, .func fr2 #[] cr2] 67)))
  have X2 := Lib.hid (heap_alloc_new w2 (.cells #[.func fp2 #[] cp2, .func fq2 #[] cq2, .func fr2 #[] cr2] 67))
  replace F1 := Lib.hid (F1.out.over (below_alloc w2 (.cells #[.func fp2 #[] cp2, .func fq2 #[] cq2, .func fr2 #[] cr2] 67)))
  replace X1 := Lib.hid (blockOver (below_alloc w2 (.cells #[.func fp2 #[] cp2, .func fq2 #[] cq2, .func fr2 #[] cr2] 67)) X1.out)
  clear f bb
  try simp only [agg3]
  go_wp2_with fail
  refine (label_fld _).mono ?_
  rintro e w3 ⟨⟨p3, q3, r3⟩, rfl, f, bb⟩
  obtain ⟨fq3, cq3, rfl⟩ := fld_shape2 f
  obtain ⟨fp3, cp3, fr3, cr3, rfl, rfl⟩ := fld_shape f
  replace F1 := Lib.hid (F1.out.over bb)
  replace X1 := Lib.hid (blockOver bb X1.out)
  replace F2 := Lib.hid (F2.out.over bb)
  replace X2 := Lib.hid (blockOver bb X2.out)
  replace B1 := Lib.hid (bel2 (bel2 B1.out bb) (below_alloc w3 (.cells #[.func fp3 #[] cp3, .func fq3 #[] cq3, .func fr3 #[] cr3] 67)))
  have F3 := Lib.hid (f.over (below_alloc w3 (.cells #[.func fp3 #[] cp3, .func fq3 #[] cq3, .func fr3 #[] cr3] 67)))
  have X3 := Lib.hid (heap_alloc_new w3 (.cells #[.func fp3 #[] cp3, .func fq3 #[] cq3, .func fr3 #[] cr3] 67))
  replace F1 := Lib.hid (F1.out.over (below_alloc w3 (.cells #[.func fp3 #[] cp3, .func fq3 #[] cq3, .func fr3 #[] cr3] 67)))
  replace X1 := Lib.hid (blockOver (below_alloc w3 (.cells #[.func fp3 #[] cp3, .func fq3 #[] cq3, .func fr3 #[] cr3] 67)) X1.out)
  replace F2 := Lib.hid (F2.out.over (below_alloc w3 (.cells #[.func fp3 #[] cp3, .func fq3 #[] cq3, .func fr3 #[] cr3] 67)))
  replace X2 := Lib.hid (blockOver (below_alloc w3 (.cells #[.func fp3 #[] cp3, .func fq3 #[] cq3, .func fr3 #[] cr3] 67)) X2.out)
  clear f bb
  try simp only [agg3]
  go_wp2_with fail
  refine (text_fld .nm rfl _).mono ?_
  rintro e w4 ⟨⟨p4, q4, r4⟩, rfl, f, bb⟩
  obtain ⟨fq4, cq4, rfl⟩ := fld_shape2 f
  obtain ⟨fp4, cp4, fr4, cr4, rfl, rfl⟩ := fld_shape f
  replace F1 := Lib.hid (F1.out.over bb)
  replace X1 := Lib.hid (blockOver bb X1.out)
  replace F2 := Lib.hid (F2.out.over bb)
  replace X2 := Lib.hid (blockOver bb X2.out)
  replace F3 := Lib.hid (F3.out.over bb)
  replace X3 := Lib.hid (blockOver bb X3.out)
  replace B1 := Lib.hid (bel2 (bel2 B1.out bb) (below_alloc w4 (.cells #[.func fp4 #[] cp4, .func fq4 #[] cq4, .func fr4 #[] cr4] 67)))
  have F4 := Lib.hid (f.over (below_alloc w4 (.cells #[.func fp4 #[] cp4, .func fq4 #[] cq4, .func fr4 #[] cr4] 67)))
  have X4 := Lib.hid (heap_alloc_new w4 (.cells #[.func fp4 #[] cp4, .func fq4 #[] cq4, .func fr4 #[] cr4] 67))
  replace F1 := Lib.hid (F1.out.over (below_alloc w4 (.cells #[.func fp4 #[] cp4, .func fq4 #[] cq4, .func fr4 #[] cr4] 67)))
  replace X1 := Lib.hid (blockOver (below_alloc w4 (.cells #[.func fp4 #[] cp4, .func fq4 #[] cq4, .func fr4 #[] cr4] 67)) X1.out)
  replace F2 := Lib.hid (F2.out.over (below_alloc w4 (.cells #[.func fp4 #[] cp4, .func fq4 #[] cq4, .func fr4 #[] cr4] 67)))
  replace X2 := Lib.hid (blockOver (below_alloc w4 (.cells #[.func fp4 #[] cp4, .func fq4 #[] cq4, .func fr4 #[] cr4] 67)) X2.out)
  replace F3 := Lib.hid (F3.out.over (below_alloc w4 (.cells #[.func fp4 #[] cp4, .func fq4 #[] cq4, .func fr4 #[] cr4] 67)))
  replace X3 := Lib.hid (blockOver (below_alloc w4 (.cells #[.func fp4 #[] cp4, .func fq4 #[] cq4, .func fr4 #[] cr4] 67)) X3.out)
  clear f bb
  try simp only [agg3]
  go_wp2_with fail
  refine (number_fld .pt rfl rfl _).mono ?_
  rintro e w5 ⟨⟨p5, q5, r5⟩, rfl, f, bb⟩
  obtain ⟨fq5, cq5, rfl⟩ := fld_shape2 f
  obtain ⟨fp5, cp5, fr5, cr5, rfl, rfl⟩ := fld_shape f
  replace F1 := Lib.hid (F1.out.over bb)
  replace X1 := Lib.hid (blockOver bb X1.out)
  replace F2 := Lib.hid (F2.out.over bb)
  replace X2 := Lib.hid (blockOver bb X2.out)
  replace F3 := Lib.hid (F3.out.over bb)
  replace X3 := Lib.hid (blockOver bb X3.out)
  replace F4 := Lib.hid (F4.out.over bb)
  replace X4 := Lib.hid (blockOver bb X4.out)
  replace B1 := Lib.hid (bel2 (bel2 B1.out bb) (below_alloc w5 (.cells #[.func fp5 #[] cp5, .func fq5 #[] cq5, .func fr5 #[] cr5] 67)))
  have F5 := Lib.hid (f.over (below_alloc w5 (.cells #[.func fp5 #[] cp5, .func fq5 #[] cq5, .func fr5 #[] cr5] 67)))
  have X5 := Lib.hid (heap_alloc_new w5 (.cells #[.func fp5 #[] cp5, .func fq5 #[] cq5, .func fr5 #[] cr5] 67))
  replace F1 := Lib.hid (F1.out.over (below_alloc w5 (.cells #[.func fp5 #[] cp5, .func fq5 #[] cq5, .func fr5 #[] cr5] 67)))
  replace X1 := Lib.hid (blockOver (below_alloc w5 (.cells #[.func fp5 #[] cp5, .func fq5 #[] cq5, .func fr5 #[] cr5] 67)) X1.out)
  replace F2 := Lib.hid (F2.out.over (below_alloc w5 (.cells #[.func fp5 #[] cp5, .func fq5 #[] cq5, .func fr5 #[] cr5] 67)))
  replace X2 := Lib.hid (blockOver (below_alloc w5 (.cells #[.func fp5 #[] cp5, .func fq5 #[] cq5, .func fr5 #[] cr5] 67)) X2.out)
  replace F3 := Lib.hid (F3.out.over (below_alloc w5 (.cells #[.func fp5 #[] cp5, .func fq5 #[] cq5, .func fr5 #[] cr5] 67)))
  replace X3 := Lib.hid (blockOver (below_alloc w5 (.cells #[.func fp5 #[] cp5, .func fq5 #[] cq5, .func fr5 #[] cr5] 67)) X3.out)
  replace F4 := Lib.hid (F4.out.over (below_alloc w5 (.cells #[.func fp5 #[] cp5, .func fq5 #[] cq5, .func fr5 #[] cr5] 67)))
  replace X4 := Lib.hid (blockOver (below_alloc w5 (.cells #[.func fp5 #[] cp5, .func fq5 #[] cq5, .func fr5 #[] cr5] 67)) X4.out)
  clear f bb
  try simp only [agg3]
  go_wp2_with fail
  refine (number_fld .cl rfl rfl _).mono ?_
  rintro e w6 ⟨⟨p6, q6, r6⟩, rfl, f, bb⟩
  obtain ⟨fq6, cq6, rfl⟩ := fld_shape2 f
  obtain ⟨fp6, cp6, fr6, cr6, rfl, rfl⟩ := fld_shape f
  replace F1 := Lib.hid (F1.out.over bb)
  replace X1 := Lib.hid (blockOver bb X1.out)
  replace F2 := Lib.hid (F2.out.over bb)
  replace X2 := Lib.hid (blockOver bb X2.out)
  replace F3 := Lib.hid (F3.out.over bb)
  replace X3 := Lib.hid (blockOver bb X3.out)
  replace F4 := Lib.hid (F4.out.over bb)
  replace X4 := Lib.hid (blockOver bb X4.out)
  replace F5 := Lib.hid (F5.out.over bb)
  replace X5 := Lib.hid (blockOver bb X5.out)
  replace B1 := Lib.hid (bel2 (bel2 B1.out bb) (below_alloc w6 (.cells #[.func fp6 #[] cp6, .func fq6 #[] cq6, .func fr6 #[] cr6] 67)))
  have F6 := Lib.hid (f.over (below_alloc w6 (.cells #[.func fp6 #[] cp6, .func fq6 #[] cq6, .func fr6 #[] cr6] 67)))
  have X6 := Lib.hid (heap_alloc_new w6 (.cells #[.func fp6 #[] cp6, .func fq6 #[] cq6, .func fr6 #[] cr6] 67))
  replace F1 := Lib.hid (F1.out.over (below_alloc w6 (.cells #[.func fp6 #[] cp6, .func fq6 #[] cq6, .func fr6 #[] cr6] 67)))
  replace X1 := Lib.hid (blockOver (below_alloc w6 (.cells #[.func fp6 #[] cp6, .func fq6 #[] cq6, .func fr6 #[] cr6] 67)) X1.out)
  replace F2 := Lib.hid (F2.out.over (below_alloc w6 (.cells #[.func fp6 #[] cp6, .func fq6 #[] cq6, .func fr6 #[] cr6] 67)))
  replace X2 := Lib.hid (blockOver (below_alloc w6 (.cells #[.func fp6 #[] cp6, .func fq6 #[] cq6, .func fr6 #[] cr6] 67)) X2.out)
  replace F3 := Lib.hid (F3.out.over (below_alloc w6 (.cells #[.func fp6 #[] cp6, .func fq6 #[] cq6, .func fr6 #[] cr6] 67)))
  replace X3 := Lib.hid (blockOver (below_alloc w6 (.cells #[.func fp6 #[] cp6, .func fq6 #[] cq6, .func fr6 #[] cr6] 67)) X3.out)
  replace F4 := Lib.hid (F4.out.over (below_alloc w6 (.cells #[.func fp6 #[] cp6, .func fq6 #[] cq6, .func fr6 #[] cr6] 67)))
  replace X4 := Lib.hid (blockOver (below_alloc w6 (.cells #[.func fp6 #[] cp6, .func fq6 #[] cq6, .func fr6 #[] cr6] 67)) X4.out)
  replace F5 := Lib.hid (F5.out.over (below_alloc w6 (.cells #[.func fp6 #[] cp6, .func fq6 #[] cq6, .func fr6 #[] cr6] 67)))
  replace X5 := Lib.hid (blockOver (below_alloc w6 (.cells #[.func fp6 #[] cp6, .func fq6 #[] cq6, .func fr6 #[] cr6] 67)) X5.out)
  clear f bb
  try simp only [agg3]
  go_wp2_with fail
  refine (number_fld .un rfl rfl _).mono ?_
  rintro e w7 ⟨⟨p7, q7, r7⟩, rfl, f, bb⟩
  obtain ⟨fq7, cq7, rfl⟩ := fld_shape2 f
  obtain ⟨fp7, cp7, fr7, cr7, rfl, rfl⟩ := fld_shape f
  replace F1 := Lib.hid (F1.out.over bb)
  replace X1 := Lib.hid (blockOver bb X1.out)
  replace F2 := Lib.hid (F2.out.over bb)
  replace X2 := Lib.hid (blockOver bb X2.out)
  replace F3 := Lib.hid (F3.out.over bb)
  replace X3 := Lib.hid (blockOver bb X3.out)
  replace F4 := Lib.hid (F4.out.over bb)
  replace X4 := Lib.hid (blockOver bb X4.out)
  replace F5 := Lib.hid (F5.out.over bb)
  replace X5 := Lib.hid (blockOver bb X5.out)
  replace F6 := Lib.hid (F6.out.over bb)
  replace X6 := Lib.hid (blockOver bb X6.out)
  replace B1 := Lib.hid (bel2 (bel2 B1.out bb) (below_alloc w7 (.cells #[.func fp7 #[] cp7, .func fq7 #[] cq7, .func fr7 #[] cr7] 67)))
  have F7 := Lib.hid (f.over (below_alloc w7 (.cells #[.func fp7 #[] cp7, .func fq7 #[] cq7, .func fr7 #[] cr7] 67)))
  have X7 := Lib.hid (heap_alloc_new w7 (.cells #[.func fp7 #[] cp7, .func fq7 #[] cq7, .func fr7 #[] cr7] 67))
  replace F1 := Lib.hid (F1.out.over (below_alloc w7 (.cells #[.func fp7 #[] cp7, .func fq7 #[] cq7, .func fr7 #[] cr7] 67)))
  replace X1 := Lib.hid (blockOver (below_alloc w7 (.cells #[.func fp7 #[] cp7, .func fq7 #[] cq7, .func fr7 #[] cr7] 67)) X1.out)
  replace F2 := Lib.hid (F2.out.over (below_alloc w7 (.cells #[.func fp7 #[] cp7, .func fq7 #[] cq7, .func fr7 #[] cr7] 67)))
  replace X2 := Lib.hid (blockOver (below_alloc w7 (.cells #[.func fp7 #[] cp7, .func fq7 #[] cq7, .func fr7 #[] cr7] 67)) X2.out)
  replace F3 := Lib.hid (F3.out.over (below_alloc w7 (.cells #[.func fp7 #[] cp7, .func fq7 #[] cq7, .func fr7 #[] cr7] 67)))
  replace X3 := Lib.hid (blockOver (below_alloc w7 (.cells #[.func fp7 #[] cp7, .func fq7 #[] cq7, .func fr7 #[] cr7] 67)) X3.out)
  replace F4 := Lib.hid (F4.out.over (below_alloc w7 (.cells #[.func fp7 #[] cp7, .func fq7 #[] cq7, .func fr7 #[] cr7] 67)))
  replace X4 := Lib.hid (blockOver (below_alloc w7 (.cells #[.func fp7 #[] cp7, .func fq7 #[] cq7, .func fr7 #[] cr7] 67)) X4.out)
  replace F5 := Lib.hid (F5.out.over (below_alloc w7 (.cells #[.func fp7 #[] cp7, .func fq7 #[] cq7, .func fr7 #[] cr7] 67)))
  replace X5 := Lib.hid (blockOver (below_alloc w7 (.cells #[.func fp7 #[] cp7, .func fq7 #[] cq7, .func fr7 #[] cr7] 67)) X5.out)
  replace F6 := Lib.hid (F6.out.over (below_alloc w7 (.cells #[.func fp7 #[] cp7, .func fq7 #[] cq7, .func fr7 #[] cr7] 67)))
  replace X6 := Lib.hid (blockOver (below_alloc w7 (.cells #[.func fp7 #[] cp7, .func fq7 #[] cq7, .func fr7 #[] cr7] 67)) X6.out)
  clear f bb
  try simp only [agg3]
  go_wp2_with fail
  obtain ⟨c10, c11, c12⟩ := cells3 X1.out
  obtain ⟨c20, c21, c22⟩ := cells3 X2.out
  obtain ⟨c30, c31, c32⟩ := cells3 X3.out
  have BC := Lib.hid (below_drew (w7.alloc (.cells #[.func fp7 #[] cp7, .func fq7 #[] cq7, .func fr7 #[] cr7] 67)))
  refine wp_region_held_drew (S := fun w' => Below (w7.alloc (.cells #[.func fp7 #[] cp7, .func fq7 #[] cq7, .func fr7 #[] cr7] 67)).heap.size (w7.alloc (.cells #[.func fp7 #[] cp7, .func fq7 #[] cq7, .func fr7 #[] cr7] 67)) w' ∧ w'.cell? ⟨w1.heap.size, 0, none⟩ = some (.func fp1 #[] cp1) ∧ w'.cell? ⟨w1.heap.size, 1, none⟩ = some (.func fq1 #[] cq1) ∧ w'.cell? ⟨w1.heap.size, 2, none⟩ = some (.func fr1 #[] cr1) ∧ w'.cell? ⟨w2.heap.size, 0, none⟩ = some (.func fp2 #[] cp2) ∧ w'.cell? ⟨w2.heap.size, 1, none⟩ = some (.func fq2 #[] cq2) ∧ w'.cell? ⟨w2.heap.size, 2, none⟩ = some (.func fr2 #[] cr2) ∧ w'.cell? ⟨w3.heap.size, 0, none⟩ = some (.func fp3 #[] cp3) ∧ w'.cell? ⟨w3.heap.size, 1, none⟩ = some (.func fq3 #[] cq3) ∧ w'.cell? ⟨w3.heap.size, 2, none⟩ = some (.func fr3 #[] cr3)) (by kernel_rfl) ?_ (fun h0 => ?_)
  · exact ⟨BC.out, c10, c11, c12, c20, c21, c22, c30, c31, c32⟩
  refine wpAnyH_take (i := 0) (v := ?_) rfl (by kernel_rfl) (by kernel_rfl) (by kernel_rfl) (fun _ _ _ h => h) (Or.inl ⟨by rfl, ?_⟩) h0 ?_
  rotate_left
  · (intro w hSw; (try dsimp only at hSw); go_simp); all_goals (with_reducible rfl)
  try simp only [List.getElem_toArray, List.getElem_cons_succ, List.getElem_cons_zero, Act.put, List.setIfInBounds_toArray, List.set_cons_zero, List.set_cons_succ]
  refine wpAnyH_take (i := 1) (v := ?_) rfl (by kernel_rfl) (by kernel_rfl) (by kernel_rfl) (fun _ _ _ h => h) (Or.inl ⟨by rfl, ?_⟩) h0 ?_
  rotate_left
  · (intro w hSw; (try dsimp only at hSw); go_simp); all_goals (with_reducible rfl)
  try simp only [List.getElem_toArray, List.getElem_cons_succ, List.getElem_cons_zero, Act.put, List.setIfInBounds_toArray, List.set_cons_zero, List.set_cons_succ]
  refine wpAnyH_take (i := 4) (v := ?_) rfl (by kernel_rfl) (by kernel_rfl) (by kernel_rfl) (fun _ _ _ h => h) (Or.inl ⟨by rfl, ?_⟩) h0 ?_
  rotate_left
  · (intro w hSw; (try dsimp only at hSw); go_simp); all_goals (with_reducible rfl)
  try simp only [List.getElem_toArray, List.getElem_cons_succ, List.getElem_cons_zero, Act.put, List.setIfInBounds_toArray, List.set_cons_zero, List.set_cons_succ]
  refine wpAnyH_ready (rs := [2, 3, 5]) (by kernel_rfl) (by simp) ?_
  refine (AllReadyH.cons rfl (fun K hK => ?_) (AllReadyH.cons rfl (fun K hK => ?_) (AllReadyH.cons rfl (fun K hK => ?_) AllReadyH.nil)))
  · go_simp
    have BX := Lib.hid (show Below (w7.alloc (.cells #[.func fp7 #[] cp7, .func fq7 #[] cq7, .func fr7 #[] cr7] 67)).heap.size (w7.alloc (.cells #[.func fp7 #[] cp7, .func fq7 #[] cq7, .func fr7 #[] cr7] 67)) (w7.alloc (.cells #[.func fp7 #[] cp7, .func fq7 #[] cq7, .func fr7 #[] cr7] 67)) from ⟨BC.out.os, BC.out.tape, BC.out.output, BC.out.size, BC.out.block⟩)
    have BB := Lib.hid (show Below (w7.alloc (.cells #[.func fp7 #[] cp7, .func fq7 #[] cq7, .func fr7 #[] cr7] 67)).drew.heap.size (w7.alloc (.cells #[.func fp7 #[] cp7, .func fq7 #[] cq7, .func fr7 #[] cr7] 67)).drew ((w7.alloc (.cells #[.func fp7 #[] cp7, .func fq7 #[] cq7, .func fr7 #[] cr7] 67)).alloc (.cells #[.func fp1 #[] cp1, .func fq1 #[] cq1, .func fr1 #[] cr1, .func fp2 #[] cp2, .func fq2 #[] cq2, .func fr2 #[] cr2] 67)).drew from (below_undrew (below_alloc (w7.alloc (.cells #[.func fp7 #[] cp7, .func fq7 #[] cq7, .func fr7 #[] cr7] 67)) (.cells #[.func fp1 #[] cp1, .func fq1 #[] cq1, .func fr1 #[] cr1, .func fp2 #[] cp2, .func fq2 #[] cq2, .func fr2 #[] cr2] 67)).drew))
    have FA := Lib.hid (IsFls.drewn (fls_new (W := (w7.alloc (.cells #[.func fp7 #[] cp7, .func fq7 #[] cq7, .func fr7 #[] cr7] 67))) (vs := [(.func fp1 #[] cp1, .func fq1 #[] cq1, .func fr1 #[] cr1), (.func fp2 #[] cp2, .func fq2 #[] cq2, .func fr2 #[] cr2)]) (l := [.st, .lg]) (w7.heap.size + 1) (by first | rfl | (simp; done)) 2 rfl (by decide) ⟨(F1.out.over BX.out), (F2.out.over BX.out), trivial⟩ #[.func fp1 #[] cp1, .func fq1 #[] cq1, .func fr1 #[] cr1, .func fp2 #[] cp2, .func fq2 #[] cq2, .func fr2 #[] cr2] rfl))
    replace BC := Lib.hid (bel2 BC.out BB.out)
    clear BX BB
    have bS := And.intro (BC.out) (And.intro (cellOver BC.out c10) (And.intro (cellOver BC.out c11) (And.intro (cellOver BC.out c12) (And.intro (cellOver BC.out c20) (And.intro (cellOver BC.out c21) (And.intro (cellOver BC.out c22) (And.intro (cellOver BC.out c30) (And.intro (cellOver BC.out c31) (cellOver BC.out c32)))))))))
    refine hK.out _ _ ?_ (fun h1 => ?_)
    · exact bS
    clear hK K bS
    try simp only [List.getElem_toArray, List.getElem_cons_succ, List.getElem_cons_zero, Act.put, List.setIfInBounds_toArray, List.set_cons_zero, List.set_cons_succ]
    refine wpAnyH_ready (rs := [3, 5]) (by kernel_rfl) (by simp) ?_
    refine (AllReadyH.cons rfl (fun K hK => ?_) (AllReadyH.cons rfl (fun K hK => ?_) AllReadyH.nil))
    · go_simp
      go_at_call 47
      refine (revision5 _).mono ?_
      rintro e wq ⟨aR, rfl, fR, bq⟩
      go_wp2_with fail
      replace FA := Lib.hid (FA.out.over bq)
      have FR := Lib.hid fR
      replace BC := Lib.hid (bel2 BC.out bq)
      clear fR bq
      have bS := And.intro (BC.out) (And.intro (cellOver BC.out c10) (And.intro (cellOver BC.out c11) (And.intro (cellOver BC.out c12) (And.intro (cellOver BC.out c20) (And.intro (cellOver BC.out c21) (And.intro (cellOver BC.out c22) (And.intro (cellOver BC.out c30) (And.intro (cellOver BC.out c31) (cellOver BC.out c32)))))))))
      refine hK.out _ _ ?_ (fun h2 => ?_)
      · exact bS
      clear hK K bS
      try simp only [List.getElem_toArray, List.getElem_cons_succ, List.getElem_cons_zero, Act.put, List.setIfInBounds_toArray, List.set_cons_zero, List.set_cons_succ]
      refine wpAnyH_ready (rs := [5]) (by kernel_rfl) (by simp) ?_
      refine (AllReadyH.cons rfl (fun K hK => ?_) AllReadyH.nil)
      · go_simp
        have BX := Lib.hid (show Below (w7.alloc (.cells #[.func fp7 #[] cp7, .func fq7 #[] cq7, .func fr7 #[] cr7] 67)).heap.size (w7.alloc (.cells #[.func fp7 #[] cp7, .func fq7 #[] cq7, .func fr7 #[] cr7] 67)) wq from BC.out)
        have BB := Lib.hid (show Below wq.heap.size wq (wq.alloc (.cells #[.func fp3 #[] cp3, .func fq3 #[] cq3, .func fr3 #[] cr3] 67)) from (below_alloc wq (.cells #[.func fp3 #[] cp3, .func fq3 #[] cq3, .func fr3 #[] cr3] 67)))
        replace FA := Lib.hid (FA.out.over BB.out)
        replace FR := Lib.hid (FR.out.over BB.out)
        have FE := Lib.hid (fls_new (W := wq) (vs := [(.func fp3 #[] cp3, .func fq3 #[] cq3, .func fr3 #[] cr3)]) (l := [.lb]) (wq.heap.size) (by first | rfl | (simp; done)) 1 rfl (by decide) ⟨(F3.out.over BX.out), trivial⟩ #[.func fp3 #[] cp3, .func fq3 #[] cq3, .func fr3 #[] cr3] rfl)
        replace BC := Lib.hid (bel2 BC.out BB.out)
        clear BX BB
        have bS := And.intro (BC.out) (And.intro (cellOver BC.out c10) (And.intro (cellOver BC.out c11) (And.intro (cellOver BC.out c12) (And.intro (cellOver BC.out c20) (And.intro (cellOver BC.out c21) (And.intro (cellOver BC.out c22) (And.intro (cellOver BC.out c30) (And.intro (cellOver BC.out c31) (cellOver BC.out c32)))))))))
        refine hK.out _ _ ?_ (fun h3 => ?_)
        · exact bS
        clear hK K bS
        try simp only [List.getElem_toArray, List.getElem_cons_succ, List.getElem_cons_zero, Act.put, List.setIfInBounds_toArray, List.set_cons_zero, List.set_cons_succ]
        refine wpAnyH_ready (rs := [6]) (by kernel_rfl) (by simp) ?_
        refine AllReadyH.cons rfl (fun K hK => ?_) AllReadyH.nil
        go_simp
        have BB := Lib.hid (below_alloc (wq.alloc (.cells #[.func fp3 #[] cp3, .func fq3 #[] cq3, .func fr3 #[] cr3] 67)) (.cells #[.slice (some ⟨w7.heap.size + 1, 0, none⟩) 2 2, .slice aR 6 6, .slice (some ⟨wq.heap.size, 0, none⟩) 1 1] 60))
        have KC := Lib.hid (concat_fls3 (wq.heap.size + 1) _ 2 2 _ aR 6 6 _ _ 1 1 _ ((wq.alloc (.cells #[.func fp3 #[] cp3, .func fq3 #[] cq3, .func fr3 #[] cr3] 67)).alloc (.cells #[.slice (some ⟨w7.heap.size + 1, 0, none⟩) 2 2, .slice aR 6 6, .slice (some ⟨wq.heap.size, 0, none⟩) 1 1] 60)) (FA.out.over BB.out) (FR.out.over BB.out) (FE.out.over BB.out) (by have h := heap_alloc_new (wq.alloc (.cells #[.func fp3 #[] cp3, .func fq3 #[] cq3, .func fr3 #[] cr3] 67)) (.cells #[.slice (some ⟨w7.heap.size + 1, 0, none⟩) 2 2, .slice aR 6 6, .slice (some ⟨wq.heap.size, 0, none⟩) 1 1] 60); simpa using h) (by decide) (by decide) (by decide))
        replace BC := Lib.hid (bel2 BC.out BB.out)
        clear FA FR FE BB
        have bS := And.intro (BC.out) (And.intro (cellOver BC.out c10) (And.intro (cellOver BC.out c11) (And.intro (cellOver BC.out c12) (And.intro (cellOver BC.out c20) (And.intro (cellOver BC.out c21) (And.intro (cellOver BC.out c22) (And.intro (cellOver BC.out c30) (And.intro (cellOver BC.out c31) (cellOver BC.out c32)))))))))
        refine hK.out _ _ ?_ (fun h4 => ?_)
        · exact bS
        clear hK K bS
        try simp only [List.getElem_toArray, List.getElem_cons_succ, List.getElem_cons_zero, Act.put, List.setIfInBounds_toArray, List.set_cons_zero, List.set_cons_succ]
        refine wpAnyH_ready (rs := [7]) (by kernel_rfl) (by simp) ?_
        refine AllReadyH.cons rfl (fun K hK => ?_) AllReadyH.nil
        go_simp
        go_at_call 24
        refine KC.out.mono ?_
        rintro e wz ⟨aZ, cZ, rfl, fZ, bq⟩
        go_wp2_with fail
        have FZ := Lib.hid fZ
        replace BC := Lib.hid (bel2 BC.out bq)
        clear fZ bq KC
        have bS := And.intro (BC.out) (And.intro (cellOver BC.out c10) (And.intro (cellOver BC.out c11) (And.intro (cellOver BC.out c12) (And.intro (cellOver BC.out c20) (And.intro (cellOver BC.out c21) (And.intro (cellOver BC.out c22) (And.intro (cellOver BC.out c30) (And.intro (cellOver BC.out c31) (cellOver BC.out c32)))))))))
        refine hK.out _ _ ?_ (fun h5 => ?_)
        · exact bS
        clear hK K bS
        try simp only [List.getElem_toArray, List.getElem_cons_succ, List.getElem_cons_zero, Act.put, List.setIfInBounds_toArray, List.set_cons_zero, List.set_cons_succ]
        refine wpAnyH_take (i := 8) (v := ?_) rfl (by kernel_rfl) (by kernel_rfl) (by kernel_rfl) (fun _ _ _ h => h) (Or.inl ⟨by rfl, ?_⟩) h5 ?_
        rotate_left
        · (intro w hSw; (try dsimp only at hSw); go_simp); all_goals (with_reducible rfl)
        try simp only [List.getElem_toArray, List.getElem_cons_succ, List.getElem_cons_zero, Act.put, List.setIfInBounds_toArray, List.set_cons_zero, List.set_cons_succ]
        refine wpAnyH_take (i := 9) (v := ?_) rfl (by kernel_rfl) (by kernel_rfl) (by kernel_rfl) (fun _ _ _ h => h) (Or.inl ⟨by rfl, ?_⟩) h5 ?_
        rotate_left
        · (intro w hSw; (try dsimp only at hSw); go_simp); all_goals (with_reducible rfl)
        try simp only [List.getElem_toArray, List.getElem_cons_succ, List.getElem_cons_zero, Act.put, List.setIfInBounds_toArray, List.set_cons_zero, List.set_cons_succ]
        refine wpAnyH_done (by kernel_rfl) ?_ _
        clear h0 h1 h2 h3 h4 h5
        go_wp2
        go_ret2
        exact ⟨_, _, _, rfl, FZ.out, bel2 B1.out BC.out⟩
    · go_simp
      have BX := Lib.hid (show Below (w7.alloc (.cells #[.func fp7 #[] cp7, .func fq7 #[] cq7, .func fr7 #[] cr7] 67)).heap.size (w7.alloc (.cells #[.func fp7 #[] cp7, .func fq7 #[] cq7, .func fr7 #[] cr7] 67)) ((w7.alloc (.cells #[.func fp7 #[] cp7, .func fq7 #[] cq7, .func fr7 #[] cr7] 67)).alloc (.cells #[.func fp1 #[] cp1, .func fq1 #[] cq1, .func fr1 #[] cr1, .func fp2 #[] cp2, .func fq2 #[] cq2, .func fr2 #[] cr2] 67)) from ⟨BC.out.os, BC.out.tape, BC.out.output, BC.out.size, BC.out.block⟩)
      have BB := Lib.hid (show Below ((w7.alloc (.cells #[.func fp7 #[] cp7, .func fq7 #[] cq7, .func fr7 #[] cr7] 67)).alloc (.cells #[.func fp1 #[] cp1, .func fq1 #[] cq1, .func fr1 #[] cr1, .func fp2 #[] cp2, .func fq2 #[] cq2, .func fr2 #[] cr2] 67)).drew.heap.size ((w7.alloc (.cells #[.func fp7 #[] cp7, .func fq7 #[] cq7, .func fr7 #[] cr7] 67)).alloc (.cells #[.func fp1 #[] cp1, .func fq1 #[] cq1, .func fr1 #[] cr1, .func fp2 #[] cp2, .func fq2 #[] cq2, .func fr2 #[] cr2] 67)).drew (((w7.alloc (.cells #[.func fp7 #[] cp7, .func fq7 #[] cq7, .func fr7 #[] cr7] 67)).alloc (.cells #[.func fp1 #[] cp1, .func fq1 #[] cq1, .func fr1 #[] cr1, .func fp2 #[] cp2, .func fq2 #[] cq2, .func fr2 #[] cr2] 67)).alloc (.cells #[.func fp3 #[] cp3, .func fq3 #[] cq3, .func fr3 #[] cr3] 67)).drew from (below_undrew (below_alloc ((w7.alloc (.cells #[.func fp7 #[] cp7, .func fq7 #[] cq7, .func fr7 #[] cr7] 67)).alloc (.cells #[.func fp1 #[] cp1, .func fq1 #[] cq1, .func fr1 #[] cr1, .func fp2 #[] cp2, .func fq2 #[] cq2, .func fr2 #[] cr2] 67)) (.cells #[.func fp3 #[] cp3, .func fq3 #[] cq3, .func fr3 #[] cr3] 67)).drew))
      replace FA := Lib.hid (FA.out.over BB.out)
      have FE := Lib.hid (IsFls.drewn (fls_new (W := ((w7.alloc (.cells #[.func fp7 #[] cp7, .func fq7 #[] cq7, .func fr7 #[] cr7] 67)).alloc (.cells #[.func fp1 #[] cp1, .func fq1 #[] cq1, .func fr1 #[] cr1, .func fp2 #[] cp2, .func fq2 #[] cq2, .func fr2 #[] cr2] 67))) (vs := [(.func fp3 #[] cp3, .func fq3 #[] cq3, .func fr3 #[] cr3)]) (l := [.lb]) (w7.heap.size + 1 + 1) (by first | rfl | (simp; done)) 1 rfl (by decide) ⟨(F3.out.over BX.out), trivial⟩ #[.func fp3 #[] cp3, .func fq3 #[] cq3, .func fr3 #[] cr3] rfl))
      replace BC := Lib.hid (bel2 BC.out BB.out)
      clear BX BB
      have bS := And.intro (BC.out) (And.intro (cellOver BC.out c10) (And.intro (cellOver BC.out c11) (And.intro (cellOver BC.out c12) (And.intro (cellOver BC.out c20) (And.intro (cellOver BC.out c21) (And.intro (cellOver BC.out c22) (And.intro (cellOver BC.out c30) (And.intro (cellOver BC.out c31) (cellOver BC.out c32)))))))))
      refine hK.out _ _ ?_ (fun h2 => ?_)
      · exact bS
      clear hK K bS
      try simp only [List.getElem_toArray, List.getElem_cons_succ, List.getElem_cons_zero, Act.put, List.setIfInBounds_toArray, List.set_cons_zero, List.set_cons_succ]
      refine wpAnyH_ready (rs := [3]) (by kernel_rfl) (by simp) ?_
      refine (AllReadyH.cons rfl (fun K hK => ?_) AllReadyH.nil)
      · go_simp
        go_at_call 47
        refine (revision5 _).mono ?_
        rintro e wq ⟨aR, rfl, fR, bq⟩
        go_wp2_with fail
        replace FA := Lib.hid (FA.out.over bq)
        replace FE := Lib.hid (FE.out.over bq)
        have FR := Lib.hid fR
        replace BC := Lib.hid (bel2 BC.out bq)
        clear fR bq
        have bS := And.intro (BC.out) (And.intro (cellOver BC.out c10) (And.intro (cellOver BC.out c11) (And.intro (cellOver BC.out c12) (And.intro (cellOver BC.out c20) (And.intro (cellOver BC.out c21) (And.intro (cellOver BC.out c22) (And.intro (cellOver BC.out c30) (And.intro (cellOver BC.out c31) (cellOver BC.out c32)))))))))
        refine hK.out _ _ ?_ (fun h3 => ?_)
        · exact bS
        clear hK K bS
        try simp only [List.getElem_toArray, List.getElem_cons_succ, List.getElem_cons_zero, Act.put, List.setIfInBounds_toArray, List.set_cons_zero, List.set_cons_succ]
        refine wpAnyH_ready (rs := [6]) (by kernel_rfl) (by simp) ?_
        refine AllReadyH.cons rfl (fun K hK => ?_) AllReadyH.nil
        go_simp
        have BB := Lib.hid (below_alloc wq (.cells #[.slice (some ⟨w7.heap.size + 1, 0, none⟩) 2 2, .slice aR 6 6, .slice (some ⟨w7.heap.size + 1 + 1, 0, none⟩) 1 1] 60))
        have KC := Lib.hid (concat_fls3 (wq.heap.size) _ 2 2 _ aR 6 6 _ _ 1 1 _ (wq.alloc (.cells #[.slice (some ⟨w7.heap.size + 1, 0, none⟩) 2 2, .slice aR 6 6, .slice (some ⟨w7.heap.size + 1 + 1, 0, none⟩) 1 1] 60)) (FA.out.over BB.out) (FR.out.over BB.out) (FE.out.over BB.out) (by have h := heap_alloc_new wq (.cells #[.slice (some ⟨w7.heap.size + 1, 0, none⟩) 2 2, .slice aR 6 6, .slice (some ⟨w7.heap.size + 1 + 1, 0, none⟩) 1 1] 60); simpa using h) (by decide) (by decide) (by decide))
        replace BC := Lib.hid (bel2 BC.out BB.out)
        clear FA FR FE BB
        have bS := And.intro (BC.out) (And.intro (cellOver BC.out c10) (And.intro (cellOver BC.out c11) (And.intro (cellOver BC.out c12) (And.intro (cellOver BC.out c20) (And.intro (cellOver BC.out c21) (And.intro (cellOver BC.out c22) (And.intro (cellOver BC.out c30) (And.intro (cellOver BC.out c31) (cellOver BC.out c32)))))))))
        refine hK.out _ _ ?_ (fun h4 => ?_)
        · exact bS
        clear hK K bS
        try simp only [List.getElem_toArray, List.getElem_cons_succ, List.getElem_cons_zero, Act.put, List.setIfInBounds_toArray, List.set_cons_zero, List.set_cons_succ]
        refine wpAnyH_ready (rs := [7]) (by kernel_rfl) (by simp) ?_
        refine AllReadyH.cons rfl (fun K hK => ?_) AllReadyH.nil
        go_simp
        go_at_call 24
        refine KC.out.mono ?_
        rintro e wz ⟨aZ, cZ, rfl, fZ, bq⟩
        go_wp2_with fail
        have FZ := Lib.hid fZ
        replace BC := Lib.hid (bel2 BC.out bq)
        clear fZ bq KC
        have bS := And.intro (BC.out) (And.intro (cellOver BC.out c10) (And.intro (cellOver BC.out c11) (And.intro (cellOver BC.out c12) (And.intro (cellOver BC.out c20) (And.intro (cellOver BC.out c21) (And.intro (cellOver BC.out c22) (And.intro (cellOver BC.out c30) (And.intro (cellOver BC.out c31) (cellOver BC.out c32)))))))))
        refine hK.out _ _ ?_ (fun h5 => ?_)
        · exact bS
        clear hK K bS
        try simp only [List.getElem_toArray, List.getElem_cons_succ, List.getElem_cons_zero, Act.put, List.setIfInBounds_toArray, List.set_cons_zero, List.set_cons_succ]
        refine wpAnyH_take (i := 8) (v := ?_) rfl (by kernel_rfl) (by kernel_rfl) (by kernel_rfl) (fun _ _ _ h => h) (Or.inl ⟨by rfl, ?_⟩) h5 ?_
        rotate_left
        · (intro w hSw; (try dsimp only at hSw); go_simp); all_goals (with_reducible rfl)
        try simp only [List.getElem_toArray, List.getElem_cons_succ, List.getElem_cons_zero, Act.put, List.setIfInBounds_toArray, List.set_cons_zero, List.set_cons_succ]
        refine wpAnyH_take (i := 9) (v := ?_) rfl (by kernel_rfl) (by kernel_rfl) (by kernel_rfl) (fun _ _ _ h => h) (Or.inl ⟨by rfl, ?_⟩) h5 ?_
        rotate_left
        · (intro w hSw; (try dsimp only at hSw); go_simp); all_goals (with_reducible rfl)
        try simp only [List.getElem_toArray, List.getElem_cons_succ, List.getElem_cons_zero, Act.put, List.setIfInBounds_toArray, List.set_cons_zero, List.set_cons_succ]
        refine wpAnyH_done (by kernel_rfl) ?_ _
        clear h0 h1 h2 h3 h4 h5
        go_wp2
        go_ret2
        exact ⟨_, _, _, rfl, FZ.out, bel2 B1.out BC.out⟩
  · go_simp
    go_at_call 47
    refine (revision5 _).mono ?_
    rintro e wq ⟨aR, rfl, fR, bq⟩
    go_wp2_with fail
    have FR := Lib.hid fR
    replace BC := Lib.hid (bel2 BC.out bq)
    clear fR bq
    have bS := And.intro (BC.out) (And.intro (cellOver BC.out c10) (And.intro (cellOver BC.out c11) (And.intro (cellOver BC.out c12) (And.intro (cellOver BC.out c20) (And.intro (cellOver BC.out c21) (And.intro (cellOver BC.out c22) (And.intro (cellOver BC.out c30) (And.intro (cellOver BC.out c31) (cellOver BC.out c32)))))))))
    refine hK.out _ _ ?_ (fun h1 => ?_)
    · exact bS
    clear hK K bS
    try simp only [List.getElem_toArray, List.getElem_cons_succ, List.getElem_cons_zero, Act.put, List.setIfInBounds_toArray, List.set_cons_zero, List.set_cons_succ]
    refine wpAnyH_ready (rs := [2, 5]) (by kernel_rfl) (by simp) ?_
    refine (AllReadyH.cons rfl (fun K hK => ?_) (AllReadyH.cons rfl (fun K hK => ?_) AllReadyH.nil))
    · go_simp
      have BX := Lib.hid (show Below (w7.alloc (.cells #[.func fp7 #[] cp7, .func fq7 #[] cq7, .func fr7 #[] cr7] 67)).heap.size (w7.alloc (.cells #[.func fp7 #[] cp7, .func fq7 #[] cq7, .func fr7 #[] cr7] 67)) wq from BC.out)
      have BB := Lib.hid (show Below wq.heap.size wq (wq.alloc (.cells #[.func fp1 #[] cp1, .func fq1 #[] cq1, .func fr1 #[] cr1, .func fp2 #[] cp2, .func fq2 #[] cq2, .func fr2 #[] cr2] 67)) from (below_alloc wq (.cells #[.func fp1 #[] cp1, .func fq1 #[] cq1, .func fr1 #[] cr1, .func fp2 #[] cp2, .func fq2 #[] cq2, .func fr2 #[] cr2] 67)))
      replace FR := Lib.hid (FR.out.over BB.out)
      have FA := Lib.hid (fls_new (W := wq) (vs := [(.func fp1 #[] cp1, .func fq1 #[] cq1, .func fr1 #[] cr1), (.func fp2 #[] cp2, .func fq2 #[] cq2, .func fr2 #[] cr2)]) (l := [.st, .lg]) (wq.heap.size) (by first | rfl | (simp; done)) 2 rfl (by decide) ⟨(F1.out.over BX.out), (F2.out.over BX.out), trivial⟩ #[.func fp1 #[] cp1, .func fq1 #[] cq1, .func fr1 #[] cr1, .func fp2 #[] cp2, .func fq2 #[] cq2, .func fr2 #[] cr2] rfl)
      replace BC := Lib.hid (bel2 BC.out BB.out)
      clear BX BB
      have bS := And.intro (BC.out) (And.intro (cellOver BC.out c10) (And.intro (cellOver BC.out c11) (And.intro (cellOver BC.out c12) (And.intro (cellOver BC.out c20) (And.intro (cellOver BC.out c21) (And.intro (cellOver BC.out c22) (And.intro (cellOver BC.out c30) (And.intro (cellOver BC.out c31) (cellOver BC.out c32)))))))))
      refine hK.out _ _ ?_ (fun h2 => ?_)
      · exact bS
      clear hK K bS
      try simp only [List.getElem_toArray, List.getElem_cons_succ, List.getElem_cons_zero, Act.put, List.setIfInBounds_toArray, List.set_cons_zero, List.set_cons_succ]
      refine wpAnyH_ready (rs := [5]) (by kernel_rfl) (by simp) ?_
      refine (AllReadyH.cons rfl (fun K hK => ?_) AllReadyH.nil)
      · go_simp
        have BX := Lib.hid (show Below (w7.alloc (.cells #[.func fp7 #[] cp7, .func fq7 #[] cq7, .func fr7 #[] cr7] 67)).heap.size (w7.alloc (.cells #[.func fp7 #[] cp7, .func fq7 #[] cq7, .func fr7 #[] cr7] 67)) (wq.alloc (.cells #[.func fp1 #[] cp1, .func fq1 #[] cq1, .func fr1 #[] cr1, .func fp2 #[] cp2, .func fq2 #[] cq2, .func fr2 #[] cr2] 67)) from BC.out)
        have BB := Lib.hid (show Below (wq.alloc (.cells #[.func fp1 #[] cp1, .func fq1 #[] cq1, .func fr1 #[] cr1, .func fp2 #[] cp2, .func fq2 #[] cq2, .func fr2 #[] cr2] 67)).heap.size (wq.alloc (.cells #[.func fp1 #[] cp1, .func fq1 #[] cq1, .func fr1 #[] cr1, .func fp2 #[] cp2, .func fq2 #[] cq2, .func fr2 #[] cr2] 67)) ((wq.alloc (.cells #[.func fp1 #[] cp1, .func fq1 #[] cq1, .func fr1 #[] cr1, .func fp2 #[] cp2, .func fq2 #[] cq2, .func fr2 #[] cr2] 67)).alloc (.cells #[.func fp3 #[] cp3, .func fq3 #[] cq3, .func fr3 #[] cr3] 67)) from (below_alloc (wq.alloc (.cells #[.func fp1 #[] cp1, .func fq1 #[] cq1, .func fr1 #[] cr1, .func fp2 #[] cp2, .func fq2 #[] cq2, .func fr2 #[] cr2] 67)) (.cells #[.func fp3 #[] cp3, .func fq3 #[] cq3, .func fr3 #[] cr3] 67)))
        replace FR := Lib.hid (FR.out.over BB.out)
        replace FA := Lib.hid (FA.out.over BB.out)
        have FE := Lib.hid (fls_new (W := (wq.alloc (.cells #[.func fp1 #[] cp1, .func fq1 #[] cq1, .func fr1 #[] cr1, .func fp2 #[] cp2, .func fq2 #[] cq2, .func fr2 #[] cr2] 67))) (vs := [(.func fp3 #[] cp3, .func fq3 #[] cq3, .func fr3 #[] cr3)]) (l := [.lb]) (wq.heap.size + 1) (by first | rfl | (simp; done)) 1 rfl (by decide) ⟨(F3.out.over BX.out), trivial⟩ #[.func fp3 #[] cp3, .func fq3 #[] cq3, .func fr3 #[] cr3] rfl)
        replace BC := Lib.hid (bel2 BC.out BB.out)
        clear BX BB
        have bS := And.intro (BC.out) (And.intro (cellOver BC.out c10) (And.intro (cellOver BC.out c11) (And.intro (cellOver BC.out c12) (And.intro (cellOver BC.out c20) (And.intro (cellOver BC.out c21) (And.intro (cellOver BC.out c22) (And.intro (cellOver BC.out c30) (And.intro (cellOver BC.out c31) (cellOver BC.out c32)))))))))
        refine hK.out _ _ ?_ (fun h3 => ?_)
        · exact bS
        clear hK K bS
        try simp only [List.getElem_toArray, List.getElem_cons_succ, List.getElem_cons_zero, Act.put, List.setIfInBounds_toArray, List.set_cons_zero, List.set_cons_succ]
        refine wpAnyH_ready (rs := [6]) (by kernel_rfl) (by simp) ?_
        refine AllReadyH.cons rfl (fun K hK => ?_) AllReadyH.nil
        go_simp
        have BB := Lib.hid (below_alloc ((wq.alloc (.cells #[.func fp1 #[] cp1, .func fq1 #[] cq1, .func fr1 #[] cr1, .func fp2 #[] cp2, .func fq2 #[] cq2, .func fr2 #[] cr2] 67)).alloc (.cells #[.func fp3 #[] cp3, .func fq3 #[] cq3, .func fr3 #[] cr3] 67)) (.cells #[.slice (some ⟨wq.heap.size, 0, none⟩) 2 2, .slice aR 6 6, .slice (some ⟨wq.heap.size + 1, 0, none⟩) 1 1] 60))
        have KC := Lib.hid (concat_fls3 (wq.heap.size + 1 + 1) _ 2 2 _ aR 6 6 _ _ 1 1 _ (((wq.alloc (.cells #[.func fp1 #[] cp1, .func fq1 #[] cq1, .func fr1 #[] cr1, .func fp2 #[] cp2, .func fq2 #[] cq2, .func fr2 #[] cr2] 67)).alloc (.cells #[.func fp3 #[] cp3, .func fq3 #[] cq3, .func fr3 #[] cr3] 67)).alloc (.cells #[.slice (some ⟨wq.heap.size, 0, none⟩) 2 2, .slice aR 6 6, .slice (some ⟨wq.heap.size + 1, 0, none⟩) 1 1] 60)) (FA.out.over BB.out) (FR.out.over BB.out) (FE.out.over BB.out) (by have h := heap_alloc_new ((wq.alloc (.cells #[.func fp1 #[] cp1, .func fq1 #[] cq1, .func fr1 #[] cr1, .func fp2 #[] cp2, .func fq2 #[] cq2, .func fr2 #[] cr2] 67)).alloc (.cells #[.func fp3 #[] cp3, .func fq3 #[] cq3, .func fr3 #[] cr3] 67)) (.cells #[.slice (some ⟨wq.heap.size, 0, none⟩) 2 2, .slice aR 6 6, .slice (some ⟨wq.heap.size + 1, 0, none⟩) 1 1] 60); simpa using h) (by decide) (by decide) (by decide))
        replace BC := Lib.hid (bel2 BC.out BB.out)
        clear FA FR FE BB
        have bS := And.intro (BC.out) (And.intro (cellOver BC.out c10) (And.intro (cellOver BC.out c11) (And.intro (cellOver BC.out c12) (And.intro (cellOver BC.out c20) (And.intro (cellOver BC.out c21) (And.intro (cellOver BC.out c22) (And.intro (cellOver BC.out c30) (And.intro (cellOver BC.out c31) (cellOver BC.out c32)))))))))
        refine hK.out _ _ ?_ (fun h4 => ?_)
        · exact bS
        clear hK K bS
        try simp only [List.getElem_toArray, List.getElem_cons_succ, List.getElem_cons_zero, Act.put, List.setIfInBounds_toArray, List.set_cons_zero, List.set_cons_succ]
        refine wpAnyH_ready (rs := [7]) (by kernel_rfl) (by simp) ?_
        refine AllReadyH.cons rfl (fun K hK => ?_) AllReadyH.nil
        go_simp
        go_at_call 24
        refine KC.out.mono ?_
        rintro e wz ⟨aZ, cZ, rfl, fZ, bq⟩
        go_wp2_with fail
        have FZ := Lib.hid fZ
        replace BC := Lib.hid (bel2 BC.out bq)
        clear fZ bq KC
        have bS := And.intro (BC.out) (And.intro (cellOver BC.out c10) (And.intro (cellOver BC.out c11) (And.intro (cellOver BC.out c12) (And.intro (cellOver BC.out c20) (And.intro (cellOver BC.out c21) (And.intro (cellOver BC.out c22) (And.intro (cellOver BC.out c30) (And.intro (cellOver BC.out c31) (cellOver BC.out c32)))))))))
        refine hK.out _ _ ?_ (fun h5 => ?_)
        · exact bS
        clear hK K bS
        try simp only [List.getElem_toArray, List.getElem_cons_succ, List.getElem_cons_zero, Act.put, List.setIfInBounds_toArray, List.set_cons_zero, List.set_cons_succ]
        refine wpAnyH_take (i := 8) (v := ?_) rfl (by kernel_rfl) (by kernel_rfl) (by kernel_rfl) (fun _ _ _ h => h) (Or.inl ⟨by rfl, ?_⟩) h5 ?_
        rotate_left
        · (intro w hSw; (try dsimp only at hSw); go_simp); all_goals (with_reducible rfl)
        try simp only [List.getElem_toArray, List.getElem_cons_succ, List.getElem_cons_zero, Act.put, List.setIfInBounds_toArray, List.set_cons_zero, List.set_cons_succ]
        refine wpAnyH_take (i := 9) (v := ?_) rfl (by kernel_rfl) (by kernel_rfl) (by kernel_rfl) (fun _ _ _ h => h) (Or.inl ⟨by rfl, ?_⟩) h5 ?_
        rotate_left
        · (intro w hSw; (try dsimp only at hSw); go_simp); all_goals (with_reducible rfl)
        try simp only [List.getElem_toArray, List.getElem_cons_succ, List.getElem_cons_zero, Act.put, List.setIfInBounds_toArray, List.set_cons_zero, List.set_cons_succ]
        refine wpAnyH_done (by kernel_rfl) ?_ _
        clear h0 h1 h2 h3 h4 h5
        go_wp2
        go_ret2
        exact ⟨_, _, _, rfl, FZ.out, bel2 B1.out BC.out⟩
    · go_simp
      have BX := Lib.hid (show Below (w7.alloc (.cells #[.func fp7 #[] cp7, .func fq7 #[] cq7, .func fr7 #[] cr7] 67)).heap.size (w7.alloc (.cells #[.func fp7 #[] cp7, .func fq7 #[] cq7, .func fr7 #[] cr7] 67)) wq from BC.out)
      have BB := Lib.hid (show Below wq.heap.size wq (wq.alloc (.cells #[.func fp3 #[] cp3, .func fq3 #[] cq3, .func fr3 #[] cr3] 67)) from (below_alloc wq (.cells #[.func fp3 #[] cp3, .func fq3 #[] cq3, .func fr3 #[] cr3] 67)))
      replace FR := Lib.hid (FR.out.over BB.out)
      have FE := Lib.hid (fls_new (W := wq) (vs := [(.func fp3 #[] cp3, .func fq3 #[] cq3, .func fr3 #[] cr3)]) (l := [.lb]) (wq.heap.size) (by first | rfl | (simp; done)) 1 rfl (by decide) ⟨(F3.out.over BX.out), trivial⟩ #[.func fp3 #[] cp3, .func fq3 #[] cq3, .func fr3 #[] cr3] rfl)
      replace BC := Lib.hid (bel2 BC.out BB.out)
      clear BX BB
      have bS := And.intro (BC.out) (And.intro (cellOver BC.out c10) (And.intro (cellOver BC.out c11) (And.intro (cellOver BC.out c12) (And.intro (cellOver BC.out c20) (And.intro (cellOver BC.out c21) (And.intro (cellOver BC.out c22) (And.intro (cellOver BC.out c30) (And.intro (cellOver BC.out c31) (cellOver BC.out c32)))))))))
      refine hK.out _ _ ?_ (fun h2 => ?_)
      · exact bS
      clear hK K bS
      try simp only [List.getElem_toArray, List.getElem_cons_succ, List.getElem_cons_zero, Act.put, List.setIfInBounds_toArray, List.set_cons_zero, List.set_cons_succ]
      refine wpAnyH_ready (rs := [2]) (by kernel_rfl) (by simp) ?_
      refine (AllReadyH.cons rfl (fun K hK => ?_) AllReadyH.nil)
      · go_simp
        have BX := Lib.hid (show Below (w7.alloc (.cells #[.func fp7 #[] cp7, .func fq7 #[] cq7, .func fr7 #[] cr7] 67)).heap.size (w7.alloc (.cells #[.func fp7 #[] cp7, .func fq7 #[] cq7, .func fr7 #[] cr7] 67)) (wq.alloc (.cells #[.func fp3 #[] cp3, .func fq3 #[] cq3, .func fr3 #[] cr3] 67)) from BC.out)
        have BB := Lib.hid (show Below (wq.alloc (.cells #[.func fp3 #[] cp3, .func fq3 #[] cq3, .func fr3 #[] cr3] 67)).heap.size (wq.alloc (.cells #[.func fp3 #[] cp3, .func fq3 #[] cq3, .func fr3 #[] cr3] 67)) ((wq.alloc (.cells #[.func fp3 #[] cp3, .func fq3 #[] cq3, .func fr3 #[] cr3] 67)).alloc (.cells #[.func fp1 #[] cp1, .func fq1 #[] cq1, .func fr1 #[] cr1, .func fp2 #[] cp2, .func fq2 #[] cq2, .func fr2 #[] cr2] 67)) from (below_alloc (wq.alloc (.cells #[.func fp3 #[] cp3, .func fq3 #[] cq3, .func fr3 #[] cr3] 67)) (.cells #[.func fp1 #[] cp1, .func fq1 #[] cq1, .func fr1 #[] cr1, .func fp2 #[] cp2, .func fq2 #[] cq2, .func fr2 #[] cr2] 67)))
        replace FR := Lib.hid (FR.out.over BB.out)
        replace FE := Lib.hid (FE.out.over BB.out)
        have FA := Lib.hid (fls_new (W := (wq.alloc (.cells #[.func fp3 #[] cp3, .func fq3 #[] cq3, .func fr3 #[] cr3] 67))) (vs := [(.func fp1 #[] cp1, .func fq1 #[] cq1, .func fr1 #[] cr1), (.func fp2 #[] cp2, .func fq2 #[] cq2, .func fr2 #[] cr2)]) (l := [.st, .lg]) (wq.heap.size + 1) (by first | rfl | (simp; done)) 2 rfl (by decide) ⟨(F1.out.over BX.out), (F2.out.over BX.out), trivial⟩ #[.func fp1 #[] cp1, .func fq1 #[] cq1, .func fr1 #[] cr1, .func fp2 #[] cp2, .func fq2 #[] cq2, .func fr2 #[] cr2] rfl)
        replace BC := Lib.hid (bel2 BC.out BB.out)
        clear BX BB
        have bS := And.intro (BC.out) (And.intro (cellOver BC.out c10) (And.intro (cellOver BC.out c11) (And.intro (cellOver BC.out c12) (And.intro (cellOver BC.out c20) (And.intro (cellOver BC.out c21) (And.intro (cellOver BC.out c22) (And.intro (cellOver BC.out c30) (And.intro (cellOver BC.out c31) (cellOver BC.out c32)))))))))
        refine hK.out _ _ ?_ (fun h3 => ?_)
        · exact bS
        clear hK K bS
        try simp only [List.getElem_toArray, List.getElem_cons_succ, List.getElem_cons_zero, Act.put, List.setIfInBounds_toArray, List.set_cons_zero, List.set_cons_succ]
        refine wpAnyH_ready (rs := [6]) (by kernel_rfl) (by simp) ?_
        refine AllReadyH.cons rfl (fun K hK => ?_) AllReadyH.nil
        go_simp
        have BB := Lib.hid (below_alloc ((wq.alloc (.cells #[.func fp3 #[] cp3, .func fq3 #[] cq3, .func fr3 #[] cr3] 67)).alloc (.cells #[.func fp1 #[] cp1, .func fq1 #[] cq1, .func fr1 #[] cr1, .func fp2 #[] cp2, .func fq2 #[] cq2, .func fr2 #[] cr2] 67)) (.cells #[.slice (some ⟨wq.heap.size + 1, 0, none⟩) 2 2, .slice aR 6 6, .slice (some ⟨wq.heap.size, 0, none⟩) 1 1] 60))
        have KC := Lib.hid (concat_fls3 (wq.heap.size + 1 + 1) _ 2 2 _ aR 6 6 _ _ 1 1 _ (((wq.alloc (.cells #[.func fp3 #[] cp3, .func fq3 #[] cq3, .func fr3 #[] cr3] 67)).alloc (.cells #[.func fp1 #[] cp1, .func fq1 #[] cq1, .func fr1 #[] cr1, .func fp2 #[] cp2, .func fq2 #[] cq2, .func fr2 #[] cr2] 67)).alloc (.cells #[.slice (some ⟨wq.heap.size + 1, 0, none⟩) 2 2, .slice aR 6 6, .slice (some ⟨wq.heap.size, 0, none⟩) 1 1] 60)) (FA.out.over BB.out) (FR.out.over BB.out) (FE.out.over BB.out) (by have h := heap_alloc_new ((wq.alloc (.cells #[.func fp3 #[] cp3, .func fq3 #[] cq3, .func fr3 #[] cr3] 67)).alloc (.cells #[.func fp1 #[] cp1, .func fq1 #[] cq1, .func fr1 #[] cr1, .func fp2 #[] cp2, .func fq2 #[] cq2, .func fr2 #[] cr2] 67)) (.cells #[.slice (some ⟨wq.heap.size + 1, 0, none⟩) 2 2, .slice aR 6 6, .slice (some ⟨wq.heap.size, 0, none⟩) 1 1] 60); simpa using h) (by decide) (by decide) (by decide))
        replace BC := Lib.hid (bel2 BC.out BB.out)
        clear FA FR FE BB
        have bS := And.intro (BC.out) (And.intro (cellOver BC.out c10) (And.intro (cellOver BC.out c11) (And.intro (cellOver BC.out c12) (And.intro (cellOver BC.out c20) (And.intro (cellOver BC.out c21) (And.intro (cellOver BC.out c22) (And.intro (cellOver BC.out c30) (And.intro (cellOver BC.out c31) (cellOver BC.out c32)))))))))
        refine hK.out _ _ ?_ (fun h4 => ?_)
        · exact bS
        clear hK K bS
        try simp only [List.getElem_toArray, List.getElem_cons_succ, List.getElem_cons_zero, Act.put, List.setIfInBounds_toArray, List.set_cons_zero, List.set_cons_succ]
        refine wpAnyH_ready (rs := [7]) (by kernel_rfl) (by simp) ?_
        refine AllReadyH.cons rfl (fun K hK => ?_) AllReadyH.nil
        go_simp
        go_at_call 24
        refine KC.out.mono ?_
        rintro e wz ⟨aZ, cZ, rfl, fZ, bq⟩
        go_wp2_with fail
        have FZ := Lib.hid fZ
        replace BC := Lib.hid (bel2 BC.out bq)
        clear fZ bq KC
        have bS := And.intro (BC.out) (And.intro (cellOver BC.out c10) (And.intro (cellOver BC.out c11) (And.intro (cellOver BC.out c12) (And.intro (cellOver BC.out c20) (And.intro (cellOver BC.out c21) (And.intro (cellOver BC.out c22) (And.intro (cellOver BC.out c30) (And.intro (cellOver BC.out c31) (cellOver BC.out c32)))))))))
        refine hK.out _ _ ?_ (fun h5 => ?_)
        · exact bS
        clear hK K bS
        try simp only [List.getElem_toArray, List.getElem_cons_succ, List.getElem_cons_zero, Act.put, List.setIfInBounds_toArray, List.set_cons_zero, List.set_cons_succ]
        refine wpAnyH_take (i := 8) (v := ?_) rfl (by kernel_rfl) (by kernel_rfl) (by kernel_rfl) (fun _ _ _ h => h) (Or.inl ⟨by rfl, ?_⟩) h5 ?_
        rotate_left
        · (intro w hSw; (try dsimp only at hSw); go_simp); all_goals (with_reducible rfl)
        try simp only [List.getElem_toArray, List.getElem_cons_succ, List.getElem_cons_zero, Act.put, List.setIfInBounds_toArray, List.set_cons_zero, List.set_cons_succ]
        refine wpAnyH_take (i := 9) (v := ?_) rfl (by kernel_rfl) (by kernel_rfl) (by kernel_rfl) (fun _ _ _ h => h) (Or.inl ⟨by rfl, ?_⟩) h5 ?_
        rotate_left
        · (intro w hSw; (try dsimp only at hSw); go_simp); all_goals (with_reducible rfl)
        try simp only [List.getElem_toArray, List.getElem_cons_succ, List.getElem_cons_zero, Act.put, List.setIfInBounds_toArray, List.set_cons_zero, List.set_cons_succ]
        refine wpAnyH_done (by kernel_rfl) ?_ _
        clear h0 h1 h2 h3 h4 h5
        go_wp2
        go_ret2
        exact ⟨_, _, _, rfl, FZ.out, bel2 B1.out BC.out⟩
  · go_simp
    have BX := Lib.hid (show Below (w7.alloc (.cells #[.func fp7 #[] cp7, .func fq7 #[] cq7, .func fr7 #[] cr7] 67)).heap.size (w7.alloc (.cells #[.func fp7 #[] cp7, .func fq7 #[] cq7, .func fr7 #[] cr7] 67)) (w7.alloc (.cells #[.func fp7 #[] cp7, .func fq7 #[] cq7, .func fr7 #[] cr7] 67)) from ⟨BC.out.os, BC.out.tape, BC.out.output, BC.out.size, BC.out.block⟩)
    have BB := Lib.hid (show Below (w7.alloc (.cells #[.func fp7 #[] cp7, .func fq7 #[] cq7, .func fr7 #[] cr7] 67)).drew.heap.size (w7.alloc (.cells #[.func fp7 #[] cp7, .func fq7 #[] cq7, .func fr7 #[] cr7] 67)).drew ((w7.alloc (.cells #[.func fp7 #[] cp7, .func fq7 #[] cq7, .func fr7 #[] cr7] 67)).alloc (.cells #[.func fp3 #[] cp3, .func fq3 #[] cq3, .func fr3 #[] cr3] 67)).drew from (below_undrew (below_alloc (w7.alloc (.cells #[.func fp7 #[] cp7, .func fq7 #[] cq7, .func fr7 #[] cr7] 67)) (.cells #[.func fp3 #[] cp3, .func fq3 #[] cq3, .func fr3 #[] cr3] 67)).drew))
    have FE := Lib.hid (IsFls.drewn (fls_new (W := (w7.alloc (.cells #[.func fp7 #[] cp7, .func fq7 #[] cq7, .func fr7 #[] cr7] 67))) (vs := [(.func fp3 #[] cp3, .func fq3 #[] cq3, .func fr3 #[] cr3)]) (l := [.lb]) (w7.heap.size + 1) (by first | rfl | (simp; done)) 1 rfl (by decide) ⟨(F3.out.over BX.out), trivial⟩ #[.func fp3 #[] cp3, .func fq3 #[] cq3, .func fr3 #[] cr3] rfl))
    replace BC := Lib.hid (bel2 BC.out BB.out)
    clear BX BB
    have bS := And.intro (BC.out) (And.intro (cellOver BC.out c10) (And.intro (cellOver BC.out c11) (And.intro (cellOver BC.out c12) (And.intro (cellOver BC.out c20) (And.intro (cellOver BC.out c21) (And.intro (cellOver BC.out c22) (And.intro (cellOver BC.out c30) (And.intro (cellOver BC.out c31) (cellOver BC.out c32)))))))))
    refine hK.out _ _ ?_ (fun h1 => ?_)
    · exact bS
    clear hK K bS
    try simp only [List.getElem_toArray, List.getElem_cons_succ, List.getElem_cons_zero, Act.put, List.setIfInBounds_toArray, List.set_cons_zero, List.set_cons_succ]
    refine wpAnyH_ready (rs := [2, 3]) (by kernel_rfl) (by simp) ?_
    refine (AllReadyH.cons rfl (fun K hK => ?_) (AllReadyH.cons rfl (fun K hK => ?_) AllReadyH.nil))
    · go_simp
      have BX := Lib.hid (show Below (w7.alloc (.cells #[.func fp7 #[] cp7, .func fq7 #[] cq7, .func fr7 #[] cr7] 67)).heap.size (w7.alloc (.cells #[.func fp7 #[] cp7, .func fq7 #[] cq7, .func fr7 #[] cr7] 67)) ((w7.alloc (.cells #[.func fp7 #[] cp7, .func fq7 #[] cq7, .func fr7 #[] cr7] 67)).alloc (.cells #[.func fp3 #[] cp3, .func fq3 #[] cq3, .func fr3 #[] cr3] 67)) from ⟨BC.out.os, BC.out.tape, BC.out.output, BC.out.size, BC.out.block⟩)
      have BB := Lib.hid (show Below ((w7.alloc (.cells #[.func fp7 #[] cp7, .func fq7 #[] cq7, .func fr7 #[] cr7] 67)).alloc (.cells #[.func fp3 #[] cp3, .func fq3 #[] cq3, .func fr3 #[] cr3] 67)).drew.heap.size ((w7.alloc (.cells #[.func fp7 #[] cp7, .func fq7 #[] cq7, .func fr7 #[] cr7] 67)).alloc (.cells #[.func fp3 #[] cp3, .func fq3 #[] cq3, .func fr3 #[] cr3] 67)).drew (((w7.alloc (.cells #[.func fp7 #[] cp7, .func fq7 #[] cq7, .func fr7 #[] cr7] 67)).alloc (.cells #[.func fp3 #[] cp3, .func fq3 #[] cq3, .func fr3 #[] cr3] 67)).alloc (.cells #[.func fp1 #[] cp1, .func fq1 #[] cq1, .func fr1 #[] cr1, .func fp2 #[] cp2, .func fq2 #[] cq2, .func fr2 #[] cr2] 67)).drew from (below_undrew (below_alloc ((w7.alloc (.cells #[.func fp7 #[] cp7, .func fq7 #[] cq7, .func fr7 #[] cr7] 67)).alloc (.cells #[.func fp3 #[] cp3, .func fq3 #[] cq3, .func fr3 #[] cr3] 67)) (.cells #[.func fp1 #[] cp1, .func fq1 #[] cq1, .func fr1 #[] cr1, .func fp2 #[] cp2, .func fq2 #[] cq2, .func fr2 #[] cr2] 67)).drew))
      replace FE := Lib.hid (FE.out.over BB.out)
      have FA := Lib.hid (IsFls.drewn (fls_new (W := ((w7.alloc (.cells #[.func fp7 #[] cp7, .func fq7 #[] cq7, .func fr7 #[] cr7] 67)).alloc (.cells #[.func fp3 #[] cp3, .func fq3 #[] cq3, .func fr3 #[] cr3] 67))) (vs := [(.func fp1 #[] cp1, .func fq1 #[] cq1, .func fr1 #[] cr1), (.func fp2 #[] cp2, .func fq2 #[] cq2, .func fr2 #[] cr2)]) (l := [.st, .lg]) (w7.heap.size + 1 + 1) (by first | rfl | (simp; done)) 2 rfl (by decide) ⟨(F1.out.over BX.out), (F2.out.over BX.out), trivial⟩ #[.func fp1 #[] cp1, .func fq1 #[] cq1, .func fr1 #[] cr1, .func fp2 #[] cp2, .func fq2 #[] cq2, .func fr2 #[] cr2] rfl))
      replace BC := Lib.hid (bel2 BC.out BB.out)
      clear BX BB
      have bS := And.intro (BC.out) (And.intro (cellOver BC.out c10) (And.intro (cellOver BC.out c11) (And.intro (cellOver BC.out c12) (And.intro (cellOver BC.out c20) (And.intro (cellOver BC.out c21) (And.intro (cellOver BC.out c22) (And.intro (cellOver BC.out c30) (And.intro (cellOver BC.out c31) (cellOver BC.out c32)))))))))
      refine hK.out _ _ ?_ (fun h2 => ?_)
      · exact bS
      clear hK K bS
      try simp only [List.getElem_toArray, List.getElem_cons_succ, List.getElem_cons_zero, Act.put, List.setIfInBounds_toArray, List.set_cons_zero, List.set_cons_succ]
      refine wpAnyH_ready (rs := [3]) (by kernel_rfl) (by simp) ?_
      refine (AllReadyH.cons rfl (fun K hK => ?_) AllReadyH.nil)
      · go_simp
        go_at_call 47
        refine (revision5 _).mono ?_
        rintro e wq ⟨aR, rfl, fR, bq⟩
        go_wp2_with fail
        replace FE := Lib.hid (FE.out.over bq)
        replace FA := Lib.hid (FA.out.over bq)
        have FR := Lib.hid fR
        replace BC := Lib.hid (bel2 BC.out bq)
        clear fR bq
        have bS := And.intro (BC.out) (And.intro (cellOver BC.out c10) (And.intro (cellOver BC.out c11) (And.intro (cellOver BC.out c12) (And.intro (cellOver BC.out c20) (And.intro (cellOver BC.out c21) (And.intro (cellOver BC.out c22) (And.intro (cellOver BC.out c30) (And.intro (cellOver BC.out c31) (cellOver BC.out c32)))))))))
        refine hK.out _ _ ?_ (fun h3 => ?_)
        · exact bS
        clear hK K bS
        try simp only [List.getElem_toArray, List.getElem_cons_succ, List.getElem_cons_zero, Act.put, List.setIfInBounds_toArray, List.set_cons_zero, List.set_cons_succ]
        refine wpAnyH_ready (rs := [6]) (by kernel_rfl) (by simp) ?_
        refine AllReadyH.cons rfl (fun K hK => ?_) AllReadyH.nil
        go_simp
        have BB := Lib.hid (below_alloc wq (.cells #[.slice (some ⟨w7.heap.size + 1 + 1, 0, none⟩) 2 2, .slice aR 6 6, .slice (some ⟨w7.heap.size + 1, 0, none⟩) 1 1] 60))
        have KC := Lib.hid (concat_fls3 (wq.heap.size) _ 2 2 _ aR 6 6 _ _ 1 1 _ (wq.alloc (.cells #[.slice (some ⟨w7.heap.size + 1 + 1, 0, none⟩) 2 2, .slice aR 6 6, .slice (some ⟨w7.heap.size + 1, 0, none⟩) 1 1] 60)) (FA.out.over BB.out) (FR.out.over BB.out) (FE.out.over BB.out) (by have h := heap_alloc_new wq (.cells #[.slice (some ⟨w7.heap.size + 1 + 1, 0, none⟩) 2 2, .slice aR 6 6, .slice (some ⟨w7.heap.size + 1, 0, none⟩) 1 1] 60); simpa using h) (by decide) (by decide) (by decide))
        replace BC := Lib.hid (bel2 BC.out BB.out)
        clear FA FR FE BB
        have bS := And.intro (BC.out) (And.intro (cellOver BC.out c10) (And.intro (cellOver BC.out c11) (And.intro (cellOver BC.out c12) (And.intro (cellOver BC.out c20) (And.intro (cellOver BC.out c21) (And.intro (cellOver BC.out c22) (And.intro (cellOver BC.out c30) (And.intro (cellOver BC.out c31) (cellOver BC.out c32)))))))))
        refine hK.out _ _ ?_ (fun h4 => ?_)
        · exact bS
        clear hK K bS
        try simp only [List.getElem_toArray, List.getElem_cons_succ, List.getElem_cons_zero, Act.put, List.setIfInBounds_toArray, List.set_cons_zero, List.set_cons_succ]
        refine wpAnyH_ready (rs := [7]) (by kernel_rfl) (by simp) ?_
        refine AllReadyH.cons rfl (fun K hK => ?_) AllReadyH.nil
        go_simp
        go_at_call 24
        refine KC.out.mono ?_
        rintro e wz ⟨aZ, cZ, rfl, fZ, bq⟩
        go_wp2_with fail
        have FZ := Lib.hid fZ
        replace BC := Lib.hid (bel2 BC.out bq)
        clear fZ bq KC
        have bS := And.intro (BC.out) (And.intro (cellOver BC.out c10) (And.intro (cellOver BC.out c11) (And.intro (cellOver BC.out c12) (And.intro (cellOver BC.out c20) (And.intro (cellOver BC.out c21) (And.intro (cellOver BC.out c22) (And.intro (cellOver BC.out c30) (And.intro (cellOver BC.out c31) (cellOver BC.out c32)))))))))
        refine hK.out _ _ ?_ (fun h5 => ?_)
        · exact bS
        clear hK K bS
        try simp only [List.getElem_toArray, List.getElem_cons_succ, List.getElem_cons_zero, Act.put, List.setIfInBounds_toArray, List.set_cons_zero, List.set_cons_succ]
        refine wpAnyH_take (i := 8) (v := ?_) rfl (by kernel_rfl) (by kernel_rfl) (by kernel_rfl) (fun _ _ _ h => h) (Or.inl ⟨by rfl, ?_⟩) h5 ?_
        rotate_left
        · (intro w hSw; (try dsimp only at hSw); go_simp); all_goals (with_reducible rfl)
        try simp only [List.getElem_toArray, List.getElem_cons_succ, List.getElem_cons_zero, Act.put, List.setIfInBounds_toArray, List.set_cons_zero, List.set_cons_succ]
        refine wpAnyH_take (i := 9) (v := ?_) rfl (by kernel_rfl) (by kernel_rfl) (by kernel_rfl) (fun _ _ _ h => h) (Or.inl ⟨by rfl, ?_⟩) h5 ?_
        rotate_left
        · (intro w hSw; (try dsimp only at hSw); go_simp); all_goals (with_reducible rfl)
        try simp only [List.getElem_toArray, List.getElem_cons_succ, List.getElem_cons_zero, Act.put, List.setIfInBounds_toArray, List.set_cons_zero, List.set_cons_succ]
        refine wpAnyH_done (by kernel_rfl) ?_ _
        clear h0 h1 h2 h3 h4 h5
        go_wp2
        go_ret2
        exact ⟨_, _, _, rfl, FZ.out, bel2 B1.out BC.out⟩
    · go_simp
      go_at_call 47
      refine (revision5 _).mono ?_
      rintro e wq ⟨aR, rfl, fR, bq⟩
      go_wp2_with fail
      replace FE := Lib.hid (FE.out.over bq)
      have FR := Lib.hid fR
      replace BC := Lib.hid (bel2 BC.out bq)
      clear fR bq
      have bS := And.intro (BC.out) (And.intro (cellOver BC.out c10) (And.intro (cellOver BC.out c11) (And.intro (cellOver BC.out c12) (And.intro (cellOver BC.out c20) (And.intro (cellOver BC.out c21) (And.intro (cellOver BC.out c22) (And.intro (cellOver BC.out c30) (And.intro (cellOver BC.out c31) (cellOver BC.out c32)))))))))
      refine hK.out _ _ ?_ (fun h2 => ?_)
      · exact bS
      clear hK K bS
      try simp only [List.getElem_toArray, List.getElem_cons_succ, List.getElem_cons_zero, Act.put, List.setIfInBounds_toArray, List.set_cons_zero, List.set_cons_succ]
      refine wpAnyH_ready (rs := [2]) (by kernel_rfl) (by simp) ?_
      refine (AllReadyH.cons rfl (fun K hK => ?_) AllReadyH.nil)
      · go_simp
        have BX := Lib.hid (show Below (w7.alloc (.cells #[.func fp7 #[] cp7, .func fq7 #[] cq7, .func fr7 #[] cr7] 67)).heap.size (w7.alloc (.cells #[.func fp7 #[] cp7, .func fq7 #[] cq7, .func fr7 #[] cr7] 67)) wq from BC.out)
        have BB := Lib.hid (show Below wq.heap.size wq (wq.alloc (.cells #[.func fp1 #[] cp1, .func fq1 #[] cq1, .func fr1 #[] cr1, .func fp2 #[] cp2, .func fq2 #[] cq2, .func fr2 #[] cr2] 67)) from (below_alloc wq (.cells #[.func fp1 #[] cp1, .func fq1 #[] cq1, .func fr1 #[] cr1, .func fp2 #[] cp2, .func fq2 #[] cq2, .func fr2 #[] cr2] 67)))
        replace FE := Lib.hid (FE.out.over BB.out)
        replace FR := Lib.hid (FR.out.over BB.out)
        have FA := Lib.hid (fls_new (W := wq) (vs := [(.func fp1 #[] cp1, .func fq1 #[] cq1, .func fr1 #[] cr1), (.func fp2 #[] cp2, .func fq2 #[] cq2, .func fr2 #[] cr2)]) (l := [.st, .lg]) (wq.heap.size) (by first | rfl | (simp; done)) 2 rfl (by decide) ⟨(F1.out.over BX.out), (F2.out.over BX.out), trivial⟩ #[.func fp1 #[] cp1, .func fq1 #[] cq1, .func fr1 #[] cr1, .func fp2 #[] cp2, .func fq2 #[] cq2, .func fr2 #[] cr2] rfl)
        replace BC := Lib.hid (bel2 BC.out BB.out)
        clear BX BB
        have bS := And.intro (BC.out) (And.intro (cellOver BC.out c10) (And.intro (cellOver BC.out c11) (And.intro (cellOver BC.out c12) (And.intro (cellOver BC.out c20) (And.intro (cellOver BC.out c21) (And.intro (cellOver BC.out c22) (And.intro (cellOver BC.out c30) (And.intro (cellOver BC.out c31) (cellOver BC.out c32)))))))))
        refine hK.out _ _ ?_ (fun h3 => ?_)
        · exact bS
        clear hK K bS
        try simp only [List.getElem_toArray, List.getElem_cons_succ, List.getElem_cons_zero, Act.put, List.setIfInBounds_toArray, List.set_cons_zero, List.set_cons_succ]
        refine wpAnyH_ready (rs := [6]) (by kernel_rfl) (by simp) ?_
        refine AllReadyH.cons rfl (fun K hK => ?_) AllReadyH.nil
        go_simp
        have BB := Lib.hid (below_alloc (wq.alloc (.cells #[.func fp1 #[] cp1, .func fq1 #[] cq1, .func fr1 #[] cr1, .func fp2 #[] cp2, .func fq2 #[] cq2, .func fr2 #[] cr2] 67)) (.cells #[.slice (some ⟨wq.heap.size, 0, none⟩) 2 2, .slice aR 6 6, .slice (some ⟨w7.heap.size + 1, 0, none⟩) 1 1] 60))
        have KC := Lib.hid (concat_fls3 (wq.heap.size + 1) _ 2 2 _ aR 6 6 _ _ 1 1 _ ((wq.alloc (.cells #[.func fp1 #[] cp1, .func fq1 #[] cq1, .func fr1 #[] cr1, .func fp2 #[] cp2, .func fq2 #[] cq2, .func fr2 #[] cr2] 67)).alloc (.cells #[.slice (some ⟨wq.heap.size, 0, none⟩) 2 2, .slice aR 6 6, .slice (some ⟨w7.heap.size + 1, 0, none⟩) 1 1] 60)) (FA.out.over BB.out) (FR.out.over BB.out) (FE.out.over BB.out) (by have h := heap_alloc_new (wq.alloc (.cells #[.func fp1 #[] cp1, .func fq1 #[] cq1, .func fr1 #[] cr1, .func fp2 #[] cp2, .func fq2 #[] cq2, .func fr2 #[] cr2] 67)) (.cells #[.slice (some ⟨wq.heap.size, 0, none⟩) 2 2, .slice aR 6 6, .slice (some ⟨w7.heap.size + 1, 0, none⟩) 1 1] 60); simpa using h) (by decide) (by decide) (by decide))
        replace BC := Lib.hid (bel2 BC.out BB.out)
        clear FA FR FE BB
        have bS := And.intro (BC.out) (And.intro (cellOver BC.out c10) (And.intro (cellOver BC.out c11) (And.intro (cellOver BC.out c12) (And.intro (cellOver BC.out c20) (And.intro (cellOver BC.out c21) (And.intro (cellOver BC.out c22) (And.intro (cellOver BC.out c30) (And.intro (cellOver BC.out c31) (cellOver BC.out c32)))))))))
        refine hK.out _ _ ?_ (fun h4 => ?_)
        · exact bS
        clear hK K bS
        try simp only [List.getElem_toArray, List.getElem_cons_succ, List.getElem_cons_zero, Act.put, List.setIfInBounds_toArray, List.set_cons_zero, List.set_cons_succ]
        refine wpAnyH_ready (rs := [7]) (by kernel_rfl) (by simp) ?_
        refine AllReadyH.cons rfl (fun K hK => ?_) AllReadyH.nil
        go_simp
        go_at_call 24
        refine KC.out.mono ?_
        rintro e wz ⟨aZ, cZ, rfl, fZ, bq⟩
        go_wp2_with fail
        have FZ := Lib.hid fZ
        replace BC := Lib.hid (bel2 BC.out bq)
        clear fZ bq KC
        have bS := And.intro (BC.out) (And.intro (cellOver BC.out c10) (And.intro (cellOver BC.out c11) (And.intro (cellOver BC.out c12) (And.intro (cellOver BC.out c20) (And.intro (cellOver BC.out c21) (And.intro (cellOver BC.out c22) (And.intro (cellOver BC.out c30) (And.intro (cellOver BC.out c31) (cellOver BC.out c32)))))))))
        refine hK.out _ _ ?_ (fun h5 => ?_)
        · exact bS
        clear hK K bS
        try simp only [List.getElem_toArray, List.getElem_cons_succ, List.getElem_cons_zero, Act.put, List.setIfInBounds_toArray, List.set_cons_zero, List.set_cons_succ]
        refine wpAnyH_take (i := 8) (v := ?_) rfl (by kernel_rfl) (by kernel_rfl) (by kernel_rfl) (fun _ _ _ h => h) (Or.inl ⟨by rfl, ?_⟩) h5 ?_
        rotate_left
        · (intro w hSw; (try dsimp only at hSw); go_simp); all_goals (with_reducible rfl)
        try simp only [List.getElem_toArray, List.getElem_cons_succ, List.getElem_cons_zero, Act.put, List.setIfInBounds_toArray, List.set_cons_zero, List.set_cons_succ]
        refine wpAnyH_take (i := 9) (v := ?_) rfl (by kernel_rfl) (by kernel_rfl) (by kernel_rfl) (fun _ _ _ h => h) (Or.inl ⟨by rfl, ?_⟩) h5 ?_
        rotate_left
        · (intro w hSw; (try dsimp only at hSw); go_simp); all_goals (with_reducible rfl)
        try simp only [List.getElem_toArray, List.getElem_cons_succ, List.getElem_cons_zero, Act.put, List.setIfInBounds_toArray, List.set_cons_zero, List.set_cons_succ]
        refine wpAnyH_done (by kernel_rfl) ?_ _
        clear h0 h1 h2 h3 h4 h5
        go_wp2
        go_ret2
        exact ⟨_, _, _, rfl, FZ.out, bel2 B1.out BC.out⟩
theorem fieldsOf5 (k : Int) (w : World) : Calls Tryz.prog 23 #[.int .i64 k] w (Own (ownF k) w) := by
  by_cases h1 : k = 1
  · subst h1; exact own1 w
  by_cases h2 : k = 2
  · subst h2; exact own2 w
  by_cases h3 : k = 3
  · subst h3; exact own3 w
  by_cases h4 : k = 4
  · subst h4; exact own4 w
  by_cases h5 : k = 5
  · subst h5; exact own5 w
  by_cases h6 : k = 6
  · subst h6; exact own6 w
  by_cases h7 : k = 7
  · subst h7; exact own7 w
  by_cases h8 : k = 8
  · subst h8; exact own8 w
  by_cases h9 : k = 9
  · subst h9; exact own9 w
  by_cases h10 : k = 10
  · subst h10; exact own10 w
  have e : ownF k = none := by simp [ownF, h1, h2, h3, h4, h5, h6, h7, h8, h9, h10]
  rw [e]
  exact own0 w k (by simp [h1]) (by simp [h2]) (by simp [h3]) (by simp [h4]) (by simp [h5]) (by simp [h6]) (by simp [h7]) (by simp [h8]) (by simp [h9]) (by simp [h10])
end Go.Proofs.YtlhcckjfgpcohaaGreatDoor
