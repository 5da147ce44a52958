/- Package fact: fieldsOf. -/
import Derived.Test.YtlhcckjfgpcohaaGreatDoorFctH
import Derived.Deep.RegionHeld3
namespace Go.Proofs.YtlhcckjfgpcohaaGreatDoor
open Go.RowKit
set_option maxRecDepth 100000
set_option linter.unusedSimpArgs false
set_option linter.unusedVariables false
def Own (r : Option (List Fld)) (w : World) (e : Ending) (w' : World) : Prop :=
  match r with
  | none => e = .returned (.tuple #[.slice none 0 0, .bool false]) ∧ Below w.heap.size w w'
  | some l => ∃ a n c, e = .returned (.tuple #[.slice a n c, .bool true]) ∧ IsFls w' a n c l ∧ Below w.heap.size w w'
theorem below_drew (W : World) : Below W.heap.size W W.drew := (Below.refl _ _).drew
set_option maxHeartbeats 8000000 in
theorem own3 (w : World) : Calls Tryz.prog 23 #[.int .i64 3] w (Own (some [.st, .lb]) w) := by
  go_enter Tryz.func23, Tryz.ntmps23
  go_wp2_with fail
  refine (number_fld .st rfl rfl _).mono ?_
  rintro e w1 ⟨⟨p1, q1, r1⟩, rfl, f, bb⟩
  obtain ⟨fq1, cq1, rfl⟩ := fld_shape2 f
  obtain ⟨fp1, cp1, fr1, cr1, rfl, rfl⟩ := fld_shape f
  have B1 := Lib.hid (bel2 bb (below_alloc w1 (.cells #[.func fp1 #[] cp1, .func fq1 #[] cq1, .func fr1 #[] cr1] 67)))
  have F1 := Lib.hid (f.over (below_alloc w1 (.cells #[.func fp1 #[] cp1, .func fq1 #[] cq1, .func fr1 #[] cr1] 67)))
  have X1 := Lib.hid (heap_alloc_new w1 (.cells #[.func fp1 #[] cp1, .func fq1 #[] cq1, .func fr1 #[] cr1] 67))
  clear f bb
  try simp only [agg3]
  go_wp2_with fail
  refine (text_fld .lg rfl _).mono ?_
  rintro e w2 ⟨⟨p2, q2, r2⟩, rfl, f, bb⟩
  obtain ⟨fq2, cq2, rfl⟩ := fld_shape2 f
  obtain ⟨fp2, cp2, fr2, cr2, rfl, rfl⟩ := fld_shape f
  replace F1 := Lib.hid (F1.out.over bb)
  replace X1 := Lib.hid (blockOver bb X1.out)
  replace B1 := Lib.hid (bel2 (bel2 B1.out bb) (below_alloc w2 (.cells #[.func fp2 #[] cp2, .func fq2 #[] cq2, .func fr2 #[] cr2] 67)))
  have F2 := Lib.hid (f.over (below_alloc w2 (.cells #[.func fp2 #[] cp2, .func fq2 #[] cq2, .func fr2 #[] cr2] 67)))
  have X2 := Lib.hid (heap_alloc_new w2 (.cells #[.func fp2 #[] cp2, .func fq2 #[] cq2, .func fr2 #[] cr2] 67))
  replace F1 := Lib.hid (F1.out.over (below_alloc w2 (.cells #[.func fp2 #[] cp2, .func fq2 #[] cq2, .func fr2 #[] cr2] 67)))
  replace X1 := Lib.hid (blockOver (below_alloc w2 (.cells #[.func fp2 #[] cp2, .func fq2 #[] cq2, .func fr2 #[] cr2] 67)) X1.out)
  clear f bb
  try simp only [agg3]
  go_wp2_with fail
  refine (label_fld _).mono ?_
  rintro e w3 ⟨⟨p3, q3, r3⟩, rfl, f, bb⟩
  obtain ⟨fq3, cq3, rfl⟩ := fld_shape2 f
  obtain ⟨fp3, cp3, fr3, cr3, rfl, rfl⟩ := fld_shape f
  replace F1 := Lib.hid (F1.out.over bb)
  replace X1 := Lib.hid (blockOver bb X1.out)
  replace F2 := Lib.hid (F2.out.over bb)
  replace X2 := Lib.hid (blockOver bb X2.out)
  replace B1 := Lib.hid (bel2 (bel2 B1.out bb) (below_alloc w3 (.cells #[.func fp3 #[] cp3, .func fq3 #[] cq3, .func fr3 #[] cr3] 67)))
  have F3 := Lib.hid (f.over (below_alloc w3 (.cells #[.func fp3 #[] cp3, .func fq3 #[] cq3, .func fr3 #[] cr3] 67)))
  have X3 := Lib.hid (heap_alloc_new w3 (.cells #[.func fp3 #[] cp3, .func fq3 #[] cq3, .func fr3 #[] cr3] 67))
  replace F1 := Lib.hid (F1.out.over (below_alloc w3 (.cells #[.func fp3 #[] cp3, .func fq3 #[] cq3, .func fr3 #[] cr3] 67)))
  replace X1 := Lib.hid (blockOver (below_alloc w3 (.cells #[.func fp3 #[] cp3, .func fq3 #[] cq3, .func fr3 #[] cr3] 67)) X1.out)
  replace F2 := Lib.hid (F2.out.over (below_alloc w3 (.cells #[.func fp3 #[] cp3, .func fq3 #[] cq3, .func fr3 #[] cr3] 67)))
  replace X2 := Lib.hid (blockOver (below_alloc w3 (.cells #[.func fp3 #[] cp3, .func fq3 #[] cq3, .func fr3 #[] cr3] 67)) X2.out)
  clear f bb
  try simp only [agg3]
  go_wp2_with fail
  refine (text_fld .nm rfl _).mono ?_
  rintro e w4 ⟨⟨p4, q4, r4⟩, rfl, f, bb⟩
  obtain ⟨fq4, cq4, rfl⟩ := fld_shape2 f
  obtain ⟨fp4, cp4, fr4, cr4, rfl, rfl⟩ := fld_shape f
  replace F1 := Lib.hid (F1.out.over bb)
  replace X1 := Lib.hid (blockOver bb X1.out)
  replace F2 := Lib.hid (F2.out.over bb)
  replace X2 := Lib.hid (blockOver bb X2.out)
  replace F3 := Lib.hid (F3.out.over bb)
  replace X3 := Lib.hid (blockOver bb X3.out)
  replace B1 := Lib.hid (bel2 (bel2 B1.out bb) (below_alloc w4 (.cells #[.func fp4 #[] cp4, .func fq4 #[] cq4, .func fr4 #[] cr4] 67)))
  have F4 := Lib.hid (f.over (below_alloc w4 (.cells #[.func fp4 #[] cp4, .func fq4 #[] cq4, .func fr4 #[] cr4] 67)))
  have X4 := Lib.hid (heap_alloc_new w4 (.cells #[.func fp4 #[] cp4, .func fq4 #[] cq4, .func fr4 #[] cr4] 67))
  replace F1 := Lib.hid (F1.out.over (below_alloc w4 (.cells #[.func fp4 #[] cp4, .func fq4 #[] cq4, .func fr4 #[] cr4] 67)))
  replace X1 := Lib.hid (blockOver (below_alloc w4 (.cells #[.func fp4 #[] cp4, .func fq4 #[] cq4, .func fr4 #[] cr4] 67)) X1.out)
  replace F2 := Lib.hid (F2.out.over (below_alloc w4 (.cells #[.func fp4 #[] cp4, .func fq4 #[] cq4, .func fr4 #[] cr4] 67)))
  replace X2 := Lib.hid (blockOver (below_alloc w4 (.cells #[.func fp4 #[] cp4, .func fq4 #[] cq4, .func fr4 #[] cr4] 67)) X2.out)
  replace F3 := Lib.hid (F3.out.over (below_alloc w4 (.cells #[.func fp4 #[] cp4, .func fq4 #[] cq4, .func fr4 #[] cr4] 67)))
  replace X3 := Lib.hid (blockOver (below_alloc w4 (.cells #[.func fp4 #[] cp4, .func fq4 #[] cq4, .func fr4 #[] cr4] 67)) X3.out)
  clear f bb
  try simp only [agg3]
  go_wp2_with fail
  refine (number_fld .pt rfl rfl _).mono ?_
  rintro e w5 ⟨⟨p5, q5, r5⟩, rfl, f, bb⟩
  obtain ⟨fq5, cq5, rfl⟩ := fld_shape2 f
  obtain ⟨fp5, cp5, fr5, cr5, rfl, rfl⟩ := fld_shape f
  replace F1 := Lib.hid (F1.out.over bb)
  replace X1 := Lib.hid (blockOver bb X1.out)
  replace F2 := Lib.hid (F2.out.over bb)
  replace X2 := Lib.hid (blockOver bb X2.out)
  replace F3 := Lib.hid (F3.out.over bb)
  replace X3 := Lib.hid (blockOver bb X3.out)
  replace F4 := Lib.hid (F4.out.over bb)
  replace X4 := Lib.hid (blockOver bb X4.out)
  replace B1 := Lib.hid (bel2 (bel2 B1.out bb) (below_alloc w5 (.cells #[.func fp5 #[] cp5, .func fq5 #[] cq5, .func fr5 #[] cr5] 67)))
  have F5 := Lib.hid (f.over (below_alloc w5 (.cells #[.func fp5 #[] cp5, .func fq5 #[] cq5, .func fr5 #[] cr5] 67)))
  have X5 := Lib.hid (heap_alloc_new w5 (.cells #[.func fp5 #[] cp5, .func fq5 #[] cq5, .func fr5 #[] cr5] 67))
  replace F1 := Lib.hid (F1.out.over (below_alloc w5 (.cells #[.func fp5 #[] cp5, .func fq5 #[] cq5, .func fr5 #[] cr5] 67)))
  replace X1 := Lib.hid (blockOver (below_alloc w5 (.cells #[.func fp5 #[] cp5, .func fq5 #[] cq5, .func fr5 #[] cr5] 67)) X1.out)
  replace F2 := Lib.hid (F2.out.over (below_alloc w5 (.cells #[.func fp5 #[] cp5, .func fq5 #[] cq5, .func fr5 #[] cr5] 67)))
  replace X2 := Lib.hid (blockOver (below_alloc w5 (.cells #[.func fp5 #[] cp5, .func fq5 #[] cq5, .func fr5 #[] cr5] 67)) X2.out)
  replace F3 := Lib.hid (F3.out.over (below_alloc w5 (.cells #[.func fp5 #[] cp5, .func fq5 #[] cq5, .func fr5 #[] cr5] 67)))
  replace X3 := Lib.hid (blockOver (below_alloc w5 (.cells #[.func fp5 #[] cp5, .func fq5 #[] cq5, .func fr5 #[] cr5] 67)) X3.out)
  replace F4 := Lib.hid (F4.out.over (below_alloc w5 (.cells #[.func fp5 #[] cp5, .func fq5 #[] cq5, .func fr5 #[] cr5] 67)))
  replace X4 := Lib.hid (blockOver (below_alloc w5 (.cells #[.func fp5 #[] cp5, .func fq5 #[] cq5, .func fr5 #[] cr5] 67)) X4.out)
  clear f bb
  try simp only [agg3]
  go_wp2_with fail
  refine (number_fld .cl rfl rfl _).mono ?_
  rintro e w6 ⟨⟨p6, q6, r6⟩, rfl, f, bb⟩
  obtain ⟨fq6, cq6, rfl⟩ := fld_shape2 f
  obtain ⟨fp6, cp6, fr6, cr6, rfl, rfl⟩ := fld_shape f
  replace F1 := Lib.hid (F1.out.over bb)
  replace X1 := Lib.hid (blockOver bb X1.out)
  replace F2 := Lib.hid (F2.out.over bb)
  replace X2 := Lib.hid (blockOver bb X2.out)
  replace F3 := Lib.hid (F3.out.over bb)
  replace X3 := Lib.hid (blockOver bb X3.out)
  replace F4 := Lib.hid (F4.out.over bb)
  replace X4 := Lib.hid (blockOver bb X4.out)
  replace F5 := Lib.hid (F5.out.over bb)
  replace X5 := Lib.hid (blockOver bb X5.out)
  replace B1 := Lib.hid (bel2 (bel2 B1.out bb) (below_alloc w6 (.cells #[.func fp6 #[] cp6, .func fq6 #[] cq6, .func fr6 #[] cr6] 67)))
  have F6 := Lib.hid (f.over (below_alloc w6 (.cells #[.func fp6 #[] cp6, .func fq6 #[] cq6, .func fr6 #[] cr6] 67)))
  have X6 := Lib.hid (heap_alloc_new w6 (.cells #[.func fp6 #[] cp6, .func fq6 #[] cq6, .func fr6 #[] cr6] 67))
  replace F1 := Lib.hid (F1.out.over (below_alloc w6 (.cells #[.func fp6 #[] cp6, .func fq6 #[] cq6, .func fr6 #[] cr6] 67)))
  replace X1 := Lib.hid (blockOver (below_alloc w6 (.cells #[.func fp6 #[] cp6, .func fq6 #[] cq6, .func fr6 #[] cr6] 67)) X1.out)
  replace F2 := Lib.hid (F2.out.over (below_alloc w6 (.cells #[.func fp6 #[] cp6, .func fq6 #[] cq6, .func fr6 #[] cr6] 67)))
  replace X2 := Lib.hid (blockOver (below_alloc w6 (.cells #[.func fp6 #[] cp6, .func fq6 #[] cq6, .func fr6 #[] cr6] 67)) X2.out)
  replace F3 := Lib.hid (F3.out.over (below_alloc w6 (.cells #[.func fp6 #[] cp6, .func fq6 #[] cq6, .func fr6 #[] cr6] 67)))
  replace X3 := Lib.hid (blockOver (below_alloc w6 (.cells #[.func fp6 #[] cp6, .func fq6 #[] cq6, .func fr6 #[] cr6] 67)) X3.out)
  replace F4 := Lib.hid (F4.out.over (below_alloc w6 (.cells #[.func fp6 #[] cp6, .func fq6 #[] cq6, .func fr6 #[] cr6] 67)))
  replace X4 := Lib.hid (blockOver (below_alloc w6 (.cells #[.func fp6 #[] cp6, .func fq6 #[] cq6, .func fr6 #[] cr6] 67)) X4.out)
  replace F5 := Lib.hid (F5.out.over (below_alloc w6 (.cells #[.func fp6 #[] cp6, .func fq6 #[] cq6, .func fr6 #[] cr6] 67)))
  replace X5 := Lib.hid (blockOver (below_alloc w6 (.cells #[.func fp6 #[] cp6, .func fq6 #[] cq6, .func fr6 #[] cr6] 67)) X5.out)
  clear f bb
  try simp only [agg3]
  go_wp2_with fail
  refine (number_fld .un rfl rfl _).mono ?_
  rintro e w7 ⟨⟨p7, q7, r7⟩, rfl, f, bb⟩
  obtain ⟨fq7, cq7, rfl⟩ := fld_shape2 f
  obtain ⟨fp7, cp7, fr7, cr7, rfl, rfl⟩ := fld_shape f
  replace F1 := Lib.hid (F1.out.over bb)
  replace X1 := Lib.hid (blockOver bb X1.out)
  replace F2 := Lib.hid (F2.out.over bb)
  replace X2 := Lib.hid (blockOver bb X2.out)
  replace F3 := Lib.hid (F3.out.over bb)
  replace X3 := Lib.hid (blockOver bb X3.out)
  replace F4 := Lib.hid (F4.out.over bb)
  replace X4 := Lib.hid (blockOver bb X4.out)
  replace F5 := Lib.hid (F5.out.over bb)
  replace X5 := Lib.hid (blockOver bb X5.out)
  replace F6 := Lib.hid (F6.out.over bb)
  replace X6 := Lib.hid (blockOver bb X6.out)
  replace B1 := Lib.hid (bel2 (bel2 B1.out bb) (below_alloc w7 (.cells #[.func fp7 #[] cp7, .func fq7 #[] cq7, .func fr7 #[] cr7] 67)))
  have F7 := Lib.hid (f.over (below_alloc w7 (.cells #[.func fp7 #[] cp7, .func fq7 #[] cq7, .func fr7 #[] cr7] 67)))
  have X7 := Lib.hid (heap_alloc_new w7 (.cells #[.func fp7 #[] cp7, .func fq7 #[] cq7, .func fr7 #[] cr7] 67))
  replace F1 := Lib.hid (F1.out.over (below_alloc w7 (.cells #[.func fp7 #[] cp7, .func fq7 #[] cq7, .func fr7 #[] cr7] 67)))
  replace X1 := Lib.hid (blockOver (below_alloc w7 (.cells #[.func fp7 #[] cp7, .func fq7 #[] cq7, .func fr7 #[] cr7] 67)) X1.out)
  replace F2 := Lib.hid (F2.out.over (below_alloc w7 (.cells #[.func fp7 #[] cp7, .func fq7 #[] cq7, .func fr7 #[] cr7] 67)))
  replace X2 := Lib.hid (blockOver (below_alloc w7 (.cells #[.func fp7 #[] cp7, .func fq7 #[] cq7, .func fr7 #[] cr7] 67)) X2.out)
  replace F3 := Lib.hid (F3.out.over (below_alloc w7 (.cells #[.func fp7 #[] cp7, .func fq7 #[] cq7, .func fr7 #[] cr7] 67)))
  replace X3 := Lib.hid (blockOver (below_alloc w7 (.cells #[.func fp7 #[] cp7, .func fq7 #[] cq7, .func fr7 #[] cr7] 67)) X3.out)
  replace F4 := Lib.hid (F4.out.over (below_alloc w7 (.cells #[.func fp7 #[] cp7, .func fq7 #[] cq7, .func fr7 #[] cr7] 67)))
  replace X4 := Lib.hid (blockOver (below_alloc w7 (.cells #[.func fp7 #[] cp7, .func fq7 #[] cq7, .func fr7 #[] cr7] 67)) X4.out)
  replace F5 := Lib.hid (F5.out.over (below_alloc w7 (.cells #[.func fp7 #[] cp7, .func fq7 #[] cq7, .func fr7 #[] cr7] 67)))
  replace X5 := Lib.hid (blockOver (below_alloc w7 (.cells #[.func fp7 #[] cp7, .func fq7 #[] cq7, .func fr7 #[] cr7] 67)) X5.out)
  replace F6 := Lib.hid (F6.out.over (below_alloc w7 (.cells #[.func fp7 #[] cp7, .func fq7 #[] cq7, .func fr7 #[] cr7] 67)))
  replace X6 := Lib.hid (blockOver (below_alloc w7 (.cells #[.func fp7 #[] cp7, .func fq7 #[] cq7, .func fr7 #[] cr7] 67)) X6.out)
  clear f bb
  try simp only [agg3]
  obtain ⟨c10, c11, c12⟩ := cells3 X1.out
  obtain ⟨c30, c31, c32⟩ := cells3 X3.out
  have HN := Lib.hid (fls_new (W := (w7.alloc (.cells #[.func fp7 #[] cp7, .func fq7 #[] cq7, .func fr7 #[] cr7] 67))) (vs := [(.func fp1 #[] cp1, .func fq1 #[] cq1, .func fr1 #[] cr1), (.func fp3 #[] cp3, .func fq3 #[] cq3, .func fr3 #[] cr3)]) (l := [.st, .lb]) (w7.heap.size + 1) (by simp) 2 rfl (by decide) ⟨F1.out, F3.out, trivial⟩ #[.func fp1 #[] cp1, .func fq1 #[] cq1, .func fr1 #[] cr1, .func fp3 #[] cp3, .func fq3 #[] cq3, .func fr3 #[] cr3] rfl)
  have HB := Lib.hid (bel2 B1.out (below_alloc (w7.alloc (.cells #[.func fp7 #[] cp7, .func fq7 #[] cq7, .func fr7 #[] cr7] 67)) (.cells #[.func fp1 #[] cp1, .func fq1 #[] cq1, .func fr1 #[] cr1, .func fp3 #[] cp3, .func fq3 #[] cq3, .func fr3 #[] cr3] 67)))
  clear F1 X1 F2 X2 F3 X3 F4 X4 F5 X5 F6 X6 F7 X7 B1
  go_wp2
  go_ret2
  exact ⟨_, _, _, rfl, HN.out, HB.out⟩
set_option maxHeartbeats 8000000 in
theorem own6 (w : World) : Calls Tryz.prog 23 #[.int .i64 6] w (Own (some [.st]) w) := by
  go_enter Tryz.func23, Tryz.ntmps23
  go_wp2_with fail
  refine (number_fld .st rfl rfl _).mono ?_
  rintro e w1 ⟨⟨p1, q1, r1⟩, rfl, f, bb⟩
  obtain ⟨fq1, cq1, rfl⟩ := fld_shape2 f
  obtain ⟨fp1, cp1, fr1, cr1, rfl, rfl⟩ := fld_shape f
  have B1 := Lib.hid (bel2 bb (below_alloc w1 (.cells #[.func fp1 #[] cp1, .func fq1 #[] cq1, .func fr1 #[] cr1] 67)))
  have F1 := Lib.hid (f.over (below_alloc w1 (.cells #[.func fp1 #[] cp1, .func fq1 #[] cq1, .func fr1 #[] cr1] 67)))
  have X1 := Lib.hid (heap_alloc_new w1 (.cells #[.func fp1 #[] cp1, .func fq1 #[] cq1, .func fr1 #[] cr1] 67))
  clear f bb
  try simp only [agg3]
  go_wp2_with fail
  refine (text_fld .lg rfl _).mono ?_
  rintro e w2 ⟨⟨p2, q2, r2⟩, rfl, f, bb⟩
  obtain ⟨fq2, cq2, rfl⟩ := fld_shape2 f
  obtain ⟨fp2, cp2, fr2, cr2, rfl, rfl⟩ := fld_shape f
  replace F1 := Lib.hid (F1.out.over bb)
  replace X1 := Lib.hid (blockOver bb X1.out)
  replace B1 := Lib.hid (bel2 (bel2 B1.out bb) (below_alloc w2 (.cells #[.func fp2 #[] cp2, .func fq2 #[] cq2, .func fr2 #[] cr2] 67)))
  have F2 := Lib.hid (f.over (below_alloc w2 (.cells #[.func fp2 #[] cp2, .func fq2 #[] cq2, .func fr2 #[] cr2] 67)))
  have X2 := Lib.hid (heap_alloc_new w2 (.cells #[.func fp2 #[] cp2, .func fq2 #[] cq2, .func fr2 #[] cr2] 67))
  replace F1 := Lib.hid (F1.out.over (below_alloc w2 (.cells #[.func fp2 #[] cp2, .func fq2 #[] cq2, .func fr2 #[] cr2] 67)))
  replace X1 := Lib.hid (blockOver (below_alloc w2 (.cells #[.func fp2 #[] cp2, .func fq2 #[] cq2, .func fr2 #[] cr2] 67)) X1.out)
  clear f bb
  try simp only [agg3]
  go_wp2_with fail
  refine (label_fld _).mono ?_
  rintro e w3 ⟨⟨p3, q3, r3⟩, rfl, f, bb⟩
  obtain ⟨fq3, cq3, rfl⟩ := fld_shape2 f
  obtain ⟨fp3, cp3, fr3, cr3, rfl, rfl⟩ := fld_shape f
  replace F1 := Lib.hid (F1.out.over bb)
  replace X1 := Lib.hid (blockOver bb X1.out)
  replace F2 := Lib.hid (F2.out.over bb)
  replace X2 := Lib.hid (blockOver bb X2.out)
  replace B1 := Lib.hid (bel2 (bel2 B1.out bb) (below_alloc w3 (.cells #[.func fp3 #[] cp3, .func fq3 #[] cq3, .func fr3 #[] cr3] 67)))
  have F3 := Lib.hid (f.over (below_alloc w3 (.cells #[.func fp3 #[] cp3, .func fq3 #[] cq3, .func fr3 #[] cr3] 67)))
  have X3 := Lib.hid (heap_alloc_new w3 (.cells #[.func fp3 #[] cp3, .func fq3 #[] cq3, .func fr3 #[] cr3] 67))
  replace F1 := Lib.hid (F1.out.over (below_alloc w3 (.cells #[.func fp3 #[] cp3, .func fq3 #[] cq3, .func fr3 #[] cr3] 67)))
  replace X1 := Lib.hid (blockOver (below_alloc w3 (.cells #[.func fp3 #[] cp3, .func fq3 #[] cq3, .func fr3 #[] cr3] 67)) X1.out)
  replace F2 := Lib.hid (F2.out.over (below_alloc w3 (.cells #[.func fp3 #[] cp3, .func fq3 #[] cq3, .func fr3 #[] cr3] 67)))
  replace X2 := Lib.hid (blockOver (below_alloc w3 (.cells #[.func fp3 #[] cp3, .func fq3 #[] cq3, .func fr3 #[] cr3] 67)) X2.out)
  clear f bb
  try simp only [agg3]
  go_wp2_with fail
  refine (text_fld .nm rfl _).mono ?_
  rintro e w4 ⟨⟨p4, q4, r4⟩, rfl, f, bb⟩
  obtain ⟨fq4, cq4, rfl⟩ := fld_shape2 f
  obtain ⟨fp4, cp4, fr4, cr4, rfl, rfl⟩ := fld_shape f
  replace F1 := Lib.hid (F1.out.over bb)
  replace X1 := Lib.hid (blockOver bb X1.out)
  replace F2 := Lib.hid (F2.out.over bb)
  replace X2 := Lib.hid (blockOver bb X2.out)
  replace F3 := Lib.hid (F3.out.over bb)
  replace X3 := Lib.hid (blockOver bb X3.out)
  replace B1 := Lib.hid (bel2 (bel2 B1.out bb) (below_alloc w4 (.cells #[.func fp4 #[] cp4, .func fq4 #[] cq4, .func fr4 #[] cr4] 67)))
  have F4 := Lib.hid (f.over (below_alloc w4 (.cells #[.func fp4 #[] cp4, .func fq4 #[] cq4, .func fr4 #[] cr4] 67)))
  have X4 := Lib.hid (heap_alloc_new w4 (.cells #[.func fp4 #[] cp4, .func fq4 #[] cq4, .func fr4 #[] cr4] 67))
  replace F1 := Lib.hid (F1.out.over (below_alloc w4 (.cells #[.func fp4 #[] cp4, .func fq4 #[] cq4, .func fr4 #[] cr4] 67)))
  replace X1 := Lib.hid (blockOver (below_alloc w4 (.cells #[.func fp4 #[] cp4, .func fq4 #[] cq4, .func fr4 #[] cr4] 67)) X1.out)
  replace F2 := Lib.hid (F2.out.over (below_alloc w4 (.cells #[.func fp4 #[] cp4, .func fq4 #[] cq4, .func fr4 #[] cr4] 67)))
  replace X2 := Lib.hid (blockOver (below_alloc w4 (.cells #[.func fp4 #[] cp4, .func fq4 #[] cq4, .func fr4 #[] cr4] 67)) X2.out)
  replace F3 := Lib.hid (F3.out.over (below_alloc w4 (.cells #[.func fp4 #[] cp4, .func fq4 #[] cq4, .func fr4 #[] cr4] 67)))
  replace X3 := Lib.hid (blockOver (below_alloc w4 (.cells #[.func fp4 #[] cp4, .func fq4 #[] cq4, .func fr4 #[] cr4] 67)) X3.out)
  clear f bb
  try simp only [agg3]
  go_wp2_with fail
  refine (number_fld .pt rfl rfl _).mono ?_
  rintro e w5 ⟨⟨p5, q5, r5⟩, rfl, f, bb⟩
  obtain ⟨fq5, cq5, rfl⟩ := fld_shape2 f
  obtain ⟨fp5, cp5, fr5, cr5, rfl, rfl⟩ := fld_shape f
  replace F1 := Lib.hid (F1.out.over bb)
  replace X1 := Lib.hid (blockOver bb X1.out)
  replace F2 := Lib.hid (F2.out.over bb)
  replace X2 := Lib.hid (blockOver bb X2.out)
  replace F3 := Lib.hid (F3.out.over bb)
  replace X3 := Lib.hid (blockOver bb X3.out)
  replace F4 := Lib.hid (F4.out.over bb)
  replace X4 := Lib.hid (blockOver bb X4.out)
  replace B1 := Lib.hid (bel2 (bel2 B1.out bb) (below_alloc w5 (.cells #[.func fp5 #[] cp5, .func fq5 #[] cq5, .func fr5 #[] cr5] 67)))
  have F5 := Lib.hid (f.over (below_alloc w5 (.cells #[.func fp5 #[] cp5, .func fq5 #[] cq5, .func fr5 #[] cr5] 67)))
  have X5 := Lib.hid (heap_alloc_new w5 (.cells #[.func fp5 #[] cp5, .func fq5 #[] cq5, .func fr5 #[] cr5] 67))
  replace F1 := Lib.hid (F1.out.over (below_alloc w5 (.cells #[.func fp5 #[] cp5, .func fq5 #[] cq5, .func fr5 #[] cr5] 67)))
  replace X1 := Lib.hid (blockOver (below_alloc w5 (.cells #[.func fp5 #[] cp5, .func fq5 #[] cq5, .func fr5 #[] cr5] 67)) X1.out)
  replace F2 := Lib.hid (F2.out.over (below_alloc w5 (.cells #[.func fp5 #[] cp5, .func fq5 #[] cq5, .func fr5 #[] cr5] 67)))
  replace X2 := Lib.hid (blockOver (below_alloc w5 (.cells #[.func fp5 #[] cp5, .func fq5 #[] cq5, .func fr5 #[] cr5] 67)) X2.out)
  replace F3 := Lib.hid (F3.out.over (below_alloc w5 (.cells #[.func fp5 #[] cp5, .func fq5 #[] cq5, .func fr5 #[] cr5] 67)))
  replace X3 := Lib.hid (blockOver (below_alloc w5 (.cells #[.func fp5 #[] cp5, .func fq5 #[] cq5, .func fr5 #[] cr5] 67)) X3.out)
  replace F4 := Lib.hid (F4.out.over (below_alloc w5 (.cells #[.func fp5 #[] cp5, .func fq5 #[] cq5, .func fr5 #[] cr5] 67)))
  replace X4 := Lib.hid (blockOver (below_alloc w5 (.cells #[.func fp5 #[] cp5, .func fq5 #[] cq5, .func fr5 #[] cr5] 67)) X4.out)
  clear f bb
  try simp only [agg3]
  go_wp2_with fail
  refine (number_fld .cl rfl rfl _).mono ?_
  rintro e w6 ⟨⟨p6, q6, r6⟩, rfl, f, bb⟩
  obtain ⟨fq6, cq6, rfl⟩ := fld_shape2 f
  obtain ⟨fp6, cp6, fr6, cr6, rfl, rfl⟩ := fld_shape f
  replace F1 := Lib.hid (F1.out.over bb)
  replace X1 := Lib.hid (blockOver bb X1.out)
  replace F2 := Lib.hid (F2.out.over bb)
  replace X2 := Lib.hid (blockOver bb X2.out)
  replace F3 := Lib.hid (F3.out.over bb)
  replace X3 := Lib.hid (blockOver bb X3.out)
  replace F4 := Lib.hid (F4.out.over bb)
  replace X4 := Lib.hid (blockOver bb X4.out)
  replace F5 := Lib.hid (F5.out.over bb)
  replace X5 := Lib.hid (blockOver bb X5.out)
  replace B1 := Lib.hid (bel2 (bel2 B1.out bb) (below_alloc w6 (.cells #[.func fp6 #[] cp6, .func fq6 #[] cq6, .func fr6 #[] cr6] 67)))
  have F6 := Lib.hid (f.over (below_alloc w6 (.cells #[.func fp6 #[] cp6, .func fq6 #[] cq6, .func fr6 #[] cr6] 67)))
  have X6 := Lib.hid (heap_alloc_new w6 (.cells #[.func fp6 #[] cp6, .func fq6 #[] cq6, .func fr6 #[] cr6] 67))
  replace F1 := Lib.hid (F1.out.over (below_alloc w6 (.cells #[.func fp6 #[] cp6, .func fq6 #[] cq6, .func fr6 #[] cr6] 67)))
  replace X1 := Lib.hid (blockOver (below_alloc w6 (.cells #[.func fp6 #[] cp6, .func fq6 #[] cq6, .func fr6 #[] cr6] 67)) X1.out)
  replace F2 := Lib.hid (F2.out.over (below_alloc w6 (.cells #[.func fp6 #[] cp6, .func fq6 #[] cq6, .func fr6 #[] cr6] 67)))
  replace X2 := Lib.hid (blockOver (below_alloc w6 (.cells #[.func fp6 #[] cp6, .func fq6 #[] cq6, .func fr6 #[] cr6] 67)) X2.out)
  replace F3 := Lib.hid (F3.out.over (below_alloc w6 (.cells #[.func fp6 #[] cp6, .func fq6 #[] cq6, .func fr6 #[] cr6] 67)))
  replace X3 := Lib.hid (blockOver (below_alloc w6 (.cells #[.func fp6 #[] cp6, .func fq6 #[] cq6, .func fr6 #[] cr6] 67)) X3.out)
  replace F4 := Lib.hid (F4.out.over (below_alloc w6 (.cells #[.func fp6 #[] cp6, .func fq6 #[] cq6, .func fr6 #[] cr6] 67)))
  replace X4 := Lib.hid (blockOver (below_alloc w6 (.cells #[.func fp6 #[] cp6, .func fq6 #[] cq6, .func fr6 #[] cr6] 67)) X4.out)
  replace F5 := Lib.hid (F5.out.over (below_alloc w6 (.cells #[.func fp6 #[] cp6, .func fq6 #[] cq6, .func fr6 #[] cr6] 67)))
  replace X5 := Lib.hid (blockOver (below_alloc w6 (.cells #[.func fp6 #[] cp6, .func fq6 #[] cq6, .func fr6 #[] cr6] 67)) X5.out)
  clear f bb
  try simp only [agg3]
  go_wp2_with fail
  refine (number_fld .un rfl rfl _).mono ?_
  rintro e w7 ⟨⟨p7, q7, r7⟩, rfl, f, bb⟩
  obtain ⟨fq7, cq7, rfl⟩ := fld_shape2 f
  obtain ⟨fp7, cp7, fr7, cr7, rfl, rfl⟩ := fld_shape f
  replace F1 := Lib.hid (F1.out.over bb)
  replace X1 := Lib.hid (blockOver bb X1.out)
  replace F2 := Lib.hid (F2.out.over bb)
  replace X2 := Lib.hid (blockOver bb X2.out)
  replace F3 := Lib.hid (F3.out.over bb)
  replace X3 := Lib.hid (blockOver bb X3.out)
  replace F4 := Lib.hid (F4.out.over bb)
  replace X4 := Lib.hid (blockOver bb X4.out)
  replace F5 := Lib.hid (F5.out.over bb)
  replace X5 := Lib.hid (blockOver bb X5.out)
  replace F6 := Lib.hid (F6.out.over bb)
  replace X6 := Lib.hid (blockOver bb X6.out)
  replace B1 := Lib.hid (bel2 (bel2 B1.out bb) (below_alloc w7 (.cells #[.func fp7 #[] cp7, .func fq7 #[] cq7, .func fr7 #[] cr7] 67)))
  have F7 := Lib.hid (f.over (below_alloc w7 (.cells #[.func fp7 #[] cp7, .func fq7 #[] cq7, .func fr7 #[] cr7] 67)))
  have X7 := Lib.hid (heap_alloc_new w7 (.cells #[.func fp7 #[] cp7, .func fq7 #[] cq7, .func fr7 #[] cr7] 67))
  replace F1 := Lib.hid (F1.out.over (below_alloc w7 (.cells #[.func fp7 #[] cp7, .func fq7 #[] cq7, .func fr7 #[] cr7] 67)))
  replace X1 := Lib.hid (blockOver (below_alloc w7 (.cells #[.func fp7 #[] cp7, .func fq7 #[] cq7, .func fr7 #[] cr7] 67)) X1.out)
  replace F2 := Lib.hid (F2.out.over (below_alloc w7 (.cells #[.func fp7 #[] cp7, .func fq7 #[] cq7, .func fr7 #[] cr7] 67)))
  replace X2 := Lib.hid (blockOver (below_alloc w7 (.cells #[.func fp7 #[] cp7, .func fq7 #[] cq7, .func fr7 #[] cr7] 67)) X2.out)
  replace F3 := Lib.hid (F3.out.over (below_alloc w7 (.cells #[.func fp7 #[] cp7, .func fq7 #[] cq7, .func fr7 #[] cr7] 67)))
  replace X3 := Lib.hid (blockOver (below_alloc w7 (.cells #[.func fp7 #[] cp7, .func fq7 #[] cq7, .func fr7 #[] cr7] 67)) X3.out)
  replace F4 := Lib.hid (F4.out.over (below_alloc w7 (.cells #[.func fp7 #[] cp7, .func fq7 #[] cq7, .func fr7 #[] cr7] 67)))
  replace X4 := Lib.hid (blockOver (below_alloc w7 (.cells #[.func fp7 #[] cp7, .func fq7 #[] cq7, .func fr7 #[] cr7] 67)) X4.out)
  replace F5 := Lib.hid (F5.out.over (below_alloc w7 (.cells #[.func fp7 #[] cp7, .func fq7 #[] cq7, .func fr7 #[] cr7] 67)))
  replace X5 := Lib.hid (blockOver (below_alloc w7 (.cells #[.func fp7 #[] cp7, .func fq7 #[] cq7, .func fr7 #[] cr7] 67)) X5.out)
  replace F6 := Lib.hid (F6.out.over (below_alloc w7 (.cells #[.func fp7 #[] cp7, .func fq7 #[] cq7, .func fr7 #[] cr7] 67)))
  replace X6 := Lib.hid (blockOver (below_alloc w7 (.cells #[.func fp7 #[] cp7, .func fq7 #[] cq7, .func fr7 #[] cr7] 67)) X6.out)
  clear f bb
  try simp only [agg3]
  obtain ⟨c10, c11, c12⟩ := cells3 X1.out
  have HN := Lib.hid (fls_new (W := (w7.alloc (.cells #[.func fp7 #[] cp7, .func fq7 #[] cq7, .func fr7 #[] cr7] 67))) (vs := [(.func fp1 #[] cp1, .func fq1 #[] cq1, .func fr1 #[] cr1)]) (l := [.st]) (w7.heap.size + 1) (by simp) 1 rfl (by decide) ⟨F1.out, trivial⟩ #[.func fp1 #[] cp1, .func fq1 #[] cq1, .func fr1 #[] cr1] rfl)
  have HB := Lib.hid (bel2 B1.out (below_alloc (w7.alloc (.cells #[.func fp7 #[] cp7, .func fq7 #[] cq7, .func fr7 #[] cr7] 67)) (.cells #[.func fp1 #[] cp1, .func fq1 #[] cq1, .func fr1 #[] cr1] 67)))
  clear F1 X1 F2 X2 F3 X3 F4 X4 F5 X5 F6 X6 F7 X7 B1
  go_wp2
  go_ret2
  exact ⟨_, _, _, rfl, HN.out, HB.out⟩
set_option maxHeartbeats 8000000 in
theorem own10 (w : World) : Calls Tryz.prog 23 #[.int .i64 10] w (Own (some [.st]) w) := by
  go_enter Tryz.func23, Tryz.ntmps23
  go_wp2_with fail
  refine (number_fld .st rfl rfl _).mono ?_
  rintro e w1 ⟨⟨p1, q1, r1⟩, rfl, f, bb⟩
  obtain ⟨fq1, cq1, rfl⟩ := fld_shape2 f
  obtain ⟨fp1, cp1, fr1, cr1, rfl, rfl⟩ := fld_shape f
  have B1 := Lib.hid (bel2 bb (below_alloc w1 (.cells #[.func fp1 #[] cp1, .func fq1 #[] cq1, .func fr1 #[] cr1] 67)))
  have F1 := Lib.hid (f.over (below_alloc w1 (.cells #[.func fp1 #[] cp1, .func fq1 #[] cq1, .func fr1 #[] cr1] 67)))
  have X1 := Lib.hid (heap_alloc_new w1 (.cells #[.func fp1 #[] cp1, .func fq1 #[] cq1, .func fr1 #[] cr1] 67))
  clear f bb
  try simp only [agg3]
  go_wp2_with fail
  refine (text_fld .lg rfl _).mono ?_
  rintro e w2 ⟨⟨p2, q2, r2⟩, rfl, f, bb⟩
  obtain ⟨fq2, cq2, rfl⟩ := fld_shape2 f
  obtain ⟨fp2, cp2, fr2, cr2, rfl, rfl⟩ := fld_shape f
  replace F1 := Lib.hid (F1.out.over bb)
  replace X1 := Lib.hid (blockOver bb X1.out)
  replace B1 := Lib.hid (bel2 (bel2 B1.out bb) (below_alloc w2 (.cells #[.func fp2 #[] cp2, .func fq2 #[] cq2, .func fr2 #[] cr2] 67)))
  have F2 := Lib.hid (f.over (below_alloc w2 (.cells #[.func fp2 #[] cp2, .func fq2 #[] cq2, .func fr2 #[] cr2] 67)))
  have X2 := Lib.hid (heap_alloc_new w2 (.cells #[.func fp2 #[] cp2, .func fq2 #[] cq2, .func fr2 #[] cr2] 67))
  replace F1 := Lib.hid (F1.out.over (below_alloc w2 (.cells #[.func fp2 #[] cp2, .func fq2 #[] cq2, .func fr2 #[] cr2] 67)))
  replace X1 := Lib.hid (blockOver (below_alloc w2 (.cells #[.func fp2 #[] cp2, .func fq2 #[] cq2, .func fr2 #[] cr2] 67)) X1.out)
  clear f bb
  try simp only [agg3]
  go_wp2_with fail
  refine (label_fld _).mono ?_
  rintro e w3 ⟨⟨p3, q3, r3⟩, rfl, f, bb⟩
  obtain ⟨fq3, cq3, rfl⟩ := fld_shape2 f
  obtain ⟨fp3, cp3, fr3, cr3, rfl, rfl⟩ := fld_shape f
  replace F1 := Lib.hid (F1.out.over bb)
  replace X1 := Lib.hid (blockOver bb X1.out)
  replace F2 := Lib.hid (F2.out.over bb)
  replace X2 := Lib.hid (blockOver bb X2.out)
  replace B1 := Lib.hid (bel2 (bel2 B1.out bb) (below_alloc w3 (.cells #[.func fp3 #[] cp3, .func fq3 #[] cq3, .func fr3 #[] cr3] 67)))
  have F3 := Lib.hid (f.over (below_alloc w3 (.cells #[.func fp3 #[] cp3, .func fq3 #[] cq3, .func fr3 #[] cr3] 67)))
  have X3 := Lib.hid (heap_alloc_new w3 (.cells #[.func fp3 #[] cp3, .func fq3 #[] cq3, .func fr3 #[] cr3] 67))
  replace F1 := Lib.hid (F1.out.over (below_alloc w3 (.cells #[.func fp3 #[] cp3, .func fq3 #[] cq3, .func fr3 #[] cr3] 67)))
  replace X1 := Lib.hid (blockOver (below_alloc w3 (.cells #[.func fp3 #[] cp3, .func fq3 #[] cq3, .func fr3 #[] cr3] 67)) X1.out)
  replace F2 := Lib.hid (F2.out.over (below_alloc w3 (.cells #[.func fp3 #[] cp3, .func fq3 #[] cq3, .func fr3 #[] cr3] 67)))
  replace X2 := Lib.hid (blockOver (below_alloc w3 (.cells #[.func fp3 #[] cp3, .func fq3 #[] cq3, .func fr3 #[] cr3] 67)) X2.out)
  clear f bb
  try simp only [agg3]
  go_wp2_with fail
  refine (text_fld .nm rfl _).mono ?_
  rintro e w4 ⟨⟨p4, q4, r4⟩, rfl, f, bb⟩
  obtain ⟨fq4, cq4, rfl⟩ := fld_shape2 f
  obtain ⟨fp4, cp4, fr4, cr4, rfl, rfl⟩ := fld_shape f
  replace F1 := Lib.hid (F1.out.over bb)
  replace X1 := Lib.hid (blockOver bb X1.out)
  replace F2 := Lib.hid (F2.out.over bb)
  replace X2 := Lib.hid (blockOver bb X2.out)
  replace F3 := Lib.hid (F3.out.over bb)
  replace X3 := Lib.hid (blockOver bb X3.out)
  replace B1 := Lib.hid (bel2 (bel2 B1.out bb) (below_alloc w4 (.cells #[.func fp4 #[] cp4, .func fq4 #[] cq4, .func fr4 #[] cr4] 67)))
  have F4 := Lib.hid (f.over (below_alloc w4 (.cells #[.func fp4 #[] cp4, .func fq4 #[] cq4, .func fr4 #[] cr4] 67)))
  have X4 := Lib.hid (heap_alloc_new w4 (.cells #[.func fp4 #[] cp4, .func fq4 #[] cq4, .func fr4 #[] cr4] 67))
  replace F1 := Lib.hid (F1.out.over (below_alloc w4 (.cells #[.func fp4 #[] cp4, .func fq4 #[] cq4, .func fr4 #[] cr4] 67)))
  replace X1 := Lib.hid (blockOver (below_alloc w4 (.cells #[.func fp4 #[] cp4, .func fq4 #[] cq4, .func fr4 #[] cr4] 67)) X1.out)
  replace F2 := Lib.hid (F2.out.over (below_alloc w4 (.cells #[.func fp4 #[] cp4, .func fq4 #[] cq4, .func fr4 #[] cr4] 67)))
  replace X2 := Lib.hid (blockOver (below_alloc w4 (.cells #[.func fp4 #[] cp4, .func fq4 #[] cq4, .func fr4 #[] cr4] 67)) X2.out)
  replace F3 := Lib.hid (F3.out.over (below_alloc w4 (.cells #[.func fp4 #[] cp4, .func fq4 #[] cq4, .func fr4 #[] cr4] 67)))
  replace X3 := Lib.hid (blockOver (below_alloc w4 (.cells #[.func fp4 #[] cp4, .func fq4 #[] cq4, .func fr4 #[] cr4] 67)) X3.out)
  clear f bb
  try simp only [agg3]
  go_wp2_with fail
  refine (number_fld .pt rfl rfl _).mono ?_
  rintro e w5 ⟨⟨p5, q5, r5⟩, rfl, f, bb⟩
  obtain ⟨fq5, cq5, rfl⟩ := fld_shape2 f
  obtain ⟨fp5, cp5, fr5, cr5, rfl, rfl⟩ := fld_shape f
  replace F1 := Lib.hid (F1.out.over bb)
  replace X1 := Lib.hid (blockOver bb X1.out)
  replace F2 := Lib.hid (F2.out.over bb)
  replace X2 := Lib.hid (blockOver bb X2.out)
  replace F3 := Lib.hid (F3.out.over bb)
  replace X3 := Lib.hid (blockOver bb X3.out)
  replace F4 := Lib.hid (F4.out.over bb)
  replace X4 := Lib.hid (blockOver bb X4.out)
  replace B1 := Lib.hid (bel2 (bel2 B1.out bb) (below_alloc w5 (.cells #[.func fp5 #[] cp5, .func fq5 #[] cq5, .func fr5 #[] cr5] 67)))
  have F5 := Lib.hid (f.over (below_alloc w5 (.cells #[.func fp5 #[] cp5, .func fq5 #[] cq5, .func fr5 #[] cr5] 67)))
  have X5 := Lib.hid (heap_alloc_new w5 (.cells #[.func fp5 #[] cp5, .func fq5 #[] cq5, .func fr5 #[] cr5] 67))
  replace F1 := Lib.hid (F1.out.over (below_alloc w5 (.cells #[.func fp5 #[] cp5, .func fq5 #[] cq5, .func fr5 #[] cr5] 67)))
  replace X1 := Lib.hid (blockOver (below_alloc w5 (.cells #[.func fp5 #[] cp5, .func fq5 #[] cq5, .func fr5 #[] cr5] 67)) X1.out)
  replace F2 := Lib.hid (F2.out.over (below_alloc w5 (.cells #[.func fp5 #[] cp5, .func fq5 #[] cq5, .func fr5 #[] cr5] 67)))
  replace X2 := Lib.hid (blockOver (below_alloc w5 (.cells #[.func fp5 #[] cp5, .func fq5 #[] cq5, .func fr5 #[] cr5] 67)) X2.out)
  replace F3 := Lib.hid (F3.out.over (below_alloc w5 (.cells #[.func fp5 #[] cp5, .func fq5 #[] cq5, .func fr5 #[] cr5] 67)))
  replace X3 := Lib.hid (blockOver (below_alloc w5 (.cells #[.func fp5 #[] cp5, .func fq5 #[] cq5, .func fr5 #[] cr5] 67)) X3.out)
  replace F4 := Lib.hid (F4.out.over (below_alloc w5 (.cells #[.func fp5 #[] cp5, .func fq5 #[] cq5, .func fr5 #[] cr5] 67)))
  replace X4 := Lib.hid (blockOver (below_alloc w5 (.cells #[.func fp5 #[] cp5, .func fq5 #[] cq5, .func fr5 #[] cr5] 67)) X4.out)
  clear f bb
  try simp only [agg3]
  go_wp2_with fail
  refine (number_fld .cl rfl rfl _).mono ?_
  rintro e w6 ⟨⟨p6, q6, r6⟩, rfl, f, bb⟩
  obtain ⟨fq6, cq6, rfl⟩ := fld_shape2 f
  obtain ⟨fp6, cp6, fr6, cr6, rfl, rfl⟩ := fld_shape f
  replace F1 := Lib.hid (F1.out.over bb)
  replace X1 := Lib.hid (blockOver bb X1.out)
  replace F2 := Lib.hid (F2.out.over bb)
  replace X2 := Lib.hid (blockOver bb X2.out)
  replace F3 := Lib.hid (F3.out.over bb)
  replace X3 := Lib.hid (blockOver bb X3.out)
  replace F4 := Lib.hid (F4.out.over bb)
  replace X4 := Lib.hid (blockOver bb X4.out)
  replace F5 := Lib.hid (F5.out.over bb)
  replace X5 := Lib.hid (blockOver bb X5.out)
  replace B1 := Lib.hid (bel2 (bel2 B1.out bb) (below_alloc w6 (.cells #[.func fp6 #[] cp6, .func fq6 #[] cq6, .func fr6 #[] cr6] 67)))
  have F6 := Lib.hid (f.over (below_alloc w6 (.cells #[.func fp6 #[] cp6, .func fq6 #[] cq6, .func fr6 #[] cr6] 67)))
  have X6 := Lib.hid (heap_alloc_new w6 (.cells #[.func fp6 #[] cp6, .func fq6 #[] cq6, .func fr6 #[] cr6] 67))
  replace F1 := Lib.hid (F1.out.over (below_alloc w6 (.cells #[.func fp6 #[] cp6, .func fq6 #[] cq6, .func fr6 #[] cr6] 67)))
  replace X1 := Lib.hid (blockOver (below_alloc w6 (.cells #[.func fp6 #[] cp6, .func fq6 #[] cq6, .func fr6 #[] cr6] 67)) X1.out)
  replace F2 := Lib.hid (F2.out.over (below_alloc w6 (.cells #[.func fp6 #[] cp6, .func fq6 #[] cq6, .func fr6 #[] cr6] 67)))
  replace X2 := Lib.hid (blockOver (below_alloc w6 (.cells #[.func fp6 #[] cp6, .func fq6 #[] cq6, .func fr6 #[] cr6] 67)) X2.out)
  replace F3 := Lib.hid (F3.out.over (below_alloc w6 (.cells #[.func fp6 #[] cp6, .func fq6 #[] cq6, .func fr6 #[] cr6] 67)))
  replace X3 := Lib.hid (blockOver (below_alloc w6 (.cells #[.func fp6 #[] cp6, .func fq6 #[] cq6, .func fr6 #[] cr6] 67)) X3.out)
  replace F4 := Lib.hid (F4.out.over (below_alloc w6 (.cells #[.func fp6 #[] cp6, .func fq6 #[] cq6, .func fr6 #[] cr6] 67)))
  replace X4 := Lib.hid (blockOver (below_alloc w6 (.cells #[.func fp6 #[] cp6, .func fq6 #[] cq6, .func fr6 #[] cr6] 67)) X4.out)
  replace F5 := Lib.hid (F5.out.over (below_alloc w6 (.cells #[.func fp6 #[] cp6, .func fq6 #[] cq6, .func fr6 #[] cr6] 67)))
  replace X5 := Lib.hid (blockOver (below_alloc w6 (.cells #[.func fp6 #[] cp6, .func fq6 #[] cq6, .func fr6 #[] cr6] 67)) X5.out)
  clear f bb
  try simp only [agg3]
  go_wp2_with fail
  refine (number_fld .un rfl rfl _).mono ?_
  rintro e w7 ⟨⟨p7, q7, r7⟩, rfl, f, bb⟩
  obtain ⟨fq7, cq7, rfl⟩ := fld_shape2 f
  obtain ⟨fp7, cp7, fr7, cr7, rfl, rfl⟩ := fld_shape f
  replace F1 := Lib.hid (F1.out.over bb)
  replace X1 := Lib.hid (blockOver bb X1.out)
  replace F2 := Lib.hid (F2.out.over bb)
  replace X2 := Lib.hid (blockOver bb X2.out)
  replace F3 := Lib.hid (F3.out.over bb)
  replace X3 := Lib.hid (blockOver bb X3.out)
  replace F4 := Lib.hid (F4.out.over bb)
  replace X4 := Lib.hid (blockOver bb X4.out)
  replace F5 := Lib.hid (F5.out.over bb)
  replace X5 := Lib.hid (blockOver bb X5.out)
  replace F6 := Lib.hid (F6.out.over bb)
  replace X6 := Lib.hid (blockOver bb X6.out)
  replace B1 := Lib.hid (bel2 (bel2 B1.out bb) (below_alloc w7 (.cells #[.func fp7 #[] cp7, .func fq7 #[] cq7, .func fr7 #[] cr7] 67)))
  have F7 := Lib.hid (f.over (below_alloc w7 (.cells #[.func fp7 #[] cp7, .func fq7 #[] cq7, .func fr7 #[] cr7] 67)))
  have X7 := Lib.hid (heap_alloc_new w7 (.cells #[.func fp7 #[] cp7, .func fq7 #[] cq7, .func fr7 #[] cr7] 67))
  replace F1 := Lib.hid (F1.out.over (below_alloc w7 (.cells #[.func fp7 #[] cp7, .func fq7 #[] cq7, .func fr7 #[] cr7] 67)))
  replace X1 := Lib.hid (blockOver (below_alloc w7 (.cells #[.func fp7 #[] cp7, .func fq7 #[] cq7, .func fr7 #[] cr7] 67)) X1.out)
  replace F2 := Lib.hid (F2.out.over (below_alloc w7 (.cells #[.func fp7 #[] cp7, .func fq7 #[] cq7, .func fr7 #[] cr7] 67)))
  replace X2 := Lib.hid (blockOver (below_alloc w7 (.cells #[.func fp7 #[] cp7, .func fq7 #[] cq7, .func fr7 #[] cr7] 67)) X2.out)
  replace F3 := Lib.hid (F3.out.over (below_alloc w7 (.cells #[.func fp7 #[] cp7, .func fq7 #[] cq7, .func fr7 #[] cr7] 67)))
  replace X3 := Lib.hid (blockOver (below_alloc w7 (.cells #[.func fp7 #[] cp7, .func fq7 #[] cq7, .func fr7 #[] cr7] 67)) X3.out)
  replace F4 := Lib.hid (F4.out.over (below_alloc w7 (.cells #[.func fp7 #[] cp7, .func fq7 #[] cq7, .func fr7 #[] cr7] 67)))
  replace X4 := Lib.hid (blockOver (below_alloc w7 (.cells #[.func fp7 #[] cp7, .func fq7 #[] cq7, .func fr7 #[] cr7] 67)) X4.out)
  replace F5 := Lib.hid (F5.out.over (below_alloc w7 (.cells #[.func fp7 #[] cp7, .func fq7 #[] cq7, .func fr7 #[] cr7] 67)))
  replace X5 := Lib.hid (blockOver (below_alloc w7 (.cells #[.func fp7 #[] cp7, .func fq7 #[] cq7, .func fr7 #[] cr7] 67)) X5.out)
  replace F6 := Lib.hid (F6.out.over (below_alloc w7 (.cells #[.func fp7 #[] cp7, .func fq7 #[] cq7, .func fr7 #[] cr7] 67)))
  replace X6 := Lib.hid (blockOver (below_alloc w7 (.cells #[.func fp7 #[] cp7, .func fq7 #[] cq7, .func fr7 #[] cr7] 67)) X6.out)
  clear f bb
  try simp only [agg3]
  obtain ⟨c10, c11, c12⟩ := cells3 X1.out
  have HN := Lib.hid (fls_new (W := (w7.alloc (.cells #[.func fp7 #[] cp7, .func fq7 #[] cq7, .func fr7 #[] cr7] 67))) (vs := [(.func fp1 #[] cp1, .func fq1 #[] cq1, .func fr1 #[] cr1)]) (l := [.st]) (w7.heap.size + 1) (by simp) 1 rfl (by decide) ⟨F1.out, trivial⟩ #[.func fp1 #[] cp1, .func fq1 #[] cq1, .func fr1 #[] cr1] rfl)
  have HB := Lib.hid (bel2 B1.out (below_alloc (w7.alloc (.cells #[.func fp7 #[] cp7, .func fq7 #[] cq7, .func fr7 #[] cr7] 67)) (.cells #[.func fp1 #[] cp1, .func fq1 #[] cq1, .func fr1 #[] cr1] 67)))
  clear F1 X1 F2 X2 F3 X3 F4 X4 F5 X5 F6 X6 F7 X7 B1
  go_wp2
  go_ret2
  exact ⟨_, _, _, rfl, HN.out, HB.out⟩
set_option maxHeartbeats 8000000 in
theorem own8 (w : World) : Calls Tryz.prog 23 #[.int .i64 8] w (Own (some [.pt, .cl, .un]) w) := by
  go_enter Tryz.func23, Tryz.ntmps23
  go_wp2_with fail
  refine (number_fld .st rfl rfl _).mono ?_
  rintro e w1 ⟨⟨p1, q1, r1⟩, rfl, f, bb⟩
  obtain ⟨fq1, cq1, rfl⟩ := fld_shape2 f
  obtain ⟨fp1, cp1, fr1, cr1, rfl, rfl⟩ := fld_shape f
  have B1 := Lib.hid (bel2 bb (below_alloc w1 (.cells #[.func fp1 #[] cp1, .func fq1 #[] cq1, .func fr1 #[] cr1] 67)))
  have F1 := Lib.hid (f.over (below_alloc w1 (.cells #[.func fp1 #[] cp1, .func fq1 #[] cq1, .func fr1 #[] cr1] 67)))
  have X1 := Lib.hid (heap_alloc_new w1 (.cells #[.func fp1 #[] cp1, .func fq1 #[] cq1, .func fr1 #[] cr1] 67))
  clear f bb
  try simp only [agg3]
  go_wp2_with fail
  refine (text_fld .lg rfl _).mono ?_
  rintro e w2 ⟨⟨p2, q2, r2⟩, rfl, f, bb⟩
  obtain ⟨fq2, cq2, rfl⟩ := fld_shape2 f
  obtain ⟨fp2, cp2, fr2, cr2, rfl, rfl⟩ := fld_shape f
  replace F1 := Lib.hid (F1.out.over bb)
  replace X1 := Lib.hid (blockOver bb X1.out)
  replace B1 := Lib.hid (bel2 (bel2 B1.out bb) (below_alloc w2 (.cells #[.func fp2 #[] cp2, .func fq2 #[] cq2, .func fr2 #[] cr2] 67)))
  have F2 := Lib.hid (f.over (below_alloc w2 (.cells #[.func fp2 #[] cp2, .func fq2 #[] cq2, .func fr2 #[] cr2] 67)))
  have X2 := Lib.hid (heap_alloc_new w2 (.cells #[.func fp2 #[] cp2, .func fq2 #[] cq2, .func fr2 #[] cr2] 67))
  replace F1 := Lib.hid (F1.out.over (below_alloc w2 (.cells #[.func fp2 #[] cp2, .func fq2 #[] cq2, .func fr2 #[] cr2] 67)))
  replace X1 := Lib.hid (blockOver (below_alloc w2 (.cells #[.func fp2 #[] cp2, .func fq2 #[] cq2, .func fr2 #[] cr2] 67)) X1.out)
  clear f bb
  try simp only [agg3]
  go_wp2_with fail
  refine (label_fld _).mono ?_
  rintro e w3 ⟨⟨p3, q3, r3⟩, rfl, f, bb⟩
  obtain ⟨fq3, cq3, rfl⟩ := fld_shape2 f
  obtain ⟨fp3, cp3, fr3, cr3, rfl, rfl⟩ := fld_shape f
  replace F1 := Lib.hid (F1.out.over bb)
  replace X1 := Lib.hid (blockOver bb X1.out)
  replace F2 := Lib.hid (F2.out.over bb)
  replace X2 := Lib.hid (blockOver bb X2.out)
  replace B1 := Lib.hid (bel2 (bel2 B1.out bb) (below_alloc w3 (.cells #[.func fp3 #[] cp3, .func fq3 #[] cq3, .func fr3 #[] cr3] 67)))
  have F3 := Lib.hid (f.over (below_alloc w3 (.cells #[.func fp3 #[] cp3, .func fq3 #[] cq3, .func fr3 #[] cr3] 67)))
  have X3 := Lib.hid (heap_alloc_new w3 (.cells #[.func fp3 #[] cp3, .func fq3 #[] cq3, .func fr3 #[] cr3] 67))
  replace F1 := Lib.hid (F1.out.over (below_alloc w3 (.cells #[.func fp3 #[] cp3, .func fq3 #[] cq3, .func fr3 #[] cr3] 67)))
  replace X1 := Lib.hid (blockOver (below_alloc w3 (.cells #[.func fp3 #[] cp3, .func fq3 #[] cq3, .func fr3 #[] cr3] 67)) X1.out)
  replace F2 := Lib.hid (F2.out.over (below_alloc w3 (.cells #[.func fp3 #[] cp3, .func fq3 #[] cq3, .func fr3 #[] cr3] 67)))
  replace X2 := Lib.hid (blockOver (below_alloc w3 (.cells #[.func fp3 #[] cp3, .func fq3 #[] cq3, .func fr3 #[] cr3] 67)) X2.out)
  clear f bb
  try simp only [agg3]
  go_wp2_with fail
  refine (text_fld .nm rfl _).mono ?_
  rintro e w4 ⟨⟨p4, q4, r4⟩, rfl, f, bb⟩
  obtain ⟨fq4, cq4, rfl⟩ := fld_shape2 f
  obtain ⟨fp4, cp4, fr4, cr4, rfl, rfl⟩ := fld_shape f
  replace F1 := Lib.hid (F1.out.over bb)
  replace X1 := Lib.hid (blockOver bb X1.out)
  replace F2 := Lib.hid (F2.out.over bb)
  replace X2 := Lib.hid (blockOver bb X2.out)
  replace F3 := Lib.hid (F3.out.over bb)
  replace X3 := Lib.hid (blockOver bb X3.out)
  replace B1 := Lib.hid (bel2 (bel2 B1.out bb) (below_alloc w4 (.cells #[.func fp4 #[] cp4, .func fq4 #[] cq4, .func fr4 #[] cr4] 67)))
  have F4 := Lib.hid (f.over (below_alloc w4 (.cells #[.func fp4 #[] cp4, .func fq4 #[] cq4, .func fr4 #[] cr4] 67)))
  have X4 := Lib.hid (heap_alloc_new w4 (.cells #[.func fp4 #[] cp4, .func fq4 #[] cq4, .func fr4 #[] cr4] 67))
  replace F1 := Lib.hid (F1.out.over (below_alloc w4 (.cells #[.func fp4 #[] cp4, .func fq4 #[] cq4, .func fr4 #[] cr4] 67)))
  replace X1 := Lib.hid (blockOver (below_alloc w4 (.cells #[.func fp4 #[] cp4, .func fq4 #[] cq4, .func fr4 #[] cr4] 67)) X1.out)
  replace F2 := Lib.hid (F2.out.over (below_alloc w4 (.cells #[.func fp4 #[] cp4, .func fq4 #[] cq4, .func fr4 #[] cr4] 67)))
  replace X2 := Lib.hid (blockOver (below_alloc w4 (.cells #[.func fp4 #[] cp4, .func fq4 #[] cq4, .func fr4 #[] cr4] 67)) X2.out)
  replace F3 := Lib.hid (F3.out.over (below_alloc w4 (.cells #[.func fp4 #[] cp4, .func fq4 #[] cq4, .func fr4 #[] cr4] 67)))
  replace X3 := Lib.hid (blockOver (below_alloc w4 (.cells #[.func fp4 #[] cp4, .func fq4 #[] cq4, .func fr4 #[] cr4] 67)) X3.out)
  clear f bb
  try simp only [agg3]
  go_wp2_with fail
  refine (number_fld .pt rfl rfl _).mono ?_
  rintro e w5 ⟨⟨p5, q5, r5⟩, rfl, f, bb⟩
  obtain ⟨fq5, cq5, rfl⟩ := fld_shape2 f
  obtain ⟨fp5, cp5, fr5, cr5, rfl, rfl⟩ := fld_shape f
  replace F1 := Lib.hid (F1.out.over bb)
  replace X1 := Lib.hid (blockOver bb X1.out)
  replace F2 := Lib.hid (F2.out.over bb)
  replace X2 := Lib.hid (blockOver bb X2.out)
  replace F3 := Lib.hid (F3.out.over bb)
  replace X3 := Lib.hid (blockOver bb X3.out)
  replace F4 := Lib.hid (F4.out.over bb)
  replace X4 := Lib.hid (blockOver bb X4.out)
  replace B1 := Lib.hid (bel2 (bel2 B1.out bb) (below_alloc w5 (.cells #[.func fp5 #[] cp5, .func fq5 #[] cq5, .func fr5 #[] cr5] 67)))
  have F5 := Lib.hid (f.over (below_alloc w5 (.cells #[.func fp5 #[] cp5, .func fq5 #[] cq5, .func fr5 #[] cr5] 67)))
  have X5 := Lib.hid (heap_alloc_new w5 (.cells #[.func fp5 #[] cp5, .func fq5 #[] cq5, .func fr5 #[] cr5] 67))
  replace F1 := Lib.hid (F1.out.over (below_alloc w5 (.cells #[.func fp5 #[] cp5, .func fq5 #[] cq5, .func fr5 #[] cr5] 67)))
  replace X1 := Lib.hid (blockOver (below_alloc w5 (.cells #[.func fp5 #[] cp5, .func fq5 #[] cq5, .func fr5 #[] cr5] 67)) X1.out)
  replace F2 := Lib.hid (F2.out.over (below_alloc w5 (.cells #[.func fp5 #[] cp5, .func fq5 #[] cq5, .func fr5 #[] cr5] 67)))
  replace X2 := Lib.hid (blockOver (below_alloc w5 (.cells #[.func fp5 #[] cp5, .func fq5 #[] cq5, .func fr5 #[] cr5] 67)) X2.out)
  replace F3 := Lib.hid (F3.out.over (below_alloc w5 (.cells #[.func fp5 #[] cp5, .func fq5 #[] cq5, .func fr5 #[] cr5] 67)))
  replace X3 := Lib.hid (blockOver (below_alloc w5 (.cells #[.func fp5 #[] cp5, .func fq5 #[] cq5, .func fr5 #[] cr5] 67)) X3.out)
  replace F4 := Lib.hid (F4.out.over (below_alloc w5 (.cells #[.func fp5 #[] cp5, .func fq5 #[] cq5, .func fr5 #[] cr5] 67)))
  replace X4 := Lib.hid (blockOver (below_alloc w5 (.cells #[.func fp5 #[] cp5, .func fq5 #[] cq5, .func fr5 #[] cr5] 67)) X4.out)
  clear f bb
  try simp only [agg3]
  go_wp2_with fail
  refine (number_fld .cl rfl rfl _).mono ?_
  rintro e w6 ⟨⟨p6, q6, r6⟩, rfl, f, bb⟩
  obtain ⟨fq6, cq6, rfl⟩ := fld_shape2 f
  obtain ⟨fp6, cp6, fr6, cr6, rfl, rfl⟩ := fld_shape f
  replace F1 := Lib.hid (F1.out.over bb)
  replace X1 := Lib.hid (blockOver bb X1.out)
  replace F2 := Lib.hid (F2.out.over bb)
  replace X2 := Lib.hid (blockOver bb X2.out)
  replace F3 := Lib.hid (F3.out.over bb)
  replace X3 := Lib.hid (blockOver bb X3.out)
  replace F4 := Lib.hid (F4.out.over bb)
  replace X4 := Lib.hid (blockOver bb X4.out)
  replace F5 := Lib.hid (F5.out.over bb)
  replace X5 := Lib.hid (blockOver bb X5.out)
  replace B1 := Lib.hid (bel2 (bel2 B1.out bb) (below_alloc w6 (.cells #[.func fp6 #[] cp6, .func fq6 #[] cq6, .func fr6 #[] cr6] 67)))
  have F6 := Lib.hid (f.over (below_alloc w6 (.cells #[.func fp6 #[] cp6, .func fq6 #[] cq6, .func fr6 #[] cr6] 67)))
  have X6 := Lib.hid (heap_alloc_new w6 (.cells #[.func fp6 #[] cp6, .func fq6 #[] cq6, .func fr6 #[] cr6] 67))
  replace F1 := Lib.hid (F1.out.over (below_alloc w6 (.cells #[.func fp6 #[] cp6, .func fq6 #[] cq6, .func fr6 #[] cr6] 67)))
  replace X1 := Lib.hid (blockOver (below_alloc w6 (.cells #[.func fp6 #[] cp6, .func fq6 #[] cq6, .func fr6 #[] cr6] 67)) X1.out)
  replace F2 := Lib.hid (F2.out.over (below_alloc w6 (.cells #[.func fp6 #[] cp6, .func fq6 #[] cq6, .func fr6 #[] cr6] 67)))
  replace X2 := Lib.hid (blockOver (below_alloc w6 (.cells #[.func fp6 #[] cp6, .func fq6 #[] cq6, .func fr6 #[] cr6] 67)) X2.out)
  replace F3 := Lib.hid (F3.out.over (below_alloc w6 (.cells #[.func fp6 #[] cp6, .func fq6 #[] cq6, .func fr6 #[] cr6] 67)))
  replace X3 := Lib.hid (blockOver (below_alloc w6 (.cells #[.func fp6 #[] cp6, .func fq6 #[] cq6, .func fr6 #[] cr6] 67)) X3.out)
  replace F4 := Lib.hid (F4.out.over (below_alloc w6 (.cells #[.func fp6 #[] cp6, .func fq6 #[] cq6, .func fr6 #[] cr6] 67)))
  replace X4 := Lib.hid (blockOver (below_alloc w6 (.cells #[.func fp6 #[] cp6, .func fq6 #[] cq6, .func fr6 #[] cr6] 67)) X4.out)
  replace F5 := Lib.hid (F5.out.over (below_alloc w6 (.cells #[.func fp6 #[] cp6, .func fq6 #[] cq6, .func fr6 #[] cr6] 67)))
  replace X5 := Lib.hid (blockOver (below_alloc w6 (.cells #[.func fp6 #[] cp6, .func fq6 #[] cq6, .func fr6 #[] cr6] 67)) X5.out)
  clear f bb
  try simp only [agg3]
  go_wp2_with fail
  refine (number_fld .un rfl rfl _).mono ?_
  rintro e w7 ⟨⟨p7, q7, r7⟩, rfl, f, bb⟩
  obtain ⟨fq7, cq7, rfl⟩ := fld_shape2 f
  obtain ⟨fp7, cp7, fr7, cr7, rfl, rfl⟩ := fld_shape f
  replace F1 := Lib.hid (F1.out.over bb)
  replace X1 := Lib.hid (blockOver bb X1.out)
  replace F2 := Lib.hid (F2.out.over bb)
  replace X2 := Lib.hid (blockOver bb X2.out)
  replace F3 := Lib.hid (F3.out.over bb)
  replace X3 := Lib.hid (blockOver bb X3.out)
  replace F4 := Lib.hid (F4.out.over bb)
  replace X4 := Lib.hid (blockOver bb X4.out)
  replace F5 := Lib.hid (F5.out.over bb)
  replace X5 := Lib.hid (blockOver bb X5.out)
  replace F6 := Lib.hid (F6.out.over bb)
  replace X6 := Lib.hid (blockOver bb X6.out)
  replace B1 := Lib.hid (bel2 (bel2 B1.out bb) (below_alloc w7 (.cells #[.func fp7 #[] cp7, .func fq7 #[] cq7, .func fr7 #[] cr7] 67)))
  have F7 := Lib.hid (f.over (below_alloc w7 (.cells #[.func fp7 #[] cp7, .func fq7 #[] cq7, .func fr7 #[] cr7] 67)))
  have X7 := Lib.hid (heap_alloc_new w7 (.cells #[.func fp7 #[] cp7, .func fq7 #[] cq7, .func fr7 #[] cr7] 67))
  replace F1 := Lib.hid (F1.out.over (below_alloc w7 (.cells #[.func fp7 #[] cp7, .func fq7 #[] cq7, .func fr7 #[] cr7] 67)))
  replace X1 := Lib.hid (blockOver (below_alloc w7 (.cells #[.func fp7 #[] cp7, .func fq7 #[] cq7, .func fr7 #[] cr7] 67)) X1.out)
  replace F2 := Lib.hid (F2.out.over (below_alloc w7 (.cells #[.func fp7 #[] cp7, .func fq7 #[] cq7, .func fr7 #[] cr7] 67)))
  replace X2 := Lib.hid (blockOver (below_alloc w7 (.cells #[.func fp7 #[] cp7, .func fq7 #[] cq7, .func fr7 #[] cr7] 67)) X2.out)
  replace F3 := Lib.hid (F3.out.over (below_alloc w7 (.cells #[.func fp7 #[] cp7, .func fq7 #[] cq7, .func fr7 #[] cr7] 67)))
  replace X3 := Lib.hid (blockOver (below_alloc w7 (.cells #[.func fp7 #[] cp7, .func fq7 #[] cq7, .func fr7 #[] cr7] 67)) X3.out)
  replace F4 := Lib.hid (F4.out.over (below_alloc w7 (.cells #[.func fp7 #[] cp7, .func fq7 #[] cq7, .func fr7 #[] cr7] 67)))
  replace X4 := Lib.hid (blockOver (below_alloc w7 (.cells #[.func fp7 #[] cp7, .func fq7 #[] cq7, .func fr7 #[] cr7] 67)) X4.out)
  replace F5 := Lib.hid (F5.out.over (below_alloc w7 (.cells #[.func fp7 #[] cp7, .func fq7 #[] cq7, .func fr7 #[] cr7] 67)))
  replace X5 := Lib.hid (blockOver (below_alloc w7 (.cells #[.func fp7 #[] cp7, .func fq7 #[] cq7, .func fr7 #[] cr7] 67)) X5.out)
  replace F6 := Lib.hid (F6.out.over (below_alloc w7 (.cells #[.func fp7 #[] cp7, .func fq7 #[] cq7, .func fr7 #[] cr7] 67)))
  replace X6 := Lib.hid (blockOver (below_alloc w7 (.cells #[.func fp7 #[] cp7, .func fq7 #[] cq7, .func fr7 #[] cr7] 67)) X6.out)
  clear f bb
  try simp only [agg3]
  obtain ⟨c50, c51, c52⟩ := cells3 X5.out
  obtain ⟨c60, c61, c62⟩ := cells3 X6.out
  obtain ⟨c70, c71, c72⟩ := cells3 X7.out
  have HN := Lib.hid (fls_new (W := (w7.alloc (.cells #[.func fp7 #[] cp7, .func fq7 #[] cq7, .func fr7 #[] cr7] 67))) (vs := [(.func fp5 #[] cp5, .func fq5 #[] cq5, .func fr5 #[] cr5), (.func fp6 #[] cp6, .func fq6 #[] cq6, .func fr6 #[] cr6), (.func fp7 #[] cp7, .func fq7 #[] cq7, .func fr7 #[] cr7)]) (l := [.pt, .cl, .un]) (w7.heap.size + 1) (by simp) 3 rfl (by decide) ⟨F5.out, F6.out, F7.out, trivial⟩ #[.func fp5 #[] cp5, .func fq5 #[] cq5, .func fr5 #[] cr5, .func fp6 #[] cp6, .func fq6 #[] cq6, .func fr6 #[] cr6, .func fp7 #[] cp7, .func fq7 #[] cq7, .func fr7 #[] cr7] rfl)
  have HB := Lib.hid (bel2 B1.out (below_alloc (w7.alloc (.cells #[.func fp7 #[] cp7, .func fq7 #[] cq7, .func fr7 #[] cr7] 67)) (.cells #[.func fp5 #[] cp5, .func fq5 #[] cq5, .func fr5 #[] cr5, .func fp6 #[] cp6, .func fq6 #[] cq6, .func fr6 #[] cr6, .func fp7 #[] cp7, .func fq7 #[] cq7, .func fr7 #[] cr7] 67)))
  clear F1 X1 F2 X2 F3 X3 F4 X4 F5 X5 F6 X6 F7 X7 B1
  go_wp2
  go_ret2
  exact ⟨_, _, _, rfl, HN.out, HB.out⟩
set_option maxHeartbeats 8000000 in
theorem own9 (w : World) : Calls Tryz.prog 23 #[.int .i64 9] w (Own (some [.pt, .un]) w) := by
  go_enter Tryz.func23, Tryz.ntmps23
  go_wp2_with fail
  refine (number_fld .st rfl rfl _).mono ?_
  rintro e w1 ⟨⟨p1, q1, r1⟩, rfl, f, bb⟩
  obtain ⟨fq1, cq1, rfl⟩ := fld_shape2 f
  obtain ⟨fp1, cp1, fr1, cr1, rfl, rfl⟩ := fld_shape f
  have B1 := Lib.hid (bel2 bb (below_alloc w1 (.cells #[.func fp1 #[] cp1, .func fq1 #[] cq1, .func fr1 #[] cr1] 67)))
  have F1 := Lib.hid (f.over (below_alloc w1 (.cells #[.func fp1 #[] cp1, .func fq1 #[] cq1, .func fr1 #[] cr1] 67)))
  have X1 := Lib.hid (heap_alloc_new w1 (.cells #[.func fp1 #[] cp1, .func fq1 #[] cq1, .func fr1 #[] cr1] 67))
  clear f bb
  try simp only [agg3]
  go_wp2_with fail
  refine (text_fld .lg rfl _).mono ?_
  rintro e w2 ⟨⟨p2, q2, r2⟩, rfl, f, bb⟩
  obtain ⟨fq2, cq2, rfl⟩ := fld_shape2 f
  obtain ⟨fp2, cp2, fr2, cr2, rfl, rfl⟩ := fld_shape f
  replace F1 := Lib.hid (F1.out.over bb)
  replace X1 := Lib.hid (blockOver bb X1.out)
  replace B1 := Lib.hid (bel2 (bel2 B1.out bb) (below_alloc w2 (.cells #[.func fp2 #[] cp2, .func fq2 #[] cq2, .func fr2 #[] cr2] 67)))
  have F2 := Lib.hid (f.over (below_alloc w2 (.cells #[.func fp2 #[] cp2, .func fq2 #[] cq2, .func fr2 #[] cr2] 67)))
  have X2 := Lib.hid (heap_alloc_new w2 (.cells #[.func fp2 #[] cp2, .func fq2 #[] cq2, .func fr2 #[] cr2] 67))
  replace F1 := Lib.hid (F1.out.over (below_alloc w2 (.cells #[.func fp2 #[] cp2, .func fq2 #[] cq2, .func fr2 #[] cr2] 67)))
  replace X1 := Lib.hid (blockOver (below_alloc w2 (.cells #[.func fp2 #[] cp2, .func fq2 #[] cq2, .func fr2 #[] cr2] 67)) X1.out)
  clear f bb
  try simp only [agg3]
  go_wp2_with fail
  refine (label_fld _).mono ?_
  rintro e w3 ⟨⟨p3, q3, r3⟩, rfl, f, bb⟩
  obtain ⟨fq3, cq3, rfl⟩ := fld_shape2 f
  obtain ⟨fp3, cp3, fr3, cr3, rfl, rfl⟩ := fld_shape f
  replace F1 := Lib.hid (F1.out.over bb)
  replace X1 := Lib.hid (blockOver bb X1.out)
  replace F2 := Lib.hid (F2.out.over bb)
  replace X2 := Lib.hid (blockOver bb X2.out)
  replace B1 := Lib.hid (bel2 (bel2 B1.out bb) (below_alloc w3 (.cells #[.func fp3 #[] cp3, .func fq3 #[] cq3, .func fr3 #[] cr3] 67)))
  have F3 := Lib.hid (f.over (below_alloc w3 (.cells #[.func fp3 #[] cp3, .func fq3 #[] cq3, .func fr3 #[] cr3] 67)))
  have X3 := Lib.hid (heap_alloc_new w3 (.cells #[.func fp3 #[] cp3, .func fq3 #[] cq3, .func fr3 #[] cr3] 67))
  replace F1 := Lib.hid (F1.out.over (below_alloc w3 (.cells #[.func fp3 #[] cp3, .func fq3 #[] cq3, .func fr3 #[] cr3] 67)))
  replace X1 := Lib.hid (blockOver (below_alloc w3 (.cells #[.func fp3 #[] cp3, .func fq3 #[] cq3, .func fr3 #[] cr3] 67)) X1.out)
  replace F2 := Lib.hid (F2.out.over (below_alloc w3 (.cells #[.func fp3 #[] cp3, .func fq3 #[] cq3, .func fr3 #[] cr3] 67)))
  replace X2 := Lib.hid (blockOver (below_alloc w3 (.cells #[.func fp3 #[] cp3, .func fq3 #[] cq3, .func fr3 #[] cr3] 67)) X2.out)
  clear f bb
  try simp only [agg3]
  go_wp2_with fail
  refine (text_fld .nm rfl _).mono ?_
  rintro e w4 ⟨⟨p4, q4, r4⟩, rfl, f, bb⟩
  obtain ⟨fq4, cq4, rfl⟩ := fld_shape2 f
  obtain ⟨fp4, cp4, fr4, cr4, rfl, rfl⟩ := fld_shape f
  replace F1 := Lib.hid (F1.out.over bb)
  replace X1 := Lib.hid (blockOver bb X1.out)
  replace F2 := Lib.hid (F2.out.over bb)
  replace X2 := Lib.hid (blockOver bb X2.out)
  replace F3 := Lib.hid (F3.out.over bb)
  replace X3 := Lib.hid (blockOver bb X3.out)
  replace B1 := Lib.hid (bel2 (bel2 B1.out bb) (below_alloc w4 (.cells #[.func fp4 #[] cp4, .func fq4 #[] cq4, .func fr4 #[] cr4] 67)))
  have F4 := Lib.hid (f.over (below_alloc w4 (.cells #[.func fp4 #[] cp4, .func fq4 #[] cq4, .func fr4 #[] cr4] 67)))
  have X4 := Lib.hid (heap_alloc_new w4 (.cells #[.func fp4 #[] cp4, .func fq4 #[] cq4, .func fr4 #[] cr4] 67))
  replace F1 := Lib.hid (F1.out.over (below_alloc w4 (.cells #[.func fp4 #[] cp4, .func fq4 #[] cq4, .func fr4 #[] cr4] 67)))
  replace X1 := Lib.hid (blockOver (below_alloc w4 (.cells #[.func fp4 #[] cp4, .func fq4 #[] cq4, .func fr4 #[] cr4] 67)) X1.out)
  replace F2 := Lib.hid (F2.out.over (below_alloc w4 (.cells #[.func fp4 #[] cp4, .func fq4 #[] cq4, .func fr4 #[] cr4] 67)))
  replace X2 := Lib.hid (blockOver (below_alloc w4 (.cells #[.func fp4 #[] cp4, .func fq4 #[] cq4, .func fr4 #[] cr4] 67)) X2.out)
  replace F3 := Lib.hid (F3.out.over (below_alloc w4 (.cells #[.func fp4 #[] cp4, .func fq4 #[] cq4, .func fr4 #[] cr4] 67)))
  replace X3 := Lib.hid (blockOver (below_alloc w4 (.cells #[.func fp4 #[] cp4, .func fq4 #[] cq4, .func fr4 #[] cr4] 67)) X3.out)
  clear f bb
  try simp only [agg3]
  go_wp2_with fail
  refine (number_fld .pt rfl rfl _).mono ?_
  rintro e w5 ⟨⟨p5, q5, r5⟩, rfl, f, bb⟩
  obtain ⟨fq5, cq5, rfl⟩ := fld_shape2 f
  obtain ⟨fp5, cp5, fr5, cr5, rfl, rfl⟩ := fld_shape f
  replace F1 := Lib.hid (F1.out.over bb)
  replace X1 := Lib.hid (blockOver bb X1.out)
  replace F2 := Lib.hid (F2.out.over bb)
  replace X2 := Lib.hid (blockOver bb X2.out)
  replace F3 := Lib.hid (F3.out.over bb)
  replace X3 := Lib.hid (blockOver bb X3.out)
  replace F4 := Lib.hid (F4.out.over bb)
  replace X4 := Lib.hid (blockOver bb X4.out)
  replace B1 := Lib.hid (bel2 (bel2 B1.out bb) (below_alloc w5 (.cells #[.func fp5 #[] cp5, .func fq5 #[] cq5, .func fr5 #[] cr5] 67)))
  have F5 := Lib.hid (f.over (below_alloc w5 (.cells #[.func fp5 #[] cp5, .func fq5 #[] cq5, .func fr5 #[] cr5] 67)))
  have X5 := Lib.hid (heap_alloc_new w5 (.cells #[.func fp5 #[] cp5, .func fq5 #[] cq5, .func fr5 #[] cr5] 67))
  replace F1 := Lib.hid (F1.out.over (below_alloc w5 (.cells #[.func fp5 #[] cp5, .func fq5 #[] cq5, .func fr5 #[] cr5] 67)))
  replace X1 := Lib.hid (blockOver (below_alloc w5 (.cells #[.func fp5 #[] cp5, .func fq5 #[] cq5, .func fr5 #[] cr5] 67)) X1.out)
  replace F2 := Lib.hid (F2.out.over (below_alloc w5 (.cells #[.func fp5 #[] cp5, .func fq5 #[] cq5, .func fr5 #[] cr5] 67)))
  replace X2 := Lib.hid (blockOver (below_alloc w5 (.cells #[.func fp5 #[] cp5, .func fq5 #[] cq5, .func fr5 #[] cr5] 67)) X2.out)
  replace F3 := Lib.hid (F3.out.over (below_alloc w5 (.cells #[.func fp5 #[] cp5, .func fq5 #[] cq5, .func fr5 #[] cr5] 67)))
  replace X3 := Lib.hid (blockOver (below_alloc w5 (.cells #[.func fp5 #[] cp5, .func fq5 #[] cq5, .func fr5 #[] cr5] 67)) X3.out)
  replace F4 := Lib.hid (F4.out.over (below_alloc w5 (.cells #[.func fp5 #[] cp5, .func fq5 #[] cq5, .func fr5 #[] cr5] 67)))
  replace X4 := Lib.hid (blockOver (below_alloc w5 (.cells #[.func fp5 #[] cp5, .func fq5 #[] cq5, .func fr5 #[] cr5] 67)) X4.out)
  clear f bb
  try simp only [agg3]
  go_wp2_with fail
  refine (number_fld .cl rfl rfl _).mono ?_
  rintro e w6 ⟨⟨p6, q6, r6⟩, rfl, f, bb⟩
  obtain ⟨fq6, cq6, rfl⟩ := fld_shape2 f
  obtain ⟨fp6, cp6, fr6, cr6, rfl, rfl⟩ := fld_shape f
  replace F1 := Lib.hid (F1.out.over bb)
  replace X1 := Lib.hid (blockOver bb X1.out)
  replace F2 := Lib.hid (F2.out.over bb)
  replace X2 := Lib.hid (blockOver bb X2.out)
  replace F3 := Lib.hid (F3.out.over bb)
  replace X3 := Lib.hid (blockOver bb X3.out)
  replace F4 := Lib.hid (F4.out.over bb)
  replace X4 := Lib.hid (blockOver bb X4.out)
  replace F5 := Lib.hid (F5.out.over bb)
  replace X5 := Lib.hid (blockOver bb X5.out)
  replace B1 := Lib.hid (bel2 (bel2 B1.out bb) (below_alloc w6 (.cells #[.func fp6 #[] cp6, .func fq6 #[] cq6, .func fr6 #[] cr6] 67)))
  have F6 := Lib.hid (f.over (below_alloc w6 (.cells #[.func fp6 #[] cp6, .func fq6 #[] cq6, .func fr6 #[] cr6] 67)))
  have X6 := Lib.hid (heap_alloc_new w6 (.cells #[.func fp6 #[] cp6, .func fq6 #[] cq6, .func fr6 #[] cr6] 67))
  replace F1 := Lib.hid (F1.out.over (below_alloc w6 (.cells #[.func fp6 #[] cp6, .func fq6 #[] cq6, .func fr6 #[] cr6] 67)))
  replace X1 := Lib.hid (blockOver (below_alloc w6 (.cells #[.func fp6 #[] cp6, .func fq6 #[] cq6, .func fr6 #[] cr6] 67)) X1.out)
  replace F2 := Lib.hid (F2.out.over (below_alloc w6 (.cells #[.func fp6 #[] cp6, .func fq6 #[] cq6, .func fr6 #[] cr6] 67)))
  replace X2 := Lib.hid (blockOver (below_alloc w6 (.cells #[.func fp6 #[] cp6, .func fq6 #[] cq6, .func fr6 #[] cr6] 67)) X2.out)
  replace F3 := Lib.hid (F3.out.over (below_alloc w6 (.cells #[.func fp6 #[] cp6, .func fq6 #[] cq6, .func fr6 #[] cr6] 67)))
  replace X3 := Lib.hid (blockOver (below_alloc w6 (.cells #[.func fp6 #[] cp6, .func fq6 #[] cq6, .func fr6 #[] cr6] 67)) X3.out)
  replace F4 := Lib.hid (F4.out.over (below_alloc w6 (.cells #[.func fp6 #[] cp6, .func fq6 #[] cq6, .func fr6 #[] cr6] 67)))
  replace X4 := Lib.hid (blockOver (below_alloc w6 (.cells #[.func fp6 #[] cp6, .func fq6 #[] cq6, .func fr6 #[] cr6] 67)) X4.out)
  replace F5 := Lib.hid (F5.out.over (below_alloc w6 (.cells #[.func fp6 #[] cp6, .func fq6 #[] cq6, .func fr6 #[] cr6] 67)))
  replace X5 := Lib.hid (blockOver (below_alloc w6 (.cells #[.func fp6 #[] cp6, .func fq6 #[] cq6, .func fr6 #[] cr6] 67)) X5.out)
  clear f bb
  try simp only [agg3]
  go_wp2_with fail
  refine (number_fld .un rfl rfl _).mono ?_
  rintro e w7 ⟨⟨p7, q7, r7⟩, rfl, f, bb⟩
  obtain ⟨fq7, cq7, rfl⟩ := fld_shape2 f
  obtain ⟨fp7, cp7, fr7, cr7, rfl, rfl⟩ := fld_shape f
  replace F1 := Lib.hid (F1.out.over bb)
  replace X1 := Lib.hid (blockOver bb X1.out)
  replace F2 := Lib.hid (F2.out.over bb)
  replace X2 := Lib.hid (blockOver bb X2.out)
  replace F3 := Lib.hid (F3.out.over bb)
  replace X3 := Lib.hid (blockOver bb X3.out)
  replace F4 := Lib.hid (F4.out.over bb)
  replace X4 := Lib.hid (blockOver bb X4.out)
  replace F5 := Lib.hid (F5.out.over bb)
  replace X5 := Lib.hid (blockOver bb X5.out)
  replace F6 := Lib.hid (F6.out.over bb)
  replace X6 := Lib.hid (blockOver bb X6.out)
  replace B1 := Lib.hid (bel2 (bel2 B1.out bb) (below_alloc w7 (.cells #[.func fp7 #[] cp7, .func fq7 #[] cq7, .func fr7 #[] cr7] 67)))
  have F7 := Lib.hid (f.over (below_alloc w7 (.cells #[.func fp7 #[] cp7, .func fq7 #[] cq7, .func fr7 #[] cr7] 67)))
  have X7 := Lib.hid (heap_alloc_new w7 (.cells #[.func fp7 #[] cp7, .func fq7 #[] cq7, .func fr7 #[] cr7] 67))
  replace F1 := Lib.hid (F1.out.over (below_alloc w7 (.cells #[.func fp7 #[] cp7, .func fq7 #[] cq7, .func fr7 #[] cr7] 67)))
  replace X1 := Lib.hid (blockOver (below_alloc w7 (.cells #[.func fp7 #[] cp7, .func fq7 #[] cq7, .func fr7 #[] cr7] 67)) X1.out)
  replace F2 := Lib.hid (F2.out.over (below_alloc w7 (.cells #[.func fp7 #[] cp7, .func fq7 #[] cq7, .func fr7 #[] cr7] 67)))
  replace X2 := Lib.hid (blockOver (below_alloc w7 (.cells #[.func fp7 #[] cp7, .func fq7 #[] cq7, .func fr7 #[] cr7] 67)) X2.out)
  replace F3 := Lib.hid (F3.out.over (below_alloc w7 (.cells #[.func fp7 #[] cp7, .func fq7 #[] cq7, .func fr7 #[] cr7] 67)))
  replace X3 := Lib.hid (blockOver (below_alloc w7 (.cells #[.func fp7 #[] cp7, .func fq7 #[] cq7, .func fr7 #[] cr7] 67)) X3.out)
  replace F4 := Lib.hid (F4.out.over (below_alloc w7 (.cells #[.func fp7 #[] cp7, .func fq7 #[] cq7, .func fr7 #[] cr7] 67)))
  replace X4 := Lib.hid (blockOver (below_alloc w7 (.cells #[.func fp7 #[] cp7, .func fq7 #[] cq7, .func fr7 #[] cr7] 67)) X4.out)
  replace F5 := Lib.hid (F5.out.over (below_alloc w7 (.cells #[.func fp7 #[] cp7, .func fq7 #[] cq7, .func fr7 #[] cr7] 67)))
  replace X5 := Lib.hid (blockOver (below_alloc w7 (.cells #[.func fp7 #[] cp7, .func fq7 #[] cq7, .func fr7 #[] cr7] 67)) X5.out)
  replace F6 := Lib.hid (F6.out.over (below_alloc w7 (.cells #[.func fp7 #[] cp7, .func fq7 #[] cq7, .func fr7 #[] cr7] 67)))
  replace X6 := Lib.hid (blockOver (below_alloc w7 (.cells #[.func fp7 #[] cp7, .func fq7 #[] cq7, .func fr7 #[] cr7] 67)) X6.out)
  clear f bb
  try simp only [agg3]
  obtain ⟨c50, c51, c52⟩ := cells3 X5.out
  obtain ⟨c70, c71, c72⟩ := cells3 X7.out
  have HN := Lib.hid (fls_new (W := (w7.alloc (.cells #[.func fp7 #[] cp7, .func fq7 #[] cq7, .func fr7 #[] cr7] 67))) (vs := [(.func fp5 #[] cp5, .func fq5 #[] cq5, .func fr5 #[] cr5), (.func fp7 #[] cp7, .func fq7 #[] cq7, .func fr7 #[] cr7)]) (l := [.pt, .un]) (w7.heap.size + 1) (by simp) 2 rfl (by decide) ⟨F5.out, F7.out, trivial⟩ #[.func fp5 #[] cp5, .func fq5 #[] cq5, .func fr5 #[] cr5, .func fp7 #[] cp7, .func fq7 #[] cq7, .func fr7 #[] cr7] rfl)
  have HB := Lib.hid (bel2 B1.out (below_alloc (w7.alloc (.cells #[.func fp7 #[] cp7, .func fq7 #[] cq7, .func fr7 #[] cr7] 67)) (.cells #[.func fp5 #[] cp5, .func fq5 #[] cq5, .func fr5 #[] cr5, .func fp7 #[] cp7, .func fq7 #[] cq7, .func fr7 #[] cr7] 67)))
  clear F1 X1 F2 X2 F3 X3 F4 X4 F5 X5 F6 X6 F7 X7 B1
  go_wp2
  go_ret2
  exact ⟨_, _, _, rfl, HN.out, HB.out⟩
set_option maxHeartbeats 8000000 in
theorem own2 (w : World) : Calls Tryz.prog 23 #[.int .i64 2] w (Own (some [.st, .ed]) w) := by
  go_enter Tryz.func23, Tryz.ntmps23
  go_wp2_with fail
  refine (number_fld .st rfl rfl _).mono ?_
  rintro e w1 ⟨⟨p1, q1, r1⟩, rfl, f, bb⟩
  obtain ⟨fq1, cq1, rfl⟩ := fld_shape2 f
  obtain ⟨fp1, cp1, fr1, cr1, rfl, rfl⟩ := fld_shape f
  have B1 := Lib.hid (bel2 bb (below_alloc w1 (.cells #[.func fp1 #[] cp1, .func fq1 #[] cq1, .func fr1 #[] cr1] 67)))
  have F1 := Lib.hid (f.over (below_alloc w1 (.cells #[.func fp1 #[] cp1, .func fq1 #[] cq1, .func fr1 #[] cr1] 67)))
  have X1 := Lib.hid (heap_alloc_new w1 (.cells #[.func fp1 #[] cp1, .func fq1 #[] cq1, .func fr1 #[] cr1] 67))
  clear f bb
  try simp only [agg3]
  go_wp2_with fail
  refine (text_fld .lg rfl _).mono ?_
  rintro e w2 ⟨⟨p2, q2, r2⟩, rfl, f, bb⟩
  obtain ⟨fq2, cq2, rfl⟩ := fld_shape2 f
  obtain ⟨fp2, cp2, fr2, cr2, rfl, rfl⟩ := fld_shape f
  replace F1 := Lib.hid (F1.out.over bb)
  replace X1 := Lib.hid (blockOver bb X1.out)
  replace B1 := Lib.hid (bel2 (bel2 B1.out bb) (below_alloc w2 (.cells #[.func fp2 #[] cp2, .func fq2 #[] cq2, .func fr2 #[] cr2] 67)))
  have F2 := Lib.hid (f.over (below_alloc w2 (.cells #[.func fp2 #[] cp2, .func fq2 #[] cq2, .func fr2 #[] cr2] 67)))
  have X2 := Lib.hid (heap_alloc_new w2 (.cells #[.func fp2 #[] cp2, .func fq2 #[] cq2, .func fr2 #[] cr2] 67))
  replace F1 := Lib.hid (F1.out.over (below_alloc w2 (.cells #[.func fp2 #[] cp2, .func fq2 #[] cq2, .func fr2 #[] cr2] 67)))
  replace X1 := Lib.hid (blockOver (below_alloc w2 (.cells #[.func fp2 #[] cp2, .func fq2 #[] cq2, .func fr2 #[] cr2] 67)) X1.out)
  clear f bb
  try simp only [agg3]
  go_wp2_with fail
  refine (label_fld _).mono ?_
  rintro e w3 ⟨⟨p3, q3, r3⟩, rfl, f, bb⟩
  obtain ⟨fq3, cq3, rfl⟩ := fld_shape2 f
  obtain ⟨fp3, cp3, fr3, cr3, rfl, rfl⟩ := fld_shape f
  replace F1 := Lib.hid (F1.out.over bb)
  replace X1 := Lib.hid (blockOver bb X1.out)
  replace F2 := Lib.hid (F2.out.over bb)
  replace X2 := Lib.hid (blockOver bb X2.out)
  replace B1 := Lib.hid (bel2 (bel2 B1.out bb) (below_alloc w3 (.cells #[.func fp3 #[] cp3, .func fq3 #[] cq3, .func fr3 #[] cr3] 67)))
  have F3 := Lib.hid (f.over (below_alloc w3 (.cells #[.func fp3 #[] cp3, .func fq3 #[] cq3, .func fr3 #[] cr3] 67)))
  have X3 := Lib.hid (heap_alloc_new w3 (.cells #[.func fp3 #[] cp3, .func fq3 #[] cq3, .func fr3 #[] cr3] 67))
  replace F1 := Lib.hid (F1.out.over (below_alloc w3 (.cells #[.func fp3 #[] cp3, .func fq3 #[] cq3, .func fr3 #[] cr3] 67)))
  replace X1 := Lib.hid (blockOver (below_alloc w3 (.cells #[.func fp3 #[] cp3, .func fq3 #[] cq3, .func fr3 #[] cr3] 67)) X1.out)
  replace F2 := Lib.hid (F2.out.over (below_alloc w3 (.cells #[.func fp3 #[] cp3, .func fq3 #[] cq3, .func fr3 #[] cr3] 67)))
  replace X2 := Lib.hid (blockOver (below_alloc w3 (.cells #[.func fp3 #[] cp3, .func fq3 #[] cq3, .func fr3 #[] cr3] 67)) X2.out)
  clear f bb
  try simp only [agg3]
  go_wp2_with fail
  refine (text_fld .nm rfl _).mono ?_
  rintro e w4 ⟨⟨p4, q4, r4⟩, rfl, f, bb⟩
  obtain ⟨fq4, cq4, rfl⟩ := fld_shape2 f
  obtain ⟨fp4, cp4, fr4, cr4, rfl, rfl⟩ := fld_shape f
  replace F1 := Lib.hid (F1.out.over bb)
  replace X1 := Lib.hid (blockOver bb X1.out)
  replace F2 := Lib.hid (F2.out.over bb)
  replace X2 := Lib.hid (blockOver bb X2.out)
  replace F3 := Lib.hid (F3.out.over bb)
  replace X3 := Lib.hid (blockOver bb X3.out)
  replace B1 := Lib.hid (bel2 (bel2 B1.out bb) (below_alloc w4 (.cells #[.func fp4 #[] cp4, .func fq4 #[] cq4, .func fr4 #[] cr4] 67)))
  have F4 := Lib.hid (f.over (below_alloc w4 (.cells #[.func fp4 #[] cp4, .func fq4 #[] cq4, .func fr4 #[] cr4] 67)))
  have X4 := Lib.hid (heap_alloc_new w4 (.cells #[.func fp4 #[] cp4, .func fq4 #[] cq4, .func fr4 #[] cr4] 67))
  replace F1 := Lib.hid (F1.out.over (below_alloc w4 (.cells #[.func fp4 #[] cp4, .func fq4 #[] cq4, .func fr4 #[] cr4] 67)))
  replace X1 := Lib.hid (blockOver (below_alloc w4 (.cells #[.func fp4 #[] cp4, .func fq4 #[] cq4, .func fr4 #[] cr4] 67)) X1.out)
  replace F2 := Lib.hid (F2.out.over (below_alloc w4 (.cells #[.func fp4 #[] cp4, .func fq4 #[] cq4, .func fr4 #[] cr4] 67)))
  replace X2 := Lib.hid (blockOver (below_alloc w4 (.cells #[.func fp4 #[] cp4, .func fq4 #[] cq4, .func fr4 #[] cr4] 67)) X2.out)
  replace F3 := Lib.hid (F3.out.over (below_alloc w4 (.cells #[.func fp4 #[] cp4, .func fq4 #[] cq4, .func fr4 #[] cr4] 67)))
  replace X3 := Lib.hid (blockOver (below_alloc w4 (.cells #[.func fp4 #[] cp4, .func fq4 #[] cq4, .func fr4 #[] cr4] 67)) X3.out)
  clear f bb
  try simp only [agg3]
  go_wp2_with fail
  refine (number_fld .pt rfl rfl _).mono ?_
  rintro e w5 ⟨⟨p5, q5, r5⟩, rfl, f, bb⟩
  obtain ⟨fq5, cq5, rfl⟩ := fld_shape2 f
  obtain ⟨fp5, cp5, fr5, cr5, rfl, rfl⟩ := fld_shape f
  replace F1 := Lib.hid (F1.out.over bb)
  replace X1 := Lib.hid (blockOver bb X1.out)
  replace F2 := Lib.hid (F2.out.over bb)
  replace X2 := Lib.hid (blockOver bb X2.out)
  replace F3 := Lib.hid (F3.out.over bb)
  replace X3 := Lib.hid (blockOver bb X3.out)
  replace F4 := Lib.hid (F4.out.over bb)
  replace X4 := Lib.hid (blockOver bb X4.out)
  replace B1 := Lib.hid (bel2 (bel2 B1.out bb) (below_alloc w5 (.cells #[.func fp5 #[] cp5, .func fq5 #[] cq5, .func fr5 #[] cr5] 67)))
  have F5 := Lib.hid (f.over (below_alloc w5 (.cells #[.func fp5 #[] cp5, .func fq5 #[] cq5, .func fr5 #[] cr5] 67)))
  have X5 := Lib.hid (heap_alloc_new w5 (.cells #[.func fp5 #[] cp5, .func fq5 #[] cq5, .func fr5 #[] cr5] 67))
  replace F1 := Lib.hid (F1.out.over (below_alloc w5 (.cells #[.func fp5 #[] cp5, .func fq5 #[] cq5, .func fr5 #[] cr5] 67)))
  replace X1 := Lib.hid (blockOver (below_alloc w5 (.cells #[.func fp5 #[] cp5, .func fq5 #[] cq5, .func fr5 #[] cr5] 67)) X1.out)
  replace F2 := Lib.hid (F2.out.over (below_alloc w5 (.cells #[.func fp5 #[] cp5, .func fq5 #[] cq5, .func fr5 #[] cr5] 67)))
  replace X2 := Lib.hid (blockOver (below_alloc w5 (.cells #[.func fp5 #[] cp5, .func fq5 #[] cq5, .func fr5 #[] cr5] 67)) X2.out)
  replace F3 := Lib.hid (F3.out.over (below_alloc w5 (.cells #[.func fp5 #[] cp5, .func fq5 #[] cq5, .func fr5 #[] cr5] 67)))
  replace X3 := Lib.hid (blockOver (below_alloc w5 (.cells #[.func fp5 #[] cp5, .func fq5 #[] cq5, .func fr5 #[] cr5] 67)) X3.out)
  replace F4 := Lib.hid (F4.out.over (below_alloc w5 (.cells #[.func fp5 #[] cp5, .func fq5 #[] cq5, .func fr5 #[] cr5] 67)))
  replace X4 := Lib.hid (blockOver (below_alloc w5 (.cells #[.func fp5 #[] cp5, .func fq5 #[] cq5, .func fr5 #[] cr5] 67)) X4.out)
  clear f bb
  try simp only [agg3]
  go_wp2_with fail
  refine (number_fld .cl rfl rfl _).mono ?_
  rintro e w6 ⟨⟨p6, q6, r6⟩, rfl, f, bb⟩
  obtain ⟨fq6, cq6, rfl⟩ := fld_shape2 f
  obtain ⟨fp6, cp6, fr6, cr6, rfl, rfl⟩ := fld_shape f
  replace F1 := Lib.hid (F1.out.over bb)
  replace X1 := Lib.hid (blockOver bb X1.out)
  replace F2 := Lib.hid (F2.out.over bb)
  replace X2 := Lib.hid (blockOver bb X2.out)
  replace F3 := Lib.hid (F3.out.over bb)
  replace X3 := Lib.hid (blockOver bb X3.out)
  replace F4 := Lib.hid (F4.out.over bb)
  replace X4 := Lib.hid (blockOver bb X4.out)
  replace F5 := Lib.hid (F5.out.over bb)
  replace X5 := Lib.hid (blockOver bb X5.out)
  replace B1 := Lib.hid (bel2 (bel2 B1.out bb) (below_alloc w6 (.cells #[.func fp6 #[] cp6, .func fq6 #[] cq6, .func fr6 #[] cr6] 67)))
  have F6 := Lib.hid (f.over (below_alloc w6 (.cells #[.func fp6 #[] cp6, .func fq6 #[] cq6, .func fr6 #[] cr6] 67)))
  have X6 := Lib.hid (heap_alloc_new w6 (.cells #[.func fp6 #[] cp6, .func fq6 #[] cq6, .func fr6 #[] cr6] 67))
  replace F1 := Lib.hid (F1.out.over (below_alloc w6 (.cells #[.func fp6 #[] cp6, .func fq6 #[] cq6, .func fr6 #[] cr6] 67)))
  replace X1 := Lib.hid (blockOver (below_alloc w6 (.cells #[.func fp6 #[] cp6, .func fq6 #[] cq6, .func fr6 #[] cr6] 67)) X1.out)
  replace F2 := Lib.hid (F2.out.over (below_alloc w6 (.cells #[.func fp6 #[] cp6, .func fq6 #[] cq6, .func fr6 #[] cr6] 67)))
  replace X2 := Lib.hid (blockOver (below_alloc w6 (.cells #[.func fp6 #[] cp6, .func fq6 #[] cq6, .func fr6 #[] cr6] 67)) X2.out)
  replace F3 := Lib.hid (F3.out.over (below_alloc w6 (.cells #[.func fp6 #[] cp6, .func fq6 #[] cq6, .func fr6 #[] cr6] 67)))
  replace X3 := Lib.hid (blockOver (below_alloc w6 (.cells #[.func fp6 #[] cp6, .func fq6 #[] cq6, .func fr6 #[] cr6] 67)) X3.out)
  replace F4 := Lib.hid (F4.out.over (below_alloc w6 (.cells #[.func fp6 #[] cp6, .func fq6 #[] cq6, .func fr6 #[] cr6] 67)))
  replace X4 := Lib.hid (blockOver (below_alloc w6 (.cells #[.func fp6 #[] cp6, .func fq6 #[] cq6, .func fr6 #[] cr6] 67)) X4.out)
  replace F5 := Lib.hid (F5.out.over (below_alloc w6 (.cells #[.func fp6 #[] cp6, .func fq6 #[] cq6, .func fr6 #[] cr6] 67)))
  replace X5 := Lib.hid (blockOver (below_alloc w6 (.cells #[.func fp6 #[] cp6, .func fq6 #[] cq6, .func fr6 #[] cr6] 67)) X5.out)
  clear f bb
  try simp only [agg3]
  go_wp2_with fail
  refine (number_fld .un rfl rfl _).mono ?_
  rintro e w7 ⟨⟨p7, q7, r7⟩, rfl, f, bb⟩
  obtain ⟨fq7, cq7, rfl⟩ := fld_shape2 f
  obtain ⟨fp7, cp7, fr7, cr7, rfl, rfl⟩ := fld_shape f
  replace F1 := Lib.hid (F1.out.over bb)
  replace X1 := Lib.hid (blockOver bb X1.out)
  replace F2 := Lib.hid (F2.out.over bb)
  replace X2 := Lib.hid (blockOver bb X2.out)
  replace F3 := Lib.hid (F3.out.over bb)
  replace X3 := Lib.hid (blockOver bb X3.out)
  replace F4 := Lib.hid (F4.out.over bb)
  replace X4 := Lib.hid (blockOver bb X4.out)
  replace F5 := Lib.hid (F5.out.over bb)
  replace X5 := Lib.hid (blockOver bb X5.out)
  replace F6 := Lib.hid (F6.out.over bb)
  replace X6 := Lib.hid (blockOver bb X6.out)
  replace B1 := Lib.hid (bel2 (bel2 B1.out bb) (below_alloc w7 (.cells #[.func fp7 #[] cp7, .func fq7 #[] cq7, .func fr7 #[] cr7] 67)))
  have F7 := Lib.hid (f.over (below_alloc w7 (.cells #[.func fp7 #[] cp7, .func fq7 #[] cq7, .func fr7 #[] cr7] 67)))
  have X7 := Lib.hid (heap_alloc_new w7 (.cells #[.func fp7 #[] cp7, .func fq7 #[] cq7, .func fr7 #[] cr7] 67))
  replace F1 := Lib.hid (F1.out.over (below_alloc w7 (.cells #[.func fp7 #[] cp7, .func fq7 #[] cq7, .func fr7 #[] cr7] 67)))
  replace X1 := Lib.hid (blockOver (below_alloc w7 (.cells #[.func fp7 #[] cp7, .func fq7 #[] cq7, .func fr7 #[] cr7] 67)) X1.out)
  replace F2 := Lib.hid (F2.out.over (below_alloc w7 (.cells #[.func fp7 #[] cp7, .func fq7 #[] cq7, .func fr7 #[] cr7] 67)))
  replace X2 := Lib.hid (blockOver (below_alloc w7 (.cells #[.func fp7 #[] cp7, .func fq7 #[] cq7, .func fr7 #[] cr7] 67)) X2.out)
  replace F3 := Lib.hid (F3.out.over (below_alloc w7 (.cells #[.func fp7 #[] cp7, .func fq7 #[] cq7, .func fr7 #[] cr7] 67)))
  replace X3 := Lib.hid (blockOver (below_alloc w7 (.cells #[.func fp7 #[] cp7, .func fq7 #[] cq7, .func fr7 #[] cr7] 67)) X3.out)
  replace F4 := Lib.hid (F4.out.over (below_alloc w7 (.cells #[.func fp7 #[] cp7, .func fq7 #[] cq7, .func fr7 #[] cr7] 67)))
  replace X4 := Lib.hid (blockOver (below_alloc w7 (.cells #[.func fp7 #[] cp7, .func fq7 #[] cq7, .func fr7 #[] cr7] 67)) X4.out)
  replace F5 := Lib.hid (F5.out.over (below_alloc w7 (.cells #[.func fp7 #[] cp7, .func fq7 #[] cq7, .func fr7 #[] cr7] 67)))
  replace X5 := Lib.hid (blockOver (below_alloc w7 (.cells #[.func fp7 #[] cp7, .func fq7 #[] cq7, .func fr7 #[] cr7] 67)) X5.out)
  replace F6 := Lib.hid (F6.out.over (below_alloc w7 (.cells #[.func fp7 #[] cp7, .func fq7 #[] cq7, .func fr7 #[] cr7] 67)))
  replace X6 := Lib.hid (blockOver (below_alloc w7 (.cells #[.func fp7 #[] cp7, .func fq7 #[] cq7, .func fr7 #[] cr7] 67)) X6.out)
  clear f bb
  try simp only [agg3]
  go_wp2_with fail
  obtain ⟨c10, c11, c12⟩ := cells3 X1.out
  have bc := Below.refl (w7.alloc (.cells #[.func fp7 #[] cp7, .func fq7 #[] cq7, .func fr7 #[] cr7] 67)).heap.size (w7.alloc (.cells #[.func fp7 #[] cp7, .func fq7 #[] cq7, .func fr7 #[] cr7] 67))
  refine wp_region_held_drew (S := fun w' => Below (w7.alloc (.cells #[.func fp7 #[] cp7, .func fq7 #[] cq7, .func fr7 #[] cr7] 67)).heap.size (w7.alloc (.cells #[.func fp7 #[] cp7, .func fq7 #[] cq7, .func fr7 #[] cr7] 67)) w' ∧ w'.cell? ⟨w1.heap.size, 0, none⟩ = some (.func fp1 #[] cp1) ∧ w'.cell? ⟨w1.heap.size, 1, none⟩ = some (.func fq1 #[] cq1) ∧ w'.cell? ⟨w1.heap.size, 2, none⟩ = some (.func fr1 #[] cr1)) (by kernel_rfl) ?_ (fun h0 => ?_)
  · exact ⟨bc.drew, c10, c11, c12⟩
  refine wpAnyH_take (i := 0) (v := ?_) rfl (by kernel_rfl) (by kernel_rfl) (by kernel_rfl) (fun _ _ _ h => h) (Or.inl ⟨by rfl, ?_⟩) h0 ?_
  rotate_left
  · (intro w hSw; (try dsimp only at hSw); go_simp); all_goals (with_reducible rfl)
  try simp only [List.getElem_toArray, List.getElem_cons_succ, List.getElem_cons_zero, Act.put, List.setIfInBounds_toArray, List.set_cons_zero, List.set_cons_succ]
  refine wpAnyH_ready (rs := [1]) (by kernel_rfl) (by simp) ?_
  refine AllReadyH.cons rfl (fun K hK => ?_) AllReadyH.nil
  go_simp
  refine (number_fld .ed rfl rfl _).mono ?_
  rintro e w8 ⟨⟨p8, q8, r8⟩, rfl, f, bq⟩
  obtain ⟨fq8, cq8, rfl⟩ := fld_shape2 f
  obtain ⟨fp8, cp8, fr8, cr8, rfl, rfl⟩ := fld_shape f
  simp only [agg3]
  go_wp2_with fail
  have bS := And.intro (bel2 h0.1 bq) (And.intro (cellOver bq (h0.2.1)) (And.intro (cellOver bq (h0.2.2.1)) (cellOver bq (h0.2.2.2))))
  have BC := Lib.hid (bel2 h0.1 bq)
  have F8 := Lib.hid f
  clear f bq
  refine hK.out _ _ ?_ (fun h1 => ?_)
  · exact bS
  clear hK K h0 bS
  try simp only [List.getElem_toArray, List.getElem_cons_succ, List.getElem_cons_zero, Act.put, List.setIfInBounds_toArray, List.set_cons_zero, List.set_cons_succ]
  refine wpAnyH_ready (rs := [2]) (by kernel_rfl) (by simp) ?_
  refine AllReadyH.cons rfl (fun K hK => ?_) AllReadyH.nil
  go_simp
  have HN := Lib.hid (fls_new (W := w8) (vs := [(.func fp1 #[] cp1, .func fq1 #[] cq1, .func fr1 #[] cr1), (.func fp8 #[] cp8, .func fq8 #[] cq8, .func fr8 #[] cr8)]) (l := [.st, .ed]) w8.heap.size rfl 2 rfl (by decide) ⟨(F1.out.over BC.out), F8.out, trivial⟩ #[.func fp1 #[] cp1, .func fq1 #[] cq1, .func fr1 #[] cr1, .func fp8 #[] cp8, .func fq8 #[] cq8, .func fr8 #[] cr8] rfl)
  have HB := Lib.hid (bel2 (bel2 B1.out BC.out) (below_alloc w8 (.cells #[.func fp1 #[] cp1, .func fq1 #[] cq1, .func fr1 #[] cr1, .func fp8 #[] cp8, .func fq8 #[] cq8, .func fr8 #[] cr8] 67)))
  have bS := And.intro (bel2 h1.1 (below_alloc w8 (.cells #[.func fp1 #[] cp1, .func fq1 #[] cq1, .func fr1 #[] cr1, .func fp8 #[] cp8, .func fq8 #[] cq8, .func fr8 #[] cr8] 67))) (And.intro (cellOver (below_alloc w8 (.cells #[.func fp1 #[] cp1, .func fq1 #[] cq1, .func fr1 #[] cr1, .func fp8 #[] cp8, .func fq8 #[] cq8, .func fr8 #[] cr8] 67)) (h1.2.1)) (And.intro (cellOver (below_alloc w8 (.cells #[.func fp1 #[] cp1, .func fq1 #[] cq1, .func fr1 #[] cr1, .func fp8 #[] cp8, .func fq8 #[] cq8, .func fr8 #[] cr8] 67)) (h1.2.2.1)) (cellOver (below_alloc w8 (.cells #[.func fp1 #[] cp1, .func fq1 #[] cq1, .func fr1 #[] cr1, .func fp8 #[] cp8, .func fq8 #[] cq8, .func fr8 #[] cr8] 67)) (h1.2.2.2))))
  refine hK.out _ _ ?_ (fun h2 => ?_)
  · exact bS
  clear hK K h1 bS
  try simp only [List.getElem_toArray, List.getElem_cons_succ, List.getElem_cons_zero, Act.put, List.setIfInBounds_toArray, List.set_cons_zero, List.set_cons_succ]
  refine wpAnyH_take (i := 3) (v := ?_) rfl (by kernel_rfl) (by kernel_rfl) (by kernel_rfl) (fun _ _ _ h => h) (Or.inl ⟨by rfl, ?_⟩) h2 ?_
  rotate_left
  · (intro w hSw; (try dsimp only at hSw); go_simp); all_goals (with_reducible rfl)
  try simp only [List.getElem_toArray, List.getElem_cons_succ, List.getElem_cons_zero, Act.put, List.setIfInBounds_toArray, List.set_cons_zero, List.set_cons_succ]
  refine wpAnyH_take (i := 4) (v := ?_) rfl (by kernel_rfl) (by kernel_rfl) (by kernel_rfl) (fun _ _ _ h => h) (Or.inl ⟨by rfl, ?_⟩) h2 ?_
  rotate_left
  · (intro w hSw; (try dsimp only at hSw); go_simp); all_goals (with_reducible rfl)
  try simp only [List.getElem_toArray, List.getElem_cons_succ, List.getElem_cons_zero, Act.put, List.setIfInBounds_toArray, List.set_cons_zero, List.set_cons_succ]
  refine wpAnyH_done (by kernel_rfl) ?_ _
  clear h2
  go_wp2
  go_ret2
  exact ⟨_, _, _, rfl, HN.out, HB.out⟩
set_option maxHeartbeats 8000000 in
theorem own4 (w : World) : Calls Tryz.prog 23 #[.int .i64 4] w (Own (some [.st, .lg, .bk, .se, .tx]) w) := by
  go_enter Tryz.func23, Tryz.ntmps23
  go_wp2_with fail
  refine (number_fld .st rfl rfl _).mono ?_
  rintro e w1 ⟨⟨p1, q1, r1⟩, rfl, f, bb⟩
  obtain ⟨fq1, cq1, rfl⟩ := fld_shape2 f
  obtain ⟨fp1, cp1, fr1, cr1, rfl, rfl⟩ := fld_shape f
  have B1 := Lib.hid (bel2 bb (below_alloc w1 (.cells #[.func fp1 #[] cp1, .func fq1 #[] cq1, .func fr1 #[] cr1] 67)))
  have F1 := Lib.hid (f.over (below_alloc w1 (.cells #[.func fp1 #[] cp1, .func fq1 #[] cq1, .func fr1 #[] cr1] 67)))
  have X1 := Lib.hid (heap_alloc_new w1 (.cells #[.func fp1 #[] cp1, .func fq1 #[] cq1, .func fr1 #[] cr1] 67))
  clear f bb
  try simp only [agg3]
  go_wp2_with fail
  refine (text_fld .lg rfl _).mono ?_
  rintro e w2 ⟨⟨p2, q2, r2⟩, rfl, f, bb⟩
  obtain ⟨fq2, cq2, rfl⟩ := fld_shape2 f
  obtain ⟨fp2, cp2, fr2, cr2, rfl, rfl⟩ := fld_shape f
  replace F1 := Lib.hid (F1.out.over bb)
  replace X1 := Lib.hid (blockOver bb X1.out)
  replace B1 := Lib.hid (bel2 (bel2 B1.out bb) (below_alloc w2 (.cells #[.func fp2 #[] cp2, .func fq2 #[] cq2, .func fr2 #[] cr2] 67)))
  have F2 := Lib.hid (f.over (below_alloc w2 (.cells #[.func fp2 #[] cp2, .func fq2 #[] cq2, .func fr2 #[] cr2] 67)))
  have X2 := Lib.hid (heap_alloc_new w2 (.cells #[.func fp2 #[] cp2, .func fq2 #[] cq2, .func fr2 #[] cr2] 67))
  replace F1 := Lib.hid (F1.out.over (below_alloc w2 (.cells #[.func fp2 #[] cp2, .func fq2 #[] cq2, .func fr2 #[] cr2] 67)))
  replace X1 := Lib.hid (blockOver (below_alloc w2 (.cells #[.func fp2 #[] cp2, .func fq2 #[] cq2, .func fr2 #[] cr2] 67)) X1.out)
  clear f bb
  try simp only [agg3]
  go_wp2_with fail
  refine (label_fld _).mono ?_
  rintro e w3 ⟨⟨p3, q3, r3⟩, rfl, f, bb⟩
  obtain ⟨fq3, cq3, rfl⟩ := fld_shape2 f
  obtain ⟨fp3, cp3, fr3, cr3, rfl, rfl⟩ := fld_shape f
  replace F1 := Lib.hid (F1.out.over bb)
  replace X1 := Lib.hid (blockOver bb X1.out)
  replace F2 := Lib.hid (F2.out.over bb)
  replace X2 := Lib.hid (blockOver bb X2.out)
  replace B1 := Lib.hid (bel2 (bel2 B1.out bb) (below_alloc w3 (.cells #[.func fp3 #[] cp3, .func fq3 #[] cq3, .func fr3 #[] cr3] 67)))
  have F3 := Lib.hid (f.over (below_alloc w3 (.cells #[.func fp3 #[] cp3, .func fq3 #[] cq3, .func fr3 #[] cr3] 67)))
  have X3 := Lib.hid (heap_alloc_new w3 (.cells #[.func fp3 #[] cp3, .func fq3 #[] cq3, .func fr3 #[] cr3] 67))
  replace F1 := Lib.hid (F1.out.over (below_alloc w3 (.cells #[.func fp3 #[] cp3, .func fq3 #[] cq3, .func fr3 #[] cr3] 67)))
  replace X1 := Lib.hid (blockOver (below_alloc w3 (.cells #[.func fp3 #[] cp3, .func fq3 #[] cq3, .func fr3 #[] cr3] 67)) X1.out)
  replace F2 := Lib.hid (F2.out.over (below_alloc w3 (.cells #[.func fp3 #[] cp3, .func fq3 #[] cq3, .func fr3 #[] cr3] 67)))
  replace X2 := Lib.hid (blockOver (below_alloc w3 (.cells #[.func fp3 #[] cp3, .func fq3 #[] cq3, .func fr3 #[] cr3] 67)) X2.out)
  clear f bb
  try simp only [agg3]
  go_wp2_with fail
  refine (text_fld .nm rfl _).mono ?_
  rintro e w4 ⟨⟨p4, q4, r4⟩, rfl, f, bb⟩
  obtain ⟨fq4, cq4, rfl⟩ := fld_shape2 f
  obtain ⟨fp4, cp4, fr4, cr4, rfl, rfl⟩ := fld_shape f
  replace F1 := Lib.hid (F1.out.over bb)
  replace X1 := Lib.hid (blockOver bb X1.out)
  replace F2 := Lib.hid (F2.out.over bb)
  replace X2 := Lib.hid (blockOver bb X2.out)
  replace F3 := Lib.hid (F3.out.over bb)
  replace X3 := Lib.hid (blockOver bb X3.out)
  replace B1 := Lib.hid (bel2 (bel2 B1.out bb) (below_alloc w4 (.cells #[.func fp4 #[] cp4, .func fq4 #[] cq4, .func fr4 #[] cr4] 67)))
  have F4 := Lib.hid (f.over (below_alloc w4 (.cells #[.func fp4 #[] cp4, .func fq4 #[] cq4, .func fr4 #[] cr4] 67)))
  have X4 := Lib.hid (heap_alloc_new w4 (.cells #[.func fp4 #[] cp4, .func fq4 #[] cq4, .func fr4 #[] cr4] 67))
  replace F1 := Lib.hid (F1.out.over (below_alloc w4 (.cells #[.func fp4 #[] cp4, .func fq4 #[] cq4, .func fr4 #[] cr4] 67)))
  replace X1 := Lib.hid (blockOver (below_alloc w4 (.cells #[.func fp4 #[] cp4, .func fq4 #[] cq4, .func fr4 #[] cr4] 67)) X1.out)
  replace F2 := Lib.hid (F2.out.over (below_alloc w4 (.cells #[.func fp4 #[] cp4, .func fq4 #[] cq4, .func fr4 #[] cr4] 67)))
  replace X2 := Lib.hid (blockOver (below_alloc w4 (.cells #[.func fp4 #[] cp4, .func fq4 #[] cq4, .func fr4 #[] cr4] 67)) X2.out)
  replace F3 := Lib.hid (F3.out.over (below_alloc w4 (.cells #[.func fp4 #[] cp4, .func fq4 #[] cq4, .func fr4 #[] cr4] 67)))
  replace X3 := Lib.hid (blockOver (below_alloc w4 (.cells #[.func fp4 #[] cp4, .func fq4 #[] cq4, .func fr4 #[] cr4] 67)) X3.out)
  clear f bb
  try simp only [agg3]
  go_wp2_with fail
  refine (number_fld .pt rfl rfl _).mono ?_
  rintro e w5 ⟨⟨p5, q5, r5⟩, rfl, f, bb⟩
  obtain ⟨fq5, cq5, rfl⟩ := fld_shape2 f
  obtain ⟨fp5, cp5, fr5, cr5, rfl, rfl⟩ := fld_shape f
  replace F1 := Lib.hid (F1.out.over bb)
  replace X1 := Lib.hid (blockOver bb X1.out)
  replace F2 := Lib.hid (F2.out.over bb)
  replace X2 := Lib.hid (blockOver bb X2.out)
  replace F3 := Lib.hid (F3.out.over bb)
  replace X3 := Lib.hid (blockOver bb X3.out)
  replace F4 := Lib.hid (F4.out.over bb)
  replace X4 := Lib.hid (blockOver bb X4.out)
  replace B1 := Lib.hid (bel2 (bel2 B1.out bb) (below_alloc w5 (.cells #[.func fp5 #[] cp5, .func fq5 #[] cq5, .func fr5 #[] cr5] 67)))
  have F5 := Lib.hid (f.over (below_alloc w5 (.cells #[.func fp5 #[] cp5, .func fq5 #[] cq5, .func fr5 #[] cr5] 67)))
  have X5 := Lib.hid (heap_alloc_new w5 (.cells #[.func fp5 #[] cp5, .func fq5 #[] cq5, .func fr5 #[] cr5] 67))
  replace F1 := Lib.hid (F1.out.over (below_alloc w5 (.cells #[.func fp5 #[] cp5, .func fq5 #[] cq5, .func fr5 #[] cr5] 67)))
  replace X1 := Lib.hid (blockOver (below_alloc w5 (.cells #[.func fp5 #[] cp5, .func fq5 #[] cq5, .func fr5 #[] cr5] 67)) X1.out)
  replace F2 := Lib.hid (F2.out.over (below_alloc w5 (.cells #[.func fp5 #[] cp5, .func fq5 #[] cq5, .func fr5 #[] cr5] 67)))
  replace X2 := Lib.hid (blockOver (below_alloc w5 (.cells #[.func fp5 #[] cp5, .func fq5 #[] cq5, .func fr5 #[] cr5] 67)) X2.out)
  replace F3 := Lib.hid (F3.out.over (below_alloc w5 (.cells #[.func fp5 #[] cp5, .func fq5 #[] cq5, .func fr5 #[] cr5] 67)))
  replace X3 := Lib.hid (blockOver (below_alloc w5 (.cells #[.func fp5 #[] cp5, .func fq5 #[] cq5, .func fr5 #[] cr5] 67)) X3.out)
  replace F4 := Lib.hid (F4.out.over (below_alloc w5 (.cells #[.func fp5 #[] cp5, .func fq5 #[] cq5, .func fr5 #[] cr5] 67)))
  replace X4 := Lib.hid (blockOver (below_alloc w5 (.cells #[.func fp5 #[] cp5, .func fq5 #[] cq5, .func fr5 #[] cr5] 67)) X4.out)
  clear f bb
  try simp only [agg3]
  go_wp2_with fail
  refine (number_fld .cl rfl rfl _).mono ?_
  rintro e w6 ⟨⟨p6, q6, r6⟩, rfl, f, bb⟩
  obtain ⟨fq6, cq6, rfl⟩ := fld_shape2 f
  obtain ⟨fp6, cp6, fr6, cr6, rfl, rfl⟩ := fld_shape f
  replace F1 := Lib.hid (F1.out.over bb)
  replace X1 := Lib.hid (blockOver bb X1.out)
  replace F2 := Lib.hid (F2.out.over bb)
  replace X2 := Lib.hid (blockOver bb X2.out)
  replace F3 := Lib.hid (F3.out.over bb)
  replace X3 := Lib.hid (blockOver bb X3.out)
  replace F4 := Lib.hid (F4.out.over bb)
  replace X4 := Lib.hid (blockOver bb X4.out)
  replace F5 := Lib.hid (F5.out.over bb)
  replace X5 := Lib.hid (blockOver bb X5.out)
  replace B1 := Lib.hid (bel2 (bel2 B1.out bb) (below_alloc w6 (.cells #[.func fp6 #[] cp6, .func fq6 #[] cq6, .func fr6 #[] cr6] 67)))
  have F6 := Lib.hid (f.over (below_alloc w6 (.cells #[.func fp6 #[] cp6, .func fq6 #[] cq6, .func fr6 #[] cr6] 67)))
  have X6 := Lib.hid (heap_alloc_new w6 (.cells #[.func fp6 #[] cp6, .func fq6 #[] cq6, .func fr6 #[] cr6] 67))
  replace F1 := Lib.hid (F1.out.over (below_alloc w6 (.cells #[.func fp6 #[] cp6, .func fq6 #[] cq6, .func fr6 #[] cr6] 67)))
  replace X1 := Lib.hid (blockOver (below_alloc w6 (.cells #[.func fp6 #[] cp6, .func fq6 #[] cq6, .func fr6 #[] cr6] 67)) X1.out)
  replace F2 := Lib.hid (F2.out.over (below_alloc w6 (.cells #[.func fp6 #[] cp6, .func fq6 #[] cq6, .func fr6 #[] cr6] 67)))
  replace X2 := Lib.hid (blockOver (below_alloc w6 (.cells #[.func fp6 #[] cp6, .func fq6 #[] cq6, .func fr6 #[] cr6] 67)) X2.out)
  replace F3 := Lib.hid (F3.out.over (below_alloc w6 (.cells #[.func fp6 #[] cp6, .func fq6 #[] cq6, .func fr6 #[] cr6] 67)))
  replace X3 := Lib.hid (blockOver (below_alloc w6 (.cells #[.func fp6 #[] cp6, .func fq6 #[] cq6, .func fr6 #[] cr6] 67)) X3.out)
  replace F4 := Lib.hid (F4.out.over (below_alloc w6 (.cells #[.func fp6 #[] cp6, .func fq6 #[] cq6, .func fr6 #[] cr6] 67)))
  replace X4 := Lib.hid (blockOver (below_alloc w6 (.cells #[.func fp6 #[] cp6, .func fq6 #[] cq6, .func fr6 #[] cr6] 67)) X4.out)
  replace F5 := Lib.hid (F5.out.over (below_alloc w6 (.cells #[.func fp6 #[] cp6, .func fq6 #[] cq6, .func fr6 #[] cr6] 67)))
  replace X5 := Lib.hid (blockOver (below_alloc w6 (.cells #[.func fp6 #[] cp6, .func fq6 #[] cq6, .func fr6 #[] cr6] 67)) X5.out)
  clear f bb
  try simp only [agg3]
  go_wp2_with fail
  refine (number_fld .un rfl rfl _).mono ?_
  rintro e w7 ⟨⟨p7, q7, r7⟩, rfl, f, bb⟩
  obtain ⟨fq7, cq7, rfl⟩ := fld_shape2 f
  obtain ⟨fp7, cp7, fr7, cr7, rfl, rfl⟩ := fld_shape f
  replace F1 := Lib.hid (F1.out.over bb)
  replace X1 := Lib.hid (blockOver bb X1.out)
  replace F2 := Lib.hid (F2.out.over bb)
  replace X2 := Lib.hid (blockOver bb X2.out)
  replace F3 := Lib.hid (F3.out.over bb)
  replace X3 := Lib.hid (blockOver bb X3.out)
  replace F4 := Lib.hid (F4.out.over bb)
  replace X4 := Lib.hid (blockOver bb X4.out)
  replace F5 := Lib.hid (F5.out.over bb)
  replace X5 := Lib.hid (blockOver bb X5.out)
  replace F6 := Lib.hid (F6.out.over bb)
  replace X6 := Lib.hid (blockOver bb X6.out)
  replace B1 := Lib.hid (bel2 (bel2 B1.out bb) (below_alloc w7 (.cells #[.func fp7 #[] cp7, .func fq7 #[] cq7, .func fr7 #[] cr7] 67)))
  have F7 := Lib.hid (f.over (below_alloc w7 (.cells #[.func fp7 #[] cp7, .func fq7 #[] cq7, .func fr7 #[] cr7] 67)))
  have X7 := Lib.hid (heap_alloc_new w7 (.cells #[.func fp7 #[] cp7, .func fq7 #[] cq7, .func fr7 #[] cr7] 67))
  replace F1 := Lib.hid (F1.out.over (below_alloc w7 (.cells #[.func fp7 #[] cp7, .func fq7 #[] cq7, .func fr7 #[] cr7] 67)))
  replace X1 := Lib.hid (blockOver (below_alloc w7 (.cells #[.func fp7 #[] cp7, .func fq7 #[] cq7, .func fr7 #[] cr7] 67)) X1.out)
  replace F2 := Lib.hid (F2.out.over (below_alloc w7 (.cells #[.func fp7 #[] cp7, .func fq7 #[] cq7, .func fr7 #[] cr7] 67)))
  replace X2 := Lib.hid (blockOver (below_alloc w7 (.cells #[.func fp7 #[] cp7, .func fq7 #[] cq7, .func fr7 #[] cr7] 67)) X2.out)
  replace F3 := Lib.hid (F3.out.over (below_alloc w7 (.cells #[.func fp7 #[] cp7, .func fq7 #[] cq7, .func fr7 #[] cr7] 67)))
  replace X3 := Lib.hid (blockOver (below_alloc w7 (.cells #[.func fp7 #[] cp7, .func fq7 #[] cq7, .func fr7 #[] cr7] 67)) X3.out)
  replace F4 := Lib.hid (F4.out.over (below_alloc w7 (.cells #[.func fp7 #[] cp7, .func fq7 #[] cq7, .func fr7 #[] cr7] 67)))
  replace X4 := Lib.hid (blockOver (below_alloc w7 (.cells #[.func fp7 #[] cp7, .func fq7 #[] cq7, .func fr7 #[] cr7] 67)) X4.out)
  replace F5 := Lib.hid (F5.out.over (below_alloc w7 (.cells #[.func fp7 #[] cp7, .func fq7 #[] cq7, .func fr7 #[] cr7] 67)))
  replace X5 := Lib.hid (blockOver (below_alloc w7 (.cells #[.func fp7 #[] cp7, .func fq7 #[] cq7, .func fr7 #[] cr7] 67)) X5.out)
  replace F6 := Lib.hid (F6.out.over (below_alloc w7 (.cells #[.func fp7 #[] cp7, .func fq7 #[] cq7, .func fr7 #[] cr7] 67)))
  replace X6 := Lib.hid (blockOver (below_alloc w7 (.cells #[.func fp7 #[] cp7, .func fq7 #[] cq7, .func fr7 #[] cr7] 67)) X6.out)
  clear f bb
  try simp only [agg3]
  go_wp2_with fail
  refine (number_fld .bk rfl rfl _).mono ?_
  rintro e w8 ⟨⟨p8, q8, r8⟩, rfl, f, bb⟩
  obtain ⟨fq8, cq8, rfl⟩ := fld_shape2 f
  obtain ⟨fp8, cp8, fr8, cr8, rfl, rfl⟩ := fld_shape f
  replace F1 := Lib.hid (F1.out.over bb)
  replace X1 := Lib.hid (blockOver bb X1.out)
  replace F2 := Lib.hid (F2.out.over bb)
  replace X2 := Lib.hid (blockOver bb X2.out)
  replace F3 := Lib.hid (F3.out.over bb)
  replace X3 := Lib.hid (blockOver bb X3.out)
  replace F4 := Lib.hid (F4.out.over bb)
  replace X4 := Lib.hid (blockOver bb X4.out)
  replace F5 := Lib.hid (F5.out.over bb)
  replace X5 := Lib.hid (blockOver bb X5.out)
  replace F6 := Lib.hid (F6.out.over bb)
  replace X6 := Lib.hid (blockOver bb X6.out)
  replace F7 := Lib.hid (F7.out.over bb)
  replace X7 := Lib.hid (blockOver bb X7.out)
  replace B1 := Lib.hid (bel2 (bel2 B1.out bb) (below_alloc w8 (.cells #[.func fp8 #[] cp8, .func fq8 #[] cq8, .func fr8 #[] cr8] 67)))
  have F8 := Lib.hid (f.over (below_alloc w8 (.cells #[.func fp8 #[] cp8, .func fq8 #[] cq8, .func fr8 #[] cr8] 67)))
  have X8 := Lib.hid (heap_alloc_new w8 (.cells #[.func fp8 #[] cp8, .func fq8 #[] cq8, .func fr8 #[] cr8] 67))
  replace F1 := Lib.hid (F1.out.over (below_alloc w8 (.cells #[.func fp8 #[] cp8, .func fq8 #[] cq8, .func fr8 #[] cr8] 67)))
  replace X1 := Lib.hid (blockOver (below_alloc w8 (.cells #[.func fp8 #[] cp8, .func fq8 #[] cq8, .func fr8 #[] cr8] 67)) X1.out)
  replace F2 := Lib.hid (F2.out.over (below_alloc w8 (.cells #[.func fp8 #[] cp8, .func fq8 #[] cq8, .func fr8 #[] cr8] 67)))
  replace X2 := Lib.hid (blockOver (below_alloc w8 (.cells #[.func fp8 #[] cp8, .func fq8 #[] cq8, .func fr8 #[] cr8] 67)) X2.out)
  replace F3 := Lib.hid (F3.out.over (below_alloc w8 (.cells #[.func fp8 #[] cp8, .func fq8 #[] cq8, .func fr8 #[] cr8] 67)))
  replace X3 := Lib.hid (blockOver (below_alloc w8 (.cells #[.func fp8 #[] cp8, .func fq8 #[] cq8, .func fr8 #[] cr8] 67)) X3.out)
  replace F4 := Lib.hid (F4.out.over (below_alloc w8 (.cells #[.func fp8 #[] cp8, .func fq8 #[] cq8, .func fr8 #[] cr8] 67)))
  replace X4 := Lib.hid (blockOver (below_alloc w8 (.cells #[.func fp8 #[] cp8, .func fq8 #[] cq8, .func fr8 #[] cr8] 67)) X4.out)
  replace F5 := Lib.hid (F5.out.over (below_alloc w8 (.cells #[.func fp8 #[] cp8, .func fq8 #[] cq8, .func fr8 #[] cr8] 67)))
  replace X5 := Lib.hid (blockOver (below_alloc w8 (.cells #[.func fp8 #[] cp8, .func fq8 #[] cq8, .func fr8 #[] cr8] 67)) X5.out)
  replace F6 := Lib.hid (F6.out.over (below_alloc w8 (.cells #[.func fp8 #[] cp8, .func fq8 #[] cq8, .func fr8 #[] cr8] 67)))
  replace X6 := Lib.hid (blockOver (below_alloc w8 (.cells #[.func fp8 #[] cp8, .func fq8 #[] cq8, .func fr8 #[] cr8] 67)) X6.out)
  replace F7 := Lib.hid (F7.out.over (below_alloc w8 (.cells #[.func fp8 #[] cp8, .func fq8 #[] cq8, .func fr8 #[] cr8] 67)))
  replace X7 := Lib.hid (blockOver (below_alloc w8 (.cells #[.func fp8 #[] cp8, .func fq8 #[] cq8, .func fr8 #[] cr8] 67)) X7.out)
  clear f bb
  try simp only [agg3]
  go_wp2_with fail
  refine (number_fld .se rfl rfl _).mono ?_
  rintro e w9 ⟨⟨p9, q9, r9⟩, rfl, f, bb⟩
  obtain ⟨fq9, cq9, rfl⟩ := fld_shape2 f
  obtain ⟨fp9, cp9, fr9, cr9, rfl, rfl⟩ := fld_shape f
  replace F1 := Lib.hid (F1.out.over bb)
  replace X1 := Lib.hid (blockOver bb X1.out)
  replace F2 := Lib.hid (F2.out.over bb)
  replace X2 := Lib.hid (blockOver bb X2.out)
  replace F3 := Lib.hid (F3.out.over bb)
  replace X3 := Lib.hid (blockOver bb X3.out)
  replace F4 := Lib.hid (F4.out.over bb)
  replace X4 := Lib.hid (blockOver bb X4.out)
  replace F5 := Lib.hid (F5.out.over bb)
  replace X5 := Lib.hid (blockOver bb X5.out)
  replace F6 := Lib.hid (F6.out.over bb)
  replace X6 := Lib.hid (blockOver bb X6.out)
  replace F7 := Lib.hid (F7.out.over bb)
  replace X7 := Lib.hid (blockOver bb X7.out)
  replace F8 := Lib.hid (F8.out.over bb)
  replace X8 := Lib.hid (blockOver bb X8.out)
  replace B1 := Lib.hid (bel2 (bel2 B1.out bb) (below_alloc w9 (.cells #[.func fp9 #[] cp9, .func fq9 #[] cq9, .func fr9 #[] cr9] 67)))
  have F9 := Lib.hid (f.over (below_alloc w9 (.cells #[.func fp9 #[] cp9, .func fq9 #[] cq9, .func fr9 #[] cr9] 67)))
  have X9 := Lib.hid (heap_alloc_new w9 (.cells #[.func fp9 #[] cp9, .func fq9 #[] cq9, .func fr9 #[] cr9] 67))
  replace F1 := Lib.hid (F1.out.over (below_alloc w9 (.cells #[.func fp9 #[] cp9, .func fq9 #[] cq9, .func fr9 #[] cr9] 67)))
  replace X1 := Lib.hid (blockOver (below_alloc w9 (.cells #[.func fp9 #[] cp9, .func fq9 #[] cq9, .func fr9 #[] cr9] 67)) X1.out)
  replace F2 := Lib.hid (F2.out.over (below_alloc w9 (.cells #[.func fp9 #[] cp9, .func fq9 #[] cq9, .func fr9 #[] cr9] 67)))
  replace X2 := Lib.hid (blockOver (below_alloc w9 (.cells #[.func fp9 #[] cp9, .func fq9 #[] cq9, .func fr9 #[] cr9] 67)) X2.out)
  replace F3 := Lib.hid (F3.out.over (below_alloc w9 (.cells #[.func fp9 #[] cp9, .func fq9 #[] cq9, .func fr9 #[] cr9] 67)))
  replace X3 := Lib.hid (blockOver (below_alloc w9 (.cells #[.func fp9 #[] cp9, .func fq9 #[] cq9, .func fr9 #[] cr9] 67)) X3.out)
  replace F4 := Lib.hid (F4.out.over (below_alloc w9 (.cells #[.func fp9 #[] cp9, .func fq9 #[] cq9, .func fr9 #[] cr9] 67)))
  replace X4 := Lib.hid (blockOver (below_alloc w9 (.cells #[.func fp9 #[] cp9, .func fq9 #[] cq9, .func fr9 #[] cr9] 67)) X4.out)
  replace F5 := Lib.hid (F5.out.over (below_alloc w9 (.cells #[.func fp9 #[] cp9, .func fq9 #[] cq9, .func fr9 #[] cr9] 67)))
  replace X5 := Lib.hid (blockOver (below_alloc w9 (.cells #[.func fp9 #[] cp9, .func fq9 #[] cq9, .func fr9 #[] cr9] 67)) X5.out)
  replace F6 := Lib.hid (F6.out.over (below_alloc w9 (.cells #[.func fp9 #[] cp9, .func fq9 #[] cq9, .func fr9 #[] cr9] 67)))
  replace X6 := Lib.hid (blockOver (below_alloc w9 (.cells #[.func fp9 #[] cp9, .func fq9 #[] cq9, .func fr9 #[] cr9] 67)) X6.out)
  replace F7 := Lib.hid (F7.out.over (below_alloc w9 (.cells #[.func fp9 #[] cp9, .func fq9 #[] cq9, .func fr9 #[] cr9] 67)))
  replace X7 := Lib.hid (blockOver (below_alloc w9 (.cells #[.func fp9 #[] cp9, .func fq9 #[] cq9, .func fr9 #[] cr9] 67)) X7.out)
  replace F8 := Lib.hid (F8.out.over (below_alloc w9 (.cells #[.func fp9 #[] cp9, .func fq9 #[] cq9, .func fr9 #[] cr9] 67)))
  replace X8 := Lib.hid (blockOver (below_alloc w9 (.cells #[.func fp9 #[] cp9, .func fq9 #[] cq9, .func fr9 #[] cr9] 67)) X8.out)
  clear f bb
  try simp only [agg3]
  go_wp2_with fail
  obtain ⟨c10, c11, c12⟩ := cells3 X1.out
  obtain ⟨c20, c21, c22⟩ := cells3 X2.out
  obtain ⟨c80, c81, c82⟩ := cells3 X8.out
  obtain ⟨c90, c91, c92⟩ := cells3 X9.out
  have bc := Below.refl (w9.alloc (.cells #[.func fp9 #[] cp9, .func fq9 #[] cq9, .func fr9 #[] cr9] 67)).heap.size (w9.alloc (.cells #[.func fp9 #[] cp9, .func fq9 #[] cq9, .func fr9 #[] cr9] 67))
  refine wp_region_held_drew (S := fun w' => Below (w9.alloc (.cells #[.func fp9 #[] cp9, .func fq9 #[] cq9, .func fr9 #[] cr9] 67)).heap.size (w9.alloc (.cells #[.func fp9 #[] cp9, .func fq9 #[] cq9, .func fr9 #[] cr9] 67)) w' ∧ w'.cell? ⟨w1.heap.size, 0, none⟩ = some (.func fp1 #[] cp1) ∧ w'.cell? ⟨w1.heap.size, 1, none⟩ = some (.func fq1 #[] cq1) ∧ w'.cell? ⟨w1.heap.size, 2, none⟩ = some (.func fr1 #[] cr1) ∧ w'.cell? ⟨w2.heap.size, 0, none⟩ = some (.func fp2 #[] cp2) ∧ w'.cell? ⟨w2.heap.size, 1, none⟩ = some (.func fq2 #[] cq2) ∧ w'.cell? ⟨w2.heap.size, 2, none⟩ = some (.func fr2 #[] cr2) ∧ w'.cell? ⟨w8.heap.size, 0, none⟩ = some (.func fp8 #[] cp8) ∧ w'.cell? ⟨w8.heap.size, 1, none⟩ = some (.func fq8 #[] cq8) ∧ w'.cell? ⟨w8.heap.size, 2, none⟩ = some (.func fr8 #[] cr8) ∧ w'.cell? ⟨w9.heap.size, 0, none⟩ = some (.func fp9 #[] cp9) ∧ w'.cell? ⟨w9.heap.size, 1, none⟩ = some (.func fq9 #[] cq9) ∧ w'.cell? ⟨w9.heap.size, 2, none⟩ = some (.func fr9 #[] cr9)) (by kernel_rfl) ?_ (fun h0 => ?_)
  · exact ⟨bc.drew, c10, c11, c12, c20, c21, c22, c80, c81, c82, c90, c91, c92⟩
  refine wpAnyH_take (i := 0) (v := ?_) rfl (by kernel_rfl) (by kernel_rfl) (by kernel_rfl) (fun _ _ _ h => h) (Or.inl ⟨by rfl, ?_⟩) h0 ?_
  rotate_left
  · (intro w hSw; (try dsimp only at hSw); go_simp); all_goals (with_reducible rfl)
  try simp only [List.getElem_toArray, List.getElem_cons_succ, List.getElem_cons_zero, Act.put, List.setIfInBounds_toArray, List.set_cons_zero, List.set_cons_succ]
  refine wpAnyH_take (i := 1) (v := ?_) rfl (by kernel_rfl) (by kernel_rfl) (by kernel_rfl) (fun _ _ _ h => h) (Or.inl ⟨by rfl, ?_⟩) h0 ?_
  rotate_left
  · (intro w hSw; (try dsimp only at hSw); go_simp); all_goals (with_reducible rfl)
  try simp only [List.getElem_toArray, List.getElem_cons_succ, List.getElem_cons_zero, Act.put, List.setIfInBounds_toArray, List.set_cons_zero, List.set_cons_succ]
  refine wpAnyH_take (i := 2) (v := ?_) rfl (by kernel_rfl) (by kernel_rfl) (by kernel_rfl) (fun _ _ _ h => h) (Or.inl ⟨by rfl, ?_⟩) h0 ?_
  rotate_left
  · (intro w hSw; (try dsimp only at hSw); go_simp); all_goals (with_reducible rfl)
  try simp only [List.getElem_toArray, List.getElem_cons_succ, List.getElem_cons_zero, Act.put, List.setIfInBounds_toArray, List.set_cons_zero, List.set_cons_succ]
  refine wpAnyH_take (i := 3) (v := ?_) rfl (by kernel_rfl) (by kernel_rfl) (by kernel_rfl) (fun _ _ _ h => h) (Or.inl ⟨by rfl, ?_⟩) h0 ?_
  rotate_left
  · (intro w hSw; (try dsimp only at hSw); go_simp); all_goals (with_reducible rfl)
  try simp only [List.getElem_toArray, List.getElem_cons_succ, List.getElem_cons_zero, Act.put, List.setIfInBounds_toArray, List.set_cons_zero, List.set_cons_succ]
  refine wpAnyH_take (i := 4) (v := ?_) rfl (by kernel_rfl) (by kernel_rfl) (by kernel_rfl) (fun _ _ _ h => h) (Or.inl ⟨by rfl, ?_⟩) h0 ?_
  rotate_left
  · (intro w hSw; (try dsimp only at hSw); go_simp); all_goals (with_reducible rfl)
  try simp only [List.getElem_toArray, List.getElem_cons_succ, List.getElem_cons_zero, Act.put, List.setIfInBounds_toArray, List.set_cons_zero, List.set_cons_succ]
  refine wpAnyH_ready (rs := [5]) (by kernel_rfl) (by simp) ?_
  refine AllReadyH.cons rfl (fun K hK => ?_) AllReadyH.nil
  go_simp
  refine (text_fld .tx rfl _).mono ?_
  rintro e w10 ⟨⟨p10, q10, r10⟩, rfl, f, bq⟩
  obtain ⟨fq10, cq10, rfl⟩ := fld_shape2 f
  obtain ⟨fp10, cp10, fr10, cr10, rfl, rfl⟩ := fld_shape f
  simp only [agg3]
  go_wp2_with fail
  have bS := And.intro (bel2 h0.1 bq) (And.intro (cellOver bq (h0.2.1)) (And.intro (cellOver bq (h0.2.2.1)) (And.intro (cellOver bq (h0.2.2.2.1)) (And.intro (cellOver bq (h0.2.2.2.2.1)) (And.intro (cellOver bq (h0.2.2.2.2.2.1)) (And.intro (cellOver bq (h0.2.2.2.2.2.2.1)) (And.intro (cellOver bq (h0.2.2.2.2.2.2.2.1)) (And.intro (cellOver bq (h0.2.2.2.2.2.2.2.2.1)) (And.intro (cellOver bq (h0.2.2.2.2.2.2.2.2.2.1)) (And.intro (cellOver bq (h0.2.2.2.2.2.2.2.2.2.2.1)) (And.intro (cellOver bq (h0.2.2.2.2.2.2.2.2.2.2.2.1)) (cellOver bq (h0.2.2.2.2.2.2.2.2.2.2.2.2)))))))))))))
  have BC := Lib.hid (bel2 h0.1 bq)
  have F10 := Lib.hid f
  clear f bq
  refine hK.out _ _ ?_ (fun h1 => ?_)
  · exact bS
  clear hK K h0 bS
  try simp only [List.getElem_toArray, List.getElem_cons_succ, List.getElem_cons_zero, Act.put, List.setIfInBounds_toArray, List.set_cons_zero, List.set_cons_succ]
  refine wpAnyH_ready (rs := [6]) (by kernel_rfl) (by simp) ?_
  refine AllReadyH.cons rfl (fun K hK => ?_) AllReadyH.nil
  go_simp
  have HN := Lib.hid (fls_new (W := w10) (vs := [(.func fp1 #[] cp1, .func fq1 #[] cq1, .func fr1 #[] cr1), (.func fp2 #[] cp2, .func fq2 #[] cq2, .func fr2 #[] cr2), (.func fp8 #[] cp8, .func fq8 #[] cq8, .func fr8 #[] cr8), (.func fp9 #[] cp9, .func fq9 #[] cq9, .func fr9 #[] cr9), (.func fp10 #[] cp10, .func fq10 #[] cq10, .func fr10 #[] cr10)]) (l := [.st, .lg, .bk, .se, .tx]) w10.heap.size rfl 5 rfl (by decide) ⟨(F1.out.over BC.out), (F2.out.over BC.out), (F8.out.over BC.out), (F9.out.over BC.out), F10.out, trivial⟩ #[.func fp1 #[] cp1, .func fq1 #[] cq1, .func fr1 #[] cr1, .func fp2 #[] cp2, .func fq2 #[] cq2, .func fr2 #[] cr2, .func fp8 #[] cp8, .func fq8 #[] cq8, .func fr8 #[] cr8, .func fp9 #[] cp9, .func fq9 #[] cq9, .func fr9 #[] cr9, .func fp10 #[] cp10, .func fq10 #[] cq10, .func fr10 #[] cr10] rfl)
  have HB := Lib.hid (bel2 (bel2 B1.out BC.out) (below_alloc w10 (.cells #[.func fp1 #[] cp1, .func fq1 #[] cq1, .func fr1 #[] cr1, .func fp2 #[] cp2, .func fq2 #[] cq2, .func fr2 #[] cr2, .func fp8 #[] cp8, .func fq8 #[] cq8, .func fr8 #[] cr8, .func fp9 #[] cp9, .func fq9 #[] cq9, .func fr9 #[] cr9, .func fp10 #[] cp10, .func fq10 #[] cq10, .func fr10 #[] cr10] 67)))
  have bS := And.intro (bel2 h1.1 (below_alloc w10 (.cells #[.func fp1 #[] cp1, .func fq1 #[] cq1, .func fr1 #[] cr1, .func fp2 #[] cp2, .func fq2 #[] cq2, .func fr2 #[] cr2, .func fp8 #[] cp8, .func fq8 #[] cq8, .func fr8 #[] cr8, .func fp9 #[] cp9, .func fq9 #[] cq9, .func fr9 #[] cr9, .func fp10 #[] cp10, .func fq10 #[] cq10, .func fr10 #[] cr10] 67))) (And.intro (cellOver (below_alloc w10 (.cells #[.func fp1 #[] cp1, .func fq1 #[] cq1, .func fr1 #[] cr1, .func fp2 #[] cp2, .func fq2 #[] cq2, .func fr2 #[] cr2, .func fp8 #[] cp8, .func fq8 #[] cq8, .func fr8 #[] cr8, .func fp9 #[] cp9, .func fq9 #[] cq9, .func fr9 #[] cr9, .func fp10 #[] cp10, .func fq10 #[] cq10, .func fr10 #[] cr10] 67)) (h1.2.1)) (And.intro (cellOver (below_alloc w10 (.cells #[.func fp1 #[] cp1, .func fq1 #[] cq1, .func fr1 #[] cr1, .func fp2 #[] cp2, .func fq2 #[] cq2, .func fr2 #[] cr2, .func fp8 #[] cp8, .func fq8 #[] cq8, .func fr8 #[] cr8, .func fp9 #[] cp9, .func fq9 #[] cq9, .func fr9 #[] cr9, .func fp10 #[] cp10, .func fq10 #[] cq10, .func fr10 #[] cr10] 67)) (h1.2.2.1)) (And.intro (cellOver (below_alloc w10 (.cells #[.func fp1 #[] cp1, .func fq1 #[] cq1, .func fr1 #[] cr1, .func fp2 #[] cp2, .func fq2 #[] cq2, .func fr2 #[] cr2, .func fp8 #[] cp8, .func fq8 #[] cq8, .func fr8 #[] cr8, .func fp9 #[] cp9, .func fq9 #[] cq9, .func fr9 #[] cr9, .func fp10 #[] cp10, .func fq10 #[] cq10, .func fr10 #[] cr10] 67)) (h1.2.2.2.1)) (And.intro (cellOver (below_alloc w10 (.cells #[.func fp1 #[] cp1, .func fq1 #[] cq1, .func fr1 #[] cr1, .func fp2 #[] cp2, .func fq2 #[] cq2, .func fr2 #[] cr2, .func fp8 #[] cp8, .func fq8 #[] cq8, .func fr8 #[] cr8, .func fp9 #[] cp9, .func fq9 #[] cq9, .func fr9 #[] cr9, .func fp10 #[] cp10, .func fq10 #[] cq10, .func fr10 #[] cr10] 67)) (h1.2.2.2.2.1)) (And.intro (cellOver (below_alloc w10 (.cells #[.func fp1 #[] cp1, .func fq1 #[] cq1, .func fr1 #[] cr1, .func fp2 #[] cp2, .func fq2 #[] cq2, .func fr2 #[] cr2, .func fp8 #[] cp8, .func fq8 #[] cq8, .func fr8 #[] cr8, .func fp9 #[] cp9, .func fq9 #[] cq9, .func fr9 #[] cr9, .func fp10 #[] cp10, .func fq10 #[] cq10, .func fr10 #[] cr10] 67)) (h1.2.2.2.2.2.1)) (And.intro (cellOver (below_alloc w10 (.cells #[.func fp1 #[] cp1, .func fq1 #[] cq1, .func fr1 #[] cr1, .func fp2 #[] cp2, .func fq2 #[] cq2, .func fr2 #[] cr2, .func fp8 #[] cp8, .func fq8 #[] cq8, .func fr8 #[] cr8, .func fp9 #[] cp9, .func fq9 #[] cq9, .func fr9 #[] cr9, .func fp10 #[] cp10, .func fq10 #[] cq10, .func fr10 #[] cr10] 67)) (h1.2.2.2.2.2.2.1)) (And.intro (cellOver (below_alloc w10 (.cells #[.func fp1 #[] cp1, .func fq1 #[] cq1, .func fr1 #[] cr1, .func fp2 #[] cp2, .func fq2 #[] cq2, .func fr2 #[] cr2, .func fp8 #[] cp8, .func fq8 #[] cq8, .func fr8 #[] cr8, .func fp9 #[] cp9, .func fq9 #[] cq9, .func fr9 #[] cr9, .func fp10 #[] cp10, .func fq10 #[] cq10, .func fr10 #[] cr10] 67)) (h1.2.2.2.2.2.2.2.1)) (And.intro (cellOver (below_alloc w10 (.cells #[.func fp1 #[] cp1, .func fq1 #[] cq1, .func fr1 #[] cr1, .func fp2 #[] cp2, .func fq2 #[] cq2, .func fr2 #[] cr2, .func fp8 #[] cp8, .func fq8 #[] cq8, .func fr8 #[] cr8, .func fp9 #[] cp9, .func fq9 #[] cq9, .func fr9 #[] cr9, .func fp10 #[] cp10, .func fq10 #[] cq10, .func fr10 #[] cr10] 67)) (h1.2.2.2.2.2.2.2.2.1)) (And.intro (cellOver (below_alloc w10 (.cells #[.func fp1 #[] cp1, .func fq1 #[] cq1, .func fr1 #[] cr1, .func fp2 #[] cp2, .func fq2 #[] cq2, .func fr2 #[] cr2, .func fp8 #[] cp8, .func fq8 #[] cq8, .func fr8 #[] cr8, .func fp9 #[] cp9, .func fq9 #[] cq9, .func fr9 #[] cr9, .func fp10 #[] cp10, .func fq10 #[] cq10, .func fr10 #[] cr10] 67)) (h1.2.2.2.2.2.2.2.2.2.1)) (And.intro (cellOver (below_alloc w10 (.cells #[.func fp1 #[] cp1, .func fq1 #[] cq1, .func fr1 #[] cr1, .func fp2 #[] cp2, .func fq2 #[] cq2, .func fr2 #[] cr2, .func fp8 #[] cp8, .func fq8 #[] cq8, .func fr8 #[] cr8, .func fp9 #[] cp9, .func fq9 #[] cq9, .func fr9 #[] cr9, .func fp10 #[] cp10, .func fq10 #[] cq10, .func fr10 #[] cr10] 67)) (h1.2.2.2.2.2.2.2.2.2.2.1)) (And.intro (cellOver (below_alloc w10 (.cells #[.func fp1 #[] cp1, .func fq1 #[] cq1, .func fr1 #[] cr1, .func fp2 #[] cp2, .func fq2 #[] cq2, .func fr2 #[] cr2, .func fp8 #[] cp8, .func fq8 #[] cq8, .func fr8 #[] cr8, .func fp9 #[] cp9, .func fq9 #[] cq9, .func fr9 #[] cr9, .func fp10 #[] cp10, .func fq10 #[] cq10, .func fr10 #[] cr10] 67)) (h1.2.2.2.2.2.2.2.2.2.2.2.1)) (cellOver (below_alloc w10 (.cells #[.func fp1 #[] cp1, .func fq1 #[] cq1, .func fr1 #[] cr1, .func fp2 #[] cp2, .func fq2 #[] cq2, .func fr2 #[] cr2, .func fp8 #[] cp8, .func fq8 #[] cq8, .func fr8 #[] cr8, .func fp9 #[] cp9, .func fq9 #[] cq9, .func fr9 #[] cr9, .func fp10 #[] cp10, .func fq10 #[] cq10, .func fr10 #[] cr10] 67)) (h1.2.2.2.2.2.2.2.2.2.2.2.2)))))))))))))
  refine hK.out _ _ ?_ (fun h2 => ?_)
  · exact bS
  clear hK K h1 bS
  try simp only [List.getElem_toArray, List.getElem_cons_succ, List.getElem_cons_zero, Act.put, List.setIfInBounds_toArray, List.set_cons_zero, List.set_cons_succ]
  refine wpAnyH_take (i := 7) (v := ?_) rfl (by kernel_rfl) (by kernel_rfl) (by kernel_rfl) (fun _ _ _ h => h) (Or.inl ⟨by rfl, ?_⟩) h2 ?_
  rotate_left
  · (intro w hSw; (try dsimp only at hSw); go_simp); all_goals (with_reducible rfl)
  try simp only [List.getElem_toArray, List.getElem_cons_succ, List.getElem_cons_zero, Act.put, List.setIfInBounds_toArray, List.set_cons_zero, List.set_cons_succ]
  refine wpAnyH_take (i := 8) (v := ?_) rfl (by kernel_rfl) (by kernel_rfl) (by kernel_rfl) (fun _ _ _ h => h) (Or.inl ⟨by rfl, ?_⟩) h2 ?_
  rotate_left
  · (intro w hSw; (try dsimp only at hSw); go_simp); all_goals (with_reducible rfl)
  try simp only [List.getElem_toArray, List.getElem_cons_succ, List.getElem_cons_zero, Act.put, List.setIfInBounds_toArray, List.set_cons_zero, List.set_cons_succ]
  refine wpAnyH_done (by kernel_rfl) ?_ _
  clear h2
  go_wp2
  go_ret2
  exact ⟨_, _, _, rfl, HN.out, HB.out⟩
set_option maxHeartbeats 8000000 in
theorem own5 (w : World) : Calls Tryz.prog 23 #[.int .i64 5] w (Own (some [.st, .tx]) w) := by
  go_enter Tryz.func23, Tryz.ntmps23
  go_wp2_with fail
  refine (number_fld .st rfl rfl _).mono ?_
  rintro e w1 ⟨⟨p1, q1, r1⟩, rfl, f, bb⟩
  obtain ⟨fq1, cq1, rfl⟩ := fld_shape2 f
  obtain ⟨fp1, cp1, fr1, cr1, rfl, rfl⟩ := fld_shape f
  have B1 := Lib.hid (bel2 bb (below_alloc w1 (.cells #[.func fp1 #[] cp1, .func fq1 #[] cq1, .func fr1 #[] cr1] 67)))
  have F1 := Lib.hid (f.over (below_alloc w1 (.cells #[.func fp1 #[] cp1, .func fq1 #[] cq1, .func fr1 #[] cr1] 67)))
  have X1 := Lib.hid (heap_alloc_new w1 (.cells #[.func fp1 #[] cp1, .func fq1 #[] cq1, .func fr1 #[] cr1] 67))
  clear f bb
  try simp only [agg3]
  go_wp2_with fail
  refine (text_fld .lg rfl _).mono ?_
  rintro e w2 ⟨⟨p2, q2, r2⟩, rfl, f, bb⟩
  obtain ⟨fq2, cq2, rfl⟩ := fld_shape2 f
  obtain ⟨fp2, cp2, fr2, cr2, rfl, rfl⟩ := fld_shape f
  replace F1 := Lib.hid (F1.out.over bb)
  replace X1 := Lib.hid (blockOver bb X1.out)
  replace B1 := Lib.hid (bel2 (bel2 B1.out bb) (below_alloc w2 (.cells #[.func fp2 #[] cp2, .func fq2 #[] cq2, .func fr2 #[] cr2] 67)))
  have F2 := Lib.hid (f.over (below_alloc w2 (.cells #[.func fp2 #[] cp2, .func fq2 #[] cq2, .func fr2 #[] cr2] 67)))
  have X2 := Lib.hid (heap_alloc_new w2 (.cells #[.func fp2 #[] cp2, .func fq2 #[] cq2, .func fr2 #[] cr2] 67))
  replace F1 := Lib.hid (F1.out.over (below_alloc w2 (.cells #[.func fp2 #[] cp2, .func fq2 #[] cq2, .func fr2 #[] cr2] 67)))
  replace X1 := Lib.hid (blockOver (below_alloc w2 (.cells #[.func fp2 #[] cp2, .func fq2 #[] cq2, .func fr2 #[] cr2] 67)) X1.out)
  clear f bb
  try simp only [agg3]
  go_wp2_with fail
  refine (label_fld _).mono ?_
  rintro e w3 ⟨⟨p3, q3, r3⟩, rfl, f, bb⟩
  obtain ⟨fq3, cq3, rfl⟩ := fld_shape2 f
  obtain ⟨fp3, cp3, fr3, cr3, rfl, rfl⟩ := fld_shape f
  replace F1 := Lib.hid (F1.out.over bb)
  replace X1 := Lib.hid (blockOver bb X1.out)
  replace F2 := Lib.hid (F2.out.over bb)
  replace X2 := Lib.hid (blockOver bb X2.out)
  replace B1 := Lib.hid (bel2 (bel2 B1.out bb) (below_alloc w3 (.cells #[.func fp3 #[] cp3, .func fq3 #[] cq3, .func fr3 #[] cr3] 67)))
  have F3 := Lib.hid (f.over (below_alloc w3 (.cells #[.func fp3 #[] cp3, .func fq3 #[] cq3, .func fr3 #[] cr3] 67)))
  have X3 := Lib.hid (heap_alloc_new w3 (.cells #[.func fp3 #[] cp3, .func fq3 #[] cq3, .func fr3 #[] cr3] 67))
  replace F1 := Lib.hid (F1.out.over (below_alloc w3 (.cells #[.func fp3 #[] cp3, .func fq3 #[] cq3, .func fr3 #[] cr3] 67)))
  replace X1 := Lib.hid (blockOver (below_alloc w3 (.cells #[.func fp3 #[] cp3, .func fq3 #[] cq3, .func fr3 #[] cr3] 67)) X1.out)
  replace F2 := Lib.hid (F2.out.over (below_alloc w3 (.cells #[.func fp3 #[] cp3, .func fq3 #[] cq3, .func fr3 #[] cr3] 67)))
  replace X2 := Lib.hid (blockOver (below_alloc w3 (.cells #[.func fp3 #[] cp3, .func fq3 #[] cq3, .func fr3 #[] cr3] 67)) X2.out)
  clear f bb
  try simp only [agg3]
  go_wp2_with fail
  refine (text_fld .nm rfl _).mono ?_
  rintro e w4 ⟨⟨p4, q4, r4⟩, rfl, f, bb⟩
  obtain ⟨fq4, cq4, rfl⟩ := fld_shape2 f
  obtain ⟨fp4, cp4, fr4, cr4, rfl, rfl⟩ := fld_shape f
  replace F1 := Lib.hid (F1.out.over bb)
  replace X1 := Lib.hid (blockOver bb X1.out)
  replace F2 := Lib.hid (F2.out.over bb)
  replace X2 := Lib.hid (blockOver bb X2.out)
  replace F3 := Lib.hid (F3.out.over bb)
  replace X3 := Lib.hid (blockOver bb X3.out)
  replace B1 := Lib.hid (bel2 (bel2 B1.out bb) (below_alloc w4 (.cells #[.func fp4 #[] cp4, .func fq4 #[] cq4, .func fr4 #[] cr4] 67)))
  have F4 := Lib.hid (f.over (below_alloc w4 (.cells #[.func fp4 #[] cp4, .func fq4 #[] cq4, .func fr4 #[] cr4] 67)))
  have X4 := Lib.hid (heap_alloc_new w4 (.cells #[.func fp4 #[] cp4, .func fq4 #[] cq4, .func fr4 #[] cr4] 67))
  replace F1 := Lib.hid (F1.out.over (below_alloc w4 (.cells #[.func fp4 #[] cp4, .func fq4 #[] cq4, .func fr4 #[] cr4] 67)))
  replace X1 := Lib.hid (blockOver (below_alloc w4 (.cells #[.func fp4 #[] cp4, .func fq4 #[] cq4, .func fr4 #[] cr4] 67)) X1.out)
  replace F2 := Lib.hid (F2.out.over (below_alloc w4 (.cells #[.func fp4 #[] cp4, .func fq4 #[] cq4, .func fr4 #[] cr4] 67)))
  replace X2 := Lib.hid (blockOver (below_alloc w4 (.cells #[.func fp4 #[] cp4, .func fq4 #[] cq4, .func fr4 #[] cr4] 67)) X2.out)
  replace F3 := Lib.hid (F3.out.over (below_alloc w4 (.cells #[.func fp4 #[] cp4, .func fq4 #[] cq4, .func fr4 #[] cr4] 67)))
  replace X3 := Lib.hid (blockOver (below_alloc w4 (.cells #[.func fp4 #[] cp4, .func fq4 #[] cq4, .func fr4 #[] cr4] 67)) X3.out)
  clear f bb
  try simp only [agg3]
  go_wp2_with fail
  refine (number_fld .pt rfl rfl _).mono ?_
  rintro e w5 ⟨⟨p5, q5, r5⟩, rfl, f, bb⟩
  obtain ⟨fq5, cq5, rfl⟩ := fld_shape2 f
  obtain ⟨fp5, cp5, fr5, cr5, rfl, rfl⟩ := fld_shape f
  replace F1 := Lib.hid (F1.out.over bb)
  replace X1 := Lib.hid (blockOver bb X1.out)
  replace F2 := Lib.hid (F2.out.over bb)
  replace X2 := Lib.hid (blockOver bb X2.out)
  replace F3 := Lib.hid (F3.out.over bb)
  replace X3 := Lib.hid (blockOver bb X3.out)
  replace F4 := Lib.hid (F4.out.over bb)
  replace X4 := Lib.hid (blockOver bb X4.out)
  replace B1 := Lib.hid (bel2 (bel2 B1.out bb) (below_alloc w5 (.cells #[.func fp5 #[] cp5, .func fq5 #[] cq5, .func fr5 #[] cr5] 67)))
  have F5 := Lib.hid (f.over (below_alloc w5 (.cells #[.func fp5 #[] cp5, .func fq5 #[] cq5, .func fr5 #[] cr5] 67)))
  have X5 := Lib.hid (heap_alloc_new w5 (.cells #[.func fp5 #[] cp5, .func fq5 #[] cq5, .func fr5 #[] cr5] 67))
  replace F1 := Lib.hid (F1.out.over (below_alloc w5 (.cells #[.func fp5 #[] cp5, .func fq5 #[] cq5, .func fr5 #[] cr5] 67)))
  replace X1 := Lib.hid (blockOver (below_alloc w5 (.cells #[.func fp5 #[] cp5, .func fq5 #[] cq5, .func fr5 #[] cr5] 67)) X1.out)
  replace F2 := Lib.hid (F2.out.over (below_alloc w5 (.cells #[.func fp5 #[] cp5, .func fq5 #[] cq5, .func fr5 #[] cr5] 67)))
  replace X2 := Lib.hid (blockOver (below_alloc w5 (.cells #[.func fp5 #[] cp5, .func fq5 #[] cq5, .func fr5 #[] cr5] 67)) X2.out)
  replace F3 := Lib.hid (F3.out.over (below_alloc w5 (.cells #[.func fp5 #[] cp5, .func fq5 #[] cq5, .func fr5 #[] cr5] 67)))
  replace X3 := Lib.hid (blockOver (below_alloc w5 (.cells #[.func fp5 #[] cp5, .func fq5 #[] cq5, .func fr5 #[] cr5] 67)) X3.out)
  replace F4 := Lib.hid (F4.out.over (below_alloc w5 (.cells #[.func fp5 #[] cp5, .func fq5 #[] cq5, .func fr5 #[] cr5] 67)))
  replace X4 := Lib.hid (blockOver (below_alloc w5 (.cells #[.func fp5 #[] cp5, .func fq5 #[] cq5, .func fr5 #[] cr5] 67)) X4.out)
  clear f bb
  try simp only [agg3]
  go_wp2_with fail
  refine (number_fld .cl rfl rfl _).mono ?_
  rintro e w6 ⟨⟨p6, q6, r6⟩, rfl, f, bb⟩
  obtain ⟨fq6, cq6, rfl⟩ := fld_shape2 f
  obtain ⟨fp6, cp6, fr6, cr6, rfl, rfl⟩ := fld_shape f
  replace F1 := Lib.hid (F1.out.over bb)
  replace X1 := Lib.hid (blockOver bb X1.out)
  replace F2 := Lib.hid (F2.out.over bb)
  replace X2 := Lib.hid (blockOver bb X2.out)
  replace F3 := Lib.hid (F3.out.over bb)
  replace X3 := Lib.hid (blockOver bb X3.out)
  replace F4 := Lib.hid (F4.out.over bb)
  replace X4 := Lib.hid (blockOver bb X4.out)
  replace F5 := Lib.hid (F5.out.over bb)
  replace X5 := Lib.hid (blockOver bb X5.out)
  replace B1 := Lib.hid (bel2 (bel2 B1.out bb) (below_alloc w6 (.cells #[.func fp6 #[] cp6, .func fq6 #[] cq6, .func fr6 #[] cr6] 67)))
  have F6 := Lib.hid (f.over (below_alloc w6 (.cells #[.func fp6 #[] cp6, .func fq6 #[] cq6, .func fr6 #[] cr6] 67)))
  have X6 := Lib.hid (heap_alloc_new w6 (.cells #[.func fp6 #[] cp6, .func fq6 #[] cq6, .func fr6 #[] cr6] 67))
  replace F1 := Lib.hid (F1.out.over (below_alloc w6 (.cells #[.func fp6 #[] cp6, .func fq6 #[] cq6, .func fr6 #[] cr6] 67)))
  replace X1 := Lib.hid (blockOver (below_alloc w6 (.cells #[.func fp6 #[] cp6, .func fq6 #[] cq6, .func fr6 #[] cr6] 67)) X1.out)
  replace F2 := Lib.hid (F2.out.over (below_alloc w6 (.cells #[.func fp6 #[] cp6, .func fq6 #[] cq6, .func fr6 #[] cr6] 67)))
  replace X2 := Lib.hid (blockOver (below_alloc w6 (.cells #[.func fp6 #[] cp6, .func fq6 #[] cq6, .func fr6 #[] cr6] 67)) X2.out)
  replace F3 := Lib.hid (F3.out.over (below_alloc w6 (.cells #[.func fp6 #[] cp6, .func fq6 #[] cq6, .func fr6 #[] cr6] 67)))
  replace X3 := Lib.hid (blockOver (below_alloc w6 (.cells #[.func fp6 #[] cp6, .func fq6 #[] cq6, .func fr6 #[] cr6] 67)) X3.out)
  replace F4 := Lib.hid (F4.out.over (below_alloc w6 (.cells #[.func fp6 #[] cp6, .func fq6 #[] cq6, .func fr6 #[] cr6] 67)))
  replace X4 := Lib.hid (blockOver (below_alloc w6 (.cells #[.func fp6 #[] cp6, .func fq6 #[] cq6, .func fr6 #[] cr6] 67)) X4.out)
  replace F5 := Lib.hid (F5.out.over (below_alloc w6 (.cells #[.func fp6 #[] cp6, .func fq6 #[] cq6, .func fr6 #[] cr6] 67)))
  replace X5 := Lib.hid (blockOver (below_alloc w6 (.cells #[.func fp6 #[] cp6, .func fq6 #[] cq6, .func fr6 #[] cr6] 67)) X5.out)
  clear f bb
  try simp only [agg3]
  go_wp2_with fail
  refine (number_fld .un rfl rfl _).mono ?_
  rintro e w7 ⟨⟨p7, q7, r7⟩, rfl, f, bb⟩
  obtain ⟨fq7, cq7, rfl⟩ := fld_shape2 f
  obtain ⟨fp7, cp7, fr7, cr7, rfl, rfl⟩ := fld_shape f
  replace F1 := Lib.hid (F1.out.over bb)
  replace X1 := Lib.hid (blockOver bb X1.out)
  replace F2 := Lib.hid (F2.out.over bb)
  replace X2 := Lib.hid (blockOver bb X2.out)
  replace F3 := Lib.hid (F3.out.over bb)
  replace X3 := Lib.hid (blockOver bb X3.out)
  replace F4 := Lib.hid (F4.out.over bb)
  replace X4 := Lib.hid (blockOver bb X4.out)
  replace F5 := Lib.hid (F5.out.over bb)
  replace X5 := Lib.hid (blockOver bb X5.out)
  replace F6 := Lib.hid (F6.out.over bb)
  replace X6 := Lib.hid (blockOver bb X6.out)
  replace B1 := Lib.hid (bel2 (bel2 B1.out bb) (below_alloc w7 (.cells #[.func fp7 #[] cp7, .func fq7 #[] cq7, .func fr7 #[] cr7] 67)))
  have F7 := Lib.hid (f.over (below_alloc w7 (.cells #[.func fp7 #[] cp7, .func fq7 #[] cq7, .func fr7 #[] cr7] 67)))
  have X7 := Lib.hid (heap_alloc_new w7 (.cells #[.func fp7 #[] cp7, .func fq7 #[] cq7, .func fr7 #[] cr7] 67))
  replace F1 := Lib.hid (F1.out.over (below_alloc w7 (.cells #[.func fp7 #[] cp7, .func fq7 #[] cq7, .func fr7 #[] cr7] 67)))
  replace X1 := Lib.hid (blockOver (below_alloc w7 (.cells #[.func fp7 #[] cp7, .func fq7 #[] cq7, .func fr7 #[] cr7] 67)) X1.out)
  replace F2 := Lib.hid (F2.out.over (below_alloc w7 (.cells #[.func fp7 #[] cp7, .func fq7 #[] cq7, .func fr7 #[] cr7] 67)))
  replace X2 := Lib.hid (blockOver (below_alloc w7 (.cells #[.func fp7 #[] cp7, .func fq7 #[] cq7, .func fr7 #[] cr7] 67)) X2.out)
  replace F3 := Lib.hid (F3.out.over (below_alloc w7 (.cells #[.func fp7 #[] cp7, .func fq7 #[] cq7, .func fr7 #[] cr7] 67)))
  replace X3 := Lib.hid (blockOver (below_alloc w7 (.cells #[.func fp7 #[] cp7, .func fq7 #[] cq7, .func fr7 #[] cr7] 67)) X3.out)
  replace F4 := Lib.hid (F4.out.over (below_alloc w7 (.cells #[.func fp7 #[] cp7, .func fq7 #[] cq7, .func fr7 #[] cr7] 67)))
  replace X4 := Lib.hid (blockOver (below_alloc w7 (.cells #[.func fp7 #[] cp7, .func fq7 #[] cq7, .func fr7 #[] cr7] 67)) X4.out)
  replace F5 := Lib.hid (F5.out.over (below_alloc w7 (.cells #[.func fp7 #[] cp7, .func fq7 #[] cq7, .func fr7 #[] cr7] 67)))
  replace X5 := Lib.hid (blockOver (below_alloc w7 (.cells #[.func fp7 #[] cp7, .func fq7 #[] cq7, .func fr7 #[] cr7] 67)) X5.out)
  replace F6 := Lib.hid (F6.out.over (below_alloc w7 (.cells #[.func fp7 #[] cp7, .func fq7 #[] cq7, .func fr7 #[] cr7] 67)))
  replace X6 := Lib.hid (blockOver (below_alloc w7 (.cells #[.func fp7 #[] cp7, .func fq7 #[] cq7, .func fr7 #[] cr7] 67)) X6.out)
  clear f bb
  try simp only [agg3]
  go_wp2_with fail
  obtain ⟨c10, c11, c12⟩ := cells3 X1.out
  have bc := Below.refl (w7.alloc (.cells #[.func fp7 #[] cp7, .func fq7 #[] cq7, .func fr7 #[] cr7] 67)).heap.size (w7.alloc (.cells #[.func fp7 #[] cp7, .func fq7 #[] cq7, .func fr7 #[] cr7] 67))
  refine wp_region_held_drew (S := fun w' => Below (w7.alloc (.cells #[.func fp7 #[] cp7, .func fq7 #[] cq7, .func fr7 #[] cr7] 67)).heap.size (w7.alloc (.cells #[.func fp7 #[] cp7, .func fq7 #[] cq7, .func fr7 #[] cr7] 67)) w' ∧ w'.cell? ⟨w1.heap.size, 0, none⟩ = some (.func fp1 #[] cp1) ∧ w'.cell? ⟨w1.heap.size, 1, none⟩ = some (.func fq1 #[] cq1) ∧ w'.cell? ⟨w1.heap.size, 2, none⟩ = some (.func fr1 #[] cr1)) (by kernel_rfl) ?_ (fun h0 => ?_)
  · exact ⟨bc.drew, c10, c11, c12⟩
  refine wpAnyH_take (i := 0) (v := ?_) rfl (by kernel_rfl) (by kernel_rfl) (by kernel_rfl) (fun _ _ _ h => h) (Or.inl ⟨by rfl, ?_⟩) h0 ?_
  rotate_left
  · (intro w hSw; (try dsimp only at hSw); go_simp); all_goals (with_reducible rfl)
  try simp only [List.getElem_toArray, List.getElem_cons_succ, List.getElem_cons_zero, Act.put, List.setIfInBounds_toArray, List.set_cons_zero, List.set_cons_succ]
  refine wpAnyH_take (i := 1) (v := ?_) rfl (by kernel_rfl) (by kernel_rfl) (by kernel_rfl) (fun _ _ _ h => h) (Or.inl ⟨by rfl, ?_⟩) h0 ?_
  rotate_left
  · (intro w hSw; (try dsimp only at hSw); go_simp); all_goals (with_reducible rfl)
  try simp only [List.getElem_toArray, List.getElem_cons_succ, List.getElem_cons_zero, Act.put, List.setIfInBounds_toArray, List.set_cons_zero, List.set_cons_succ]
  refine wpAnyH_ready (rs := [2]) (by kernel_rfl) (by simp) ?_
  refine AllReadyH.cons rfl (fun K hK => ?_) AllReadyH.nil
  go_simp
  refine (text_fld .tx rfl _).mono ?_
  rintro e w8 ⟨⟨p8, q8, r8⟩, rfl, f, bq⟩
  obtain ⟨fq8, cq8, rfl⟩ := fld_shape2 f
  obtain ⟨fp8, cp8, fr8, cr8, rfl, rfl⟩ := fld_shape f
  simp only [agg3]
  go_wp2_with fail
  have bS := And.intro (bel2 h0.1 bq) (And.intro (cellOver bq (h0.2.1)) (And.intro (cellOver bq (h0.2.2.1)) (cellOver bq (h0.2.2.2))))
  have BC := Lib.hid (bel2 h0.1 bq)
  have F8 := Lib.hid f
  clear f bq
  refine hK.out _ _ ?_ (fun h1 => ?_)
  · exact bS
  clear hK K h0 bS
  try simp only [List.getElem_toArray, List.getElem_cons_succ, List.getElem_cons_zero, Act.put, List.setIfInBounds_toArray, List.set_cons_zero, List.set_cons_succ]
  refine wpAnyH_ready (rs := [3]) (by kernel_rfl) (by simp) ?_
  refine AllReadyH.cons rfl (fun K hK => ?_) AllReadyH.nil
  go_simp
  have HN := Lib.hid (fls_new (W := w8) (vs := [(.func fp1 #[] cp1, .func fq1 #[] cq1, .func fr1 #[] cr1), (.func fp8 #[] cp8, .func fq8 #[] cq8, .func fr8 #[] cr8)]) (l := [.st, .tx]) w8.heap.size rfl 2 rfl (by decide) ⟨(F1.out.over BC.out), F8.out, trivial⟩ #[.func fp1 #[] cp1, .func fq1 #[] cq1, .func fr1 #[] cr1, .func fp8 #[] cp8, .func fq8 #[] cq8, .func fr8 #[] cr8] rfl)
  have HB := Lib.hid (bel2 (bel2 B1.out BC.out) (below_alloc w8 (.cells #[.func fp1 #[] cp1, .func fq1 #[] cq1, .func fr1 #[] cr1, .func fp8 #[] cp8, .func fq8 #[] cq8, .func fr8 #[] cr8] 67)))
  have bS := And.intro (bel2 h1.1 (below_alloc w8 (.cells #[.func fp1 #[] cp1, .func fq1 #[] cq1, .func fr1 #[] cr1, .func fp8 #[] cp8, .func fq8 #[] cq8, .func fr8 #[] cr8] 67))) (And.intro (cellOver (below_alloc w8 (.cells #[.func fp1 #[] cp1, .func fq1 #[] cq1, .func fr1 #[] cr1, .func fp8 #[] cp8, .func fq8 #[] cq8, .func fr8 #[] cr8] 67)) (h1.2.1)) (And.intro (cellOver (below_alloc w8 (.cells #[.func fp1 #[] cp1, .func fq1 #[] cq1, .func fr1 #[] cr1, .func fp8 #[] cp8, .func fq8 #[] cq8, .func fr8 #[] cr8] 67)) (h1.2.2.1)) (cellOver (below_alloc w8 (.cells #[.func fp1 #[] cp1, .func fq1 #[] cq1, .func fr1 #[] cr1, .func fp8 #[] cp8, .func fq8 #[] cq8, .func fr8 #[] cr8] 67)) (h1.2.2.2))))
  refine hK.out _ _ ?_ (fun h2 => ?_)
  · exact bS
  clear hK K h1 bS
  try simp only [List.getElem_toArray, List.getElem_cons_succ, List.getElem_cons_zero, Act.put, List.setIfInBounds_toArray, List.set_cons_zero, List.set_cons_succ]
  refine wpAnyH_take (i := 4) (v := ?_) rfl (by kernel_rfl) (by kernel_rfl) (by kernel_rfl) (fun _ _ _ h => h) (Or.inl ⟨by rfl, ?_⟩) h2 ?_
  rotate_left
  · (intro w hSw; (try dsimp only at hSw); go_simp); all_goals (with_reducible rfl)
  try simp only [List.getElem_toArray, List.getElem_cons_succ, List.getElem_cons_zero, Act.put, List.setIfInBounds_toArray, List.set_cons_zero, List.set_cons_succ]
  refine wpAnyH_take (i := 5) (v := ?_) rfl (by kernel_rfl) (by kernel_rfl) (by kernel_rfl) (fun _ _ _ h => h) (Or.inl ⟨by rfl, ?_⟩) h2 ?_
  rotate_left
  · (intro w hSw; (try dsimp only at hSw); go_simp); all_goals (with_reducible rfl)
  try simp only [List.getElem_toArray, List.getElem_cons_succ, List.getElem_cons_zero, Act.put, List.setIfInBounds_toArray, List.set_cons_zero, List.set_cons_succ]
  refine wpAnyH_done (by kernel_rfl) ?_ _
  clear h2
  go_wp2
  go_ret2
  exact ⟨_, _, _, rfl, HN.out, HB.out⟩
set_option maxHeartbeats 8000000 in
theorem own7 (w : World) : Calls Tryz.prog 23 #[.int .i64 7] w (Own (some [.nm, .sx]) w) := by
  go_enter Tryz.func23, Tryz.ntmps23
  go_wp2_with fail
  refine (number_fld .st rfl rfl _).mono ?_
  rintro e w1 ⟨⟨p1, q1, r1⟩, rfl, f, bb⟩
  obtain ⟨fq1, cq1, rfl⟩ := fld_shape2 f
  obtain ⟨fp1, cp1, fr1, cr1, rfl, rfl⟩ := fld_shape f
  have B1 := Lib.hid (bel2 bb (below_alloc w1 (.cells #[.func fp1 #[] cp1, .func fq1 #[] cq1, .func fr1 #[] cr1] 67)))
  have F1 := Lib.hid (f.over (below_alloc w1 (.cells #[.func fp1 #[] cp1, .func fq1 #[] cq1, .func fr1 #[] cr1] 67)))
  have X1 := Lib.hid (heap_alloc_new w1 (.cells #[.func fp1 #[] cp1, .func fq1 #[] cq1, .func fr1 #[] cr1] 67))
  clear f bb
  try simp only [agg3]
  go_wp2_with fail
  refine (text_fld .lg rfl _).mono ?_
  rintro e w2 ⟨⟨p2, q2, r2⟩, rfl, f, bb⟩
  obtain ⟨fq2, cq2, rfl⟩ := fld_shape2 f
  obtain ⟨fp2, cp2, fr2, cr2, rfl, rfl⟩ := fld_shape f
  replace F1 := Lib.hid (F1.out.over bb)
  replace X1 := Lib.hid (blockOver bb X1.out)
  replace B1 := Lib.hid (bel2 (bel2 B1.out bb) (below_alloc w2 (.cells #[.func fp2 #[] cp2, .func fq2 #[] cq2, .func fr2 #[] cr2] 67)))
  have F2 := Lib.hid (f.over (below_alloc w2 (.cells #[.func fp2 #[] cp2, .func fq2 #[] cq2, .func fr2 #[] cr2] 67)))
  have X2 := Lib.hid (heap_alloc_new w2 (.cells #[.func fp2 #[] cp2, .func fq2 #[] cq2, .func fr2 #[] cr2] 67))
  replace F1 := Lib.hid (F1.out.over (below_alloc w2 (.cells #[.func fp2 #[] cp2, .func fq2 #[] cq2, .func fr2 #[] cr2] 67)))
  replace X1 := Lib.hid (blockOver (below_alloc w2 (.cells #[.func fp2 #[] cp2, .func fq2 #[] cq2, .func fr2 #[] cr2] 67)) X1.out)
  clear f bb
  try simp only [agg3]
  go_wp2_with fail
  refine (label_fld _).mono ?_
  rintro e w3 ⟨⟨p3, q3, r3⟩, rfl, f, bb⟩
  obtain ⟨fq3, cq3, rfl⟩ := fld_shape2 f
  obtain ⟨fp3, cp3, fr3, cr3, rfl, rfl⟩ := fld_shape f
  replace F1 := Lib.hid (F1.out.over bb)
  replace X1 := Lib.hid (blockOver bb X1.out)
  replace F2 := Lib.hid (F2.out.over bb)
  replace X2 := Lib.hid (blockOver bb X2.out)
  replace B1 := Lib.hid (bel2 (bel2 B1.out bb) (below_alloc w3 (.cells #[.func fp3 #[] cp3, .func fq3 #[] cq3, .func fr3 #[] cr3] 67)))
  have F3 := Lib.hid (f.over (below_alloc w3 (.cells #[.func fp3 #[] cp3, .func fq3 #[] cq3, .func fr3 #[] cr3] 67)))
  have X3 := Lib.hid (heap_alloc_new w3 (.cells #[.func fp3 #[] cp3, .func fq3 #[] cq3, .func fr3 #[] cr3] 67))
  replace F1 := Lib.hid (F1.out.over (below_alloc w3 (.cells #[.func fp3 #[] cp3, .func fq3 #[] cq3, .func fr3 #[] cr3] 67)))
  replace X1 := Lib.hid (blockOver (below_alloc w3 (.cells #[.func fp3 #[] cp3, .func fq3 #[] cq3, .func fr3 #[] cr3] 67)) X1.out)
  replace F2 := Lib.hid (F2.out.over (below_alloc w3 (.cells #[.func fp3 #[] cp3, .func fq3 #[] cq3, .func fr3 #[] cr3] 67)))
  replace X2 := Lib.hid (blockOver (below_alloc w3 (.cells #[.func fp3 #[] cp3, .func fq3 #[] cq3, .func fr3 #[] cr3] 67)) X2.out)
  clear f bb
  try simp only [agg3]
  go_wp2_with fail
  refine (text_fld .nm rfl _).mono ?_
  rintro e w4 ⟨⟨p4, q4, r4⟩, rfl, f, bb⟩
  obtain ⟨fq4, cq4, rfl⟩ := fld_shape2 f
  obtain ⟨fp4, cp4, fr4, cr4, rfl, rfl⟩ := fld_shape f
  replace F1 := Lib.hid (F1.out.over bb)
  replace X1 := Lib.hid (blockOver bb X1.out)
  replace F2 := Lib.hid (F2.out.over bb)
  replace X2 := Lib.hid (blockOver bb X2.out)
  replace F3 := Lib.hid (F3.out.over bb)
  replace X3 := Lib.hid (blockOver bb X3.out)
  replace B1 := Lib.hid (bel2 (bel2 B1.out bb) (below_alloc w4 (.cells #[.func fp4 #[] cp4, .func fq4 #[] cq4, .func fr4 #[] cr4] 67)))
  have F4 := Lib.hid (f.over (below_alloc w4 (.cells #[.func fp4 #[] cp4, .func fq4 #[] cq4, .func fr4 #[] cr4] 67)))
  have X4 := Lib.hid (heap_alloc_new w4 (.cells #[.func fp4 #[] cp4, .func fq4 #[] cq4, .func fr4 #[] cr4] 67))
  replace F1 := Lib.hid (F1.out.over (below_alloc w4 (.cells #[.func fp4 #[] cp4, .func fq4 #[] cq4, .func fr4 #[] cr4] 67)))
  replace X1 := Lib.hid (blockOver (below_alloc w4 (.cells #[.func fp4 #[] cp4, .func fq4 #[] cq4, .func fr4 #[] cr4] 67)) X1.out)
  replace F2 := Lib.hid (F2.out.over (below_alloc w4 (.cells #[.func fp4 #[] cp4, .func fq4 #[] cq4, .func fr4 #[] cr4] 67)))
  replace X2 := Lib.hid (blockOver (below_alloc w4 (.cells #[.func fp4 #[] cp4, .func fq4 #[] cq4, .func fr4 #[] cr4] 67)) X2.out)
  replace F3 := Lib.hid (F3.out.over (below_alloc w4 (.cells #[.func fp4 #[] cp4, .func fq4 #[] cq4, .func fr4 #[] cr4] 67)))
  replace X3 := Lib.hid (blockOver (below_alloc w4 (.cells #[.func fp4 #[] cp4, .func fq4 #[] cq4, .func fr4 #[] cr4] 67)) X3.out)
  clear f bb
  try simp only [agg3]
  go_wp2_with fail
  refine (number_fld .pt rfl rfl _).mono ?_
  rintro e w5 ⟨⟨p5, q5, r5⟩, rfl, f, bb⟩
  obtain ⟨fq5, cq5, rfl⟩ := fld_shape2 f
  obtain ⟨fp5, cp5, fr5, cr5, rfl, rfl⟩ := fld_shape f
  replace F1 := Lib.hid (F1.out.over bb)
  replace X1 := Lib.hid (blockOver bb X1.out)
  replace F2 := Lib.hid (F2.out.over bb)
  replace X2 := Lib.hid (blockOver bb X2.out)
  replace F3 := Lib.hid (F3.out.over bb)
  replace X3 := Lib.hid (blockOver bb X3.out)
  replace F4 := Lib.hid (F4.out.over bb)
  replace X4 := Lib.hid (blockOver bb X4.out)
  replace B1 := Lib.hid (bel2 (bel2 B1.out bb) (below_alloc w5 (.cells #[.func fp5 #[] cp5, .func fq5 #[] cq5, .func fr5 #[] cr5] 67)))
  have F5 := Lib.hid (f.over (below_alloc w5 (.cells #[.func fp5 #[] cp5, .func fq5 #[] cq5, .func fr5 #[] cr5] 67)))
  have X5 := Lib.hid (heap_alloc_new w5 (.cells #[.func fp5 #[] cp5, .func fq5 #[] cq5, .func fr5 #[] cr5] 67))
  replace F1 := Lib.hid (F1.out.over (below_alloc w5 (.cells #[.func fp5 #[] cp5, .func fq5 #[] cq5, .func fr5 #[] cr5] 67)))
  replace X1 := Lib.hid (blockOver (below_alloc w5 (.cells #[.func fp5 #[] cp5, .func fq5 #[] cq5, .func fr5 #[] cr5] 67)) X1.out)
  replace F2 := Lib.hid (F2.out.over (below_alloc w5 (.cells #[.func fp5 #[] cp5, .func fq5 #[] cq5, .func fr5 #[] cr5] 67)))
  replace X2 := Lib.hid (blockOver (below_alloc w5 (.cells #[.func fp5 #[] cp5, .func fq5 #[] cq5, .func fr5 #[] cr5] 67)) X2.out)
  replace F3 := Lib.hid (F3.out.over (below_alloc w5 (.cells #[.func fp5 #[] cp5, .func fq5 #[] cq5, .func fr5 #[] cr5] 67)))
  replace X3 := Lib.hid (blockOver (below_alloc w5 (.cells #[.func fp5 #[] cp5, .func fq5 #[] cq5, .func fr5 #[] cr5] 67)) X3.out)
  replace F4 := Lib.hid (F4.out.over (below_alloc w5 (.cells #[.func fp5 #[] cp5, .func fq5 #[] cq5, .func fr5 #[] cr5] 67)))
  replace X4 := Lib.hid (blockOver (below_alloc w5 (.cells #[.func fp5 #[] cp5, .func fq5 #[] cq5, .func fr5 #[] cr5] 67)) X4.out)
  clear f bb
  try simp only [agg3]
  go_wp2_with fail
  refine (number_fld .cl rfl rfl _).mono ?_
  rintro e w6 ⟨⟨p6, q6, r6⟩, rfl, f, bb⟩
  obtain ⟨fq6, cq6, rfl⟩ := fld_shape2 f
  obtain ⟨fp6, cp6, fr6, cr6, rfl, rfl⟩ := fld_shape f
  replace F1 := Lib.hid (F1.out.over bb)
  replace X1 := Lib.hid (blockOver bb X1.out)
  replace F2 := Lib.hid (F2.out.over bb)
  replace X2 := Lib.hid (blockOver bb X2.out)
  replace F3 := Lib.hid (F3.out.over bb)
  replace X3 := Lib.hid (blockOver bb X3.out)
  replace F4 := Lib.hid (F4.out.over bb)
  replace X4 := Lib.hid (blockOver bb X4.out)
  replace F5 := Lib.hid (F5.out.over bb)
  replace X5 := Lib.hid (blockOver bb X5.out)
  replace B1 := Lib.hid (bel2 (bel2 B1.out bb) (below_alloc w6 (.cells #[.func fp6 #[] cp6, .func fq6 #[] cq6, .func fr6 #[] cr6] 67)))
  have F6 := Lib.hid (f.over (below_alloc w6 (.cells #[.func fp6 #[] cp6, .func fq6 #[] cq6, .func fr6 #[] cr6] 67)))
  have X6 := Lib.hid (heap_alloc_new w6 (.cells #[.func fp6 #[] cp6, .func fq6 #[] cq6, .func fr6 #[] cr6] 67))
  replace F1 := Lib.hid (F1.out.over (below_alloc w6 (.cells #[.func fp6 #[] cp6, .func fq6 #[] cq6, .func fr6 #[] cr6] 67)))
  replace X1 := Lib.hid (blockOver (below_alloc w6 (.cells #[.func fp6 #[] cp6, .func fq6 #[] cq6, .func fr6 #[] cr6] 67)) X1.out)
  replace F2 := Lib.hid (F2.out.over (below_alloc w6 (.cells #[.func fp6 #[] cp6, .func fq6 #[] cq6, .func fr6 #[] cr6] 67)))
  replace X2 := Lib.hid (blockOver (below_alloc w6 (.cells #[.func fp6 #[] cp6, .func fq6 #[] cq6, .func fr6 #[] cr6] 67)) X2.out)
  replace F3 := Lib.hid (F3.out.over (below_alloc w6 (.cells #[.func fp6 #[] cp6, .func fq6 #[] cq6, .func fr6 #[] cr6] 67)))
  replace X3 := Lib.hid (blockOver (below_alloc w6 (.cells #[.func fp6 #[] cp6, .func fq6 #[] cq6, .func fr6 #[] cr6] 67)) X3.out)
  replace F4 := Lib.hid (F4.out.over (below_alloc w6 (.cells #[.func fp6 #[] cp6, .func fq6 #[] cq6, .func fr6 #[] cr6] 67)))
  replace X4 := Lib.hid (blockOver (below_alloc w6 (.cells #[.func fp6 #[] cp6, .func fq6 #[] cq6, .func fr6 #[] cr6] 67)) X4.out)
  replace F5 := Lib.hid (F5.out.over (below_alloc w6 (.cells #[.func fp6 #[] cp6, .func fq6 #[] cq6, .func fr6 #[] cr6] 67)))
  replace X5 := Lib.hid (blockOver (below_alloc w6 (.cells #[.func fp6 #[] cp6, .func fq6 #[] cq6, .func fr6 #[] cr6] 67)) X5.out)
  clear f bb
  try simp only [agg3]
  go_wp2_with fail
  refine (number_fld .un rfl rfl _).mono ?_
  rintro e w7 ⟨⟨p7, q7, r7⟩, rfl, f, bb⟩
  obtain ⟨fq7, cq7, rfl⟩ := fld_shape2 f
  obtain ⟨fp7, cp7, fr7, cr7, rfl, rfl⟩ := fld_shape f
  replace F1 := Lib.hid (F1.out.over bb)
  replace X1 := Lib.hid (blockOver bb X1.out)
  replace F2 := Lib.hid (F2.out.over bb)
  replace X2 := Lib.hid (blockOver bb X2.out)
  replace F3 := Lib.hid (F3.out.over bb)
  replace X3 := Lib.hid (blockOver bb X3.out)
  replace F4 := Lib.hid (F4.out.over bb)
  replace X4 := Lib.hid (blockOver bb X4.out)
  replace F5 := Lib.hid (F5.out.over bb)
  replace X5 := Lib.hid (blockOver bb X5.out)
  replace F6 := Lib.hid (F6.out.over bb)
  replace X6 := Lib.hid (blockOver bb X6.out)
  replace B1 := Lib.hid (bel2 (bel2 B1.out bb) (below_alloc w7 (.cells #[.func fp7 #[] cp7, .func fq7 #[] cq7, .func fr7 #[] cr7] 67)))
  have F7 := Lib.hid (f.over (below_alloc w7 (.cells #[.func fp7 #[] cp7, .func fq7 #[] cq7, .func fr7 #[] cr7] 67)))
  have X7 := Lib.hid (heap_alloc_new w7 (.cells #[.func fp7 #[] cp7, .func fq7 #[] cq7, .func fr7 #[] cr7] 67))
  replace F1 := Lib.hid (F1.out.over (below_alloc w7 (.cells #[.func fp7 #[] cp7, .func fq7 #[] cq7, .func fr7 #[] cr7] 67)))
  replace X1 := Lib.hid (blockOver (below_alloc w7 (.cells #[.func fp7 #[] cp7, .func fq7 #[] cq7, .func fr7 #[] cr7] 67)) X1.out)
  replace F2 := Lib.hid (F2.out.over (below_alloc w7 (.cells #[.func fp7 #[] cp7, .func fq7 #[] cq7, .func fr7 #[] cr7] 67)))
  replace X2 := Lib.hid (blockOver (below_alloc w7 (.cells #[.func fp7 #[] cp7, .func fq7 #[] cq7, .func fr7 #[] cr7] 67)) X2.out)
  replace F3 := Lib.hid (F3.out.over (below_alloc w7 (.cells #[.func fp7 #[] cp7, .func fq7 #[] cq7, .func fr7 #[] cr7] 67)))
  replace X3 := Lib.hid (blockOver (below_alloc w7 (.cells #[.func fp7 #[] cp7, .func fq7 #[] cq7, .func fr7 #[] cr7] 67)) X3.out)
  replace F4 := Lib.hid (F4.out.over (below_alloc w7 (.cells #[.func fp7 #[] cp7, .func fq7 #[] cq7, .func fr7 #[] cr7] 67)))
  replace X4 := Lib.hid (blockOver (below_alloc w7 (.cells #[.func fp7 #[] cp7, .func fq7 #[] cq7, .func fr7 #[] cr7] 67)) X4.out)
  replace F5 := Lib.hid (F5.out.over (below_alloc w7 (.cells #[.func fp7 #[] cp7, .func fq7 #[] cq7, .func fr7 #[] cr7] 67)))
  replace X5 := Lib.hid (blockOver (below_alloc w7 (.cells #[.func fp7 #[] cp7, .func fq7 #[] cq7, .func fr7 #[] cr7] 67)) X5.out)
  replace F6 := Lib.hid (F6.out.over (below_alloc w7 (.cells #[.func fp7 #[] cp7, .func fq7 #[] cq7, .func fr7 #[] cr7] 67)))
  replace X6 := Lib.hid (blockOver (below_alloc w7 (.cells #[.func fp7 #[] cp7, .func fq7 #[] cq7, .func fr7 #[] cr7] 67)) X6.out)
  clear f bb
  try simp only [agg3]
  go_wp2_with fail
  obtain ⟨c40, c41, c42⟩ := cells3 X4.out
  have bc := Below.refl (w7.alloc (.cells #[.func fp7 #[] cp7, .func fq7 #[] cq7, .func fr7 #[] cr7] 67)).heap.size (w7.alloc (.cells #[.func fp7 #[] cp7, .func fq7 #[] cq7, .func fr7 #[] cr7] 67))
  refine wp_region_held_drew (S := fun w' => Below (w7.alloc (.cells #[.func fp7 #[] cp7, .func fq7 #[] cq7, .func fr7 #[] cr7] 67)).heap.size (w7.alloc (.cells #[.func fp7 #[] cp7, .func fq7 #[] cq7, .func fr7 #[] cr7] 67)) w' ∧ w'.cell? ⟨w4.heap.size, 0, none⟩ = some (.func fp4 #[] cp4) ∧ w'.cell? ⟨w4.heap.size, 1, none⟩ = some (.func fq4 #[] cq4) ∧ w'.cell? ⟨w4.heap.size, 2, none⟩ = some (.func fr4 #[] cr4)) (by kernel_rfl) ?_ (fun h0 => ?_)
  · exact ⟨bc.drew, c40, c41, c42⟩
  refine wpAnyH_take (i := 0) (v := ?_) rfl (by kernel_rfl) (by kernel_rfl) (by kernel_rfl) (fun _ _ _ h => h) (Or.inl ⟨by rfl, ?_⟩) h0 ?_
  rotate_left
  · (intro w hSw; (try dsimp only at hSw); go_simp); all_goals (with_reducible rfl)
  try simp only [List.getElem_toArray, List.getElem_cons_succ, List.getElem_cons_zero, Act.put, List.setIfInBounds_toArray, List.set_cons_zero, List.set_cons_succ]
  refine wpAnyH_take (i := 1) (v := ?_) rfl (by kernel_rfl) (by kernel_rfl) (by kernel_rfl) (fun _ _ _ h => h) (Or.inl ⟨by rfl, ?_⟩) h0 ?_
  rotate_left
  · (intro w hSw; (try dsimp only at hSw); go_simp); all_goals (with_reducible rfl)
  try simp only [List.getElem_toArray, List.getElem_cons_succ, List.getElem_cons_zero, Act.put, List.setIfInBounds_toArray, List.set_cons_zero, List.set_cons_succ]
  refine wpAnyH_ready (rs := [2]) (by kernel_rfl) (by simp) ?_
  refine AllReadyH.cons rfl (fun K hK => ?_) AllReadyH.nil
  go_simp
  refine (text_fld .sx rfl _).mono ?_
  rintro e w8 ⟨⟨p8, q8, r8⟩, rfl, f, bq⟩
  obtain ⟨fq8, cq8, rfl⟩ := fld_shape2 f
  obtain ⟨fp8, cp8, fr8, cr8, rfl, rfl⟩ := fld_shape f
  simp only [agg3]
  go_wp2_with fail
  have bS := And.intro (bel2 h0.1 bq) (And.intro (cellOver bq (h0.2.1)) (And.intro (cellOver bq (h0.2.2.1)) (cellOver bq (h0.2.2.2))))
  have BC := Lib.hid (bel2 h0.1 bq)
  have F8 := Lib.hid f
  clear f bq
  refine hK.out _ _ ?_ (fun h1 => ?_)
  · exact bS
  clear hK K h0 bS
  try simp only [List.getElem_toArray, List.getElem_cons_succ, List.getElem_cons_zero, Act.put, List.setIfInBounds_toArray, List.set_cons_zero, List.set_cons_succ]
  refine wpAnyH_ready (rs := [3]) (by kernel_rfl) (by simp) ?_
  refine AllReadyH.cons rfl (fun K hK => ?_) AllReadyH.nil
  go_simp
  have HN := Lib.hid (fls_new (W := w8) (vs := [(.func fp4 #[] cp4, .func fq4 #[] cq4, .func fr4 #[] cr4), (.func fp8 #[] cp8, .func fq8 #[] cq8, .func fr8 #[] cr8)]) (l := [.nm, .sx]) w8.heap.size rfl 2 rfl (by decide) ⟨(F4.out.over BC.out), F8.out, trivial⟩ #[.func fp4 #[] cp4, .func fq4 #[] cq4, .func fr4 #[] cr4, .func fp8 #[] cp8, .func fq8 #[] cq8, .func fr8 #[] cr8] rfl)
  have HB := Lib.hid (bel2 (bel2 B1.out BC.out) (below_alloc w8 (.cells #[.func fp4 #[] cp4, .func fq4 #[] cq4, .func fr4 #[] cr4, .func fp8 #[] cp8, .func fq8 #[] cq8, .func fr8 #[] cr8] 67)))
  have bS := And.intro (bel2 h1.1 (below_alloc w8 (.cells #[.func fp4 #[] cp4, .func fq4 #[] cq4, .func fr4 #[] cr4, .func fp8 #[] cp8, .func fq8 #[] cq8, .func fr8 #[] cr8] 67))) (And.intro (cellOver (below_alloc w8 (.cells #[.func fp4 #[] cp4, .func fq4 #[] cq4, .func fr4 #[] cr4, .func fp8 #[] cp8, .func fq8 #[] cq8, .func fr8 #[] cr8] 67)) (h1.2.1)) (And.intro (cellOver (below_alloc w8 (.cells #[.func fp4 #[] cp4, .func fq4 #[] cq4, .func fr4 #[] cr4, .func fp8 #[] cp8, .func fq8 #[] cq8, .func fr8 #[] cr8] 67)) (h1.2.2.1)) (cellOver (below_alloc w8 (.cells #[.func fp4 #[] cp4, .func fq4 #[] cq4, .func fr4 #[] cr4, .func fp8 #[] cp8, .func fq8 #[] cq8, .func fr8 #[] cr8] 67)) (h1.2.2.2))))
  refine hK.out _ _ ?_ (fun h2 => ?_)
  · exact bS
  clear hK K h1 bS
  try simp only [List.getElem_toArray, List.getElem_cons_succ, List.getElem_cons_zero, Act.put, List.setIfInBounds_toArray, List.set_cons_zero, List.set_cons_succ]
  refine wpAnyH_take (i := 4) (v := ?_) rfl (by kernel_rfl) (by kernel_rfl) (by kernel_rfl) (fun _ _ _ h => h) (Or.inl ⟨by rfl, ?_⟩) h2 ?_
  rotate_left
  · (intro w hSw; (try dsimp only at hSw); go_simp); all_goals (with_reducible rfl)
  try simp only [List.getElem_toArray, List.getElem_cons_succ, List.getElem_cons_zero, Act.put, List.setIfInBounds_toArray, List.set_cons_zero, List.set_cons_succ]
  refine wpAnyH_take (i := 5) (v := ?_) rfl (by kernel_rfl) (by kernel_rfl) (by kernel_rfl) (fun _ _ _ h => h) (Or.inl ⟨by rfl, ?_⟩) h2 ?_
  rotate_left
  · (intro w hSw; (try dsimp only at hSw); go_simp); all_goals (with_reducible rfl)
  try simp only [List.getElem_toArray, List.getElem_cons_succ, List.getElem_cons_zero, Act.put, List.setIfInBounds_toArray, List.set_cons_zero, List.set_cons_succ]
  refine wpAnyH_done (by kernel_rfl) ?_ _
  clear h2
  go_wp2
  go_ret2
  exact ⟨_, _, _, rfl, HN.out, HB.out⟩
set_option maxHeartbeats 8000000 in
theorem own0 (w : World) (k : Int) (h1 : (k == 1) = false) (h2 : (k == 2) = false) (h3 : (k == 3) = false) (h4 : (k == 4) = false) (h5 : (k == 5) = false) (h6 : (k == 6) = false) (h7 : (k == 7) = false) (h8 : (k == 8) = false) (h9 : (k == 9) = false) (h10 : (k == 10) = false) : Calls Tryz.prog 23 #[.int .i64 k] w (Own (none) w) := by
  go_enter Tryz.func23, Tryz.ntmps23
  go_wp2_with fail
  refine (number_fld .st rfl rfl _).mono ?_
  rintro e w1 ⟨⟨p1, q1, r1⟩, rfl, f, bb⟩
  obtain ⟨fq1, cq1, rfl⟩ := fld_shape2 f
  obtain ⟨fp1, cp1, fr1, cr1, rfl, rfl⟩ := fld_shape f
  have B1 := Lib.hid (bel2 bb (below_alloc w1 (.cells #[.func fp1 #[] cp1, .func fq1 #[] cq1, .func fr1 #[] cr1] 67)))
  have F1 := Lib.hid (f.over (below_alloc w1 (.cells #[.func fp1 #[] cp1, .func fq1 #[] cq1, .func fr1 #[] cr1] 67)))
  have X1 := Lib.hid (heap_alloc_new w1 (.cells #[.func fp1 #[] cp1, .func fq1 #[] cq1, .func fr1 #[] cr1] 67))
  clear f bb
  try simp only [agg3]
  go_wp2_with fail
  refine (text_fld .lg rfl _).mono ?_
  rintro e w2 ⟨⟨p2, q2, r2⟩, rfl, f, bb⟩
  obtain ⟨fq2, cq2, rfl⟩ := fld_shape2 f
  obtain ⟨fp2, cp2, fr2, cr2, rfl, rfl⟩ := fld_shape f
  replace F1 := Lib.hid (F1.out.over bb)
  replace X1 := Lib.hid (blockOver bb X1.out)
  replace B1 := Lib.hid (bel2 (bel2 B1.out bb) (below_alloc w2 (.cells #[.func fp2 #[] cp2, .func fq2 #[] cq2, .func fr2 #[] cr2] 67)))
  have F2 := Lib.hid (f.over (below_alloc w2 (.cells #[.func fp2 #[] cp2, .func fq2 #[] cq2, .func fr2 #[] cr2] 67)))
  have X2 := Lib.hid (heap_alloc_new w2 (.cells #[.func fp2 #[] cp2, .func fq2 #[] cq2, .func fr2 #[] cr2] 67))
  replace F1 := Lib.hid (F1.out.over (below_alloc w2 (.cells #[.func fp2 #[] cp2, .func fq2 #[] cq2, .func fr2 #[] cr2] 67)))
  replace X1 := Lib.hid (blockOver (below_alloc w2 (.cells #[.func fp2 #[] cp2, .func fq2 #[] cq2, .func fr2 #[] cr2] 67)) X1.out)
  clear f bb
  try simp only [agg3]
  go_wp2_with fail
  refine (label_fld _).mono ?_
  rintro e w3 ⟨⟨p3, q3, r3⟩, rfl, f, bb⟩
  obtain ⟨fq3, cq3, rfl⟩ := fld_shape2 f
  obtain ⟨fp3, cp3, fr3, cr3, rfl, rfl⟩ := fld_shape f
  replace F1 := Lib.hid (F1.out.over bb)
  replace X1 := Lib.hid (blockOver bb X1.out)
  replace F2 := Lib.hid (F2.out.over bb)
  replace X2 := Lib.hid (blockOver bb X2.out)
  replace B1 := Lib.hid (bel2 (bel2 B1.out bb) (below_alloc w3 (.cells #[.func fp3 #[] cp3, .func fq3 #[] cq3, .func fr3 #[] cr3] 67)))
  have F3 := Lib.hid (f.over (below_alloc w3 (.cells #[.func fp3 #[] cp3, .func fq3 #[] cq3, .func fr3 #[] cr3] 67)))
  have X3 := Lib.hid (heap_alloc_new w3 (.cells #[.func fp3 #[] cp3, .func fq3 #[] cq3, .func fr3 #[] cr3] 67))
  replace F1 := Lib.hid (F1.out.over (below_alloc w3 (.cells #[.func fp3 #[] cp3, .func fq3 #[] cq3, .func fr3 #[] cr3] 67)))
  replace X1 := Lib.hid (blockOver (below_alloc w3 (.cells #[.func fp3 #[] cp3, .func fq3 #[] cq3, .func fr3 #[] cr3] 67)) X1.out)
  replace F2 := Lib.hid (F2.out.over (below_alloc w3 (.cells #[.func fp3 #[] cp3, .func fq3 #[] cq3, .func fr3 #[] cr3] 67)))
  replace X2 := Lib.hid (blockOver (below_alloc w3 (.cells #[.func fp3 #[] cp3, .func fq3 #[] cq3, .func fr3 #[] cr3] 67)) X2.out)
  clear f bb
  try simp only [agg3]
  go_wp2_with fail
  refine (text_fld .nm rfl _).mono ?_
  rintro e w4 ⟨⟨p4, q4, r4⟩, rfl, f, bb⟩
  obtain ⟨fq4, cq4, rfl⟩ := fld_shape2 f
  obtain ⟨fp4, cp4, fr4, cr4, rfl, rfl⟩ := fld_shape f
  replace F1 := Lib.hid (F1.out.over bb)
  replace X1 := Lib.hid (blockOver bb X1.out)
  replace F2 := Lib.hid (F2.out.over bb)
  replace X2 := Lib.hid (blockOver bb X2.out)
  replace F3 := Lib.hid (F3.out.over bb)
  replace X3 := Lib.hid (blockOver bb X3.out)
  replace B1 := Lib.hid (bel2 (bel2 B1.out bb) (below_alloc w4 (.cells #[.func fp4 #[] cp4, .func fq4 #[] cq4, .func fr4 #[] cr4] 67)))
  have F4 := Lib.hid (f.over (below_alloc w4 (.cells #[.func fp4 #[] cp4, .func fq4 #[] cq4, .func fr4 #[] cr4] 67)))
  have X4 := Lib.hid (heap_alloc_new w4 (.cells #[.func fp4 #[] cp4, .func fq4 #[] cq4, .func fr4 #[] cr4] 67))
  replace F1 := Lib.hid (F1.out.over (below_alloc w4 (.cells #[.func fp4 #[] cp4, .func fq4 #[] cq4, .func fr4 #[] cr4] 67)))
  replace X1 := Lib.hid (blockOver (below_alloc w4 (.cells #[.func fp4 #[] cp4, .func fq4 #[] cq4, .func fr4 #[] cr4] 67)) X1.out)
  replace F2 := Lib.hid (F2.out.over (below_alloc w4 (.cells #[.func fp4 #[] cp4, .func fq4 #[] cq4, .func fr4 #[] cr4] 67)))
  replace X2 := Lib.hid (blockOver (below_alloc w4 (.cells #[.func fp4 #[] cp4, .func fq4 #[] cq4, .func fr4 #[] cr4] 67)) X2.out)
  replace F3 := Lib.hid (F3.out.over (below_alloc w4 (.cells #[.func fp4 #[] cp4, .func fq4 #[] cq4, .func fr4 #[] cr4] 67)))
  replace X3 := Lib.hid (blockOver (below_alloc w4 (.cells #[.func fp4 #[] cp4, .func fq4 #[] cq4, .func fr4 #[] cr4] 67)) X3.out)
  clear f bb
  try simp only [agg3]
  go_wp2_with fail
  refine (number_fld .pt rfl rfl _).mono ?_
  rintro e w5 ⟨⟨p5, q5, r5⟩, rfl, f, bb⟩
  obtain ⟨fq5, cq5, rfl⟩ := fld_shape2 f
  obtain ⟨fp5, cp5, fr5, cr5, rfl, rfl⟩ := fld_shape f
  replace F1 := Lib.hid (F1.out.over bb)
  replace X1 := Lib.hid (blockOver bb X1.out)
  replace F2 := Lib.hid (F2.out.over bb)
  replace X2 := Lib.hid (blockOver bb X2.out)
  replace F3 := Lib.hid (F3.out.over bb)
  replace X3 := Lib.hid (blockOver bb X3.out)
  replace F4 := Lib.hid (F4.out.over bb)
  replace X4 := Lib.hid (blockOver bb X4.out)
  replace B1 := Lib.hid (bel2 (bel2 B1.out bb) (below_alloc w5 (.cells #[.func fp5 #[] cp5, .func fq5 #[] cq5, .func fr5 #[] cr5] 67)))
  have F5 := Lib.hid (f.over (below_alloc w5 (.cells #[.func fp5 #[] cp5, .func fq5 #[] cq5, .func fr5 #[] cr5] 67)))
  have X5 := Lib.hid (heap_alloc_new w5 (.cells #[.func fp5 #[] cp5, .func fq5 #[] cq5, .func fr5 #[] cr5] 67))
  replace F1 := Lib.hid (F1.out.over (below_alloc w5 (.cells #[.func fp5 #[] cp5, .func fq5 #[] cq5, .func fr5 #[] cr5] 67)))
  replace X1 := Lib.hid (blockOver (below_alloc w5 (.cells #[.func fp5 #[] cp5, .func fq5 #[] cq5, .func fr5 #[] cr5] 67)) X1.out)
  replace F2 := Lib.hid (F2.out.over (below_alloc w5 (.cells #[.func fp5 #[] cp5, .func fq5 #[] cq5, .func fr5 #[] cr5] 67)))
  replace X2 := Lib.hid (blockOver (below_alloc w5 (.cells #[.func fp5 #[] cp5, .func fq5 #[] cq5, .func fr5 #[] cr5] 67)) X2.out)
  replace F3 := Lib.hid (F3.out.over (below_alloc w5 (.cells #[.func fp5 #[] cp5, .func fq5 #[] cq5, .func fr5 #[] cr5] 67)))
  replace X3 := Lib.hid (blockOver (below_alloc w5 (.cells #[.func fp5 #[] cp5, .func fq5 #[] cq5, .func fr5 #[] cr5] 67)) X3.out)
  replace F4 := Lib.hid (F4.out.over (below_alloc w5 (.cells #[.func fp5 #[] cp5, .func fq5 #[] cq5, .func fr5 #[] cr5] 67)))
  replace X4 := Lib.hid (blockOver (below_alloc w5 (.cells #[.func fp5 #[] cp5, .func fq5 #[] cq5, .func fr5 #[] cr5] 67)) X4.out)
  clear f bb
  try simp only [agg3]
  go_wp2_with fail
  refine (number_fld .cl rfl rfl _).mono ?_
  rintro e w6 ⟨⟨p6, q6, r6⟩, rfl, f, bb⟩
  obtain ⟨fq6, cq6, rfl⟩ := fld_shape2 f
  obtain ⟨fp6, cp6, fr6, cr6, rfl, rfl⟩ := fld_shape f
  replace F1 := Lib.hid (F1.out.over bb)
  replace X1 := Lib.hid (blockOver bb X1.out)
  replace F2 := Lib.hid (F2.out.over bb)
  replace X2 := Lib.hid (blockOver bb X2.out)
  replace F3 := Lib.hid (F3.out.over bb)
  replace X3 := Lib.hid (blockOver bb X3.out)
  replace F4 := Lib.hid (F4.out.over bb)
  replace X4 := Lib.hid (blockOver bb X4.out)
  replace F5 := Lib.hid (F5.out.over bb)
  replace X5 := Lib.hid (blockOver bb X5.out)
  replace B1 := Lib.hid (bel2 (bel2 B1.out bb) (below_alloc w6 (.cells #[.func fp6 #[] cp6, .func fq6 #[] cq6, .func fr6 #[] cr6] 67)))
  have F6 := Lib.hid (f.over (below_alloc w6 (.cells #[.func fp6 #[] cp6, .func fq6 #[] cq6, .func fr6 #[] cr6] 67)))
  have X6 := Lib.hid (heap_alloc_new w6 (.cells #[.func fp6 #[] cp6, .func fq6 #[] cq6, .func fr6 #[] cr6] 67))
  replace F1 := Lib.hid (F1.out.over (below_alloc w6 (.cells #[.func fp6 #[] cp6, .func fq6 #[] cq6, .func fr6 #[] cr6] 67)))
  replace X1 := Lib.hid (blockOver (below_alloc w6 (.cells #[.func fp6 #[] cp6, .func fq6 #[] cq6, .func fr6 #[] cr6] 67)) X1.out)
  replace F2 := Lib.hid (F2.out.over (below_alloc w6 (.cells #[.func fp6 #[] cp6, .func fq6 #[] cq6, .func fr6 #[] cr6] 67)))
  replace X2 := Lib.hid (blockOver (below_alloc w6 (.cells #[.func fp6 #[] cp6, .func fq6 #[] cq6, .func fr6 #[] cr6] 67)) X2.out)
  replace F3 := Lib.hid (F3.out.over (below_alloc w6 (.cells #[.func fp6 #[] cp6, .func fq6 #[] cq6, .func fr6 #[] cr6] 67)))
  replace X3 := Lib.hid (blockOver (below_alloc w6 (.cells #[.func fp6 #[] cp6, .func fq6 #[] cq6, .func fr6 #[] cr6] 67)) X3.out)
  replace F4 := Lib.hid (F4.out.over (below_alloc w6 (.cells #[.func fp6 #[] cp6, .func fq6 #[] cq6, .func fr6 #[] cr6] 67)))
  replace X4 := Lib.hid (blockOver (below_alloc w6 (.cells #[.func fp6 #[] cp6, .func fq6 #[] cq6, .func fr6 #[] cr6] 67)) X4.out)
  replace F5 := Lib.hid (F5.out.over (below_alloc w6 (.cells #[.func fp6 #[] cp6, .func fq6 #[] cq6, .func fr6 #[] cr6] 67)))
  replace X5 := Lib.hid (blockOver (below_alloc w6 (.cells #[.func fp6 #[] cp6, .func fq6 #[] cq6, .func fr6 #[] cr6] 67)) X5.out)
  clear f bb
  try simp only [agg3]
  go_wp2_with fail
  refine (number_fld .un rfl rfl _).mono ?_
  rintro e w7 ⟨⟨p7, q7, r7⟩, rfl, f, bb⟩
  obtain ⟨fq7, cq7, rfl⟩ := fld_shape2 f
  obtain ⟨fp7, cp7, fr7, cr7, rfl, rfl⟩ := fld_shape f
  replace F1 := Lib.hid (F1.out.over bb)
  replace X1 := Lib.hid (blockOver bb X1.out)
  replace F2 := Lib.hid (F2.out.over bb)
  replace X2 := Lib.hid (blockOver bb X2.out)
  replace F3 := Lib.hid (F3.out.over bb)
  replace X3 := Lib.hid (blockOver bb X3.out)
  replace F4 := Lib.hid (F4.out.over bb)
  replace X4 := Lib.hid (blockOver bb X4.out)
  replace F5 := Lib.hid (F5.out.over bb)
  replace X5 := Lib.hid (blockOver bb X5.out)
  replace F6 := Lib.hid (F6.out.over bb)
  replace X6 := Lib.hid (blockOver bb X6.out)
  replace B1 := Lib.hid (bel2 (bel2 B1.out bb) (below_alloc w7 (.cells #[.func fp7 #[] cp7, .func fq7 #[] cq7, .func fr7 #[] cr7] 67)))
  have F7 := Lib.hid (f.over (below_alloc w7 (.cells #[.func fp7 #[] cp7, .func fq7 #[] cq7, .func fr7 #[] cr7] 67)))
  have X7 := Lib.hid (heap_alloc_new w7 (.cells #[.func fp7 #[] cp7, .func fq7 #[] cq7, .func fr7 #[] cr7] 67))
  replace F1 := Lib.hid (F1.out.over (below_alloc w7 (.cells #[.func fp7 #[] cp7, .func fq7 #[] cq7, .func fr7 #[] cr7] 67)))
  replace X1 := Lib.hid (blockOver (below_alloc w7 (.cells #[.func fp7 #[] cp7, .func fq7 #[] cq7, .func fr7 #[] cr7] 67)) X1.out)
  replace F2 := Lib.hid (F2.out.over (below_alloc w7 (.cells #[.func fp7 #[] cp7, .func fq7 #[] cq7, .func fr7 #[] cr7] 67)))
  replace X2 := Lib.hid (blockOver (below_alloc w7 (.cells #[.func fp7 #[] cp7, .func fq7 #[] cq7, .func fr7 #[] cr7] 67)) X2.out)
  replace F3 := Lib.hid (F3.out.over (below_alloc w7 (.cells #[.func fp7 #[] cp7, .func fq7 #[] cq7, .func fr7 #[] cr7] 67)))
  replace X3 := Lib.hid (blockOver (below_alloc w7 (.cells #[.func fp7 #[] cp7, .func fq7 #[] cq7, .func fr7 #[] cr7] 67)) X3.out)
  replace F4 := Lib.hid (F4.out.over (below_alloc w7 (.cells #[.func fp7 #[] cp7, .func fq7 #[] cq7, .func fr7 #[] cr7] 67)))
  replace X4 := Lib.hid (blockOver (below_alloc w7 (.cells #[.func fp7 #[] cp7, .func fq7 #[] cq7, .func fr7 #[] cr7] 67)) X4.out)
  replace F5 := Lib.hid (F5.out.over (below_alloc w7 (.cells #[.func fp7 #[] cp7, .func fq7 #[] cq7, .func fr7 #[] cr7] 67)))
  replace X5 := Lib.hid (blockOver (below_alloc w7 (.cells #[.func fp7 #[] cp7, .func fq7 #[] cq7, .func fr7 #[] cr7] 67)) X5.out)
  replace F6 := Lib.hid (F6.out.over (below_alloc w7 (.cells #[.func fp7 #[] cp7, .func fq7 #[] cq7, .func fr7 #[] cr7] 67)))
  replace X6 := Lib.hid (blockOver (below_alloc w7 (.cells #[.func fp7 #[] cp7, .func fq7 #[] cq7, .func fr7 #[] cr7] 67)) X6.out)
  clear f bb
  try simp only [agg3]
  go_wp2_with fail
  go_wp2
  go_ret2
  exact ⟨rfl, B1.out⟩
end Go.Proofs.YtlhcckjfgpcohaaGreatDoor
