import Derived.Test.YtelipjjjlgnjoaaGreatDoorMgK
import Derived.Test.YtelipjjjlgnjoaaGreatDoorRefSame
import Derived.Test.YtelipjjjlgnjoaaGreatDoorBlkS
import Derived.Test.YtelipjjjlgnjoaaGreatDoorBlkVL
namespace Go.Proofs.YtelipjjjlgnjoaaGreatDoor
open Go.RowKit Go.MapKept Go.Shelf
attribute [local go_sem] Oper.semAt_some
set_option maxRecDepth 100000
set_option linter.unusedSimpArgs false
set_option linter.unusedVariables false
theorem mk_any (k : Int) (s : ByteArray) (w : World) : Calls Tryz.prog 26 #[.int .i64 k, .string s] w fun e w' => e = .returned (.agg #[.int .i64 k, .int .i64 2, .string s, .int .i64 0, .int .i64 0, .int .i64 0, .slice none 0 0, .int .i64 0, .int .i64 0]) ∧ Below w.heap.size w w' := by
  have B0 := below_alloc w (.cells #[.int .i64 k, .int .i64 2, .string s, .int .i64 0, .int .i64 0, .int .i64 0, .slice none 0 0, .int .i64 0, .int .i64 0] 39)
  go_enter Tryz.func26, Tryz.ntmps26
  go_wp2
  refine bodyPost_ret (v := .agg #[.int .i64 k, .int .i64 2, .string s, .int .i64 0, .int .i64 0, .int .i64 0, .slice none 0 0, .int .i64 0, .int .i64 0]) (by simp [results, Tryz.results26, go_sem]) rfl ⟨rfl, B0⟩
def bN (k : Int) (c : UInt8) : Blk := ⟨k, 2, [c], 0, 0, zeroL⟩
def beN (b : Blk) : BE := (b, none, 0, 0)
theorem beN_ok (w : World) (b : Blk) (h0 : b.lb = zeroL) (h1 : b.tx.length ≤ 1000) (h2 : Bd b.id ∧ Bd b.kd ∧ Bd b.st ∧ Bd b.rf) : BeOk w (beN b) :=
  ⟨by show LabAt w none 0 0 b.lb; rw [h0]; exact ⟨⟨rfl, Nat.le_refl _, Nat.zero_le _, by simp [zeroL], .inl rfl⟩, by simp [zeroL, Bd]⟩, by show b.tx.length ≤ _; unfold maxLen; omega, h2⟩
theorem blks_block {W : World} {g : Nat} {t : TypeId} {fr : Nat × Nat} (es : List BE) (n : Nat) (hn : es.length = n) (hl : n ≤ 1000) (he : ∀ e ∈ es, BeOk W e) (h : W.heap[g]? = some (.cells (es.flatMap elB).toArray t fr)) : IsBlks W (some ⟨g, 0, none⟩) n n es := by
  refine ⟨hn, Nat.le_refl _, by unfold maxLen; omega, he, .inr ⟨g, 0, rfl, fun k e hk j v hv => ?_⟩⟩
  rw [Joins.cell_of_block h, Nat.zero_add]
  simpa using flat9_at es k e hk j v hv
theorem mkN_ok (w : World) (k : Int) (c : UInt8) (hk : 0 ≤ k ∧ k ≤ 100) : BeOk w (beN (bN k c)) := beN_ok w _ rfl (by simp [bN]) (by simp [bN, Bd]; omega)
def bZ : Blk := ⟨0, 0, [], 0, 0, zeroL⟩
def lA : List BE := [beN (bN 1 97), beN (bN 2 98), beN (bN 3 99)]
def lB : List BE := [beN (bN 1 97), beN (bN 2 120), beN (bN 3 99)]
def lC : List BE := [beN (bN 1 97), beN (bN 2 98), beN (bN 3 99), beN (bN 4 100)]
def lD : List BE := [beN (bN 1 97), beN (bN 2 121), beN (bN 3 99)]
def lE : List BE := [beN (bN 1 97), beN (bN 2 120), beN (bN 3 99), beN (bN 4 100)]
def lZ : List BE := [beN bZ]
theorem ok3 (w : World) : (∀ e ∈ lA, BeOk w e) ∧ (∀ e ∈ lB, BeOk w e) ∧ (∀ e ∈ lC, BeOk w e) ∧ (∀ e ∈ lD, BeOk w e) ∧ (∀ e ∈ lE, BeOk w e) ∧ (∀ e ∈ lZ, BeOk w e) := by
  refine ⟨?_, ?_, ?_, ?_, ?_, ?_⟩
  all_goals
    intro e he
    simp only [lA, lB, lC, lD, lE, lZ, List.mem_cons, List.not_mem_nil, or_false] at he
    try (rcases he with rfl | rfl | rfl <;> exact mkN_ok w _ _ (by omega))
    try (rcases he with rfl | rfl | rfl | rfl <;> exact mkN_ok w _ _ (by omega))
    try (subst he; exact beN_ok w bZ rfl (by simp [bZ]) (by simp [bZ, Bd]))
theorem sane_1 : (mergeR (blks lA) (blks lB) (blks lC)).2 = ([], 0) ∧ sL (mergeR (blks lA) (blks lB) (blks lC)).1 (blks lE) = true := by decide +kernel
theorem sane_2 : (mergeR (blks lA) (blks lB) (blks lD)).2 = ([2], 0) ∧ sL (mergeR (blks lA) (blks lB) (blks lD)).1 (blks lD) = true := by decide +kernel
theorem sane_3 : (mergeR (blks lA) (blks lZ) (blks lC)).2.2 = 40 := by decide +kernel
set_option maxHeartbeats 16000000 in
theorem sane_any (w : World) : Calls Tryz.prog 12 #[] w fun e w' => e = .returned (.bool true) ∧ Below w.heap.size w w' := by
  go_enter Tryz.func12, Tryz.ntmps12
  go_wp2_with fail
  have B0 := Lib.hid (Below.refl w.heap.size w)
  refine (mk_any _ _ _).mono ?_
  rintro e w1 ⟨rfl, b1⟩
  have B1 := Lib.hid (bel2 B0.out b1)
  clear b1
  go_wp2_with fail
  refine (mk_any _ _ _).mono ?_
  rintro e w2 ⟨rfl, b2⟩
  have B2 := Lib.hid (bel2 B1.out b2)
  clear b2
  go_wp2_with fail
  refine (mk_any _ _ _).mono ?_
  rintro e w3 ⟨rfl, b3⟩
  have B3 := Lib.hid (bel2 B2.out b3)
  clear b3
  go_wp2_with fail
  refine (mk_any _ _ _).mono ?_
  rintro e w4 ⟨rfl, b4⟩
  have B4 := Lib.hid (bel2 (bel2 B3.out (below_alloc _ _)) b4)
  have HA := Lib.hid (blks_block lA 3 rfl (by omega) (ok3 _).1 (blockOver b4 (heap_alloc_new w3 (.cells (lA.flatMap elB).toArray 39))))
  clear b4
  go_wp2_with fail
  refine (mk_any _ _ _).mono ?_
  rintro e w5 ⟨rfl, b5⟩
  have B5 := Lib.hid (bel2 B4.out b5)
  have HAn := Lib.hid (HA.out.over b5)
  clear HA
  have HA := Lib.hid HAn.out
  clear HAn
  clear b5
  go_wp2_with fail
  refine (mk_any _ _ _).mono ?_
  rintro e w6 ⟨rfl, b6⟩
  have B6 := Lib.hid (bel2 B5.out b6)
  have HAn := Lib.hid (HA.out.over b6)
  clear HA
  have HA := Lib.hid HAn.out
  clear HAn
  clear b6
  go_wp2_with fail
  refine (mk_any _ _ _).mono ?_
  rintro e w7 ⟨rfl, b7⟩
  have B7 := Lib.hid (bel2 (bel2 B6.out (below_alloc _ _)) b7)
  have HAn := Lib.hid ((HA.out.over (below_alloc _ _)).over b7)
  clear HA
  have HA := Lib.hid HAn.out
  clear HAn
  have HB := Lib.hid (blks_block lB 3 rfl (by omega) (ok3 _).2.1 (blockOver b7 (heap_alloc_new w6 (.cells (lB.flatMap elB).toArray 39))))
  clear b7
  go_wp2_with fail
  refine (mk_any _ _ _).mono ?_
  rintro e w8 ⟨rfl, b8⟩
  have B8 := Lib.hid (bel2 B7.out b8)
  have HAn := Lib.hid (HA.out.over b8)
  clear HA
  have HA := Lib.hid HAn.out
  clear HAn
  have HBn := Lib.hid (HB.out.over b8)
  clear HB
  have HB := Lib.hid HBn.out
  clear HBn
  clear b8
  go_wp2_with fail
  refine (mk_any _ _ _).mono ?_
  rintro e w9 ⟨rfl, b9⟩
  have B9 := Lib.hid (bel2 B8.out b9)
  have HAn := Lib.hid (HA.out.over b9)
  clear HA
  have HA := Lib.hid HAn.out
  clear HAn
  have HBn := Lib.hid (HB.out.over b9)
  clear HB
  have HB := Lib.hid HBn.out
  clear HBn
  clear b9
  go_wp2_with fail
  refine (mk_any _ _ _).mono ?_
  rintro e w10 ⟨rfl, b10⟩
  have B10 := Lib.hid (bel2 B9.out b10)
  have HAn := Lib.hid (HA.out.over b10)
  clear HA
  have HA := Lib.hid HAn.out
  clear HAn
  have HBn := Lib.hid (HB.out.over b10)
  clear HB
  have HB := Lib.hid HBn.out
  clear HBn
  clear b10
  go_wp2_with fail
  refine (mk_any _ _ _).mono ?_
  rintro e w11 ⟨rfl, b11⟩
  have B11 := Lib.hid (bel2 (bel2 B10.out (below_alloc _ _)) b11)
  have HAn := Lib.hid ((HA.out.over (below_alloc _ _)).over b11)
  clear HA
  have HA := Lib.hid HAn.out
  clear HAn
  have HBn := Lib.hid ((HB.out.over (below_alloc _ _)).over b11)
  clear HB
  have HB := Lib.hid HBn.out
  clear HBn
  have HC := Lib.hid (blks_block lC 4 rfl (by omega) (ok3 _).2.2.1 (blockOver b11 (heap_alloc_new w10 (.cells (lC.flatMap elB).toArray 39))))
  clear b11
  go_wp2_with fail
  refine (mk_any _ _ _).mono ?_
  rintro e w12 ⟨rfl, b12⟩
  have B12 := Lib.hid (bel2 B11.out b12)
  have HAn := Lib.hid (HA.out.over b12)
  clear HA
  have HA := Lib.hid HAn.out
  clear HAn
  have HBn := Lib.hid (HB.out.over b12)
  clear HB
  have HB := Lib.hid HBn.out
  clear HBn
  have HCn := Lib.hid (HC.out.over b12)
  clear HC
  have HC := Lib.hid HCn.out
  clear HCn
  clear b12
  go_wp2_with fail
  refine (mk_any _ _ _).mono ?_
  rintro e w13 ⟨rfl, b13⟩
  have B13 := Lib.hid (bel2 B12.out b13)
  have HAn := Lib.hid (HA.out.over b13)
  clear HA
  have HA := Lib.hid HAn.out
  clear HAn
  have HBn := Lib.hid (HB.out.over b13)
  clear HB
  have HB := Lib.hid HBn.out
  clear HBn
  have HCn := Lib.hid (HC.out.over b13)
  clear HC
  have HC := Lib.hid HCn.out
  clear HCn
  clear b13
  go_wp2_with fail
  have HD := Lib.hid (blks_block lD 3 rfl (by omega) (ok3 _).2.2.2.1 (heap_alloc_new w13 (.cells (lD.flatMap elB).toArray 39)))
  have HAn := Lib.hid (HA.out.over (below_alloc _ (.cells (lD.flatMap elB).toArray 39)))
  clear HA
  have HA := Lib.hid HAn.out
  clear HAn
  have HBn := Lib.hid (HB.out.over (below_alloc _ (.cells (lD.flatMap elB).toArray 39)))
  clear HB
  have HB := Lib.hid HBn.out
  clear HBn
  have HCn := Lib.hid (HC.out.over (below_alloc _ (.cells (lD.flatMap elB).toArray 39)))
  clear HC
  have HC := Lib.hid HCn.out
  clear HCn
  have BM := Lib.hid (bel2 B13.out (below_alloc _ (.cells (lD.flatMap elB).toArray 39)))
  refine (merge_any _ _ _ lA _ _ _ lB _ _ _ lC _ HA.out HB.out HC.out).mono ?_
  rintro e v1 ⟨p1, d1, rs, q1, m1, f1, rfl, hbl, hres, b⟩
  have S1 := Lib.hid (show (blks rs) = (mergeR (blks lA) (blks lB) (blks lC)).1 from hbl)
  have e1 : (mergeR (blks lA) (blks lB) (blks lC)).2.2 = 0 := by rw [sane_1.1]
  have hi1 := hres.ints
  rw [sane_1.1] at hi1
  obtain rfl : m1 = 0 := (own_len hi1).symm
  have R1 := Lib.hid (blks_of_own hres.own (fun e he => (hres.each e he).ok))
  rw [e1]
  have BV1 := Lib.hid (bel2 BM.out b)
  have HAn := Lib.hid (HA.out.over b)
  clear HA
  have HA := Lib.hid HAn.out
  clear HAn
  have HBn := Lib.hid (HB.out.over b)
  clear HB
  have HB := Lib.hid HBn.out
  clear HBn
  have HCn := Lib.hid (HC.out.over b)
  clear HC
  have HC := Lib.hid HCn.out
  clear HCn
  have HDn := Lib.hid (HD.out.over b)
  clear HD
  have HD := Lib.hid HDn.out
  clear HDn
  clear b hbl hres e1 hi1
  go_wp2_with fail
  refine (merge_any _ _ _ lA _ _ _ lB _ _ _ lD _ HA.out HB.out HD.out).mono ?_
  rintro e v2 ⟨p2, d2, rs2, q2, m2, f2, rfl, hbl, hres, b⟩
  have S2 := Lib.hid (show (blks rs2) = (mergeR (blks lA) (blks lB) (blks lD)).1 from hbl)
  have e1 : (mergeR (blks lA) (blks lB) (blks lD)).2.2 = 0 := by rw [sane_2.1]
  have hi1 := hres.ints
  rw [sane_2.1] at hi1
  obtain rfl : m2 = 1 := (own_len hi1).symm
  have C2 := Lib.hid (ints_of_own hi1 (by simp [Bd]))
  have R2 := Lib.hid (blks_of_own hres.own (fun e he => (hres.each e he).ok))
  rw [e1]
  have BV2 := Lib.hid (bel2 BV1.out b)
  have HAn := Lib.hid (HA.out.over b)
  clear HA
  have HA := Lib.hid HAn.out
  clear HAn
  have HBn := Lib.hid (HB.out.over b)
  clear HB
  have HB := Lib.hid HBn.out
  clear HBn
  have HCn := Lib.hid (HC.out.over b)
  clear HC
  have HC := Lib.hid HCn.out
  clear HCn
  have HDn := Lib.hid (HD.out.over b)
  clear HD
  have HD := Lib.hid HDn.out
  clear HDn
  have R1n := Lib.hid (R1.out.over b)
  clear R1
  have R1 := Lib.hid R1n.out
  clear R1n
  clear b hbl hres e1 hi1
  go_wp2_with fail
  have HZ := Lib.hid (blks_block lZ 1 rfl (by omega) (ok3 _).2.2.2.2.2 (heap_alloc_new v2 (.cells (lZ.flatMap elB).toArray 39)))
  have HAn := Lib.hid (HA.out.over (below_alloc _ (.cells (lZ.flatMap elB).toArray 39)))
  clear HA
  have HA := Lib.hid HAn.out
  clear HAn
  have HBn := Lib.hid (HB.out.over (below_alloc _ (.cells (lZ.flatMap elB).toArray 39)))
  clear HB
  have HB := Lib.hid HBn.out
  clear HBn
  have HCn := Lib.hid (HC.out.over (below_alloc _ (.cells (lZ.flatMap elB).toArray 39)))
  clear HC
  have HC := Lib.hid HCn.out
  clear HCn
  have HDn := Lib.hid (HD.out.over (below_alloc _ (.cells (lZ.flatMap elB).toArray 39)))
  clear HD
  have HD := Lib.hid HDn.out
  clear HDn
  have R1n := Lib.hid (R1.out.over (below_alloc _ (.cells (lZ.flatMap elB).toArray 39)))
  clear R1
  have R1 := Lib.hid R1n.out
  clear R1n
  have R2n := Lib.hid (R2.out.over (below_alloc _ (.cells (lZ.flatMap elB).toArray 39)))
  clear R2
  have R2 := Lib.hid R2n.out
  clear R2n
  have C2n := Lib.hid (C2.out.over (below_alloc _ (.cells (lZ.flatMap elB).toArray 39)))
  clear C2
  have C2 := Lib.hid C2n.out
  clear C2n
  refine (merge_any _ _ _ lA _ _ _ lZ _ _ _ lC _ HA.out HZ.out HC.out).mono ?_
  rintro e v3 ⟨p3, d3, rs3, q3, m3, f3, rfl, hbl, hres, b⟩
  rw [sane_3]
  have BV3 := Lib.hid (bel2 (bel2 BV2.out (below_alloc _ (.cells (lZ.flatMap elB).toArray 39))) b)
  have HAn := Lib.hid (HA.out.over b)
  clear HA
  have HA := Lib.hid HAn.out
  clear HAn
  have HBn := Lib.hid (HB.out.over b)
  clear HB
  have HB := Lib.hid HBn.out
  clear HBn
  have HCn := Lib.hid (HC.out.over b)
  clear HC
  have HC := Lib.hid HCn.out
  clear HCn
  have HDn := Lib.hid (HD.out.over b)
  clear HD
  have HD := Lib.hid HDn.out
  clear HDn
  have R1n := Lib.hid (R1.out.over b)
  clear R1
  have R1 := Lib.hid R1n.out
  clear R1n
  have R2n := Lib.hid (R2.out.over b)
  clear R2
  have R2 := Lib.hid R2n.out
  clear R2n
  have C2n := Lib.hid (C2.out.over b)
  clear C2
  have C2 := Lib.hid C2n.out
  clear C2n
  clear b hbl hres HZ
  go_wp2_with fail
  refine (mk_any _ _ _).mono ?_
  rintro e u0 ⟨rfl, b⟩
  have U0 := Lib.hid (bel2 BV3.out b)
  have HAn := Lib.hid (HA.out.over b)
  clear HA
  have HA := Lib.hid HAn.out
  clear HAn
  have HBn := Lib.hid (HB.out.over b)
  clear HB
  have HB := Lib.hid HBn.out
  clear HBn
  have HCn := Lib.hid (HC.out.over b)
  clear HC
  have HC := Lib.hid HCn.out
  clear HCn
  have HDn := Lib.hid (HD.out.over b)
  clear HD
  have HD := Lib.hid HDn.out
  clear HDn
  have R1n := Lib.hid (R1.out.over b)
  clear R1
  have R1 := Lib.hid R1n.out
  clear R1n
  have R2n := Lib.hid (R2.out.over b)
  clear R2
  have R2 := Lib.hid R2n.out
  clear R2n
  have C2n := Lib.hid (C2.out.over b)
  clear C2
  have C2 := Lib.hid C2n.out
  clear C2n
  clear b
  go_wp2_with fail
  refine (mk_any _ _ _).mono ?_
  rintro e u1 ⟨rfl, b⟩
  have U1 := Lib.hid (bel2 U0.out b)
  have HAn := Lib.hid (HA.out.over b)
  clear HA
  have HA := Lib.hid HAn.out
  clear HAn
  have HBn := Lib.hid (HB.out.over b)
  clear HB
  have HB := Lib.hid HBn.out
  clear HBn
  have HCn := Lib.hid (HC.out.over b)
  clear HC
  have HC := Lib.hid HCn.out
  clear HCn
  have HDn := Lib.hid (HD.out.over b)
  clear HD
  have HD := Lib.hid HDn.out
  clear HDn
  have R1n := Lib.hid (R1.out.over b)
  clear R1
  have R1 := Lib.hid R1n.out
  clear R1n
  have R2n := Lib.hid (R2.out.over b)
  clear R2
  have R2 := Lib.hid R2n.out
  clear R2n
  have C2n := Lib.hid (C2.out.over b)
  clear C2
  have C2 := Lib.hid C2n.out
  clear C2n
  clear b
  go_wp2_with fail
  refine (mk_any _ _ _).mono ?_
  rintro e u2 ⟨rfl, b⟩
  have U2 := Lib.hid (bel2 U1.out b)
  have HAn := Lib.hid (HA.out.over b)
  clear HA
  have HA := Lib.hid HAn.out
  clear HAn
  have HBn := Lib.hid (HB.out.over b)
  clear HB
  have HB := Lib.hid HBn.out
  clear HBn
  have HCn := Lib.hid (HC.out.over b)
  clear HC
  have HC := Lib.hid HCn.out
  clear HCn
  have HDn := Lib.hid (HD.out.over b)
  clear HD
  have HD := Lib.hid HDn.out
  clear HDn
  have R1n := Lib.hid (R1.out.over b)
  clear R1
  have R1 := Lib.hid R1n.out
  clear R1n
  have R2n := Lib.hid (R2.out.over b)
  clear R2
  have R2 := Lib.hid R2n.out
  clear R2n
  have C2n := Lib.hid (C2.out.over b)
  clear C2
  have C2 := Lib.hid C2n.out
  clear C2n
  clear b
  go_wp2_with fail
  refine (mk_any _ _ _).mono ?_
  rintro e u3 ⟨rfl, b⟩
  have U3 := Lib.hid (bel2 U2.out b)
  have HAn := Lib.hid (HA.out.over b)
  clear HA
  have HA := Lib.hid HAn.out
  clear HAn
  have HBn := Lib.hid (HB.out.over b)
  clear HB
  have HB := Lib.hid HBn.out
  clear HBn
  have HCn := Lib.hid (HC.out.over b)
  clear HC
  have HC := Lib.hid HCn.out
  clear HCn
  have HDn := Lib.hid (HD.out.over b)
  clear HD
  have HD := Lib.hid HDn.out
  clear HDn
  have R1n := Lib.hid (R1.out.over b)
  clear R1
  have R1 := Lib.hid R1n.out
  clear R1n
  have R2n := Lib.hid (R2.out.over b)
  clear R2
  have R2 := Lib.hid R2n.out
  clear R2n
  have C2n := Lib.hid (C2.out.over b)
  clear C2
  have C2 := Lib.hid C2n.out
  clear C2n
  clear b
  go_wp2_with fail
  have HE := Lib.hid (blks_block lE 4 rfl (by omega) (ok3 _).2.2.2.2.1 (heap_alloc_new u3 (.cells (lE.flatMap elB).toArray 39)))
  have HAn := Lib.hid (HA.out.over (below_alloc _ (.cells (lE.flatMap elB).toArray 39)))
  clear HA
  have HA := Lib.hid HAn.out
  clear HAn
  have HBn := Lib.hid (HB.out.over (below_alloc _ (.cells (lE.flatMap elB).toArray 39)))
  clear HB
  have HB := Lib.hid HBn.out
  clear HBn
  have HCn := Lib.hid (HC.out.over (below_alloc _ (.cells (lE.flatMap elB).toArray 39)))
  clear HC
  have HC := Lib.hid HCn.out
  clear HCn
  have HDn := Lib.hid (HD.out.over (below_alloc _ (.cells (lE.flatMap elB).toArray 39)))
  clear HD
  have HD := Lib.hid HDn.out
  clear HDn
  have R1n := Lib.hid (R1.out.over (below_alloc _ (.cells (lE.flatMap elB).toArray 39)))
  clear R1
  have R1 := Lib.hid R1n.out
  clear R1n
  have R2n := Lib.hid (R2.out.over (below_alloc _ (.cells (lE.flatMap elB).toArray 39)))
  clear R2
  have R2 := Lib.hid R2n.out
  clear R2n
  have C2n := Lib.hid (C2.out.over (below_alloc _ (.cells (lE.flatMap elB).toArray 39)))
  clear C2
  have C2 := Lib.hid C2n.out
  clear C2n
  refine (refsamel_any _ _ _ rs _ _ _ lE _ R1.out HE.out).mono ?_
  rintro e v4 ⟨rfl, b⟩
  have e1 : sL (blks rs) (blks lE) = true := by rw [S1.out]; exact sane_1.2
  rw [e1]
  have BV4 := Lib.hid (bel2 (bel2 U3.out (below_alloc _ (.cells (lE.flatMap elB).toArray 39))) b)
  have HAn := Lib.hid (HA.out.over b)
  clear HA
  have HA := Lib.hid HAn.out
  clear HAn
  have HBn := Lib.hid (HB.out.over b)
  clear HB
  have HB := Lib.hid HBn.out
  clear HBn
  have HCn := Lib.hid (HC.out.over b)
  clear HC
  have HC := Lib.hid HCn.out
  clear HCn
  have HDn := Lib.hid (HD.out.over b)
  clear HD
  have HD := Lib.hid HDn.out
  clear HDn
  have R1n := Lib.hid (R1.out.over b)
  clear R1
  have R1 := Lib.hid R1n.out
  clear R1n
  have R2n := Lib.hid (R2.out.over b)
  clear R2
  have R2 := Lib.hid R2n.out
  clear R2n
  have C2n := Lib.hid (C2.out.over b)
  clear C2
  have C2 := Lib.hid C2n.out
  clear C2n
  clear b e1
  go_wp2_with fail
  refine (refsamel_any _ _ _ rs2 _ _ _ lD _ R2.out HD.out).mono ?_
  rintro e v5 ⟨rfl, b⟩
  have e1 : sL (blks rs2) (blks lD) = true := by rw [S2.out]; exact sane_2.2
  rw [e1]
  have BV5 := Lib.hid (bel2 BV4.out b)
  have HAn := Lib.hid (HA.out.over b)
  clear HA
  have HA := Lib.hid HAn.out
  clear HAn
  have HBn := Lib.hid (HB.out.over b)
  clear HB
  have HB := Lib.hid HBn.out
  clear HBn
  have HCn := Lib.hid (HC.out.over b)
  clear HC
  have HC := Lib.hid HCn.out
  clear HCn
  have HDn := Lib.hid (HD.out.over b)
  clear HD
  have HD := Lib.hid HDn.out
  clear HDn
  have R1n := Lib.hid (R1.out.over b)
  clear R1
  have R1 := Lib.hid R1n.out
  clear R1n
  have R2n := Lib.hid (R2.out.over b)
  clear R2
  have R2 := Lib.hid R2n.out
  clear R2n
  have C2n := Lib.hid (C2.out.over b)
  clear C2
  have C2 := Lib.hid C2n.out
  clear C2n
  clear b e1
  obtain ⟨-, hc2a, hc2b, -, hc2⟩ := C2.out
  rcases hc2 with hn | ⟨bb, off, rfl, hcc⟩
  · omega
  have hcell := hcc 0 (by omega)
  simp only [Nat.add_zero, List.getD_cons_zero] at hcell
  clear hcc C2
  have hca : 1 ≤ f2 := hc2a
  go_wp2_with fail
  go_ret
  exact ⟨rfl, BV5.out⟩
end Go.Proofs.YtelipjjjlgnjoaaGreatDoor
