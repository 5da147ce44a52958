import Derived.Test.YtdhioalfgogcdaaGreatDoorBlkD2
namespace Go.Proofs.YtdhioalfgogcdaaGreatDoor
open Go.RowKit Go.MapKept
set_option maxRecDepth 100000
set_option linter.unusedSimpArgs false
set_option linter.unusedVariables false
theorem Keeps.setNew {R g : Nat} {a w : World} (h : Keeps R a w) (hg : a.heap.size ≤ g) (o : Nat) (v : Value) : Keeps R a (w.setCell ⟨g, o, none⟩ v) := by
  have hb : Below g w (w.setCell ⟨g, o, none⟩ v) := (Below.refl g w).setCell (p := ⟨g, o, none⟩) (Nat.le_refl _) v
  exact ⟨hb.os.trans h.os, hb.tape.trans h.tape, hb.output.trans h.output, Nat.le_trans h.size hb.size, fun k hk hR => (Below.heap_setCell w ⟨g, o, none⟩ v k (by show k ≠ g; omega)).trans (h.block k hk hR)⟩
theorem rd_setNew {R g : Nat} {w : World} {s : ByteArray} {σ : Int × Int} (h : RdAt w R s σ) (hg : R ≠ g) (o : Nat) (v : Value) : RdAt (w.setCell ⟨g, o, none⟩ v) R s σ :=
  (Below.heap_setCell w ⟨g, o, none⟩ v R hg).trans h
theorem rdI_over {W W' : World} {g : Nat} {ob : Obj} {R : Nat} (k : Keeps R W W') (hg : W.heap[g]? = some ob) (hR : g ≠ R) : W'.heap[g]? = some ob := k.heap hg hR
theorem nine_any {W : World} {g : Nat} {a0 a1 a2 a3 a4 a5 a6 a7 a8 : Value} {t : TypeId} {fr : Nat × Nat} (h : W.heap[g]? = some (.cells #[a0, a1, a2, a3, a4, a5, a6, a7, a8] t fr)) : W.cell? ⟨g, 0, none⟩ = some a0 ∧ W.cell? ⟨g, 1, none⟩ = some a1 ∧ W.cell? ⟨g, 2, none⟩ = some a2 ∧ W.cell? ⟨g, 3, none⟩ = some a3 ∧ W.cell? ⟨g, 4, none⟩ = some a4 ∧ W.cell? ⟨g, 5, none⟩ = some a5 ∧ W.cell? ⟨g, 6, none⟩ = some a6 ∧ W.cell? ⟨g, 7, none⟩ = some a7 ∧ W.cell? ⟨g, 8, none⟩ = some a8 :=
  ⟨by rw [Joins.cell_of_block h]; rfl, by rw [Joins.cell_of_block h]; rfl, by rw [Joins.cell_of_block h]; rfl, by rw [Joins.cell_of_block h]; rfl, by rw [Joins.cell_of_block h]; rfl, by rw [Joins.cell_of_block h]; rfl, by rw [Joins.cell_of_block h]; rfl, by rw [Joins.cell_of_block h]; rfl, by rw [Joins.cell_of_block h]; rfl⟩
def BlkGot (R : Nat) (s : ByteArray) (r : Blk × (Int × Int)) (w : World) (e : Ending) (w' : World) : Prop :=
  ∃ a c, e = .returned (blkV r.1 a r.1.lb.af.length c) ∧ w'.ownsRow w.heap.size 3 1 (.slice a r.1.lb.af.length c) r.1.lb.af.length (r.1.lb.af.map (Value.int .i64)) ∧ RdAt w' R s r.2 ∧ Keeps R w w'
set_option maxHeartbeats 8000000 in
theorem readBlk_walk (R : Nat) (s : ByteArray) (w : World) (hRw : R < w.heap.size) (x0 x1 x3 x4 x5 x7 x8 : Int) (x2 : List UInt8) (x6 : List Int) (σ0 σ1 σ2 σ3 σ4 σ5 σ6 σ7 σ8 σ9 : Int × Int) (h : RdAt w R s σ0)
    (K0 : Hid (∀ W, RdAt W R s σ0 → Calls Tryz.prog 35 #[.pointer (some ⟨R, 0, none⟩)] W fun e w' => e = .returned (.int .i64 x0) ∧ RdAt w' R s σ1 ∧ Keeps R W w'))
    (K1 : Hid (∀ W, RdAt W R s σ1 → Calls Tryz.prog 35 #[.pointer (some ⟨R, 0, none⟩)] W fun e w' => e = .returned (.int .i64 x1) ∧ RdAt w' R s σ2 ∧ Keeps R W w'))
    (K2 : Hid (∀ W, RdAt W R s σ2 → Calls Tryz.prog 36 #[.pointer (some ⟨R, 0, none⟩), .func (.func 37) #[] #[]] W fun e w' => e = .returned (.string ⟨x2.toArray⟩) ∧ RdAt w' R s σ3 ∧ Keeps R W w'))
    (K3 : Hid (∀ W, RdAt W R s σ3 → Calls Tryz.prog 35 #[.pointer (some ⟨R, 0, none⟩)] W fun e w' => e = .returned (.int .i64 x3) ∧ RdAt w' R s σ4 ∧ Keeps R W w'))
    (K4 : Hid (∀ W, RdAt W R s σ4 → Calls Tryz.prog 35 #[.pointer (some ⟨R, 0, none⟩)] W fun e w' => e = .returned (.int .i64 x4) ∧ RdAt w' R s σ5 ∧ Keeps R W w'))
    (K5 : Hid (∀ W, RdAt W R s σ5 → Calls Tryz.prog 35 #[.pointer (some ⟨R, 0, none⟩)] W fun e w' => e = .returned (.int .i64 x5) ∧ RdAt w' R s σ6 ∧ Keeps R W w'))
    (K6 : Hid (∀ W, RdAt W R s σ6 → Calls Tryz.prog 38 #[.pointer (some ⟨R, 0, none⟩), .int .i64 64, .func (.func 35) #[] #[]] W (LiGot R s (x6, σ7) W)))
    (K7 : Hid (∀ W, RdAt W R s σ7 → Calls Tryz.prog 35 #[.pointer (some ⟨R, 0, none⟩)] W fun e w' => e = .returned (.int .i64 x7) ∧ RdAt w' R s σ8 ∧ Keeps R W w'))
    (K8 : Hid (∀ W, RdAt W R s σ8 → Calls Tryz.prog 35 #[.pointer (some ⟨R, 0, none⟩)] W fun e w' => e = .returned (.int .i64 x8) ∧ RdAt w' R s σ9 ∧ Keeps R W w')) :
    Calls Tryz.prog 14 #[.pointer (some ⟨R, 0, none⟩)] w (BlkGot R s (⟨x0, x1, x2, x3, x4, ⟨x5, x6, x7, x8⟩⟩, σ9) w) := by
  have D0 := Lib.hid (rd_over (below_alloc w (.cells #[.int .i64 0, .int .i64 0, .string ⟨#[]⟩, .int .i64 0, .int .i64 0, .int .i64 0, .slice none 0 0, .int .i64 0, .int .i64 0] 33)) h)
  have HB0 := Lib.hid (heap_alloc_new w (.cells #[.int .i64 0, .int .i64 0, .string ⟨#[]⟩, .int .i64 0, .int .i64 0, .int .i64 0, .slice none 0 0, .int .i64 0, .int .i64 0] 33))
  have P0 := Lib.hid ((Keeps.refl R w).alloc (.cells #[.int .i64 0, .int .i64 0, .string ⟨#[]⟩, .int .i64 0, .int .i64 0, .int .i64 0, .slice none 0 0, .int .i64 0, .int .i64 0] 33))
  have hne : w.heap.size ≠ R := by omega
  have S0 := Lib.hid (show w.heap.size < (w.alloc (.cells #[.int .i64 0, .int .i64 0, .string ⟨#[]⟩, .int .i64 0, .int .i64 0, .int .i64 0, .slice none 0 0, .int .i64 0, .int .i64 0] 33)).heap.size by simp)
  clear h
  go_enter Tryz.func14, Tryz.ntmps14
  go_wp2_with fail
  refine (K0.out _ D0.out).mono ?_
  rintro e w1 ⟨rfl, d, kp⟩
  have D1 := Lib.hid d
  have HB1 := Lib.hid (kp.heap HB0.out hne)
  have P1 := Lib.hid (P0.out.trans kp)
  have S1 := Lib.hid (Nat.lt_of_lt_of_le S0.out kp.size)
  clear d kp D0 HB0 P0 S0 K0
  go_wp2_with fail
  refine (K1.out _ D1.out).mono ?_
  rintro e w2 ⟨rfl, d, kp⟩
  have D2 := Lib.hid d
  have HB2 := Lib.hid (kp.heap HB1.out hne)
  have P2 := Lib.hid (P1.out.trans kp)
  have S2 := Lib.hid (Nat.lt_of_lt_of_le S1.out kp.size)
  clear d kp D1 HB1 P1 S1 K1
  go_wp2_with fail
  refine (K2.out _ D2.out).mono ?_
  rintro e w3 ⟨rfl, d, kp⟩
  have D3 := Lib.hid d
  have HB3 := Lib.hid (kp.heap HB2.out hne)
  have P3 := Lib.hid (P2.out.trans kp)
  have S3 := Lib.hid (Nat.lt_of_lt_of_le S2.out kp.size)
  clear d kp D2 HB2 P2 S2 K2
  go_wp2_with fail
  refine (K3.out _ D3.out).mono ?_
  rintro e w4 ⟨rfl, d, kp⟩
  have D4 := Lib.hid d
  have HB4 := Lib.hid (kp.heap HB3.out hne)
  have P4 := Lib.hid (P3.out.trans kp)
  have S4 := Lib.hid (Nat.lt_of_lt_of_le S3.out kp.size)
  clear d kp D3 HB3 P3 S3 K3
  go_wp2_with fail
  refine (K4.out _ D4.out).mono ?_
  rintro e w5 ⟨rfl, d, kp⟩
  have D5 := Lib.hid d
  have HB5 := Lib.hid (kp.heap HB4.out hne)
  have P5 := Lib.hid (P4.out.trans kp)
  have S5 := Lib.hid (Nat.lt_of_lt_of_le S4.out kp.size)
  clear d kp D4 HB4 P4 S4 K4
  go_wp2_with fail
  refine (K5.out _ D5.out).mono ?_
  rintro e w6 ⟨rfl, d, kp⟩
  have D6 := Lib.hid d
  have HB6 := Lib.hid (kp.heap HB5.out hne)
  have P6 := Lib.hid (P5.out.trans kp)
  have S6 := Lib.hid (Nat.lt_of_lt_of_le S5.out kp.size)
  clear d kp D5 HB5 P5 S5 K5
  go_wp2_with fail
  refine (K6.out _ D6.out).mono ?_
  rintro e w7 ⟨la, lc, rfl, ow, d, kp⟩
  have D7 := Lib.hid d
  have HB7 := Lib.hid (kp.heap HB6.out hne)
  have P7 := Lib.hid (P6.out.trans kp)
  have S7 := Lib.hid (Nat.lt_of_lt_of_le S6.out kp.size)
  have OWN7 := Lib.hid (show w7.ownsRow (w.heap.size + 1) 3 1 (.slice la x6.length lc) x6.length (x6.map (Value.int .i64)) from own_mono ow S6.out)
  clear ow
  clear d kp D6 HB6 P6 S6 K6
  simp only
  go_wp2_with fail
  refine (K7.out _ D7.out).mono ?_
  rintro e w8 ⟨rfl, d, kp⟩
  have D8 := Lib.hid d
  have HB8 := Lib.hid (kp.heap HB7.out hne)
  have P8 := Lib.hid (P7.out.trans kp)
  have S8 := Lib.hid (Nat.lt_of_lt_of_le S7.out kp.size)
  have OWN8 := Lib.hid (own_keeps OWN7.out (by omega) kp)
  clear OWN7
  clear d kp D7 HB7 P7 S7 K7
  go_wp2_with fail
  refine (K8.out _ D8.out).mono ?_
  rintro e w9 ⟨rfl, d, kp⟩
  have D9 := Lib.hid d
  have HB9 := Lib.hid (kp.heap HB8.out hne)
  have P9 := Lib.hid (P8.out.trans kp)
  have S9 := Lib.hid (Nat.lt_of_lt_of_le S8.out kp.size)
  have OWN9 := Lib.hid (own_keeps OWN8.out (by omega) kp)
  clear OWN8
  clear d kp D8 HB8 P8 S8 K8
  obtain ⟨r0, r1, r2, r3, r4, r5, r6, r7, r8⟩ := nine_any HB9.out
  have f0 := Joins.unfrozen_of_block HB9.out 0
  have f1 := Joins.unfrozen_of_block HB9.out 1
  have f2 := Joins.unfrozen_of_block HB9.out 2
  have f3 := Joins.unfrozen_of_block HB9.out 3
  have f4 := Joins.unfrozen_of_block HB9.out 4
  have f5 := Joins.unfrozen_of_block HB9.out 5
  have f6 := Joins.unfrozen_of_block HB9.out 6
  have f7 := Joins.unfrozen_of_block HB9.out 7
  have f8 := Joins.unfrozen_of_block HB9.out 8
  have DZ0 := Lib.hid (rd_setNew D9.out hne.symm 0 (.int .i64 x0))
  have PZ0 := Lib.hid (P9.out.setNew (Nat.le_refl _) 0 (.int .i64 x0))
  have OZ0 := Lib.hid (ownsRow_setCell_below (a := ⟨w.heap.size, 0, none⟩) OWN9.out (Nat.lt_succ_self w.heap.size) (.int .i64 x0))
  have BZ0 := Lib.hid (show (w9.setCell ⟨w.heap.size, 0, none⟩ (.int .i64 x0)).heap[w.heap.size]? = some (.cells #[.int .i64 x0, .int .i64 0, .string ⟨#[]⟩, .int .i64 0, .int .i64 0, .int .i64 0, .slice none 0 0, .int .i64 0, .int .i64 0] 33 (0, 0)) from Joins.block_setCell HB9.out (.int .i64 x0))
  have DZ1 := Lib.hid (rd_setNew DZ0.out hne.symm 1 (.int .i64 x1))
  have PZ1 := Lib.hid (PZ0.out.setNew (Nat.le_refl _) 1 (.int .i64 x1))
  have OZ1 := Lib.hid (ownsRow_setCell_below (a := ⟨w.heap.size, 1, none⟩) OZ0.out (Nat.lt_succ_self w.heap.size) (.int .i64 x1))
  have BZ1 := Lib.hid (show ((w9.setCell ⟨w.heap.size, 0, none⟩ (.int .i64 x0)).setCell ⟨w.heap.size, 1, none⟩ (.int .i64 x1)).heap[w.heap.size]? = some (.cells #[.int .i64 x0, .int .i64 x1, .string ⟨#[]⟩, .int .i64 0, .int .i64 0, .int .i64 0, .slice none 0 0, .int .i64 0, .int .i64 0] 33 (0, 0)) from Joins.block_setCell BZ0.out (.int .i64 x1))
  clear DZ0 PZ0 OZ0 BZ0
  have DZ2 := Lib.hid (rd_setNew DZ1.out hne.symm 2 (.string ⟨x2.toArray⟩))
  have PZ2 := Lib.hid (PZ1.out.setNew (Nat.le_refl _) 2 (.string ⟨x2.toArray⟩))
  have OZ2 := Lib.hid (ownsRow_setCell_below (a := ⟨w.heap.size, 2, none⟩) OZ1.out (Nat.lt_succ_self w.heap.size) (.string ⟨x2.toArray⟩))
  have BZ2 := Lib.hid (show (((w9.setCell ⟨w.heap.size, 0, none⟩ (.int .i64 x0)).setCell ⟨w.heap.size, 1, none⟩ (.int .i64 x1)).setCell ⟨w.heap.size, 2, none⟩ (.string ⟨x2.toArray⟩)).heap[w.heap.size]? = some (.cells #[.int .i64 x0, .int .i64 x1, .string ⟨x2.toArray⟩, .int .i64 0, .int .i64 0, .int .i64 0, .slice none 0 0, .int .i64 0, .int .i64 0] 33 (0, 0)) from Joins.block_setCell BZ1.out (.string ⟨x2.toArray⟩))
  clear DZ1 PZ1 OZ1 BZ1
  have DZ3 := Lib.hid (rd_setNew DZ2.out hne.symm 3 (.int .i64 x3))
  have PZ3 := Lib.hid (PZ2.out.setNew (Nat.le_refl _) 3 (.int .i64 x3))
  have OZ3 := Lib.hid (ownsRow_setCell_below (a := ⟨w.heap.size, 3, none⟩) OZ2.out (Nat.lt_succ_self w.heap.size) (.int .i64 x3))
  have BZ3 := Lib.hid (show ((((w9.setCell ⟨w.heap.size, 0, none⟩ (.int .i64 x0)).setCell ⟨w.heap.size, 1, none⟩ (.int .i64 x1)).setCell ⟨w.heap.size, 2, none⟩ (.string ⟨x2.toArray⟩)).setCell ⟨w.heap.size, 3, none⟩ (.int .i64 x3)).heap[w.heap.size]? = some (.cells #[.int .i64 x0, .int .i64 x1, .string ⟨x2.toArray⟩, .int .i64 x3, .int .i64 0, .int .i64 0, .slice none 0 0, .int .i64 0, .int .i64 0] 33 (0, 0)) from Joins.block_setCell BZ2.out (.int .i64 x3))
  clear DZ2 PZ2 OZ2 BZ2
  have DZ4 := Lib.hid (rd_setNew DZ3.out hne.symm 4 (.int .i64 x4))
  have PZ4 := Lib.hid (PZ3.out.setNew (Nat.le_refl _) 4 (.int .i64 x4))
  have OZ4 := Lib.hid (ownsRow_setCell_below (a := ⟨w.heap.size, 4, none⟩) OZ3.out (Nat.lt_succ_self w.heap.size) (.int .i64 x4))
  have BZ4 := Lib.hid (show (((((w9.setCell ⟨w.heap.size, 0, none⟩ (.int .i64 x0)).setCell ⟨w.heap.size, 1, none⟩ (.int .i64 x1)).setCell ⟨w.heap.size, 2, none⟩ (.string ⟨x2.toArray⟩)).setCell ⟨w.heap.size, 3, none⟩ (.int .i64 x3)).setCell ⟨w.heap.size, 4, none⟩ (.int .i64 x4)).heap[w.heap.size]? = some (.cells #[.int .i64 x0, .int .i64 x1, .string ⟨x2.toArray⟩, .int .i64 x3, .int .i64 x4, .int .i64 0, .slice none 0 0, .int .i64 0, .int .i64 0] 33 (0, 0)) from Joins.block_setCell BZ3.out (.int .i64 x4))
  clear DZ3 PZ3 OZ3 BZ3
  have DZ5 := Lib.hid (rd_setNew DZ4.out hne.symm 5 (.int .i64 x5))
  have PZ5 := Lib.hid (PZ4.out.setNew (Nat.le_refl _) 5 (.int .i64 x5))
  have OZ5 := Lib.hid (ownsRow_setCell_below (a := ⟨w.heap.size, 5, none⟩) OZ4.out (Nat.lt_succ_self w.heap.size) (.int .i64 x5))
  have BZ5 := Lib.hid (show ((((((w9.setCell ⟨w.heap.size, 0, none⟩ (.int .i64 x0)).setCell ⟨w.heap.size, 1, none⟩ (.int .i64 x1)).setCell ⟨w.heap.size, 2, none⟩ (.string ⟨x2.toArray⟩)).setCell ⟨w.heap.size, 3, none⟩ (.int .i64 x3)).setCell ⟨w.heap.size, 4, none⟩ (.int .i64 x4)).setCell ⟨w.heap.size, 5, none⟩ (.int .i64 x5)).heap[w.heap.size]? = some (.cells #[.int .i64 x0, .int .i64 x1, .string ⟨x2.toArray⟩, .int .i64 x3, .int .i64 x4, .int .i64 x5, .slice none 0 0, .int .i64 0, .int .i64 0] 33 (0, 0)) from Joins.block_setCell BZ4.out (.int .i64 x5))
  clear DZ4 PZ4 OZ4 BZ4
  have DZ6 := Lib.hid (rd_setNew DZ5.out hne.symm 6 (.slice la x6.length lc))
  have PZ6 := Lib.hid (PZ5.out.setNew (Nat.le_refl _) 6 (.slice la x6.length lc))
  have OZ6 := Lib.hid (ownsRow_setCell_below (a := ⟨w.heap.size, 6, none⟩) OZ5.out (Nat.lt_succ_self w.heap.size) (.slice la x6.length lc))
  have BZ6 := Lib.hid (show (((((((w9.setCell ⟨w.heap.size, 0, none⟩ (.int .i64 x0)).setCell ⟨w.heap.size, 1, none⟩ (.int .i64 x1)).setCell ⟨w.heap.size, 2, none⟩ (.string ⟨x2.toArray⟩)).setCell ⟨w.heap.size, 3, none⟩ (.int .i64 x3)).setCell ⟨w.heap.size, 4, none⟩ (.int .i64 x4)).setCell ⟨w.heap.size, 5, none⟩ (.int .i64 x5)).setCell ⟨w.heap.size, 6, none⟩ (.slice la x6.length lc)).heap[w.heap.size]? = some (.cells #[.int .i64 x0, .int .i64 x1, .string ⟨x2.toArray⟩, .int .i64 x3, .int .i64 x4, .int .i64 x5, .slice la x6.length lc, .int .i64 0, .int .i64 0] 33 (0, 0)) from Joins.block_setCell BZ5.out (.slice la x6.length lc))
  clear DZ5 PZ5 OZ5 BZ5
  have DZ7 := Lib.hid (rd_setNew DZ6.out hne.symm 7 (.int .i64 x7))
  have PZ7 := Lib.hid (PZ6.out.setNew (Nat.le_refl _) 7 (.int .i64 x7))
  have OZ7 := Lib.hid (ownsRow_setCell_below (a := ⟨w.heap.size, 7, none⟩) OZ6.out (Nat.lt_succ_self w.heap.size) (.int .i64 x7))
  have BZ7 := Lib.hid (show ((((((((w9.setCell ⟨w.heap.size, 0, none⟩ (.int .i64 x0)).setCell ⟨w.heap.size, 1, none⟩ (.int .i64 x1)).setCell ⟨w.heap.size, 2, none⟩ (.string ⟨x2.toArray⟩)).setCell ⟨w.heap.size, 3, none⟩ (.int .i64 x3)).setCell ⟨w.heap.size, 4, none⟩ (.int .i64 x4)).setCell ⟨w.heap.size, 5, none⟩ (.int .i64 x5)).setCell ⟨w.heap.size, 6, none⟩ (.slice la x6.length lc)).setCell ⟨w.heap.size, 7, none⟩ (.int .i64 x7)).heap[w.heap.size]? = some (.cells #[.int .i64 x0, .int .i64 x1, .string ⟨x2.toArray⟩, .int .i64 x3, .int .i64 x4, .int .i64 x5, .slice la x6.length lc, .int .i64 x7, .int .i64 0] 33 (0, 0)) from Joins.block_setCell BZ6.out (.int .i64 x7))
  clear DZ6 PZ6 OZ6 BZ6
  have DZ8 := Lib.hid (rd_setNew DZ7.out hne.symm 8 (.int .i64 x8))
  have PZ8 := Lib.hid (PZ7.out.setNew (Nat.le_refl _) 8 (.int .i64 x8))
  have OZ8 := Lib.hid (ownsRow_setCell_below (a := ⟨w.heap.size, 8, none⟩) OZ7.out (Nat.lt_succ_self w.heap.size) (.int .i64 x8))
  have BZ8 := Lib.hid (show (((((((((w9.setCell ⟨w.heap.size, 0, none⟩ (.int .i64 x0)).setCell ⟨w.heap.size, 1, none⟩ (.int .i64 x1)).setCell ⟨w.heap.size, 2, none⟩ (.string ⟨x2.toArray⟩)).setCell ⟨w.heap.size, 3, none⟩ (.int .i64 x3)).setCell ⟨w.heap.size, 4, none⟩ (.int .i64 x4)).setCell ⟨w.heap.size, 5, none⟩ (.int .i64 x5)).setCell ⟨w.heap.size, 6, none⟩ (.slice la x6.length lc)).setCell ⟨w.heap.size, 7, none⟩ (.int .i64 x7)).setCell ⟨w.heap.size, 8, none⟩ (.int .i64 x8)).heap[w.heap.size]? = some (.cells #[.int .i64 x0, .int .i64 x1, .string ⟨x2.toArray⟩, .int .i64 x3, .int .i64 x4, .int .i64 x5, .slice la x6.length lc, .int .i64 x7, .int .i64 x8] 33 (0, 0)) from Joins.block_setCell BZ7.out (.int .i64 x8))
  clear DZ7 PZ7 OZ7 BZ7
  have DF := DZ8
  have PF := PZ8
  have OF : Hid ((((((((((w9.setCell ⟨w.heap.size, 0, none⟩ (.int .i64 x0)).setCell ⟨w.heap.size, 1, none⟩ (.int .i64 x1)).setCell ⟨w.heap.size, 2, none⟩ (.string ⟨x2.toArray⟩)).setCell ⟨w.heap.size, 3, none⟩ (.int .i64 x3)).setCell ⟨w.heap.size, 4, none⟩ (.int .i64 x4)).setCell ⟨w.heap.size, 5, none⟩ (.int .i64 x5)).setCell ⟨w.heap.size, 6, none⟩ (.slice la x6.length lc)).setCell ⟨w.heap.size, 7, none⟩ (.int .i64 x7)).setCell ⟨w.heap.size, 8, none⟩ (.int .i64 x8)).ownsRow w.heap.size 3 1 (.slice la x6.length lc) x6.length (x6.map (Value.int .i64))) := Lib.hid (own_mono OZ8.out (Nat.le_succ _))
  have BF := BZ8
  clear DZ8 PZ8 OZ8 BZ8
  clear HB9 D9 P9 OWN9
  go_wp2
  generalize ((((((((((w9.setCell ⟨w.heap.size, 0, none⟩ (.int .i64 x0)).setCell ⟨w.heap.size, 1, none⟩ (.int .i64 x1)).setCell ⟨w.heap.size, 2, none⟩ (.string ⟨x2.toArray⟩)).setCell ⟨w.heap.size, 3, none⟩ (.int .i64 x3)).setCell ⟨w.heap.size, 4, none⟩ (.int .i64 x4)).setCell ⟨w.heap.size, 5, none⟩ (.int .i64 x5)).setCell ⟨w.heap.size, 6, none⟩ (.slice la x6.length lc)).setCell ⟨w.heap.size, 7, none⟩ (.int .i64 x7)).setCell ⟨w.heap.size, 8, none⟩ (.int .i64 x8))) = WF at BF OF DF PF ⊢
  obtain ⟨e0, e1, e2, e3, e4, e5, e6, e7, e8⟩ := nine_any BF.out
  refine bodyPost_ret (v := .agg #[.int .i64 x0, .int .i64 x1, .string ⟨x2.toArray⟩, .int .i64 x3, .int .i64 x4, .int .i64 x5, .slice la x6.length lc, .int .i64 x7, .int .i64 x8]) (by simp [results, Tryz.results14, go_sem, e0, e1, e2, e3, e4, e5, e6, e7, e8]) rfl ⟨la, lc, rfl, OF.out, DF.out, PF.out⟩
end Go.Proofs.YtdhioalfgogcdaaGreatDoor
