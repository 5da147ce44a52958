import Derived.Test.YtelipjjjlgnjoaaGreatDoorBlkO
import Derived.Test.YtelipjjjlgnjoaaGreatDoorBlkVL
import Derived.Test.YtelipjjjlgnjoaaGreatDoorMergeP
import Derived.Test.YtelipjjjlgnjoaaGreatDoorMapV
namespace Go.Proofs.YtelipjjjlgnjoaaGreatDoor
open Go.RowKit Go.MapKept Go.Shelf
set_option maxRecDepth 100000
set_option linter.unusedSimpArgs false
set_option linter.unusedVariables false
def bv (e : BE) : Value := blkV e.1 e.2.1 e.2.2.1 e.2.2.2
def beZ : BE := (⟨0, 0, [], 0, 0, ⟨0, [], 0, 0⟩⟩, none, 0, 0)
theorem beZ_ok (w : World) : BeOk w beZ := by
  refine ⟨⟨nil_ints w, ?_, ?_, ?_⟩, ?_, ?_, ?_, ?_, ?_⟩ <;> simp [beZ, Bd, maxLen]
theorem isNone_any (e : BE) (w : World) : Calls Tryz.prog 48 #[bv e] w fun x w' => x = .returned (.bool (e.1.id == 0)) ∧ Below w.heap.size w w' := by
  have B0 := below_alloc w (.cells (elB e).toArray 39)
  unfold bv blkV
  go_enter Tryz.func48, Tryz.ntmps48
  go_wp2
  go_ret
  exact ⟨rfl, B0⟩
theorem itself_any (i : Int) (e : BE) (w : World) : Calls Tryz.prog 45 #[.int .i64 i, bv e] w fun x w' => x = .returned (bv e) ∧ Below w.heap.size w w' := by
  have B0 : Below w.heap.size w ((w.alloc (.cells (elB e).toArray 39)).alloc (.cells (elB e).toArray 39)) := (below_alloc _ _).alloc (by simp) _
  unfold bv blkV
  go_enter Tryz.func45, Tryz.ntmps45
  go_wp2
  refine bodyPost_ret (v := blkV e.1 e.2.1 e.2.2.1 e.2.2.2) (by simp [results, Tryz.results45, go_sem, blkV]) rfl ⟨rfl, ?_⟩
  exact B0
theorem place_any (i : Int) (e : BE) (w : World) : Calls Tryz.prog 51 #[.int .i64 i, bv e] w fun x w' => x = .returned (.int .i64 i) ∧ Below w.heap.size w w' := by
  have B0 := below_alloc w (.cells (elB e).toArray 39)
  unfold bv blkV
  go_enter Tryz.func51, Tryz.ntmps51
  go_wp2
  go_ret
  exact ⟨rfl, B0⟩
def chsE (x y z : BE) : BE × Bool := if sB y.1 x.1 = true then (z, false) else if (sB z.1 x.1 || sB z.1 y.1) = true then (y, false) else if (z.1.id == 0) = true then (y, true) else (z, true)
theorem nine_of {W : World} {g : Nat} {e : BE} {t : TypeId} {fr : Nat × Nat} (h : W.heap[g]? = some (.cells (elB e).toArray t fr)) :
    W.cell? ⟨g, 0, none⟩ = some (.int .i64 e.1.id) ∧ W.cell? ⟨g, 1, none⟩ = some (.int .i64 e.1.kd) ∧ W.cell? ⟨g, 2, none⟩ = some (.string ⟨e.1.tx.toArray⟩) ∧ W.cell? ⟨g, 3, none⟩ = some (.int .i64 e.1.st) ∧ W.cell? ⟨g, 4, none⟩ = some (.int .i64 e.1.rf) ∧ W.cell? ⟨g, 5, none⟩ = some (.int .i64 e.1.lb.u) ∧ W.cell? ⟨g, 6, none⟩ = some (.slice e.2.1 e.2.2.1 e.2.2.2) ∧ W.cell? ⟨g, 7, none⟩ = some (.int .i64 e.1.lb.ap) ∧ W.cell? ⟨g, 8, none⟩ = some (.int .i64 e.1.lb.d) := by
  obtain ⟨r0, r1, r2, r3, r4, r5, r6, r7, r8⟩ := Nine.of_block h
  simp only [Nat.zero_add] at r1 r2 r3 r4 r5 r6 r7 r8
  exact ⟨r0, r1, r2, r3, r4, r5, r6, r7, r8⟩
/-- The nine cells of a block stored into a block of nine cells. -/
def put9 (w : World) (g : Nat) (e : BE) : World := ((((((((w.setCell ⟨g, 0, none⟩ (.int .i64 e.1.id)).setCell ⟨g, 1, none⟩ (.int .i64 e.1.kd)).setCell ⟨g, 2, none⟩ (.string ⟨e.1.tx.toArray⟩)).setCell ⟨g, 3, none⟩ (.int .i64 e.1.st)).setCell ⟨g, 4, none⟩ (.int .i64 e.1.rf)).setCell ⟨g, 5, none⟩ (.int .i64 e.1.lb.u)).setCell ⟨g, 6, none⟩ (.slice e.2.1 e.2.2.1 e.2.2.2)).setCell ⟨g, 7, none⟩ (.int .i64 e.1.lb.ap)).setCell ⟨g, 8, none⟩ (.int .i64 e.1.lb.d)
theorem put9_any {w : World} {g : Nat} {e : BE} {a0 a1 a2 a3 a4 a5 a6 a7 a8 : Value} {t : TypeId} {fr : Nat × Nat} (h : w.heap[g]? = some (.cells #[a0, a1, a2, a3, a4, a5, a6, a7, a8] t fr)) : (put9 w g e).heap[g]? = some (.cells (elB e).toArray t fr) := by
  have h0 : (w.setCell ⟨g, 0, none⟩ (.int .i64 e.1.id)).heap[g]? = some (.cells #[.int .i64 e.1.id, a1, a2, a3, a4, a5, a6, a7, a8] t fr) := Joins.block_setCell h _
  have h1 : ((w.setCell ⟨g, 0, none⟩ (.int .i64 e.1.id)).setCell ⟨g, 1, none⟩ (.int .i64 e.1.kd)).heap[g]? = some (.cells #[.int .i64 e.1.id, .int .i64 e.1.kd, a2, a3, a4, a5, a6, a7, a8] t fr) := Joins.block_setCell h0 _
  have h2 : (((w.setCell ⟨g, 0, none⟩ (.int .i64 e.1.id)).setCell ⟨g, 1, none⟩ (.int .i64 e.1.kd)).setCell ⟨g, 2, none⟩ (.string ⟨e.1.tx.toArray⟩)).heap[g]? = some (.cells #[.int .i64 e.1.id, .int .i64 e.1.kd, .string ⟨e.1.tx.toArray⟩, a3, a4, a5, a6, a7, a8] t fr) := Joins.block_setCell h1 _
  have h3 : ((((w.setCell ⟨g, 0, none⟩ (.int .i64 e.1.id)).setCell ⟨g, 1, none⟩ (.int .i64 e.1.kd)).setCell ⟨g, 2, none⟩ (.string ⟨e.1.tx.toArray⟩)).setCell ⟨g, 3, none⟩ (.int .i64 e.1.st)).heap[g]? = some (.cells #[.int .i64 e.1.id, .int .i64 e.1.kd, .string ⟨e.1.tx.toArray⟩, .int .i64 e.1.st, a4, a5, a6, a7, a8] t fr) := Joins.block_setCell h2 _
  have h4 : (((((w.setCell ⟨g, 0, none⟩ (.int .i64 e.1.id)).setCell ⟨g, 1, none⟩ (.int .i64 e.1.kd)).setCell ⟨g, 2, none⟩ (.string ⟨e.1.tx.toArray⟩)).setCell ⟨g, 3, none⟩ (.int .i64 e.1.st)).setCell ⟨g, 4, none⟩ (.int .i64 e.1.rf)).heap[g]? = some (.cells #[.int .i64 e.1.id, .int .i64 e.1.kd, .string ⟨e.1.tx.toArray⟩, .int .i64 e.1.st, .int .i64 e.1.rf, a5, a6, a7, a8] t fr) := Joins.block_setCell h3 _
  have h5 : ((((((w.setCell ⟨g, 0, none⟩ (.int .i64 e.1.id)).setCell ⟨g, 1, none⟩ (.int .i64 e.1.kd)).setCell ⟨g, 2, none⟩ (.string ⟨e.1.tx.toArray⟩)).setCell ⟨g, 3, none⟩ (.int .i64 e.1.st)).setCell ⟨g, 4, none⟩ (.int .i64 e.1.rf)).setCell ⟨g, 5, none⟩ (.int .i64 e.1.lb.u)).heap[g]? = some (.cells #[.int .i64 e.1.id, .int .i64 e.1.kd, .string ⟨e.1.tx.toArray⟩, .int .i64 e.1.st, .int .i64 e.1.rf, .int .i64 e.1.lb.u, a6, a7, a8] t fr) := Joins.block_setCell h4 _
  have h6 : (((((((w.setCell ⟨g, 0, none⟩ (.int .i64 e.1.id)).setCell ⟨g, 1, none⟩ (.int .i64 e.1.kd)).setCell ⟨g, 2, none⟩ (.string ⟨e.1.tx.toArray⟩)).setCell ⟨g, 3, none⟩ (.int .i64 e.1.st)).setCell ⟨g, 4, none⟩ (.int .i64 e.1.rf)).setCell ⟨g, 5, none⟩ (.int .i64 e.1.lb.u)).setCell ⟨g, 6, none⟩ (.slice e.2.1 e.2.2.1 e.2.2.2)).heap[g]? = some (.cells #[.int .i64 e.1.id, .int .i64 e.1.kd, .string ⟨e.1.tx.toArray⟩, .int .i64 e.1.st, .int .i64 e.1.rf, .int .i64 e.1.lb.u, .slice e.2.1 e.2.2.1 e.2.2.2, a7, a8] t fr) := Joins.block_setCell h5 _
  have h7 : ((((((((w.setCell ⟨g, 0, none⟩ (.int .i64 e.1.id)).setCell ⟨g, 1, none⟩ (.int .i64 e.1.kd)).setCell ⟨g, 2, none⟩ (.string ⟨e.1.tx.toArray⟩)).setCell ⟨g, 3, none⟩ (.int .i64 e.1.st)).setCell ⟨g, 4, none⟩ (.int .i64 e.1.rf)).setCell ⟨g, 5, none⟩ (.int .i64 e.1.lb.u)).setCell ⟨g, 6, none⟩ (.slice e.2.1 e.2.2.1 e.2.2.2)).setCell ⟨g, 7, none⟩ (.int .i64 e.1.lb.ap)).heap[g]? = some (.cells #[.int .i64 e.1.id, .int .i64 e.1.kd, .string ⟨e.1.tx.toArray⟩, .int .i64 e.1.st, .int .i64 e.1.rf, .int .i64 e.1.lb.u, .slice e.2.1 e.2.2.1 e.2.2.2, .int .i64 e.1.lb.ap, a8] t fr) := Joins.block_setCell h6 _
  have h8 : (((((((((w.setCell ⟨g, 0, none⟩ (.int .i64 e.1.id)).setCell ⟨g, 1, none⟩ (.int .i64 e.1.kd)).setCell ⟨g, 2, none⟩ (.string ⟨e.1.tx.toArray⟩)).setCell ⟨g, 3, none⟩ (.int .i64 e.1.st)).setCell ⟨g, 4, none⟩ (.int .i64 e.1.rf)).setCell ⟨g, 5, none⟩ (.int .i64 e.1.lb.u)).setCell ⟨g, 6, none⟩ (.slice e.2.1 e.2.2.1 e.2.2.2)).setCell ⟨g, 7, none⟩ (.int .i64 e.1.lb.ap)).setCell ⟨g, 8, none⟩ (.int .i64 e.1.lb.d)).heap[g]? = some (.cells #[.int .i64 e.1.id, .int .i64 e.1.kd, .string ⟨e.1.tx.toArray⟩, .int .i64 e.1.st, .int .i64 e.1.rf, .int .i64 e.1.lb.u, .slice e.2.1 e.2.2.1 e.2.2.2, .int .i64 e.1.lb.ap, .int .i64 e.1.lb.d] t fr) := Joins.block_setCell h7 _
  exact h8
theorem put9_block {w : World} {g : Nat} {e f : BE} {t : TypeId} {fr : Nat × Nat} (h : w.heap[g]? = some (.cells (elB f).toArray t fr)) : (put9 w g e).heap[g]? = some (.cells (elB e).toArray t fr) := put9_any h
theorem put9_below {B : Nat} {w0 w : World} {g : Nat} (e : BE) (h : Below B w0 w) (hg : B ≤ g) : Below B w0 (put9 w g e) :=
  ((((((((h.setCell (p := ⟨g, 0, none⟩) hg _).setCell (p := ⟨g, 1, none⟩) hg _).setCell (p := ⟨g, 2, none⟩) hg _).setCell (p := ⟨g, 3, none⟩) hg _).setCell (p := ⟨g, 4, none⟩) hg _).setCell (p := ⟨g, 5, none⟩) hg _).setCell (p := ⟨g, 6, none⟩) hg _).setCell (p := ⟨g, 7, none⟩) hg _).setCell (p := ⟨g, 8, none⟩) hg _
set_option maxHeartbeats 4000000 in
theorem choose_any (x y z : BE) (w : World) (hx : BeOk w x) (hy : BeOk w y) (hz : BeOk w z) :
    Calls Tryz.prog 47 #[bv x, bv y, bv z] w fun e w' => e = .returned (.tuple #[bv (chsE x y z).1, .bool (chsE x y z).2]) ∧ Below w.heap.size w w' := by
  have hget := allocs_get w [.cells (elB x).toArray 39 (0, 0), .cells (elB y).toArray 39 (0, 0), .cells (elB z).toArray 39 (0, 0), .cells (elB beZ).toArray 39 (0, 0)]
  have hbw := allocs_below w [.cells (elB x).toArray 39 (0, 0), .cells (elB y).toArray 39 (0, 0), .cells (elB z).toArray 39 (0, 0), .cells (elB beZ).toArray 39 (0, 0)] w (Below.refl _ _)
  obtain ⟨W1, hW1⟩ : ∃ W1, allocs w [.cells (elB x).toArray 39 (0, 0), .cells (elB y).toArray 39 (0, 0), .cells (elB z).toArray 39 (0, 0), .cells (elB beZ).toArray 39 (0, 0)] = W1 := ⟨_, rfl⟩
  rw [hW1] at hget hbw
  have G0 := Lib.hid (show W1.heap[w.heap.size]? = some (.cells (elB x).toArray 39 (0, 0)) from hget 0)
  have G1 := Lib.hid (show W1.heap[w.heap.size + 1]? = some (.cells (elB y).toArray 39 (0, 0)) from hget 1)
  have G2 := Lib.hid (show W1.heap[w.heap.size + 1 + 1]? = some (.cells (elB z).toArray 39 (0, 0)) from hget 2)
  have G3 := Lib.hid (show W1.heap[w.heap.size + 1 + 1 + 1]? = some (.cells (elB beZ).toArray 39 (0, 0)) from hget 3)
  have B1 := Lib.hid hbw
  have K1 := Lib.hid (fun W (hW : Below w.heap.size w W) => bsame_any y x W (hy.over hW) (hx.over hW))
  have K2 := Lib.hid (fun W (hW : Below w.heap.size w W) => bsame_any z x W (hz.over hW) (hx.over hW))
  have K3 := Lib.hid (fun W (hW : Below w.heap.size w W) => bsame_any z y W (hz.over hW) (hy.over hW))
  have K4 := Lib.hid (fun W => isNone_any z W)
  have HE := Lib.hid (show chsE x y z = if sB y.1 x.1 = true then (z, false) else if (sB z.1 x.1 || sB z.1 y.1) = true then (y, false) else if (z.1.id == 0) = true then (y, true) else (z, true) from rfl)
  clear hget hbw hx hy hz
  generalize sB y.1 x.1 = c1 at *
  generalize sB z.1 x.1 = c2 at *
  generalize sB z.1 y.1 = c3 at *
  generalize (z.1.id == 0) = c4 at *
  unfold bv blkV at *
  go_enter Tryz.func47, Tryz.ntmps47
  go_wp2_with fail
  simp only [allocs, List.foldl_cons, List.foldl_nil, elB, beZ] at hW1
  rw [hW1]
  clear hW1
  refine (K1.out _ B1.out).mono ?_
  rintro e w1 ⟨rfl, b1⟩
  have Q1 := Lib.hid (bel2 B1.out b1)
  have H0 := Lib.hid (blockOver b1 G0.out)
  have H1 := Lib.hid (blockOver b1 G1.out)
  have H2 := Lib.hid (blockOver b1 G2.out)
  have H3 := Lib.hid (blockOver b1 G3.out)
  clear b1
  clear K1
  cases c1
  · obtain ⟨z0, z1, z2, z3, z4, z5, z6, z7, z8⟩ := nine_of H2.out
    obtain ⟨x0, x1, x2, x3, x4, x5, x6, x7, x8⟩ := nine_of H0.out
    go_wp2_with fail
    clear z0 z1 z2 z3 z4 z5 z6 z7 z8 x0 x1 x2 x3 x4 x5 x6 x7 x8
    refine (K2.out _ Q1.out).mono ?_
    rintro e w2 ⟨rfl, b2⟩
    have Q2 := Lib.hid (bel2 Q1.out b2)
    have I0 := Lib.hid (blockOver b2 H0.out)
    have I1 := Lib.hid (blockOver b2 H1.out)
    have I2 := Lib.hid (blockOver b2 H2.out)
    have I3 := Lib.hid (blockOver b2 H3.out)
    clear b2
    cases c2
    · obtain ⟨z0, z1, z2, z3, z4, z5, z6, z7, z8⟩ := nine_of I2.out
      obtain ⟨y0, y1, y2, y3, y4, y5, y6, y7, y8⟩ := nine_of I1.out
      go_wp2_with fail
      clear z0 z1 z2 z3 z4 z5 z6 z7 z8 y0 y1 y2 y3 y4 y5 y6 y7 y8
      refine (K3.out _ Q2.out).mono ?_
      rintro e w3 ⟨rfl, b3⟩
      have Q3 := Lib.hid (bel2 Q2.out b3)
      have J0 := Lib.hid (blockOver b3 I0.out)
      have J1 := Lib.hid (blockOver b3 I1.out)
      have J2 := Lib.hid (blockOver b3 I2.out)
      have J3 := Lib.hid (blockOver b3 I3.out)
      clear b3
      cases c3
      · obtain ⟨z0, z1, z2, z3, z4, z5, z6, z7, z8⟩ := nine_of J2.out
        go_wp2_with fail
        clear z0 z1 z2 z3 z4 z5 z6 z7 z8
        refine (K4.out _).mono ?_
        rintro e w4 ⟨rfl, b4⟩
        have Q4 := Lib.hid (bel2 Q3.out b4)
        have L0 := Lib.hid (blockOver b4 J0.out)
        have L1 := Lib.hid (blockOver b4 J1.out)
        have L2 := Lib.hid (blockOver b4 J2.out)
        have L3 := Lib.hid (blockOver b4 J3.out)
        clear b4
        cases c4
        · obtain ⟨s0, s1, s2, s3, s4, s5, s6, s7, s8⟩ := nine_of L2.out
          obtain ⟨r0, r1, r2, r3, r4, r5, r6, r7, r8⟩ := nine_of L3.out
          have f0 := Joins.unfrozen_of_block L3.out 0
          have f1 := Joins.unfrozen_of_block L3.out 1
          have f2 := Joins.unfrozen_of_block L3.out 2
          have f3 := Joins.unfrozen_of_block L3.out 3
          have f4 := Joins.unfrozen_of_block L3.out 4
          have f5 := Joins.unfrozen_of_block L3.out 5
          have f6 := Joins.unfrozen_of_block L3.out 6
          have f7 := Joins.unfrozen_of_block L3.out 7
          have f8 := Joins.unfrozen_of_block L3.out 8
          go_wp2
          clear s0 s1 s2 s3 s4 s5 s6 s7 s8 r0 r1 r2 r3 r4 r5 r6 r7 r8 f0 f1 f2 f3 f4 f5 f6 f7 f8
          obtain ⟨p0, p1, p2, p3, p4, p5, p6, p7, p8⟩ := nine_of (Lib.hid (put9_block (e := z) L3.out)).out
          refine (?_ : bodyPost _ _ _ _ _ (put9 w4 (w.heap.size + 1 + 1 + 1) z))
          refine bodyPost_ret (v := .tuple #[bv z, .bool true]) (by simp [results, Tryz.results47, go_sem, bv, blkV, p0, p1, p2, p3, p4, p5, p6, p7, p8]) rfl ⟨?_, put9_below _ Q4.out (by omega)⟩
          rw [HE.out]; rfl
        · obtain ⟨s0, s1, s2, s3, s4, s5, s6, s7, s8⟩ := nine_of L1.out
          obtain ⟨r0, r1, r2, r3, r4, r5, r6, r7, r8⟩ := nine_of L3.out
          have f0 := Joins.unfrozen_of_block L3.out 0
          have f1 := Joins.unfrozen_of_block L3.out 1
          have f2 := Joins.unfrozen_of_block L3.out 2
          have f3 := Joins.unfrozen_of_block L3.out 3
          have f4 := Joins.unfrozen_of_block L3.out 4
          have f5 := Joins.unfrozen_of_block L3.out 5
          have f6 := Joins.unfrozen_of_block L3.out 6
          have f7 := Joins.unfrozen_of_block L3.out 7
          have f8 := Joins.unfrozen_of_block L3.out 8
          go_wp2
          clear s0 s1 s2 s3 s4 s5 s6 s7 s8 r0 r1 r2 r3 r4 r5 r6 r7 r8 f0 f1 f2 f3 f4 f5 f6 f7 f8
          obtain ⟨p0, p1, p2, p3, p4, p5, p6, p7, p8⟩ := nine_of (Lib.hid (put9_block (e := y) L3.out)).out
          refine (?_ : bodyPost _ _ _ _ _ (put9 w4 (w.heap.size + 1 + 1 + 1) y))
          refine bodyPost_ret (v := .tuple #[bv y, .bool true]) (by simp [results, Tryz.results47, go_sem, bv, blkV, p0, p1, p2, p3, p4, p5, p6, p7, p8]) rfl ⟨?_, put9_below _ Q4.out (by omega)⟩
          rw [HE.out]; rfl
      · obtain ⟨s0, s1, s2, s3, s4, s5, s6, s7, s8⟩ := nine_of J1.out
        obtain ⟨r0, r1, r2, r3, r4, r5, r6, r7, r8⟩ := nine_of J3.out
        have f0 := Joins.unfrozen_of_block J3.out 0
        have f1 := Joins.unfrozen_of_block J3.out 1
        have f2 := Joins.unfrozen_of_block J3.out 2
        have f3 := Joins.unfrozen_of_block J3.out 3
        have f4 := Joins.unfrozen_of_block J3.out 4
        have f5 := Joins.unfrozen_of_block J3.out 5
        have f6 := Joins.unfrozen_of_block J3.out 6
        have f7 := Joins.unfrozen_of_block J3.out 7
        have f8 := Joins.unfrozen_of_block J3.out 8
        go_wp2
        clear s0 s1 s2 s3 s4 s5 s6 s7 s8 r0 r1 r2 r3 r4 r5 r6 r7 r8 f0 f1 f2 f3 f4 f5 f6 f7 f8
        obtain ⟨p0, p1, p2, p3, p4, p5, p6, p7, p8⟩ := nine_of (Lib.hid (put9_block (e := y) J3.out)).out
        refine (?_ : bodyPost _ _ _ _ _ (put9 w3 (w.heap.size + 1 + 1 + 1) y))
        refine bodyPost_ret (v := .tuple #[bv y, .bool false]) (by simp [results, Tryz.results47, go_sem, bv, blkV, p0, p1, p2, p3, p4, p5, p6, p7, p8]) rfl ⟨?_, put9_below _ Q3.out (by omega)⟩
        rw [HE.out]; rfl
    · obtain ⟨s0, s1, s2, s3, s4, s5, s6, s7, s8⟩ := nine_of I1.out
      obtain ⟨r0, r1, r2, r3, r4, r5, r6, r7, r8⟩ := nine_of I3.out
      have f0 := Joins.unfrozen_of_block I3.out 0
      have f1 := Joins.unfrozen_of_block I3.out 1
      have f2 := Joins.unfrozen_of_block I3.out 2
      have f3 := Joins.unfrozen_of_block I3.out 3
      have f4 := Joins.unfrozen_of_block I3.out 4
      have f5 := Joins.unfrozen_of_block I3.out 5
      have f6 := Joins.unfrozen_of_block I3.out 6
      have f7 := Joins.unfrozen_of_block I3.out 7
      have f8 := Joins.unfrozen_of_block I3.out 8
      go_wp2
      clear s0 s1 s2 s3 s4 s5 s6 s7 s8 r0 r1 r2 r3 r4 r5 r6 r7 r8 f0 f1 f2 f3 f4 f5 f6 f7 f8
      obtain ⟨p0, p1, p2, p3, p4, p5, p6, p7, p8⟩ := nine_of (Lib.hid (put9_block (e := y) I3.out)).out
      refine (?_ : bodyPost _ _ _ _ _ (put9 w2 (w.heap.size + 1 + 1 + 1) y))
      refine bodyPost_ret (v := .tuple #[bv y, .bool false]) (by simp [results, Tryz.results47, go_sem, bv, blkV, p0, p1, p2, p3, p4, p5, p6, p7, p8]) rfl ⟨?_, put9_below _ Q2.out (by omega)⟩
      rw [HE.out]; rfl
  · obtain ⟨s0, s1, s2, s3, s4, s5, s6, s7, s8⟩ := nine_of H2.out
    obtain ⟨r0, r1, r2, r3, r4, r5, r6, r7, r8⟩ := nine_of H3.out
    have f0 := Joins.unfrozen_of_block H3.out 0
    have f1 := Joins.unfrozen_of_block H3.out 1
    have f2 := Joins.unfrozen_of_block H3.out 2
    have f3 := Joins.unfrozen_of_block H3.out 3
    have f4 := Joins.unfrozen_of_block H3.out 4
    have f5 := Joins.unfrozen_of_block H3.out 5
    have f6 := Joins.unfrozen_of_block H3.out 6
    have f7 := Joins.unfrozen_of_block H3.out 7
    have f8 := Joins.unfrozen_of_block H3.out 8
    go_wp2
    clear s0 s1 s2 s3 s4 s5 s6 s7 s8 r0 r1 r2 r3 r4 r5 r6 r7 r8 f0 f1 f2 f3 f4 f5 f6 f7 f8
    obtain ⟨p0, p1, p2, p3, p4, p5, p6, p7, p8⟩ := nine_of (Lib.hid (put9_block (e := z) H3.out)).out
    refine (?_ : bodyPost _ _ _ _ _ (put9 w1 (w.heap.size + 1 + 1 + 1) z))
    refine bodyPost_ret (v := .tuple #[bv z, .bool false]) (by simp [results, Tryz.results47, go_sem, bv, blkV, p0, p1, p2, p3, p4, p5, p6, p7, p8]) rfl ⟨?_, put9_below _ Q1.out (by omega)⟩
    rw [HE.out]; rfl
end Go.Proofs.YtelipjjjlgnjoaaGreatDoor
