/- The fixed calls of the statements, which all answer as they should. -/
import Derived.Test.YthpginepnleokaaLabJ2

namespace Go.Proofs.Ythpginepnleokaa
open Go.RowKit
def lA : Lab := ⟨5, [2], 1, 2⟩
def lB : Lab := ⟨3, [1, 2, 7], 0, 4⟩
def lJ : Lab := ⟨5, [1, 2, 7], 1, 6⟩
theorem jAB : joinL lA lB = lJ := lab_ext (by decide +kernel) (by decide +kernel) (by decide +kernel) (by decide +kernel)
theorem blockOver {W W' : World} {g : Nat} {ob : Obj} (hb : Below W.heap.size W W') (h : W.heap[g]? = some ob) : W'.heap[g]? = some ob := (hb.block g (Array.getElem?_eq_some_iff.1 h).1).trans h
theorem cells4 {W : World} {g : Nat} {a b c d : Value} {t : TypeId} {fr : Nat × Nat} (h : W.heap[g]? = some (.cells #[a, b, c, d] t fr)) : W.cell? ⟨g, 0, none⟩ = some a ∧ W.cell? ⟨g, 1, none⟩ = some b ∧ W.cell? ⟨g, 2, none⟩ = some c ∧ W.cell? ⟨g, 3, none⟩ = some d :=
  ⟨by rw [Joins.cell_of_block h]; rfl, by rw [Joins.cell_of_block h]; rfl, by rw [Joins.cell_of_block h]; rfl, by rw [Joins.cell_of_block h]; rfl⟩
theorem same_lit (l m : Lab) (r : Bool) (cs : Array Value) (n2 : Nat) (hr : sameB l m = r) (hb : Bd m.u ∧ Bd m.ap ∧ Bd m.d) (hlit : ∀ w : World, IsInts .i64 (w.alloc (.cells cs 3)) (some ⟨w.heap.size, 0, none⟩) n2 n2 m.af)
    (a : Option Addr) (n c : Nat) (w : World) (g : Nat) (hg : g = w.heap.size) (h : LabAt w a n c l) :
    Calls Try.prog 18 #[.agg #[.int .i64 l.u, .slice a n c, .int .i64 l.ap, .int .i64 l.d], .agg #[.int .i64 m.u, .slice (some ⟨g, 0, none⟩) n2 n2, .int .i64 m.ap, .int .i64 m.d]] (w.alloc (.cells cs 3)) fun e w' => e = .returned (.bool r) ∧ Below w.heap.size w w' := by
  subst hg
  have := same_any l m a n c (some ⟨w.heap.size, 0, none⟩) n2 n2 (w.alloc (.cells cs 3)) (h.over (below_alloc _ _)) ⟨hlit w, hb⟩
  rw [hr] at this
  exact this.mono fun e w' ⟨h1, h2⟩ => ⟨h1, bel2 (below_alloc _ _) h2⟩
theorem valid_lit (l : Lab) (r : Bool) (cs : Array Value) (n2 : Nat) (hr : validB l = r) (hb : Bd l.u ∧ Bd l.ap ∧ Bd l.d) (hlit : ∀ w : World, IsInts .i64 (w.alloc (.cells cs 3)) (some ⟨w.heap.size, 0, none⟩) n2 n2 l.af)
    (w : World) (g : Nat) (hg : g = w.heap.size) :
    Calls Try.prog 16 #[.agg #[.int .i64 l.u, .slice (some ⟨g, 0, none⟩) n2 n2, .int .i64 l.ap, .int .i64 l.d]] (w.alloc (.cells cs 3)) fun e w' => e = .returned (.bool r) ∧ Below w.heap.size w w' := by
  subst hg
  have := valid_any l (some ⟨w.heap.size, 0, none⟩) n2 n2 (w.alloc (.cells cs 3)) ⟨hlit w, hb⟩
  rw [hr] at this
  exact this.mono fun e w' ⟨h1, h2⟩ => ⟨h1, bel2 (below_alloc _ _) h2⟩
theorem valid_nil (l : Lab) (r : Bool) (hr : validB l = r) (hb : Bd l.u ∧ Bd l.ap ∧ Bd l.d) (ha : l.af = []) (w : World) :
    Calls Try.prog 16 #[.agg #[.int .i64 l.u, .slice none 0 0, .int .i64 l.ap, .int .i64 l.d]] w fun e w' => e = .returned (.bool r) ∧ Below w.heap.size w w' := by
  have := valid_any l none 0 0 w ⟨by rw [ha]; exact nil_ints w, hb⟩
  rwa [hr] at this
theorem leq_eq (l m : Lab) (r : Bool) (hr : leqB l m = r) (a : Option Addr) (n c : Nat) (a2 : Option Addr) (n2 c2 : Nat) (w : World) (h : LabAt w a n c l) (h2 : LabAt w a2 n2 c2 m) :
    Calls Try.prog 20 #[.agg #[.int .i64 l.u, .slice a n c, .int .i64 l.ap, .int .i64 l.d], .agg #[.int .i64 m.u, .slice a2 n2 c2, .int .i64 m.ap, .int .i64 m.d]] w fun e w' => e = .returned (.bool r) ∧ Below w.heap.size w w' := by
  have := leq_any l m a n c a2 n2 c2 w h h2
  rwa [hr] at this
theorem same_eq (l m : Lab) (r : Bool) (hr : sameB l m = r) (a : Option Addr) (n c : Nat) (a2 : Option Addr) (n2 c2 : Nat) (w : World) (h : LabAt w a n c l) (h2 : LabAt w a2 n2 c2 m) :
    Calls Try.prog 18 #[.agg #[.int .i64 l.u, .slice a n c, .int .i64 l.ap, .int .i64 l.d], .agg #[.int .i64 m.u, .slice a2 n2 c2, .int .i64 m.ap, .int .i64 m.d]] w fun e w' => e = .returned (.bool r) ∧ Below w.heap.size w w' := by
  have := same_any l m a n c a2 n2 c2 w h h2
  rwa [hr] at this
theorem join_eq (l m j : Lab) (hj : joinL l m = j) (a : Option Addr) (n c : Nat) (a2 : Option Addr) (n2 c2 : Nat) (w : World) (h : LabAt w a n c l) (h2 : LabAt w a2 n2 c2 m) :
    Calls Try.prog 22 #[.agg #[.int .i64 l.u, .slice a n c, .int .i64 l.ap, .int .i64 l.d], .agg #[.int .i64 m.u, .slice a2 n2 c2, .int .i64 m.ap, .int .i64 m.d]] w (LabGot j w) := by
  have := join_at l m a n c a2 n2 c2 w h h2
  rwa [hj] at this
set_option maxRecDepth 100000 in
set_option maxHeartbeats 8000000 in
theorem sane_any (w : World) : Calls Try.prog 13 #[] w fun e w' => e = .returned (.bool true) ∧ Below w.heap.size w w' := by
  have B0 : Below w.heap.size w ((((w.alloc (.cells #[.int .i64 2] 3)).alloc (.cells #[.int .i64 5, .slice (some ⟨w.heap.size, 0, none⟩) 1 1, .int .i64 1, .int .i64 2] 26)).alloc (.cells #[.int .i64 1, .int .i64 2, .int .i64 7] 3)).alloc (.cells #[.int .i64 3, .slice (some ⟨w.heap.size + 1 + 1, 0, none⟩) 3 3, .int .i64 0, .int .i64 4] 26)) := (((below_alloc _ _).alloc (by simp) _).alloc (by simp; omega) _).alloc (by simp; omega) _
  have hA : ((((w.alloc (.cells #[.int .i64 2] 3)).alloc (.cells #[.int .i64 5, .slice (some ⟨w.heap.size, 0, none⟩) 1 1, .int .i64 1, .int .i64 2] 26)).alloc (.cells #[.int .i64 1, .int .i64 2, .int .i64 7] 3)).alloc (.cells #[.int .i64 3, .slice (some ⟨w.heap.size + 1 + 1, 0, none⟩) 3 3, .int .i64 0, .int .i64 4] 26)).heap[w.heap.size + 1]? = some (.cells #[.int .i64 5, .slice (some ⟨w.heap.size, 0, none⟩) 1 1, .int .i64 1, .int .i64 2] 26 (0, 0)) :=
    (Below.heap_alloc _ _ _ (by simp)).trans (three_blocks w _ _ _).2.1
  have hB : ((((w.alloc (.cells #[.int .i64 2] 3)).alloc (.cells #[.int .i64 5, .slice (some ⟨w.heap.size, 0, none⟩) 1 1, .int .i64 1, .int .i64 2] 26)).alloc (.cells #[.int .i64 1, .int .i64 2, .int .i64 7] 3)).alloc (.cells #[.int .i64 3, .slice (some ⟨w.heap.size + 1 + 1, 0, none⟩) 3 3, .int .i64 0, .int .i64 4] 26)).heap[w.heap.size + 1 + 1 + 1]? = some (.cells #[.int .i64 3, .slice (some ⟨w.heap.size + 1 + 1, 0, none⟩) 3 3, .int .i64 0, .int .i64 4] 26 (0, 0)) := by
    have := three_blocks (w.alloc (.cells #[.int .i64 2] 3)) (.cells #[.int .i64 5, .slice (some ⟨w.heap.size, 0, none⟩) 1 1, .int .i64 1, .int .i64 2] 26) (.cells #[.int .i64 1, .int .i64 2, .int .i64 7] 3) (.cells #[.int .i64 3, .slice (some ⟨w.heap.size + 1 + 1, 0, none⟩) 3 3, .int .i64 0, .int .i64 4] 26)
    have h3 := this.2.2.1
    rw [show (w.alloc (.cells #[.int .i64 2] 3)).heap.size + 2 = w.heap.size + 1 + 1 + 1 by simp] at h3
    exact h3
  have lAt : LabAt ((((w.alloc (.cells #[.int .i64 2] 3)).alloc (.cells #[.int .i64 5, .slice (some ⟨w.heap.size, 0, none⟩) 1 1, .int .i64 1, .int .i64 2] 26)).alloc (.cells #[.int .i64 1, .int .i64 2, .int .i64 7] 3)).alloc (.cells #[.int .i64 3, .slice (some ⟨w.heap.size + 1 + 1, 0, none⟩) 3 3, .int .i64 0, .int .i64 4] 26)) (some ⟨w.heap.size, 0, none⟩) 1 1 lA := ⟨(((litD w).alloc _).alloc _).alloc _, by simp [lA, Bd]⟩
  have lBt : LabAt ((((w.alloc (.cells #[.int .i64 2] 3)).alloc (.cells #[.int .i64 5, .slice (some ⟨w.heap.size, 0, none⟩) 1 1, .int .i64 1, .int .i64 2] 26)).alloc (.cells #[.int .i64 1, .int .i64 2, .int .i64 7] 3)).alloc (.cells #[.int .i64 3, .slice (some ⟨w.heap.size + 1 + 1, 0, none⟩) 3 3, .int .i64 0, .int .i64 4] 26)) (some ⟨w.heap.size + 1 + 1, 0, none⟩) 3 3 lB := by
    have := (litC ((w.alloc (.cells #[.int .i64 2] 3)).alloc (.cells #[.int .i64 5, .slice (some ⟨w.heap.size, 0, none⟩) 1 1, .int .i64 1, .int .i64 2] 26))).alloc (.cells #[.int .i64 3, .slice (some ⟨w.heap.size + 1 + 1, 0, none⟩) 3 3, .int .i64 0, .int .i64 4] 26)
    rw [show ((w.alloc (.cells #[.int .i64 2] 3)).alloc (.cells #[.int .i64 5, .slice (some ⟨w.heap.size, 0, none⟩) 1 1, .int .i64 1, .int .i64 2] 26)).heap.size = w.heap.size + 1 + 1 by simp] at this
    exact ⟨this, by simp [lB, Bd]⟩
  have HB0 := Lib.hid B0
  have HA := Lib.hid hA
  have HB := Lib.hid hB
  have LA := Lib.hid lAt
  have LB := Lib.hid lBt
  clear B0 hA hB lAt lBt
  go_enter Try.func13, Try.ntmps13
  go_wp2_with fail
  refine (join_eq lA lB lJ jAB _ _ _ _ _ _ _ LA.out LB.out).mono ?_
  rintro e w1 ⟨aj, nj, cj, rfl, hj, _, b1⟩
  have LJ := Lib.hid (hj.over (below_alloc _ (.cells #[.int .i64 5, .slice aj nj cj, .int .i64 1, .int .i64 6] 26)))
  have bw : Below w.heap.size w (w1.alloc (.cells #[.int .i64 5, .slice aj nj cj, .int .i64 1, .int .i64 6] 26)) := (bel2 HB0.out b1).alloc (bel2 HB0.out b1).size _
  have HA1 := Lib.hid (blockOver (bel2 b1 (below_alloc _ (.cells #[.int .i64 5, .slice aj nj cj, .int .i64 1, .int .i64 6] 26))) HA.out)
  have HB1 := Lib.hid (blockOver (bel2 b1 (below_alloc _ (.cells #[.int .i64 5, .slice aj nj cj, .int .i64 1, .int .i64 6] 26))) HB.out)
  have LA1 := Lib.hid (LA.out.over (bel2 b1 (below_alloc _ (.cells #[.int .i64 5, .slice aj nj cj, .int .i64 1, .int .i64 6] 26))))
  have LB1 := Lib.hid (LB.out.over (bel2 b1 (below_alloc _ (.cells #[.int .i64 5, .slice aj nj cj, .int .i64 1, .int .i64 6] 26))))
  have HJ1 := Lib.hid (heap_alloc_new w1 (.cells #[.int .i64 5, .slice aj nj cj, .int .i64 1, .int .i64 6] 26))
  clear hj HB0 HA HB LA LB b1
  have e5 : lJ.u = 5 := rfl
  have e6 : lJ.ap = 1 := rfl
  have e7 : lJ.d = 6 := rfl
  simp only [e5, e6, e7]
  clear e5 e6 e7
  obtain ⟨p0, p1, p2, p3⟩ := cells4 HA1.out
  obtain ⟨q0, q1, q2, q3⟩ := cells4 HB1.out
  obtain ⟨r0, r1, r2, r3⟩ := cells4 HJ1.out
  go_wp2_with fail
  refine (same_lit lJ lJ true _ 3 (by decide +kernel) (by simp [lJ, Bd]) litC _ _ _ _ _ (by first | rfl | simp) LJ.out).mono ?_
  rintro e w2 ⟨rfl, b2⟩
  have HA2 := Lib.hid (blockOver b2 HA1.out)
  have HB2 := Lib.hid (blockOver b2 HB1.out)
  have HJ2 := Lib.hid (blockOver b2 HJ1.out)
  have LA2 := Lib.hid (LA1.out.over b2)
  have LB2 := Lib.hid (LB1.out.over b2)
  have LJ2 := Lib.hid (LJ.out.over b2)
  have bw := bel2 bw b2
  clear p0 p1 p2 p3 q0 q1 q2 q3 r0 r1 r2 r3 HA1 HB1 HJ1 LA1 LB1 LJ b2
  obtain ⟨p0, p1, p2, p3⟩ := cells4 HA2.out
  obtain ⟨q0, q1, q2, q3⟩ := cells4 HB2.out
  obtain ⟨r0, r1, r2, r3⟩ := cells4 HJ2.out
  go_wp2_with fail
  refine (leq_eq lA lJ true (by decide +kernel) _ _ _ _ _ _ _ LA2.out LJ2.out).mono ?_
  rintro e w3 ⟨rfl, b3⟩
  have HA3 := Lib.hid (blockOver b3 HA2.out)
  have HB3 := Lib.hid (blockOver b3 HB2.out)
  have HJ3 := Lib.hid (blockOver b3 HJ2.out)
  have LA3 := Lib.hid (LA2.out.over b3)
  have LB3 := Lib.hid (LB2.out.over b3)
  have LJ3 := Lib.hid (LJ2.out.over b3)
  have bw := bel2 bw b3
  clear p0 p1 p2 p3 q0 q1 q2 q3 r0 r1 r2 r3 HA2 HB2 HJ2 LA2 LB2 LJ2 b3
  obtain ⟨p0, p1, p2, p3⟩ := cells4 HA3.out
  obtain ⟨q0, q1, q2, q3⟩ := cells4 HB3.out
  obtain ⟨r0, r1, r2, r3⟩ := cells4 HJ3.out
  go_wp2_with fail
  refine (leq_eq lJ lA false (by decide +kernel) _ _ _ _ _ _ _ LJ3.out LA3.out).mono ?_
  rintro e w4 ⟨rfl, b4⟩
  have HA4 := Lib.hid (blockOver b4 HA3.out)
  have HB4 := Lib.hid (blockOver b4 HB3.out)
  have HJ4 := Lib.hid (blockOver b4 HJ3.out)
  have LA4 := Lib.hid (LA3.out.over b4)
  have LB4 := Lib.hid (LB3.out.over b4)
  have LJ4 := Lib.hid (LJ3.out.over b4)
  have bw := bel2 bw b4
  clear p0 p1 p2 p3 q0 q1 q2 q3 r0 r1 r2 r3 HA3 HB3 HJ3 LA3 LB3 LJ3 b4
  obtain ⟨p0, p1, p2, p3⟩ := cells4 HA4.out
  obtain ⟨q0, q1, q2, q3⟩ := cells4 HB4.out
  obtain ⟨r0, r1, r2, r3⟩ := cells4 HJ4.out
  go_wp2_with fail
  refine (same_eq lA lB false (by decide +kernel) _ _ _ _ _ _ _ LA4.out LB4.out).mono ?_
  rintro e w5 ⟨rfl, b5⟩
  have HA5 := Lib.hid (blockOver b5 HA4.out)
  have HB5 := Lib.hid (blockOver b5 HB4.out)
  have HJ5 := Lib.hid (blockOver b5 HJ4.out)
  have LA5 := Lib.hid (LA4.out.over b5)
  have LB5 := Lib.hid (LB4.out.over b5)
  have LJ5 := Lib.hid (LJ4.out.over b5)
  have bw := bel2 bw b5
  clear p0 p1 p2 p3 q0 q1 q2 q3 r0 r1 r2 r3 HA4 HB4 HJ4 LA4 LB4 LJ4 b5
  obtain ⟨p0, p1, p2, p3⟩ := cells4 HA5.out
  obtain ⟨q0, q1, q2, q3⟩ := cells4 HB5.out
  obtain ⟨r0, r1, r2, r3⟩ := cells4 HJ5.out
  go_wp2_with fail
  refine (allows_lit lJ 0 5 1 [7, 1, 2] 3 true _ (by decide +kernel) (by simp [Bd]) litA _ _ _ _ _ (by first | rfl | simp) LJ5.out).mono ?_
  rintro e w6 ⟨rfl, b6⟩
  have HA6 := Lib.hid (blockOver b6 HA5.out)
  have HB6 := Lib.hid (blockOver b6 HB5.out)
  have HJ6 := Lib.hid (blockOver b6 HJ5.out)
  have LA6 := Lib.hid (LA5.out.over b6)
  have LB6 := Lib.hid (LB5.out.over b6)
  have LJ6 := Lib.hid (LJ5.out.over b6)
  have bw := bel2 bw b6
  clear p0 p1 p2 p3 q0 q1 q2 q3 r0 r1 r2 r3 HA5 HB5 HJ5 LA5 LB5 LJ5 b6
  obtain ⟨p0, p1, p2, p3⟩ := cells4 HA6.out
  obtain ⟨q0, q1, q2, q3⟩ := cells4 HB6.out
  obtain ⟨r0, r1, r2, r3⟩ := cells4 HJ6.out
  go_wp2_with fail
  refine (allows_lit lJ 0 4 1 [7, 1, 2] 3 false _ (by decide +kernel) (by simp [Bd]) litA _ _ _ _ _ (by first | rfl | simp) LJ6.out).mono ?_
  rintro e w7 ⟨rfl, b7⟩
  have HA7 := Lib.hid (blockOver b7 HA6.out)
  have HB7 := Lib.hid (blockOver b7 HB6.out)
  have HJ7 := Lib.hid (blockOver b7 HJ6.out)
  have LA7 := Lib.hid (LA6.out.over b7)
  have LB7 := Lib.hid (LB6.out.over b7)
  have LJ7 := Lib.hid (LJ6.out.over b7)
  have bw := bel2 bw b7
  clear p0 p1 p2 p3 q0 q1 q2 q3 r0 r1 r2 r3 HA6 HB6 HJ6 LA6 LB6 LJ6 b7
  obtain ⟨p0, p1, p2, p3⟩ := cells4 HA7.out
  obtain ⟨q0, q1, q2, q3⟩ := cells4 HB7.out
  obtain ⟨r0, r1, r2, r3⟩ := cells4 HJ7.out
  go_wp2_with fail
  refine (allows_lit lJ 0 5 1 [7, 1] 2 false _ (by decide +kernel) (by simp [Bd]) litB _ _ _ _ _ (by first | rfl | simp) LJ7.out).mono ?_
  rintro e w8 ⟨rfl, b8⟩
  have HA8 := Lib.hid (blockOver b8 HA7.out)
  have HB8 := Lib.hid (blockOver b8 HB7.out)
  have HJ8 := Lib.hid (blockOver b8 HJ7.out)
  have LA8 := Lib.hid (LA7.out.over b8)
  have LB8 := Lib.hid (LB7.out.over b8)
  have LJ8 := Lib.hid (LJ7.out.over b8)
  have bw := bel2 bw b8
  clear p0 p1 p2 p3 q0 q1 q2 q3 r0 r1 r2 r3 HA7 HB7 HJ7 LA7 LB7 LJ7 b8
  obtain ⟨p0, p1, p2, p3⟩ := cells4 HA8.out
  obtain ⟨q0, q1, q2, q3⟩ := cells4 HB8.out
  obtain ⟨r0, r1, r2, r3⟩ := cells4 HJ8.out
  go_wp2_with fail
  refine (allows_lit lJ 0 5 0 [7, 1, 2] 3 false _ (by decide +kernel) (by simp [Bd]) litA _ _ _ _ _ (by first | rfl | simp) LJ8.out).mono ?_
  rintro e w9 ⟨rfl, b9⟩
  have HA9 := Lib.hid (blockOver b9 HA8.out)
  have HB9 := Lib.hid (blockOver b9 HB8.out)
  have HJ9 := Lib.hid (blockOver b9 HJ8.out)
  have LA9 := Lib.hid (LA8.out.over b9)
  have LB9 := Lib.hid (LB8.out.over b9)
  have LJ9 := Lib.hid (LJ8.out.over b9)
  have bw := bel2 bw b9
  clear p0 p1 p2 p3 q0 q1 q2 q3 r0 r1 r2 r3 HA8 HB8 HJ8 LA8 LB8 LJ8 b9
  obtain ⟨p0, p1, p2, p3⟩ := cells4 HA9.out
  obtain ⟨q0, q1, q2, q3⟩ := cells4 HB9.out
  obtain ⟨r0, r1, r2, r3⟩ := cells4 HJ9.out
  go_wp2_with fail
  refine (allows_lit lJ 1 5 1 [7, 1, 2] 3 false _ (by decide +kernel) (by simp [Bd]) litA _ _ _ _ _ (by first | rfl | simp) LJ9.out).mono ?_
  rintro e w10 ⟨rfl, b10⟩
  have HA10 := Lib.hid (blockOver b10 HA9.out)
  have HB10 := Lib.hid (blockOver b10 HB9.out)
  have HJ10 := Lib.hid (blockOver b10 HJ9.out)
  have LA10 := Lib.hid (LA9.out.over b10)
  have LB10 := Lib.hid (LB9.out.over b10)
  have LJ10 := Lib.hid (LJ9.out.over b10)
  have bw := bel2 bw b10
  clear p0 p1 p2 p3 q0 q1 q2 q3 r0 r1 r2 r3 HA9 HB9 HJ9 LA9 LB9 LJ9 b10
  obtain ⟨p0, p1, p2, p3⟩ := cells4 HA10.out
  obtain ⟨q0, q1, q2, q3⟩ := cells4 HB10.out
  obtain ⟨r0, r1, r2, r3⟩ := cells4 HJ10.out
  go_wp2_with fail
  refine (valid_lit ⟨0, [2, 2], 0, 0⟩ false _ 2 (by decide +kernel) (by simp [Bd]) litE _ _ (by first | rfl | simp)).mono ?_
  rintro e w11 ⟨rfl, b11⟩
  have HA11 := Lib.hid (blockOver b11 HA10.out)
  have HB11 := Lib.hid (blockOver b11 HB10.out)
  have HJ11 := Lib.hid (blockOver b11 HJ10.out)
  have LA11 := Lib.hid (LA10.out.over b11)
  have LB11 := Lib.hid (LB10.out.over b11)
  have LJ11 := Lib.hid (LJ10.out.over b11)
  have bw := bel2 bw b11
  clear p0 p1 p2 p3 q0 q1 q2 q3 r0 r1 r2 r3 HA10 HB10 HJ10 LA10 LB10 LJ10 b11
  obtain ⟨p0, p1, p2, p3⟩ := cells4 HA11.out
  obtain ⟨q0, q1, q2, q3⟩ := cells4 HB11.out
  obtain ⟨r0, r1, r2, r3⟩ := cells4 HJ11.out
  go_wp2_with fail
  refine (valid_nil ⟨0, [], 0, 16⟩ false (by decide +kernel) (by simp [Bd]) rfl _).mono ?_
  rintro e w12 ⟨rfl, b12⟩
  have HA12 := Lib.hid (blockOver b12 HA11.out)
  have HB12 := Lib.hid (blockOver b12 HB11.out)
  have HJ12 := Lib.hid (blockOver b12 HJ11.out)
  have LA12 := Lib.hid (LA11.out.over b12)
  have LB12 := Lib.hid (LB11.out.over b12)
  have LJ12 := Lib.hid (LJ11.out.over b12)
  have bw := bel2 bw b12
  clear p0 p1 p2 p3 q0 q1 q2 q3 r0 r1 r2 r3 HA11 HB11 HJ11 LA11 LB11 LJ11 b12
  obtain ⟨p0, p1, p2, p3⟩ := cells4 HA12.out
  obtain ⟨q0, q1, q2, q3⟩ := cells4 HB12.out
  obtain ⟨r0, r1, r2, r3⟩ := cells4 HJ12.out
  go_wp2_with fail
  refine (valid_nil ⟨1000000000, [], 0, 0⟩ true (by decide +kernel) (by simp [Bd]) rfl _).mono ?_
  rintro e w13 ⟨rfl, b13⟩
  have HA13 := Lib.hid (blockOver b13 HA12.out)
  have HB13 := Lib.hid (blockOver b13 HB12.out)
  have HJ13 := Lib.hid (blockOver b13 HJ12.out)
  have LA13 := Lib.hid (LA12.out.over b13)
  have LB13 := Lib.hid (LB12.out.over b13)
  have LJ13 := Lib.hid (LJ12.out.over b13)
  have bw := bel2 bw b13
  clear p0 p1 p2 p3 q0 q1 q2 q3 r0 r1 r2 r3 HA12 HB12 HJ12 LA12 LB12 LJ12 b13
  go_wp2
  go_ret
  exact ⟨rfl, bw⟩
end Go.Proofs.Ythpginepnleokaa
