/- Join: for all labels. -/
import Derived.Test.YthpginepnleokaaLabU2

namespace Go.Proofs.Ythpginepnleokaa
open Go.RowKit
theorem or_fin : ∀ a b : Fin 16, bits BinOp.or IntKind.i64 ((a : Nat) : Int) ((b : Nat) : Int) = orD ((a : Nat) : Int) ((b : Nat) : Int) := by decide +kernel
theorem or_any {a b : Int} (ha : 0 ≤ a ∧ a ≤ 15) (hb : 0 ≤ b ∧ b ≤ 15) : bits BinOp.or IntKind.i64 a b = orD a b := by
  obtain ⟨x, rfl⟩ := cast15 ha
  obtain ⟨y, rfl⟩ := cast15 hb
  exact or_fin x y
/-- A label that is handed back in new memory. -/
def LabNew (l : Lab) (w : World) (e : Ending) (w' : World) : Prop := ∃ a n c, e = .returned (.agg #[.int .i64 l.u, .slice a n c, .int .i64 l.ap, .int .i64 l.d]) ∧ w'.ownsRow w.heap.size 3 1 (.slice a n c) n (l.af.map (Value.int .i64)) ∧ Below w.heap.size w w'
set_option maxRecDepth 100000 in
set_option maxHeartbeats 4000000 in
theorem join_yes (u ap d u2 ap2 d2 o : Int) (a : Option Addr) (n c : Nat) (a2 : Option Addr) (n2 c2 : Nat) (xs ys : List Int) (w : World)
    (ho : bits BinOp.or IntKind.i64 d d2 = o)
    (K1 : Hid (∀ W : World, Below w.heap.size w W → Calls Try.prog 16 #[.agg #[.int .i64 u, .slice a n c, .int .i64 ap, .int .i64 d]] W fun e w' => e = .returned (.bool true) ∧ Below W.heap.size W w'))
    (K2 : Hid (∀ W : World, Below w.heap.size w W → Calls Try.prog 16 #[.agg #[.int .i64 u2, .slice a2 n2 c2, .int .i64 ap2, .int .i64 d2]] W fun e w' => e = .returned (.bool true) ∧ Below W.heap.size W w'))
    (K3 : Hid (∀ W : World, Below w.heap.size w W → Calls Try.prog 34 #[.slice a n c, .slice a2 n2 c2] W (Unified xs ys W))) :
    Calls Try.prog 22 #[.agg #[.int .i64 u, .slice a n c, .int .i64 ap, .int .i64 d], .agg #[.int .i64 u2, .slice a2 n2 c2, .int .i64 ap2, .int .i64 d2]] w (LabNew ⟨max u u2, uni xs ys, max ap ap2, o⟩ w) := by
  have B0 : Below w.heap.size w (((w.alloc (.cells #[.int .i64 u, .slice a n c, .int .i64 ap, .int .i64 d] 26)).alloc (.cells #[.int .i64 u2, .slice a2 n2 c2, .int .i64 ap2, .int .i64 d2] 26)).alloc (.cells #[.int .i64 0, .slice none 0 0, .int .i64 0, .int .i64 0] 26)) := ((below_alloc _ _).alloc (by simp) _).alloc (by simp; omega) _
  have HO := Lib.hid ho
  clear ho
  go_enter Try.func22, Try.ntmps22
  go_wp2_with fail
  refine (K1.out _ B0).mono ?_
  rintro e w1 ⟨rfl, b1⟩
  obtain ⟨hc, hf⟩ := bcell b1
  have hz : w.heap.size + 1 < w1.heap.size := by have := b1.size; simp at this; omega
  have hz0 : w.heap.size < w1.heap.size := by omega
  have hz2 : w.heap.size + 1 + 1 < w1.heap.size := by have := b1.size; simp at this; omega
  go_wp2_with fail
  refine (K2.out _ (bel2 B0 b1)).mono ?_
  rintro e w2 ⟨rfl, b2⟩
  obtain ⟨hc2, hf2⟩ := bcell b2
  have B2 := bel2 (bel2 B0 b1) b2
  have hb0 : w2.heap[w.heap.size]? = some (.cells #[.int .i64 u, .slice a n c, .int .i64 ap, .int .i64 d] 26 (0, 0)) := (b2.block _ hz0).trans ((b1.block _ (by simp; omega)).trans (three_blocks w _ _ _).1)
  have hb1 : w2.heap[w.heap.size + 1]? = some (.cells #[.int .i64 u2, .slice a2 n2 c2, .int .i64 ap2, .int .i64 d2] 26 (0, 0)) := (b2.block _ hz).trans ((b1.block _ (by simp)).trans (three_blocks w _ _ _).2.1)
  have l0 : w2.cell? ⟨w.heap.size, 0, none⟩ = some (.int .i64 u) := by rw [Joins.cell_of_block hb0]; rfl
  have l1 : w2.cell? ⟨w.heap.size, 1, none⟩ = some (.slice a n c) := by rw [Joins.cell_of_block hb0]; rfl
  have l2 : w2.cell? ⟨w.heap.size, 2, none⟩ = some (.int .i64 ap) := by rw [Joins.cell_of_block hb0]; rfl
  have l3 : w2.cell? ⟨w.heap.size, 3, none⟩ = some (.int .i64 d) := by rw [Joins.cell_of_block hb0]; rfl
  have m0 : w2.cell? ⟨w.heap.size + 1, 0, none⟩ = some (.int .i64 u2) := by rw [Joins.cell_of_block hb1]; rfl
  have m1 : w2.cell? ⟨w.heap.size + 1, 1, none⟩ = some (.slice a2 n2 c2) := by rw [Joins.cell_of_block hb1]; rfl
  have m2 : w2.cell? ⟨w.heap.size + 1, 2, none⟩ = some (.int .i64 ap2) := by rw [Joins.cell_of_block hb1]; rfl
  have m3 : w2.cell? ⟨w.heap.size + 1, 3, none⟩ = some (.int .i64 d2) := by rw [Joins.cell_of_block hb1]; rfl
  have hb : w2.heap[w.heap.size + 1 + 1]? = some (.cells #[.int .i64 0, .slice none 0 0, .int .i64 0, .int .i64 0] 26 (0, 0)) := (b2.block _ hz2).trans ((b1.block _ (by simp)).trans (three_blocks w _ _ _).2.2.1)
  have HB := Lib.hid hb
  have hsz2 : w.heap.size + 1 + 1 < w2.heap.size := (Array.getElem?_eq_some_iff.1 hb).1
  have HC := Lib.hid (And.intro hc (And.intro hf (And.intro hc2 hf2)))
  clear hc hf hc2 hf2 hb hb0 hb1
  go_wp2_with fail
  go_region_held3 (fun w' => w'.cell? ⟨w.heap.size, 0, none⟩ = some (.int .i64 u) ∧ w'.cell? ⟨w.heap.size, 1, none⟩ = some (.slice a n c) ∧ w'.cell? ⟨w.heap.size, 2, none⟩ = some (.int .i64 ap) ∧ w'.cell? ⟨w.heap.size, 3, none⟩ = some (.int .i64 d) ∧
      w'.cell? ⟨w.heap.size + 1, 0, none⟩ = some (.int .i64 u2) ∧ w'.cell? ⟨w.heap.size + 1, 1, none⟩ = some (.slice a2 n2 c2) ∧ w'.cell? ⟨w.heap.size + 1, 2, none⟩ = some (.int .i64 ap2) ∧ w'.cell? ⟨w.heap.size + 1, 3, none⟩ = some (.int .i64 d2)) (first | (refine ⟨?_, ?_, ?_, ?_, ?_, ?_, ?_, ?_⟩ <;> (rw [World.cell?_setCell_other _ _ _ _ (by simp), World.cell?_setCell_other _ _ _ _ (by simp), World.cell?_setCell_other _ _ _ _ (by simp), World.cell?_setCell_other _ _ _ _ (by simp)]; exact cellOver b5 (by first | exact l0 | exact l1 | exact l2 | exact l3 | exact m0 | exact m1 | exact m2 | exact m3))) | (go_keep; done) | (go_split_ands; refine ⟨cellOver b5 ?_, cellOver b5 ?_, cellOver b5 ?_, cellOver b5 ?_, cellOver b5 ?_, cellOver b5 ?_, cellOver b5 ?_, cellOver b5 ?_⟩ <;> assumption))
    ((go_at_call 34; refine (K3.out _ B2.drew).mono ?_; rintro e w5 ⟨a5, n5, c5, rfl, own5, b5⟩; have hb5 : w5.heap[w.heap.size + 1 + 1]? = some (.cells #[.int .i64 0, .slice none 0 0, .int .i64 0, .int .i64 0] 26 (0, 0)) := (b5.block _ hsz2).trans HB.out; have e0 : w5.cell? ⟨w.heap.size + 1 + 1, 0, none⟩ = some (.int .i64 0) := (by rw [Joins.cell_of_block hb5]; rfl); have e1 : w5.cell? ⟨w.heap.size + 1 + 1, 1, none⟩ = some (.slice none 0 0) := (by rw [Joins.cell_of_block hb5]; rfl); have e2 : w5.cell? ⟨w.heap.size + 1 + 1, 2, none⟩ = some (.int .i64 0) := (by rw [Joins.cell_of_block hb5]; rfl); have e3 : w5.cell? ⟨w.heap.size + 1 + 1, 3, none⟩ = some (.int .i64 0) := (by rw [Joins.cell_of_block hb5]; rfl); have f0 := Joins.unfrozen_of_block hb5 0; have f1 := Joins.unfrozen_of_block hb5 1; have f2 := Joins.unfrozen_of_block hb5 2; have f3 := Joins.unfrozen_of_block hb5 3; have HB5 := Lib.hid hb5; clear hb5))
  all_goals
    go_wp2
    refine bodyPost_ret (v := .agg #[.int .i64 (max u u2), .slice a5 n5 c5, .int .i64 (max ap ap2), .int .i64 o]) (by simp [results, Try.results22, go_sem, e0, e1, e2, e3, HO.out]) rfl ⟨a5, n5, c5, rfl, ?_, ?_⟩
    · exact own_mono (ownsRow_setCell_below (ownsRow_setCell_below (ownsRow_setCell_below (ownsRow_setCell_below own5 hsz2 _) hsz2 _) hsz2 _) hsz2 _) B2.size
    · exact ((((bel2 B2.drew b5).setCell (by simp; omega) _).setCell (by simp; omega) _).setCell (by simp; omega) _).setCell (by simp; omega) _
set_option maxHeartbeats 1000000 in
theorem join_no (u ap d u2 ap2 d2 : Int) (a : Option Addr) (n c : Nat) (a2 : Option Addr) (n2 c2 : Nat) (w : World) (b1 b2 : Bool) (hno : (b1 && b2) = false)
    (K1 : Hid (∀ W : World, Below w.heap.size w W → Calls Try.prog 16 #[.agg #[.int .i64 u, .slice a n c, .int .i64 ap, .int .i64 d]] W fun e w' => e = .returned (.bool b1) ∧ Below W.heap.size W w'))
    (K2 : Hid (∀ W : World, Below w.heap.size w W → Calls Try.prog 16 #[.agg #[.int .i64 u2, .slice a2 n2 c2, .int .i64 ap2, .int .i64 d2]] W fun e w' => e = .returned (.bool b2) ∧ Below W.heap.size W w')) :
    Calls Try.prog 22 #[.agg #[.int .i64 u, .slice a n c, .int .i64 ap, .int .i64 d], .agg #[.int .i64 u2, .slice a2 n2 c2, .int .i64 ap2, .int .i64 d2]] w (LabNew zeroL w) := by
  have B0 : Below w.heap.size w (((w.alloc (.cells #[.int .i64 u, .slice a n c, .int .i64 ap, .int .i64 d] 26)).alloc (.cells #[.int .i64 u2, .slice a2 n2 c2, .int .i64 ap2, .int .i64 d2] 26)).alloc (.cells #[.int .i64 0, .slice none 0 0, .int .i64 0, .int .i64 0] 26)) := ((below_alloc _ _).alloc (by simp) _).alloc (by simp; omega) _
  cases b1
  · clear K2 hno
    go_enter Try.func22, Try.ntmps22
    go_wp2_with fail
    refine (K1.out _ B0).mono ?_
    rintro e w1 ⟨rfl, b1⟩
    have hb5 : w1.heap[w.heap.size + 1 + 1]? = some (.cells #[.int .i64 0, .slice none 0 0, .int .i64 0, .int .i64 0] 26 (0, 0)) := (b1.block _ (by simp)).trans (three_blocks w _ _ _).2.2.1
    have e0 : w1.cell? ⟨w.heap.size + 1 + 1, 0, none⟩ = some (.int .i64 0) := (by rw [Joins.cell_of_block hb5]; rfl)
    have e1 : w1.cell? ⟨w.heap.size + 1 + 1, 1, none⟩ = some (.slice none 0 0) := (by rw [Joins.cell_of_block hb5]; rfl)
    have e2 : w1.cell? ⟨w.heap.size + 1 + 1, 2, none⟩ = some (.int .i64 0) := (by rw [Joins.cell_of_block hb5]; rfl)
    have e3 : w1.cell? ⟨w.heap.size + 1 + 1, 3, none⟩ = some (.int .i64 0) := (by rw [Joins.cell_of_block hb5]; rfl)
    have f0 := Joins.unfrozen_of_block hb5 0
    have f1 := Joins.unfrozen_of_block hb5 1
    have f2 := Joins.unfrozen_of_block hb5 2
    have f3 := Joins.unfrozen_of_block hb5 3
    clear hb5
    go_wp2
    refine bodyPost_ret (v := .agg #[.int .i64 0, .slice none 0 0, .int .i64 0, .int .i64 0]) (by simp [results, Try.results22, go_sem, e0, e1, e2, e3]) rfl ⟨none, 0, 0, rfl, World.ownsRow_nil _ _ _ _, ?_⟩
    exact ((((bel2 B0 b1).setCell (by simp; omega) _).setCell (by simp; omega) _).setCell (by simp; omega) _).setCell (by simp; omega) _
  · cases b2
    · clear hno
      go_enter Try.func22, Try.ntmps22
      go_wp2_with fail
      refine (K1.out _ B0).mono ?_
      rintro e w1 ⟨rfl, b1⟩
      obtain ⟨hc, hf⟩ := bcell b1
      have hz : w.heap.size + 1 < w1.heap.size := by have := b1.size; simp at this; omega
      have hz0 : w.heap.size < w1.heap.size := by omega
      have hz2 : w.heap.size + 1 + 1 < w1.heap.size := by have := b1.size; simp at this; omega
      go_wp2_with fail
      refine (K2.out _ (bel2 B0 b1)).mono ?_
      rintro e w2 ⟨rfl, b2⟩
      have hb5 : w2.heap[w.heap.size + 1 + 1]? = some (.cells #[.int .i64 0, .slice none 0 0, .int .i64 0, .int .i64 0] 26 (0, 0)) := (b2.block _ hz2).trans ((b1.block _ (by simp)).trans (three_blocks w _ _ _).2.2.1)
      have e0 : w2.cell? ⟨w.heap.size + 1 + 1, 0, none⟩ = some (.int .i64 0) := (by rw [Joins.cell_of_block hb5]; rfl)
      have e1 : w2.cell? ⟨w.heap.size + 1 + 1, 1, none⟩ = some (.slice none 0 0) := (by rw [Joins.cell_of_block hb5]; rfl)
      have e2 : w2.cell? ⟨w.heap.size + 1 + 1, 2, none⟩ = some (.int .i64 0) := (by rw [Joins.cell_of_block hb5]; rfl)
      have e3 : w2.cell? ⟨w.heap.size + 1 + 1, 3, none⟩ = some (.int .i64 0) := (by rw [Joins.cell_of_block hb5]; rfl)
      have f0 := Joins.unfrozen_of_block hb5 0
      have f1 := Joins.unfrozen_of_block hb5 1
      have f2 := Joins.unfrozen_of_block hb5 2
      have f3 := Joins.unfrozen_of_block hb5 3
      clear hb5 hc hf
      go_wp2
      refine bodyPost_ret (v := .agg #[.int .i64 0, .slice none 0 0, .int .i64 0, .int .i64 0]) (by simp [results, Try.results22, go_sem, e0, e1, e2, e3]) rfl ⟨none, 0, 0, rfl, World.ownsRow_nil _ _ _ _, ?_⟩
      exact ((((bel2 (bel2 B0 b1) b2).setCell (by simp; omega) _).setCell (by simp; omega) _).setCell (by simp; omega) _).setCell (by simp; omega) _
    · cases hno
theorem asc_len {zs : List Int} (h : zs.Pairwise (· < ·)) (hb : ∀ z ∈ zs, 1 ≤ z ∧ z ≤ 64) : zs.length ≤ 64 := by
  have key : ∀ i, i < zs.length → (i : Int) + 1 ≤ zs.getD i 0 := by
    intro i
    induction i with
    | zero => intro hi; have := (hb _ (getD_mem hi)).1; omega
    | succ i ih =>
      intro hi
      have h1 := ih (by omega)
      have h2 := asc_at h (show i < i + 1 by omega) hi
      omega
  by_cases h0 : zs.length = 0
  · omega
  · have h1 := key (zs.length - 1) (by omega)
    have h2 := (hb _ (getD_mem (show zs.length - 1 < zs.length by omega))).2
    omega
theorem join_any (l m : Lab) (a : Option Addr) (n c : Nat) (a2 : Option Addr) (n2 c2 : Nat) (w : World) (h : LabAt w a n c l) (h2 : LabAt w a2 n2 c2 m) :
    Calls Try.prog 22 #[.agg #[.int .i64 l.u, .slice a n c, .int .i64 l.ap, .int .i64 l.d], .agg #[.int .i64 m.u, .slice a2 n2 c2, .int .i64 m.ap, .int .i64 m.d]] w (LabNew (joinL l m) w) := by
  have k1 : Hid (∀ W : World, Below w.heap.size w W → Calls Try.prog 16 #[.agg #[.int .i64 l.u, .slice a n c, .int .i64 l.ap, .int .i64 l.d]] W fun e w' => e = .returned (.bool (validB l)) ∧ Below W.heap.size W w') := Lib.hid fun W hb => valid_any l a n c W (h.over hb)
  have k2 : Hid (∀ W : World, Below w.heap.size w W → Calls Try.prog 16 #[.agg #[.int .i64 m.u, .slice a2 n2 c2, .int .i64 m.ap, .int .i64 m.d]] W fun e w' => e = .returned (.bool (validB m)) ∧ Below W.heap.size W w') := Lib.hid fun W hb => valid_any m a2 n2 c2 W (h2.over hb)
  by_cases hv : (validB l && validB m) = true
  · have hv' := hv
    rw [Bool.and_eq_true] at hv'
    rw [hv'.1] at k1
    rw [hv'.2] at k2
    have o1 := (validB_iff l).1 hv'.1
    have o2 := (validB_iff m).1 hv'.2
    have e : joinL l m = joinV l m := joinL_of o1 o2
    rw [e]
    have n1 := asc_len o1.2.2.1 o1.2.1
    have n2' := asc_len o2.2.2.1 o2.2.1
    exact join_yes l.u l.ap l.d m.u m.ap m.d (orD l.d m.d) a n c a2 n2 c2 l.af m.af w (or_any o1.2.2.2.2 o2.2.2.2.2) k1 k2
      (Lib.hid fun W hb => union_any a n c l.af a2 n2 c2 m.af W (h.1.over hb) (h2.1.over hb) o1.2.1 o2.2.1 (by rw [h.1.1] at n1; omega) (by rw [h2.1.1] at n2'; omega))
  · have e : joinL l m = zeroL := by rw [joinL, if_neg hv]
    rw [e]
    exact join_no l.u l.ap l.d m.u m.ap m.d a n c a2 n2 c2 w _ _ (by simpa using hv) k1 k2
end Go.Proofs.Ythpginepnleokaa
