/- What every walk of a statement's text takes: valid labels under names, blocks, the arguments in their boxes. -/
import Derived.Test.YthpginepnleokaaLabS
namespace Go.Proofs.Ythpginepnleokaa
open Go.RowKit
theorem valid_eq (l : Lab) (r : Bool) (hr : validB l = r) (a : Option Addr) (n c : Nat) (w : World) (h : LabAt w a n c l) :
    Calls Try.prog 16 #[.agg #[.int .i64 l.u, .slice a n c, .int .i64 l.ap, .int .i64 l.d]] w fun e w' => e = .returned (.bool r) ∧ Below w.heap.size w w' := by
  have := valid_any l a n c w h
  rwa [hr] at this
theorem allows_eq (l : Lab) (cls now k : Int) (out : List Int) (r : Bool) (hr : allB l cls now out k = r) (a : Option Addr) (n c : Nat) (a2 : Option Addr) (n2 c2 : Nat) (w : World) (hcl : Bd cls) (h : LabAt w a n c l) (h2 : IsInts .i64 w a2 n2 c2 out) :
    Calls Try.prog 24 #[.agg #[.int .i64 l.u, .slice a n c, .int .i64 l.ap, .int .i64 l.d], .int .i64 cls, .int .i64 now, .slice a2 n2 c2, .int .i64 k] w fun e w' => e = .returned (.bool r) ∧ Below w.heap.size w w' := by
  have := allows_any l cls now k out a n c a2 n2 c2 w hcl h h2
  rwa [hr] at this
def B4 (x0 x1 x2 x3 : Int) : Prop := Bd x0 ∧ Bd x1 ∧ Bd x2 ∧ Bd x3
/-- Make, its label under a name. -/
theorem make_eq (x0 x1 x2 x3 : Int) (h : B4 x0 x1 x2 x3) : ∃ l : Lab, Hid (makeL x0 x1 x2 x3 = l) ∧ Hid (Ok l) ∧ Hid (∀ W : World, Calls Try.prog 14 #[.agg #[.int .i64 x0, .int .i64 x1, .int .i64 x2, .int .i64 x3]] W (LabGot l W)) :=
  ⟨_, Lib.hid rfl, Lib.hid (makeL_ok x0 x1 x2 x3), Lib.hid fun W => make_at x0 x1 x2 x3 W h.1 h.2.1 h.2.2.1 h.2.2.2⟩
theorem zero_at (w : World) : LabAt w none 0 0 zeroL := ⟨nil_ints w, zero_ok.bd⟩
theorem same_refl (l : Lab) : sameB l l = true := (sameB_iff l l).2 rfl
theorem one_alloc (w : World) (o1 : Obj) : (w.alloc o1).heap[w.heap.size]? = some o1 ∧ Below w.heap.size w (w.alloc o1) := ⟨heap_alloc_new w o1, below_alloc w o1⟩
theorem two_allocs (w : World) (o1 o2 : Obj) : ((w.alloc o1).alloc o2).heap[w.heap.size]? = some o1 ∧ ((w.alloc o1).alloc o2).heap[w.heap.size + 1]? = some o2 ∧ Below w.heap.size w ((w.alloc o1).alloc o2) := by
  refine ⟨?_, ?_, (below_alloc _ _).alloc (by simp) _⟩
  · rw [Below.heap_alloc _ _ _ (by simp), heap_alloc_new]
  · have := heap_alloc_new (w.alloc o1) o2
    simpa using this
theorem three_allocs (w : World) (o1 o2 o3 : Obj) : (((w.alloc o1).alloc o2).alloc o3).heap[w.heap.size]? = some o1 ∧ (((w.alloc o1).alloc o2).alloc o3).heap[w.heap.size + 1]? = some o2 ∧ (((w.alloc o1).alloc o2).alloc o3).heap[w.heap.size + 1 + 1]? = some o3 ∧ Below w.heap.size w (((w.alloc o1).alloc o2).alloc o3) :=
  ⟨(three_blocks w o1 o2 o3).1, (three_blocks w o1 o2 o3).2.1, (three_blocks w o1 o2 o3).2.2.1, ((below_alloc _ _).alloc (by simp) _).alloc (by simp; omega) _⟩
end Go.Proofs.Ythpginepnleokaa
