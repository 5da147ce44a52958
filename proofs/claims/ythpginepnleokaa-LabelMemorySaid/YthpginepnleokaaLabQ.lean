/- A slice of labels that a statement's text builds and goes through. -/
import Derived.Test.YthpginepnleokaaLabL
namespace Go.Proofs.Ythpginepnleokaa
open Go.RowKit
def elCells (e : Lab × Option Addr × Nat × Nat) : List Value := [.int .i64 e.1.u, .slice e.2.1 e.2.2.1 e.2.2.2, .int .i64 e.1.ap, .int .i64 e.1.d]
def ListAt (W : World) (g : Nat) (es : List (Lab × Option Addr × Nat × Nat)) : Prop := W.heap[g]? = some (.cells (es.flatMap elCells).toArray 26 (0, 0)) ∧ ∀ e ∈ es, LabAt W e.2.1 e.2.2.1 e.2.2.2 e.1
theorem ListAt.over {W W' : World} {g : Nat} {es : List (Lab × Option Addr × Nat × Nat)} (hb : Below W.heap.size W W') (h : ListAt W g es) : ListAt W' g es :=
  ⟨blockOver hb h.1, fun e he => (h.2 e he).over hb⟩
theorem flat_at : ∀ (es : List (Lab × Option Addr × Nat × Nat)) (k : Nat) (e : Lab × Option Addr × Nat × Nat), es[k]? = some e → ∀ j v, (elCells e)[j]? = some v → (es.flatMap elCells)[k * 4 + j]? = some v
  | [], k, e, h, _, _, _ => by simp at h
  | x :: es, 0, e, h, j, v, hv => by
    simp at h
    subst h
    have hj : j < (elCells x).length := (List.getElem?_eq_some_iff.1 hv).1
    rw [List.flatMap_cons, Nat.zero_mul, Nat.zero_add, List.getElem?_append_left hj, hv]
  | x :: es, k + 1, e, h, j, v, hv => by
    simp at h
    have := flat_at es k e h j v hv
    rw [List.flatMap_cons, List.getElem?_append_right (by simp [elCells]; omega)]
    rw [show (k + 1) * 4 + j - (elCells x).length = k * 4 + j by simp [elCells]; omega]
    exact this
/-- The k-th label of the slice: its four cells, and how it reads. -/
theorem ListAt.at_ {W : World} {g : Nat} {es : List (Lab × Option Addr × Nat × Nat)} (h : ListAt W g es) {k : Nat} (hk : k < es.length) :
    ∃ l a n c, (l, a, n, c) ∈ es ∧ W.cell? ⟨g, k * 4, none⟩ = some (.int .i64 l.u) ∧ W.cell? ⟨g, k * 4 + 1, none⟩ = some (.slice a n c) ∧ W.cell? ⟨g, k * 4 + 2, none⟩ = some (.int .i64 l.ap) ∧ W.cell? ⟨g, k * 4 + 3, none⟩ = some (.int .i64 l.d) ∧ LabAt W a n c l := by
  have he := List.getElem?_eq_getElem hk
  have hm0 := List.getElem_mem hk
  generalize es[k] = x at he hm0
  obtain ⟨l, a, n, c⟩ := x
  have hm : (l, a, n, c) ∈ es := hm0
  refine ⟨l, a, n, c, hm, ?_, ?_, ?_, ?_, h.2 _ hm⟩
  · rw [Joins.cell_of_block h.1]; simpa using flat_at es k _ he 0 _ rfl
  · rw [Joins.cell_of_block h.1]; simpa using flat_at es k _ he 1 _ rfl
  · rw [Joins.cell_of_block h.1]; simpa using flat_at es k _ he 2 _ rfl
  · rw [Joins.cell_of_block h.1]; simpa using flat_at es k _ he 3 _ rfl
end Go.Proofs.Ythpginepnleokaa
