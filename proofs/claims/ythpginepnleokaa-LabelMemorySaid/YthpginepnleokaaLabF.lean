/- Arrays of integers by value, as a statement's arguments. -/
import Derived.Test.YthpginepnleokaaFrame
import Derived.Test.YthpginepnleokaaLabL
namespace Go.Proofs.Ythpginepnleokaa
open Go.ChangeShapes Go.WideShapes Go.RowKit
section
variable {H : Type} {enc : TypeId × Value → H} {P : Program} {w : World} {b0 base : Nat} {spare : Nat → Bool} {held : Bool}
theorem open_arr4 {r : Reach} {t e : TypeId} {v : Value} {d : DataW H} {p : List MemPlace} (ht : P.underlying t = some (.array 4 e)) (he : P.underlying e = some (.int .i64)) (hc : P.cellsOf t = 4) (hce : P.cellsOf e = 1)
    (hv : Value.okWide P w r b0 t v) (h : DataW.Trod enc P w base spare held t v d p) :
    ∃ x0 x1 x2 x3 : Int, v = .agg #[.int .i64 x0, .int .i64 x1, .int .i64 x2, .int .i64 x3] ∧ B4 x0 x1 x2 x3 := by
  obtain ⟨cs, rfl, hsz⟩ := okWide_arr ht hv
  rw [hc] at hsz
  obtain ⟨cl⟩ := cs
  match cl, hsz with
  | [c0, c1, c2, c3], _ =>
    obtain ⟨fuel, hf⟩ := h
    obtain ⟨xs, m, _, hx, _, hn, hel⟩ := DataW.trod_array ht hf
    match xs, hn with
    | [y0, y1, y2, y3], _ =>
      have e0 := hel 0 (by decide)
      have e1 := hel 1 (by decide)
      have e2 := hel 2 (by decide)
      have e3 := hel 3 (by decide)
      simp only [hce, Value.cells] at e0 e1 e2 e3
      simp at e0 e1 e2 e3
      obtain ⟨s0, h0, rfl, l0⟩ := DataW.trod_int he e0
      obtain ⟨s1, h1, rfl, l1⟩ := DataW.trod_int he e1
      obtain ⟨s2, h2, rfl, l2⟩ := DataW.trod_int he e2
      obtain ⟨s3, h3, rfl, l3⟩ := DataW.trod_int he e3
      simp at h0 h1 h2 h3
      subst h0 h1 h2 h3
      exact ⟨s0, s1, s2, s3, rfl, wf64 l0, wf64 l1, wf64 l2, wf64 l3⟩
theorem open_arr3 {r : Reach} {t e : TypeId} {v : Value} {d : DataW H} {p : List MemPlace} (ht : P.underlying t = some (.array 3 e)) (he : P.underlying e = some (.int .i64)) (hc : P.cellsOf t = 3) (hce : P.cellsOf e = 1)
    (hv : Value.okWide P w r b0 t v) (h : DataW.Trod enc P w base spare held t v d p) :
    ∃ x0 x1 x2 : Int, v = .agg #[.int .i64 x0, .int .i64 x1, .int .i64 x2] ∧ (Bd x0 ∧ Bd x1 ∧ Bd x2) := by
  obtain ⟨cs, rfl, hsz⟩ := okWide_arr ht hv
  rw [hc] at hsz
  obtain ⟨cl⟩ := cs
  match cl, hsz with
  | [c0, c1, c2], _ =>
    obtain ⟨fuel, hf⟩ := h
    obtain ⟨xs, m, _, hx, _, hn, hel⟩ := DataW.trod_array ht hf
    match xs, hn with
    | [y0, y1, y2], _ =>
      have e0 := hel 0 (by decide)
      have e1 := hel 1 (by decide)
      have e2 := hel 2 (by decide)
      simp only [hce, Value.cells] at e0 e1 e2
      simp at e0 e1 e2
      obtain ⟨s0, h0, rfl, l0⟩ := DataW.trod_int he e0
      obtain ⟨s1, h1, rfl, l1⟩ := DataW.trod_int he e1
      obtain ⟨s2, h2, rfl, l2⟩ := DataW.trod_int he e2
      simp at h0 h1 h2
      subst h0 h1 h2
      exact ⟨s0, s1, s2, rfl, wf64 l0, wf64 l1, wf64 l2⟩
end
end Go.Proofs.Ythpginepnleokaa
