/- Stories, and slices of integers and of slices that a statement's text builds. -/
import Derived.Test.YthpginepnleokaaLabQ
namespace Go.Proofs.Ythpginepnleokaa
open Go.RowKit
def StoriesGot (l : List Int) (w : World) (e : Ending) (w' : World) : Prop := ∃ a n c, e = .returned (.slice a n c) ∧ IsInts .i64 w' a n c l ∧ w'.ownsRow w.heap.size 3 1 (.slice a n c) n (l.map (Value.int .i64)) ∧ Below w.heap.size w w'
def storiesL (x : Int) : List Int := (makeL 0 x 0 0).af
theorem stories_len (x : Int) : (storiesL x).length ≤ 64 := makeAf_len x 64
theorem field_one (u p d : Int) (a : Option Addr) (n c : Nat) (W : World) : (Instr.field 26 (.agg #[.int .i64 u, .slice a n c, .int .i64 p, .int .i64 d]) 1).run Try.prog W = .ok (.slice a n c) W := by kernel_rfl
theorem stories_any (x : Int) (w : World) (hx : Bd x) : Calls Try.prog 26 #[.int .i64 x] w (StoriesGot (storiesL x) w) := by
  have z : Bd 0 := by unfold Bd; omega
  have hfl := field_one
  have K := Lib.hid (fun W => make_at 0 x 0 0 W z hx z z)
  have hq := Lib.hid (show (makeL 0 x 0 0).af = storiesL x from rfl)
  generalize makeL 0 x 0 0 = l at *
  generalize storiesL x = zs at *
  clear z hx
  go_enter Try.func26, Try.ntmps26
  go_wp2_with fail
  refine (K.out _).mono ?_
  rintro e w1 ⟨a, n, c, rfl, L, O, b⟩
  have L1 := Lib.hid L.1
  have O1 := Lib.hid O
  clear L O
  go_wp2
  go_ret
  exact ⟨a, n, c, rfl, by rw [← hq.out]; exact L1.out, by rw [← hq.out]; exact O1.out, b⟩
/-- A block of integers that the text has built. -/
def NumsAt (W : World) (g : Nat) (zs : List Int) : Prop := W.heap[g]? = some (.cells (zs.map (Value.int .i64)).toArray 3 (0, 0))
theorem NumsAt.over {W W' : World} {g : Nat} {zs : List Int} (hb : Below W.heap.size W W') (h : NumsAt W g zs) : NumsAt W' g zs := blockOver hb h
theorem NumsAt.at_ {W : World} {g : Nat} {zs : List Int} (h : NumsAt W g zs) {k : Nat} (hk : k < zs.length) : ∃ z, z ∈ zs ∧ W.cell? ⟨g, k, none⟩ = some (.int .i64 z) := by
  refine ⟨zs[k], List.getElem_mem hk, ?_⟩
  rw [Joins.cell_of_block h]
  simp [hk]
/-- A block of slices of integers. -/
def SlicesAt (W : World) (g : Nat) (es : List (List Int × Option Addr × Nat × Nat)) : Prop := W.heap[g]? = some (.cells (es.map fun e => Value.slice e.2.1 e.2.2.1 e.2.2.2).toArray 23 (0, 0)) ∧ ∀ e ∈ es, IsInts .i64 W e.2.1 e.2.2.1 e.2.2.2 e.1
theorem SlicesAt.over {W W' : World} {g : Nat} {es : List (List Int × Option Addr × Nat × Nat)} (hb : Below W.heap.size W W') (h : SlicesAt W g es) : SlicesAt W' g es := ⟨blockOver hb h.1, fun e he => (h.2 e he).over hb⟩
theorem SlicesAt.at_ {W : World} {g : Nat} {es : List (List Int × Option Addr × Nat × Nat)} (h : SlicesAt W g es) {k : Nat} (hk : k < es.length) :
    ∃ zs a n c, (zs, a, n, c) ∈ es ∧ W.cell? ⟨g, k, none⟩ = some (.slice a n c) ∧ IsInts .i64 W a n c zs := by
  have hm0 := List.getElem_mem hk
  have he := List.getElem?_eq_getElem hk
  have hc : W.cell? ⟨g, k, none⟩ = some (.slice es[k].2.1 es[k].2.2.1 es[k].2.2.2) := by
    rw [Joins.cell_of_block h.1]
    simp [hk]
  generalize es[k] = x at he hm0 hc
  obtain ⟨zs, a, n, c⟩ := x
  exact ⟨zs, a, n, c, hm0, hc, h.2 _ hm0⟩
end Go.Proofs.Ythpginepnleokaa
