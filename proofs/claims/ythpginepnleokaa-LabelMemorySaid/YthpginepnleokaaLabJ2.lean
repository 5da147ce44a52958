/- Labels by value: what Make and Join hand back, and literals. -/
import Derived.Test.YthpginepnleokaaLabJ

namespace Go.Proofs.Ythpginepnleokaa
open Go.RowKit
theorem Ok.bd {l : Lab} (h : Ok l) : Bd l.u ∧ Bd l.ap ∧ Bd l.d := by
  obtain ⟨h1, _, _, h4, h5⟩ := h
  unfold Bd
  omega
theorem ints_of_own {w : World} {base : Nat} {a : Option Addr} {n c : Nat} {zs : List Int} (h : w.ownsRow base 3 1 (.slice a n c) n (zs.map (Value.int .i64))) (hz : ∀ z ∈ zs, Bd z) : IsInts .i64 w a n c zs := by
  have hl : zs.length = n := by simpa using h.1
  rcases h.2 with ⟨e, h0⟩ | ⟨g, cap, cur, e, hb, hg, hn, hm, hs, ht⟩
  · injection e with e1 e2 e3
    subst e1; subst e2; subst e3
    exact ⟨hl, Nat.le_refl _, by unfold maxLen; omega, fun z h => of_wf64 (hz z h), .inl rfl⟩
  · injection e with e1 e2 e3
    subst e1; subst e3
    refine ⟨hl, hn, hm, fun z h => of_wf64 (hz z h), .inr ⟨g, 0, rfl, fun i hi => ?_⟩⟩
    rw [Nat.zero_add, h.cellAt i (by omega)]
    simp [List.getD, show i < zs.length by omega]
theorem ok_ints {l : Lab} (h : Ok l) : ∀ z ∈ l.af, Bd z := fun z hz => by have := h.2.1 z hz; unfold Bd; omega
theorem labAt_of_own {w : World} {base : Nat} {a : Option Addr} {n c : Nat} {l : Lab} (hl : Ok l) (h : w.ownsRow base 3 1 (.slice a n c) n (l.af.map (Value.int .i64))) : LabAt w a n c l := ⟨ints_of_own h (ok_ints hl), hl.bd⟩
/-- A valid label that is handed back in new memory. -/
def LabGot (l : Lab) (w : World) (e : Ending) (w' : World) : Prop := ∃ a n c, e = .returned (.agg #[.int .i64 l.u, .slice a n c, .int .i64 l.ap, .int .i64 l.d]) ∧ LabAt w' a n c l ∧ w'.ownsRow w.heap.size 3 1 (.slice a n c) n (l.af.map (Value.int .i64)) ∧ Below w.heap.size w w'
theorem join_at (l m : Lab) (a : Option Addr) (n c : Nat) (a2 : Option Addr) (n2 c2 : Nat) (w : World) (h : LabAt w a n c l) (h2 : LabAt w a2 n2 c2 m) :
    Calls Try.prog 22 #[.agg #[.int .i64 l.u, .slice a n c, .int .i64 l.ap, .int .i64 l.d], .agg #[.int .i64 m.u, .slice a2 n2 c2, .int .i64 m.ap, .int .i64 m.d]] w (LabGot (joinL l m) w) :=
  (join_any l m a n c a2 n2 c2 w h h2).mono fun _ _ ⟨a, n, c, he, ho, hb⟩ => ⟨a, n, c, he, labAt_of_own (joinL_ok l m) ho, ho, hb⟩
theorem idsTo_ids : idsTo 64 = ids := rfl
theorem makeL_ok (x0 x1 x2 x3 : Int) : Ok (makeL x0 x1 x2 x3) := by
  have a0 := pck_lo x0 1000000001 (by omega)
  have a1 := pck_hi x0 1000000001 (by omega)
  have b0 := pck_lo x2 6 (by omega)
  have b1 := pck_hi x2 6 (by omega)
  have c0 := pck_lo x3 16 (by omega)
  have c1 := pck_hi x3 16 (by omega)
  refine ⟨⟨a0, by simp only [makeL]; omega⟩, fun z hz => ?_, ?_, ⟨b0, by simp only [makeL]; omega⟩, ⟨c0, by simp only [makeL]; omega⟩⟩
  · have := (List.mem_filter.1 hz).1
    rw [idsTo_ids] at this
    exact (ids_mem z).1 this
  · exact List.Pairwise.filter _ (by rw [idsTo_ids]; exact ids_asc)
theorem make_at (x0 x1 x2 x3 : Int) (w : World) (h0 : Bd x0) (h1 : Bd x1) (h2 : Bd x2) (h3 : Bd x3) :
    Calls Try.prog 14 #[.agg #[.int .i64 x0, .int .i64 x1, .int .i64 x2, .int .i64 x3]] w (LabGot (makeL x0 x1 x2 x3) w) :=
  (make_any x0 x1 x2 x3 w h0 h1 h2 h3).mono fun _ _ ⟨a, n, c, he, ho, hb⟩ => ⟨a, n, c, he, labAt_of_own (makeL_ok x0 x1 x2 x3) ho, ho, hb⟩
theorem nil_ints (w : World) : IsInts .i64 w none 0 0 [] := ⟨rfl, Nat.le_refl _, by unfold maxLen; omega, (fun z hz => by cases hz), .inl rfl⟩
theorem block_ints {w : World} {g : Nat} {t : TypeId} {fr : Nat × Nat} (zs : List Int) (hz : ∀ z ∈ zs, Bd z) (hl : zs.length ≤ 1000) (h : w.heap[g]? = some (.cells (zs.map (Value.int .i64)).toArray t fr)) : IsInts .i64 w (some ⟨g, 0, none⟩) zs.length zs.length zs := by
  refine ⟨rfl, Nat.le_refl _, by unfold maxLen; omega, fun z h => of_wf64 (hz z h), .inr ⟨g, 0, rfl, fun i hi => ?_⟩⟩
  rw [Joins.cell_of_block h]
  simp [List.getD, hi]
theorem lit_ints (w : World) (t : TypeId) (zs : List Int) (hz : ∀ z ∈ zs, Bd z) (hl : zs.length ≤ 1000) : IsInts .i64 (w.alloc (.cells (zs.map (Value.int .i64)).toArray t)) (some ⟨w.heap.size, 0, none⟩) zs.length zs.length zs :=
  block_ints zs hz hl (heap_alloc_new w _)
theorem litA (w : World) : IsInts .i64 (w.alloc (.cells #[.int .i64 7, .int .i64 1, .int .i64 2] 3)) (some ⟨w.heap.size, 0, none⟩) 3 3 [7, 1, 2] := lit_ints w 3 [7, 1, 2] (by simp [Bd]) (by simp)
theorem litB (w : World) : IsInts .i64 (w.alloc (.cells #[.int .i64 7, .int .i64 1] 3)) (some ⟨w.heap.size, 0, none⟩) 2 2 [7, 1] := lit_ints w 3 [7, 1] (by simp [Bd]) (by simp)
theorem litC (w : World) : IsInts .i64 (w.alloc (.cells #[.int .i64 1, .int .i64 2, .int .i64 7] 3)) (some ⟨w.heap.size, 0, none⟩) 3 3 [1, 2, 7] := lit_ints w 3 [1, 2, 7] (by simp [Bd]) (by simp)
theorem litD (w : World) : IsInts .i64 (w.alloc (.cells #[.int .i64 2] 3)) (some ⟨w.heap.size, 0, none⟩) 1 1 [2] := lit_ints w 3 [2] (by simp [Bd]) (by simp)
theorem litE (w : World) : IsInts .i64 (w.alloc (.cells #[.int .i64 2, .int .i64 2] 3)) (some ⟨w.heap.size, 0, none⟩) 2 2 [2, 2] := lit_ints w 3 [2, 2] (by simp [Bd]) (by simp)
theorem allows_lit (l : Lab) (cls now k : Int) (out : List Int) (n2 : Nat) (r : Bool) (cs : Array Value) (hr : allB l cls now out k = r) (hcl : Bd cls) (hlit : ∀ w : World, IsInts .i64 (w.alloc (.cells cs 3)) (some ⟨w.heap.size, 0, none⟩) n2 n2 out)
    (a : Option Addr) (n c : Nat) (w : World) (g : Nat) (hg : g = w.heap.size) (h : LabAt w a n c l) :
    Calls Try.prog 24 #[.agg #[.int .i64 l.u, .slice a n c, .int .i64 l.ap, .int .i64 l.d], .int .i64 cls, .int .i64 now, .slice (some ⟨g, 0, none⟩) n2 n2, .int .i64 k] (w.alloc (.cells cs 3)) fun e w' => e = .returned (.bool r) ∧ Below w.heap.size w w' := by
  subst hg
  have := allows_any l cls now k out a n c (some ⟨w.heap.size, 0, none⟩) n2 n2 (w.alloc (.cells cs 3)) hcl (h.over (below_alloc _ _)) (hlit w)
  rw [hr] at this
  exact this.mono fun e w' ⟨h1, h2⟩ => ⟨h1, bel2 (below_alloc _ _) h2⟩
end Go.Proofs.Ythpginepnleokaa
