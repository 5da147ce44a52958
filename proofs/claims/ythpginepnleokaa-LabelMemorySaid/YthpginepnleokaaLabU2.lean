/- union: the stories of two lists, ascending, each once, in new memory. -/
import Derived.Test.YthpginepnleokaaLabU
import Derived.Test.YthpginepnleokaaLabM
namespace Go.Proofs.Ythpginepnleokaa
open Go.RowKit Go.Sort
def Unified (xs ys : List Int) (w : World) (e : Ending) (w' : World) : Prop := ∃ a n c, e = .returned (.slice a n c) ∧ w'.ownsRow w.heap.size 3 1 (.slice a n c) n ((uni xs ys).map (Value.int .i64)) ∧ Below w.heap.size w w'
theorem sorted_len (l : List Int) : (l.mergeSort fun x y => decide (x ≤ y)).length = l.length := List.length_mergeSort l
set_option maxHeartbeats 2000000 in
theorem union_any (a : Option Addr) (n c : Nat) (xs : List Int) (a2 : Option Addr) (n2 c2 : Nat) (ys : List Int) (w : World) (h1 : IsInts .i64 w a n c xs) (h2 : IsInts .i64 w a2 n2 c2 ys)
    (hx : ∀ z ∈ xs, 1 ≤ z ∧ z ≤ 64) (hy : ∀ z ∈ ys, 1 ≤ z ∧ z ≤ 64) (hn : n ≤ 100) (hn2 : n2 ≤ 100) :
    Calls Try.prog 34 #[.slice a n c, .slice a2 n2 c2] w (Unified xs ys w) := by
  have hl1 := h1.1
  have hl2 := h2.1
  have hU := union_eq xs ys hx hy
  have hcc := concat_any w.heap.size a n c xs a2 n2 c2 ys (w.alloc (.cells #[.slice a n c, .slice a2 n2 c2] 23)) (h1.over (below_alloc _ _)) (h2.over (below_alloc _ _)) (heap_alloc_new w _) hn hn2
  have HC := Lib.hid hcc
  have hlen : (xs ++ ys).length ≤ 200 := by simp; omega
  have hlen2 : xs.length + ys.length = (xs ++ ys).length := by simp
  clear hcc h1 h2 hx hy hl1 hl2
  have HU := Lib.hid hU
  clear hU
  go_enter Try.func34, Try.ntmps34
  go_wp2_with fail
  refine HC.out.mono ?_
  rintro e w1 ⟨v, rfl, hown, hnil, b1⟩
  have b1' : Below w.heap.size w w1 := bel2 (below_alloc _ _) b1
  rw [hlen2] at hown hnil
  clear hlen2
  obtain ⟨L, hL⟩ : ∃ L, xs ++ ys = L := ⟨_, rfl⟩
  rw [hL] at hown hnil HU hlen
  clear hL
  by_cases h0 : L.length = 0
  · have hLe : L = [] := List.eq_nil_of_length_eq_zero h0
    subst hLe
    obtain ⟨a', c', rfl⟩ := own_slice hown
    simp at hown
    have HO := Lib.hid hown
    have k1 := Try.slices_Sort_int_none a' c' w1
    have k2 := Try.slices_Compact_int_empty a' c' w1
    simp only [List.length_nil] at *
    clear h0 hown hnil
    go_wp2_with (first | (go_at_call 37; refine k1.mono ?_; rintro e w' ⟨rfl, hw⟩; rw [hw]; clear hw) | (go_at_call 38; refine k2.mono ?_; rintro e w' ⟨rfl, hw⟩; rw [hw]; clear hw))
    go_ret
    refine ⟨_, _, _, rfl, own_mono ?_ (show w.heap.size ≤ w.heap.size + 1 by omega), b1'⟩
    rw [← HU.out]
    simpa [Lib.compact, Lib.compactUpTo] using HO.out
  · have hnn : v ≠ .slice none 0 0 := fun e => h0 (hnil e)
    obtain ⟨g, cap, rfl, hbg, hgl, hncap, hcm, hlen', hH⟩ := Lib.holds_of_ownsRow hown hnn
    have k1 := Try.slices_Sort_int g 0 cap L w1 hH hgl (by omega)
    have hs := sorted_len L
    have k2 : ∀ nn os, Calls Try.prog 38 #[.slice (some ⟨g, 0, none⟩) L.length cap] (grow (putRow (Value.int .i64) (Sort.ahead w1 nn) g 0 (L.mergeSort fun x y => decide (x ≤ y)).toArray) os) fun e w' =>
        e = .returned (.slice (some ⟨g, 0, none⟩) (Lib.compact (L.mergeSort fun x y => decide (x ≤ y))).length cap) ∧ ∃ q, w' = putRow (Value.int .i64) (Sort.ahead (grow (putRow (Value.int .i64) (Sort.ahead w1 nn) g 0 (L.mergeSort fun x y => decide (x ≤ y)).toArray) os) q) g 0 (Lib.compact (L.mergeSort fun x y => decide (x ≤ y)) ++ List.replicate (L.length - (Lib.compact (L.mergeSort fun x y => decide (x ≤ y))).length) 0).toArray := by
      intro nn os
      have hH2 : Holds (Value.int .i64) (grow (putRow (Value.int .i64) (Sort.ahead w1 nn) g 0 (L.mergeSort fun x y => decide (x ≤ y)).toArray) os) g 0 (L.mergeSort fun x y => decide (x ≤ y)).toArray :=
        holds_grow _ _ os g 0 _ (by simpa [putRow, mapBlock, Sort.ahead] using hgl) (holds_putRow _ _ g 0 _ _ (holds_ahead _ w1 nn g 0 _ hH) (by simp))
      have := Try.slices_Compact_int g 0 cap (L.mergeSort fun x y => decide (x ≤ y)) _ hH2 (by omega) (by omega)
      rwa [hs] at this
    have hfin : ∀ nn os q, Unified xs ys w (.returned (.slice (some ⟨g, 0, none⟩) (Lib.compact (L.mergeSort fun x y => decide (x ≤ y))).length cap)) (putRow (Value.int .i64) (Sort.ahead (grow (putRow (Value.int .i64) (Sort.ahead w1 nn) g 0 (L.mergeSort fun x y => decide (x ≤ y)).toArray) os) q) g 0 (Lib.compact (L.mergeSort fun x y => decide (x ≤ y)) ++ List.replicate (L.length - (Lib.compact (L.mergeSort fun x y => decide (x ≤ y))).length) 0).toArray) := by
      intro nn os q
      have hle := Lib.compact_length_le (L.mergeSort fun x y => decide (x ≤ y))
      rcases hown.2 with ⟨e0, _⟩ | ⟨g', cap', cur, hv, hbase, hb, g1, g2, g3, g4⟩
      · cases e0
      cases hv
      have hso := ownsRow_sortedI (n := nn) (os := os) (ts := L.mergeSort fun x y => decide (x ≤ y)) hs hbase hb g1 g2 g3
      have hc := Lib.ownsRow_putRow (q := q) (k := (Lib.compact (L.mergeSort fun x y => decide (x ≤ y))).length) (ys := Lib.compact (L.mergeSort fun x y => decide (x ≤ y)) ++ List.replicate (L.length - (Lib.compact (L.mergeSort fun x y => decide (x ≤ y))).length) 0) hso (by simp; omega) (by omega)
      rw [List.take_left] at hc
      refine ⟨_, _, _, rfl, own_mono ?_ (show w.heap.size ≤ w.heap.size + 1 by omega), Lib.below_putRow (b1'.grown (grownBy_sortedI _) b1'.size (fun j hj => by cases hj; simp at hbase; omega)) (by simp at hbase; omega)⟩
      rw [← HU.out]
      simpa using hc
    have K1 := Lib.hid k1
    have K2 := Lib.hid k2
    have HF := Lib.hid hfin
    clear k1 k2 hfin hH hown hnil hnn hs hlen' h0
    go_wp2_with (first | (go_at_call 37; refine K1.out.mono ?_; rintro e w2 ⟨rfl, nn, os, rfl⟩) | (go_at_call 38; refine (K2.out _ _).mono ?_; rintro e w3 ⟨rfl, q, rfl⟩))
    go_ret
    exact HF.out _ _ _
end Go.Proofs.Ythpginepnleokaa
