import Derived.Test.YthpginepnleokaaLabW3
import Derived.Lib.SmallJoins
import Derived.Laws.Rows

namespace Go.Proofs.Ythpginepnleokaa
open Go.RowKit
def Bd (n : Int) : Prop := -9223372036854775808 ≤ n ∧ n ≤ 9223372036854775807
/-- A label by value: what its slice reads as, and that its numbers are machine integers. -/
def LabAt (w : World) (a : Option Addr) (n c : Nat) (l : Lab) : Prop := IsInts .i64 w a n c l.af ∧ Bd l.u ∧ Bd l.ap ∧ Bd l.d
theorem LabAt.over {W W' : World} {a : Option Addr} {n c : Nat} {l : Lab} (hb : Below W.heap.size W W') (h : LabAt W a n c l) : LabAt W' a n c l := ⟨h.1.over hb, h.2⟩
theorem below_alloc (W : World) (o : Obj) : Below W.heap.size W (W.alloc o) := (Below.refl _ _).alloc (Nat.le_refl _) o
theorem IsInts.alloc {k : IntKind} {W : World} {a : Option Addr} {n c : Nat} {zs : List Int} (h : IsInts k W a n c zs) (o : Obj) : IsInts k (W.alloc o) a n c zs := h.over (below_alloc W o)
theorem bcell {W w1 : World} (hb : Below W.heap.size W w1) : (∀ b o, b < W.heap.size → w1.cell? ⟨b, o, none⟩ = W.cell? ⟨b, o, none⟩) ∧ (∀ b o, b < W.heap.size → w1.frozen? ⟨b, o, none⟩ = W.frozen? ⟨b, o, none⟩) :=
  ⟨fun b o h => hb.cell (p := ⟨b, o, none⟩) h, fun b o h => hb.frozen (p := ⟨b, o, none⟩) h⟩
theorem one_ints (w : World) (u : Int) (h : Bd u) (t : TypeId) : IsInts .i64 (w.alloc (.cells #[.int .i64 u] t)) (some ⟨w.heap.size, 0, none⟩) 1 1 [u] := by
  refine ⟨rfl, Nat.le_refl _, by unfold maxLen; omega, fun z hz => by rw [List.mem_singleton] at hz; rw [hz]; exact of_wf64 h, .inr ⟨_, _, rfl, fun i hi => ?_⟩⟩
  obtain rfl : i = 0 := by omega
  simp
theorem within_one (lo hi u : Int) (w : World) (g : Nat) (hg : g = w.heap.size) (hu : Bd u) :
    Calls Try.prog 28 #[.int .i64 lo, .int .i64 hi, .slice (some ⟨g, 0, none⟩) 1 1] (w.alloc (.cells #[.int .i64 u] 3)) fun e w' => e = .returned (.bool (withinB lo hi [u])) ∧ w.alloc (.cells #[.int .i64 u] 3) = w' :=
  within_any lo hi _ _ _ _ _ (hg ▸ one_ints w u hu 3)
set_option maxHeartbeats 1000000 in
theorem valid_walk (u ap d : Int) (a : Option Addr) (n c : Nat) (w : World) (b1 b2 b3 b4 b5 : Bool)
    (K1 : Hid (∀ (W : World) (g : Nat), g = W.heap.size → Calls Try.prog 28 #[.int .i64 0, .int .i64 1000000000, .slice (some ⟨g, 0, none⟩) 1 1] (W.alloc (.cells #[.int .i64 u] 3)) fun e w' => e = .returned (.bool b1) ∧ W.alloc (.cells #[.int .i64 u] 3) = w'))
    (K2 : Hid (∀ W : World, Below w.heap.size w W → Calls Try.prog 28 #[.int .i64 1, .int .i64 64, .slice a n c] W fun e w' => e = .returned (.bool b2) ∧ W = w'))
    (K3 : Hid (∀ W : World, Below w.heap.size w W → Calls Try.prog 29 #[.slice a n c] W fun e w' => e = .returned (.bool b3) ∧ Below W.heap.size W w'))
    (K4 : Hid (∀ (W : World) (g : Nat), g = W.heap.size → Calls Try.prog 28 #[.int .i64 0, .int .i64 5, .slice (some ⟨g, 0, none⟩) 1 1] (W.alloc (.cells #[.int .i64 ap] 3)) fun e w' => e = .returned (.bool b4) ∧ W.alloc (.cells #[.int .i64 ap] 3) = w'))
    (K5 : Hid (∀ (W : World) (g : Nat), g = W.heap.size → Calls Try.prog 28 #[.int .i64 0, .int .i64 15, .slice (some ⟨g, 0, none⟩) 1 1] (W.alloc (.cells #[.int .i64 d] 3)) fun e w' => e = .returned (.bool b5) ∧ W.alloc (.cells #[.int .i64 d] 3) = w')) :
    Calls Try.prog 16 #[.agg #[.int .i64 u, .slice a n c, .int .i64 ap, .int .i64 d]] w fun e w' => e = .returned (.bool (b1 && (b2 && (b3 && (b4 && b5))))) ∧ Below w.heap.size w w' := by
  have B0 : Below w.heap.size w (w.alloc (.cells #[.int .i64 u, .slice a n c, .int .i64 ap, .int .i64 d] 26)) := below_alloc _ _
  cases b1
  · go_enter Try.func16, Try.ntmps16
    go_wp2_with fail
    refine (K1.out _ _ (by first | rfl | simp)).mono ?_
    rintro e w' ⟨rfl, rfl⟩
    go_wp2
    go_ret
    exact ⟨ret_bool rfl, B0.alloc B0.size _⟩
  · cases b2
    · go_enter Try.func16, Try.ntmps16
      go_wp2_with fail
      refine (K1.out _ _ (by first | rfl | simp)).mono ?_
      rintro e w' ⟨rfl, rfl⟩
      go_wp2_with fail
      refine (K2.out _ (B0.alloc B0.size _)).mono ?_
      rintro e w' ⟨rfl, rfl⟩
      go_wp2
      go_ret
      exact ⟨ret_bool rfl, B0.alloc B0.size _⟩
    · cases b3
      · go_enter Try.func16, Try.ntmps16
        go_wp2_with fail
        refine (K1.out _ _ (by first | rfl | simp)).mono ?_
        rintro e w' ⟨rfl, rfl⟩
        go_wp2_with fail
        refine (K2.out _ (B0.alloc B0.size _)).mono ?_
        rintro e w' ⟨rfl, rfl⟩
        go_wp2_with fail
        refine (K3.out _ (B0.alloc B0.size _)).mono ?_
        rintro e w1 ⟨rfl, b1⟩
        go_wp2
        go_ret
        exact ⟨ret_bool rfl, belowOver (B0.alloc B0.size _) (by simp) b1⟩
      · cases b4
        · go_enter Try.func16, Try.ntmps16
          go_wp2_with fail
          refine (K1.out _ _ (by first | rfl | simp)).mono ?_
          rintro e w' ⟨rfl, rfl⟩
          go_wp2_with fail
          refine (K2.out _ (B0.alloc B0.size _)).mono ?_
          rintro e w' ⟨rfl, rfl⟩
          go_wp2_with fail
          refine (K3.out _ (B0.alloc B0.size _)).mono ?_
          rintro e w1 ⟨rfl, b1⟩
          have B1 := belowOver (B0.alloc B0.size _) (by simp) b1
          obtain ⟨hc, hf⟩ := bcell b1
          have hz : w.heap.size < w1.heap.size := by have := b1.size; simp at this; omega
          go_wp2_with fail
          refine (K4.out _ _ (by first | rfl | simp)).mono ?_
          rintro e w' ⟨rfl, rfl⟩
          go_wp2
          go_ret
          exact ⟨ret_bool rfl, B1.alloc B1.size _⟩
        · cases b5 <;> (
            go_enter Try.func16, Try.ntmps16
            go_wp2_with fail
            refine (K1.out _ _ (by first | rfl | simp)).mono ?_
            rintro e w' ⟨rfl, rfl⟩
            go_wp2_with fail
            refine (K2.out _ (B0.alloc B0.size _)).mono ?_
            rintro e w' ⟨rfl, rfl⟩
            go_wp2_with fail
            refine (K3.out _ (B0.alloc B0.size _)).mono ?_
            rintro e w1 ⟨rfl, b1⟩
            have B1 := belowOver (B0.alloc B0.size _) (by simp) b1
            obtain ⟨hc, hf⟩ := bcell b1
            have hz : w.heap.size < w1.heap.size := by have := b1.size; simp at this; omega
            go_wp2_with fail
            refine (K4.out _ _ (by first | rfl | simp)).mono ?_
            rintro e w' ⟨rfl, rfl⟩
            go_wp2_with fail
            refine (K5.out _ _ (by first | rfl | simp)).mono ?_
            rintro e w' ⟨rfl, rfl⟩
            go_wp2
            go_ret
            exact ⟨ret_bool rfl, (B1.alloc B1.size _).alloc (by have := B1.size; simp; omega) _⟩)
theorem valid_any (l : Lab) (a : Option Addr) (n c : Nat) (w : World) (h : LabAt w a n c l) :
    Calls Try.prog 16 #[.agg #[.int .i64 l.u, .slice a n c, .int .i64 l.ap, .int .i64 l.d]] w fun e w' => e = .returned (.bool (validB l)) ∧ Below w.heap.size w w' := by
  obtain ⟨hi, hu, hp, hd⟩ := h
  exact valid_walk l.u l.ap l.d a n c w _ _ _ _ _ (Lib.hid fun W g hg => within_one 0 1000000000 l.u W g hg hu) (Lib.hid fun W hb => within_any 1 64 a n c l.af W (hi.over hb)) (Lib.hid fun W hb => ascending_any a n c l.af W (hi.over hb)) (Lib.hid fun W g hg => within_one 0 5 l.ap W g hg hp) (Lib.hid fun W g hg => within_one 0 15 l.d W g hg hd)
end Go.Proofs.Ythpginepnleokaa
