/- Same, Leq and Allows of package label, for all labels. -/
import Derived.Test.YthpginepnleokaaLabW4
namespace Go.Proofs.Ythpginepnleokaa
open Go.RowKit
theorem bel2 {W W1 W2 : World} (h : Below W.heap.size W W1) (k : Below W1.heap.size W1 W2) : Below W.heap.size W W2 := belowOver h (Nat.le_refl _) k
set_option maxHeartbeats 1000000 in
theorem same_any (l m : Lab) (a : Option Addr) (n c : Nat) (a2 : Option Addr) (n2 c2 : Nat) (w : World) (h : LabAt w a n c l) (h2 : LabAt w a2 n2 c2 m) :
    Calls Try.prog 18 #[.agg #[.int .i64 l.u, .slice a n c, .int .i64 l.ap, .int .i64 l.d], .agg #[.int .i64 m.u, .slice a2 n2 c2, .int .i64 m.ap, .int .i64 m.d]] w fun e w' => e = .returned (.bool (sameB l m)) ∧ Below w.heap.size w w' := by
  have HS : Hid (sameB l m = (decide (l.u = m.u) && (eqB l.af m.af && (decide (l.ap = m.ap) && decide (l.d = m.d))))) := Lib.hid rfl
  have K := Lib.hid (fun W (hb : Below w.heap.size w W) => equal_any a n c l.af a2 n2 c2 m.af W (h.1.over hb) (h2.1.over hb))
  clear h h2
  have B0 : Below w.heap.size w ((w.alloc (.cells #[.int .i64 l.u, .slice a n c, .int .i64 l.ap, .int .i64 l.d] 26)).alloc (.cells #[.int .i64 m.u, .slice a2 n2 c2, .int .i64 m.ap, .int .i64 m.d] 26)) := (below_alloc _ _).alloc (by simp) _
  by_cases h1 : l.u = m.u
  · have g1 : (l.u == m.u) = true := by simp [h1]
    have H1 := Lib.hid h1
    clear h1
    cases h2 : eqB l.af m.af
    · rw [h2] at K HS
      clear h2
      go_enter Try.func18, Try.ntmps18
      go_wp2_with fail
      refine (K.out _ B0).mono ?_
      rintro e w1 ⟨rfl, b1⟩
      go_wp2
      go_ret
      exact ⟨ret_bool (by rw [HS.out]; simp), bel2 B0 b1⟩
    · rw [h2] at K HS
      clear h2
      by_cases h3 : l.ap = m.ap
      · have g3 : (l.ap == m.ap) = true := by simp [h3]
        have H3 := Lib.hid h3
        clear h3
        by_cases h4 : l.d = m.d
        · have g4 : (l.d == m.d) = true := by simp [h4]
          have H4 := Lib.hid h4
          clear h4
          go_enter Try.func18, Try.ntmps18
          go_wp2_with fail
          refine (K.out _ B0).mono ?_
          rintro e w1 ⟨rfl, b1⟩
          obtain ⟨hc, hf⟩ := bcell b1
          go_wp2
          go_ret
          exact ⟨ret_bool (by rw [HS.out, H1.out, H3.out, H4.out]; simp), bel2 B0 b1⟩
        · have g4 : (l.d == m.d) = false := by simp [h4]
          have H4 := Lib.hid h4
          clear h4
          go_enter Try.func18, Try.ntmps18
          go_wp2_with fail
          refine (K.out _ B0).mono ?_
          rintro e w1 ⟨rfl, b1⟩
          obtain ⟨hc, hf⟩ := bcell b1
          go_wp2
          go_ret
          exact ⟨ret_bool (by rw [HS.out]; simp [H4.out]), bel2 B0 b1⟩
      · have g3 : (l.ap == m.ap) = false := by simp [h3]
        have H3 := Lib.hid h3
        clear h3
        go_enter Try.func18, Try.ntmps18
        go_wp2_with fail
        refine (K.out _ B0).mono ?_
        rintro e w1 ⟨rfl, b1⟩
        obtain ⟨hc, hf⟩ := bcell b1
        go_wp2
        go_ret
        exact ⟨ret_bool (by rw [HS.out]; simp [H3.out]), bel2 B0 b1⟩
  · have g1 : (l.u == m.u) = false := by simp [h1]
    have H1 := Lib.hid h1
    clear h1
    go_enter Try.func18, Try.ntmps18
    go_wp2
    go_ret
    exact ⟨ret_bool (by rw [HS.out]; simp [H1.out]), B0⟩
theorem andnot_sub : ∀ a b : Fin 16, (bits BinOp.andNot IntKind.i64 ((a : Nat) : Int) ((b : Nat) : Int) == 0) = subD ((a : Nat) : Int) ((b : Nat) : Int) := by decide +kernel
theorem andnot_any {a b : Int} (ha : 0 ≤ a ∧ a ≤ 15) (hb : 0 ≤ b ∧ b ≤ 15) : (bits BinOp.andNot IntKind.i64 a b == 0) = subD a b := by
  obtain ⟨x, rfl⟩ := cast15 ha
  obtain ⟨y, rfl⟩ := cast15 hb
  exact andnot_sub x y
set_option maxHeartbeats 2000000 in
theorem leq_walk (u ap d u2 ap2 d2 : Int) (a : Option Addr) (n c : Nat) (a2 : Option Addr) (n2 c2 : Nat) (w : World) (b1 b2 b3 S : Bool)
    (HS : Hid (b1 = true → b2 = true → (bits BinOp.andNot IntKind.i64 d d2 == 0) = S))
    (K1 : Hid (∀ W : World, Below w.heap.size w W → Calls Try.prog 16 #[.agg #[.int .i64 u, .slice a n c, .int .i64 ap, .int .i64 d]] W fun e w' => e = .returned (.bool b1) ∧ Below W.heap.size W w'))
    (K2 : Hid (∀ W : World, Below w.heap.size w W → Calls Try.prog 16 #[.agg #[.int .i64 u2, .slice a2 n2 c2, .int .i64 ap2, .int .i64 d2]] W fun e w' => e = .returned (.bool b2) ∧ Below W.heap.size W w'))
    (K3 : Hid (b1 = true → b2 = true → ∀ W : World, Below w.heap.size w W → Calls Try.prog 31 #[.slice a2 n2 c2, .slice a n c] W fun e w' => e = .returned (.bool b3) ∧ W = w')) :
    Calls Try.prog 20 #[.agg #[.int .i64 u, .slice a n c, .int .i64 ap, .int .i64 d], .agg #[.int .i64 u2, .slice a2 n2 c2, .int .i64 ap2, .int .i64 d2]] w fun e w' => e = .returned (.bool (b1 && (b2 && (decide (u ≤ u2) && (b3 && (decide (ap ≤ ap2) && S)))))) ∧ Below w.heap.size w w' := by
  have B0 : Below w.heap.size w ((w.alloc (.cells #[.int .i64 u, .slice a n c, .int .i64 ap, .int .i64 d] 26)).alloc (.cells #[.int .i64 u2, .slice a2 n2 c2, .int .i64 ap2, .int .i64 d2] 26)) := (below_alloc _ _).alloc (by simp) _
  cases b1
  · clear HS K2 K3
    go_enter Try.func20, Try.ntmps20
    go_wp2_with fail
    refine (K1.out _ B0).mono ?_
    rintro e w1 ⟨rfl, b1⟩
    obtain ⟨hc, hf⟩ := bcell b1
    have hz : w.heap.size + 1 < w1.heap.size := by have := b1.size; simp at this; omega
    have hz0 : w.heap.size < w1.heap.size := by omega
    go_wp2
    go_ret
    exact ⟨ret_bool rfl, bel2 B0 b1⟩
  cases b2
  · clear HS K3
    go_enter Try.func20, Try.ntmps20
    go_wp2_with fail
    refine (K1.out _ B0).mono ?_
    rintro e w1 ⟨rfl, b1⟩
    obtain ⟨hc, hf⟩ := bcell b1
    have hz : w.heap.size + 1 < w1.heap.size := by have := b1.size; simp at this; omega
    have hz0 : w.heap.size < w1.heap.size := by omega
    go_wp2_with fail
    refine (K2.out _ (bel2 B0 b1)).mono ?_
    rintro e w2 ⟨rfl, b2⟩
    obtain ⟨hc2, hf2⟩ := bcell b2
    go_wp2
    go_ret
    exact ⟨ret_bool rfl, bel2 (bel2 B0 b1) b2⟩
  by_cases h1 : u ≤ u2
  · cases b3
    · clear HS
      go_enter Try.func20, Try.ntmps20
      go_wp2_with fail
      refine (K1.out _ B0).mono ?_
      rintro e w1 ⟨rfl, b1⟩
      obtain ⟨hc, hf⟩ := bcell b1
      have hz : w.heap.size + 1 < w1.heap.size := by have := b1.size; simp at this; omega
      have hz0 : w.heap.size < w1.heap.size := by omega
      go_wp2_with fail
      refine (K2.out _ (bel2 B0 b1)).mono ?_
      rintro e w2 ⟨rfl, b2⟩
      obtain ⟨hc2, hf2⟩ := bcell b2
      go_wp2_with fail
      refine (K3.out (by trivial) (by trivial) _ (bel2 (bel2 B0 b1) b2)).mono ?_
      rintro e w3 ⟨rfl, rfl⟩
      go_wp2
      go_ret
      exact ⟨ret_bool (by simp), bel2 (bel2 B0 b1) b2⟩
    by_cases h2 : ap ≤ ap2
    · skip
      go_enter Try.func20, Try.ntmps20
      go_wp2_with fail
      refine (K1.out _ B0).mono ?_
      rintro e w1 ⟨rfl, b1⟩
      obtain ⟨hc, hf⟩ := bcell b1
      have hz : w.heap.size + 1 < w1.heap.size := by have := b1.size; simp at this; omega
      have hz0 : w.heap.size < w1.heap.size := by omega
      go_wp2_with fail
      refine (K2.out _ (bel2 B0 b1)).mono ?_
      rintro e w2 ⟨rfl, b2⟩
      obtain ⟨hc2, hf2⟩ := bcell b2
      go_wp2_with fail
      refine (K3.out (by trivial) (by trivial) _ (bel2 (bel2 B0 b1) b2)).mono ?_
      rintro e w3 ⟨rfl, rfl⟩
      go_wp2
      go_ret
      exact ⟨ret_bool (by rw [HS.out (by trivial) (by trivial)]; simp [h1, h2]), bel2 (bel2 B0 b1) b2⟩
    · clear HS
      go_enter Try.func20, Try.ntmps20
      go_wp2_with fail
      refine (K1.out _ B0).mono ?_
      rintro e w1 ⟨rfl, b1⟩
      obtain ⟨hc, hf⟩ := bcell b1
      have hz : w.heap.size + 1 < w1.heap.size := by have := b1.size; simp at this; omega
      have hz0 : w.heap.size < w1.heap.size := by omega
      go_wp2_with fail
      refine (K2.out _ (bel2 B0 b1)).mono ?_
      rintro e w2 ⟨rfl, b2⟩
      obtain ⟨hc2, hf2⟩ := bcell b2
      go_wp2_with fail
      refine (K3.out (by trivial) (by trivial) _ (bel2 (bel2 B0 b1) b2)).mono ?_
      rintro e w3 ⟨rfl, rfl⟩
      go_wp2
      go_ret
      exact ⟨ret_bool (by simp; omega), bel2 (bel2 B0 b1) b2⟩
  · clear HS K3
    go_enter Try.func20, Try.ntmps20
    go_wp2_with fail
    refine (K1.out _ B0).mono ?_
    rintro e w1 ⟨rfl, b1⟩
    obtain ⟨hc, hf⟩ := bcell b1
    have hz : w.heap.size + 1 < w1.heap.size := by have := b1.size; simp at this; omega
    have hz0 : w.heap.size < w1.heap.size := by omega
    go_wp2_with fail
    refine (K2.out _ (bel2 B0 b1)).mono ?_
    rintro e w2 ⟨rfl, b2⟩
    obtain ⟨hc2, hf2⟩ := bcell b2
    go_wp2
    go_ret
    exact ⟨ret_bool (by simp; omega), bel2 (bel2 B0 b1) b2⟩
theorem leq_any (l m : Lab) (a : Option Addr) (n c : Nat) (a2 : Option Addr) (n2 c2 : Nat) (w : World) (h : LabAt w a n c l) (h2 : LabAt w a2 n2 c2 m) :
    Calls Try.prog 20 #[.agg #[.int .i64 l.u, .slice a n c, .int .i64 l.ap, .int .i64 l.d], .agg #[.int .i64 m.u, .slice a2 n2 c2, .int .i64 m.ap, .int .i64 m.d]] w fun e w' => e = .returned (.bool (leqB l m)) ∧ Below w.heap.size w w' :=
  leq_walk l.u l.ap l.d m.u m.ap m.d a n c a2 n2 c2 w (validB l) (validB m) (insB l.af m.af) (subD l.d m.d)
    (Lib.hid fun g1 g2 => andnot_any ((validB_iff l).1 g1).2.2.2.2 ((validB_iff m).1 g2).2.2.2.2)
    (Lib.hid fun W hb => valid_any l a n c W (h.over hb)) (Lib.hid fun W hb => valid_any m a2 n2 c2 W (h2.over hb))
    (Lib.hid fun g1 g2 W hb => sub_any a2 n2 c2 m.af a n c l.af W (h2.1.over hb) (h.1.over hb) ((validB_iff m).1 g2).2.2.1 ((validB_iff l).1 g1).2.2.1)
theorem shr_bit : ∀ (a : Fin 16) (c : Fin 4), (bits BinOp.and IntKind.i64 (((a : Nat) : Int) / 2 ^ (c : Nat)) 1 == 0) = !bitB ((a : Nat) : Int) c := by decide +kernel
theorem shr_any {d cls : Int} (hd : 0 ≤ d ∧ d ≤ 15) (hc : 0 ≤ cls ∧ cls ≤ 3) : (bits BinOp.and IntKind.i64 (d / 2 ^ cls.toNat) 1 == 0) = !bitB d cls.toNat := by
  obtain ⟨x, rfl⟩ := cast15 hd
  exact shr_bit x ⟨cls.toNat, by omega⟩
set_option maxHeartbeats 2000000 in
theorem allows_walk (u ap d : Int) (cls now k : Int) (a : Option Addr) (n c : Nat) (a2 : Option Addr) (n2 c2 : Nat) (w : World) (b1 b2 b3 S : Bool)
    (HS : Hid (b1 = true → b2 = true → (0 ≤ cls ∧ cls ≤ 3 ∧ 0 ≤ d) ∧ (bits BinOp.and IntKind.i64 (d / 2 ^ cls.toNat) 1 == 0) = S))
    (K1 : Hid (∀ W : World, Below w.heap.size w W → Calls Try.prog 16 #[.agg #[.int .i64 u, .slice a n c, .int .i64 ap, .int .i64 d]] W fun e w' => e = .returned (.bool b1) ∧ Below W.heap.size W w'))
    (K2 : Hid (∀ (W : World) (g : Nat), g = W.heap.size → Calls Try.prog 28 #[.int .i64 0, .int .i64 3, .slice (some ⟨g, 0, none⟩) 1 1] (W.alloc (.cells #[.int .i64 cls] 3)) fun e w' => e = .returned (.bool b2) ∧ W.alloc (.cells #[.int .i64 cls] 3) = w'))
    (K3 : Hid (∀ W : World, Below w.heap.size w W → Calls Try.prog 35 #[.slice a n c, .slice a2 n2 c2] W fun e w' => e = .returned (.bool b3) ∧ W = w')) :
    Calls Try.prog 24 #[.agg #[.int .i64 u, .slice a n c, .int .i64 ap, .int .i64 d], .int .i64 cls, .int .i64 now, .slice a2 n2 c2, .int .i64 k] w fun e w' => e = .returned (.bool (b1 && (b2 && (S && (decide (u ≤ now) && (decide (ap ≤ k) && b3)))))) ∧ Below w.heap.size w w' := by
  have B0 : Below w.heap.size w (w.alloc (.cells #[.int .i64 u, .slice a n c, .int .i64 ap, .int .i64 d] 26)) := (below_alloc _ _)
  cases b1
  · clear HS K2 K3
    go_enter Try.func24, Try.ntmps24
    go_wp2_with fail
    refine (K1.out _ B0).mono ?_
    rintro e w1 ⟨rfl, b1⟩
    obtain ⟨hc, hf⟩ := bcell b1
    have hz : w.heap.size < w1.heap.size := by have := b1.size; simp at this; omega
    go_wp2
    go_ret
    exact ⟨ret_bool rfl, bel2 B0 b1⟩
  cases b2
  · clear HS K3
    go_enter Try.func24, Try.ntmps24
    go_wp2_with fail
    refine (K1.out _ B0).mono ?_
    rintro e w1 ⟨rfl, b1⟩
    obtain ⟨hc, hf⟩ := bcell b1
    have hz : w.heap.size < w1.heap.size := by have := b1.size; simp at this; omega
    go_wp2_with fail
    refine (K2.out _ _ (by first | rfl | simp)).mono ?_
    rintro e w' ⟨rfl, rfl⟩
    go_wp2
    go_ret
    exact ⟨ret_bool rfl, (bel2 B0 b1).alloc (bel2 B0 b1).size _⟩
  obtain ⟨⟨hc0, hc3, hd0⟩, hs⟩ := HS.out (by trivial) (by trivial)
  clear HS
  cases S
  · clear K3
    go_enter Try.func24, Try.ntmps24
    go_wp2_with fail
    refine (K1.out _ B0).mono ?_
    rintro e w1 ⟨rfl, b1⟩
    obtain ⟨hc, hf⟩ := bcell b1
    have hz : w.heap.size < w1.heap.size := by have := b1.size; simp at this; omega
    go_wp2_with fail
    refine (K2.out _ _ (by first | rfl | simp)).mono ?_
    rintro e w' ⟨rfl, rfl⟩
    go_wp2
    go_ret
    exact ⟨ret_bool rfl, (bel2 B0 b1).alloc (bel2 B0 b1).size _⟩
  by_cases h1 : u ≤ now
  · by_cases h2 : ap ≤ k
    · cases b3
      · skip
        go_enter Try.func24, Try.ntmps24
        go_wp2_with fail
        refine (K1.out _ B0).mono ?_
        rintro e w1 ⟨rfl, b1⟩
        obtain ⟨hc, hf⟩ := bcell b1
        have hz : w.heap.size < w1.heap.size := by have := b1.size; simp at this; omega
        go_wp2_with fail
        refine (K2.out _ _ (by first | rfl | simp)).mono ?_
        rintro e w' ⟨rfl, rfl⟩
        go_wp2_with fail
        refine (K3.out _ ((bel2 B0 b1).alloc (bel2 B0 b1).size _)).mono ?_
        rintro e w' ⟨rfl, rfl⟩
        go_wp2
        go_ret
        exact ⟨ret_bool (by simp), (bel2 B0 b1).alloc (bel2 B0 b1).size _⟩
      · skip
        go_enter Try.func24, Try.ntmps24
        go_wp2_with fail
        refine (K1.out _ B0).mono ?_
        rintro e w1 ⟨rfl, b1⟩
        obtain ⟨hc, hf⟩ := bcell b1
        have hz : w.heap.size < w1.heap.size := by have := b1.size; simp at this; omega
        go_wp2_with fail
        refine (K2.out _ _ (by first | rfl | simp)).mono ?_
        rintro e w' ⟨rfl, rfl⟩
        go_wp2_with fail
        refine (K3.out _ ((bel2 B0 b1).alloc (bel2 B0 b1).size _)).mono ?_
        rintro e w' ⟨rfl, rfl⟩
        go_wp2
        go_ret
        exact ⟨ret_bool (by simp [h1, h2]), (bel2 B0 b1).alloc (bel2 B0 b1).size _⟩
    · clear K3
      go_enter Try.func24, Try.ntmps24
      go_wp2_with fail
      refine (K1.out _ B0).mono ?_
      rintro e w1 ⟨rfl, b1⟩
      obtain ⟨hc, hf⟩ := bcell b1
      have hz : w.heap.size < w1.heap.size := by have := b1.size; simp at this; omega
      go_wp2_with fail
      refine (K2.out _ _ (by first | rfl | simp)).mono ?_
      rintro e w' ⟨rfl, rfl⟩
      go_wp2
      go_ret
      exact ⟨ret_bool (by simp; omega), (bel2 B0 b1).alloc (bel2 B0 b1).size _⟩
  · clear K3
    go_enter Try.func24, Try.ntmps24
    go_wp2_with fail
    refine (K1.out _ B0).mono ?_
    rintro e w1 ⟨rfl, b1⟩
    obtain ⟨hc, hf⟩ := bcell b1
    have hz : w.heap.size < w1.heap.size := by have := b1.size; simp at this; omega
    go_wp2_with fail
    refine (K2.out _ _ (by first | rfl | simp)).mono ?_
    rintro e w' ⟨rfl, rfl⟩
    go_wp2
    go_ret
    exact ⟨ret_bool (by simp; omega), (bel2 B0 b1).alloc (bel2 B0 b1).size _⟩
theorem allows_any (l : Lab) (cls now k : Int) (out : List Int) (a : Option Addr) (n c : Nat) (a2 : Option Addr) (n2 c2 : Nat) (w : World) (hcl : Bd cls) (h : LabAt w a n c l) (h2 : IsInts .i64 w a2 n2 c2 out) :
    Calls Try.prog 24 #[.agg #[.int .i64 l.u, .slice a n c, .int .i64 l.ap, .int .i64 l.d], .int .i64 cls, .int .i64 now, .slice a2 n2 c2, .int .i64 k] w fun e w' => e = .returned (.bool (allB l cls now out k)) ∧ Below w.heap.size w w' := by
  have h3 := allows_walk l.u l.ap l.d cls now k a n c a2 n2 c2 w (validB l) (withinB 0 3 [cls]) (insB l.af out) (!bitB l.d cls.toNat)
    (Lib.hid fun g1 g2 => by
      have hv := (validB_iff l).1 g1
      have hc : 0 ≤ cls ∧ cls ≤ 3 := by simpa [withinB_one] using g2
      exact ⟨⟨hc.1, hc.2, hv.2.2.2.2.1⟩, shr_any hv.2.2.2.2 hc⟩)
    (Lib.hid fun W hb => valid_any l a n c W (h.over hb)) (Lib.hid fun W g hg => within_one 0 3 cls W g hg hcl) (Lib.hid fun W hb => allOut_any a n c l.af a2 n2 c2 out W (h.1.over hb) (h2.over hb))
  rw [withinB_one] at h3
  exact h3
end Go.Proofs.Ythpginepnleokaa
