/- The reference implementation: Valid and Same. -/
import Derived.Test.YthpginepnleokaaLabT
import Derived.Deep.LoopGhost
import Derived.RegionTactic

namespace Go.Proofs.Ythpginepnleokaa
open Go.RowKit
set_option linter.unusedSimpArgs false
set_option linter.unusedVariables false
/-- The scalars' bounds, and the stories, one after the other, as the reference looks at them. -/
def headB (l : Lab) : Bool := decide ((0 ≤ l.u ∧ l.u ≤ 1000000000) ∧ (0 ≤ l.ap ∧ l.ap ≤ 5) ∧ (0 ≤ l.d ∧ l.d ≤ 15))
theorem refValid_no {l : Lab} (h : headB l = false) : validB l = false := by
  cases e : validB l
  · rfl
  · have k := (validB_iff l).1 e
    simp only [headB, decide_eq_false_iff_not] at h
    exact absurd ⟨k.1, k.2.2.2.1, k.2.2.2.2⟩ h
theorem refValid_at {l : Lab} {k : Nat} (hk : k < l.af.length) (h : l.af.getD k 0 ≤ (if k = 0 then 0 else l.af.getD (k - 1) 0) ∨ 64 < l.af.getD k 0) : validB l = false := by
  cases e : validB l
  · rfl
  · have v := (validB_iff l).1 e
    have h1 := v.2.1 _ (getD_mem hk)
    rcases h with h | h
    · by_cases k0 : k = 0
      · rw [if_pos k0] at h; omega
      · rw [if_neg k0] at h
        have := asc_at v.2.2.1 (show k - 1 < k by omega) hk
        omega
    · omega
theorem refValid_yes {l : Lab} (h : headB l = true) (hk : ∀ k, k < l.af.length → (if k = 0 then 0 else l.af.getD (k - 1) 0) < l.af.getD k 0 ∧ l.af.getD k 0 ≤ 64) : validB l = true := by
  simp only [headB, decide_eq_true_eq] at h
  rw [validB_iff]
  have lo : ∀ k, k < l.af.length → 1 ≤ l.af.getD k 0 := by
    intro k
    induction k with
    | zero => intro h0; have := (hk 0 h0).1; rw [if_pos rfl] at this; omega
    | succ k ih =>
      intro h1
      have a := ih (by omega)
      have b := (hk (k + 1) h1).1
      rw [if_neg (by omega), Nat.add_sub_cancel] at b
      omega
  refine ⟨h.1, all_of_getD (fun k h1 => ⟨lo k h1, (hk k h1).2⟩), asc_of (fun j h1 hj => ?_), h.2.1, h.2.2⟩
  have := (hk j hj).1
  rw [if_neg (by omega)] at this
  exact this
set_option maxHeartbeats 4000000 in
theorem refValid_any (l : Lab) (a : Option Addr) (n c : Nat) (w : World) (h : LabAt w a n c l) :
    Calls Try.prog 17 #[.agg #[.int .i64 l.u, .slice a n c, .int .i64 l.ap, .int .i64 l.d]] w fun e w' => e = .returned (.bool (validB l)) ∧ Below w.heap.size w w' := by
  have HN := Lib.hid (fun h => refValid_no (l := l) h)
  have HAT := Lib.hid (fun (k : Nat) (hk : k < l.af.length) (h : l.af.getD k 0 ≤ (if k = 0 then 0 else l.af.getD (k - 1) 0) ∨ 64 < l.af.getD k 0) => refValid_at (l := l) hk h)
  have HY := Lib.hid (fun (h : headB l = true) (hk : ∀ k, k < l.af.length → (if k = 0 then 0 else l.af.getD (k - 1) 0) < l.af.getD k 0 ∧ l.af.getD k 0 ≤ 64) => refValid_yes (l := l) h hk)
  have HH := Lib.hid (show headB l = decide ((0 ≤ l.u ∧ l.u ≤ 1000000000) ∧ (0 ≤ l.ap ∧ l.ap ≤ 5) ∧ (0 ≤ l.d ∧ l.d ≤ 15)) from rfl)
  obtain ⟨⟨hl, hca, hcm, hw, ha⟩, -⟩ := h
  unfold maxLen at hcm
  have B0 : Below w.heap.size w (w.alloc (.cells #[.int .i64 l.u, .slice a n c, .int .i64 l.ap, .int .i64 l.d] 26)) := below_alloc _ _
  have HL := Lib.hid hl
  have HA := Lib.hid ha
  clear hl ha hw
  by_cases h1 : 0 ≤ l.u ∧ l.u ≤ 1000000000 ∧ 0 ≤ l.ap ∧ l.ap ≤ 5 ∧ 0 ≤ l.d ∧ l.d ≤ 15
  · have HD := Lib.hid (show headB l = true by rw [HH.out]; simp; omega)
    obtain ⟨u0, u1, p0, p1, d0, d1⟩ := h1
    have q0 : decide (l.u < 0) = false := by simpa using u0
    have q1 : decide (1000000000 < l.u) = false := by simpa using u1
    have q2 : decide (l.ap < 0) = false := by simpa using p0
    have q3 : decide (5 < l.ap) = false := by simpa using p1
    have q4 : decide (l.d < 0) = false := by simpa using d0
    have q5 : decide (15 < l.d) = false := by simpa using d1
    go_enter Try.func17, Try.ntmps17
    go_wp2_with fail
    go_loop [4, 3] (fun i la => ∃ k : Nat, k ≤ n ∧ i = .int .i64 k ∧ la = .int .i64 (if k = 0 then 0 else l.af.getD (k - 1) 0) ∧ Hid (∀ j, j < k → (if j = 0 then 0 else l.af.getD (j - 1) 0) < l.af.getD j 0 ∧ l.af.getD j 0 ≤ 64)) (fun i _ => n - (intOf i).toNat)
    case atStart => exact ⟨0, Nat.zero_le _, rfl, rfl, Lib.hid (fun j hj => by omega)⟩
    case round =>
      obtain ⟨k, hk, rfl, rfl, hall⟩ := hrel
      by_cases hlt : k < n
      · obtain ⟨b, off, rfl, cz⟩ := HA.out.resolve_left (by omega)
        have hcell := cellOver (below_alloc w (.cells #[.int .i64 l.u, .slice (some ⟨b, off, none⟩) n c, .int .i64 l.ap, .int .i64 l.d] 26)) (cz k hlt)
        have HX := Lib.hid (fun h => HAT.out k (by rw [HL.out]; exact hlt) h)
        have HS : Hid ((if k = 0 then 0 else l.af.getD (k - 1) 0) < l.af.getD k 0 ∧ l.af.getD k 0 ≤ 64 → ∀ j, j < k + 1 → (if j = 0 then 0 else l.af.getD (j - 1) 0) < l.af.getD j 0 ∧ l.af.getD j 0 ≤ 64) := Lib.hid (fun hz j hj => by
          by_cases e : j = k
          · rw [e]; exact hz
          · exact hall.out j (by omega))
        have hn1 : (if k + 1 = 0 then 0 else l.af.getD (k + 1 - 1) 0) = l.af.getD k 0 := by rw [if_neg (by omega), Nat.add_sub_cancel]
        have HN1 := Lib.hid hn1
        clear cz hn1
        generalize hy : (if k = 0 then 0 else l.af.getD (k - 1) 0) = y at *
        generalize hz : l.af.getD k 0 = z at *
        clear hy hz
        have hltk : (k : Int) < n := by omega
        by_cases g1 : z ≤ y
        · go_wp2
          go_ret
          exact ⟨ret_bool (HX.out (.inl g1)).symm, B0⟩
        · by_cases g2 : 64 < z
          · go_wp2
            go_ret
            exact ⟨ret_bool (HX.out (.inr g2)).symm, B0⟩
          · go_wp2
            go_round
            case rel => exact ⟨k + 1, by omega, by go_num, by rw [HN1.out], Lib.hid (HS.out ⟨by omega, by omega⟩)⟩
            case measure => simp [intOf]; omega
      · obtain rfl : k = n := by omega
        have HZ := Lib.hid (HY.out HD.out (fun j hj => hall.out j (by rw [← HL.out]; exact hj)))
        generalize (if k = 0 then 0 else l.af.getD (k - 1) 0) = y
        go_wp2
        go_ret
        exact ⟨ret_bool HZ.out.symm, B0⟩
  · have HF := Lib.hid (show validB l = false from HN.out (by rw [HH.out]; simp; omega))
    by_cases u0 : 0 ≤ l.u
    · by_cases u1 : l.u ≤ 1000000000
      · by_cases p0 : 0 ≤ l.ap
        · by_cases p1 : l.ap ≤ 5
          · by_cases d0 : 0 ≤ l.d
            · have d1 : ¬ l.d ≤ 15 := by omega
              clear h1
              go_enter Try.func17, Try.ntmps17
              go_wp2
              go_ret
              exact ⟨ret_bool HF.out.symm, B0⟩
            all_goals
              clear h1
              go_enter Try.func17, Try.ntmps17
              go_wp2
              go_ret
              exact ⟨ret_bool HF.out.symm, B0⟩
          all_goals
            clear h1
            go_enter Try.func17, Try.ntmps17
            go_wp2
            go_ret
            exact ⟨ret_bool HF.out.symm, B0⟩
        all_goals
          clear h1
          go_enter Try.func17, Try.ntmps17
          go_wp2
          go_ret
          exact ⟨ret_bool HF.out.symm, B0⟩
      all_goals
        clear h1
        go_enter Try.func17, Try.ntmps17
        go_wp2
        go_ret
        exact ⟨ret_bool HF.out.symm, B0⟩
    all_goals
      clear h1
      go_enter Try.func17, Try.ntmps17
      go_wp2
      go_ret
      exact ⟨ret_bool HF.out.symm, B0⟩
theorem refSame_at {l m : Lab} {k : Nat} (h : l.af.getD k 0 ≠ m.af.getD k 0) : sameB l m = false := by
  cases e : sameB l m
  · rfl
  · rw [sameB_iff] at e
    rw [e] at h
    exact absurd rfl h
theorem refSame_len {l m : Lab} (h : l.af.length ≠ m.af.length) : sameB l m = false := by
  cases e : sameB l m
  · rfl
  · rw [sameB_iff] at e
    rw [e] at h
    exact absurd rfl h
theorem refSame_end {l m : Lab} (h : l.af = m.af) : sameB l m = (decide (l.u = m.u) && (decide (l.ap = m.ap) && decide (l.d = m.d))) := by simp [sameB, h]
theorem same_lists {zs ys : List Int} (hl : zs.length = ys.length) (h : ∀ j, j < zs.length → zs.getD j 0 = ys.getD j 0) : zs = ys := by
  apply List.ext_getElem hl
  intro i h1 h2
  have := h i h1
  simpa [List.getD, h1, h2] using this
set_option maxHeartbeats 4000000 in
theorem refSame_any (l m : Lab) (a : Option Addr) (n c : Nat) (a2 : Option Addr) (n2 c2 : Nat) (w : World) (h : LabAt w a n c l) (h2 : LabAt w a2 n2 c2 m) :
    Calls Try.prog 19 #[.agg #[.int .i64 l.u, .slice a n c, .int .i64 l.ap, .int .i64 l.d], .agg #[.int .i64 m.u, .slice a2 n2 c2, .int .i64 m.ap, .int .i64 m.d]] w fun e w' => e = .returned (.bool (sameB l m)) ∧ Below w.heap.size w w' := by
  have HAT := Lib.hid (fun (k : Nat) (h : l.af.getD k 0 ≠ m.af.getD k 0) => refSame_at (l := l) (m := m) h)
  have HLEN := Lib.hid (fun (h : l.af.length ≠ m.af.length) => refSame_len (l := l) (m := m) h)
  have HEND := Lib.hid (fun (h : l.af = m.af) => refSame_end (l := l) (m := m) h)
  obtain ⟨⟨hl, hca, hcm, hw, ha⟩, -⟩ := h
  obtain ⟨⟨gl, gca, gcm, gw, ga⟩, -⟩ := h2
  unfold maxLen at hcm gcm
  have HL := Lib.hid hl
  have HA := Lib.hid ha
  have GL := Lib.hid gl
  have GA := Lib.hid ga
  clear hl ha hw gl ga gw
  obtain ⟨hb0, hb1, B0⟩ := two_allocs w (.cells #[.int .i64 l.u, .slice a n c, .int .i64 l.ap, .int .i64 l.d] 26) (.cells #[.int .i64 m.u, .slice a2 n2 c2, .int .i64 m.ap, .int .i64 m.d] 26)
  by_cases hn : n = n2
  · subst hn
    have HB0 := Lib.hid hb0
    have HB1 := Lib.hid hb1
    clear hb0 hb1
    have hne : ((n : Int) != (n : Int)) = false := by simp
    go_enter Try.func19, Try.ntmps19
    go_wp2_with fail
    obtain ⟨W0, hW0⟩ : ∃ W0, ((w.alloc (.cells #[.int .i64 l.u, .slice a n c, .int .i64 l.ap, .int .i64 l.d] 26)).alloc (.cells #[.int .i64 m.u, .slice a2 n c2, .int .i64 m.ap, .int .i64 m.d] 26)) = W0 := ⟨_, rfl⟩
    rw [hW0] at B0 ⊢
    rw [hW0] at HB0 HB1
    clear hW0 hne
    go_loopw [5] (fun i wr => ∃ k : Nat, k ≤ n ∧ i = .int .i64 k ∧ Hid (∀ j, j < k → l.af.getD j 0 = m.af.getD j 0) ∧ Below W0.heap.size W0 wr) (fun i _ => n - (intOf i).toNat)
    case atStart => exact ⟨0, Nat.zero_le _, rfl, Lib.hid (fun j hj => by omega), Below.refl _ _⟩
    case round =>
      obtain ⟨k, hk, rfl, hall, bw⟩ := hrel
      obtain ⟨p0, p1, p2, p3⟩ := cells4 (blockOver bw HB0.out)
      obtain ⟨q0, q1, q2, q3⟩ := cells4 (blockOver bw HB1.out)
      by_cases hlt : k < n
      · obtain ⟨b, off, rfl, cz⟩ := HA.out.resolve_left (by omega)
        obtain ⟨b2, off2, rfl, cz2⟩ := GA.out.resolve_left (by omega)
        have hcell := cellOver (bel2 B0 bw) (cz k hlt)
        have hcell2 := cellOver (bel2 B0 bw) (cz2 k hlt)
        have HX := Lib.hid (fun h => HAT.out k h)
        have HS : Hid (l.af.getD k 0 = m.af.getD k 0 → ∀ j, j < k + 1 → l.af.getD j 0 = m.af.getD j 0) := Lib.hid (fun hz j hj => by
          by_cases e : j = k
          · rw [e]; exact hz
          · exact hall.out j (by omega))
        clear cz cz2
        generalize l.af.getD k 0 = z at *
        generalize m.af.getD k 0 = x at *
        have hltn : (k : Int) < n := by omega
        by_cases h1 : z = x
        · have H1 := Lib.hid h1
          have h2 : (z != x) = false := by simp [h1]
          clear h1
          go_wp2_with fail
          go_quiet (fail)
          go_wp2
          go_roundw
          case rel => exact ⟨k + 1, by omega, by go_num, Lib.hid (HS.out H1.out), below_drewN bw _⟩
          case measure => simp [intOf]; omega
        · have h2 : (z != x) = true := by simp [h1]
          have H1 := Lib.hid h1
          clear h1
          go_wp2_with fail
          go_quiet (fail)
          go_wp2
          go_ret
          exact ⟨ret_bool (HX.out H1.out).symm, below_drewN (bel2 B0 bw) _⟩
      · obtain rfl : k = n := by omega
        have HZ := Lib.hid (HEND.out (same_lists (by rw [HL.out, GL.out]) (fun j hj => hall.out j (by rw [← HL.out]; exact hj))))
        have bz := bel2 B0 bw
        by_cases g1 : l.u = m.u
        · have e1 : (l.u == m.u) = true := by simp [g1]
          by_cases g2 : l.ap = m.ap
          · have e2 : (l.ap == m.ap) = true := by simp [g2]
            have G1 := Lib.hid g1
            have G2 := Lib.hid g2
            clear g1 g2
            go_wp2
            go_ret
            exact ⟨ret_bool (by rw [HZ.out, G1.out, G2.out]; simp [Bool.beq_eq_decide_eq]), bz⟩
          · have e2 : (l.ap == m.ap) = false := by simp [g2]
            have G1 := Lib.hid g1
            have G2 := Lib.hid g2
            clear g1 g2
            go_wp2
            go_ret
            exact ⟨ret_bool (by rw [HZ.out]; simp [G2.out]), bz⟩
        · have e1 : (l.u == m.u) = false := by simp [g1]
          have G1 := Lib.hid g1
          clear g1
          go_wp2
          go_ret
          exact ⟨ret_bool (by rw [HZ.out]; simp [G1.out]), bz⟩
  · have HZ := Lib.hid (HLEN.out (by rw [HL.out, GL.out]; exact hn))
    have h3 : ((n : Int) != (n2 : Int)) = true := by simp; omega
    go_enter Try.func19, Try.ntmps19
    go_wp2
    go_ret
    exact ⟨ret_bool HZ.out.symm, B0⟩
end Go.Proofs.Ythpginepnleokaa
