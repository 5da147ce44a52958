/- Walks of ascending, pick, Index, Contains, allOut, Has, Bit, Equal. -/
import Derived.Test.YthpginepnleokaaLabW1
import Derived.Deep.LoopGhost
namespace Go.Proofs.Ythpginepnleokaa
open Go.RowKit
theorem asc_of {zs : List Int} (h : ∀ j, 1 ≤ j → j < zs.length → zs.getD (j - 1) 0 < zs.getD j 0) : zs.Pairwise (· < ·) := by
  have key : ∀ i j, i < j → j < zs.length → zs.getD i 0 < zs.getD j 0 := by
    intro i j hij
    induction j with
    | zero => omega
    | succ j ih =>
      intro hj
      have h1 := h (j + 1) (by omega) hj
      simp only [Nat.add_sub_cancel] at h1
      by_cases e : i = j
      · rw [e]; exact h1
      · have := ih (by omega) (by omega); omega
  rw [List.pairwise_iff_getElem]
  intro i j hi hj hij
  have := key i j hij hj
  simpa [List.getD, hi, hj] using this
theorem asc_at {zs : List Int} (h : zs.Pairwise (· < ·)) {i j : Nat} (hij : i < j) (hj : j < zs.length) : zs.getD i 0 < zs.getD j 0 := by
  rw [List.pairwise_iff_getElem] at h
  have := h i j (by omega) hj hij
  simpa [List.getD, show i < zs.length by omega, hj] using this
theorem ascB_no {zs : List Int} {j : Nat} (h0 : 1 ≤ j) (hj : j < zs.length) (h : ¬ zs.getD (j - 1) 0 < zs.getD j 0) : ascB zs = false := by
  cases e : ascB zs
  · rfl
  · exact absurd (asc_at ((ascB_iff zs).1 e) (by omega) hj) h
set_option maxHeartbeats 1000000 in
theorem ascending_any (a : Option Addr) (n c : Nat) (zs : List Int) (w : World) (h : IsInts .i64 w a n c zs) :
    Calls Try.prog 29 #[.slice a n c] w fun e w' => e = .returned (.bool (ascB zs)) ∧ Below w.heap.size w w' := by
  have hb := fun {i : Nat} (hi : i < n) => h.bd hi
  obtain ⟨hl, hca, hcm, hw, ha⟩ := h
  unfold maxLen at hcm
  have HL := Lib.hid hl
  have HA := Lib.hid ha
  have HB : Hid (∀ i, i < n → -9223372036854775808 ≤ zs.getD i 0 ∧ zs.getD i 0 ≤ 9223372036854775807) := Lib.hid (fun i hi => hb hi)
  clear hl ha hb hw
  go_enter Try.func29, Try.ntmps29
  go_wp2
  go_loopw [3] (fun i wr => ∃ k : Nat, 1 ≤ k ∧ (k ≤ n ∨ k = 1) ∧ i = .int .i64 k ∧ Hid (∀ j, 1 ≤ j → j < k → zs.getD (j - 1) 0 < zs.getD j 0) ∧ Below w.heap.size w wr) (fun i _ => n - (intOf i).toNat)
  case atStart => exact ⟨1, Nat.le_refl _, .inr rfl, rfl, Lib.hid (fun j hj => by omega), Below.refl _ _⟩
  case round =>
    obtain ⟨k, hk1, hk, rfl, hall, bw⟩ := hrel
    by_cases hlt : k < n
    · obtain ⟨b, off, rfl, cz⟩ := HA.out.resolve_left (by omega)
      obtain ⟨m, rfl⟩ : ∃ m, k = m + 1 := ⟨k - 1, by omega⟩
      have hcell := cellOver bw (cz (m + 1) hlt)
      have hcell0 := cellOver bw (cz m (by omega))
      have HZ := Lib.hid (ascB_no (zs := zs) (j := m + 1) (by omega) (by rw [HL.out]; exact hlt))
      have HS : Hid ((zs.getD m 0 < zs.getD (m + 1) 0) → ∀ j, 1 ≤ j → j < m + 1 + 1 → zs.getD (j - 1) 0 < zs.getD j 0) := Lib.hid (fun hz j h1 hj => by
        by_cases e : j = m + 1
        · rw [e]; exact hz
        · exact hall.out j h1 (by omega))
      simp only [Nat.add_sub_cancel] at HZ
      clear cz
      generalize zs.getD (m + 1) 0 = z at *
      generalize zs.getD m 0 = y at *
      have hm1 : ((m + 1 : Nat) : Int) - 1 = (m : Int) := by omega
      have hw1 : IntKind.i64.wrap (((m + 1 : Nat) : Int) - 1) = (m : Int) := by rw [hm1]; exact IntWalk.i64_in _ (by omega)
      have hltn : (m : Int) < n := by omega
      have hltn1 : ((m + 1 : Nat) : Int) < n := by omega
      go_wp2_with fail
      go_quiet (fail)
      by_cases h1 : z ≤ y
      · go_wp2
        go_ret
        exact ⟨ret_bool (HZ.out (by omega)).symm, below_drewN bw _⟩
      · go_wp2
        go_roundw
        case rel => exact ⟨m + 1 + 1, by omega, .inl (by omega), by go_num, Lib.hid (HS.out (by omega)), below_drewN bw _⟩
        case measure => simp [intOf]; omega
    · have hp : ascB zs = true := (ascB_iff zs).2 (asc_of fun j h1 hj => hall.out j h1 (by rw [HL.out] at hj; omega))
      have HZ := Lib.hid hp
      clear hp
      go_wp2
      go_ret
      exact ⟨ret_bool HZ.out.symm, bw⟩
def hasB (zs : List Int) (v : Int) : Bool := zs.contains v
def insB (zs out : List Int) : Bool := zs.all fun z => hasB out z
def IdxAns (zs : List Int) (v : Int) (w : World) (e : Ending) (w' : World) : Prop := ∃ r : Int, e = .returned (.int .i64 r) ∧ decide (0 ≤ r) = hasB zs v ∧ w = w'
theorem hasB_iff (zs : List Int) (v : Int) : hasB zs v = true ↔ v ∈ zs := by simp [hasB]
theorem contains_no {zs : List Int} {v : Int} (h : ∀ j, j < zs.length → zs.getD j 0 ≠ v) : hasB zs v = false := by
  cases e : hasB zs v
  · rfl
  · rw [hasB_iff] at e
    exact absurd rfl (all_of_getD (p := fun z => z ≠ v) h v e)
theorem contains_yes {zs : List Int} {v : Int} {j : Nat} (hj : j < zs.length) (h : zs.getD j 0 = v) : hasB zs v = true := by
  rw [hasB_iff, ← h]; exact getD_mem hj
def pck (c n : Int) : Int := (if c < 0 then -(c + 1) else c) % n
theorem pck_lo (c n : Int) (h : 1 ≤ n) : 0 ≤ pck c n := Int.emod_nonneg _ (by omega)
theorem pck_hi (c n : Int) (h : 1 ≤ n) : pck c n ≤ n - 1 := by
  have := Int.emod_lt_of_pos (if c < 0 then -(c + 1) else c) (show 0 < n by omega)
  unfold pck; omega
set_option maxHeartbeats 400000 in
theorem pick_any (c n : Int) (w : World) (hn : 1 ≤ n) (h1 : -9223372036854775808 ≤ c) (h2 : c ≤ 9223372036854775807) :
    Calls Try.prog 27 #[.int .i64 c, .int .i64 n] w fun e w' => e = .returned (.int .i64 (pck c n)) ∧ w = w' := by
  by_cases hc : c < 0
  · have hc2 : 0 ≤ -(c + 1) := by omega
    go_enter Try.func27, Try.ntmps27
    go_wp2
    go_ret
    exact ⟨ret_int (by rw [pck, if_pos hc, ← Int.neg_tmod, Int.tmod_eq_emod_of_nonneg hc2]), rfl⟩
  · go_enter Try.func27, Try.ntmps27
    go_wp2
    go_ret
    exact ⟨ret_int (by rw [pck, if_neg (by omega)]), rfl⟩
set_option maxHeartbeats 1000000 in
theorem index_any (a : Option Addr) (n c : Nat) (zs : List Int) (v : Int) (w : World) (h : IsInts .i64 w a n c zs) :
    Calls Try.prog 43 #[.slice a n c, .int .i64 v] w (IdxAns zs v w) := by
  have hb := fun {i : Nat} (hi : i < n) => h.bd hi
  obtain ⟨hl, hca, hcm, hw, ha⟩ := h
  unfold maxLen at hcm
  have HL := Lib.hid hl
  have HA := Lib.hid ha
  clear hl ha hb hw
  go_enter Try.func43, Try.ntmps43
  go_wp2
  go_loop [8, 5] (fun i _ => ∃ k : Nat, k ≤ n ∧ i = .int .i64 k ∧ Hid (∀ j, j < k → zs.getD j 0 ≠ v)) (fun i _ => n - (intOf i).toNat)
  case atStart => exact ⟨0, Nat.zero_le _, rfl, Lib.hid (fun j hj => by omega)⟩
  case round =>
    obtain ⟨k, hk, rfl, hall⟩ := hrel
    by_cases hlt : k < n
    · obtain ⟨b, off, rfl, cz⟩ := HA.out.resolve_left (by omega)
      have hcell := cz k hlt
      have HZ := Lib.hid (contains_yes (zs := zs) (v := v) (j := k) (by rw [HL.out]; exact hlt))
      have HS : Hid ((zs.getD k 0 ≠ v) → ∀ j, j < k + 1 → zs.getD j 0 ≠ v) := Lib.hid (fun hz j hj => by
        by_cases e : j = k
        · rw [e]; exact hz
        · exact hall.out j (by omega))
      clear cz
      generalize zs.getD k 0 = z at *
      by_cases h1 : v = z
      · have H1 := Lib.hid h1
        have h2 : (v == z) = true := by simp [h1]
        clear h1
        go_wp2
        go_ret
        exact ⟨_, rfl, by rw [HZ.out H1.out.symm]; simp, rfl⟩
      · have h2 : (v == z) = false := by simp [h1]
        have H1 := Lib.hid h1
        clear h1
        go_wp2
        go_round
        case rel => exact ⟨k + 1, by omega, by go_num, Lib.hid (HS.out (fun e => H1.out e.symm))⟩
        case measure => simp [intOf]; omega
    · obtain rfl : k = n := by omega
      have HZ := Lib.hid (contains_no (zs := zs) (v := v) (fun i hi => hall.out i (by rw [← HL.out]; exact hi)))
      go_wp2
      go_ret
      exact ⟨_, rfl, by rw [HZ.out]; decide, rfl⟩
set_option maxHeartbeats 1000000 in
theorem contains_any (a : Option Addr) (n c : Nat) (zs : List Int) (v : Int) (w : World) (h : IsInts .i64 w a n c zs) :
    Calls Try.prog 39 #[.slice a n c, .int .i64 v] w fun e w' => e = .returned (.bool (hasB zs v)) ∧ w = w' := by
  go_enter Try.func39, Try.ntmps39
  go_wp2_with fail
  refine (index_any a n c zs v _ h).mono ?_
  rintro e w' ⟨r, rfl, hr, rfl⟩
  have HR := Lib.hid hr
  clear hr
  go_wp2
  go_ret
  exact ⟨ret_bool HR.out, rfl⟩
theorem all_no {zs out : List Int} {i : Nat} (h : i < zs.length) (hn : hasB out (zs.getD i 0) = false) : insB zs out = false := by
  cases e : insB zs out
  · rfl
  · rw [insB, List.all_eq_true] at e
    rw [e _ (getD_mem h)] at hn; cases hn
theorem all_yes {zs out : List Int} (h : ∀ i, i < zs.length → hasB out (zs.getD i 0) = true) : insB zs out = true := by
  rw [insB, List.all_eq_true]; exact all_of_getD h
set_option maxHeartbeats 1000000 in
theorem allOut_any (a : Option Addr) (n c : Nat) (zs : List Int) (a2 : Option Addr) (n2 c2 : Nat) (out : List Int) (w : World) (h : IsInts .i64 w a n c zs) (h2 : IsInts .i64 w a2 n2 c2 out) :
    Calls Try.prog 35 #[.slice a n c, .slice a2 n2 c2] w fun e w' => e = .returned (.bool (insB zs out)) ∧ w = w' := by
  obtain ⟨hl, hca, hcm, hw, ha⟩ := h
  unfold maxLen at hcm
  have HL := Lib.hid hl
  have HA := Lib.hid ha
  have H2 := Lib.hid h2
  clear hl ha hw h2
  go_enter Try.func35, Try.ntmps35
  go_wp2
  go_loop [9, 6] (fun i _ => ∃ k : Nat, k ≤ n ∧ i = .int .i64 k ∧ Hid (∀ j, j < k → hasB out (zs.getD j 0) = true)) (fun i _ => n - (intOf i).toNat)
  case atStart => exact ⟨0, Nat.zero_le _, rfl, Lib.hid (fun j hj => by omega)⟩
  case round =>
    obtain ⟨k, hk, rfl, hall⟩ := hrel
    by_cases hlt : k < n
    · obtain ⟨b, off, rfl, cz⟩ := HA.out.resolve_left (by omega)
      have hcell := cz k hlt
      have HZ := Lib.hid (all_no (zs := zs) (out := out) (i := k) (by rw [HL.out]; exact hlt))
      have HS : Hid (hasB out (zs.getD k 0) = true → ∀ j, j < k + 1 → hasB out (zs.getD j 0) = true) := Lib.hid (fun hz j hj => by
        by_cases e : j = k
        · rw [e]; exact hz
        · exact hall.out j (by omega))
      clear cz
      generalize zs.getD k 0 = z at *
      have hc := contains_any a2 n2 c2 out z w H2.out
      cases h1 : hasB out z
      · rw [h1] at hc
        have HH := Lib.hid h1
        clear h1
        go_wp2_with (go_at_call 39; refine hc.mono ?_; rintro e w' ⟨rfl, rfl⟩)
        go_ret
        exact ⟨ret_bool (HZ.out HH.out).symm, rfl⟩
      · rw [h1] at hc
        have HH := Lib.hid h1
        clear h1
        go_wp2_with (go_at_call 39; refine hc.mono ?_; rintro e w' ⟨rfl, rfl⟩)
        go_round
        case rel => exact ⟨k + 1, by omega, by go_num, Lib.hid (HS.out HH.out)⟩
        case measure => simp [intOf]; omega
    · obtain rfl : k = n := by omega
      have HZ := Lib.hid (all_yes (zs := zs) (out := out) (fun i hi => hall.out i (by rw [← HL.out]; exact hi)))
      go_wp2
      go_ret
      exact ⟨ret_bool HZ.out.symm, rfl⟩
set_option maxHeartbeats 1000000 in
theorem has_any (a : Option Addr) (n c : Nat) (zs : List Int) (v : Int) (w : World) (h : IsInts .i64 w a n c zs) :
    Calls Try.prog 32 #[.slice a n c, .int .i64 v] w fun e w' => e = .returned (.bool (hasB zs v)) ∧ w = w' := by
  obtain ⟨hl, hca, hcm, hw, ha⟩ := h
  unfold maxLen at hcm
  have HL := Lib.hid hl
  have HA := Lib.hid ha
  clear hl ha hw
  go_enter Try.func32, Try.ntmps32
  go_wp2
  go_loop [5] (fun i => ∃ k : Nat, k ≤ n ∧ i = .int .i64 k ∧ Hid (∀ j, j < k → zs.getD j 0 ≠ v)) (fun i => n - (intOf i).toNat)
  case atStart => exact ⟨0, Nat.zero_le _, rfl, Lib.hid (fun j hj => by omega)⟩
  case round =>
    obtain ⟨k, hk, rfl, hall⟩ := hrel
    by_cases hlt : k < n
    · obtain ⟨b, off, rfl, cz⟩ := HA.out.resolve_left (by omega)
      have hcell := cz k hlt
      have HZ := Lib.hid (contains_yes (zs := zs) (v := v) (j := k) (by rw [HL.out]; exact hlt))
      have HS : Hid ((zs.getD k 0 ≠ v) → ∀ j, j < k + 1 → zs.getD j 0 ≠ v) := Lib.hid (fun hz j hj => by
        by_cases e : j = k
        · rw [e]; exact hz
        · exact hall.out j (by omega))
      clear cz
      generalize zs.getD k 0 = z at *
      by_cases h1 : z = v
      · have H1 := Lib.hid h1
        have h2 : (z == v) = true := by simp [h1]
        clear h1
        go_wp2
        go_ret
        exact ⟨ret_bool (HZ.out H1.out).symm, rfl⟩
      · have h2 : (z == v) = false := by simp [h1]
        have H1 := Lib.hid h1
        clear h1
        go_wp2
        go_round
        case rel => exact ⟨k + 1, by omega, by go_num, Lib.hid (HS.out H1.out)⟩
        case measure => simp [intOf]; omega
    · obtain rfl : k = n := by omega
      have HZ := Lib.hid (contains_no (zs := zs) (v := v) (fun i hi => hall.out i (by rw [← HL.out]; exact hi)))
      go_wp2
      go_ret
      exact ⟨ret_bool HZ.out.symm, rfl⟩
set_option maxHeartbeats 1000000 in
theorem bit_any (d : Int) (c : Nat) (w : World) (hd : 0 ≤ d ∧ d ≤ 15) (hc : c < 4) :
    Calls Try.prog 33 #[.int .i64 d, .int .i64 c] w fun e w' => e = .returned (.bool (bitB d c)) ∧ w = w' := by
  go_enter Try.func33, Try.ntmps33
  go_wp2
  go_loop [0, 5] (fun x i => ∃ (k : Nat) (y : Int), k ≤ c ∧ i = .int .i64 k ∧ x = .int .i64 y ∧ 0 ≤ y ∧ y ≤ 15 ∧ Hid (y = d / 2 ^ k)) (fun _ i => c - (intOf i).toNat)
  case atStart => exact ⟨0, d, Nat.zero_le _, rfl, rfl, hd.1, hd.2, Lib.hid (by rw [Int.pow_zero, Int.ediv_one])⟩
  case round =>
    obtain ⟨k, y, hk, rfl, rfl, hy0, hy1, hy⟩ := hrel
    by_cases hlt : k < c
    · go_wp2
      go_round
      case rel => exact ⟨k + 1, y / 2, by omega, by go_num, rfl, by omega, by omega, Lib.hid (by rw [hy.out, Int.pow_succ, Int.ediv_ediv_of_nonneg (by exact Int.pow_nonneg (by decide))])⟩
      case measure => simp [intOf]; omega
    · obtain rfl : k = c := by omega
      go_wp2
      go_ret
      exact ⟨ret_bool (by rw [bitB, ← hy.out]; rfl), rfl⟩
def eqB (zs ys : List Int) : Bool := decide (zs = ys)
set_option maxHeartbeats 1000000 in
theorem equal_any (a : Option Addr) (n c : Nat) (zs : List Int) (a2 : Option Addr) (n2 c2 : Nat) (ys : List Int) (w : World) (h : IsInts .i64 w a n c zs) (h2 : IsInts .i64 w a2 n2 c2 ys) :
    Calls Try.prog 30 #[.slice a n c, .slice a2 n2 c2] w fun e w' => e = .returned (.bool (eqB zs ys)) ∧ Below w.heap.size w w' := by
  obtain ⟨hl, hca, hcm, hw, ha⟩ := h
  obtain ⟨gl, gca, gcm, gw, ga⟩ := h2
  unfold maxLen at hcm gcm
  have HL := Lib.hid hl
  have HA := Lib.hid ha
  have GL := Lib.hid gl
  have GA := Lib.hid ga
  clear hl ha hw gl ga gw
  by_cases hn : n = n2
  · subst hn
    go_enter Try.func30, Try.ntmps30
    go_wp2
    go_loopw [13, 5] (fun i _ wr => ∃ k : Nat, k ≤ n ∧ i = .int .i64 k ∧ Hid (∀ j, j < k → zs.getD j 0 = ys.getD j 0) ∧ Below w.heap.size w wr) (fun i _ _ => n - (intOf i).toNat)
    case atStart => exact ⟨0, Nat.zero_le _, rfl, Lib.hid (fun j hj => by omega), Below.refl _ _⟩
    case round =>
      obtain ⟨k, hk, rfl, hall, bw⟩ := hrel
      by_cases hlt : k < n
      · obtain ⟨b, off, rfl, cz⟩ := HA.out.resolve_left (by omega)
        obtain ⟨b2, off2, rfl, cz2⟩ := GA.out.resolve_left (by omega)
        have hcell := cellOver bw (cz k hlt)
        have hcell2 := cellOver bw (cz2 k hlt)
        have HZ : Hid (zs.getD k 0 ≠ ys.getD k 0 → eqB zs ys = false) := Lib.hid (fun hne => by
          rw [eqB, decide_eq_false_iff_not]; rintro rfl; exact hne rfl)
        have HS : Hid (zs.getD k 0 = ys.getD k 0 → ∀ j, j < k + 1 → zs.getD j 0 = ys.getD j 0) := Lib.hid (fun hz j hj => by
          by_cases e : j = k
          · rw [e]; exact hz
          · exact hall.out j (by omega))
        clear cz cz2
        generalize zs.getD k 0 = z at *
        generalize ys.getD k 0 = x at *
        have hltn : (k : Int) < n := by omega
        by_cases h1 : z = x
        · have H1 := Lib.hid h1
          have h2 : (z != x) = false := by simp [h1]
          clear h1
          go_wp2_with fail
          go_quiet (fail)
          go_wp2
          go_roundw
          case rel => exact ⟨k + 1, by omega, by go_num, Lib.hid (HS.out H1.out), below_drewN bw _⟩
          case measure => simp [intOf]; omega
        · have h2 : (z != x) = true := by simp [h1]
          have H1 := Lib.hid h1
          clear h1
          go_wp2_with fail
          go_quiet (fail)
          go_wp2
          go_ret
          exact ⟨ret_bool (HZ.out H1.out).symm, below_drewN bw _⟩
      · obtain rfl : k = n := by omega
        have HZ : Hid (eqB zs ys = true) := Lib.hid (by
          rw [eqB, decide_eq_true_eq]
          apply List.ext_getElem (by rw [HL.out, GL.out])
          intro i h1 h2
          have := hall.out i (by rw [← HL.out]; exact h1)
          simpa [List.getD, h1, h2] using this)
        go_wp2
        go_ret
        exact ⟨ret_bool HZ.out.symm, bw⟩
  · have HZ : Hid (eqB zs ys = false) := Lib.hid (by
      rw [eqB, decide_eq_false_iff_not]; rintro rfl; exact hn (HL.out.symm.trans GL.out))
    have h3 : ((n : Int) != (n2 : Int)) = true := by simp; omega
    have h4 : ((n : Int) == (n2 : Int)) = false := by simp; omega
    go_enter Try.func30, Try.ntmps30
    go_wp2
    go_ret
    exact ⟨ret_bool HZ.out.symm, Below.refl _ _⟩
end Go.Proofs.Ythpginepnleokaa
