/- Labels: Valid and Same, the program's and the reference's, for all labels. -/
import Derived.Test.YtlhcckjfgpcohaaGreatDoorProg
import Derived.Test.YtlhcckjfgpcohaaGreatDoorLabP
import Derived.Test.YtlhcckjfgpcohaaGreatDoorIns
import Derived.Test.YtlhcckjfgpcohaaGreatDoorGen
import Derived.Below
import Derived.Deep.QuietTactic
import Derived.BigQuiet
import Derived.IntWalk
import Derived.Deep.LoopGhost
import Derived.Lib.SmallJoins
import Derived.Deep.Fields
import Derived.Laws.Rows
import Derived.RegionTactic
namespace Go.Proofs.YtlhcckjfgpcohaaGreatDoor
set_option maxRecDepth 100000
open Go.RowKit
set_option linter.unusedSimpArgs false
set_option linter.unusedVariables false
theorem wf64 {n : Int} (h : (Lit.int .i64 n).wf = true) : -9223372036854775808 ≤ n ∧ n ≤ 9223372036854775807 := by
  simp [Lit.wf, IntKind.min, IntKind.max, IntKind.signed, IntKind.bits] at h
  omega
theorem of_wf64 {n : Int} (h : -9223372036854775808 ≤ n ∧ n ≤ 9223372036854775807) : (Lit.int .i64 n).wf = true := by
  simp [Lit.wf, IntKind.min, IntKind.max, IntKind.signed, IntKind.bits]
  omega
theorem cellOver {W W' : World} {p : Addr} {v : Value} (hb : Below W.heap.size W W') (h : W.cell? p = some v) : W'.cell? p = some v := by
  exact (hb.cell (World.block_lt_of_cell? W p h)).trans h
theorem belowOver {B : Nat} {W W1 W2 : World} (h : Below B W W1) (hB : B ≤ W.heap.size) (k : Below W1.heap.size W1 W2) : Below B W W2 := h.trans (k.mono (Nat.le_trans hB h.size))
theorem IsInts.over {k : IntKind} {W W' : World} {a : Option Addr} {n c : Nat} {zs : List Int} (hb : Below W.heap.size W W') (h : IsInts k W a n c zs) : IsInts k W' a n c zs := by
  obtain ⟨h1, h2, h3, h4, h5⟩ := h
  refine ⟨h1, h2, h3, h4, h5.imp id ?_⟩
  rintro ⟨b, off, rfl, hc⟩
  exact ⟨b, off, rfl, fun i hi => cellOver hb (hc i hi)⟩
theorem below_drewN {B : Nat} {a w : World} (h : Below B a w) (n : Nat) : Below B a (w.drewN n) := ⟨h.os, h.tape, h.output, h.size, h.block⟩
theorem IsInts.drew {k : IntKind} {W : World} {a : Option Addr} {n c : Nat} {zs : List Int} (h : IsInts k W a n c zs) : IsInts k W.drew a n c zs := h
theorem IsInts.bd {W : World} {a : Option Addr} {n c : Nat} {zs : List Int} (h : IsInts .i64 W a n c zs) {i : Nat} (hi : i < n) : -9223372036854775808 ≤ zs.getD i 0 ∧ zs.getD i 0 ≤ 9223372036854775807 := by
  have h1 : i < zs.length := by rw [h.1]; exact hi
  have h2 : zs.getD i 0 ∈ zs := by simp [List.getD, h1]
  exact wf64 (h.2.2.2.1 _ h2)
theorem getD_mem {zs : List Int} {i : Nat} (h : i < zs.length) : zs.getD i 0 ∈ zs := by simp [List.getD, h]
/-- What holds of every place holds of every member. -/
theorem all_of_getD {p : Int → Prop} {zs : List Int} (h : ∀ i, i < zs.length → p (zs.getD i 0)) : ∀ z ∈ zs, p z := by
  intro z hz
  obtain ⟨i, hi, rfl⟩ := List.getElem_of_mem hz
  have := h i hi
  simpa [List.getD, hi] using this
theorem withinB_no {lo hi : Int} {zs : List Int} {i : Nat} (h : i < zs.length) (hn : ¬ (lo ≤ zs.getD i 0 ∧ zs.getD i 0 ≤ hi)) : withinB lo hi zs = false := by
  cases e : withinB lo hi zs
  · rfl
  · exact absurd ((withinB_iff lo hi zs).1 e _ (getD_mem h)) hn
theorem withinB_yes {lo hi : Int} {zs : List Int} (h : ∀ i, i < zs.length → lo ≤ zs.getD i 0 ∧ zs.getD i 0 ≤ hi) : withinB lo hi zs = true := (withinB_iff lo hi zs).2 (all_of_getD h)
set_option maxHeartbeats 1000000 in
theorem within_any (lo hi : Int) (a : Option Addr) (n c : Nat) (zs : List Int) (w : World) (h : IsInts .i64 w a n c zs) :
    Calls Tryz.prog 73 #[.int .i64 lo, .int .i64 hi, .slice a n c] w fun e w' => e = .returned (.bool (withinB lo hi zs)) ∧ w = w' := by
  have hb := fun {i : Nat} (hi : i < n) => h.bd hi
  obtain ⟨hl, hca, hcm, hw, ha⟩ := h
  unfold maxLen at hcm
  have HL := Lib.hid hl
  have HA := Lib.hid ha
  have HB : Hid (∀ i, i < n → -9223372036854775808 ≤ zs.getD i 0 ∧ zs.getD i 0 ≤ 9223372036854775807) := Lib.hid (fun i hi => hb hi)
  clear hl ha hb hw
  go_enter Tryz.func73, Tryz.ntmps73
  go_wp2
  go_loop [11, 8] (fun i _ => ∃ k : Nat, k ≤ n ∧ i = .int .i64 k ∧ Hid (∀ j, j < k → lo ≤ zs.getD j 0 ∧ zs.getD j 0 ≤ hi)) (fun i _ => n - (intOf i).toNat)
  case atStart => exact ⟨0, Nat.zero_le _, rfl, Lib.hid (fun j hj => by omega)⟩
  case round =>
    obtain ⟨k, hk, rfl, hall⟩ := hrel
    by_cases hlt : k < n
    · obtain ⟨b, off, rfl, cz⟩ := HA.out.resolve_left (by omega)
      have hcell := cz k hlt
      have hbd := HB.out k hlt
      have HZ := Lib.hid (withinB_no (lo := lo) (hi := hi) (zs := zs) (i := k) (by rw [HL.out]; exact hlt))
      have HS : Hid ((lo ≤ zs.getD k 0 ∧ zs.getD k 0 ≤ hi) → ∀ j, j < k + 1 → lo ≤ zs.getD j 0 ∧ zs.getD j 0 ≤ hi) := Lib.hid (fun hz j hj => by
        by_cases e : j = k
        · rw [e]; exact hz
        · exact hall.out j (by omega))
      clear cz
      generalize zs.getD k 0 = z at *
      by_cases h1 : z < lo
      · go_wp2
        go_ret
        exact ⟨ret_bool (HZ.out (by omega)).symm, rfl⟩
      · by_cases h2 : hi < z
        · go_wp2
          go_ret
          exact ⟨ret_bool (HZ.out (by omega)).symm, rfl⟩
        · go_wp2
          go_round
          case rel => exact ⟨k + 1, by omega, by go_num, Lib.hid (HS.out (by omega))⟩
          case measure => simp [intOf]; omega
    · obtain rfl : k = n := by omega
      have HZ := Lib.hid (withinB_yes (lo := lo) (hi := hi) (zs := zs) (fun i hi => hall.out i (by rw [← HL.out]; exact hi)))
      go_wp2
      go_ret
      exact ⟨ret_bool HZ.out.symm, rfl⟩
theorem asc_of {zs : List Int} (h : ∀ j, 1 ≤ j → j < zs.length → zs.getD (j - 1) 0 < zs.getD j 0) : zs.Pairwise (· < ·) := by
  have key : ∀ i j, i < j → j < zs.length → zs.getD i 0 < zs.getD j 0 := by
    intro i j hij
    induction j with
    | zero => omega
    | succ j ih =>
      intro hj
      have h1 := h (j + 1) (by omega) hj
      simp only [Nat.add_sub_cancel] at h1
      by_cases e : i = j
      · rw [e]; exact h1
      · have := ih (by omega) (by omega); omega
  rw [List.pairwise_iff_getElem]
  intro i j hi hj hij
  have := key i j hij hj
  simpa [List.getD, hi, hj] using this
theorem asc_at {zs : List Int} (h : zs.Pairwise (· < ·)) {i j : Nat} (hij : i < j) (hj : j < zs.length) : zs.getD i 0 < zs.getD j 0 := by
  rw [List.pairwise_iff_getElem] at h
  have := h i j (by omega) hj hij
  simpa [List.getD, show i < zs.length by omega, hj] using this
theorem ascB_no {zs : List Int} {j : Nat} (h0 : 1 ≤ j) (hj : j < zs.length) (h : ¬ zs.getD (j - 1) 0 < zs.getD j 0) : ascB zs = false := by
  cases e : ascB zs
  · rfl
  · exact absurd (asc_at ((ascB_iff zs).1 e) (by omega) hj) h
set_option maxHeartbeats 1000000 in
theorem ascending_any (a : Option Addr) (n c : Nat) (zs : List Int) (w : World) (h : IsInts .i64 w a n c zs) :
    Calls Tryz.prog 74 #[.slice a n c] w fun e w' => e = .returned (.bool (ascB zs)) ∧ Below w.heap.size w w' := by
  have hb := fun {i : Nat} (hi : i < n) => h.bd hi
  obtain ⟨hl, hca, hcm, hw, ha⟩ := h
  unfold maxLen at hcm
  have HL := Lib.hid hl
  have HA := Lib.hid ha
  have HB : Hid (∀ i, i < n → -9223372036854775808 ≤ zs.getD i 0 ∧ zs.getD i 0 ≤ 9223372036854775807) := Lib.hid (fun i hi => hb hi)
  clear hl ha hb hw
  go_enter Tryz.func74, Tryz.ntmps74
  go_wp2
  go_loopw [3] (fun i wr => ∃ k : Nat, 1 ≤ k ∧ (k ≤ n ∨ k = 1) ∧ i = .int .i64 k ∧ Hid (∀ j, 1 ≤ j → j < k → zs.getD (j - 1) 0 < zs.getD j 0) ∧ Below w.heap.size w wr) (fun i _ => n - (intOf i).toNat)
  case atStart => exact ⟨1, Nat.le_refl _, .inr rfl, rfl, Lib.hid (fun j hj => by omega), Below.refl _ _⟩
  case round =>
    obtain ⟨k, hk1, hk, rfl, hall, bw⟩ := hrel
    by_cases hlt : k < n
    · obtain ⟨b, off, rfl, cz⟩ := HA.out.resolve_left (by omega)
      obtain ⟨m, rfl⟩ : ∃ m, k = m + 1 := ⟨k - 1, by omega⟩
      have hcell := cellOver bw (cz (m + 1) hlt)
      have hcell0 := cellOver bw (cz m (by omega))
      have HZ := Lib.hid (ascB_no (zs := zs) (j := m + 1) (by omega) (by rw [HL.out]; exact hlt))
      have HS : Hid ((zs.getD m 0 < zs.getD (m + 1) 0) → ∀ j, 1 ≤ j → j < m + 1 + 1 → zs.getD (j - 1) 0 < zs.getD j 0) := Lib.hid (fun hz j h1 hj => by
        by_cases e : j = m + 1
        · rw [e]; exact hz
        · exact hall.out j h1 (by omega))
      simp only [Nat.add_sub_cancel] at HZ
      clear cz
      generalize zs.getD (m + 1) 0 = z at *
      generalize zs.getD m 0 = y at *
      have hm1 : ((m + 1 : Nat) : Int) - 1 = (m : Int) := by omega
      have hw1 : IntKind.i64.wrap (((m + 1 : Nat) : Int) - 1) = (m : Int) := by rw [hm1]; exact IntWalk.i64_in _ (by omega)
      have hltn : (m : Int) < n := by omega
      have hltn1 : ((m + 1 : Nat) : Int) < n := by omega
      go_wp2_with fail
      go_quiet (fail)
      by_cases h1 : z ≤ y
      · go_wp2
        go_ret
        exact ⟨ret_bool (HZ.out (by omega)).symm, below_drewN bw _⟩
      · go_wp2
        go_roundw
        case rel => exact ⟨m + 1 + 1, by omega, .inl (by omega), by go_num, Lib.hid (HS.out (by omega)), below_drewN bw _⟩
        case measure => simp [intOf]; omega
    · have hp : ascB zs = true := (ascB_iff zs).2 (asc_of fun j h1 hj => hall.out j h1 (by rw [HL.out] at hj; omega))
      have HZ := Lib.hid hp
      clear hp
      go_wp2
      go_ret
      exact ⟨ret_bool HZ.out.symm, bw⟩
def eqB (zs ys : List Int) : Bool := decide (zs = ys)
set_option maxHeartbeats 1000000 in
theorem equal_any (a : Option Addr) (n c : Nat) (zs : List Int) (a2 : Option Addr) (n2 c2 : Nat) (ys : List Int) (w : World) (h : IsInts .i64 w a n c zs) (h2 : IsInts .i64 w a2 n2 c2 ys) :
    Calls Tryz.prog 59 #[.slice a n c, .slice a2 n2 c2] w fun e w' => e = .returned (.bool (eqB zs ys)) ∧ Below w.heap.size w w' := by
  obtain ⟨hl, hca, hcm, hw, ha⟩ := h
  obtain ⟨gl, gca, gcm, gw, ga⟩ := h2
  unfold maxLen at hcm gcm
  have HL := Lib.hid hl
  have HA := Lib.hid ha
  have GL := Lib.hid gl
  have GA := Lib.hid ga
  clear hl ha hw gl ga gw
  by_cases hn : n = n2
  · subst hn
    go_enter Tryz.func59, Tryz.ntmps59
    go_wp2
    go_loopw [13, 5] (fun i _ wr => ∃ k : Nat, k ≤ n ∧ i = .int .i64 k ∧ Hid (∀ j, j < k → zs.getD j 0 = ys.getD j 0) ∧ Below w.heap.size w wr) (fun i _ _ => n - (intOf i).toNat)
    case atStart => exact ⟨0, Nat.zero_le _, rfl, Lib.hid (fun j hj => by omega), Below.refl _ _⟩
    case round =>
      obtain ⟨k, hk, rfl, hall, bw⟩ := hrel
      by_cases hlt : k < n
      · obtain ⟨b, off, rfl, cz⟩ := HA.out.resolve_left (by omega)
        obtain ⟨b2, off2, rfl, cz2⟩ := GA.out.resolve_left (by omega)
        have hcell := cellOver bw (cz k hlt)
        have hcell2 := cellOver bw (cz2 k hlt)
        have HZ : Hid (zs.getD k 0 ≠ ys.getD k 0 → eqB zs ys = false) := Lib.hid (fun hne => by
          rw [eqB, decide_eq_false_iff_not]; rintro rfl; exact hne rfl)
        have HS : Hid (zs.getD k 0 = ys.getD k 0 → ∀ j, j < k + 1 → zs.getD j 0 = ys.getD j 0) := Lib.hid (fun hz j hj => by
          by_cases e : j = k
          · rw [e]; exact hz
          · exact hall.out j (by omega))
        clear cz cz2
        generalize zs.getD k 0 = z at *
        generalize ys.getD k 0 = x at *
        have hltn : (k : Int) < n := by omega
        by_cases h1 : z = x
        · have H1 := Lib.hid h1
          have h2 : (z != x) = false := by simp [h1]
          clear h1
          go_wp2_with fail
          go_quiet (fail)
          go_wp2
          go_roundw
          case rel => exact ⟨k + 1, by omega, by go_num, Lib.hid (HS.out H1.out), below_drewN bw _⟩
          case measure => simp [intOf]; omega
        · have h2 : (z != x) = true := by simp [h1]
          have H1 := Lib.hid h1
          clear h1
          go_wp2_with fail
          go_quiet (fail)
          go_wp2
          go_ret
          exact ⟨ret_bool (HZ.out H1.out).symm, below_drewN bw _⟩
      · obtain rfl : k = n := by omega
        have HZ : Hid (eqB zs ys = true) := Lib.hid (by
          rw [eqB, decide_eq_true_eq]
          apply List.ext_getElem (by rw [HL.out, GL.out])
          intro i h1 h2
          have := hall.out i (by rw [← HL.out]; exact h1)
          simpa [List.getD, h1, h2] using this)
        go_wp2
        go_ret
        exact ⟨ret_bool HZ.out.symm, bw⟩
  · have HZ : Hid (eqB zs ys = false) := Lib.hid (by
      rw [eqB, decide_eq_false_iff_not]; rintro rfl; exact hn (HL.out.symm.trans GL.out))
    have h3 : ((n : Int) != (n2 : Int)) = true := by simp; omega
    have h4 : ((n : Int) == (n2 : Int)) = false := by simp; omega
    go_enter Tryz.func59, Tryz.ntmps59
    go_wp2
    go_ret
    exact ⟨ret_bool HZ.out.symm, Below.refl _ _⟩
def Bd (n : Int) : Prop := -9223372036854775808 ≤ n ∧ n ≤ 9223372036854775807
/-- A label by value: what its slice reads as, and that its numbers are machine integers. -/
def LabAt (w : World) (a : Option Addr) (n c : Nat) (l : Lab) : Prop := IsInts .i64 w a n c l.af ∧ Bd l.u ∧ Bd l.ap ∧ Bd l.d
theorem LabAt.over {W W' : World} {a : Option Addr} {n c : Nat} {l : Lab} (hb : Below W.heap.size W W') (h : LabAt W a n c l) : LabAt W' a n c l := ⟨h.1.over hb, h.2⟩
theorem below_alloc (W : World) (o : Obj) : Below W.heap.size W (W.alloc o) := (Below.refl _ _).alloc (Nat.le_refl _) o
theorem IsInts.alloc {k : IntKind} {W : World} {a : Option Addr} {n c : Nat} {zs : List Int} (h : IsInts k W a n c zs) (o : Obj) : IsInts k (W.alloc o) a n c zs := h.over (below_alloc W o)
theorem bcell {W w1 : World} (hb : Below W.heap.size W w1) : (∀ b o, b < W.heap.size → w1.cell? ⟨b, o, none⟩ = W.cell? ⟨b, o, none⟩) ∧ (∀ b o, b < W.heap.size → w1.frozen? ⟨b, o, none⟩ = W.frozen? ⟨b, o, none⟩) :=
  ⟨fun b o h => hb.cell (p := ⟨b, o, none⟩) h, fun b o h => hb.frozen (p := ⟨b, o, none⟩) h⟩
theorem one_ints (w : World) (u : Int) (h : Bd u) (t : TypeId) : IsInts .i64 (w.alloc (.cells #[.int .i64 u] t)) (some ⟨w.heap.size, 0, none⟩) 1 1 [u] := by
  refine ⟨rfl, Nat.le_refl _, by unfold maxLen; omega, fun z hz => by rw [List.mem_singleton] at hz; rw [hz]; exact of_wf64 h, .inr ⟨_, _, rfl, fun i hi => ?_⟩⟩
  obtain rfl : i = 0 := by omega
  simp
theorem within_one (lo hi u : Int) (w : World) (g : Nat) (hg : g = w.heap.size) (hu : Bd u) :
    Calls Tryz.prog 73 #[.int .i64 lo, .int .i64 hi, .slice (some ⟨g, 0, none⟩) 1 1] (w.alloc (.cells #[.int .i64 u] 3)) fun e w' => e = .returned (.bool (withinB lo hi [u])) ∧ w.alloc (.cells #[.int .i64 u] 3) = w' :=
  within_any lo hi _ _ _ _ _ (hg ▸ one_ints w u hu 3)
set_option maxHeartbeats 1000000 in
theorem valid_walk (u ap d : Int) (a : Option Addr) (n c : Nat) (w : World) (b1 b2 b3 b4 b5 : Bool)
    (K1 : Hid (∀ (W : World) (g : Nat), g = W.heap.size → Calls Tryz.prog 73 #[.int .i64 0, .int .i64 1000000000, .slice (some ⟨g, 0, none⟩) 1 1] (W.alloc (.cells #[.int .i64 u] 3)) fun e w' => e = .returned (.bool b1) ∧ W.alloc (.cells #[.int .i64 u] 3) = w'))
    (K2 : Hid (∀ W : World, Below w.heap.size w W → Calls Tryz.prog 73 #[.int .i64 1, .int .i64 64, .slice a n c] W fun e w' => e = .returned (.bool b2) ∧ W = w'))
    (K3 : Hid (∀ W : World, Below w.heap.size w W → Calls Tryz.prog 74 #[.slice a n c] W fun e w' => e = .returned (.bool b3) ∧ Below W.heap.size W w'))
    (K4 : Hid (∀ (W : World) (g : Nat), g = W.heap.size → Calls Tryz.prog 73 #[.int .i64 0, .int .i64 5, .slice (some ⟨g, 0, none⟩) 1 1] (W.alloc (.cells #[.int .i64 ap] 3)) fun e w' => e = .returned (.bool b4) ∧ W.alloc (.cells #[.int .i64 ap] 3) = w'))
    (K5 : Hid (∀ (W : World) (g : Nat), g = W.heap.size → Calls Tryz.prog 73 #[.int .i64 0, .int .i64 15, .slice (some ⟨g, 0, none⟩) 1 1] (W.alloc (.cells #[.int .i64 d] 3)) fun e w' => e = .returned (.bool b5) ∧ W.alloc (.cells #[.int .i64 d] 3) = w')) :
    Calls Tryz.prog 41 #[.agg #[.int .i64 u, .slice a n c, .int .i64 ap, .int .i64 d]] w fun e w' => e = .returned (.bool (b1 && (b2 && (b3 && (b4 && b5))))) ∧ Below w.heap.size w w' := by
  have B0 : Below w.heap.size w (w.alloc (.cells #[.int .i64 u, .slice a n c, .int .i64 ap, .int .i64 d] 26)) := below_alloc _ _
  cases b1
  · go_enter Tryz.func41, Tryz.ntmps41
    go_wp2_with fail
    refine (K1.out _ _ (by first | rfl | simp)).mono ?_
    rintro e w' ⟨rfl, rfl⟩
    go_wp2
    go_ret
    exact ⟨ret_bool rfl, B0.alloc B0.size _⟩
  · cases b2
    · go_enter Tryz.func41, Tryz.ntmps41
      go_wp2_with fail
      refine (K1.out _ _ (by first | rfl | simp)).mono ?_
      rintro e w' ⟨rfl, rfl⟩
      go_wp2_with fail
      refine (K2.out _ (B0.alloc B0.size _)).mono ?_
      rintro e w' ⟨rfl, rfl⟩
      go_wp2
      go_ret
      exact ⟨ret_bool rfl, B0.alloc B0.size _⟩
    · cases b3
      · go_enter Tryz.func41, Tryz.ntmps41
        go_wp2_with fail
        refine (K1.out _ _ (by first | rfl | simp)).mono ?_
        rintro e w' ⟨rfl, rfl⟩
        go_wp2_with fail
        refine (K2.out _ (B0.alloc B0.size _)).mono ?_
        rintro e w' ⟨rfl, rfl⟩
        go_wp2_with fail
        refine (K3.out _ (B0.alloc B0.size _)).mono ?_
        rintro e w1 ⟨rfl, b1⟩
        go_wp2
        go_ret
        exact ⟨ret_bool rfl, belowOver (B0.alloc B0.size _) (by simp) b1⟩
      · cases b4
        · go_enter Tryz.func41, Tryz.ntmps41
          go_wp2_with fail
          refine (K1.out _ _ (by first | rfl | simp)).mono ?_
          rintro e w' ⟨rfl, rfl⟩
          go_wp2_with fail
          refine (K2.out _ (B0.alloc B0.size _)).mono ?_
          rintro e w' ⟨rfl, rfl⟩
          go_wp2_with fail
          refine (K3.out _ (B0.alloc B0.size _)).mono ?_
          rintro e w1 ⟨rfl, b1⟩
          have B1 := belowOver (B0.alloc B0.size _) (by simp) b1
          obtain ⟨hc, hf⟩ := bcell b1
          have hz : w.heap.size < w1.heap.size := by have := b1.size; simp at this; omega
          go_wp2_with fail
          refine (K4.out _ _ (by first | rfl | simp)).mono ?_
          rintro e w' ⟨rfl, rfl⟩
          go_wp2
          go_ret
          exact ⟨ret_bool rfl, B1.alloc B1.size _⟩
        · cases b5 <;> (
            go_enter Tryz.func41, Tryz.ntmps41
            go_wp2_with fail
            refine (K1.out _ _ (by first | rfl | simp)).mono ?_
            rintro e w' ⟨rfl, rfl⟩
            go_wp2_with fail
            refine (K2.out _ (B0.alloc B0.size _)).mono ?_
            rintro e w' ⟨rfl, rfl⟩
            go_wp2_with fail
            refine (K3.out _ (B0.alloc B0.size _)).mono ?_
            rintro e w1 ⟨rfl, b1⟩
            have B1 := belowOver (B0.alloc B0.size _) (by simp) b1
            obtain ⟨hc, hf⟩ := bcell b1
            have hz : w.heap.size < w1.heap.size := by have := b1.size; simp at this; omega
            go_wp2_with fail
            refine (K4.out _ _ (by first | rfl | simp)).mono ?_
            rintro e w' ⟨rfl, rfl⟩
            go_wp2_with fail
            refine (K5.out _ _ (by first | rfl | simp)).mono ?_
            rintro e w' ⟨rfl, rfl⟩
            go_wp2
            go_ret
            exact ⟨ret_bool rfl, (B1.alloc B1.size _).alloc (by have := B1.size; simp; omega) _⟩)
theorem valid_any (l : Lab) (a : Option Addr) (n c : Nat) (w : World) (h : LabAt w a n c l) :
    Calls Tryz.prog 41 #[.agg #[.int .i64 l.u, .slice a n c, .int .i64 l.ap, .int .i64 l.d]] w fun e w' => e = .returned (.bool (validB l)) ∧ Below w.heap.size w w' := by
  obtain ⟨hi, hu, hp, hd⟩ := h
  exact valid_walk l.u l.ap l.d a n c w _ _ _ _ _ (Lib.hid fun W g hg => within_one 0 1000000000 l.u W g hg hu) (Lib.hid fun W hb => within_any 1 64 a n c l.af W (hi.over hb)) (Lib.hid fun W hb => ascending_any a n c l.af W (hi.over hb)) (Lib.hid fun W g hg => within_one 0 5 l.ap W g hg hp) (Lib.hid fun W g hg => within_one 0 15 l.d W g hg hd)
theorem bel2 {W W1 W2 : World} (h : Below W.heap.size W W1) (k : Below W1.heap.size W1 W2) : Below W.heap.size W W2 := belowOver h (Nat.le_refl _) k
set_option maxHeartbeats 1000000 in
theorem same_any (l m : Lab) (a : Option Addr) (n c : Nat) (a2 : Option Addr) (n2 c2 : Nat) (w : World) (h : LabAt w a n c l) (h2 : LabAt w a2 n2 c2 m) :
    Calls Tryz.prog 29 #[.agg #[.int .i64 l.u, .slice a n c, .int .i64 l.ap, .int .i64 l.d], .agg #[.int .i64 m.u, .slice a2 n2 c2, .int .i64 m.ap, .int .i64 m.d]] w fun e w' => e = .returned (.bool (sameB l m)) ∧ Below w.heap.size w w' := by
  have HS : Hid (sameB l m = (decide (l.u = m.u) && (eqB l.af m.af && (decide (l.ap = m.ap) && decide (l.d = m.d))))) := Lib.hid rfl
  have K := Lib.hid (fun W (hb : Below w.heap.size w W) => equal_any a n c l.af a2 n2 c2 m.af W (h.1.over hb) (h2.1.over hb))
  clear h h2
  have B0 : Below w.heap.size w ((w.alloc (.cells #[.int .i64 l.u, .slice a n c, .int .i64 l.ap, .int .i64 l.d] 26)).alloc (.cells #[.int .i64 m.u, .slice a2 n2 c2, .int .i64 m.ap, .int .i64 m.d] 26)) := (below_alloc _ _).alloc (by simp) _
  by_cases h1 : l.u = m.u
  · have g1 : (l.u == m.u) = true := by simp [h1]
    have H1 := Lib.hid h1
    clear h1
    cases h2 : eqB l.af m.af
    · rw [h2] at K HS
      clear h2
      go_enter Tryz.func29, Tryz.ntmps29
      go_wp2_with fail
      refine (K.out _ B0).mono ?_
      rintro e w1 ⟨rfl, b1⟩
      go_wp2
      go_ret
      exact ⟨ret_bool (by rw [HS.out]; simp), bel2 B0 b1⟩
    · rw [h2] at K HS
      clear h2
      by_cases h3 : l.ap = m.ap
      · have g3 : (l.ap == m.ap) = true := by simp [h3]
        have H3 := Lib.hid h3
        clear h3
        by_cases h4 : l.d = m.d
        · have g4 : (l.d == m.d) = true := by simp [h4]
          have H4 := Lib.hid h4
          clear h4
          go_enter Tryz.func29, Tryz.ntmps29
          go_wp2_with fail
          refine (K.out _ B0).mono ?_
          rintro e w1 ⟨rfl, b1⟩
          obtain ⟨hc, hf⟩ := bcell b1
          go_wp2
          go_ret
          exact ⟨ret_bool (by rw [HS.out, H1.out, H3.out, H4.out]; simp), bel2 B0 b1⟩
        · have g4 : (l.d == m.d) = false := by simp [h4]
          have H4 := Lib.hid h4
          clear h4
          go_enter Tryz.func29, Tryz.ntmps29
          go_wp2_with fail
          refine (K.out _ B0).mono ?_
          rintro e w1 ⟨rfl, b1⟩
          obtain ⟨hc, hf⟩ := bcell b1
          go_wp2
          go_ret
          exact ⟨ret_bool (by rw [HS.out]; simp [H4.out]), bel2 B0 b1⟩
      · have g3 : (l.ap == m.ap) = false := by simp [h3]
        have H3 := Lib.hid h3
        clear h3
        go_enter Tryz.func29, Tryz.ntmps29
        go_wp2_with fail
        refine (K.out _ B0).mono ?_
        rintro e w1 ⟨rfl, b1⟩
        obtain ⟨hc, hf⟩ := bcell b1
        go_wp2
        go_ret
        exact ⟨ret_bool (by rw [HS.out]; simp [H3.out]), bel2 B0 b1⟩
  · have g1 : (l.u == m.u) = false := by simp [h1]
    have H1 := Lib.hid h1
    clear h1
    go_enter Tryz.func29, Tryz.ntmps29
    go_wp2
    go_ret
    exact ⟨ret_bool (by rw [HS.out]; simp [H1.out]), B0⟩
theorem blockOver {W W' : World} {g : Nat} {ob : Obj} (hb : Below W.heap.size W W') (h : W.heap[g]? = some ob) : W'.heap[g]? = some ob := (hb.block g (Array.getElem?_eq_some_iff.1 h).1).trans h
theorem cells4 {W : World} {g : Nat} {a b c d : Value} {t : TypeId} {fr : Nat × Nat} (h : W.heap[g]? = some (.cells #[a, b, c, d] t fr)) : W.cell? ⟨g, 0, none⟩ = some a ∧ W.cell? ⟨g, 1, none⟩ = some b ∧ W.cell? ⟨g, 2, none⟩ = some c ∧ W.cell? ⟨g, 3, none⟩ = some d :=
  ⟨by rw [Joins.cell_of_block h]; rfl, by rw [Joins.cell_of_block h]; rfl, by rw [Joins.cell_of_block h]; rfl, by rw [Joins.cell_of_block h]; rfl⟩
theorem one_alloc (w : World) (o1 : Obj) : (w.alloc o1).heap[w.heap.size]? = some o1 ∧ Below w.heap.size w (w.alloc o1) := ⟨heap_alloc_new w o1, below_alloc w o1⟩
theorem two_allocs (w : World) (o1 o2 : Obj) : ((w.alloc o1).alloc o2).heap[w.heap.size]? = some o1 ∧ ((w.alloc o1).alloc o2).heap[w.heap.size + 1]? = some o2 ∧ Below w.heap.size w ((w.alloc o1).alloc o2) := by
  refine ⟨?_, ?_, (below_alloc _ _).alloc (by simp) _⟩
  · rw [Below.heap_alloc _ _ _ (by simp), heap_alloc_new]
  · have := heap_alloc_new (w.alloc o1) o2
    simpa using this
theorem nil_ints (w : World) : IsInts .i64 w none 0 0 [] := ⟨rfl, Nat.le_refl _, by unfold maxLen; omega, (fun z hz => by cases hz), .inl rfl⟩
theorem block_ints {w : World} {g : Nat} {t : TypeId} {fr : Nat × Nat} (zs : List Int) (hz : ∀ z ∈ zs, Bd z) (hl : zs.length ≤ 1000) (h : w.heap[g]? = some (.cells (zs.map (Value.int .i64)).toArray t fr)) : IsInts .i64 w (some ⟨g, 0, none⟩) zs.length zs.length zs := by
  refine ⟨rfl, Nat.le_refl _, by unfold maxLen; omega, fun z h => of_wf64 (hz z h), .inr ⟨g, 0, rfl, fun i hi => ?_⟩⟩
  rw [Joins.cell_of_block h]
  simp [List.getD, hi]

def headB (l : Lab) : Bool := decide ((0 ≤ l.u ∧ l.u ≤ 1000000000) ∧ (0 ≤ l.ap ∧ l.ap ≤ 5) ∧ (0 ≤ l.d ∧ l.d ≤ 15))
theorem refValid_no {l : Lab} (h : headB l = false) : validB l = false := by
  cases e : validB l
  · rfl
  · have k := (validB_iff l).1 e
    simp only [headB, decide_eq_false_iff_not] at h
    exact absurd ⟨k.1, k.2.2.2.1, k.2.2.2.2⟩ h
theorem refValid_at {l : Lab} {k : Nat} (hk : k < l.af.length) (h : l.af.getD k 0 ≤ (if k = 0 then 0 else l.af.getD (k - 1) 0) ∨ 64 < l.af.getD k 0) : validB l = false := by
  cases e : validB l
  · rfl
  · have v := (validB_iff l).1 e
    have h1 := v.2.1 _ (getD_mem hk)
    rcases h with h | h
    · by_cases k0 : k = 0
      · rw [if_pos k0] at h; omega
      · rw [if_neg k0] at h
        have := asc_at v.2.2.1 (show k - 1 < k by omega) hk
        omega
    · omega
theorem refValid_yes {l : Lab} (h : headB l = true) (hk : ∀ k, k < l.af.length → (if k = 0 then 0 else l.af.getD (k - 1) 0) < l.af.getD k 0 ∧ l.af.getD k 0 ≤ 64) : validB l = true := by
  simp only [headB, decide_eq_true_eq] at h
  rw [validB_iff]
  have lo : ∀ k, k < l.af.length → 1 ≤ l.af.getD k 0 := by
    intro k
    induction k with
    | zero => intro h0; have := (hk 0 h0).1; rw [if_pos rfl] at this; omega
    | succ k ih =>
      intro h1
      have a := ih (by omega)
      have b := (hk (k + 1) h1).1
      rw [if_neg (by omega), Nat.add_sub_cancel] at b
      omega
  refine ⟨h.1, all_of_getD (fun k h1 => ⟨lo k h1, (hk k h1).2⟩), asc_of (fun j h1 hj => ?_), h.2.1, h.2.2⟩
  have := (hk j hj).1
  rw [if_neg (by omega)] at this
  exact this
theorem refSame_at {l m : Lab} {k : Nat} (h : l.af.getD k 0 ≠ m.af.getD k 0) : sameB l m = false := by
  cases e : sameB l m
  · rfl
  · rw [sameB_iff] at e
    rw [e] at h
    exact absurd rfl h
theorem refSame_len {l m : Lab} (h : l.af.length ≠ m.af.length) : sameB l m = false := by
  cases e : sameB l m
  · rfl
  · rw [sameB_iff] at e
    rw [e] at h
    exact absurd rfl h
theorem refSame_end {l m : Lab} (h : l.af = m.af) : sameB l m = (decide (l.u = m.u) && (decide (l.ap = m.ap) && decide (l.d = m.d))) := by simp [sameB, h]
theorem same_lists {zs ys : List Int} (hl : zs.length = ys.length) (h : ∀ j, j < zs.length → zs.getD j 0 = ys.getD j 0) : zs = ys := by
  apply List.ext_getElem hl
  intro i h1 h2
  have := h i h1
  simpa [List.getD, h1, h2] using this
end Go.Proofs.YtlhcckjfgpcohaaGreatDoor
