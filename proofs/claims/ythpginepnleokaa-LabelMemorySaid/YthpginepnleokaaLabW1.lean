/- Walks of the small functions over lists of integers. -/
import Derived.Test.YthpginepnleokaaProg
import Derived.Test.YthpginepnleokaaLabP
import Derived.Test.YthpginepnleokaaIns
import Derived.WalkKit
import Derived.Below
import Derived.Carry
import Derived.Lib.Hide
import Derived.Deep.QuietTactic
import Derived.BigQuiet
import Derived.Laws.BitsAllLaws
import Derived.IntWalk
namespace Go.Proofs.Ythpginepnleokaa
open Go.RowKit
theorem ret_int {k : IntKind} {a b : Int} (h : a = b) : Ending.returned (.int k a) = .returned (.int k b) := by rw [h]
theorem ret_bool {a b : Bool} (h : a = b) : Ending.returned (.bool a) = .returned (.bool b) := by rw [h]
theorem wf64 {n : Int} (h : (Lit.int .i64 n).wf = true) : -9223372036854775808 ≤ n ∧ n ≤ 9223372036854775807 := by
  simp [Lit.wf, IntKind.min, IntKind.max, IntKind.signed, IntKind.bits] at h
  omega
theorem of_wf64 {n : Int} (h : -9223372036854775808 ≤ n ∧ n ≤ 9223372036854775807) : (Lit.int .i64 n).wf = true := by
  simp [Lit.wf, IntKind.min, IntKind.max, IntKind.signed, IntKind.bits]
  omega
theorem cellOver {W W' : World} {p : Addr} {v : Value} (hb : Below W.heap.size W W') (h : W.cell? p = some v) : W'.cell? p = some v := by
  exact (hb.cell (World.block_lt_of_cell? W p h)).trans h
theorem belowOver {B : Nat} {W W1 W2 : World} (h : Below B W W1) (hB : B ≤ W.heap.size) (k : Below W1.heap.size W1 W2) : Below B W W2 := h.trans (k.mono (Nat.le_trans hB h.size))
theorem IsInts.over {k : IntKind} {W W' : World} {a : Option Addr} {n c : Nat} {zs : List Int} (hb : Below W.heap.size W W') (h : IsInts k W a n c zs) : IsInts k W' a n c zs := by
  obtain ⟨h1, h2, h3, h4, h5⟩ := h
  refine ⟨h1, h2, h3, h4, h5.imp id ?_⟩
  rintro ⟨b, off, rfl, hc⟩
  exact ⟨b, off, rfl, fun i hi => cellOver hb (hc i hi)⟩
theorem below_drewN {B : Nat} {a w : World} (h : Below B a w) (n : Nat) : Below B a (w.drewN n) := ⟨h.os, h.tape, h.output, h.size, h.block⟩
theorem IsInts.drew {k : IntKind} {W : World} {a : Option Addr} {n c : Nat} {zs : List Int} (h : IsInts k W a n c zs) : IsInts k W.drew a n c zs := h
theorem IsInts.bd {W : World} {a : Option Addr} {n c : Nat} {zs : List Int} (h : IsInts .i64 W a n c zs) {i : Nat} (hi : i < n) : -9223372036854775808 ≤ zs.getD i 0 ∧ zs.getD i 0 ≤ 9223372036854775807 := by
  have h1 : i < zs.length := by rw [h.1]; exact hi
  have h2 : zs.getD i 0 ∈ zs := by simp [List.getD, h1]
  exact wf64 (h.2.2.2.1 _ h2)
theorem getD_mem {zs : List Int} {i : Nat} (h : i < zs.length) : zs.getD i 0 ∈ zs := by simp [List.getD, h]
/-- What holds of every place holds of every member. -/
theorem all_of_getD {p : Int → Prop} {zs : List Int} (h : ∀ i, i < zs.length → p (zs.getD i 0)) : ∀ z ∈ zs, p z := by
  intro z hz
  obtain ⟨i, hi, rfl⟩ := List.getElem_of_mem hz
  have := h i hi
  simpa [List.getD, hi] using this
theorem withinB_no {lo hi : Int} {zs : List Int} {i : Nat} (h : i < zs.length) (hn : ¬ (lo ≤ zs.getD i 0 ∧ zs.getD i 0 ≤ hi)) : withinB lo hi zs = false := by
  cases e : withinB lo hi zs
  · rfl
  · exact absurd ((withinB_iff lo hi zs).1 e _ (getD_mem h)) hn
theorem withinB_yes {lo hi : Int} {zs : List Int} (h : ∀ i, i < zs.length → lo ≤ zs.getD i 0 ∧ zs.getD i 0 ≤ hi) : withinB lo hi zs = true := (withinB_iff lo hi zs).2 (all_of_getD h)
set_option maxHeartbeats 1000000 in
theorem within_any (lo hi : Int) (a : Option Addr) (n c : Nat) (zs : List Int) (w : World) (h : IsInts .i64 w a n c zs) :
    Calls Try.prog 28 #[.int .i64 lo, .int .i64 hi, .slice a n c] w fun e w' => e = .returned (.bool (withinB lo hi zs)) ∧ w = w' := by
  have hb := fun {i : Nat} (hi : i < n) => h.bd hi
  obtain ⟨hl, hca, hcm, hw, ha⟩ := h
  unfold maxLen at hcm
  have HL := Lib.hid hl
  have HA := Lib.hid ha
  have HB : Hid (∀ i, i < n → -9223372036854775808 ≤ zs.getD i 0 ∧ zs.getD i 0 ≤ 9223372036854775807) := Lib.hid (fun i hi => hb hi)
  clear hl ha hb hw
  go_enter Try.func28, Try.ntmps28
  go_wp2
  go_loop [11, 8] (fun i _ => ∃ k : Nat, k ≤ n ∧ i = .int .i64 k ∧ Hid (∀ j, j < k → lo ≤ zs.getD j 0 ∧ zs.getD j 0 ≤ hi)) (fun i _ => n - (intOf i).toNat)
  case atStart => exact ⟨0, Nat.zero_le _, rfl, Lib.hid (fun j hj => by omega)⟩
  case round =>
    obtain ⟨k, hk, rfl, hall⟩ := hrel
    by_cases hlt : k < n
    · obtain ⟨b, off, rfl, cz⟩ := HA.out.resolve_left (by omega)
      have hcell := cz k hlt
      have hbd := HB.out k hlt
      have HZ := Lib.hid (withinB_no (lo := lo) (hi := hi) (zs := zs) (i := k) (by rw [HL.out]; exact hlt))
      have HS : Hid ((lo ≤ zs.getD k 0 ∧ zs.getD k 0 ≤ hi) → ∀ j, j < k + 1 → lo ≤ zs.getD j 0 ∧ zs.getD j 0 ≤ hi) := Lib.hid (fun hz j hj => by
        by_cases e : j = k
        · rw [e]; exact hz
        · exact hall.out j (by omega))
      clear cz
      generalize zs.getD k 0 = z at *
      by_cases h1 : z < lo
      · go_wp2
        go_ret
        exact ⟨ret_bool (HZ.out (by omega)).symm, rfl⟩
      · by_cases h2 : hi < z
        · go_wp2
          go_ret
          exact ⟨ret_bool (HZ.out (by omega)).symm, rfl⟩
        · go_wp2
          go_round
          case rel => exact ⟨k + 1, by omega, by go_num, Lib.hid (HS.out (by omega))⟩
          case measure => simp [intOf]; omega
    · obtain rfl : k = n := by omega
      have HZ := Lib.hid (withinB_yes (lo := lo) (hi := hi) (zs := zs) (fun i hi => hall.out i (by rw [← HL.out]; exact hi)))
      go_wp2
      go_ret
      exact ⟨ret_bool HZ.out.symm, rfl⟩
end Go.Proofs.Ythpginepnleokaa
