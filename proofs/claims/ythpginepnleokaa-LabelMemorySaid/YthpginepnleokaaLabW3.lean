/- contains: of two ascending lists, whether the one holds the other. -/
import Derived.Test.YthpginepnleokaaLabW2
namespace Go.Proofs.Ythpginepnleokaa
open Go.RowKit
theorem insB_no {zs out : List Int} {i : Nat} (h : i < zs.length) (hn : ∀ j, j < out.length → out.getD j 0 ≠ zs.getD i 0) : insB zs out = false := all_no h (contains_no hn)
theorem insB_yes {zs out : List Int} (h : ∀ i, i < zs.length → hasB out (zs.getD i 0) = true) : insB zs out = true := all_yes h
set_option maxHeartbeats 2000000 in
theorem sub_any (a : Option Addr) (n c : Nat) (ys : List Int) (a2 : Option Addr) (n2 c2 : Nat) (zs : List Int) (w : World) (h : IsInts .i64 w a n c ys) (h2 : IsInts .i64 w a2 n2 c2 zs) (hy : ys.Pairwise (· < ·)) (hz : zs.Pairwise (· < ·)) :
    Calls Try.prog 31 #[.slice a n c, .slice a2 n2 c2] w fun e w' => e = .returned (.bool (insB zs ys)) ∧ w = w' := by
  obtain ⟨hl, hca, hcm, hw, ha⟩ := h
  obtain ⟨gl, gca, gcm, gw, ga⟩ := h2
  unfold maxLen at hcm gcm
  have HL := Lib.hid hl
  have HA := Lib.hid ha
  have GL := Lib.hid gl
  have GA := Lib.hid ga
  have HZ := Lib.hid hz
  have HY := Lib.hid hy
  clear hl ha hw gl ga gw hz hy
  go_enter Try.func31, Try.ntmps31
  go_wp2
  go_step3
  go_wp2
  go_step3
  go_wp2
  go_loopg [5, 11, 7, 8] n2 (fun g p i _ _ wr => ∃ k q : Nat, k + g = n2 ∧ q ≤ n ∧ i = .int .i64 k ∧ p = .int .i64 q ∧ Hid ((∀ j, j < k → hasB ys (zs.getD j 0) = true) ∧ ∀ i, i < q → ∀ j, k ≤ j → j < n2 → ys.getD i 0 ≠ zs.getD j 0) ∧ w = wr)
  case atStart => exact ⟨0, 0, by omega, Nat.zero_le _, rfl, rfl, Lib.hid ⟨fun j hj => by omega, fun i hi => by omega⟩, rfl⟩
  case round =>
    obtain ⟨k, q, hkg, hq, rfl, rfl, hinv, rfl⟩ := hrel
    cases gk with
    | zero =>
      have hk : k = n2 := by omega
      have HR : Hid (insB zs ys = true) := Lib.hid (insB_yes fun i hi => hinv.out.1 i (by rw [GL.out] at hi; omega))
      have hnlt : ¬ ((k : Int) < (n2 : Int)) := by omega
      clear hk
      go_wp2
      (try rw [Exit.noGoto_ret])
      go_ret
      exact ⟨ret_bool HR.out.symm, rfl⟩
    | succ g =>
      have hlt : (k : Int) < (n2 : Int) := by omega
      obtain ⟨b2, off2, rfl, cz2⟩ := GA.out.resolve_left (by omega)
      have hcell2 := cz2 k (by omega)
      have HC2 := Lib.hid cz2
      clear cz2
      obtain ⟨z, hzk⟩ : ∃ z, zs.getD k 0 = z := ⟨_, rfl⟩
      rw [hzk] at hcell2
      have HZK := Lib.hid hzk
      clear hzk
      go_wp2
      go_loopg [5, 8] (n - q) (fun g2 p _ wr => ∃ q2 : Nat, q2 + g2 = n ∧ p = .int .i64 q2 ∧ Hid (∀ i, i < q2 → ys.getD i 0 ≠ z) ∧ w = wr)
      case atStart => exact ⟨q, by omega, rfl, Lib.hid fun i hi => by rw [← HZK.out]; exact hinv.out.2 i hi k (Nat.le_refl _) (by omega), rfl⟩
      case round =>
        obtain ⟨q2, hq2, rfl, hne, rfl⟩ := hrel
        cases gk with
        | zero =>
          have hnlt : ¬ ((q2 : Int) < (n : Int)) := by omega
          have HR : Hid (insB zs ys = false) := Lib.hid (insB_no (i := k) (by rw [GL.out]; omega) fun j hj => by rw [HZK.out]; exact hne.out j (by rw [HL.out] at hj; omega))
          go_wp2
          (try rw [Exit.noGoto_ret])
          go_ret
          exact ⟨ret_bool HR.out.symm, rfl⟩
        | succ g2 =>
          have hlt2 : (q2 : Int) < (n : Int) := by omega
          obtain ⟨b, off, rfl, cz⟩ := HA.out.resolve_left (by omega)
          have hcell := cz q2 (by omega)
          clear cz
          obtain ⟨y, hyk⟩ : ∃ y, ys.getD q2 0 = y := ⟨_, rfl⟩
          rw [hyk] at hcell
          have HYK := Lib.hid hyk
          clear hyk
          by_cases e : y = z
          · have E := Lib.hid e
            have e1 : (y == z) = true := by simp [e]
            clear e
            go_wp2
            go_roundg g
            case measure => omega
            case rel =>
              refine ⟨k + 1, q2 + 1, by omega, by omega, by go_num, by go_num, Lib.hid ⟨fun j hj => ?_, fun i hi j hj hj2 => ?_⟩, rfl⟩
              · by_cases ej : j = k
                · rw [ej, HZK.out, ← E.out, ← HYK.out, hasB_iff]
                  exact getD_mem (by rw [HL.out]; omega)
                · exact hinv.out.1 j (by omega)
              · have h1 : zs.getD k 0 < zs.getD j 0 := asc_at HZ.out (by omega) (by rw [GL.out]; omega)
                rw [HZK.out, ← E.out, ← HYK.out] at h1
                by_cases ei : i = q2
                · rw [ei]; omega
                · have h2 : ys.getD i 0 < ys.getD q2 0 := asc_at HY.out (by omega) (by rw [HL.out]; omega)
                  omega
          · have E := Lib.hid e
            have e1 : (y == z) = false := by simp [e]
            clear e
            go_wp2
            go_roundg g2
            case measure => omega
            case rel =>
              refine ⟨q2 + 1, by omega, by go_num, Lib.hid fun i hi => ?_, rfl⟩
              by_cases ei : i = q2
              · rw [ei, HYK.out]; exact E.out
              · exact hne.out i (by omega)
end Go.Proofs.Ythpginepnleokaa
