/- The reference's tests of a text and of a name. -/
import Derived.Test.YtdhioalfgogcdaaGreatDoorBlkVL
import Derived.Test.YtdhioalfgogcdaaGreatDoorBlkO
namespace Go.Proofs.YtdhioalfgogcdaaGreatDoor
open Go.RowKit Go.MapKept
set_option maxRecDepth 100000
set_option linter.unusedSimpArgs false
set_option linter.unusedVariables false
theorem prA_no {s : ByteArray} {k : Nat} (h : k < s.size) (hb : prB s[k] = false) : s.data.toList.all prB = false := by
  rw [List.all_eq_false]
  exact ⟨s[k], List.mem_of_getElem? (byte_at s k h), by rw [hb]; decide⟩
theorem all_of {s : ByteArray} {p : UInt8 → Bool} (h : ∀ j, (hj : j < s.size) → p s[j] = true) : s.data.toList.all p = true := by
  rw [List.all_eq_true]
  intro x hx
  obtain ⟨j, hj, rfl⟩ := List.getElem_of_mem hx
  rw [slen] at hj
  have := byte_at s j hj
  rw [List.getElem?_eq_getElem (by rw [slen]; exact hj)] at this
  rw [Option.some.inj this]
  exact h j hj
theorem all_no {s : ByteArray} {p : UInt8 → Bool} {k : Nat} (h : k < s.size) (hb : p s[k] = false) : s.data.toList.all p = false := by
  rw [List.all_eq_false]
  exact ⟨s[k], List.mem_of_getElem? (byte_at s k h), by rw [hb]; decide⟩
set_option maxHeartbeats 4000000 in
theorem istext_any (s : ByteArray) (w : World) (hs : s.size ≤ maxLen) :
    Calls Tryz.prog 77 #[.string s] w fun x w' => x = .returned (.bool (textB s.data.toList)) ∧ w = w' := by
  unfold maxLen at hs
  have HB := Lib.hid (show textB s.data.toList = (decide (s.size ≤ 300) && s.data.toList.all prB) by unfold textB; rw [slen])
  go_enter Tryz.func77, Tryz.ntmps77
  go_wp2
  go_loop [3] (fun i => ∃ k : Nat, k ≤ s.size ∧ i = .int .i64 k ∧ Hid (∀ j, (hj : j < s.size) → j < k → prB s[j] = true)) (fun i => s.size - (intOf i).toNat)
  case atStart => exact ⟨0, Nat.zero_le _, rfl, Lib.hid (fun j _ hj => by omega)⟩
  case round =>
    obtain ⟨k, hk, rfl, hall⟩ := hrel
    by_cases hlt : k < s.size
    · have hlt' : (k : Int) < s.size := by omega
      by_cases h1 : 32 ≤ s[k].toNat
      · by_cases h2 : s[k].toNat ≤ 126
        · have HP := Lib.hid (show prB s[k] = true by unfold prB; exact decide_eq_true ⟨h1, h2⟩)
          have g1 : ¬ (s[k].toNat : Int) < 32 := by omega
          have g2 : ¬ (126 : Int) < s[k].toNat := by omega
          clear h1 h2
          go_wp2
          go_round
          case rel => exact ⟨k + 1, by omega, by go_num, Lib.hid (fun j hj hjk => by
            by_cases e : j = k
            · subst e; exact HP.out
            · exact hall.out j hj (by omega))⟩
          case measure => simp [intOf]; omega
        · have HN := Lib.hid (all_no (s := s) (p := prB) hlt (by unfold prB; exact decide_eq_false (by omega)))
          have g1 : ¬ (s[k].toNat : Int) < 32 := by omega
          have g2 : (126 : Int) < s[k].toNat := by omega
          clear h1 h2
          go_wp2
          go_ret
          exact ⟨ret_bool (by rw [HB.out, HN.out, Bool.and_false]), rfl⟩
      · have HN := Lib.hid (all_no (s := s) (p := prB) hlt (by unfold prB; exact decide_eq_false (by omega)))
        have g1 : (s[k].toNat : Int) < 32 := by omega
        clear h1
        go_wp2
        go_ret
        exact ⟨ret_bool (by rw [HB.out, HN.out, Bool.and_false]), rfl⟩
    · obtain rfl : k = s.size := by omega
      have HA := Lib.hid (all_of (s := s) (p := prB) (fun j hj => hall.out j hj hj))
      by_cases h3 : s.size ≤ 300
      · have h3' : (s.size : Int) ≤ 300 := by omega
        go_wp2
        go_ret
        exact ⟨ret_bool (by rw [HB.out, HA.out]; simp [h3]), rfl⟩
      · have h3' : ¬ (s.size : Int) ≤ 300 := by omega
        go_wp2
        go_ret
        exact ⟨ret_bool (by rw [HB.out, HA.out]; simp [h3]), rfl⟩
set_option maxHeartbeats 16000000 in
theorem isname_any (s : ByteArray) (w : World) (hs : s.size ≤ maxLen) :
    Calls Tryz.prog 79 #[.string s] w fun x w' => x = .returned (.bool (nameB s.data.toList)) ∧ w = w' := by
  unfold maxLen at hs
  have HB := Lib.hid (show nameB s.data.toList = (inB (s.size : Int) 1 20 && s.data.toList.all nmB) by unfold nameB; rw [slen])
  go_enter Tryz.func79, Tryz.ntmps79
  go_wp2
  go_loop [3] (fun i => ∃ k : Nat, k ≤ s.size ∧ i = .int .i64 k ∧ Hid (∀ j, (hj : j < s.size) → j < k → nmB s[j] = true)) (fun i => s.size - (intOf i).toNat)
  case atStart => exact ⟨0, Nat.zero_le _, rfl, Lib.hid (fun j _ hj => by omega)⟩
  case round =>
    obtain ⟨k, hk, rfl, hall⟩ := hrel
    by_cases hlt : k < s.size
    · have hlt' : (k : Int) < s.size := by omega
      have HE := Lib.hid (show nmB s[k] = (decide (97 ≤ s[k].toNat ∧ s[k].toNat ≤ 122) || (decide (48 ≤ s[k].toNat ∧ s[k].toNat ≤ 57) || decide (s[k].toNat = 45))) from rfl)
      have HN := Lib.hid (fun h => all_no (s := s) (p := nmB) hlt h)
      have HY : Hid (nmB s[k] = true → ∀ j, (hj : j < s.size) → j < k + 1 → nmB s[j] = true) := Lib.hid (fun h j hj hjk => by
        by_cases e : j = k
        · subst e; exact h
        · exact hall.out j hj (by omega))
      generalize nmB s[k] = nb at *
      by_cases h1 : 97 ≤ s[k].toNat <;> by_cases h2 : s[k].toNat ≤ 122 <;> by_cases h3 : 48 ≤ s[k].toNat <;> by_cases h4 : s[k].toNat ≤ 57 <;> by_cases h5 : s[k].toNat = 45
      all_goals try omega
      all_goals
        have g5 : (((s[k].toNat : Nat) : Int) == 45) = decide (s[k].toNat = 45) := by first | (simp [h5]; done) | (simp [h5]; omega)
        go_wp2
        all_goals first
          | (go_ret
             exact ⟨ret_bool (by rw [HB.out, HN.out (by rw [HE.out]; first | (simp [h1, h2, h3, h4, h5]; done) | (simp; omega)), Bool.and_false]), rfl⟩)
          | (exfalso; rename_i q; simp at q; omega)
          | (go_round
             case rel => exact ⟨k + 1, by omega, by go_num, Lib.hid (HY.out (by rw [HE.out]; first | (simp [h1, h2, h3, h4, h5]; done) | (simp; omega)))⟩
             case measure => simp [intOf]; omega)
    · obtain rfl : k = s.size := by omega
      have HA := Lib.hid (all_of (s := s) (p := nmB) (fun j hj => hall.out j hj hj))
      by_cases h3 : s.size ≤ 20
      · by_cases h4 : 1 ≤ s.size
        · have h3' : (s.size : Int) ≤ 20 := by omega
          have h4' : (1 : Int) ≤ s.size := by omega
          go_wp2
          go_ret
          exact ⟨ret_bool (by rw [HB.out, HA.out]; simp [inB]; omega), rfl⟩
        · have h4' : ¬ (1 : Int) ≤ s.size := by omega
          go_wp2
          go_ret
          exact ⟨ret_bool (by rw [HB.out, HA.out]; simp [inB]; omega), rfl⟩
      · have h3' : ¬ (s.size : Int) ≤ 20 := by omega
        have h4' : (1 : Int) ≤ s.size := by omega
        go_wp2
        go_ret
        exact ⟨ret_bool (by rw [HB.out, HA.out]; simp [inB]; omega), rfl⟩
end Go.Proofs.YtdhioalfgogcdaaGreatDoor
