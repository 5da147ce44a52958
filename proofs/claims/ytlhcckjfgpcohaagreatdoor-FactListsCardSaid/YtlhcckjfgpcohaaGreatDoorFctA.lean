/- Package fact: what its tests of bytes, names, texts and sources answer. -/
import Derived.Test.YtlhcckjfgpcohaaGreatDoorBlkW1
import Derived.Test.YtlhcckjfgpcohaaGreatDoorFactP
namespace Go.Proofs.YtlhcckjfgpcohaaGreatDoor
open Go.RowKit
set_option maxRecDepth 100000
set_option linter.unusedSimpArgs false
set_option linter.unusedVariables false
set_option maxHeartbeats 1000000 in
theorem inside5 (n lo hi : Int) (w : World) : Calls Tryz.prog 65 #[.int .i64 n, .int .i64 lo, .int .i64 hi] w fun e w' => e = .returned (.bool (inB n lo hi)) ∧ w = w' := by
  by_cases h1 : lo ≤ n <;> by_cases h2 : n ≤ hi
  all_goals
    go_enter Tryz.func65, Tryz.ntmps65
    go_wp2
    go_ret
    exact ⟨ret_bool (by simp [inB]; omega), rfl⟩
set_option maxHeartbeats 1000000 in
theorem print5 (c : UInt8) (w : World) : Calls Tryz.prog 87 #[.int .u8 (c.toNat : Int)] w fun e w' => e = .returned (.bool (prB c)) ∧ w = w' := by
  obtain ⟨x, hx⟩ : ∃ x, x = c.toNat := ⟨_, rfl⟩
  unfold prB
  rw [← hx]
  clear hx
  by_cases h1 : 32 ≤ x <;> by_cases h2 : x ≤ 126
  all_goals
    have g1 : (32 : Int) ≤ (x : Int) ↔ 32 ≤ x := by omega
    have g2 : (x : Int) ≤ 126 ↔ x ≤ 126 := by omega
    go_enter Tryz.func87, Tryz.ntmps87
    go_wp2
    go_ret
    exact ⟨ret_bool (by simp; omega), rfl⟩
set_option maxHeartbeats 1000000 in
theorem nmbyte5 (c : UInt8) (w : World) : Calls Tryz.prog 68 #[.int .u8 (c.toNat : Int)] w fun e w' => e = .returned (.bool (nmB c)) ∧ w = w' := by
  obtain ⟨x, hx⟩ : ∃ x, x = c.toNat := ⟨_, rfl⟩
  unfold nmB
  rw [← hx]
  clear hx
  by_cases h1 : 97 ≤ x <;> by_cases h2 : x ≤ 122 <;> by_cases h3 : 48 ≤ x <;> by_cases h4 : x ≤ 57 <;> by_cases h5 : x = 45
  all_goals try omega
  all_goals
    have g5 : ((x : Int) == 45) = decide (x = 45) := by first | (simp [h5]; done) | (simp [h5]; omega)
    go_enter Tryz.func68, Tryz.ntmps68
    go_wp2
    go_ret
    exact ⟨ret_bool (by first | (simp [h1, h2, h3, h4, h5]; done) | (simp [h1, h2, h3, h4, h5]; omega)), rfl⟩

set_option maxHeartbeats 1000000 in
theorem srcbyte5 (c : UInt8) (w : World) : Calls Tryz.prog 88 #[.int .u8 (c.toNat : Int)] w fun e w' => e = .returned (.bool (srcC c)) ∧ w = w' := by
  have K := Lib.hid (fun W => print5 c W)
  have HS := Lib.hid (show srcC c = (decide (c.toNat = 10) || prB c) from rfl)
  generalize prB c = b at *
  obtain ⟨x, hx⟩ : ∃ x, x = c.toNat := ⟨_, rfl⟩
  rw [← hx] at K HS ⊢
  clear hx
  by_cases h1 : x = 10
  · have g1 : ((x : Int) == 10) = true := by simp [h1]
    go_enter Tryz.func88, Tryz.ntmps88
    go_wp2
    go_ret
    exact ⟨ret_bool (by rw [HS.out]; simp [h1]), rfl⟩
  · have g1 : ((x : Int) == 10) = false := by simp; omega
    go_enter Tryz.func88, Tryz.ntmps88
    go_wp2_with fail
    refine (K.out _).mono ?_
    rintro e w' ⟨rfl, rfl⟩
    go_wp2
    go_ret
    exact ⟨ret_bool (by rw [HS.out]; simp [h1]), rfl⟩
def scA (l : List UInt8) : Bool := l.all srcC
set_option maxHeartbeats 1000000 in
theorem cons5print (s : ByteArray) (w : World) (hs : s.size ≤ maxLen) :
    Calls Tryz.prog 67 #[.string s, .func (.func 87) #[] #[]] w fun e w' => e = .returned (.bool (prA s.data.toList)) ∧ w = w' := by
  unfold maxLen at hs
  go_enter Tryz.func67, Tryz.ntmps67
  go_wp2
  go_loop [8, 5] (fun i _ => ∃ k : Nat, k ≤ s.size ∧ i = .int .i64 k ∧ Hid (∀ j, (h : j < k) → (h2 : j < s.data.toList.length) → prB (s.data.toList[j]) = true)) (fun i _ => s.size - (intOf i).toNat)
  case atStart => exact ⟨0, Nat.zero_le _, rfl, Lib.hid (fun j hj => by omega)⟩
  case round =>
    obtain ⟨k, hk, rfl, hall⟩ := hrel
    by_cases hlt : k < s.size
    · have hx : s.data.toList[k]'(by simpa using hlt) = s[k] := by simp [ByteArray.getElem_eq_getElem_data]
      have HN : Hid (prB s[k] = false → (prA s.data.toList) = false) := Lib.hid (fun h => by
        first | unfold prA | unfold nmA
        rw [List.all_eq_false]
        exact ⟨s[k], by rw [← hx]; exact List.getElem_mem _, by simp [h]⟩)
      have HY : Hid (prB s[k] = true → ∀ j, (h : j < k + 1) → (h2 : j < s.data.toList.length) → prB (s.data.toList[j]) = true) := Lib.hid (fun h j hj h2 => by
        by_cases e : j = k
        · subst e; rw [hx]; exact h
        · exact hall.out j (by omega) h2)
      have K := Lib.hid (fun W => print5 s[k] W)
      clear hx
      generalize hb : prB s[k] = b at *
      clear hb
      cases b
      · go_wp2_with fail
        refine (K.out _).mono ?_
        rintro e w' ⟨rfl, rfl⟩
        go_wp2
        go_ret
        exact ⟨ret_bool (HN.out (by simp)).symm, rfl⟩
      · go_wp2_with fail
        refine (K.out _).mono ?_
        rintro e w' ⟨rfl, rfl⟩
        go_wp2
        go_round
        case rel => exact ⟨k + 1, by omega, by go_num, Lib.hid (HY.out (by simp))⟩
        case measure => simp [intOf]; omega
    · obtain rfl : k = s.size := by omega
      have HZ : Hid ((prA s.data.toList) = true) := Lib.hid (by
        first | unfold prA | unfold nmA
        rw [List.all_eq_true]
        intro x hx
        obtain ⟨j, hj, rfl⟩ := List.getElem_of_mem hx
        exact hall.out j (by simpa using hj) hj)
      go_wp2
      go_ret
      exact ⟨ret_bool HZ.out.symm, rfl⟩
set_option maxHeartbeats 1000000 in
theorem cons5name (s : ByteArray) (w : World) (hs : s.size ≤ maxLen) :
    Calls Tryz.prog 67 #[.string s, .func (.func 68) #[] #[]] w fun e w' => e = .returned (.bool (nmA s.data.toList)) ∧ w = w' := by
  unfold maxLen at hs
  go_enter Tryz.func67, Tryz.ntmps67
  go_wp2
  go_loop [8, 5] (fun i _ => ∃ k : Nat, k ≤ s.size ∧ i = .int .i64 k ∧ Hid (∀ j, (h : j < k) → (h2 : j < s.data.toList.length) → nmB (s.data.toList[j]) = true)) (fun i _ => s.size - (intOf i).toNat)
  case atStart => exact ⟨0, Nat.zero_le _, rfl, Lib.hid (fun j hj => by omega)⟩
  case round =>
    obtain ⟨k, hk, rfl, hall⟩ := hrel
    by_cases hlt : k < s.size
    · have hx : s.data.toList[k]'(by simpa using hlt) = s[k] := by simp [ByteArray.getElem_eq_getElem_data]
      have HN : Hid (nmB s[k] = false → (nmA s.data.toList) = false) := Lib.hid (fun h => by
        first | unfold prA | unfold nmA
        rw [List.all_eq_false]
        exact ⟨s[k], by rw [← hx]; exact List.getElem_mem _, by simp [h]⟩)
      have HY : Hid (nmB s[k] = true → ∀ j, (h : j < k + 1) → (h2 : j < s.data.toList.length) → nmB (s.data.toList[j]) = true) := Lib.hid (fun h j hj h2 => by
        by_cases e : j = k
        · subst e; rw [hx]; exact h
        · exact hall.out j (by omega) h2)
      have K := Lib.hid (fun W => nmbyte5 s[k] W)
      clear hx
      generalize hb : nmB s[k] = b at *
      clear hb
      cases b
      · go_wp2_with fail
        refine (K.out _).mono ?_
        rintro e w' ⟨rfl, rfl⟩
        go_wp2
        go_ret
        exact ⟨ret_bool (HN.out (by simp)).symm, rfl⟩
      · go_wp2_with fail
        refine (K.out _).mono ?_
        rintro e w' ⟨rfl, rfl⟩
        go_wp2
        go_round
        case rel => exact ⟨k + 1, by omega, by go_num, Lib.hid (HY.out (by simp))⟩
        case measure => simp [intOf]; omega
    · obtain rfl : k = s.size := by omega
      have HZ : Hid ((nmA s.data.toList) = true) := Lib.hid (by
        first | unfold prA | unfold nmA
        rw [List.all_eq_true]
        intro x hx
        obtain ⟨j, hj, rfl⟩ := List.getElem_of_mem hx
        exact hall.out j (by simpa using hj) hj)
      go_wp2
      go_ret
      exact ⟨ret_bool HZ.out.symm, rfl⟩

set_option maxHeartbeats 1000000 in
theorem cons5src (s : ByteArray) (w : World) (hs : s.size ≤ maxLen) :
    Calls Tryz.prog 67 #[.string s, .func (.func 88) #[] #[]] w fun e w' => e = .returned (.bool (scA s.data.toList)) ∧ w = w' := by
  unfold maxLen at hs
  go_enter Tryz.func67, Tryz.ntmps67
  go_wp2
  go_loop [8, 5] (fun i _ => ∃ k : Nat, k ≤ s.size ∧ i = .int .i64 k ∧ Hid (∀ j, (h : j < k) → (h2 : j < s.data.toList.length) → srcC (s.data.toList[j]) = true)) (fun i _ => s.size - (intOf i).toNat)
  case atStart => exact ⟨0, Nat.zero_le _, rfl, Lib.hid (fun j hj => by omega)⟩
  case round =>
    obtain ⟨k, hk, rfl, hall⟩ := hrel
    by_cases hlt : k < s.size
    · have hx : s.data.toList[k]'(by simpa using hlt) = s[k] := by simp [ByteArray.getElem_eq_getElem_data]
      have HN : Hid (srcC s[k] = false → (scA s.data.toList) = false) := Lib.hid (fun h => by
        unfold scA
        rw [List.all_eq_false]
        exact ⟨s[k], by rw [← hx]; exact List.getElem_mem _, by simp [h]⟩)
      have HY : Hid (srcC s[k] = true → ∀ j, (h : j < k + 1) → (h2 : j < s.data.toList.length) → srcC (s.data.toList[j]) = true) := Lib.hid (fun h j hj h2 => by
        by_cases e : j = k
        · subst e; rw [hx]; exact h
        · exact hall.out j (by omega) h2)
      have K := Lib.hid (fun W => srcbyte5 s[k] W)
      clear hx
      generalize hb : srcC s[k] = b at *
      clear hb
      cases b
      · go_wp2_with fail
        refine (K.out _).mono ?_
        rintro e w' ⟨rfl, rfl⟩
        go_wp2
        go_ret
        exact ⟨ret_bool (HN.out (by simp)).symm, rfl⟩
      · go_wp2_with fail
        refine (K.out _).mono ?_
        rintro e w' ⟨rfl, rfl⟩
        go_wp2
        go_round
        case rel => exact ⟨k + 1, by omega, by go_num, Lib.hid (HY.out (by simp))⟩
        case measure => simp [intOf]; omega
    · obtain rfl : k = s.size := by omega
      have HZ : Hid ((scA s.data.toList) = true) := Lib.hid (by
        unfold scA
        rw [List.all_eq_true]
        intro x hx
        obtain ⟨j, hj, rfl⟩ := List.getElem_of_mem hx
        exact hall.out j (by simpa using hj) hj)
      go_wp2
      go_ret
      exact ⟨ret_bool HZ.out.symm, rfl⟩

set_option maxHeartbeats 1000000 in
theorem name5 (s : ByteArray) (w : World) (hs : s.size ≤ maxLen) :
    Calls Tryz.prog 37 #[.string s] w fun e w' => e = .returned (.bool (nameB s.data.toList)) ∧ w = w' := by
  have HS := Lib.hid (show nameB s.data.toList = (inB (s.size : Int) 1 20 && nmA s.data.toList) by rw [nameB, slen]; rfl)
  have K := Lib.hid (fun W => cons5name s W hs)
  have K2 := Lib.hid (fun W => inside5 (s.size : Int) 1 20 W)
  unfold maxLen at hs
  generalize nmA s.data.toList = b at *
  generalize inB (s.size : Int) 1 20 = b2 at *
  cases b2
  · go_enter Tryz.func37, Tryz.ntmps37
    go_wp2_with fail
    refine (K2.out _).mono ?_
    rintro e w' ⟨rfl, rfl⟩
    go_wp2
    go_ret
    exact ⟨ret_bool (by rw [HS.out]; simp), rfl⟩
  · go_enter Tryz.func37, Tryz.ntmps37
    go_wp2_with fail
    refine (K2.out _).mono ?_
    rintro e w' ⟨rfl, rfl⟩
    go_wp2_with fail
    refine (K.out _).mono ?_
    rintro e w' ⟨rfl, rfl⟩
    go_wp2
    go_ret
    exact ⟨ret_bool (by rw [HS.out]; simp), rfl⟩
set_option maxHeartbeats 1000000 in
theorem full5 (s : ByteArray) (w : World) (hs : s.size ≤ maxLen) :
    Calls Tryz.prog 51 #[.string s] w fun e w' => e = .returned (.bool (fullT s.data.toList)) ∧ w = w' := by
  have HS := Lib.hid (show fullT s.data.toList = (inB (s.size : Int) 1 300 && prA s.data.toList) by rw [fullT, slen]; rfl)
  have K := Lib.hid (fun W => cons5print s W hs)
  have K2 := Lib.hid (fun W => inside5 (s.size : Int) 1 300 W)
  unfold maxLen at hs
  generalize prA s.data.toList = b at *
  generalize inB (s.size : Int) 1 300 = b2 at *
  cases b2
  · go_enter Tryz.func51, Tryz.ntmps51
    go_wp2_with fail
    refine (K2.out _).mono ?_
    rintro e w' ⟨rfl, rfl⟩
    go_wp2
    go_ret
    exact ⟨ret_bool (by rw [HS.out]; simp), rfl⟩
  · go_enter Tryz.func51, Tryz.ntmps51
    go_wp2_with fail
    refine (K2.out _).mono ?_
    rintro e w' ⟨rfl, rfl⟩
    go_wp2_with fail
    refine (K.out _).mono ?_
    rintro e w' ⟨rfl, rfl⟩
    go_wp2
    go_ret
    exact ⟨ret_bool (by rw [HS.out]; simp), rfl⟩
set_option maxHeartbeats 1000000 in
theorem source5 (s : ByteArray) (w : World) (hs : s.size ≤ maxLen) :
    Calls Tryz.prog 52 #[.string s] w fun e w' => e = .returned (.bool (srcT s.data.toList)) ∧ w = w' := by
  have HS := Lib.hid (show srcT s.data.toList = (decide (s.size ≤ 1000) && scA s.data.toList) by rw [srcT, slen]; rfl)
  have K := Lib.hid (fun W => cons5src s W hs)
  unfold maxLen at hs
  generalize scA s.data.toList = b at *
  by_cases h : s.size ≤ 1000
  · go_enter Tryz.func52, Tryz.ntmps52
    go_wp2_with fail
    refine (K.out _).mono ?_
    rintro e w' ⟨rfl, rfl⟩
    go_wp2
    go_ret
    exact ⟨ret_bool (by rw [HS.out]; simp [h]), rfl⟩
  · go_enter Tryz.func52, Tryz.ntmps52
    go_wp2
    go_ret
    exact ⟨ret_bool (by rw [HS.out]; simp [h]), rfl⟩
end Go.Proofs.YtlhcckjfgpcohaaGreatDoor
