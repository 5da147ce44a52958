import Derived.Test.YtlhcckjfgpcohaaGreatDoorLab
import Derived.Test.YtlhcckjfgpcohaaGreatDoorBlkP0
import Derived.Maps.Own
import Derived.Maps.OwnOps
import Derived.Deep.Cut
import Derived.Deep.CutRange
namespace Go.Proofs.YtlhcckjfgpcohaaGreatDoor
open Go.RowKit
set_option maxRecDepth 100000
set_option linter.unusedSimpArgs false
set_option linter.unusedVariables false
theorem decide_and' (p q : Prop) [Decidable p] [Decidable q] : (decide p && decide q) = decide (p ∧ q) := by simp
set_option maxHeartbeats 1000000 in
theorem binside_any (n lo hi : Int) (w : World) : Calls Tryz.prog 105 #[.int .i64 n, .int .i64 lo, .int .i64 hi] w fun e w' => e = .returned (.bool (inB n lo hi)) ∧ w = w' := by
  by_cases h1 : lo ≤ n <;> by_cases h2 : n ≤ hi
  all_goals
    go_enter Tryz.func105, Tryz.ntmps105
    go_wp2
    go_ret
    exact ⟨ret_bool (by simp [inB]; omega), rfl⟩
set_option maxHeartbeats 1000000 in
theorem print_any (c : UInt8) (w : World) : Calls Tryz.prog 120 #[.int .u8 (c.toNat : Int)] w fun e w' => e = .returned (.bool (prB c)) ∧ w = w' := by
  obtain ⟨x, hx⟩ : ∃ x, x = c.toNat := ⟨_, rfl⟩
  unfold prB
  rw [← hx]
  clear hx
  by_cases h1 : 32 ≤ x <;> by_cases h2 : x ≤ 126
  all_goals
    have g1 : (32 : Int) ≤ (x : Int) ↔ 32 ≤ x := by omega
    have g2 : (x : Int) ≤ 126 ↔ x ≤ 126 := by omega
    go_enter Tryz.func120, Tryz.ntmps120
    go_wp2
    go_ret
    exact ⟨ret_bool (by simp; omega), rfl⟩
set_option maxHeartbeats 1000000 in
theorem nsrc_any (st rf : Int) (w : World) : Calls Tryz.prog 109 #[.int .i64 st, .int .i64 rf] w fun e w' => e = .returned (.bool (noSrc st rf)) ∧ w = w' := by
  by_cases h1 : st = 0 <;> by_cases h2 : rf = 0
  all_goals
    have g1 : (st == 0) = decide (st = 0) := by simp [h1]
    have g2 : (rf == 0) = decide (rf = 0) := by simp [h2]
    go_enter Tryz.func109, Tryz.ntmps109
    go_wp2
    go_ret
    exact ⟨ret_bool (by simp [noSrc, h1, h2]), rfl⟩
set_option maxHeartbeats 1000000 in
theorem src_any (st rf : Int) (w : World) : Calls Tryz.prog 113 #[.int .i64 st, .int .i64 rf] w fun e w' => e = .returned (.bool (srcB st rf)) ∧ w = w' := by
  have HS := Lib.hid (show srcB st rf = (inB st 1 64 && inB rf 1 1000) from rfl)
  have K1 := Lib.hid (fun W => binside_any st 1 64 W)
  have K2 := Lib.hid (fun W => binside_any rf 1 1000 W)
  generalize inB st 1 64 = b1 at *
  generalize inB rf 1 1000 = b2 at *
  cases b1 <;> (
    go_enter Tryz.func113, Tryz.ntmps113
    go_wp2_with fail
    refine (K1.out _).mono ?_
    rintro e w' ⟨rfl, rfl⟩)
  · go_wp2
    go_ret
    exact ⟨ret_bool HS.out.symm, rfl⟩
  · go_wp2_with fail
    refine (K2.out _).mono ?_
    rintro e w' ⟨rfl, rfl⟩
    go_wp2
    go_ret
    exact ⟨ret_bool HS.out.symm, rfl⟩
set_option maxHeartbeats 1000000 in
theorem nmbyte_any (c : UInt8) (w : World) : Calls Tryz.prog 122 #[.int .u8 (c.toNat : Int)] w fun e w' => e = .returned (.bool (nmB c)) ∧ w = w' := by
  obtain ⟨x, hx⟩ : ∃ x, x = c.toNat := ⟨_, rfl⟩
  unfold nmB
  rw [← hx]
  clear hx
  by_cases h1 : 97 ≤ x <;> by_cases h2 : x ≤ 122 <;> by_cases h3 : 48 ≤ x <;> by_cases h4 : x ≤ 57 <;> by_cases h5 : x = 45
  all_goals try omega
  all_goals
    have g5 : ((x : Int) == 45) = decide (x = 45) := by first | (simp [h5]; done) | (simp [h5]; omega)
    go_enter Tryz.func122, Tryz.ntmps122
    go_wp2
    go_ret
    exact ⟨ret_bool (by first | (simp [h1, h2, h3, h4, h5]; done) | (simp [h1, h2, h3, h4, h5]; omega)), rfl⟩

/-- A function value of one argument that answers p of it and leaves the world as it is. -/
def PredP (g : Nat) (p : UInt8 → Bool) : Prop := ∀ (c : UInt8) (w : World), Calls Tryz.prog g #[.int .u8 (c.toNat : Int)] w fun e w' => e = .returned (.bool (p c)) ∧ w = w'
def prA (l : List UInt8) : Bool := l.all prB
def nmA (l : List UInt8) : Bool := l.all nmB
theorem byte_at (s : ByteArray) (k : Nat) (h : k < s.size) : s.data.toList[k]? = some s[k] := by
  simp [ByteArray.getElem_eq_getElem_data]
set_option maxHeartbeats 1000000 in
theorem consists_print (s : ByteArray) (w : World) (hs : s.size ≤ maxLen) :
    Calls Tryz.prog 119 #[.string s, .func (.func 120) #[] #[]] w fun e w' => e = .returned (.bool (prA s.data.toList)) ∧ w = w' := by
  unfold maxLen at hs
  go_enter Tryz.func119, Tryz.ntmps119
  go_wp2
  go_loop [8, 5] (fun i _ => ∃ k : Nat, k ≤ s.size ∧ i = .int .i64 k ∧ Hid (∀ j, (h : j < k) → (h2 : j < s.data.toList.length) → prB (s.data.toList[j]) = true)) (fun i _ => s.size - (intOf i).toNat)
  case atStart => exact ⟨0, Nat.zero_le _, rfl, Lib.hid (fun j hj => by omega)⟩
  case round =>
    obtain ⟨k, hk, rfl, hall⟩ := hrel
    by_cases hlt : k < s.size
    · have hx : s.data.toList[k]'(by simpa using hlt) = s[k] := by simp [ByteArray.getElem_eq_getElem_data]
      have HN : Hid (prB s[k] = false → (prA s.data.toList) = false) := Lib.hid (fun h => by
        first | unfold prA | unfold nmA
        rw [List.all_eq_false]
        exact ⟨s[k], by rw [← hx]; exact List.getElem_mem _, by simp [h]⟩)
      have HY : Hid (prB s[k] = true → ∀ j, (h : j < k + 1) → (h2 : j < s.data.toList.length) → prB (s.data.toList[j]) = true) := Lib.hid (fun h j hj h2 => by
        by_cases e : j = k
        · subst e; rw [hx]; exact h
        · exact hall.out j (by omega) h2)
      have K := Lib.hid (fun W => print_any s[k] W)
      clear hx
      generalize hb : prB s[k] = b at *
      clear hb
      cases b
      · go_wp2_with fail
        refine (K.out _).mono ?_
        rintro e w' ⟨rfl, rfl⟩
        go_wp2
        go_ret
        exact ⟨ret_bool (HN.out (by simp)).symm, rfl⟩
      · go_wp2_with fail
        refine (K.out _).mono ?_
        rintro e w' ⟨rfl, rfl⟩
        go_wp2
        go_round
        case rel => exact ⟨k + 1, by omega, by go_num, Lib.hid (HY.out (by simp))⟩
        case measure => simp [intOf]; omega
    · obtain rfl : k = s.size := by omega
      have HZ : Hid ((prA s.data.toList) = true) := Lib.hid (by
        first | unfold prA | unfold nmA
        rw [List.all_eq_true]
        intro x hx
        obtain ⟨j, hj, rfl⟩ := List.getElem_of_mem hx
        exact hall.out j (by simpa using hj) hj)
      go_wp2
      go_ret
      exact ⟨ret_bool HZ.out.symm, rfl⟩
set_option maxHeartbeats 1000000 in
theorem consists_name (s : ByteArray) (w : World) (hs : s.size ≤ maxLen) :
    Calls Tryz.prog 119 #[.string s, .func (.func 122) #[] #[]] w fun e w' => e = .returned (.bool (nmA s.data.toList)) ∧ w = w' := by
  unfold maxLen at hs
  go_enter Tryz.func119, Tryz.ntmps119
  go_wp2
  go_loop [8, 5] (fun i _ => ∃ k : Nat, k ≤ s.size ∧ i = .int .i64 k ∧ Hid (∀ j, (h : j < k) → (h2 : j < s.data.toList.length) → nmB (s.data.toList[j]) = true)) (fun i _ => s.size - (intOf i).toNat)
  case atStart => exact ⟨0, Nat.zero_le _, rfl, Lib.hid (fun j hj => by omega)⟩
  case round =>
    obtain ⟨k, hk, rfl, hall⟩ := hrel
    by_cases hlt : k < s.size
    · have hx : s.data.toList[k]'(by simpa using hlt) = s[k] := by simp [ByteArray.getElem_eq_getElem_data]
      have HN : Hid (nmB s[k] = false → (nmA s.data.toList) = false) := Lib.hid (fun h => by
        first | unfold prA | unfold nmA
        rw [List.all_eq_false]
        exact ⟨s[k], by rw [← hx]; exact List.getElem_mem _, by simp [h]⟩)
      have HY : Hid (nmB s[k] = true → ∀ j, (h : j < k + 1) → (h2 : j < s.data.toList.length) → nmB (s.data.toList[j]) = true) := Lib.hid (fun h j hj h2 => by
        by_cases e : j = k
        · subst e; rw [hx]; exact h
        · exact hall.out j (by omega) h2)
      have K := Lib.hid (fun W => nmbyte_any s[k] W)
      clear hx
      generalize hb : nmB s[k] = b at *
      clear hb
      cases b
      · go_wp2_with fail
        refine (K.out _).mono ?_
        rintro e w' ⟨rfl, rfl⟩
        go_wp2
        go_ret
        exact ⟨ret_bool (HN.out (by simp)).symm, rfl⟩
      · go_wp2_with fail
        refine (K.out _).mono ?_
        rintro e w' ⟨rfl, rfl⟩
        go_wp2
        go_round
        case rel => exact ⟨k + 1, by omega, by go_num, Lib.hid (HY.out (by simp))⟩
        case measure => simp [intOf]; omega
    · obtain rfl : k = s.size := by omega
      have HZ : Hid ((nmA s.data.toList) = true) := Lib.hid (by
        first | unfold prA | unfold nmA
        rw [List.all_eq_true]
        intro x hx
        obtain ⟨j, hj, rfl⟩ := List.getElem_of_mem hx
        exact hall.out j (by simpa using hj) hj)
      go_wp2
      go_ret
      exact ⟨ret_bool HZ.out.symm, rfl⟩

theorem slen (s : ByteArray) : s.data.toList.length = s.size := by simp
set_option maxHeartbeats 1000000 in
theorem text_any (s : ByteArray) (w : World) (hs : s.size ≤ maxLen) :
    Calls Tryz.prog 112 #[.string s] w fun e w' => e = .returned (.bool (textB s.data.toList)) ∧ w = w' := by
  have HS := Lib.hid (show textB s.data.toList = (decide (s.size ≤ 300) && prA s.data.toList) by rw [textB, slen]; rfl)
  have K := Lib.hid (fun W => consists_print s W hs)
  unfold maxLen at hs
  generalize prA s.data.toList = b at *
  by_cases h : s.size ≤ 300
  · go_enter Tryz.func112, Tryz.ntmps112
    go_wp2_with fail
    refine (K.out _).mono ?_
    rintro e w' ⟨rfl, rfl⟩
    go_wp2
    go_ret
    exact ⟨ret_bool (by rw [HS.out]; simp [h]), rfl⟩
  · go_enter Tryz.func112, Tryz.ntmps112
    go_wp2
    go_ret
    exact ⟨ret_bool (by rw [HS.out]; simp [h]), rfl⟩
set_option maxHeartbeats 1000000 in
theorem name_any (s : ByteArray) (w : World) (hs : s.size ≤ maxLen) :
    Calls Tryz.prog 115 #[.string s] w fun e w' => e = .returned (.bool (nameB s.data.toList)) ∧ w = w' := by
  have HS := Lib.hid (show nameB s.data.toList = (inB (s.size : Int) 1 20 && nmA s.data.toList) by rw [nameB, slen]; rfl)
  have K := Lib.hid (fun W => consists_name s W hs)
  have K2 := Lib.hid (fun W => binside_any (s.size : Int) 1 20 W)
  unfold maxLen at hs
  generalize nmA s.data.toList = b at *
  generalize inB (s.size : Int) 1 20 = b2 at *
  cases b2
  · go_enter Tryz.func115, Tryz.ntmps115
    go_wp2_with fail
    refine (K2.out _).mono ?_
    rintro e w' ⟨rfl, rfl⟩
    go_wp2
    go_ret
    exact ⟨ret_bool (by rw [HS.out]; simp), rfl⟩
  · go_enter Tryz.func115, Tryz.ntmps115
    go_wp2_with fail
    refine (K2.out _).mono ?_
    rintro e w' ⟨rfl, rfl⟩
    go_wp2_with fail
    refine (K.out _).mono ?_
    rintro e w' ⟨rfl, rfl⟩
    go_wp2
    go_ret
    exact ⟨ret_bool (by rw [HS.out]; simp), rfl⟩
set_option maxHeartbeats 1000000 in
theorem fill_any (s : ByteArray) (w : World) (hs : s.size ≤ maxLen) :
    Calls Tryz.prog 108 #[.string s] w fun e w' => e = .returned (.bool (fillB s.data.toList)) ∧ w = w' := by
  have HS := Lib.hid (show fillB s.data.toList = (decide (s.data.toList ≠ []) && textB s.data.toList) from rfl)
  have K := Lib.hid (fun W => text_any s W hs)
  unfold maxLen at hs
  generalize textB s.data.toList = b at *
  by_cases h : s.data.toList = []
  · have h1 : s.toList = [] := by rw [ByteArray.toList_eq]; exact h
    have HS2 := Lib.hid (show fillB s.data.toList = false by rw [HS.out, h]; rfl)
    clear h HS
    go_enter Tryz.func108, Tryz.ntmps108
    go_wp2
    go_ret
    exact ⟨ret_bool HS2.out.symm, rfl⟩
  · have h1 : ¬ s.toList = [] := by rw [ByteArray.toList_eq]; exact h
    have h2 : s.toList.isEmpty = false := by simpa using h1
    have HS2 := Lib.hid (show fillB s.data.toList = b by rw [HS.out]; simp [h])
    clear h HS
    go_enter Tryz.func108, Tryz.ntmps108
    go_wp2_with fail
    refine (K.out _).mono ?_
    rintro e w' ⟨rfl, rfl⟩
    go_wp2
    go_ret
    exact ⟨ret_bool (by rw [HS2.out]), rfl⟩
theorem unch_any (s : ByteArray) (w : World) : Calls Tryz.prog 110 #[.string s] w fun e w' => e = .returned (.string s) ∧ w = w' := by
  go_enter Tryz.func110, Tryz.ntmps110
  go_wp2
  go_ret
  exact ⟨rfl, rfl⟩
theorem between_any (a b : ByteArray) (w : World) : Calls Tryz.prog 114 #[.string a, .string b] w fun e w' => e = .returned (.func (.func 121) #[] #[.pointer (some ⟨w.heap.size, 0, none⟩), .pointer (some ⟨w.heap.size + 1, 0, none⟩)]) ∧ w' = (w.alloc (.cells #[.string a] 9)).alloc (.cells #[.string b] 9) := by
  go_enter Tryz.func114, Tryz.ntmps114
  go_wp2
  go_ret
  exact ⟨rfl, rfl⟩
theorem between1_any (a b s : ByteArray) (A B : Nat) (w : World) (ha : w.cell? ⟨A, 0, none⟩ = some (.string a)) (hb : w.cell? ⟨B, 0, none⟩ = some (.string b)) (hl : a.size + s.size + b.size ≤ maxLen) :
    Calls Tryz.prog 121 #[.string s, .pointer (some ⟨A, 0, none⟩), .pointer (some ⟨B, 0, none⟩)] w fun e w' => e = .returned (.string (a ++ s ++ b)) ∧ w' = w := by
  unfold maxLen at hl
  go_enter Tryz.func121, Tryz.ntmps121
  go_wp2
  go_ret
  exact ⟨rfl, rfl⟩
end Go.Proofs.YtlhcckjfgpcohaaGreatDoor
