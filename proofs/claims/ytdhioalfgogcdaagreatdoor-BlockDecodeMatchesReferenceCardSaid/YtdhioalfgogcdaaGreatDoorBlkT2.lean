import Derived.Test.YtdhioalfgogcdaaGreatDoorBlkT1
namespace Go.Proofs.YtdhioalfgogcdaaGreatDoor
open Go.RowKit Go.MapKept
set_option maxRecDepth 100000
set_option linter.unusedSimpArgs false
set_option linter.unusedVariables false
def stt (l : List UInt8) : Nat := l.foldl nxt 0
theorem stt_snoc (l : List UInt8) (b : UInt8) : stt (l ++ [b]) = nxt (stt l) b := by simp [stt]
theorem nxt_zero (c : Nat) (b : UInt8) : nxt c b = 0 ↔ b = 32 := by
  unfold nxt
  by_cases h : b = 32
  · simp [h]
  · rw [if_neg h]; split <;> simp [h]
theorem nxt_one (c : Nat) (b : UInt8) : nxt c b = 1 ↔ c = 0 ∧ upB b = true := by
  unfold nxt
  by_cases h : b = 32
  · subst h; simp [upB]
  · rw [if_neg h]
    by_cases h2 : c = 0 ∧ upB b = true
    · rw [if_pos h2]; simp [h2]
    · rw [if_neg h2]; simp; intro h3; simpa [h3] using h2
theorem stt_zero (l : List UInt8) : stt l = 0 ↔ l = [] ∨ l.getLast? = some 32 := by
  rcases List.eq_nil_or_concat l with rfl | ⟨m, b, rfl⟩
  · simp [stt]
  · rw [List.concat_eq_append, stt_snoc, nxt_zero]; simp
/-- What followsInitial looks at. -/
def iniB (l : List UInt8) : Bool := decide (stt l = 1)
theorem iniB_nil : iniB [] = false := by simp [iniB, stt]
theorem iniB_snoc (l : List UInt8) (b : UInt8) : iniB (l ++ [b]) = (decide (l = [] ∨ l.getLast? = some 32) && upB b) := by
  unfold iniB
  rw [stt_snoc, Bool.eq_iff_iff, decide_eq_true_eq, nxt_one, stt_zero]
  simp
theorem take_snoc' (s : ByteArray) (m : Nat) (h : m < s.size) : s.data.toList.take (m + 1) = s.data.toList.take m ++ [s[m]] := by
  rw [List.take_succ_eq_append_getElem (by simpa using h)]
  simp [ByteArray.getElem_eq_getElem_data]
set_option maxHeartbeats 1000000 in
theorem ini_any (s : ByteArray) (i : Nat) (w : World) (hs : s.size ≤ maxLen) (hi : i < s.size) :
    Calls Tryz.prog 50 #[.string s, .int .i64 i] w fun e w' => e = .returned (.bool (iniB (s.data.toList.take i))) ∧ w = w' := by
  unfold maxLen at hs
  cases i with
  | zero =>
    have HR := Lib.hid (show iniB (s.data.toList.take 0) = false by rw [List.take_zero]; exact iniB_nil)
    go_enter Tryz.func50, Tryz.ntmps50
    go_wp2
    go_ret
    exact ⟨ret_bool HR.out.symm, rfl⟩
  | succ m =>
    have hm : m < s.size := by omega
    have hm1 : ((m + 1 : Nat) : Int) - 1 = (m : Int) := by omega
    have h1 : (1 : Int) ≤ ((m + 1 : Nat) : Int) := by omega
    have HR := Lib.hid (show iniB (s.data.toList.take (m + 1)) = (decide (s.data.toList.take m = [] ∨ (s.data.toList.take m).getLast? = some 32) && upB s[m]) by rw [take_snoc' s m hm, iniB_snoc])
    by_cases hu : 65 ≤ s[m].toNat ∧ s[m].toNat ≤ 90
    · have HU := Lib.hid (show upB s[m] = true by unfold upB; exact decide_eq_true hu)
      obtain ⟨u1, u2⟩ := hu
      have g1 : (65 : Int) ≤ s[m].toNat := by omega
      have g2 : (s[m].toNat : Int) ≤ 90 := by omega
      cases m with
      | zero =>
        have HZ := Lib.hid (show iniB (s.data.toList.take (0 + 1)) = true by rw [HR.out, HU.out]; simp)
        have e1 : (((0 + 1 : Nat) : Int) == 1) = true := rfl
        clear u1 u2
        go_enter Tryz.func50, Tryz.ntmps50
        go_wp2
        go_ret
        exact ⟨ret_bool HZ.out.symm, rfl⟩
      | succ j =>
        have hj : j < s.size := by omega
        have hj1 : ((j + 1 + 1 : Nat) : Int) - 2 = (j : Int) := by omega
        have e1 : (((j + 1 + 1 : Nat) : Int) == 1) = false := by simp; omega
        have hne : ¬ s.data.toList.take (j + 1) = [] := by
          intro h
          have hl := congrArg List.length h
          rw [List.length_take, slen] at hl
          simp only [List.length_nil] at hl
          omega
        have hlast : (s.data.toList.take (j + 1)).getLast? = some s[j] := by rw [take_snoc' s j hj]; simp
        have HZ : Hid (iniB (s.data.toList.take (j + 1 + 1)) = decide (s[j] = 32)) := Lib.hid (by
          rw [HR.out, HU.out, hlast]
          simp [hne])
        by_cases hb : s[j] = 32
        · have g3 : ((s[j].toNat : Int) == 32) = true := by rw [hb]; rfl
          have HQ := Lib.hid (show iniB (s.data.toList.take (j + 1 + 1)) = true by rw [HZ.out]; simp [hb])
          clear u1 u2 hne hlast hb
          go_enter Tryz.func50, Tryz.ntmps50
          go_wp2
          go_ret
          exact ⟨ret_bool HQ.out.symm, rfl⟩
        · have g3 : ((s[j].toNat : Int) == 32) = false := by
            have := u8_int s[j] 32
            rw [show ((32 : UInt8).toNat : Int) = 32 from rfl] at this
            rw [this]; simp [hb]
          have HQ := Lib.hid (show iniB (s.data.toList.take (j + 1 + 1)) = false by rw [HZ.out]; simp [hb])
          clear u1 u2 hne hlast hb
          go_enter Tryz.func50, Tryz.ntmps50
          go_wp2
          go_ret
          exact ⟨ret_bool HQ.out.symm, rfl⟩
    · have HQ := Lib.hid (show iniB (s.data.toList.take (m + 1)) = false by
        rw [HR.out]; simp; intro _; unfold upB; exact decide_eq_false hu)
      by_cases u1 : 65 ≤ s[m].toNat
      · have g1 : (65 : Int) ≤ s[m].toNat := by omega
        have g2 : ¬ (s[m].toNat : Int) ≤ 90 := by omega
        clear hu u1
        go_enter Tryz.func50, Tryz.ntmps50
        go_wp2
        go_ret
        exact ⟨ret_bool HQ.out.symm, rfl⟩
      · have g1 : ¬ (65 : Int) ≤ s[m].toNat := by omega
        clear hu u1
        go_enter Tryz.func50, Tryz.ntmps50
        go_wp2
        go_ret
        exact ⟨ret_bool HQ.out.symm, rfl⟩
end Go.Proofs.YtdhioalfgogcdaaGreatDoor
