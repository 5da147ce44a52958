/- The reference's test of where a sentence ends. -/
import Derived.Test.YtcapfjonkcekoaaDoorBlkQ
namespace Go.Proofs.YtcapfjonkcekoaaDoor
open Go.RowKit Go.MapKept
set_option maxRecDepth 100000
set_option linter.unusedSimpArgs false
set_option linter.unusedVariables false
theorem neB_int (b c : UInt8) : (((b.toNat : Nat) : Int) != (c.toNat : Int)) = !decide (b = c) := by rw [bne, u8_int b c]
def RefEnds (s : ByteArray) (i : Nat) (w : World) : Prop :=
  ∀ hi : i < s.size, Calls Tryd.prog 56 #[.string s, .int .i64 i] w fun e w' => e = .returned (.bool (enB (stt (s.data.toList.take i)) s[i] (s.data.toList.drop (i + 1)))) ∧ w = w'
set_option maxHeartbeats 2000000 in
/-- No mark. -/
theorem ends_none (s : ByteArray) (i : Nat) (w : World) (hi : i < s.size) (hs : s.size ≤ 1000000) (h : ¬ ((s[i] = 33 ∨ s[i] = 63) ∨ s[i] = 46)) :
    Calls Tryd.prog 56 #[.string s, .int .i64 i] w fun e w' => e = .returned (.bool (enB (stt (s.data.toList.take i)) s[i] (s.data.toList.drop (i + 1)))) ∧ w = w' := by
  have HR := Lib.hid (enB_no1 (c := stt (s.data.toList.take i)) (b := s[i]) (r := s.data.toList.drop (i + 1)) (fun q => h (q.imp id (·.1))))
  have a1 : (((s[i].toNat : Nat) : Int) != 46) = true := by have := neB_int s[i] 46; rw [show ((46 : UInt8).toNat : Int) = 46 from rfl] at this; rw [this]; simp; intro q; exact h (.inr q)
  have a2 : (((s[i].toNat : Nat) : Int) != 33) = true := by have := neB_int s[i] 33; rw [show ((33 : UInt8).toNat : Int) = 33 from rfl] at this; rw [this]; simp; intro q; exact h (.inl (.inl q))
  have a3 : (((s[i].toNat : Nat) : Int) != 63) = true := by have := neB_int s[i] 63; rw [show ((63 : UInt8).toNat : Int) = 63 from rfl] at this; rw [this]; simp; intro q; exact h (.inl (.inr q))
  have hii : (i : Int) < s.size := by omega
  clear h
  go_enter Tryd.func56, Tryd.ntmps56
  go_wp2
  go_ret
  exact ⟨ret_bool HR.out.symm, rfl⟩
/-- What the three tests of the mark give. -/
def MarkIs (b : UInt8) : Prop := ((((b.toNat : Nat) : Int) != 46) = false) ∨ ((((b.toNat : Nat) : Int) != 46) = true ∧ (((b.toNat : Nat) : Int) != 33) = false) ∨ ((((b.toNat : Nat) : Int) != 46) = true ∧ (((b.toNat : Nat) : Int) != 33) = true ∧ (((b.toNat : Nat) : Int) != 63) = false)
theorem mark_is {b : UInt8} (h : (b = 33 ∨ b = 63) ∨ b = 46) : MarkIs b := by
  rcases h with (rfl | rfl) | rfl
  · exact .inr (.inl ⟨rfl, rfl⟩)
  · exact .inr (.inr ⟨rfl, rfl, rfl⟩)
  · exact .inl rfl
set_option maxHeartbeats 2000000 in
/-- The byte behind is no space. -/
theorem ends_next (s : ByteArray) (i : Nat) (w : World) (hi : i + 1 < s.size) (hs : s.size ≤ 1000000) (h : (s[i] = 33 ∨ s[i] = 63) ∨ s[i] = 46) (hn : s[i + 1] ≠ 32) :
    Calls Tryd.prog 56 #[.string s, .int .i64 i] w fun e w' => e = .returned (.bool (enB (stt (s.data.toList.take i)) s[i] (s.data.toList.drop (i + 1)))) ∧ w = w' := by
  have hh : (s.data.toList.drop (i + 1)).head? = some s[i + 1] := by rw [head_drop, byte_at s (i + 1) hi]
  have HR := Lib.hid (enB_no2 (c := stt (s.data.toList.take i)) (b := s[i]) hh hn)
  have a4 : (((s[i + 1].toNat : Nat) : Int) != 32) = true := by have := neB_int s[i + 1] 32; rw [show ((32 : UInt8).toNat : Int) = 32 from rfl] at this; rw [this]; simp; exact hn
  have hii : (i : Int) < s.size := by omega
  have hii2 : (i : Int) + 1 < s.size := by omega
  have hw : IntKind.i64.wrap ((i : Int) + 1) = ((i + 1 : Nat) : Int) := by rw [IntWalk.i64_in _ (by omega)]; rfl
  have m := mark_is h
  clear h hn hh
  rcases m with a1 | ⟨a1, a2⟩ | ⟨a1, a2, a3⟩
  all_goals
    go_enter Tryd.func56, Tryd.ntmps56
    go_wp2
    go_ret
    exact ⟨ret_bool HR.out.symm, rfl⟩
/-- What region 3's test gives: no byte behind, or a space. -/
def BehindIs (s : ByteArray) (i : Nat) : Prop := s.size = i + 1 ∨ ∃ h : i + 1 < s.size, (((s[i + 1].toNat : Nat) : Int) != 32) = false
/-- What lies before, and what the test for an initial reads of it. -/
def BeforeIs (s : ByteArray) (i : Nat) (u : Bool) : Prop :=
  (i = 0 ∧ u = false) ∨ (∃ m, ∃ h : m < s.size, i = m + 1 ∧ ¬ (65 : Int) ≤ s[m].toNat ∧ u = false) ∨ (∃ m, ∃ h : m < s.size, i = m + 1 ∧ (65 : Int) ≤ s[m].toNat ∧ ¬ (s[m].toNat : Int) ≤ 90 ∧ u = false) ∨
  (∃ h : 0 < s.size, i = 1 ∧ (65 : Int) ≤ s[0].toNat ∧ (s[0].toNat : Int) ≤ 90 ∧ u = true) ∨
  (∃ m, ∃ h : m + 1 < s.size, i = m + 1 + 1 ∧ (65 : Int) ≤ s[m + 1].toNat ∧ (s[m + 1].toNat : Int) ≤ 90 ∧ ((s[m].toNat : Int) == 32) = u)
theorem before_is (s : ByteArray) (i : Nat) (hi : i < s.size) : BeforeIs s i (iniB (s.data.toList.take i)) := by
  cases i with
  | zero => exact .inl ⟨rfl, by rw [List.take_zero]; exact iniB_nil⟩
  | succ m =>
    have hm : m < s.size := by omega
    have HR : iniB (s.data.toList.take (m + 1)) = (decide (s.data.toList.take m = [] ∨ (s.data.toList.take m).getLast? = some 32) && upB s[m]) := by rw [take_snoc' s m hm, iniB_snoc]
    by_cases u1 : 65 ≤ s[m].toNat
    · by_cases u2 : s[m].toNat ≤ 90
      · have hu : upB s[m] = true := by unfold upB; exact decide_eq_true ⟨u1, u2⟩
        cases m with
        | zero => exact .inr (.inr (.inr (.inl ⟨hm, rfl, by omega, by omega, by rw [HR, hu]; simp⟩)))
        | succ j =>
          have hj : j < s.size := by omega
          have hne : ¬ s.data.toList.take (j + 1) = [] := by
            intro h
            have hl := congrArg List.length h
            rw [List.length_take, slen] at hl
            simp only [List.length_nil] at hl
            omega
          have hlast : (s.data.toList.take (j + 1)).getLast? = some s[j] := by rw [take_snoc' s j hj]; simp
          refine .inr (.inr (.inr (.inr ⟨j, hm, rfl, by omega, by omega, ?_⟩)))
          rw [HR, hu, hlast]
          have := u8_int s[j] 32
          rw [show ((32 : UInt8).toNat : Int) = 32 from rfl] at this
          rw [this]
          simp [hne]
      · refine .inr (.inr (.inl ⟨m, hm, rfl, by omega, by omega, ?_⟩))
        rw [HR]
        have : upB s[m] = false := by unfold upB; exact decide_eq_false (by omega)
        rw [this]; simp
    · refine .inr (.inl ⟨m, hm, rfl, by omega, ?_⟩)
      rw [HR]
      have : upB s[m] = false := by unfold upB; exact decide_eq_false (by omega)
      rw [this]; simp
set_option maxHeartbeats 8000000 in
/-- At the end or before a space. -/
theorem ends_last (s : ByteArray) (i : Nat) (w : World) (u v : Bool) (hi : i < s.size) (hs : s.size ≤ 1000000) (m : MarkIs s[i]) (hb : BehindIs s i) (hf : BeforeIs s i u) (hv : v = ((((s[i].toNat : Nat) : Int) != 46) || !u)) :
    Calls Tryd.prog 56 #[.string s, .int .i64 i] w fun e w' => e = .returned (.bool v) ∧ w = w' := by
  have HV := Lib.hid hv
  have hii : (i : Int) < s.size := by omega
  have hwi : IntKind.i64.wrap ((i : Int) + 1) = ((i + 1 : Nat) : Int) := by rw [IntWalk.i64_in _ (by omega)]; rfl
  clear hv
  rcases hf with ⟨rfl, rfl⟩ | ⟨k, hk, rfl, g1, rfl⟩ | ⟨k, hk, rfl, g1, g2, rfl⟩ | ⟨hk, rfl, g1, g2, rfl⟩ | ⟨k, hk, rfl, g1, g2, g3⟩
  · skip
    rcases hb with hb | ⟨hb1, hb⟩
    · have hbt : ¬ ((0 : Int) + 1 < s.size) := by omega
      clear hb
      rcases m with a1 | ⟨a1, a2⟩ | ⟨a1, a2, a3⟩
      all_goals
        go_enter Tryd.func56, Tryd.ntmps56
        go_wp2
        go_ret
        exact ⟨ret_bool (by rw [HV.out]; first | (simp [a1]; done) | (simp [a1]; omega)), rfl⟩
    · have hbt : ((0 : Int) + 1 < s.size) := by omega
      rcases m with a1 | ⟨a1, a2⟩ | ⟨a1, a2, a3⟩
      all_goals
        go_enter Tryd.func56, Tryd.ntmps56
        go_wp2
        go_ret
        exact ⟨ret_bool (by rw [HV.out]; first | (simp [a1]; done) | (simp [a1]; omega)), rfl⟩
  · have hm1 : ((k + 1 : Nat) : Int) - 1 = (k : Int) := by omega
    have hkk : (k : Int) < s.size := by omega
    rcases hb with hb | ⟨hb1, hb⟩
    · have hbt : ¬ (((k + 1 : Nat) : Int) + 1 < s.size) := by omega
      clear hb
      rcases m with a1 | ⟨a1, a2⟩ | ⟨a1, a2, a3⟩
      all_goals
        go_enter Tryd.func56, Tryd.ntmps56
        go_wp2
        go_ret
        exact ⟨ret_bool (by rw [HV.out]; first | (simp [a1]; done) | (simp [a1]; omega)), rfl⟩
    · have hbt : (((k + 1 : Nat) : Int) + 1 < s.size) := by omega
      rcases m with a1 | ⟨a1, a2⟩ | ⟨a1, a2, a3⟩
      all_goals
        go_enter Tryd.func56, Tryd.ntmps56
        go_wp2
        go_ret
        exact ⟨ret_bool (by rw [HV.out]; first | (simp [a1]; done) | (simp [a1]; omega)), rfl⟩
  · have hm1 : ((k + 1 : Nat) : Int) - 1 = (k : Int) := by omega
    have hkk : (k : Int) < s.size := by omega
    rcases hb with hb | ⟨hb1, hb⟩
    · have hbt : ¬ (((k + 1 : Nat) : Int) + 1 < s.size) := by omega
      clear hb
      rcases m with a1 | ⟨a1, a2⟩ | ⟨a1, a2, a3⟩
      all_goals
        go_enter Tryd.func56, Tryd.ntmps56
        go_wp2
        go_ret
        exact ⟨ret_bool (by rw [HV.out]; first | (simp [a1]; done) | (simp [a1]; omega)), rfl⟩
    · have hbt : (((k + 1 : Nat) : Int) + 1 < s.size) := by omega
      rcases m with a1 | ⟨a1, a2⟩ | ⟨a1, a2, a3⟩
      all_goals
        go_enter Tryd.func56, Tryd.ntmps56
        go_wp2
        go_ret
        exact ⟨ret_bool (by rw [HV.out]; first | (simp [a1]; done) | (simp [a1]; omega)), rfl⟩
  · skip
    rcases hb with hb | ⟨hb1, hb⟩
    · have hbt : ¬ ((1 : Int) + 1 < s.size) := by omega
      clear hb
      rcases m with a1 | ⟨a1, a2⟩ | ⟨a1, a2, a3⟩
      all_goals
        go_enter Tryd.func56, Tryd.ntmps56
        go_wp2
        go_ret
        exact ⟨ret_bool (by rw [HV.out]; first | (simp [a1]; done) | (simp [a1]; omega)), rfl⟩
    · have hbt : ((1 : Int) + 1 < s.size) := by omega
      rcases m with a1 | ⟨a1, a2⟩ | ⟨a1, a2, a3⟩
      all_goals
        go_enter Tryd.func56, Tryd.ntmps56
        go_wp2
        go_ret
        exact ⟨ret_bool (by rw [HV.out]; first | (simp [a1]; done) | (simp [a1]; omega)), rfl⟩
  · have hm1 : ((k + 1 + 1 : Nat) : Int) - 1 = ((k + 1 : Nat) : Int) := by omega
    have hm2 : ((k + 1 : Nat) : Int) - 1 = (k : Int) := by omega
    have hkk : (k : Int) < s.size := by omega
    have hkk1 : ((k + 1 : Nat) : Int) < s.size := by omega
    have e1 : (((k + 1 : Nat) : Int) == 0) = false := by simp; omega
    cases u
    all_goals
        rcases hb with hb | ⟨hb1, hb⟩
        · have hbt : ¬ (((k + 1 + 1 : Nat) : Int) + 1 < s.size) := by omega
          clear hb
          rcases m with a1 | ⟨a1, a2⟩ | ⟨a1, a2, a3⟩
          all_goals
            go_enter Tryd.func56, Tryd.ntmps56
            go_wp2
            go_ret
            exact ⟨ret_bool (by rw [HV.out]; first | (simp [a1]; done) | (simp [a1]; omega)), rfl⟩
        · have hbt : (((k + 1 + 1 : Nat) : Int) + 1 < s.size) := by omega
          rcases m with a1 | ⟨a1, a2⟩ | ⟨a1, a2, a3⟩
          all_goals
            go_enter Tryd.func56, Tryd.ntmps56
            go_wp2
            go_ret
            exact ⟨ret_bool (by rw [HV.out]; first | (simp [a1]; done) | (simp [a1]; omega)), rfl⟩
end Go.Proofs.YtcapfjonkcekoaaDoor
