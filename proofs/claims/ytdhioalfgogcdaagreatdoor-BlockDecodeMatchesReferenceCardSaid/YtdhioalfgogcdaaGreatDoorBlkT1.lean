import Derived.Test.YtdhioalfgogcdaaGreatDoorBlkW1
import Derived.Test.YtdhioalfgogcdaaGreatDoorSentP
import Derived.Deep.RegionHeld3
namespace Go.Proofs.YtdhioalfgogcdaaGreatDoor
open Go.RowKit Go.MapKept
set_option maxRecDepth 100000
set_option linter.unusedSimpArgs false
set_option linter.unusedVariables false
theorem calls_below {f : Nat} {args : Array Value} {w : World} {v : Ending} (h : Calls Tryz.prog f args w fun e w' => e = v ∧ w = w') : Calls Tryz.prog f args w fun e w' => e = v ∧ Below w.heap.size w w' :=
  h.mono fun e w' ⟨h1, h2⟩ => ⟨h1, h2 ▸ Below.refl _ _⟩
theorem bytes_mk (s : ByteArray) : s = ⟨s.data.toList.toArray⟩ := by cases s; simp
theorem u8_int (b c : UInt8) : ((b.toNat : Int) == (c.toNat : Int)) = decide (b = c) := by
  by_cases h : b = c
  · subst h; simp
  · have : b.toNat ≠ c.toNat := fun e => h (UInt8.toNat_inj.1 e)
    simp [h]; omega
theorem get_at (s : ByteArray) (k : Nat) (h : k < s.size) : s.data.toList[k]? = some s[k] := by simp [ByteArray.getElem_eq_getElem_data]
theorem triL_cons (l : List UInt8) : triL (32 :: l) = triL l := by unfold triL; rw [List.dropWhile_cons]; simp
set_option maxHeartbeats 1000000 in
theorem trimL_any (s : ByteArray) (w : World) (hs : s.size ≤ maxLen) :
    Calls Tryz.prog 51 #[.string s, .int .u8 32] w fun e w' => e = .returned (.string ⟨(triL s.data.toList).toArray⟩) ∧ w = w' := by
  unfold maxLen at hs
  go_enter Tryz.func51, Tryz.ntmps51
  go_wp2
  go_loop [0] (fun v => ∃ t : ByteArray, v = .string t ∧ t.size ≤ s.size ∧ Hid (triL t.data.toList = triL s.data.toList)) (fun v => match v with | .string t => t.size | _ => 0)
  case atStart => exact ⟨s, rfl, Nat.le_refl _, Lib.hid rfl⟩
  case round =>
    obtain ⟨t, rfl, hle, ht⟩ := hrel
    by_cases h0 : 0 < t.size
    · have hx := get_at t 0 h0
      have h0' : (0 : Int) < t.size := by omega
      have hcons : t.data.toList = t[0] :: t.data.toList.drop 1 := by
        have := List.drop_eq_getElem_cons (l := t.data.toList) (i := 0) (by simpa using h0)
        simpa [ByteArray.getElem_eq_getElem_data] using this
      by_cases hb : t[0] = 32
      · have e1 : ((t[0].toNat : Int) == 32) = true := by rw [hb]; rfl
        have hlt : 1 ≤ t.size := h0
        have HT : Hid (triL (t.extract 1 t.size).data.toList = triL s.data.toList) := Lib.hid (by
          have hx2 : (t.extract 1 t.size).data.toList = t.data.toList.drop 1 := by
            rw [extract_toList]; apply List.take_of_length_le; simp
          rw [← ht.out, hx2]
          conv => rhs; rw [hcons, hb, triL_cons])
        have hsz : (t.extract 1 t.size).size = t.size - 1 := by simp
        clear hx hcons hb
        go_wp2
        go_round
        case rel => exact ⟨_, rfl, by rw [hsz]; omega, HT⟩
        case measure => simp; omega
      · have e1 : ((t[0].toNat : Int) == 32) = false := by
          have := u8_int t[0] 32
          rw [show ((32 : UInt8).toNat : Int) = 32 from rfl] at this
          rw [this]; simp [hb]
        have HT : Hid (t = ⟨(triL s.data.toList).toArray⟩) := Lib.hid (by
          rw [← ht.out, hcons, triL_head (by simp [hb]), ← hcons])
        clear hx hcons hb
        go_wp2
        go_ret
        exact ⟨by rw [← HT.out]; rfl, rfl⟩
    · have h0' : (t.size : Int) = 0 := by omega
      have HT : Hid (t = ⟨(triL s.data.toList).toArray⟩) := Lib.hid (by
        have hz : t.data.toList = [] := by
          apply List.length_eq_zero_iff.1
          have := slen t; omega
        rw [← ht.out, hz]
        exact bytes_ext (by rw [hz]; rfl))
      go_wp2
      go_ret
      exact ⟨by rw [← HT.out]; rfl, rfl⟩
set_option maxHeartbeats 1000000 in
theorem trimR_any (s : ByteArray) (w : World) (hs : s.size ≤ maxLen) :
    Calls Tryz.prog 52 #[.string s, .int .u8 32] w fun e w' => e = .returned (.string ⟨(triR s.data.toList).toArray⟩) ∧ w = w' := by
  unfold maxLen at hs
  go_enter Tryz.func52, Tryz.ntmps52
  go_wp2
  go_loop [0] (fun v => ∃ t : ByteArray, v = .string t ∧ t.size ≤ s.size ∧ Hid (triR t.data.toList = triR s.data.toList)) (fun v => match v with | .string t => t.size | _ => 0)
  case atStart => exact ⟨s, rfl, Nat.le_refl _, Lib.hid rfl⟩
  case round =>
    obtain ⟨t, rfl, hle, ht⟩ := hrel
    by_cases h0 : 0 < t.size
    · obtain ⟨m, hm⟩ : ∃ m, t.size = m + 1 := ⟨t.size - 1, by omega⟩
      have hmt : m < t.size := by omega
      have h0' : (0 : Int) < t.size := by omega
      have hi : (t.size : Int) - 1 = (m : Int) := by omega
      have hcons : t.data.toList = t.data.toList.take m ++ [t[m]] := by
        have h1 := List.take_append_drop m t.data.toList
        have h2 := List.drop_eq_getElem_cons (l := t.data.toList) (i := m) (by simpa using hmt)
        rw [h2, List.drop_of_length_le (by rw [slen]; omega)] at h1
        simpa [ByteArray.getElem_eq_getElem_data] using h1.symm
      by_cases hb : t[m] = 32
      · have e1 : ((t[m].toNat : Int) == 32) = true := by rw [hb]; rfl
        have HT : Hid (triR (t.extract 0 m).data.toList = triR s.data.toList) := Lib.hid (by
          rw [← ht.out]
          conv => rhs; rw [hcons]
          rw [triR_snoc, if_pos hb, extract_toList]
          simp)
        have hsz : (t.extract 0 m).size = m := by simp; omega
        clear hcons hb
        go_wp2
        go_round
        case rel => exact ⟨_, rfl, by rw [hsz]; omega, HT⟩
        case measure => simp; omega
      · have e1 : ((t[m].toNat : Int) == 32) = false := by
          have := u8_int t[m] 32
          rw [show ((32 : UInt8).toNat : Int) = 32 from rfl] at this
          rw [this]; simp [hb]
        have HT : Hid (t = ⟨(triR s.data.toList).toArray⟩) := Lib.hid (by
          rw [← ht.out, hcons, triR_snoc, if_neg hb, ← hcons])
        clear hcons hb
        go_wp2
        go_ret
        exact ⟨by rw [← HT.out]; rfl, rfl⟩
    · have h0' : (t.size : Int) = 0 := by omega
      have HT : Hid (t = ⟨(triR s.data.toList).toArray⟩) := Lib.hid (by
        have hz : t.data.toList = [] := by
          apply List.length_eq_zero_iff.1
          have := slen t; omega
        rw [← ht.out, hz]
        exact bytes_ext (by rw [hz]; rfl))
      go_wp2
      go_ret
      exact ⟨by rw [← HT.out]; rfl, rfl⟩
set_option maxHeartbeats 2000000 in
theorem trim_any (s : ByteArray) (w : World) (hs : s.size ≤ maxLen) :
    Calls Tryz.prog 25 #[.string s, .string ⟨#[32]⟩] w fun e w' => e = .returned (.string ⟨(tri s.data.toList).toArray⟩) ∧ Below w.heap.size w w' := by
  have hr : (⟨(triR s.data.toList).toArray⟩ : ByteArray).size ≤ maxLen := by
    have h1 : (triR s.data.toList).length ≤ s.data.toList.length := by
      unfold triR
      rw [List.length_reverse]
      exact Nat.le_trans (List.dropWhile_sublist _).length_le (by simp)
    rw [slen] at h1
    have h2 : (⟨(triR s.data.toList).toArray⟩ : ByteArray).size = (triR s.data.toList).length := by simp [ByteArray.size]
    omega
  have KR := Lib.hid (fun W => trimR_any s W hs)
  have KL := Lib.hid (fun W => trimL_any ⟨(triR s.data.toList).toArray⟩ W hr)
  have HE := Lib.hid (show tri s.data.toList = triL (triR s.data.toList) from rfl)
  have HN := Lib.hid (fun (h : s.data.toList = []) => show tri s.data.toList = [] by rw [h]; rfl)
  clear hr
  simp only [show (⟨(triR s.data.toList).toArray⟩ : ByteArray).data.toList = triR s.data.toList from rfl] at KL
  rw [← HE.out] at KL
  clear HE
  generalize tri s.data.toList = r at *
  generalize triR s.data.toList = q at *
  unfold maxLen at hs
  by_cases h : s.data.toList = []
  · have h1 : s.toList = [] := by rw [ByteArray.toList_eq]; exact h
    have hsz : s = ⟨r.toArray⟩ := by rw [HN.out h]; exact bytes_ext (by rw [h])
    have HZ := Lib.hid hsz
    clear h hsz HN
    go_enter Tryz.func25, Tryz.ntmps25
    go_wp2
    go_ret
    exact ⟨by rw [← HZ.out]; rfl, Below.refl _ _⟩
  · have h1 : ¬ s.toList = [] := by rw [ByteArray.toList_eq]; exact h
    have h2 : s.toList.isEmpty = false := by simpa using h1
    have h3 : (⟨#[32]⟩ : ByteArray).toList = [32] := by rw [ByteArray.toList_eq]
    clear h HN
    go_enter Tryz.func25, Tryz.ntmps25
    go_wp2_with fail
    have bc := Below.refl w.heap.size w
    refine wp_region_held_drew (S := fun w' => Below w.heap.size w w' ∧ True) (by kernel_rfl) ?_ (fun h0 => ?_)
    · exact ⟨bc.drew, trivial⟩
    refine wpAnyH_take (i := 0) (v := ?_) rfl (by kernel_rfl) (by kernel_rfl) (by kernel_rfl) (fun _ _ _ h => h) (Or.inl ⟨by rfl, ?_⟩) h0 ?_
    rotate_left
    · (intro w hSw; (try dsimp only at hSw); go_simp); all_goals (with_reducible rfl)
    try simp only [List.getElem_toArray, List.getElem_cons_succ, List.getElem_cons_zero, Act.put, List.setIfInBounds_toArray, List.set_cons_zero, List.set_cons_succ]
    refine wpAnyH_take (i := 1) (v := ?_) rfl (by kernel_rfl) (by kernel_rfl) (by kernel_rfl) (fun _ _ _ h => h) (Or.inl ⟨by rfl, ?_⟩) h0 ?_
    rotate_left
    · (intro w hSw; (try dsimp only at hSw); go_simp); all_goals (with_reducible rfl)
    try simp only [List.getElem_toArray, List.getElem_cons_succ, List.getElem_cons_zero, Act.put, List.setIfInBounds_toArray, List.set_cons_zero, List.set_cons_succ]
    refine wpAnyH_take (i := 2) (v := ?_) rfl (by kernel_rfl) (by kernel_rfl) (by kernel_rfl) (fun _ _ _ h => h) (Or.inl ⟨by rfl, ?_⟩) h0 ?_
    rotate_left
    · (intro w hSw; (try dsimp only at hSw); go_simp); all_goals (with_reducible rfl)
    try simp only [List.getElem_toArray, List.getElem_cons_succ, List.getElem_cons_zero, Act.put, List.setIfInBounds_toArray, List.set_cons_zero, List.set_cons_succ]
    refine wpAnyH_take (i := 4) (v := ?_) rfl (by kernel_rfl) (by kernel_rfl) (by kernel_rfl) (fun _ _ _ h => h) (Or.inl ⟨by rfl, ?_⟩) h0 ?_
    rotate_left
    · (intro w hSw; (try dsimp only at hSw); go_simp); all_goals (with_reducible rfl)
    try simp only [List.getElem_toArray, List.getElem_cons_succ, List.getElem_cons_zero, Act.put, List.setIfInBounds_toArray, List.set_cons_zero, List.set_cons_succ]
    refine wpAnyH_take (i := 5) (v := ?_) rfl (by kernel_rfl) (by kernel_rfl) (by kernel_rfl) (fun _ _ _ h => h) (Or.inl ⟨by rfl, ?_⟩) h0 ?_
    rotate_left
    · (intro w hSw; (try dsimp only at hSw); go_simp); all_goals (with_reducible rfl)
    try simp only [List.getElem_toArray, List.getElem_cons_succ, List.getElem_cons_zero, Act.put, List.setIfInBounds_toArray, List.set_cons_zero, List.set_cons_succ]
    refine wpAnyH_ready (rs := [3]) (by kernel_rfl) (by simp) ?_
    refine AllReadyH.cons rfl (fun K hK => ?_) AllReadyH.nil
    go_simp
    go_at_call 52
    refine (calls_below (KR.out _)).mono ?_
    rintro e wq0 ⟨rfl, bq⟩
    go_wp2_with fail
    have bX := bel2 h0.1 bq
    refine hK.out _ _ ?_ (fun h1 => ?_)
    · exact ⟨bX, trivial⟩
    clear hK K h0 bX bq
    try simp only [List.getElem_toArray, List.getElem_cons_succ, List.getElem_cons_zero, Act.put, List.setIfInBounds_toArray, List.set_cons_zero, List.set_cons_succ]
    refine wpAnyH_ready (rs := [6]) (by kernel_rfl) (by simp) ?_
    refine AllReadyH.cons rfl (fun K hK => ?_) AllReadyH.nil
    go_simp
    go_at_call 51
    refine (calls_below (KL.out _)).mono ?_
    rintro e wq1 ⟨rfl, bq⟩
    go_wp2_with fail
    have bX := bel2 h1.1 bq
    refine hK.out _ _ ?_ (fun h2 => ?_)
    · exact ⟨bX, trivial⟩
    clear hK K h1 bX bq
    try simp only [List.getElem_toArray, List.getElem_cons_succ, List.getElem_cons_zero, Act.put, List.setIfInBounds_toArray, List.set_cons_zero, List.set_cons_succ]
    refine wpAnyH_take (i := 7) (v := ?_) rfl (by kernel_rfl) (by kernel_rfl) (by kernel_rfl) (fun _ _ _ h => h) (Or.inl ⟨by rfl, ?_⟩) h2 ?_
    rotate_left
    · (intro w hSw; (try dsimp only at hSw); go_simp); all_goals (with_reducible rfl)
    try simp only [List.getElem_toArray, List.getElem_cons_succ, List.getElem_cons_zero, Act.put, List.setIfInBounds_toArray, List.set_cons_zero, List.set_cons_succ]
    refine wpAnyH_done (by kernel_rfl) ?_ _
    have bz := Lib.hid h2.1
    clear h2
    go_wp2
    go_ret
    exact ⟨rfl, bz.out⟩
end Go.Proofs.YtdhioalfgogcdaaGreatDoor
