/- The reference's dividing of a text. -/
import Derived.Test.YtcapfjonkcekoaaDoorRefEnds
import Derived.Test.YtcapfjonkcekoaaDoorRefTrim
namespace Go.Proofs.YtcapfjonkcekoaaDoor
open Go.RowKit Go.MapKept
set_option maxRecDepth 100000
set_option linter.unusedSimpArgs false
set_option linter.unusedVariables false
theorem ends_any (s : ByteArray) (i : Nat) (w : World) (hi : i < s.size) (hs : s.size ≤ 1000000) :
    Calls Tryd.prog 56 #[.string s, .int .i64 i] w fun e w' => e = .returned (.bool (enB (stt (s.data.toList.take i)) s[i] (s.data.toList.drop (i + 1)))) ∧ w = w' := by
  by_cases h : (s[i] = 33 ∨ s[i] = 63) ∨ s[i] = 46
  · by_cases hn : ∃ hx : i + 1 < s.size, s[i + 1] ≠ 32
    · obtain ⟨hx, hn⟩ := hn
      exact ends_next s i w hx hs h hn
    · have hr : s.data.toList.drop (i + 1) = [] ∨ (s.data.toList.drop (i + 1)).head? = some 32 := by
        by_cases hx : i + 1 < s.size
        · refine .inr ?_
          rw [head_drop, byte_at s (i + 1) hx]
          congr 1
          exact Classical.byContradiction fun q => hn ⟨hx, q⟩
        · refine .inl (List.drop_eq_nil_iff.2 (by rw [slen]; omega))
      have hb : BehindIs s i := by
        by_cases hx : i + 1 < s.size
        · have : s[i + 1] = 32 := Classical.byContradiction fun q => hn ⟨hx, q⟩
          exact .inr ⟨hx, by rw [this]; rfl⟩
        · exact .inl (by omega)
      refine ends_last s i w (iniB (s.data.toList.take i)) _ hi hs (mark_is h) hb (before_is s i hi) ?_
      generalize s[i] = b at *
      rcases h with h | h
      · have : (((b.toNat : Nat) : Int) != 46) = true := by rcases h with rfl | rfl <;> rfl
        rw [this, enB_of (.inl h) hr]; rfl
      · subst h
        have : ((((46 : UInt8).toNat : Nat) : Int) != 46) = false := rfl
        rw [this, Bool.false_or]
        unfold iniB
        by_cases hc : stt (s.data.toList.take i) = 1
        · rw [enB_no1 (by rintro ((h | h) | ⟨_, h⟩) <;> first | (revert h; decide) | exact h hc)]; simp [hc]
        · rw [enB_of (.inr ⟨rfl, hc⟩) hr]; simp [hc]
  · exact ends_none s i w hi hs h
theorem triL_full : ∀ (p : List UInt8) (b : UInt8), b ≠ 32 → triL (p ++ [b]) ≠ []
  | [], b, h => by simp [triL, h]
  | a :: p, b, h => by
    by_cases ha : a = 32
    · subst ha
      rw [List.cons_append, triL_cons]
      exact triL_full p b h
    · simp [triL, ha]
theorem tri_full (p : List UInt8) (b : UInt8) (h : b ≠ 32) : tri (p ++ [b]) ≠ [] := by
  unfold tri
  rw [triR_snoc, if_neg h]
  exact triL_full p b h
set_option maxHeartbeats 8000000 in
theorem refsents_any (s : ByteArray) (w : World) (hs : s.size ≤ 1000000) :
    Calls Tryd.prog 30 #[.string s] w fun e w' => ∃ a c, e = .returned (.slice a (sentP s.data.toList).length c) ∧ w'.ownsRow w.heap.size 9 1 (.slice a (sentP s.data.toList).length c) (sentP s.data.toList).length ((sentP s.data.toList).map strV) ∧ Below w.heap.size w w' := by
  obtain ⟨i0, hi, hz0, hz1, hz2⟩ := info_parts strInfo
  go_enter Tryd.func30, Tryd.ntmps30
  go_wp2
  go_loopw [5, 4, 3] (fun i st v wr => ∃ (k m : Nat) (pre : List (List UInt8)), m ≤ k ∧ k ≤ s.size ∧ i = .int .i64 k ∧ st = .int .i64 m ∧ pre.length ≤ k ∧ Hid (cut 0 [] s.data.toList = pre ++ cut (stt (s.data.toList.take k)) (accT s.data.toList m k) (s.data.toList.drop k)) ∧ Hid (wr.ownsRow w.heap.size 9 1 v (keepP pre).length ((keepP pre).map strV)) ∧ Hid (Below w.heap.size w wr)) (fun i _ _ _ => s.size - (intOf i).toNat)
  case atStart => exact ⟨0, 0, [], Nat.le_refl _, Nat.zero_le _, rfl, rfl, Nat.le_refl _, Lib.hid (by simp [accT, stt]), Lib.hid (World.ownsRow_nil _ _ _ _), Lib.hid (Below.refl _ _)⟩
  case round =>
    obtain ⟨k, m, pre, hmk, hk, rfl, rfl, hpl, hcut, hown, hb⟩ := hrel
    obtain ⟨va, vc, rfl⟩ := own_slice hown.out
    have hkl := keepP_len pre
    by_cases hlt : k < s.size
    · have hlt' : (k : Int) < s.size := by omega
      have he := byte_at s k hlt
      have CT := Lib.hid (cut_at hmk he hcut.out)
      have KE := Lib.hid (ends_any s k wr hlt hs)
      have hsb : enB (stt (s.data.toList.take k)) s[k] (s.data.toList.drop (k + 1)) = true → s[k] ≠ 32 := by
        intro h q
        rw [q] at h
        unfold enB at h
        simp at h
      have HSB := Lib.hid hsb
      have HAS := Lib.hid (accT_snoc hmk he)
      cases hen : enB (stt (s.data.toList.take k)) s[k] (s.data.toList.drop (k + 1))
      · have HC := Lib.hid (CT.out.1 hen)
        rw [hen] at KE
        clear he hsb hen CT HSB hcut HAS
        go_wp2_with fail
        refine KE.out.mono ?_
        rintro x w1 ⟨rfl, rfl⟩
        go_wp2
        go_roundw
        case rel => exact ⟨k + 1, m, pre, by omega, by omega, by go_num, rfl, by omega, HC, hown, hb⟩
        case measure => simp [intOf]; omega
      · have HC := Lib.hid (CT.out.2 hen)
        have hne := tri_full (accT s.data.toList m k) s[k] (hsb hen)
        rw [← HAS.out] at hne
        have HN := Lib.hid hne
        rw [hen] at KE
        have hxl := accT_len s m (k + 1)
        have hxs : s.extract m (k + 1) = ⟨(accT s.data.toList m (k + 1)).toArray⟩ := (ext_acc s m (k + 1)).symm
        have KT := Lib.hid (fun W => trimmed_any (s.extract m (k + 1)) W (by rw [hxs, mk_size']; omega))
        rw [show (s.extract m (k + 1)).data.toList = accT s.data.toList m (k + 1) by rw [hxs]] at KT
        have HK : Hid (keepP (pre ++ [accT s.data.toList m (k + 1)]) = keepP pre ++ [tri (accT s.data.toList m (k + 1))]) := Lib.hid (by rw [keepP_snoc, if_neg HN.out])
        have hmm : (m : Int) ≤ (k : Int) + 1 := by omega
        have hkk : (k : Int) + 1 ≤ s.size := by omega
        have hw : IntKind.i64.wrap ((k : Int) + 1) = ((k + 1 : Nat) : Int) := by rw [IntWalk.i64_in _ (by omega)]; rfl
        generalize accT s.data.toList m (k + 1) = p at *
        clear he hsb hen CT HSB hcut HAS hne hxs
        go_wp2_with (first | (go_at_call 56; refine KE.out.mono ?_; rintro x w1 ⟨rfl, rfl⟩) | (go_at_call 57; refine (KT.out _).mono ?_; rintro x w1 ⟨rfl, rfl⟩) | (at_builtin; refine wpList_append_own _ rfl _ _ 39 rfl w.heap.size 9 i0 (.string ⟨#[]⟩) 1 16 Tryd.underlying39 hi hz0 hz1 hz2 rfl (by decide) (.slice va (keepP pre).length vc) _ _ rfl (hown.out.alloc _) ⟨wr.heap.size, 0, none⟩ 1 1 [.string ⟨(tri p).toArray⟩] rfl rfl (cell_one_new _ _ _) (by simp [Value.oneCell']) (by unfold maxLen; omega) (by omega) (by have := hb.out.size; simp; omega) ?_; intro v' w4 hown' hgrow _; obtain ⟨a4, c4, rfl⟩ := own_slice hown'; have B4 := Lib.hid ((hb.out.alloc hb.out.size (.cells #[.string ⟨(tri p).toArray⟩] 9)).grown hgrow (by have := hb.out.size; simp; omega) (fun g hg => (hown.out.lt g hg).1)); have O4 := Lib.hid (show w4.ownsRow w.heap.size 9 1 (.slice a4 ((keepP pre).length + 1) c4) (keepP (pre ++ [p])).length ((keepP (pre ++ [p])).map strV) by rw [HK.out, List.map_append, List.length_append]; exact hown'); clear hown' hgrow) | fail)
        go_roundw
        case rel => exact ⟨k + 1, k + 1, pre ++ [p], Nat.le_refl _, by omega, by go_num, by go_num, by simp; omega, HC, O4, B4⟩
        case measure => simp [intOf]; omega
    · obtain rfl : k = s.size := by omega
      have hd : s.data.toList.drop s.size = [] := List.drop_eq_nil_iff.2 (by rw [slen]; exact Nat.le_refl _)
      have hcc := hcut.out
      rw [hd, cut] at hcc
      have hxs : s.extract m s.size = ⟨(accT s.data.toList m s.size).toArray⟩ := (ext_acc s m s.size).symm
      have hxl := accT_len s m s.size
      have KT := Lib.hid (fun W => trimmed_any (s.extract m s.size) W (by rw [hxs, mk_size']; omega))
      rw [show (s.extract m s.size).data.toList = accT s.data.toList m s.size by rw [hxs]] at KT
      have HK0 := Lib.hid (keepP_snoc pre (accT s.data.toList m s.size))
      have HS : Hid (sentP s.data.toList = keepP (pre ++ [accT s.data.toList m s.size])) := Lib.hid (by unfold sentP; rw [hcc])
      have hmk2 : (m : Int) ≤ s.size := by omega
      generalize accT s.data.toList m s.size = p at *
      clear hd hcc hcut hxs
      by_cases hp : tri p = []
      · have HE := Lib.hid hp
        have HK := Lib.hid (HK0.out.trans (if_pos hp))
        rw [hp] at KT
        clear hp HK0
        go_wp2_with (first | (go_at_call 57; refine (KT.out _).mono ?_; rintro x w1 ⟨rfl, rfl⟩) | fail)
        go_ret
        refine ⟨va, vc, ?_, ?_, hb.out⟩
        · rw [HS.out, HK.out]; rfl
        · rw [HS.out, HK.out]; exact hown.out
      · have HK := Lib.hid (HK0.out.trans (if_neg hp))
        have hpe : (tri p).isEmpty = false := by cases h : tri p with | nil => exact absurd h hp | cons a b => rfl
        clear HK0
        go_wp2_with (first | (go_at_call 57; refine (KT.out _).mono ?_; rintro x w1 ⟨rfl, rfl⟩) | (at_builtin; refine wpList_append_own _ rfl _ _ 39 rfl w.heap.size 9 i0 (.string ⟨#[]⟩) 1 16 Tryd.underlying39 hi hz0 hz1 hz2 rfl (by decide) (.slice va (keepP pre).length vc) _ _ rfl (hown.out.alloc _) ⟨wr.heap.size, 0, none⟩ 1 1 [.string ⟨(tri p).toArray⟩] rfl rfl (cell_one_new _ _ _) (by simp [Value.oneCell']) (by unfold maxLen; omega) (by omega) (by have := hb.out.size; simp; omega) ?_; intro v' w4 hown' hgrow _; obtain ⟨a4, c4, rfl⟩ := own_slice hown'; have B4 := Lib.hid ((hb.out.alloc hb.out.size (.cells #[.string ⟨(tri p).toArray⟩] 9)).grown hgrow (by have := hb.out.size; simp; omega) (fun g hg => (hown.out.lt g hg).1)); have O4 := Lib.hid (show w4.ownsRow w.heap.size 9 1 (.slice a4 ((keepP pre).length + 1) c4) (keepP (pre ++ [p])).length ((keepP (pre ++ [p])).map strV) by rw [HK.out, List.map_append, List.length_append]; exact hown'); clear hown' hgrow) | fail)
        go_ret
        refine ⟨a4, c4, ?_, ?_, B4.out⟩
        · rw [HS.out, HK.out, List.length_append]; rfl
        · rw [HS.out]; have := O4.out; rw [HK.out, List.length_append] at this ⊢; exact this
end Go.Proofs.YtcapfjonkcekoaaDoor
