/- The reference's Int and String: what they return, for all arguments. -/
import Derived.Test.YtdhioalfgogcdaaGreatDoorRefPut
import Derived.Laws.AppendOwn
import Derived.Laws.OwnMore
namespace Go.Proofs.YtdhioalfgogcdaaGreatDoor
open Go.RowKit Go.Shelf
set_option maxRecDepth 100000
set_option linter.unusedSimpArgs false
set_option linter.unusedVariables false
theorem bytes_len (p : ByteArray) : p.data.toList.length = p.size := by simp
/-- What one round that ends the reading finds. -/
theorem dcd_end (D : List UInt8) (k zn : Nat) (b : UInt8) (hk : k < D.length) (_ : D[k] = b) (_ : b.toNat < 128) (hd : dcd D = if b.toNat = 0 ∧ 0 < k then (0, 0) else (zn + b.toNat % 128 * 128 ^ k, k + 1)) (h2 : ¬ (b.toNat = 0 ∧ 0 < k)) :
    encInt (unzz ((zn + b.toNat % 128 * 128 ^ k : Nat) : Int)) = D.take (k + 1) := by
  rw [if_neg h2] at hd
  have h3 : (dcd D).2 ≠ 0 := by rw [hd]; simp
  obtain ⟨h4, h5, h6⟩ := dcd_some D h3
  rw [hd] at h4 h5 h6
  simp only at h4 h5 h6
  have e : encInt (unzz ((zn + b.toNat % 128 * 128 ^ k : Nat) : Int)) = enc 8 (zn + b.toNat % 128 * 128 ^ k) := by rw [encInt, zz_unzz _ (Int.natCast_nonneg _), Int.toNat_natCast]
  rw [e, h5]
  exact List.prefix_iff_eq_take.1 h6
theorem dcd_not (D : List UInt8) (n : Int) (hn : okInt n = true) (k : Nat) (hd : dcd D = (0, 0)) : ¬ encInt n = D.take (k + 1) := by
  intro h
  have h1 := dcd_enc n hn (D.drop (k + 1))
  rw [h, List.take_append_drop, hd] at h1
  have h2 := congrArg Prod.snd h1
  have h3 := enc_pos 8 (zz n).toNat
  simp only at h2
  rw [← h] at h2
  unfold encInt at h2
  omega
theorem add_group (zn k b : Nat) (hzn : zn < 128 ^ k) (hk : k < 9) : IntKind.u64.wrap ((zn : Int) + IntKind.u64.wrap ((b : Int) % 128 * 2 ^ (7 * k))) = ((zn + b % 128 * 128 ^ k : Nat) : Int) := by
  have e : (2 : Nat) ^ (7 * k) = 128 ^ k := by rw [Nat.pow_mul]
  have h1 := group_lt zn k b hzn
  have h2 := pow_le9 k hk
  have h3 : ((b : Int) % 128 * 2 ^ (7 * k)) = ((b % 128 * 128 ^ k : Nat) : Int) := by rw [← e]; simp
  rw [h3, wrap64u _ (by omega), ← Int.natCast_add, wrap64u _ (by omega)]
set_option maxRecDepth 100000 in
set_option maxHeartbeats 8000000 in
theorem refInt_any (s : ByteArray) (at' : Int) (w : World) (hs : s.size ≤ maxLen) :
    Calls Tryz.prog 75 #[.string s, .int .i64 at'] w fun e w' => e = .returned (.tuple #[.int .i64 (intAt s.data.toList at').1, .int .i64 (intAt s.data.toList at').2.1, .int .i64 (intAt s.data.toList at').2.2]) ∧ Below w.heap.size w w' := by
  have hsl : (s.data.toList.length : Int) = s.size := by simp
  by_cases hneg : at' < 0
  · have hi : intAt s.data.toList at' = (0, 0, 2) := by unfold intAt; rw [if_pos (.inl hneg)]
    rw [hi]
    clear hi
    go_enter Tryz.func75, Tryz.ntmps75
    go_wp2
    go_ret3
    exact ⟨rfl, Below.refl _ _⟩
  · by_cases hbig : (s.size : Int) < at'
    · have hi : intAt s.data.toList at' = (0, 0, 2) := by unfold intAt; rw [if_pos (.inr (by omega))]
      rw [hi]
      clear hi
      go_enter Tryz.func75, Tryz.ntmps75
      go_wp2
      go_ret3
      exact ⟨rfl, Below.refl _ _⟩
    · obtain ⟨p, rfl⟩ := Int.eq_ofNat_of_zero_le (show 0 ≤ at' by omega)
      have hi : intAt s.data.toList (p : Int) = if good (s.data.toList.drop p) then (unzz (dcd (s.data.toList.drop p)).1, (p : Int) + (dcd (s.data.toList.drop p)).2, 0) else (0, 0, 10) := by
        unfold intAt; rw [if_neg (by omega)]; simp
      rw [hi]
      clear hi hsl
      unfold maxLen at hs
      obtain ⟨R, hR⟩ : ∃ R : Int × Int × Int, (if good (s.data.toList.drop p) then (unzz (dcd (s.data.toList.drop p)).1, (p : Int) + (dcd (s.data.toList.drop p)).2, 0) else (0, 0, 10)) = R := ⟨_, rfl⟩
      rw [hR]
      have HR := Lib.hid hR
      clear hR
      go_enter Tryz.func75, Tryz.ntmps75
      go_wp2
      go_loop [7, 8] (fun z i => ∃ k zn : Nat, p + k ≤ s.size ∧ k ≤ 9 ∧ i = .int .i64 k ∧ z = .int .u64 zn ∧ zn < 128 ^ k ∧ jn (9 - k) k zn (s.data.toList.drop (p + k)) = dcd (s.data.toList.drop p)) (fun _ i => 9 - (intOf i).toNat)
      case atStart => exact ⟨0, 0, by omega, Nat.zero_le _, rfl, rfl, by simp, rfl⟩
      case round =>
        obtain ⟨k, zn, hk, hk9, rfl, rfl, hzn, hj⟩ := hrel
        by_cases hlt : p + k < s.size
        · by_cases h9 : k < 9
          · have hbt : (s[p + k]).toNat < 256 := (s[p + k]).toNat_lt
            have hgl := group_lt zn k (s[p + k]).toNat hzn
            have hp9 := pow_le9 k h9
            rw [bytes_drop s (p + k) hlt] at hj
            obtain ⟨m, hm⟩ : ∃ m, 9 - k = m + 1 := ⟨8 - k, by omega⟩
            have hm' : m = 9 - (k + 1) := by omega
            rw [hm, jn, hm'] at hj
            by_cases hb : 128 ≤ (s[p + k]).toNat
            · rw [if_pos hb] at hj
              have HJ := Lib.hid hj
              have HG := Lib.hid hgl
              have hlti : (p : Int) + k < s.size := by omega
              have hidx : ((p : Int) + k).toNat = p + k := by omega
              clear hj hm hm' hgl hp9
              have HO := Lib.hid (add_group zn k (s[p + k]).toNat hzn h9)
              go_wp2_with fail
              exact ⟨⟨k + 1, _, by omega, by omega, by go_num, by rw [HO.out], HG.out, by rw [← Nat.add_assoc]; exact HJ.out⟩, by simp [intOf]; omega⟩
            · rw [if_neg hb] at hj
              have hO := add_group zn k (s[p + k]).toNat hzn h9
              obtain ⟨V, hpv⟩ : ∃ V, zn + (s[p + k]).toNat % 128 * 128 ^ k = V := ⟨_, rfl⟩
              rw [hpv] at hO hgl
              have HV := Lib.hid hpv
              have HJ := Lib.hid hj
              have HEN : True := trivial
              have hV : V < 9223372036854775808 := by omega
              have hlti : (p : Int) + k < s.size := by omega
              have hidx : ((p : Int) + k).toNat = p + k := by omega
              have hlti2 : (p : Int) + k + 1 ≤ s.size := by omega
              have hidx2 : ((p : Int) + k + 1).toNat = p + k + 1 := by omega
              have hpp : (p : Int) ≤ (p : Int) + k + 1 := by omega
              clear hj hm hm' hgl hp9
              cases hokv : okInt (unzz (V : Int))
              · by_cases hodd : (V : Int) % 2 = 1
                · have hpar : ((V : Int) % 2 == 1) = true := by simp; omega
                  have hnv : unzz (V : Int) = -((V : Int) / 2) - 1 := by unfold unzz; rw [if_pos (by omega)]
                  rw [hnv] at hokv
                  have hRv : R = (0, 0, 10) := by
                    rw [← HR.out]; unfold good; rw [← HJ.out]
                    by_cases hsup : (s[p + k]).toNat = 0 ∧ 0 < k
                    · rw [if_pos hsup]; rfl
                    · rw [if_neg hsup, HV.out]; simp only; rw [hnv, hokv]; simp
                  have HRV := Lib.hid hRv
                  have KP := Lib.hid (fun wx => refPutInt_no _ wx hokv)
                  clear hnv HR HJ HEN HV hpv hokv hRv
                  go_wp2_with fail
                  refine (KP.out _).mono ?_
                  rintro e w2 ⟨rfl, rfl⟩
                  go_wp2_with fail
                  go_ret3
                  rw [HRV.out]
                  exact ⟨rfl, Below.refl _ _⟩
                · have hpar : ((V : Int) % 2 == 1) = false := by simp; omega
                  have hnv : unzz (V : Int) = (V : Int) / 2 := by unfold unzz; rw [if_neg (by omega)]
                  rw [hnv] at hokv
                  have hRv : R = (0, 0, 10) := by
                    rw [← HR.out]; unfold good; rw [← HJ.out]
                    by_cases hsup : (s[p + k]).toNat = 0 ∧ 0 < k
                    · rw [if_pos hsup]; rfl
                    · rw [if_neg hsup, HV.out]; simp only; rw [hnv, hokv]; simp
                  have HRV := Lib.hid hRv
                  have KP := Lib.hid (fun wx => refPutInt_no _ wx hokv)
                  clear hnv HR HJ HEN HV hpv hokv hRv
                  go_wp2_with fail
                  refine (KP.out _).mono ?_
                  rintro e w2 ⟨rfl, rfl⟩
                  go_wp2_with fail
                  go_ret3
                  rw [HRV.out]
                  exact ⟨rfl, Below.refl _ _⟩
              · by_cases hsup : (s[p + k]).toNat = 0 ∧ 0 < k
                · by_cases hodd : (V : Int) % 2 = 1
                  · have hpar : ((V : Int) % 2 == 1) = true := by simp; omega
                    have hnv : unzz (V : Int) = -((V : Int) / 2) - 1 := by unfold unzz; rw [if_pos (by omega)]
                    rw [hnv] at hokv
                    have hRv : R = (0, 0, 10) := by
                      rw [← HR.out]; unfold good; rw [← HJ.out, if_pos hsup]; rfl
                    have hne : (encInt (-((V : Int) / 2) - 1) == (s.extract p (p + k + 1)).toList) = false := by
                      have h1 := dcd_not (s.data.toList.drop p) _ hokv k (by rw [← HJ.out, if_pos hsup])
                      rw [ByteArray.toList_eq, extract_toList, show p + k + 1 - p = k + 1 by omega]
                      simpa using h1
                    have HRV := Lib.hid hRv
                    have h9e : (encInt (-((V : Int) / 2) - 1)).length ≤ 9 := enc_len _ _
                    have KP := Lib.hid (fun wx => refPutInt_yes _ wx hokv)
                    generalize encInt (-((V : Int) / 2) - 1) = E at *
                    clear hnv HR HJ HEN HV hpv hokv hRv hsup
                    go_wp2_with fail
                    refine (KP.out _).mono ?_
                    rintro e w2 ⟨rfl, b2⟩
                    go_wp2_with fail
                    go_ret3
                    rw [HRV.out]
                    exact ⟨rfl, b2⟩
                  · have hpar : ((V : Int) % 2 == 1) = false := by simp; omega
                    have hnv : unzz (V : Int) = (V : Int) / 2 := by unfold unzz; rw [if_neg (by omega)]
                    rw [hnv] at hokv
                    have hRv : R = (0, 0, 10) := by
                      rw [← HR.out]; unfold good; rw [← HJ.out, if_pos hsup]; rfl
                    have hne : (encInt ((V : Int) / 2) == (s.extract p (p + k + 1)).toList) = false := by
                      have h1 := dcd_not (s.data.toList.drop p) _ hokv k (by rw [← HJ.out, if_pos hsup])
                      rw [ByteArray.toList_eq, extract_toList, show p + k + 1 - p = k + 1 by omega]
                      simpa using h1
                    have HRV := Lib.hid hRv
                    have h9e : (encInt ((V : Int) / 2)).length ≤ 9 := enc_len _ _
                    have KP := Lib.hid (fun wx => refPutInt_yes _ wx hokv)
                    generalize encInt ((V : Int) / 2) = E at *
                    clear hnv HR HJ HEN HV hpv hokv hRv hsup
                    go_wp2_with fail
                    refine (KP.out _).mono ?_
                    rintro e w2 ⟨rfl, b2⟩
                    go_wp2_with fail
                    go_ret3
                    rw [HRV.out]
                    exact ⟨rfl, b2⟩
                · by_cases hodd : (V : Int) % 2 = 1
                  · have hpar : ((V : Int) % 2 == 1) = true := by simp; omega
                    have hnv : unzz (V : Int) = -((V : Int) / 2) - 1 := by unfold unzz; rw [if_pos (by omega)]
                    rw [hnv] at hokv
                    have hRv : R = (-((V : Int) / 2) - 1, (p : Int) + k + 1, 0) := by
                      rw [← HR.out]; unfold good; rw [← HJ.out, if_neg hsup, HV.out]; simp only; rw [hnv, hokv]; simp; omega
                    have hne : (encInt (-((V : Int) / 2) - 1) == (s.extract p (p + k + 1)).toList) = true := by
                      have h1 := dcd_end (s.data.toList.drop p) k zn (s[p + k]) (by rw [List.length_drop, bytes_len]; omega) (by rw [List.getElem_drop]; rfl) (by omega) HJ.out.symm hsup
                      rw [HV.out, hnv] at h1
                      rw [ByteArray.toList_eq, extract_toList, show p + k + 1 - p = k + 1 by omega, h1]; simp
                    have HRV := Lib.hid hRv
                    have h9e : (encInt (-((V : Int) / 2) - 1)).length ≤ 9 := enc_len _ _
                    have KP := Lib.hid (fun wx => refPutInt_yes _ wx hokv)
                    generalize encInt (-((V : Int) / 2) - 1) = E at *
                    clear hnv HR HJ HEN HV hpv hokv hRv hsup
                    go_wp2_with fail
                    refine (KP.out _).mono ?_
                    rintro e w2 ⟨rfl, b2⟩
                    go_wp2_with fail
                    go_ret3
                    rw [HRV.out]
                    exact ⟨rfl, b2⟩
                  · have hpar : ((V : Int) % 2 == 1) = false := by simp; omega
                    have hnv : unzz (V : Int) = (V : Int) / 2 := by unfold unzz; rw [if_neg (by omega)]
                    rw [hnv] at hokv
                    have hRv : R = ((V : Int) / 2, (p : Int) + k + 1, 0) := by
                      rw [← HR.out]; unfold good; rw [← HJ.out, if_neg hsup, HV.out]; simp only; rw [hnv, hokv]; simp; omega
                    have hne : (encInt ((V : Int) / 2) == (s.extract p (p + k + 1)).toList) = true := by
                      have h1 := dcd_end (s.data.toList.drop p) k zn (s[p + k]) (by rw [List.length_drop, bytes_len]; omega) (by rw [List.getElem_drop]; rfl) (by omega) HJ.out.symm hsup
                      rw [HV.out, hnv] at h1
                      rw [ByteArray.toList_eq, extract_toList, show p + k + 1 - p = k + 1 by omega, h1]; simp
                    have HRV := Lib.hid hRv
                    have h9e : (encInt ((V : Int) / 2)).length ≤ 9 := enc_len _ _
                    have KP := Lib.hid (fun wx => refPutInt_yes _ wx hokv)
                    generalize encInt ((V : Int) / 2) = E at *
                    clear hnv HR HJ HEN HV hpv hokv hRv hsup
                    go_wp2_with fail
                    refine (KP.out _).mono ?_
                    rintro e w2 ⟨rfl, b2⟩
                    go_wp2_with fail
                    go_ret3
                    rw [HRV.out]
                    exact ⟨rfl, b2⟩
          · obtain rfl : k = 9 := by omega
            have hRv : R = (0, 0, 10) := by
              rw [← HR.out]; unfold good; rw [← hj]; rfl
            have HRV := Lib.hid hRv
            clear hj hRv HR
            go_wp2
            go_ret3
            rw [HRV.out]
            exact ⟨rfl, Below.refl _ _⟩
        · have hjj : dcd (s.data.toList.drop p) = (0, 0) := by
            rw [← hj, List.drop_of_length_le (by rw [bytes_len]; omega)]
            cases 9 - k <;> rfl
          have hRv : R = (0, 0, 10) := by
            rw [← HR.out]; unfold good; rw [hjj]; rfl
          have HRV := Lib.hid hRv
          clear hj hjj hRv HR
          go_wp2
          all_goals go_ret3
          all_goals rw [HRV.out]
          all_goals exact ⟨rfl, Below.refl _ _⟩
set_option maxHeartbeats 1000000 in
theorem refString_any (s : ByteArray) (at' : Int) (w : World) (hs : s.size ≤ maxLen) :
    Calls Tryz.prog 76 #[.string s, .int .i64 at'] w fun e w' => e = .returned (.tuple #[.string ⟨(strAt s.data.toList at').1.toArray⟩, .int .i64 (strAt s.data.toList at').2.1, .int .i64 (strAt s.data.toList at').2.2]) ∧ Below w.heap.size w w' := by
  have hi := refInt_any s at' w hs
  have hok := intAt_ok s.data.toList at'
  have her := intAt_err s.data.toList at'
  unfold strAt
  simp only
  generalize intAt s.data.toList at' = r at *
  obtain ⟨n, start, err⟩ := r
  simp only at hi hok her ⊢
  have hsl : (s.data.toList.length : Int) = s.size := by simp
  have HI := Lib.hid hi
  clear hi
  unfold maxLen at hs
  by_cases he : err = 0
  · subst he
    obtain ⟨h1, h2, h3, h4, h5⟩ := hok rfl
    rw [okInt_iff] at h3
    rw [if_pos rfl]
    clear hok her
    rw [hsl] at h2 h5 ⊢
    by_cases hn : n < 0
    · rw [if_pos (.inl hn)]
      go_enter Tryz.func76, Tryz.ntmps76
      go_wp2_with fail
      refine HI.out.mono ?_
      rintro e w' ⟨rfl, hb⟩
      go_wp2
      go_ret3
      exact ⟨rfl, hb⟩
    · by_cases hn2 : 65536 < n
      · rw [if_pos (.inr (.inl hn2))]
        go_enter Tryz.func76, Tryz.ntmps76
        go_wp2_with fail
        refine HI.out.mono ?_
        rintro e w' ⟨rfl, hb⟩
        go_wp2
        go_ret3
        exact ⟨rfl, hb⟩
      · by_cases hn3 : (s.size : Int) - start < n
        · rw [if_pos (.inr (.inr hn3))]
          go_enter Tryz.func76, Tryz.ntmps76
          go_wp2_with fail
          refine HI.out.mono ?_
          rintro e w' ⟨rfl, hb⟩
          go_wp2
          go_ret3
          exact ⟨rfl, hb⟩
        · rw [if_neg (by omega)]
          obtain ⟨k, rfl⟩ := Int.eq_ofNat_of_zero_le (show 0 ≤ n by omega)
          obtain ⟨st, rfl⟩ := Int.eq_ofNat_of_zero_le (show 0 ≤ start by omega)
          clear h3 hsl
          have hj1 : (st : Int) + k ≤ s.size := by omega
          have hj2 : (st : Int) ≤ st + k := by omega
          have hexl : (s.extract st (st + k)).data.toList = (s.data.toList.drop st).take k := by rw [extract_toList]; congr 1; omega
          have HX := Lib.hid hexl
          clear hexl
          have hsum : ((st : Int) + k).toNat = st + k := by omega
          go_enter Tryz.func76, Tryz.ntmps76
          go_wp2_with fail
          refine HI.out.mono ?_
          rintro e w' ⟨rfl, hb⟩
          go_wp2
          go_ret3
          refine ⟨ret_sii (bytes_ext (by rw [HX.out]; simp)) rfl rfl, hb⟩
  · have heq : ((err : Int) == 0) = false := by simp [he]
    rw [if_neg he]
    go_enter Tryz.func76, Tryz.ntmps76
    go_wp2_with fail
    refine HI.out.mono ?_
    rintro e w' ⟨rfl, hb⟩
    go_wp2
    go_ret3
    exact ⟨rfl, hb⟩
end Go.Proofs.YtdhioalfgogcdaaGreatDoor
