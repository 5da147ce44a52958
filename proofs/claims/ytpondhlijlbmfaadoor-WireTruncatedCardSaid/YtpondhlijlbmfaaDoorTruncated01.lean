/- WireTruncated: the walk of the statement's text. -/
import Derived.Test.YtpondhlijlbmfaaDoorLaw01
import Derived.Test.YtpondhlijlbmfaaDoorWireP2
namespace Go.Proofs.YtpondhlijlbmfaaDoor
open Go.RowKit Go.Shelf
set_option maxRecDepth 100000 in
set_option maxHeartbeats 4000000 in
theorem truncated_walk (c d : Int) (t : ByteArray) (p : Int) (w : World) (hc : (Lit.int .i64 c).wf = true) (hd : (Lit.int .i64 d).wf = true) (hs : t.size ≤ maxLen) (hp : (Lit.int .i64 p).wf = true) (ht : Tab w) :
    Calls Tryd.prog 7 #[.int .i64 c, .int .i64 d, .string t, .int .i64 p] w fun e w' => e = .returned (.bool true) ∧ Below w.heap.size w w' := by
  have hc := wf64 hc
  have hd := wf64 hd
  have hp := wf64 hp
  unfold maxLen at hs
  have hx : (t.extract 0 (min (t.size : Int) 200).toNat).size ≤ 200 := by simp; omega
  have n1 := fun w => numberFrom_any c w hc.1 hc.2
  have n2 := fun w => numberFrom_any d w hd.1 hd.2
  have ok1 := numFrom_ok c
  have ok2 := numFrom_ok d
  have k1 := fun w => putInt_yes _ w ok1
  have k2 := fun w => putInt_yes _ w ok2
  have inj := @enc_inj (numFrom c) (numFrom d) ok1 ok2
  have pfx := @enc_prefix (numFrom c) (numFrom d) ok1 ok2
  have tr := trunc_int (numFrom c) ok1
  have le1 : (encInt (numFrom c)).length ≤ 9 := enc_len _ _
  have po1 : 0 < (encInt (numFrom c)).length := enc_pos _ _
  have le2 : (encInt (numFrom d)).length ≤ 9 := enc_len _ _
  have po2 : 0 < (encInt (numFrom d)).length := enc_pos _ _
  obtain ⟨m, hm⟩ : ∃ m, numFrom c = m := ⟨_, rfl⟩
  obtain ⟨n, hn⟩ : ∃ n, numFrom d = n := ⟨_, rfl⟩
  rw [hm] at n1 ok1 k1 inj pfx tr le1 po1
  rw [hn] at n2 ok2 k2 inj pfx le2 po2
  clear hm hn
  have N1 := Lib.hid n1
  have N2 := Lib.hid n2
  have K1 := Lib.hid k1
  have K2 := Lib.hid k2
  have INJ := Lib.hid inj
  have PFX := Lib.hid pfx
  have TR := Lib.hid tr
  clear n1 n2 k1 k2 inj pfx tr
  go_enter Tryd.func7, Tryd.ntmps7
  go_wp2_with fail
  refine (sane_any _ ht).mono ?_
  rintro e w1 ⟨rfl, b1⟩
  go_wp2_with fail
  refine (N1.out _).mono ?_
  rintro e w2 ⟨rfl, b2⟩
  go_wp2_with fail
  refine (K1.out _).mono ?_
  rintro e w3 ⟨rfl, b3⟩
  go_wp2_with fail
  refine (N2.out _).mono ?_
  rintro e w4 ⟨rfl, b4⟩
  go_wp2_with fail
  refine (K2.out _).mono ?_
  rintro e w5 ⟨rfl, b5⟩
  go_wp2_with fail
  generalize t.extract 0 (min (t.size : Int) 200).toNat = x at *
  refine (putStr_yes x _ (by omega)).mono ?_
  rintro e w6 ⟨rfl, b6⟩
  rw [mk_append]
  have hxl := bytes_len x
  have TS := Lib.hid (trunc_str x.data.toList (by omega))
  rw [hxl] at TS
  obtain ⟨y, hy⟩ : ∃ y, encInt (x.size : Int) ++ x.data.toList = y := ⟨_, rfl⟩
  rw [hy] at TS ⊢
  clear hxl
  have hyl : 0 < y.length := by rw [← hy, List.length_append]; have : 0 < (encInt (x.size : Int)).length := enc_pos _ _; omega
  have hyl2 : y.length ≤ 209 := by rw [← hy, List.length_append, bytes_len]; have : (encInt (x.size : Int)).length ≤ 9 := enc_len _ _; omega
  clear hy
  generalize he1 : encInt m = E at *
  generalize he2 : encInt n = G at *
  have HE1 := Lib.hid he1
  have HE2 := Lib.hid he2
  clear he1 he2
  have hE0 : ((E.length : Int) == 0) = false := by simp; exact List.length_pos_iff.1 po1
  have hY0 : ((y.length : Int) == 0) = false := by simp; exact List.length_pos_iff.1 hyl
  go_wp2_with fail
  refine (pick_any p E.length _ (by omega) hp.1 hp.2).mono ?_
  rintro e w7 ⟨rfl, rfl⟩
  have p1 := pck_lo p E.length (by omega)
  have p2 := pck_hi p E.length (by omega)
  generalize pck p E.length = u at *
  obtain ⟨u, rfl⟩ := Int.eq_ofNat_of_zero_le p1
  have hu : u < E.length := by omega
  have TR2 := Lib.hid (TR.out u hu)
  go_wp2_with fail
  rw [extract_mk]
  have ki := int_any ⟨(E.take u).toArray⟩ 0 w6 (by rw [mk_size, List.length_take]; unfold maxLen; omega)
  simp only [TR2.out] at ki
  refine ki.mono ?_
  clear ki
  rintro e w7 ⟨rfl, rfl⟩
  go_wp2_with fail
  refine (pick_any p y.length _ (by omega) hp.1 hp.2).mono ?_
  rintro e w7 ⟨rfl, rfl⟩
  have q1 := pck_lo p y.length (by omega)
  have q2 := pck_hi p y.length (by omega)
  generalize pck p y.length = v at *
  obtain ⟨v, rfl⟩ := Int.eq_ofNat_of_zero_le q1
  have hv : v < y.length := by omega
  have TS2 := Lib.hid (TS.out v hv)
  go_wp2_with fail
  rw [extract_mk]
  have ks := string_any ⟨(y.take v).toArray⟩ 0 w6 (by rw [mk_size, List.length_take]; unfold maxLen; omega)
  simp only [TS2.out] at ks
  refine ks.mono ?_
  clear ks
  rintro e w7 ⟨rfl, b7⟩
  by_cases hmn : m = n
  · subst hmn
    obtain rfl : E = G := by rw [← HE1.out, HE2.out]
    go_wp2_with fail
    refine (N1.out _).mono ?_
    rintro e w8 ⟨rfl, b8⟩
    go_wp2_with fail
    refine (N2.out _).mono ?_
    rintro e w9 ⟨rfl, b9⟩
    go_wp2
    go_ret
    refine ⟨ret_bool ?_, belowOver (belowOver (belowOver (belowOver (belowOver (belowOver (belowOver (belowOver (belowOver (Below.refl _ _) (Nat.le_refl _) b1) (Nat.le_refl _) b2) (Nat.le_refl _) b3) (Nat.le_refl _) b4) (Nat.le_refl _) b5) (Nat.le_refl _) b6) (Nat.le_refl _) b7) (Nat.le_refl _) b8) (Nat.le_refl _) b9⟩
    rw [ByteArray.toList_eq, extract0]
    simp
  · have hne : (m == n) = false := by simp [hmn]
    by_cases hle : E.length ≤ G.length
    · go_wp2_with fail
      refine (N1.out _).mono ?_
      rintro e w8 ⟨rfl, b8⟩
      go_wp2_with fail
      refine (N2.out _).mono ?_
      rintro e w9 ⟨rfl, b9⟩
      go_wp2
      go_ret
      refine ⟨ret_bool ?_, belowOver (belowOver (belowOver (belowOver (belowOver (belowOver (belowOver (belowOver (belowOver (Below.refl _ _) (Nat.le_refl _) b1) (Nat.le_refl _) b2) (Nat.le_refl _) b3) (Nat.le_refl _) b4) (Nat.le_refl _) b5) (Nat.le_refl _) b6) (Nat.le_refl _) b7) (Nat.le_refl _) b8) (Nat.le_refl _) b9⟩
      rw [ByteArray.toList_eq, extract0]
      have hnp : ¬ G.take E.length = E := fun h => hmn (PFX.out (by have h3 := List.take_prefix E.length G; rw [h] at h3; exact h3))
      simpa using hnp
    · go_wp2_with fail
      refine (N1.out _).mono ?_
      rintro e w8 ⟨rfl, b8⟩
      go_wp2_with fail
      refine (N2.out _).mono ?_
      rintro e w9 ⟨rfl, b9⟩
      go_wp2
      go_ret
      exact ⟨rfl, belowOver (belowOver (belowOver (belowOver (belowOver (belowOver (belowOver (belowOver (belowOver (Below.refl _ _) (Nat.le_refl _) b1) (Nat.le_refl _) b2) (Nat.le_refl _) b3) (Nat.le_refl _) b4) (Nat.le_refl _) b5) (Nat.le_refl _) b6) (Nat.le_refl _) b7) (Nat.le_refl _) b8) (Nat.le_refl _) b9⟩
end Go.Proofs.YtpondhlijlbmfaaDoor
