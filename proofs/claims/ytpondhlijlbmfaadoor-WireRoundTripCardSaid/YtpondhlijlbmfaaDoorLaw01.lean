/- The statements' own helpers: pick, NumberFrom, and the fixed calls, which all answer as they should. -/
import Derived.Test.YtpondhlijlbmfaaDoorWireI
import Derived.Test.YtpondhlijlbmfaaDoorWireS
namespace Go.Proofs.YtpondhlijlbmfaaDoor
open Go.RowKit Go.Shelf
theorem cellOver {W W' : World} {p : Addr} {v : Value} (hb : Below W.heap.size W W') (h : W.cell? p = some v) : W'.cell? p = some v := by
  obtain ⟨o, ho, _⟩ := cells_of_cell h
  exact (hb.cell (Array.getElem?_eq_some_iff.1 ho).1).trans h
theorem belowOver {B : Nat} {W W1 W2 : World} (h : Below B W W1) (hB : B ≤ W.heap.size) (k : Below W1.heap.size W1 W2) : Below B W W2 := h.trans (k.mono (Nat.le_trans hB h.size))
theorem joined_toList (p : ByteArray) (l : List UInt8) (q : ByteArray) : (p ++ (⟨l.toArray⟩ : ByteArray) ++ q).data.toList = p.data.toList ++ (l ++ q.data.toList) := by simp
theorem mk_size (l : List UInt8) : (⟨l.toArray⟩ : ByteArray).size = l.length := by simp [ByteArray.size]
theorem bytes_len (p : ByteArray) : p.data.toList.length = p.size := by simp
theorem extract0 (s : ByteArray) (k : Nat) : (s.extract 0 k).data.toList = s.data.toList.take k := by rw [extract_toList]; simp
theorem extract_mk (l : List UInt8) (k : Nat) : (⟨l.toArray⟩ : ByteArray).extract 0 k = ⟨(l.take k).toArray⟩ := bytes_ext (by rw [extract0])
theorem mk_append (l : List UInt8) (s : ByteArray) : (⟨l.toArray⟩ : ByteArray) ++ s = ⟨(l ++ s.data.toList).toArray⟩ := bytes_ext (by simp)
theorem wf64 {n : Int} (h : (Lit.int .i64 n).wf = true) : -9223372036854775808 ≤ n ∧ n ≤ 9223372036854775807 := by
  simp [Lit.wf, IntKind.min, IntKind.max, IntKind.signed, IntKind.bits] at h
  omega
theorem wfu8 {n : Int} (h : (Lit.int .u8 n).wf = true) : 0 ≤ n ∧ n ≤ 255 := by
  simp [Lit.wf, IntKind.min, IntKind.max, IntKind.signed, IntKind.bits] at h
  omega
theorem wfu32 {n : Int} (h : (Lit.int .u32 n).wf = true) : 0 ≤ n ∧ n ≤ 4294967295 := by
  simp [Lit.wf, IntKind.min, IntKind.max, IntKind.signed, IntKind.bits] at h
  omega
set_option maxHeartbeats 400000 in
theorem pick_any (c n : Int) (w : World) (hn : 1 ≤ n) (h1 : -9223372036854775808 ≤ c) (h2 : c ≤ 9223372036854775807) :
    Calls Tryd.prog 14 #[.int .i64 c, .int .i64 n] w fun e w' => e = .returned (.int .i64 (pck c n)) ∧ w = w' := by
  by_cases hc : c < 0
  · have hc2 : 0 ≤ -(c + 1) := by omega
    go_enter Tryd.func14, Tryd.ntmps14
    go_wp2
    go_ret
    exact ⟨ret_int (by rw [pck, if_pos hc, ← Int.neg_tmod, Int.tmod_eq_emod_of_nonneg hc2]), rfl⟩
  · go_enter Tryd.func14, Tryd.ntmps14
    go_wp2
    go_ret
    exact ⟨ret_int (by rw [pck, if_neg (by omega)]), rfl⟩
set_option maxHeartbeats 2000000 in
theorem numberFrom_any (c : Int) (w : World) (h1 : -9223372036854775808 ≤ c) (h2 : c ≤ 9223372036854775807) :
    Calls Tryd.prog 11 #[.int .i64 c] w fun e w' => e = .returned (.int .i64 (numFrom c)) ∧ Below w.heap.size w w' := by
  have p1 := fun w => pick_any c 4611686018427387904 w (by omega) h1 h2
  have p2 := fun w => pick_any c 8 w (by omega) h1 h2
  have p3 := fun w => pick_any c 16 w (by omega) h1 h2
  have b1 := pck_lo c 4611686018427387904 (by omega)
  have b2 := pck_hi c 4611686018427387904 (by omega)
  have b3 := pck_lo c 8 (by omega)
  have b4 := pck_hi c 8 (by omega)
  have b5 := pck_lo c 16 (by omega)
  have b6 := pck_hi c 16 (by omega)
  have P1 := Lib.hid p1
  have P2 := Lib.hid p2
  have P3 := Lib.hid p3
  have bd := numAbs_bd c
  unfold numFrom
  unfold numAbs at *
  clear p1 p2 p3
  generalize pck c 4611686018427387904 = x at *
  generalize pck c 16 = y at *
  generalize pck c 8 = j at *
  have hj : j = 0 ∨ j = 1 ∨ j = 2 ∨ j = 3 ∨ j = 4 ∨ j = 5 ∨ j = 6 ∨ j = 7 := by omega
  rcases hj with rfl | rfl | rfl | rfl | rfl | rfl | rfl | rfl
  · simp only [show tbl8 0 = 64 from rfl] at *
    obtain ⟨r, hr⟩ : ∃ r, pck (x / 8) 64 = r := ⟨_, rfl⟩
    rw [hr] at bd
    have HR := Lib.hid hr
    clear hr
    go_enter Tryd.func11, Tryd.ntmps11
    go_wp2_with fail
    refine (P1.out _).mono ?_
    rintro e w' ⟨rfl, rfl⟩
    go_wp2_with fail
    refine (P2.out _).mono ?_
    rintro e w' ⟨rfl, rfl⟩
    go_wp2_with fail
    refine (pick_any (x / 8) _ _ (by omega) (by omega) (by omega)).mono ?_
    rintro e w' ⟨rfl, rfl⟩
    rw [HR.out]
    go_wp2_with fail
    refine (P3.out _).mono ?_
    rintro e w' ⟨rfl, rfl⟩
    by_cases hy : 8 ≤ y
    · go_wp2
      go_ret
      exact ⟨ret_int (by rw [HR.out]), (Below.refl _ _).alloc (Nat.le_refl _) _⟩
    · go_wp2
      go_ret
      exact ⟨ret_int (by rw [HR.out]), (Below.refl _ _).alloc (Nat.le_refl _) _⟩
  · simp only [show tbl8 1 = 128 from rfl] at *
    obtain ⟨r, hr⟩ : ∃ r, pck (x / 8) 128 = r := ⟨_, rfl⟩
    rw [hr] at bd
    have HR := Lib.hid hr
    clear hr
    go_enter Tryd.func11, Tryd.ntmps11
    go_wp2_with fail
    refine (P1.out _).mono ?_
    rintro e w' ⟨rfl, rfl⟩
    go_wp2_with fail
    refine (P2.out _).mono ?_
    rintro e w' ⟨rfl, rfl⟩
    go_wp2_with fail
    refine (pick_any (x / 8) _ _ (by omega) (by omega) (by omega)).mono ?_
    rintro e w' ⟨rfl, rfl⟩
    rw [HR.out]
    go_wp2_with fail
    refine (P3.out _).mono ?_
    rintro e w' ⟨rfl, rfl⟩
    by_cases hy : 8 ≤ y
    · go_wp2
      go_ret
      exact ⟨ret_int (by rw [HR.out]), (Below.refl _ _).alloc (Nat.le_refl _) _⟩
    · go_wp2
      go_ret
      exact ⟨ret_int (by rw [HR.out]), (Below.refl _ _).alloc (Nat.le_refl _) _⟩
  · simp only [show tbl8 2 = 8192 from rfl] at *
    obtain ⟨r, hr⟩ : ∃ r, pck (x / 8) 8192 = r := ⟨_, rfl⟩
    rw [hr] at bd
    have HR := Lib.hid hr
    clear hr
    go_enter Tryd.func11, Tryd.ntmps11
    go_wp2_with fail
    refine (P1.out _).mono ?_
    rintro e w' ⟨rfl, rfl⟩
    go_wp2_with fail
    refine (P2.out _).mono ?_
    rintro e w' ⟨rfl, rfl⟩
    go_wp2_with fail
    refine (pick_any (x / 8) _ _ (by omega) (by omega) (by omega)).mono ?_
    rintro e w' ⟨rfl, rfl⟩
    rw [HR.out]
    go_wp2_with fail
    refine (P3.out _).mono ?_
    rintro e w' ⟨rfl, rfl⟩
    by_cases hy : 8 ≤ y
    · go_wp2
      go_ret
      exact ⟨ret_int (by rw [HR.out]), (Below.refl _ _).alloc (Nat.le_refl _) _⟩
    · go_wp2
      go_ret
      exact ⟨ret_int (by rw [HR.out]), (Below.refl _ _).alloc (Nat.le_refl _) _⟩
  · simp only [show tbl8 3 = 16384 from rfl] at *
    obtain ⟨r, hr⟩ : ∃ r, pck (x / 8) 16384 = r := ⟨_, rfl⟩
    rw [hr] at bd
    have HR := Lib.hid hr
    clear hr
    go_enter Tryd.func11, Tryd.ntmps11
    go_wp2_with fail
    refine (P1.out _).mono ?_
    rintro e w' ⟨rfl, rfl⟩
    go_wp2_with fail
    refine (P2.out _).mono ?_
    rintro e w' ⟨rfl, rfl⟩
    go_wp2_with fail
    refine (pick_any (x / 8) _ _ (by omega) (by omega) (by omega)).mono ?_
    rintro e w' ⟨rfl, rfl⟩
    rw [HR.out]
    go_wp2_with fail
    refine (P3.out _).mono ?_
    rintro e w' ⟨rfl, rfl⟩
    by_cases hy : 8 ≤ y
    · go_wp2
      go_ret
      exact ⟨ret_int (by rw [HR.out]), (Below.refl _ _).alloc (Nat.le_refl _) _⟩
    · go_wp2
      go_ret
      exact ⟨ret_int (by rw [HR.out]), (Below.refl _ _).alloc (Nat.le_refl _) _⟩
  · simp only [show tbl8 4 = 1073741824 from rfl] at *
    obtain ⟨r, hr⟩ : ∃ r, pck (x / 8) 1073741824 = r := ⟨_, rfl⟩
    rw [hr] at bd
    have HR := Lib.hid hr
    clear hr
    go_enter Tryd.func11, Tryd.ntmps11
    go_wp2_with fail
    refine (P1.out _).mono ?_
    rintro e w' ⟨rfl, rfl⟩
    go_wp2_with fail
    refine (P2.out _).mono ?_
    rintro e w' ⟨rfl, rfl⟩
    go_wp2_with fail
    refine (pick_any (x / 8) _ _ (by omega) (by omega) (by omega)).mono ?_
    rintro e w' ⟨rfl, rfl⟩
    rw [HR.out]
    go_wp2_with fail
    refine (P3.out _).mono ?_
    rintro e w' ⟨rfl, rfl⟩
    by_cases hy : 8 ≤ y
    · go_wp2
      go_ret
      exact ⟨ret_int (by rw [HR.out]), (Below.refl _ _).alloc (Nat.le_refl _) _⟩
    · go_wp2
      go_ret
      exact ⟨ret_int (by rw [HR.out]), (Below.refl _ _).alloc (Nat.le_refl _) _⟩
  · simp only [show tbl8 5 = 36028797018963968 from rfl] at *
    obtain ⟨r, hr⟩ : ∃ r, pck (x / 8) 36028797018963968 = r := ⟨_, rfl⟩
    rw [hr] at bd
    have HR := Lib.hid hr
    clear hr
    go_enter Tryd.func11, Tryd.ntmps11
    go_wp2_with fail
    refine (P1.out _).mono ?_
    rintro e w' ⟨rfl, rfl⟩
    go_wp2_with fail
    refine (P2.out _).mono ?_
    rintro e w' ⟨rfl, rfl⟩
    go_wp2_with fail
    refine (pick_any (x / 8) _ _ (by omega) (by omega) (by omega)).mono ?_
    rintro e w' ⟨rfl, rfl⟩
    rw [HR.out]
    go_wp2_with fail
    refine (P3.out _).mono ?_
    rintro e w' ⟨rfl, rfl⟩
    by_cases hy : 8 ≤ y
    · go_wp2
      go_ret
      exact ⟨ret_int (by rw [HR.out]), (Below.refl _ _).alloc (Nat.le_refl _) _⟩
    · go_wp2
      go_ret
      exact ⟨ret_int (by rw [HR.out]), (Below.refl _ _).alloc (Nat.le_refl _) _⟩
  · simp only [show tbl8 6 = 576460752303423488 from rfl] at *
    obtain ⟨r, hr⟩ : ∃ r, pck (x / 8) 576460752303423488 = r := ⟨_, rfl⟩
    rw [hr] at bd
    have HR := Lib.hid hr
    clear hr
    go_enter Tryd.func11, Tryd.ntmps11
    go_wp2_with fail
    refine (P1.out _).mono ?_
    rintro e w' ⟨rfl, rfl⟩
    go_wp2_with fail
    refine (P2.out _).mono ?_
    rintro e w' ⟨rfl, rfl⟩
    go_wp2_with fail
    refine (pick_any (x / 8) _ _ (by omega) (by omega) (by omega)).mono ?_
    rintro e w' ⟨rfl, rfl⟩
    rw [HR.out]
    go_wp2_with fail
    refine (P3.out _).mono ?_
    rintro e w' ⟨rfl, rfl⟩
    by_cases hy : 8 ≤ y
    · go_wp2
      go_ret
      exact ⟨ret_int (by rw [HR.out]), (Below.refl _ _).alloc (Nat.le_refl _) _⟩
    · go_wp2
      go_ret
      exact ⟨ret_int (by rw [HR.out]), (Below.refl _ _).alloc (Nat.le_refl _) _⟩
  · simp only [show tbl8 7 = 2 from rfl] at *
    obtain ⟨r, hr⟩ : ∃ r, pck (x / 8) 2 = r := ⟨_, rfl⟩
    rw [hr] at bd
    have HR := Lib.hid hr
    clear hr
    go_enter Tryd.func11, Tryd.ntmps11
    go_wp2_with fail
    refine (P1.out _).mono ?_
    rintro e w' ⟨rfl, rfl⟩
    go_wp2_with fail
    refine (P2.out _).mono ?_
    rintro e w' ⟨rfl, rfl⟩
    go_wp2_with fail
    refine (pick_any (x / 8) _ _ (by omega) (by omega) (by omega)).mono ?_
    rintro e w' ⟨rfl, rfl⟩
    rw [HR.out]
    go_wp2_with fail
    refine (P3.out _).mono ?_
    rintro e w' ⟨rfl, rfl⟩
    by_cases hy : 8 ≤ y
    · go_wp2
      go_ret
      exact ⟨ret_int (by rw [HR.out]), (Below.refl _ _).alloc (Nat.le_refl _) _⟩
    · go_wp2
      go_ret
      exact ⟨ret_int (by rw [HR.out]), (Below.refl _ _).alloc (Nat.le_refl _) _⟩
set_option maxRecDepth 100000 in
set_option maxHeartbeats 4000000 in
theorem sane_any (w : World) (ht : Tab w) :
    Calls Tryd.prog 10 #[] w fun e w' => e = .returned (.bool true) ∧ Below w.heap.size w w' := by
  have e1 : encInt (-64) = [127] := by decide
  have e2 : encInt 64 = [128, 1] := by decide
  have e3 : ((⟨(encInt ((⟨#[97, 98]⟩ : ByteArray).size : Int)).toArray⟩ : ByteArray) ++ ⟨#[97, 98]⟩) = ⟨#[4, 97, 98]⟩ := by decide
  have i1 : intAt [97, 172, 2, 98] 1 = (150, 3, 0) := by decide
  have i2 : intAt [128, 0] 0 = (0, 0, 10) := by decide
  have i3 : intAt [] 1 = (0, 0, 2) := by decide
  have s1 : strAt [4, 97, 98, 99] 0 = ([97, 98], 3, 0) := by decide
  have s2 : strAt [4, 97] 0 = ([], 0, 10) := by decide
  have c1 : crc [49, 50, 51, 52, 53, 54, 55, 56, 57] = 3808858755 := by decide +kernel
  have k1 := fun w => putInt_yes (-64) w (by decide)
  have k2 := fun w => putInt_yes 64 w (by decide)
  have k3 := fun w => putInt_no 4611686018427387904 w (by decide)
  have k4 := fun w => int_any ⟨#[97, 172, 2, 98]⟩ 1 w (by decide)
  have k5 := fun w => int_any ⟨#[128, 0]⟩ 0 w (by decide)
  have k6 := fun w => int_any ⟨#[]⟩ 1 w (by decide)
  have k7 := fun w => string_any ⟨#[4, 97, 98, 99]⟩ 0 w (by decide)
  have k8 := fun w => string_any ⟨#[4, 97]⟩ 0 w (by decide)
  have k9 : ∀ w, Calls Tryd.prog 19 #[.string ⟨#[97, 98]⟩] w fun e w' => e = .returned (.tuple #[.string ⟨#[4, 97, 98]⟩, .int .i64 0]) ∧ Below w.heap.size w w' := fun w => by
    have := putStr_yes ⟨#[97, 98]⟩ w (by decide)
    rw [e3] at this
    exact this
  have k10 := fun w => sum_any ⟨#[49, 50, 51, 52, 53, 54, 55, 56, 57]⟩ w (by decide)
  simp only [e1, e2, i1, i2, i3, s1, s2, c1] at k1 k2 k4 k5 k6 k7 k8 k10
  have K1 := Lib.hid k1
  have K2 := Lib.hid k2
  have K3 := Lib.hid k3
  have K4 := Lib.hid k4
  have K5 := Lib.hid k5
  have K6 := Lib.hid k6
  have K7 := Lib.hid k7
  have K8 := Lib.hid k8
  have K9 := Lib.hid k9
  have K10 := Lib.hid k10
  clear k1 k2 k3 k4 k5 k6 k7 k8 k9 k10 e1 e2 e3 i1 i2 i3 s1 s2 c1
  go_enter Tryd.func10, Tryd.ntmps10
  go_wp2_with fail
  refine (K1.out _).mono ?_
  rintro e w1 ⟨rfl, b1⟩
  go_wp2_with fail
  refine (K2.out _).mono ?_
  rintro e w2 ⟨rfl, b2⟩
  go_wp2_with fail
  refine (K4.out _).mono ?_
  rintro e w3 ⟨rfl, rfl⟩
  go_wp2_with fail
  refine (K5.out _).mono ?_
  rintro e w3 ⟨rfl, rfl⟩
  go_wp2_with fail
  refine (K9.out _).mono ?_
  rintro e w3 ⟨rfl, b3⟩
  go_wp2_with fail
  refine (K7.out _).mono ?_
  rintro e w4 ⟨rfl, b4⟩
  go_wp2_with fail
  refine (K8.out _).mono ?_
  rintro e w5 ⟨rfl, b5⟩
  go_wp2_with fail
  refine (K3.out _).mono ?_
  rintro e w6 ⟨rfl, rfl⟩
  go_wp2_with fail
  refine (K6.out _).mono ?_
  rintro e w6 ⟨rfl, rfl⟩
  go_wp2_with fail
  refine (K10.out _ ?_).mono ?_
  · exact ((((ht.below b1).below b2).below b3).below b4).below b5
  rintro e w6 ⟨rfl, rfl⟩
  go_wp2
  go_ret
  exact ⟨rfl, (((b1.trans (b2.mono b1.size)).trans (b3.mono (Nat.le_trans b1.size b2.size))).trans (b4.mono (Nat.le_trans (Nat.le_trans b1.size b2.size) b3.size))).trans (b5.mono (Nat.le_trans (Nat.le_trans (Nat.le_trans b1.size b2.size) b3.size) b4.size))⟩
end Go.Proofs.YtpondhlijlbmfaaDoor
