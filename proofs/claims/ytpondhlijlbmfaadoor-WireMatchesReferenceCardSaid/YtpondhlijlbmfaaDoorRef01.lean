/- The reference answers of layer 1: what they return, for all arguments; they are those of package wire. -/
import Derived.Test.YtpondhlijlbmfaaDoorLaw01
import Derived.Test.YtpondhlijlbmfaaDoorWireP2
import Derived.Laws.AppendOwn
import Derived.Laws.OwnMore
namespace Go.Proofs.YtpondhlijlbmfaaDoor
open Go.RowKit Go.Shelf
theorem stpN_succ (k r : Nat) : stpN (k + 1) r = stp (stpN k r) := by rw [stpN_add k 1]; rfl
theorem xorP (r : Nat) (h : r < 4294967296) : bits BinOp.xor IntKind.u32 ((r : Int) / 2) 2197175160 = ((r / 2 ^^^ crcP : Nat) : Int) := by
  have e : (r : Int) / 2 = ((r / 2 : Nat) : Int) := by omega
  have := u32_xor_nat (r / 2) 2197175160 (by omega) (by decide)
  rw [e]; exact this
set_option maxHeartbeats 1000000 in
theorem refSum_any (s : ByteArray) (w : World) (hs : s.size ≤ maxLen) :
    Calls Tryd.prog 22 #[.string s] w fun e w' => e = .returned (.int .i64 ((crc s.data.toList : Nat) : Int)) ∧ w = w' := by
  unfold maxLen at hs
  go_enter Tryd.func22, Tryd.ntmps22
  go_wp2
  go_loop [3, 4, 5, 6] (fun r i _ _ => ∃ k : Nat, k ≤ s.size ∧ i = .int .i64 k ∧ r = .int .u32 ((crcR (s.data.toList.take k) 4294967295 : Nat) : Int)) (fun _ i _ _ => s.size - (intOf i).toNat)
  case atStart => exact ⟨0, Nat.zero_le _, rfl, rfl⟩
  case round =>
    obtain ⟨k, hk, rfl, rfl⟩ := hrel
    have hr := crcR_lt (s.data.toList.take k) 4294967295 (by decide)
    by_cases hlt : k < s.size
    · have hbt : (s[k]).toNat < 256 := (s[k]).toNat_lt
      have hx : bits BinOp.xor IntKind.u32 ((crcR (s.data.toList.take k) 4294967295 : Nat) : Int) ((s[k].toNat : Nat) : Int) = ((crcR (s.data.toList.take k) 4294967295 ^^^ s[k].toNat : Nat) : Int) := u32_xor_nat _ _ hr (by omega)
      have hx2 : crcR (s.data.toList.take k) 4294967295 ^^^ s[k].toNat < 4294967296 := Nat.xor_lt_two_pow (n := 32) hr (by omega)
      have hsn : crcR (s.data.toList.take (k + 1)) 4294967295 = stpN 8 (crcR (s.data.toList.take k) 4294967295 ^^^ s[k].toNat) := by
        rw [take_snoc s k hlt, crcR_snoc, ← stpN_add 4 4]
      have HS := Lib.hid hsn
      clear hsn
      go_wp2
      go_loop [3, 5, 6] (fun r i _ => ∃ j : Nat, j ≤ 8 ∧ i = .int .i64 j ∧ r = .int .u32 ((stpN j (crcR (s.data.toList.take k) 4294967295 ^^^ s[k].toNat) : Nat) : Int)) (fun _ i _ => 8 - (intOf i).toNat)
      case atStart => exact ⟨0, by omega, rfl, rfl⟩
      case round =>
        obtain ⟨j, hj, rfl, rfl⟩ := hrel
        have hq := stpN_lt j _ hx2
        have hss := stpN_succ j (crcR (s.data.toList.take k) 4294967295 ^^^ s[k].toNat)
        generalize hqe : stpN j (crcR (s.data.toList.take k) 4294967295 ^^^ s[k].toNat) = q at *
        have HSS := Lib.hid hss
        have HQE := Lib.hid hqe
        clear hss hqe
        by_cases hj8 : j < 8
        · by_cases hodd : q % 2 = 1
          · have hpo := xorP q hq
            have ho : ((q : Int) % 2 == 1) = true := by simp; omega
            have hst : stp q = q / 2 ^^^ crcP := by simp [stp, hodd]
            have HODD := Lib.hid hst
            clear hodd hst
            go_wp2
            exact ⟨⟨j + 1, by omega, by go_num, by rw [HSS.out, HODD.out]⟩, by simp [intOf]; omega⟩
          · have ho : ((q : Int) % 2 == 1) = false := by simp; omega
            have hst : stp q = q / 2 := by simp [stp, hodd]
            have HODD := Lib.hid hst
            clear hodd hst
            go_wp2
            exact ⟨⟨j + 1, by omega, by go_num, by rw [HSS.out, HODD.out]; simp⟩, by simp [intOf]; omega⟩
        · have hj8' : ¬ ((j : Int) < 8) := by omega
          obtain rfl : j = 8 := by omega
          clear hj8
          go_wp2
          exact ⟨⟨k + 1, by omega, by go_num, by rw [HS.out, HQE.out]⟩, by simp [intOf]; omega⟩
    · obtain rfl : k = s.size := by omega
      have htk : s.data.toList.take s.size = s.data.toList := List.take_of_length_le (by simp)
      rw [htk] at hr ⊢
      go_wp2_with fail
      go_ret
      exact ⟨ret_int (crc_end _ hr), rfl⟩
theorem wrap64u (n : Nat) (h : n < 18446744073709551616) : IntKind.u64.wrap (n : Int) = n := by
  simp [IntKind.wrap, IntKind.bits, IntKind.signed]; omega
set_option maxHeartbeats 1000000 in
theorem zigzag_any (n : Int) (w : World) (h1 : -4611686018427387903 ≤ n) (h2 : n ≤ 4611686018427387903) :
    Calls Tryd.prog 28 #[.int .i64 n] w fun e w' => e = .returned (.int .u64 (zz n)) ∧ w = w' := by
  by_cases hc : n < 0
  · go_enter Tryd.func28, Tryd.ntmps28
    go_wp2
    go_ret
    exact ⟨ret_int (by unfold zz; rw [if_pos hc]; omega), rfl⟩
  · go_enter Tryd.func28, Tryd.ntmps28
    go_wp2
    go_ret
    exact ⟨ret_int (by unfold zz; rw [if_neg (by omega)]; omega), rfl⟩
set_option maxHeartbeats 1000000 in
theorem refPutInt_no (n : Int) (w : World) (h : okInt n = false) :
    Calls Tryd.prog 13 #[.int .i64 n] w fun e w' => e = .returned (.tuple #[.string ⟨#[]⟩, .int .i64 10]) ∧ w = w' := by
  have hb : ¬ (-4611686018427387903 ≤ n ∧ n ≤ 4611686018427387903) := by
    intro hh
    rw [(okInt_iff n).2 hh] at h
    cases h
  by_cases h1 : n < -4611686018427387903
  · go_enter Tryd.func13, Tryd.ntmps13
    go_wp2
    go_ret2
    exact ⟨rfl, rfl⟩
  · have h2 : 4611686018427387903 < n := by omega
    go_enter Tryd.func13, Tryd.ntmps13
    go_wp2
    go_ret2
    exact ⟨rfl, rfl⟩
set_option maxRecDepth 100000 in
set_option maxHeartbeats 2000000 in
theorem refPutInt_yes (n : Int) (w : World) (h : okInt n = true) :
    Calls Tryd.prog 13 #[.int .i64 n] w fun e w' => e = .returned (.tuple #[.string ⟨(encInt n).toArray⟩, .int .i64 0]) ∧ Below w.heap.size w w' := by
  have hb := (okInt_iff n).1 h
  obtain ⟨z, hz⟩ : ∃ z : Nat, zz n = z := ⟨(zz n).toNat, (Int.toNat_of_nonneg (zz_nonneg n)).symm⟩
  rw [encInt_eq n z hz]
  have HZ := Lib.hid hz
  clear hz
  obtain ⟨E, hE⟩ : ∃ E, enc 8 z = E := ⟨_, rfl⟩
  rw [hE]
  have HE := Lib.hid hE
  clear hE
  obtain ⟨hb1, hb2⟩ := hb
  clear h
  go_enter Tryd.func13, Tryd.ntmps13
  go_wp2_with fail
  refine (zigzag_any n _ hb1 hb2).mono ?_
  rintro e w1 ⟨rfl, rfl⟩
  rw [HZ.out]
  go_wp2_with fail
  obtain ⟨i0, hi, hz0, hz1, hz2⟩ := info_parts infoByte
  go_loopw [4, 5] (fun zv v wr => ∃ (pre : List UInt8) (k x : Nat), zv = .int .u64 x ∧ E = pre ++ enc k x ∧ x < 128 ^ (k + 1) ∧ pre.length + k = 8 ∧ wr.ownsRow w.heap.size 5 1 v pre.length (Lib.byteCells pre) ∧ Below w.heap.size w wr) (fun zv _ _ => (intOf zv).toNat)
  case atStart => exact ⟨[], 8, z, rfl, HE.out.symm, by have := zz_lt n hb1 hb2; rw [HZ.out] at this; omega, rfl, World.ownsRow_nil _ _ _ _, Below.refl _ _⟩
  case round =>
    obtain ⟨pre, k, x, rfl, hx, hv, hpk, hown, bw⟩ := hrel
    have hsz := bw.size
    have hv63 : x < 9223372036854775808 := by
      have : 128 ^ (k + 1) ≤ 128 ^ 9 := Nat.pow_le_pow_right (by omega) (by omega)
      omega
    by_cases hb : 128 ≤ x
    · cases k with
      | zero => simp at hv; omega
      | succ k =>
        have hbb : (((UInt8.ofNat (x % 128 + 128)).toNat : Nat) : Int) = (x : Int) % 128 + 128 := by
          rw [UInt8.toNat_ofNat']; omega
        have hm : ((x : Int) % 128 + 128) % 256 = (x : Int) % 128 + 128 := by omega
        have e8 : enc (k + 1) x = UInt8.ofNat (x % 128 + 128) :: enc k (x / 128) := by rw [enc, if_neg (by omega)]
        have hxx := hx
        rw [e8] at hxx
        have HX := Lib.hid hxx
        have HBB := Lib.hid hbb
        clear e8 hxx hx hbb
        go_wp2_with (at_builtin; refine wpList_append_own _ rfl _ _ 38 rfl w.heap.size 5 i0 (.int .u8 0) 1 1 Tryd.underlying38 hi hz0 hz1 hz2 rfl (by decide) _ _ _ rfl (hown.alloc _) ⟨wr.heap.size, 0, none⟩ 1 1 [.int .u8 ((x : Int) % 128 + 128)] rfl rfl ?c1 ?c2 ?c3 ?c4 ?c5 ?_)
        case c1 =>
          intro j u hj
          match j, hj with
          | 0, hj => simp at hj; subst hj; simp [Addr.add]
        case c2 => intro u hu; simp at hu; subst hu; rfl
        case c3 => unfold maxLen; omega
        case c4 => omega
        case c5 => simp; omega
        intro v' w2 hown' hgrow _
        have bw2 : Below w.heap.size w w2 := (bw.alloc hsz _).grown hgrow (by simp; omega) (fun k hk => (hown.lt k hk).1)
        have hown2 : w2.ownsRow w.heap.size 5 1 v' (pre ++ [UInt8.ofNat (x % 128 + 128)]).length (Lib.byteCells (pre ++ [UInt8.ofNat (x % 128 + 128)])) := by
          rw [byteCells_snoc, HBB.out, List.length_append]; exact hown'
        have HO := Lib.hid hown2
        clear hown hown' hown2 hi hz0 hz1 hz2
        go_wp2
        exact ⟨⟨pre ++ [UInt8.ofNat (x % 128 + 128)], k, x / 128, by simp, by rw [HX.out]; simp, by rw [Nat.div_lt_iff_lt_mul (by omega)]; rw [Nat.pow_succ] at hv; exact hv, by simp; omega, HO.out, bw2⟩, by simp [intOf]; omega⟩
    · have hb' : x ≤ 127 := by omega
      have hm : (x : Int) % 256 = x := by omega
      have hbb : (((UInt8.ofNat x).toNat : Nat) : Int) = (x : Int) := by
        rw [UInt8.toNat_ofNat']; omega
      have hxx : E = pre ++ [UInt8.ofNat x] := by
        rw [hx]
        cases k with
        | zero => rfl
        | succ k => rw [enc, if_pos hb']
      have HX := Lib.hid hxx
      have HBB := Lib.hid hbb
      clear hxx hx hbb
      go_wp2_with (at_builtin; refine wpList_append_own _ rfl _ _ 38 rfl w.heap.size 5 i0 (.int .u8 0) 1 1 Tryd.underlying38 hi hz0 hz1 hz2 rfl (by decide) _ _ _ rfl (hown.alloc _) ⟨wr.heap.size, 0, none⟩ 1 1 [.int .u8 (x : Int)] rfl rfl ?c1 ?c2 ?c3 ?c4 ?c5 ?_)
      case c1 =>
        intro j u hj
        match j, hj with
        | 0, hj => simp at hj; subst hj; simp [Addr.add]
      case c2 => intro u hu; simp at hu; subst hu; rfl
      case c3 => unfold maxLen; omega
      case c4 => omega
      case c5 => simp; omega
      intro v' w2 hown' hgrow _
      have bw2 : Below w.heap.size w w2 := (bw.alloc hsz _).grown hgrow (by simp; omega) (fun k hk => (hown.lt k hk).1)
      obtain ⟨g, cap, rfl⟩ := ownsRow_succ hown'
      have hlE : E.length = pre.length + 1 := by rw [HX.out]; simp
      have hown2 : w2.ownsRow w.heap.size 5 1 (.slice (some ⟨g, 0, none⟩) (pre.length + 1) cap) (pre.length + 1) (Lib.byteCells E) := by
        rw [HX.out, byteCells_snoc, HBB.out]; exact hown'
      have hcv : (convert 38 9 (.slice (some ⟨g, 0, none⟩) (pre.length + 1) cap)).run Tryd.prog w2 = .ok (.string ⟨E.toArray⟩) w2 := by
        have := run_convert_bytes_back (P := Tryd.prog) w2 38 9 5 ⟨g, 0, none⟩ cap E Tryd.underlying38 Tryd.underlying5 Tryd.underlying9 (fun j hj => by
          have h := hown2.cellAt j (by omega)
          have e : (⟨g, 0, none⟩ : Addr).add j = ⟨g, j, none⟩ := by unfold Addr.add; split <;> simp_all
          rw [e, h]
          simp [Lib.byteCells, hj])
        rw [hlE] at this
        exact this
      clear hown hown' hown2 hlE hi hz0 hz1 hz2
      go_wp2
      go_ret2
      exact ⟨rfl, bw2⟩
set_option maxHeartbeats 1000000 in
theorem refPutStr_no (s : ByteArray) (w : World) (h : 65536 < s.size) (hs : s.size ≤ maxLen) :
    Calls Tryd.prog 20 #[.string s] w fun e w' => e = .returned (.tuple #[.string ⟨#[]⟩, .int .i64 10]) ∧ w = w' := by
  unfold maxLen at hs
  go_enter Tryd.func20, Tryd.ntmps20
  go_wp2
  go_ret2
  exact ⟨rfl, rfl⟩
set_option maxHeartbeats 1000000 in
theorem refPutStr_yes (s : ByteArray) (w : World) (h : s.size ≤ 65536) :
    Calls Tryd.prog 20 #[.string s] w fun e w' => e = .returned (.tuple #[.string ((⟨(encInt s.size).toArray⟩ : ByteArray) ++ s), .int .i64 0]) ∧ Below w.heap.size w w' := by
  have hl : (encInt s.size).length ≤ 9 := enc_len _ _
  go_enter Tryd.func20, Tryd.ntmps20
  go_wp2_with fail
  refine (refPutInt_yes s.size w (by rw [okInt_iff]; omega)).mono ?_
  rintro e w' ⟨rfl, hb⟩
  go_wp2
  go_ret2
  exact ⟨rfl, hb⟩
/-- What one round that ends the reading finds. -/
theorem dcd_end (D : List UInt8) (k zn : Nat) (b : UInt8) (hk : k < D.length) (_ : D[k] = b) (_ : b.toNat < 128) (hd : dcd D = if b.toNat = 0 ∧ 0 < k then (0, 0) else (zn + b.toNat % 128 * 128 ^ k, k + 1)) (h2 : ¬ (b.toNat = 0 ∧ 0 < k)) :
    encInt (unzz ((zn + b.toNat % 128 * 128 ^ k : Nat) : Int)) = D.take (k + 1) := by
  rw [if_neg h2] at hd
  have h3 : (dcd D).2 ≠ 0 := by rw [hd]; simp
  obtain ⟨h4, h5, h6⟩ := dcd_some D h3
  rw [hd] at h4 h5 h6
  simp only at h4 h5 h6
  have e : encInt (unzz ((zn + b.toNat % 128 * 128 ^ k : Nat) : Int)) = enc 8 (zn + b.toNat % 128 * 128 ^ k) := by rw [encInt, zz_unzz _ (Int.natCast_nonneg _), Int.toNat_natCast]
  rw [e, h5]
  exact List.prefix_iff_eq_take.1 h6
theorem dcd_not (D : List UInt8) (n : Int) (hn : okInt n = true) (k : Nat) (hd : dcd D = (0, 0)) : ¬ encInt n = D.take (k + 1) := by
  intro h
  have h1 := dcd_enc n hn (D.drop (k + 1))
  rw [h, List.take_append_drop, hd] at h1
  have h2 := congrArg Prod.snd h1
  have h3 := enc_pos 8 (zz n).toNat
  simp only at h2
  rw [← h] at h2
  unfold encInt at h2
  omega
theorem add_group (zn k b : Nat) (hzn : zn < 128 ^ k) (hk : k < 9) : IntKind.u64.wrap ((zn : Int) + IntKind.u64.wrap ((b : Int) % 128 * 2 ^ (7 * k))) = ((zn + b % 128 * 128 ^ k : Nat) : Int) := by
  have e : (2 : Nat) ^ (7 * k) = 128 ^ k := by rw [Nat.pow_mul]
  have h1 := group_lt zn k b hzn
  have h2 := pow_le9 k hk
  have h3 : ((b : Int) % 128 * 2 ^ (7 * k)) = ((b % 128 * 128 ^ k : Nat) : Int) := by rw [← e]; simp
  rw [h3, wrap64u _ (by omega), ← Int.natCast_add, wrap64u _ (by omega)]
set_option maxRecDepth 100000 in
set_option maxHeartbeats 8000000 in
theorem refInt_any (s : ByteArray) (at' : Int) (w : World) (hs : s.size ≤ maxLen) :
    Calls Tryd.prog 16 #[.string s, .int .i64 at'] w fun e w' => e = .returned (.tuple #[.int .i64 (intAt s.data.toList at').1, .int .i64 (intAt s.data.toList at').2.1, .int .i64 (intAt s.data.toList at').2.2]) ∧ Below w.heap.size w w' := by
  have hsl : (s.data.toList.length : Int) = s.size := by simp
  by_cases hneg : at' < 0
  · have hi : intAt s.data.toList at' = (0, 0, 2) := by unfold intAt; rw [if_pos (.inl hneg)]
    rw [hi]
    clear hi
    go_enter Tryd.func16, Tryd.ntmps16
    go_wp2
    go_ret3
    exact ⟨rfl, Below.refl _ _⟩
  · by_cases hbig : (s.size : Int) < at'
    · have hi : intAt s.data.toList at' = (0, 0, 2) := by unfold intAt; rw [if_pos (.inr (by omega))]
      rw [hi]
      clear hi
      go_enter Tryd.func16, Tryd.ntmps16
      go_wp2
      go_ret3
      exact ⟨rfl, Below.refl _ _⟩
    · obtain ⟨p, rfl⟩ := Int.eq_ofNat_of_zero_le (show 0 ≤ at' by omega)
      have hi : intAt s.data.toList (p : Int) = if good (s.data.toList.drop p) then (unzz (dcd (s.data.toList.drop p)).1, (p : Int) + (dcd (s.data.toList.drop p)).2, 0) else (0, 0, 10) := by
        unfold intAt; rw [if_neg (by omega)]; simp
      rw [hi]
      clear hi hsl
      unfold maxLen at hs
      obtain ⟨R, hR⟩ : ∃ R : Int × Int × Int, (if good (s.data.toList.drop p) then (unzz (dcd (s.data.toList.drop p)).1, (p : Int) + (dcd (s.data.toList.drop p)).2, 0) else (0, 0, 10)) = R := ⟨_, rfl⟩
      rw [hR]
      have HR := Lib.hid hR
      clear hR
      go_enter Tryd.func16, Tryd.ntmps16
      go_wp2
      go_loop [7, 8] (fun z i => ∃ k zn : Nat, p + k ≤ s.size ∧ k ≤ 9 ∧ i = .int .i64 k ∧ z = .int .u64 zn ∧ zn < 128 ^ k ∧ jn (9 - k) k zn (s.data.toList.drop (p + k)) = dcd (s.data.toList.drop p)) (fun _ i => 9 - (intOf i).toNat)
      case atStart => exact ⟨0, 0, by omega, Nat.zero_le _, rfl, rfl, by simp, rfl⟩
      case round =>
        obtain ⟨k, zn, hk, hk9, rfl, rfl, hzn, hj⟩ := hrel
        by_cases hlt : p + k < s.size
        · by_cases h9 : k < 9
          · have hbt : (s[p + k]).toNat < 256 := (s[p + k]).toNat_lt
            have hgl := group_lt zn k (s[p + k]).toNat hzn
            have hp9 := pow_le9 k h9
            rw [bytes_drop s (p + k) hlt] at hj
            obtain ⟨m, hm⟩ : ∃ m, 9 - k = m + 1 := ⟨8 - k, by omega⟩
            have hm' : m = 9 - (k + 1) := by omega
            rw [hm, jn, hm'] at hj
            by_cases hb : 128 ≤ (s[p + k]).toNat
            · rw [if_pos hb] at hj
              have HJ := Lib.hid hj
              have HG := Lib.hid hgl
              have hlti : (p : Int) + k < s.size := by omega
              have hidx : ((p : Int) + k).toNat = p + k := by omega
              clear hj hm hm' hgl hp9
              have HO := Lib.hid (add_group zn k (s[p + k]).toNat hzn h9)
              go_wp2_with fail
              exact ⟨⟨k + 1, _, by omega, by omega, by go_num, by rw [HO.out], HG.out, by rw [← Nat.add_assoc]; exact HJ.out⟩, by simp [intOf]; omega⟩
            · rw [if_neg hb] at hj
              have hO := add_group zn k (s[p + k]).toNat hzn h9
              obtain ⟨V, hpv⟩ : ∃ V, zn + (s[p + k]).toNat % 128 * 128 ^ k = V := ⟨_, rfl⟩
              rw [hpv] at hO hgl
              have HV := Lib.hid hpv
              have HJ := Lib.hid hj
              have HEN : True := trivial
              have hV : V < 9223372036854775808 := by omega
              have hlti : (p : Int) + k < s.size := by omega
              have hidx : ((p : Int) + k).toNat = p + k := by omega
              have hlti2 : (p : Int) + k + 1 ≤ s.size := by omega
              have hidx2 : ((p : Int) + k + 1).toNat = p + k + 1 := by omega
              have hpp : (p : Int) ≤ (p : Int) + k + 1 := by omega
              clear hj hm hm' hgl hp9
              cases hokv : okInt (unzz (V : Int))
              · by_cases hodd : (V : Int) % 2 = 1
                · have hpar : ((V : Int) % 2 == 1) = true := by simp; omega
                  have hnv : unzz (V : Int) = -((V : Int) / 2) - 1 := by unfold unzz; rw [if_pos (by omega)]
                  rw [hnv] at hokv
                  have hRv : R = (0, 0, 10) := by
                    rw [← HR.out]; unfold good; rw [← HJ.out]
                    by_cases hsup : (s[p + k]).toNat = 0 ∧ 0 < k
                    · rw [if_pos hsup]; rfl
                    · rw [if_neg hsup, HV.out]; simp only; rw [hnv, hokv]; simp
                  have HRV := Lib.hid hRv
                  have KP := Lib.hid (fun wx => refPutInt_no _ wx hokv)
                  clear hnv HR HJ HEN HV hpv hokv hRv
                  go_wp2_with fail
                  refine (KP.out _).mono ?_
                  rintro e w2 ⟨rfl, rfl⟩
                  go_wp2_with fail
                  go_ret3
                  rw [HRV.out]
                  exact ⟨rfl, Below.refl _ _⟩
                · have hpar : ((V : Int) % 2 == 1) = false := by simp; omega
                  have hnv : unzz (V : Int) = (V : Int) / 2 := by unfold unzz; rw [if_neg (by omega)]
                  rw [hnv] at hokv
                  have hRv : R = (0, 0, 10) := by
                    rw [← HR.out]; unfold good; rw [← HJ.out]
                    by_cases hsup : (s[p + k]).toNat = 0 ∧ 0 < k
                    · rw [if_pos hsup]; rfl
                    · rw [if_neg hsup, HV.out]; simp only; rw [hnv, hokv]; simp
                  have HRV := Lib.hid hRv
                  have KP := Lib.hid (fun wx => refPutInt_no _ wx hokv)
                  clear hnv HR HJ HEN HV hpv hokv hRv
                  go_wp2_with fail
                  refine (KP.out _).mono ?_
                  rintro e w2 ⟨rfl, rfl⟩
                  go_wp2_with fail
                  go_ret3
                  rw [HRV.out]
                  exact ⟨rfl, Below.refl _ _⟩
              · by_cases hsup : (s[p + k]).toNat = 0 ∧ 0 < k
                · by_cases hodd : (V : Int) % 2 = 1
                  · have hpar : ((V : Int) % 2 == 1) = true := by simp; omega
                    have hnv : unzz (V : Int) = -((V : Int) / 2) - 1 := by unfold unzz; rw [if_pos (by omega)]
                    rw [hnv] at hokv
                    have hRv : R = (0, 0, 10) := by
                      rw [← HR.out]; unfold good; rw [← HJ.out, if_pos hsup]; rfl
                    have hne : (encInt (-((V : Int) / 2) - 1) == (s.extract p (p + k + 1)).toList) = false := by
                      have h1 := dcd_not (s.data.toList.drop p) _ hokv k (by rw [← HJ.out, if_pos hsup])
                      rw [ByteArray.toList_eq, extract_toList, show p + k + 1 - p = k + 1 by omega]
                      simpa using h1
                    have HRV := Lib.hid hRv
                    have h9e : (encInt (-((V : Int) / 2) - 1)).length ≤ 9 := enc_len _ _
                    have KP := Lib.hid (fun wx => refPutInt_yes _ wx hokv)
                    generalize encInt (-((V : Int) / 2) - 1) = E at *
                    clear hnv HR HJ HEN HV hpv hokv hRv hsup
                    go_wp2_with fail
                    refine (KP.out _).mono ?_
                    rintro e w2 ⟨rfl, b2⟩
                    go_wp2_with fail
                    go_ret3
                    rw [HRV.out]
                    exact ⟨rfl, b2⟩
                  · have hpar : ((V : Int) % 2 == 1) = false := by simp; omega
                    have hnv : unzz (V : Int) = (V : Int) / 2 := by unfold unzz; rw [if_neg (by omega)]
                    rw [hnv] at hokv
                    have hRv : R = (0, 0, 10) := by
                      rw [← HR.out]; unfold good; rw [← HJ.out, if_pos hsup]; rfl
                    have hne : (encInt ((V : Int) / 2) == (s.extract p (p + k + 1)).toList) = false := by
                      have h1 := dcd_not (s.data.toList.drop p) _ hokv k (by rw [← HJ.out, if_pos hsup])
                      rw [ByteArray.toList_eq, extract_toList, show p + k + 1 - p = k + 1 by omega]
                      simpa using h1
                    have HRV := Lib.hid hRv
                    have h9e : (encInt ((V : Int) / 2)).length ≤ 9 := enc_len _ _
                    have KP := Lib.hid (fun wx => refPutInt_yes _ wx hokv)
                    generalize encInt ((V : Int) / 2) = E at *
                    clear hnv HR HJ HEN HV hpv hokv hRv hsup
                    go_wp2_with fail
                    refine (KP.out _).mono ?_
                    rintro e w2 ⟨rfl, b2⟩
                    go_wp2_with fail
                    go_ret3
                    rw [HRV.out]
                    exact ⟨rfl, b2⟩
                · by_cases hodd : (V : Int) % 2 = 1
                  · have hpar : ((V : Int) % 2 == 1) = true := by simp; omega
                    have hnv : unzz (V : Int) = -((V : Int) / 2) - 1 := by unfold unzz; rw [if_pos (by omega)]
                    rw [hnv] at hokv
                    have hRv : R = (-((V : Int) / 2) - 1, (p : Int) + k + 1, 0) := by
                      rw [← HR.out]; unfold good; rw [← HJ.out, if_neg hsup, HV.out]; simp only; rw [hnv, hokv]; simp; omega
                    have hne : (encInt (-((V : Int) / 2) - 1) == (s.extract p (p + k + 1)).toList) = true := by
                      have h1 := dcd_end (s.data.toList.drop p) k zn (s[p + k]) (by rw [List.length_drop, bytes_len]; omega) (by rw [List.getElem_drop]; rfl) (by omega) HJ.out.symm hsup
                      rw [HV.out, hnv] at h1
                      rw [ByteArray.toList_eq, extract_toList, show p + k + 1 - p = k + 1 by omega, h1]; simp
                    have HRV := Lib.hid hRv
                    have h9e : (encInt (-((V : Int) / 2) - 1)).length ≤ 9 := enc_len _ _
                    have KP := Lib.hid (fun wx => refPutInt_yes _ wx hokv)
                    generalize encInt (-((V : Int) / 2) - 1) = E at *
                    clear hnv HR HJ HEN HV hpv hokv hRv hsup
                    go_wp2_with fail
                    refine (KP.out _).mono ?_
                    rintro e w2 ⟨rfl, b2⟩
                    go_wp2_with fail
                    go_ret3
                    rw [HRV.out]
                    exact ⟨rfl, b2⟩
                  · have hpar : ((V : Int) % 2 == 1) = false := by simp; omega
                    have hnv : unzz (V : Int) = (V : Int) / 2 := by unfold unzz; rw [if_neg (by omega)]
                    rw [hnv] at hokv
                    have hRv : R = ((V : Int) / 2, (p : Int) + k + 1, 0) := by
                      rw [← HR.out]; unfold good; rw [← HJ.out, if_neg hsup, HV.out]; simp only; rw [hnv, hokv]; simp; omega
                    have hne : (encInt ((V : Int) / 2) == (s.extract p (p + k + 1)).toList) = true := by
                      have h1 := dcd_end (s.data.toList.drop p) k zn (s[p + k]) (by rw [List.length_drop, bytes_len]; omega) (by rw [List.getElem_drop]; rfl) (by omega) HJ.out.symm hsup
                      rw [HV.out, hnv] at h1
                      rw [ByteArray.toList_eq, extract_toList, show p + k + 1 - p = k + 1 by omega, h1]; simp
                    have HRV := Lib.hid hRv
                    have h9e : (encInt ((V : Int) / 2)).length ≤ 9 := enc_len _ _
                    have KP := Lib.hid (fun wx => refPutInt_yes _ wx hokv)
                    generalize encInt ((V : Int) / 2) = E at *
                    clear hnv HR HJ HEN HV hpv hokv hRv hsup
                    go_wp2_with fail
                    refine (KP.out _).mono ?_
                    rintro e w2 ⟨rfl, b2⟩
                    go_wp2_with fail
                    go_ret3
                    rw [HRV.out]
                    exact ⟨rfl, b2⟩
          · obtain rfl : k = 9 := by omega
            have hRv : R = (0, 0, 10) := by
              rw [← HR.out]; unfold good; rw [← hj]; rfl
            have HRV := Lib.hid hRv
            clear hj hRv HR
            go_wp2
            go_ret3
            rw [HRV.out]
            exact ⟨rfl, Below.refl _ _⟩
        · have hjj : dcd (s.data.toList.drop p) = (0, 0) := by
            rw [← hj, List.drop_of_length_le (by rw [bytes_len]; omega)]
            cases 9 - k <;> rfl
          have hRv : R = (0, 0, 10) := by
            rw [← HR.out]; unfold good; rw [hjj]; rfl
          have HRV := Lib.hid hRv
          clear hj hjj hRv HR
          go_wp2
          all_goals go_ret3
          all_goals rw [HRV.out]
          all_goals exact ⟨rfl, Below.refl _ _⟩
set_option maxHeartbeats 1000000 in
theorem refString_any (s : ByteArray) (at' : Int) (w : World) (hs : s.size ≤ maxLen) :
    Calls Tryd.prog 18 #[.string s, .int .i64 at'] w fun e w' => e = .returned (.tuple #[.string ⟨(strAt s.data.toList at').1.toArray⟩, .int .i64 (strAt s.data.toList at').2.1, .int .i64 (strAt s.data.toList at').2.2]) ∧ Below w.heap.size w w' := by
  have hi := refInt_any s at' w hs
  have hok := intAt_ok s.data.toList at'
  have her := intAt_err s.data.toList at'
  unfold strAt
  simp only
  generalize intAt s.data.toList at' = r at *
  obtain ⟨n, start, err⟩ := r
  simp only at hi hok her ⊢
  have hsl : (s.data.toList.length : Int) = s.size := by simp
  have HI := Lib.hid hi
  clear hi
  unfold maxLen at hs
  by_cases he : err = 0
  · subst he
    obtain ⟨h1, h2, h3, h4, h5⟩ := hok rfl
    rw [okInt_iff] at h3
    rw [if_pos rfl]
    clear hok her
    rw [hsl] at h2 h5 ⊢
    by_cases hn : n < 0
    · rw [if_pos (.inl hn)]
      go_enter Tryd.func18, Tryd.ntmps18
      go_wp2_with fail
      refine HI.out.mono ?_
      rintro e w' ⟨rfl, hb⟩
      go_wp2
      go_ret3
      exact ⟨rfl, hb⟩
    · by_cases hn2 : 65536 < n
      · rw [if_pos (.inr (.inl hn2))]
        go_enter Tryd.func18, Tryd.ntmps18
        go_wp2_with fail
        refine HI.out.mono ?_
        rintro e w' ⟨rfl, hb⟩
        go_wp2
        go_ret3
        exact ⟨rfl, hb⟩
      · by_cases hn3 : (s.size : Int) - start < n
        · rw [if_pos (.inr (.inr hn3))]
          go_enter Tryd.func18, Tryd.ntmps18
          go_wp2_with fail
          refine HI.out.mono ?_
          rintro e w' ⟨rfl, hb⟩
          go_wp2
          go_ret3
          exact ⟨rfl, hb⟩
        · rw [if_neg (by omega)]
          obtain ⟨k, rfl⟩ := Int.eq_ofNat_of_zero_le (show 0 ≤ n by omega)
          obtain ⟨st, rfl⟩ := Int.eq_ofNat_of_zero_le (show 0 ≤ start by omega)
          clear h3 hsl
          have hj1 : (st : Int) + k ≤ s.size := by omega
          have hj2 : (st : Int) ≤ st + k := by omega
          have hexl : (s.extract st (st + k)).data.toList = (s.data.toList.drop st).take k := by rw [extract_toList]; congr 1; omega
          have HX := Lib.hid hexl
          clear hexl
          have hsum : ((st : Int) + k).toNat = st + k := by omega
          go_enter Tryd.func18, Tryd.ntmps18
          go_wp2_with fail
          refine HI.out.mono ?_
          rintro e w' ⟨rfl, hb⟩
          go_wp2
          go_ret3
          refine ⟨ret_sii (bytes_ext (by rw [HX.out]; simp)) rfl rfl, hb⟩
  · have heq : ((err : Int) == 0) = false := by simp [he]
    rw [if_neg he]
    go_enter Tryd.func18, Tryd.ntmps18
    go_wp2_with fail
    refine HI.out.mono ?_
    rintro e w' ⟨rfl, hb⟩
    go_wp2
    go_ret3
    exact ⟨rfl, hb⟩
theorem putInt_both (n : Int) : ∃ (E : List UInt8) (c : Int), (∀ w, Calls Tryd.prog 12 #[.int .i64 n] w fun e w' => e = .returned (.tuple #[.string ⟨E.toArray⟩, .int .i64 c]) ∧ Below w.heap.size w w') ∧
    (∀ w, Calls Tryd.prog 13 #[.int .i64 n] w fun e w' => e = .returned (.tuple #[.string ⟨E.toArray⟩, .int .i64 c]) ∧ Below w.heap.size w w') := by
  cases h : okInt n
  · exact ⟨[], 10, fun w => (putInt_no n w h).mono fun _ _ ⟨he, hw⟩ => ⟨he, hw ▸ Below.refl _ _⟩, fun w => (refPutInt_no n w h).mono fun _ _ ⟨he, hw⟩ => ⟨he, hw ▸ Below.refl _ _⟩⟩
  · exact ⟨encInt n, 0, fun w => putInt_yes n w h, fun w => refPutInt_yes n w h⟩
theorem int_both (s : ByteArray) (k : Int) (hs : s.size ≤ maxLen) : ∃ (a b c : Int), (∀ w, Calls Tryd.prog 15 #[.string s, .int .i64 k] w fun e w' => e = .returned (.tuple #[.int .i64 a, .int .i64 b, .int .i64 c]) ∧ Below w.heap.size w w') ∧
    (∀ w, Calls Tryd.prog 16 #[.string s, .int .i64 k] w fun e w' => e = .returned (.tuple #[.int .i64 a, .int .i64 b, .int .i64 c]) ∧ Below w.heap.size w w') :=
  ⟨_, _, _, fun w => (int_any s k w hs).mono fun _ _ ⟨he, hw⟩ => ⟨he, hw ▸ Below.refl _ _⟩, fun w => refInt_any s k w hs⟩
theorem string_both (s : ByteArray) (k : Int) (hs : s.size ≤ maxLen) : ∃ (a : List UInt8) (b c : Int), (∀ w, Calls Tryd.prog 17 #[.string s, .int .i64 k] w fun e w' => e = .returned (.tuple #[.string ⟨a.toArray⟩, .int .i64 b, .int .i64 c]) ∧ Below w.heap.size w w') ∧
    (∀ w, Calls Tryd.prog 18 #[.string s, .int .i64 k] w fun e w' => e = .returned (.tuple #[.string ⟨a.toArray⟩, .int .i64 b, .int .i64 c]) ∧ Below w.heap.size w w') :=
  ⟨_, _, _, fun w => string_any s k w hs, fun w => refString_any s k w hs⟩
end Go.Proofs.YtpondhlijlbmfaaDoor
