/- The reference of the encoding of an integer and of a text, and number. -/
import Derived.Test.YtdhioalfgogcdaaGreatDoorBlkR
import Derived.Laws.AppendOwn
import Derived.Laws.OwnMore
namespace Go.Proofs.YtdhioalfgogcdaaGreatDoor
open Go.RowKit Go.Shelf
set_option maxRecDepth 100000
set_option linter.unusedSimpArgs false
set_option linter.unusedVariables false
theorem wrap64u (n : Nat) (h : n < 18446744073709551616) : IntKind.u64.wrap (n : Int) = n := by
  simp [IntKind.wrap, IntKind.bits, IntKind.signed]; omega
set_option maxHeartbeats 1000000 in
theorem zigzag_any (n : Int) (w : World) (h1 : -4611686018427387903 ≤ n) (h2 : n ≤ 4611686018427387903) :
    Calls Tryz.prog 99 #[.int .i64 n] w fun e w' => e = .returned (.int .u64 (zz n)) ∧ w = w' := by
  by_cases hc : n < 0
  · go_enter Tryz.func99, Tryz.ntmps99
    go_wp2
    go_ret
    exact ⟨ret_int (by unfold zz; rw [if_pos hc]; omega), rfl⟩
  · go_enter Tryz.func99, Tryz.ntmps99
    go_wp2
    go_ret
    exact ⟨ret_int (by unfold zz; rw [if_neg (by omega)]; omega), rfl⟩
set_option maxHeartbeats 1000000 in
theorem refPutInt_no (n : Int) (w : World) (h : okInt n = false) :
    Calls Tryz.prog 94 #[.int .i64 n] w fun e w' => e = .returned (.tuple #[.string ⟨#[]⟩, .int .i64 10]) ∧ w = w' := by
  have hb : ¬ (-4611686018427387903 ≤ n ∧ n ≤ 4611686018427387903) := by
    intro hh
    rw [(okInt_iff n).2 hh] at h
    cases h
  by_cases h1 : n < -4611686018427387903
  · go_enter Tryz.func94, Tryz.ntmps94
    go_wp2
    go_ret2
    exact ⟨rfl, rfl⟩
  · have h2 : 4611686018427387903 < n := by omega
    go_enter Tryz.func94, Tryz.ntmps94
    go_wp2
    go_ret2
    exact ⟨rfl, rfl⟩
set_option maxHeartbeats 2000000 in
theorem refPutInt_yes (n : Int) (w : World) (h : okInt n = true) :
    Calls Tryz.prog 94 #[.int .i64 n] w fun e w' => e = .returned (.tuple #[.string ⟨(encInt n).toArray⟩, .int .i64 0]) ∧ Below w.heap.size w w' := by
  have hb := (okInt_iff n).1 h
  obtain ⟨z, hz⟩ : ∃ z : Nat, zz n = z := ⟨(zz n).toNat, (Int.toNat_of_nonneg (zz_nonneg n)).symm⟩
  rw [encInt_eq n z hz]
  have HZ := Lib.hid hz
  clear hz
  obtain ⟨E, hE⟩ : ∃ E, enc 8 z = E := ⟨_, rfl⟩
  rw [hE]
  have HE := Lib.hid hE
  clear hE
  obtain ⟨hb1, hb2⟩ := hb
  clear h
  go_enter Tryz.func94, Tryz.ntmps94
  go_wp2_with fail
  refine (zigzag_any n _ hb1 hb2).mono ?_
  rintro e w1 ⟨rfl, rfl⟩
  rw [HZ.out]
  go_wp2_with fail
  obtain ⟨i0, hi, hz0, hz1, hz2⟩ := info_parts infoByte
  go_loopw [4, 5] (fun zv v wr => ∃ (pre : List UInt8) (k x : Nat), zv = .int .u64 x ∧ E = pre ++ enc k x ∧ x < 128 ^ (k + 1) ∧ pre.length + k = 8 ∧ wr.ownsRow w.heap.size 5 1 v pre.length (Lib.byteCells pre) ∧ Below w.heap.size w wr) (fun zv _ _ => (intOf zv).toNat)
  case atStart => exact ⟨[], 8, z, rfl, HE.out.symm, by have := zz_lt n hb1 hb2; rw [HZ.out] at this; omega, rfl, World.ownsRow_nil _ _ _ _, Below.refl _ _⟩
  case round =>
    obtain ⟨pre, k, x, rfl, hx, hv, hpk, hown, bw⟩ := hrel
    have hsz := bw.size
    have hv63 : x < 9223372036854775808 := by
      have : 128 ^ (k + 1) ≤ 128 ^ 9 := Nat.pow_le_pow_right (by omega) (by omega)
      omega
    by_cases hb : 128 ≤ x
    · cases k with
      | zero => simp at hv; omega
      | succ k =>
        have hbb : (((UInt8.ofNat (x % 128 + 128)).toNat : Nat) : Int) = (x : Int) % 128 + 128 := by
          rw [UInt8.toNat_ofNat']; omega
        have hm : ((x : Int) % 128 + 128) % 256 = (x : Int) % 128 + 128 := by omega
        have e8 : enc (k + 1) x = UInt8.ofNat (x % 128 + 128) :: enc k (x / 128) := by rw [enc, if_neg (by omega)]
        have hxx := hx
        rw [e8] at hxx
        have HX := Lib.hid hxx
        have HBB := Lib.hid hbb
        clear e8 hxx hx hbb
        go_wp2_with (at_builtin; refine wpList_append_own _ rfl _ _ 53 rfl w.heap.size 5 i0 (.int .u8 0) 1 1 Tryz.underlying53 hi hz0 hz1 hz2 rfl (by decide) _ _ _ rfl (hown.alloc _) ⟨wr.heap.size, 0, none⟩ 1 1 [.int .u8 ((x : Int) % 128 + 128)] rfl rfl ?c1 ?c2 ?c3 ?c4 ?c5 ?_)
        case c1 =>
          intro j u hj
          match j, hj with
          | 0, hj => simp at hj; subst hj; simp [Addr.add]
        case c2 => intro u hu; simp at hu; subst hu; rfl
        case c3 => unfold maxLen; omega
        case c4 => omega
        case c5 => simp; omega
        intro v' w2 hown' hgrow _
        have bw2 : Below w.heap.size w w2 := (bw.alloc hsz _).grown hgrow (by simp; omega) (fun k hk => (hown.lt k hk).1)
        have hown2 : w2.ownsRow w.heap.size 5 1 v' (pre ++ [UInt8.ofNat (x % 128 + 128)]).length (Lib.byteCells (pre ++ [UInt8.ofNat (x % 128 + 128)])) := by
          rw [byteCells_snoc, HBB.out, List.length_append]; exact hown'
        have HO := Lib.hid hown2
        clear hown hown' hown2 hi hz0 hz1 hz2
        go_wp2
        exact ⟨⟨pre ++ [UInt8.ofNat (x % 128 + 128)], k, x / 128, by simp, by rw [HX.out]; simp, by rw [Nat.div_lt_iff_lt_mul (by omega)]; rw [Nat.pow_succ] at hv; exact hv, by simp; omega, HO.out, bw2⟩, by simp [intOf]; omega⟩
    · have hb' : x ≤ 127 := by omega
      have hm : (x : Int) % 256 = x := by omega
      have hbb : (((UInt8.ofNat x).toNat : Nat) : Int) = (x : Int) := by
        rw [UInt8.toNat_ofNat']; omega
      have hxx : E = pre ++ [UInt8.ofNat x] := by
        rw [hx]
        cases k with
        | zero => rfl
        | succ k => rw [enc, if_pos hb']
      have HX := Lib.hid hxx
      have HBB := Lib.hid hbb
      clear hxx hx hbb
      go_wp2_with (at_builtin; refine wpList_append_own _ rfl _ _ 53 rfl w.heap.size 5 i0 (.int .u8 0) 1 1 Tryz.underlying53 hi hz0 hz1 hz2 rfl (by decide) _ _ _ rfl (hown.alloc _) ⟨wr.heap.size, 0, none⟩ 1 1 [.int .u8 (x : Int)] rfl rfl ?c1 ?c2 ?c3 ?c4 ?c5 ?_)
      case c1 =>
        intro j u hj
        match j, hj with
        | 0, hj => simp at hj; subst hj; simp [Addr.add]
      case c2 => intro u hu; simp at hu; subst hu; rfl
      case c3 => unfold maxLen; omega
      case c4 => omega
      case c5 => simp; omega
      intro v' w2 hown' hgrow _
      have bw2 : Below w.heap.size w w2 := (bw.alloc hsz _).grown hgrow (by simp; omega) (fun k hk => (hown.lt k hk).1)
      obtain ⟨g, cap, rfl⟩ := ownsRow_succ hown'
      have hlE : E.length = pre.length + 1 := by rw [HX.out]; simp
      have hown2 : w2.ownsRow w.heap.size 5 1 (.slice (some ⟨g, 0, none⟩) (pre.length + 1) cap) (pre.length + 1) (Lib.byteCells E) := by
        rw [HX.out, byteCells_snoc, HBB.out]; exact hown'
      have hcv : (convert 53 9 (.slice (some ⟨g, 0, none⟩) (pre.length + 1) cap)).run Tryz.prog w2 = .ok (.string ⟨E.toArray⟩) w2 := by
        have := run_convert_bytes_back (P := Tryz.prog) w2 53 9 5 ⟨g, 0, none⟩ cap E Tryz.underlying53 Tryz.underlying5 Tryz.underlying9 (fun j hj => by
          have h := hown2.cellAt j (by omega)
          have e : (⟨g, 0, none⟩ : Addr).add j = ⟨g, j, none⟩ := by unfold Addr.add; split <;> simp_all
          rw [e, h]
          simp [Lib.byteCells, hj])
        rw [hlE] at this
        exact this
      clear hown hown' hown2 hlE hi hz0 hz1 hz2
      go_wp2
      go_ret2
      exact ⟨rfl, bw2⟩
end Go.Proofs.YtdhioalfgogcdaaGreatDoor
