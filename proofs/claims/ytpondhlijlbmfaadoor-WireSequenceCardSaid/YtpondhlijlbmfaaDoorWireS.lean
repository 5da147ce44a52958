/- Package wire: what Sum returns, for all strings. -/
import Derived.Test.YtpondhlijlbmfaaDoorProg
import Derived.Test.YtpondhlijlbmfaaDoorWireP
import Derived.WalkKit
import Derived.RangeFuncOwn
import Derived.Laws.BitsAllLaws
import Derived.Lib.Hide
namespace Go.Proofs.YtpondhlijlbmfaaDoor
open Go.RowKit
def tabL : List Int := [0, 274646895, 549293790, 820201905, 1098587580, 1361435347, 1640403810, 1905808397, 2197175160, 2460548119, 2722870694, 2987750089, 3280807620, 3553878443, 3811616794, 4084100981]
def Tab (w : World) : Prop := ∀ i, i < 16 → w.cell? ⟨0, i, none⟩ = some (.int .u32 (tabL.getD i 0))
theorem tab_eq : ∀ i : Fin 16, tabL.getD i.val 0 = ((stpN 4 i.val : Nat) : Int) := by decide
theorem ret_sum {k : IntKind} {a b : Int} (h : a = b) : Ending.returned (.int k a) = .returned (.int k b) := by rw [h]
theorem add_xor16 (b v : Nat) (h : b < 16) : b + 16 * v = b ^^^ 16 * v := by
  have h1 := Nat.two_pow_add_eq_or_of_lt (i := 4) (b := b) (by simpa using h) v
  have h2 : 16 * v ^^^ b = 16 * v ||| b := by
    apply Nat.eq_of_testBit_eq
    intro i
    rw [Nat.testBit_xor, Nat.testBit_or, show (16 : Nat) = 2 ^ 4 from rfl, Nat.testBit_two_pow_mul]
    by_cases hi : 4 ≤ i
    · have : b.testBit i = false := Nat.testBit_lt_two_pow (Nat.lt_of_lt_of_le h (by have := Nat.pow_le_pow_right (n := 2) (by omega) hi; simpa using this))
      simp [this]
    · simp [hi]
  rw [Nat.xor_comm, h2, Nat.add_comm]
  simpa using h1
theorem stp4 (r : Nat) : stpN 4 r = r / 16 ^^^ stpN 4 (r % 16) := by
  have h : r = r % 16 ^^^ 2 ^ 4 * (r / 16) := by
    have := add_xor16 (r % 16) (r / 16) (by omega)
    have e : (2 : Nat) ^ 4 = 16 := rfl
    rw [e, ← this]; omega
  have h2 : stpN 4 r = stpN 4 (r % 16 ^^^ 2 ^ 4 * (r / 16)) := by rw [← h]
  rw [h2, stpN_xor, stpN_pow, Nat.xor_comm]
theorem four_eq (r : Nat) (hr : r < 4294967296) : bits BinOp.xor IntKind.u32 ((r : Int) / 16) (tabL[r % 16]?.getD 0) = ((stpN 4 r : Nat) : Int) := by
  have h1 : ((r : Int) / 16) = ((r / 16 : Nat) : Int) := by omega
  have h2 := tab_eq ⟨r % 16, by omega⟩
  rw [List.getD_eq_getElem?_getD] at h2
  rw [h1, h2, u32_xor_nat _ _ (by omega) (stpN_lt 4 _ (by omega)), stp4 r]
set_option maxHeartbeats 400000 in
theorem fourBits_any (r : Nat) (w : World) (hr : r < 4294967296) (ht : Tab w) :
    Calls Tryd.prog 32 #[.int .u32 (r : Int)] w fun e w' => e = .returned (.int .u32 ((stpN 4 r : Nat) : Int)) ∧ w = w' := by
  have ha : bits BinOp.and IntKind.u32 (r : Int) 15 = ((r % 16 : Nat) : Int) := by
    have := u32_and_nat r 15 hr (by decide)
    rw [nat_mask4] at this
    exact this
  have hc := ht (r % 16) (by omega)
  have hb : ((r % 16 : Nat) : Int) < 16 := by omega
  have hb0 : 0 ≤ ((r % 16 : Nat) : Int) := by omega
  go_enter Tryd.func32, Tryd.ntmps32
  go_wp2
  go_ret
  exact ⟨ret_sum (four_eq r hr), rfl⟩

theorem take_snoc (s : ByteArray) (k : Nat) (h : k < s.size) : s.data.toList.take (k + 1) = s.data.toList.take k ++ [s[k]] := by
  rw [List.take_succ_eq_append_getElem (by simpa using h)]; rfl
theorem crcR_snoc (l : List UInt8) (b : UInt8) (r : Nat) : crcR (l ++ [b]) r = stpN 4 (stpN 4 (crcR l r ^^^ b.toNat)) := by
  rw [← stpN_add 4 4]; simp [crcR, List.foldl_append]
theorem crc_end (l : List UInt8) (h : crcR l 4294967295 < 4294967296) : wrap64 (bits BinOp.xor IntKind.u32 IntKind.u32.max ((crcR l 4294967295 : Nat) : Int)) = ((crc l : Nat) : Int) := by
  have e : IntKind.u32.max = ((4294967295 : Nat) : Int) := by decide
  have hc := crc_lt l
  rw [e, u32_xor_nat _ _ (by decide) h, Nat.xor_comm]
  exact IntWalk.wrap64_in _ ⟨by omega, by unfold crc at hc; omega⟩
set_option maxHeartbeats 400000 in
theorem sum_any (s : ByteArray) (w : World) (hs : s.size ≤ maxLen) (ht : Tab w) :
    Calls Tryd.prog 21 #[.string s] w fun e w' => e = .returned (.int .i64 ((crc s.data.toList : Nat) : Int)) ∧ w = w' := by
  unfold maxLen at hs
  go_enter Tryd.func21, Tryd.ntmps21
  go_wp2
  go_loop [3, 4, 7] (fun r _ i => ∃ k : Nat, k ≤ s.size ∧ i = .int .i64 k ∧ r = .int .u32 ((crcR (s.data.toList.take k) 4294967295 : Nat) : Int)) (fun _ _ i => s.size - (intOf i).toNat)
  case atStart => exact ⟨0, Nat.zero_le _, rfl, rfl⟩
  case round =>
    obtain ⟨k, hk, rfl, rfl⟩ := hrel
    have hr := crcR_lt (s.data.toList.take k) 4294967295 (by decide)
    by_cases hlt : k < s.size
    · have hbt : (s[k]).toNat < 256 := (s[k]).toNat_lt
      have hx : bits BinOp.xor IntKind.u32 ((crcR (s.data.toList.take k) 4294967295 : Nat) : Int) ((s[k].toNat : Nat) : Int) = ((crcR (s.data.toList.take k) 4294967295 ^^^ s[k].toNat : Nat) : Int) := u32_xor_nat _ _ hr (by omega)
      have hx2 : crcR (s.data.toList.take k) 4294967295 ^^^ s[k].toNat < 4294967296 := Nat.xor_lt_two_pow (n := 32) hr (by omega)
      have hsn := crcR_snoc (s.data.toList.take k) s[k] 4294967295
      rw [← take_snoc s k hlt] at hsn
      have HS := Lib.hid hsn
      clear hsn
      go_wp2_with fail
      refine (fourBits_any _ _ hx2 ht).mono ?_
      rintro e w' ⟨rfl, rfl⟩
      go_wp2_with fail
      refine (fourBits_any _ _ (stpN_lt 4 _ hx2) ht).mono ?_
      rintro e w' ⟨rfl, rfl⟩
      go_wp2
      go_round
      case rel => exact ⟨k + 1, by omega, by go_num, by rw [HS.out]⟩
      case measure => simp [intOf]; omega
    · obtain rfl : k = s.size := by omega
      have htk : s.data.toList.take s.size = s.data.toList := List.take_of_length_le (by simp)
      rw [htk] at hr ⊢
      go_wp2_with fail
      go_ret
      exact ⟨ret_sum (crc_end _ hr), rfl⟩
theorem Tab.below {w w' : World} (h : Tab w) (hb : Below w.heap.size w w') : Tab w' := by
  intro i hi
  have h1 := h i hi
  obtain ⟨o, ho, _⟩ := cells_of_cell h1
  have hlt := (Array.getElem?_eq_some_iff.1 ho).1
  exact (hb.cell (p := ⟨0, i, none⟩) hlt).trans h1
end Go.Proofs.YtpondhlijlbmfaaDoor
