/- Bytes in memory, and the checksum within one statement that draws its order. -/
import Derived.Test.YtpondhlijlbmfaaDoorLaw01
import Derived.RegionTactic
import Derived.ChangeAlike
import Derived.WalkLawsBesides
import Derived.Lib.SmallJoins
import Derived.Deep.OwnRows
import Derived.Laws.OwnMore
import Derived.Deep.QuietTactic
import Derived.BigQuiet
namespace Go.Proofs.YtpondhlijlbmfaaDoor
open Go.RowKit Go.Shelf
def enc8 (l : List UInt8) : Array Value := (l.map fun b => Value.int .u8 (b.toNat : Int)).toArray
theorem enc8_at (l : List UInt8) (k : Nat) (h : k < l.length) : (enc8 l)[k]? = some (.int .u8 ((l[k]).toNat : Int)) := by
  simp [enc8, h]
theorem enc8_set (l : List UInt8) (k : Nat) (v : UInt8) : (enc8 l).setIfInBounds k (.int .u8 (v.toNat : Int)) = enc8 (l.set k v) := by
  simp [enc8, List.map_set]
theorem made_enc8 (n : Nat) : madeCells #[.int .u8 0] n = enc8 (List.replicate n 0) := by
  apply Array.toList_inj.1
  rw [toList_madeCells_one]
  simp [enc8]
theorem made_block (w : World) (n : Nat) : (w.alloc (.cells (madeCells #[.int .u8 0] n) 5)).heap[w.heap.size]? = some (.cells (enc8 (List.replicate n 0)) 5 (0, 0)) := by
  rw [World.alloc_heap_new, made_enc8]
def xor3 (a b c : List UInt8) : List UInt8 := List.zipWith (· ^^^ ·) (List.zipWith (· ^^^ ·) a b) c
theorem mul256_xor (y z : Nat) : 256 * (y ^^^ z) = 256 * y ^^^ 256 * z := by
  have := @Nat.shiftLeft_xor_distrib 8 y z
  simpa [Nat.shiftLeft_eq, Nat.mul_comm] using this
theorem val_xor : ∀ (a b : List UInt8), a.length = b.length → val (List.zipWith (· ^^^ ·) a b) = val a ^^^ val b
  | [], [], _ => rfl
  | [], _ :: _, h => by simp at h
  | _ :: _, [], h => by simp at h
  | x :: a, y :: b, h => by
    have ih := val_xor a b (by simpa using h)
    simp only [List.zipWith_cons_cons, val, ih]
    rw [add_xor _ _ (x ^^^ y).toNat_lt, add_xor _ _ x.toNat_lt, add_xor _ _ y.toNat_lt, UInt8.toNat_xor, mul256_xor]
    apply Nat.eq_of_testBit_eq
    intro i
    simp only [Nat.testBit_xor]
    cases x.toNat.testBit i <;> cases y.toNat.testBit i <;> cases (256 * val a).testBit i <;> cases (256 * val b).testBit i <;> rfl
theorem val_xor3 (a b c : List UInt8) (h : b.length = a.length) (h' : c.length = a.length) : val (xor3 a b c) = val a ^^^ val b ^^^ val c := by
  unfold xor3
  rw [val_xor _ _ (by simp; omega), val_xor _ _ h.symm]
theorem xor8 (x y : UInt8) : bits BinOp.xor IntKind.u8 (x.toNat : Int) (y.toNat : Int) = ((x ^^^ y).toNat : Int) := by
  rw [u8_xor_nat _ _ x.toNat_lt y.toNat_lt, UInt8.toNat_xor]
theorem info8 : (Tryd.prog.info? 5).map (fun i => (i.zero, i.size, i.bytes)) = some (some (.int .u8 0), 1, 1) := by kernel_rfl
theorem byte_at (s : ByteArray) (k : Nat) (h : k < s.size) : s.data.toList[k]? = some s[k] := by
  rw [List.getElem?_eq_getElem (by simpa using h)]; rfl
theorem addr_add (B j : Nat) : (⟨B, 0, none⟩ : Addr).add j = ⟨B, j, none⟩ := by unfold Addr.add; split <;> simp_all
theorem Tab.drewN {w : World} (h : Tab w) (q : Nat) : Tab (w.drewN q) := fun i hi => by simpa using h i hi
theorem sum_quiet (s : ByteArray) (w : World) (q : Nat) (hs : s.size ≤ maxLen) (ht : Tab w) :
    Calls Tryd.prog 21 #[.string s] (w.drewN q) fun e w'' => e = .returned (.int .i64 ((crc s.data.toList : Nat) : Int)) ∧ ∃ m, w'' = w.drewN m :=
  Calls.quiet_of_same ((sum_any s _ hs (ht.drewN q)).mono fun _ _ ⟨he, hw⟩ => ⟨he, hw.symm⟩)
theorem i64_xor_nat (a b : Nat) (ha : a < 9223372036854775808) (hb : b < 9223372036854775808) : bits .xor .i64 (a : Int) (b : Int) = ((a ^^^ b : Nat) : Int) := by
  have hx : a ^^^ b < 2 ^ 63 := Nat.xor_lt_two_pow (by omega) (by omega)
  show IntKind.i64.wrap ((BitVec.ofInt 64 (a : Int) ^^^ BitVec.ofInt 64 (b : Int)).toNat : Int) = _
  rw [BitVec.toNat_xor, ofInt_i64n a ha, ofInt_i64n b hb, wrap_i64n _ (by omega)]
end Go.Proofs.YtpondhlijlbmfaaDoor
