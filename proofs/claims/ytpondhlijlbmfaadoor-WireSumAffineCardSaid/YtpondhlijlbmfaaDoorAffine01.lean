/- WireSumAffine: the walk of the statement's text. -/
import Derived.Test.YtpondhlijlbmfaaDoorBytes01
namespace Go.Proofs.YtpondhlijlbmfaaDoor
open Go.RowKit Go.Shelf
set_option maxRecDepth 100000 in
set_option maxHeartbeats 4000000 in
theorem affine_walk (a b c : ByteArray) (w : World) (ha : a.size ≤ maxLen) (hb : b.size ≤ maxLen) (hc : c.size ≤ maxLen) (ht : Tab w) :
    Calls Tryd.prog 9 #[.string a, .string b, .string c] w fun e w' => e = .returned (.bool true) ∧ Below w.heap.size w w' := by
  unfold maxLen at ha hb hc
  have hmin : ∀ (wx : World) (ts : Array TypeId) (t : TypeId), (Builtin.min_ ts t #[.int .i64 (a.size : Int), .int .i64 (b.size : Int), .int .i64 (c.size : Int), .int .i64 200]).run Tryd.prog wx = .ok (.int .i64 ((min (min (min a.size b.size) c.size) 200 : Nat) : Int)) wx := by
    intro wx ts t
    simp [Builtin.min_, Builtin.min2]
    omega
  obtain ⟨n, hn⟩ : ∃ n, min (min (min a.size b.size) c.size) 200 = n := ⟨_, rfl⟩
  rw [hn] at hmin
  have hna : n ≤ a.size := by omega
  have hnb : n ≤ b.size := by omega
  have hnc : n ≤ c.size := by omega
  have hn2 : n ≤ 200 := by omega
  clear hn
  have hmk := fun wx => run_make_row' (P := Tryd.prog) 38 5 (.int .u8 0) 1 Tryd.underlying38 info8 rfl .i64 .i64 n (by omega) (by omega) wx
  go_enter Tryd.func9, Tryd.ntmps9
  go_wp2_with fail
  refine (sane_any _ ht).mono ?_
  rintro e w1 ⟨rfl, b1⟩
  have hblk := made_block w1 n
  have b2 : Below w.heap.size w (w1.alloc (.cells (madeCells #[.int .u8 0] n) 5)) := b1.alloc b1.size _
  go_wp2_with fail
  obtain ⟨B, hB⟩ : ∃ B, w1.heap.size = B := ⟨_, rfl⟩
  rw [hB] at hblk ⊢
  obtain ⟨W2, hW2⟩ : ∃ W2, (w1.alloc (.cells (madeCells #[.int .u8 0] n) 5)) = W2 := ⟨_, rfl⟩
  rw [hW2] at hblk b2 ⊢
  have hBw : w.heap.size ≤ B := by rw [← hB]; exact b1.size
  have ht2 : Tab W2 := ht.below b2
  clear hW2 hmk hmin hB b1
  go_loopw [10] (fun i wr => ∃ (k : Nat) (L : List UInt8), k ≤ n ∧ i = .int .i64 k ∧ L.length = n ∧ wr.heap[B]? = some (.cells (enc8 L) 5 (0, 0)) ∧ (∀ j, j < k → L[j]? = (xor3 (a.data.toList.take n) (b.data.toList.take n) (c.data.toList.take n))[j]?) ∧ Below w.heap.size w wr) (fun i _ => n - (intOf i).toNat)
  case atStart => exact ⟨0, List.replicate n 0, by omega, rfl, by simp, hblk, fun j hj => by omega, b2⟩
  case round =>
    obtain ⟨k, L, hk, rfl, hL, hb, hX, bw⟩ := hrel
    by_cases hlt : k < n
    · have hcell : wr.cell? ⟨B, k, none⟩ = some (.int .u8 ((L[k]).toNat : Int)) := by rw [Joins.cell_of_block hb, enc8_at]
      have hfz : wr.frozen? ⟨B, k, none⟩ = false := Joins.unfrozen_of_block hb k
      have h1 : k < a.size := by omega
      have h2 : k < b.size := by omega
      have h3 : k < c.size := by omega
      have HX := Lib.hid hX
      clear hX
      go_wp2_with fail
      go_region
      rw [xor8, xor8]
      have hb3 : (wr.setCell ⟨B, k, none⟩ (.int .u8 ((a[k] ^^^ b[k] ^^^ c[k]).toNat : Int))).drew.heap[B]? = some (.cells (enc8 (L.set k (a[k] ^^^ b[k] ^^^ c[k]))) 5 (0, 0)) := by
        have := Joins.block_setCell hb (i := k) (.int .u8 ((a[k] ^^^ b[k] ^^^ c[k]).toNat : Int))
        rw [enc8_set] at this
        exact this
      have bw3 : Below w.heap.size w (wr.setCell ⟨B, k, none⟩ (.int .u8 ((a[k] ^^^ b[k] ^^^ c[k]).toNat : Int))).drew := (bw.setCell (p := ⟨B, k, none⟩) hBw _).drew
      have hxk : (xor3 (a.data.toList.take n) (b.data.toList.take n) (c.data.toList.take n))[k]? = some (a[k] ^^^ b[k] ^^^ c[k]) := by
        have e1 : (a.data.toList.take n)[k]? = some a[k] := by rw [List.getElem?_take_of_lt hlt]; exact byte_at a k h1
        have e2 : (b.data.toList.take n)[k]? = some b[k] := by rw [List.getElem?_take_of_lt hlt]; exact byte_at b k h2
        have e3 : (c.data.toList.take n)[k]? = some c[k] := by rw [List.getElem?_take_of_lt hlt]; exact byte_at c k h3
        simp only [xor3, List.getElem?_zipWith, e1, e2, e3]
      have HX3 := Lib.hid hxk
      clear hcell hfz hb bw hxk
      generalize (wr.setCell ⟨B, k, none⟩ (.int .u8 ((a[k] ^^^ b[k] ^^^ c[k]).toNat : Int))).drew = W3 at *
      go_wp2
      refine ⟨⟨k + 1, _, by omega, by go_num, by rw [List.length_set]; exact hL, hb3, ?_, bw3⟩, by simp [intOf]; omega⟩
      intro j hj
      by_cases hjk : j = k
      · subst hjk
        rw [HX3.out, List.getElem?_set_self (by omega)]
      · rw [List.getElem?_set_ne (fun h => hjk h.symm)]
        exact HX.out j (by omega)
    · obtain rfl : k = n := by omega
      have hLX : L = xor3 (a.data.toList.take k) (b.data.toList.take k) (c.data.toList.take k) := by
        apply List.ext_getElem?
        intro j
        by_cases hj : j < k
        · exact hX j hj
        · rw [List.getElem?_eq_none (by omega), List.getElem?_eq_none (by simp [xor3]; omega)]
      have htr : Tab wr := ht.below bw
      have hcv : ∀ q, (convert 38 9 (.slice (some ⟨B, 0, none⟩) k k)).run Tryd.prog (wr.drewN q) = .ok (.string ⟨L.toArray⟩) (wr.drewN q) := by
        intro q
        have := run_convert_bytes_back (P := Tryd.prog) (wr.drewN q) 38 9 5 ⟨B, 0, none⟩ k L Tryd.underlying38 Tryd.underlying5 Tryd.underlying9 (fun j hj => by
          have h := Joins.cell_of_block (show (wr.drewN q).heap[B]? = some (.cells (enc8 L) 5 (0, 0)) from hb) j
          rw [enc8_at L j hj] at h
          rw [addr_add]; exact h)
        rw [hL] at this
        exact this
      have s0 := fun q => sum_quiet ⟨L.toArray⟩ wr q (by rw [mk_size]; unfold maxLen; omega) htr
      have s1 := fun q => sum_quiet (a.extract 0 k) wr q (by unfold maxLen; simp; omega) htr
      have s2 := fun q => sum_quiet (b.extract 0 k) wr q (by unfold maxLen; simp; omega) htr
      have s3 := fun q => sum_quiet (c.extract 0 k) wr q (by unfold maxLen; simp; omega) htr
      have S0 := Lib.hid s0
      have S1 := Lib.hid s1
      have S2 := Lib.hid s2
      have S3 := Lib.hid s3
      have HLX := Lib.hid hLX
      clear s0 s1 s2 s3 hX hLX
      go_wp2_with fail
      go_quiet ((first | (go_at_call_of 21 (Value.string ⟨L.toArray⟩); exact S0.out _) | (go_at_call_of 21 (Value.string (a.extract 0 k)); exact S1.out _) | (go_at_call_of 21 (Value.string (b.extract 0 k)); exact S2.out _) | (go_at_call_of 21 (Value.string (c.extract 0 k)); exact S3.out _)))
      go_wp2
      go_ret
      refine ⟨ret_bool ?_, below_drewN bw _⟩
      have h1 := crc_lt (a.data.toList.take k)
      have h2 := crc_lt (b.data.toList.take k)
      have h3 := crc_lt (c.data.toList.take k)
      have h4 : crc (a.data.toList.take k) ^^^ crc (b.data.toList.take k) < 2 ^ 32 := Nat.xor_lt_two_pow (by omega) (by omega)
      have la : (a.data.toList.take k).length = k := by rw [List.length_take, bytes_len]; omega
      have lb : (b.data.toList.take k).length = k := by rw [List.length_take, bytes_len]; omega
      have lc : (c.data.toList.take k).length = k := by rw [List.length_take, bytes_len]; omega
      have hv : val L = val (a.data.toList.take k) ^^^ val (b.data.toList.take k) ^^^ val (c.data.toList.take k) := by
        rw [HLX.out]; exact val_xor3 _ _ _ (by rw [la, lb]) (by rw [la, lc])
      rw [i64_xor_nat _ _ (by omega) (by omega), i64_xor_nat _ _ (by omega) (by omega), crc_affine _ _ _ L (by rw [la, lb]) (by rw [la, lc]) (by rw [hL, la]) hv]
      simp
end Go.Proofs.YtpondhlijlbmfaaDoor
