/- WireSumBurst: the walk of the statement's text. -/
import Derived.Test.YtpondhlijlbmfaaDoorBytes01
import Derived.Lib.ConvBytes
namespace Go.Proofs.YtpondhlijlbmfaaDoor
open Go.RowKit Go.Shelf
theorem bytesRow_enc8 (x : ByteArray) (cap : Nat) : bytesRow x cap = enc8 (x.data.toList ++ List.replicate (cap - x.size) 0) := by
  apply Array.toList_inj.1
  simp [bytesRow, enc8]
theorem xorbit (b : UInt8) (m : Nat) (hm : m < 8) : bits BinOp.xor IntKind.u8 (b.toNat : Int) (2 ^ m % 256) = ((b ^^^ UInt8.ofNat (2 ^ m)).toNat : Int) := by
  have h1 : 2 ^ m ≤ 2 ^ 7 := Nat.pow_le_pow_right (by omega) (by omega)
  have h2 : (2 : Int) ^ m % 256 = ((UInt8.ofNat (2 ^ m)).toNat : Int) := by
    rw [UInt8.toNat_ofNat', Nat.mod_eq_of_lt (by omega)]
    have : (2 : Int) ^ m = ((2 ^ m : Nat) : Int) := by simp
    rw [this]
    exact Int.emod_eq_of_lt (Int.natCast_nonneg _) (by have h3 := Int.ofNat_lt.2 (show 2 ^ m < 256 by omega); exact h3)
  rw [h2, xor8]
theorem val_bit (l : List UInt8) (j : Nat) (h : j / 8 < l.length) : val (l.set (j / 8) (l[j / 8] ^^^ UInt8.ofNat (2 ^ (j % 8)))) = val l ^^^ 2 ^ j := by
  have h1 : 2 ^ (j % 8) ≤ 2 ^ 7 := Nat.pow_le_pow_right (by omega) (by omega)
  rw [val_set l (j / 8) _ (2 ^ (j % 8)) h (by rw [UInt8.toNat_xor, UInt8.toNat_ofNat', Nat.mod_eq_of_lt (by omega)]) (by omega)]
  have e : (256 : Nat) ^ (j / 8) = 2 ^ (8 * (j / 8)) := by rw [Nat.pow_mul]
  rw [e, ← Nat.pow_add, Nat.div_add_mod]
theorem mod_bit (b k : Nat) (h : b / 2 ^ k % 2 = 1) : b % 2 ^ (k + 1) = b % 2 ^ k ^^^ 2 ^ k ∧ b % 2 ^ (k + 1) ≠ 0 := by
  have h1 : b % 2 ^ (k + 1) = b % 2 ^ k + 2 ^ k * (b / 2 ^ k % 2) := Nat.mod_pow_succ
  rw [h, Nat.mul_one] at h1
  have hp : 0 < 2 ^ k := Nat.two_pow_pos k
  have hl : b % 2 ^ k < 2 ^ k := Nat.mod_lt _ hp
  refine ⟨?_, by omega⟩
  rw [h1]
  apply Nat.eq_of_testBit_eq
  intro i
  rw [Nat.testBit_xor, Nat.testBit_two_pow, Nat.add_comm]
  by_cases hi : i = k
  · subst hi
    rw [Nat.testBit_two_pow_add_eq, Nat.testBit_lt_two_pow hl]
    simp
  · have h3 : decide (k = i) = false := by simp; omega
    rw [h3, Bool.xor_false]
    by_cases hik : i < k
    · exact Nat.testBit_two_pow_add_gt hik _
    · have h4 : (b % 2 ^ k).testBit i = false := Nat.testBit_lt_two_pow (Nat.lt_of_lt_of_le hl (Nat.pow_le_pow_right (by omega) (by omega)))
      rw [h4]
      exact Nat.testBit_lt_two_pow (Nat.lt_of_lt_of_le (show 2 ^ k + b % 2 ^ k < 2 ^ (k + 1) by rw [Nat.pow_succ]; omega) (Nat.pow_le_pow_right (by omega) (by omega)))
theorem burst_end {a b x : Nat} (h : a = b ↔ x = 0) : ((!decide (x = 0)) == ((b : Int) != (a : Int))) = true := by
  by_cases hx : x = 0
  · have := h.2 hx
    simp [hx, this]
  · have : ¬ a = b := fun e => hx (h.1 e)
    have h2 : ¬ b = a := fun e => this e.symm
    simp [hx]
    omega
theorem unfrozen_at {w : World} {g : Nat} {cs : Array Value} {t : TypeId} {lo hi : Nat} (h : w.heap[g]? = some (.cells cs t (lo, hi))) (i : Nat) (hi' : i < lo) : w.frozen? ⟨g, i, none⟩ = false := by
  simp [World.frozen?, h]
  omega
set_option maxRecDepth 100000 in
set_option maxHeartbeats 4000000 in
theorem burst_walk (s : ByteArray) (p bs : Int) (w : World) (hs : s.size ≤ maxLen) (hp : (Lit.int .i64 p).wf = true) (hb : (Lit.int .u32 bs).wf = true) (ht : Tab w) :
    Calls Tryd.prog 8 #[.string s, .int .i64 p, .int .u32 bs] w fun e w' => e = .returned (.bool true) ∧ Below w.heap.size w w' := by
  have hp := wf64 hp
  have hb := wfu32 hb
  unfold maxLen at hs
  obtain ⟨bn, rfl⟩ := Int.eq_ofNat_of_zero_le hb.1
  have hx : (s.extract 0 (min (s.size : Int) 300).toNat).size ≤ 300 := by simp; omega
  obtain ⟨x, hxe⟩ : ∃ x, s.extract 0 (min (s.size : Int) 300).toNat = x := ⟨_, rfl⟩
  rw [hxe] at hx
  have hxs : x.size = min (min (s.size : Int) 300).toNat s.size := by rw [← hxe]; simp
  have hxle : x.size ≤ s.size := by omega
  have hback : s.extract 0 x.size = x := by
    apply bytes_ext
    rw [extract0, ← hxe, extract0, hxe]
    congr 1
    omega
  have HB := Lib.hid hback
  clear hback hxs
  have hcv := fun wx => run_bytes_of_string (P := Tryd.prog) wx 9 38 5 x Tryd.underlying9 Tryd.underlying38 Tryd.underlying5
  by_cases h0 : x = ByteArray.empty
  · subst h0
    go_enter Tryd.func8, Tryd.ntmps8
    go_wp2_with fail
    refine (sane_any _ ht).mono ?_
    rintro e w1 ⟨rfl, b1⟩
    go_wp2_with fail
    go_ret
    exact ⟨rfl, (b1.alloc b1.size _).drew⟩
  · have hz : ((x.size : Int) == 0) = false := by
      have : x.size ≠ 0 := fun h => h0 (by apply bytes_ext; rw [List.length_eq_zero_iff.1 (show x.data.toList.length = 0 by rw [bytes_len]; exact h)]; rfl)
      simp
      exact h0
    by_cases hbn : bn = 0
    · have hb0 : ((bn : Int) == 0) = true := by rw [hbn]; rfl
      clear hbn
      go_enter Tryd.func8, Tryd.ntmps8
      go_wp2_with fail
      refine (sane_any _ ht).mono ?_
      rintro e w1 ⟨rfl, b1⟩
      go_wp2_with fail
      go_ret
      exact ⟨rfl, (b1.alloc b1.size _).drew⟩
    · have hb0 : ((bn : Int) == 0) = false := by simp [hbn]
      go_enter Tryd.func8, Tryd.ntmps8
      go_wp2_with fail
      refine (sane_any _ ht).mono ?_
      rintro e w1 ⟨rfl, b1⟩
      go_wp2_with fail
      rw [bytesRow_enc8]
      obtain ⟨Z, hZ⟩ : ∃ Z : List UInt8, List.replicate (grownCap w1 x.size 0 5 - x.size) 0 = Z := ⟨_, rfl⟩
      rw [hZ]
      have hblk : (w1.alloc (.cells (enc8 (x.data.toList ++ Z)) 5 ((enc8 (x.data.toList ++ Z)).size, (enc8 (x.data.toList ++ Z)).size + 1))).drew.heap[w1.heap.size]? = some (.cells (enc8 (x.data.toList ++ Z)) 5 ((enc8 (x.data.toList ++ Z)).size, (enc8 (x.data.toList ++ Z)).size + 1)) := World.alloc_heap_new w1 _
      have b2 : Below w.heap.size w (w1.alloc (.cells (enc8 (x.data.toList ++ Z)) 5 ((enc8 (x.data.toList ++ Z)).size, (enc8 (x.data.toList ++ Z)).size + 1))).drew := (b1.alloc b1.size _).drew
      have hN : (enc8 (x.data.toList ++ Z)).size = x.size + Z.length := by simp [enc8]
      rw [hN] at hblk b2 ⊢
      have hBw : w.heap.size ≤ w1.heap.size := b1.size
      clear hZ hN hcv b1
      generalize grownCap w1 x.size 0 5 = cap at *
      generalize (w1.alloc (.cells (enc8 (x.data.toList ++ Z)) 5 (x.size + Z.length, x.size + Z.length + 1))).drew = W2 at *
      generalize w1.heap.size = B at *
      refine (pick_any p (8 * (x.size : Int)) _ ?_ hp.1 hp.2).mono ?_
      · have : x.size ≠ 0 := fun h => h0 (by apply bytes_ext; rw [List.length_eq_zero_iff.1 (show x.data.toList.length = 0 by rw [bytes_len]; exact h)]; rfl)
        omega
      rintro e w2 ⟨rfl, rfl⟩
      have hx0 : 0 < x.size := by
        have : x.size ≠ 0 := fun h => h0 (by apply bytes_ext; rw [List.length_eq_zero_iff.1 (show x.data.toList.length = 0 by rw [bytes_len]; exact h)]; rfl)
        omega
      have q1 := pck_lo p (8 * (x.size : Int)) (by omega)
      have q2 := pck_hi p (8 * (x.size : Int)) (by omega)
      generalize pck p (8 * (x.size : Int)) = f at *
      obtain ⟨f, rfl⟩ := Int.eq_ofNat_of_zero_le q1
      have hf : f < 8 * x.size := by omega
      go_wp2_with fail
      go_loopw [10, 11] (fun ch i wr => ∃ (k : Nat) (L : List UInt8), k ≤ 32 ∧ f + k ≤ 8 * x.size ∧ i = .int .i64 k ∧ ch = .bool (decide (bn % 2 ^ k ≠ 0)) ∧ L.length = x.size ∧ wr.heap[B]? = some (.cells (enc8 (L ++ Z)) 5 (x.size + Z.length, x.size + Z.length + 1)) ∧ val L = val x.data.toList ^^^ 2 ^ f * (bn % 2 ^ k) ∧ Below w.heap.size w wr) (fun _ i _ => 32 - (intOf i).toNat)
      case atStart =>
        exact ⟨0, x.data.toList, by omega, by omega, rfl, by simp [Nat.mod_one], by rw [bytes_len], hblk, by simp [Nat.mod_one], b2⟩
      case round =>
        obtain ⟨k, L, hk, hfk, rfl, rfl, hL, hb, hv, bw⟩ := hrel
        by_cases hlt : k < 32
        · by_cases hlt2 : f + k < 8 * x.size
          · have htm : ((bn : Int) / 2 ^ k).tmod 2 = ((bn / 2 ^ k % 2 : Nat) : Int) := by
              have e : ((bn : Int) / 2 ^ k) = ((bn / 2 ^ k : Nat) : Int) := by simp
              rw [e, Int.tmod_eq_emod_of_nonneg (Int.natCast_nonneg _)]
              simp
            have hms : bn % 2 ^ (k + 1) = bn % 2 ^ k + 2 ^ k * (bn / 2 ^ k % 2) := Nat.mod_pow_succ
            have HM := Lib.hid hms
            clear hms
            by_cases hbit : bn / 2 ^ k % 2 = 1
            · have hbit1 : (((bn : Int) / 2 ^ k).tmod 2 == 1) = true := by rw [htm, hbit]; rfl
              have HBIT := Lib.hid hbit
              clear htm hbit
              have hjl : (f + k) / 8 < L.length := by omega
              have hcell : wr.cell? ⟨B, (f + k) / 8, none⟩ = some (.int .u8 ((L[(f + k) / 8]).toNat : Int)) := by
                rw [Joins.cell_of_block hb, enc8_at _ _ (by rw [List.length_append]; omega), List.getElem_append_left hjl]
              have hfz : wr.frozen? ⟨B, (f + k) / 8, none⟩ = false := unfrozen_at hb _ (by omega)
              go_wp2_with fail
              go_region
              rw [xorbit _ _ (by omega)]
              have hb3 : (wr.setCell ⟨B, (f + k) / 8, none⟩ (.int .u8 ((L[(f + k) / 8] ^^^ UInt8.ofNat (2 ^ ((f + k) % 8))).toNat : Int))).drew.heap[B]? = some (.cells (enc8 (L.set ((f + k) / 8) (L[(f + k) / 8] ^^^ UInt8.ofNat (2 ^ ((f + k) % 8))) ++ Z)) 5 (x.size + Z.length, x.size + Z.length + 1)) := by
                have := Joins.block_setCell hb (i := (f + k) / 8) (.int .u8 ((L[(f + k) / 8] ^^^ UInt8.ofNat (2 ^ ((f + k) % 8))).toNat : Int))
                rw [enc8_set, List.set_append_left _ _ hjl] at this
                exact this
              have bw3 : Below w.heap.size w (wr.setCell ⟨B, (f + k) / 8, none⟩ (.int .u8 ((L[(f + k) / 8] ^^^ UInt8.ofNat (2 ^ ((f + k) % 8))).toNat : Int))).drew := (bw.setCell (p := ⟨B, (f + k) / 8, none⟩) hBw _).drew
              have hv3 : val (L.set ((f + k) / 8) (L[(f + k) / 8] ^^^ UInt8.ofNat (2 ^ ((f + k) % 8)))) = val x.data.toList ^^^ 2 ^ f * (bn % 2 ^ (k + 1)) := by
                rw [val_bit L (f + k) hjl, hv, (mod_bit bn k HBIT.out).1, Nat.xor_assoc]
                congr 1
                have := @Nat.shiftLeft_xor_distrib f (bn % 2 ^ k) (2 ^ k)
                simp only [Nat.shiftLeft_eq] at this
                rw [Nat.mul_comm (2 ^ f), Nat.mul_comm (2 ^ f), this, ← Nat.pow_add, Nat.add_comm k f]
              have HV3 := Lib.hid hv3
              have hnz : decide (bn % 2 ^ (k + 1) ≠ 0) = true := by simpa using (mod_bit bn k HBIT.out).2
              have HNZ := Lib.hid hnz
              clear hcell hfz hb bw hv hv3 hnz
              have hLs : (L.set ((f + k) / 8) (L[(f + k) / 8] ^^^ UInt8.ofNat (2 ^ ((f + k) % 8)))).length = x.size := by rw [List.length_set]; exact hL
              generalize (wr.setCell ⟨B, (f + k) / 8, none⟩ (.int .u8 ((L[(f + k) / 8] ^^^ UInt8.ofNat (2 ^ ((f + k) % 8))).toNat : Int))).drew = W3 at *
              generalize L.set ((f + k) / 8) (L[(f + k) / 8] ^^^ UInt8.ofNat (2 ^ ((f + k) % 8))) = L3 at *
              go_wp2
              exact ⟨⟨k + 1, L3, by omega, by omega, by go_num, by rw [HNZ.out], hLs, hb3, HV3.out, bw3⟩, by simp [intOf]; omega⟩
            · have hbit1 : (((bn : Int) / 2 ^ k).tmod 2 == 1) = false := by
                rw [htm, (Nat.mod_two_eq_zero_or_one _).resolve_right hbit]
                rfl
              have h0' : bn / 2 ^ k % 2 = 0 := (Nat.mod_two_eq_zero_or_one _).resolve_right hbit
              rw [h0'] at HM
              have hms := HM.out
              rw [Nat.mul_zero, Nat.add_zero] at hms
              have HM2 := Lib.hid hms
              clear hms htm hbit h0' HM
              go_wp2_with fail
              exact ⟨⟨k + 1, L, by omega, by omega, by go_num, by rw [HM2.out]; simp, hL, hb, by rw [HM2.out]; exact hv, bw⟩, by simp [intOf]; omega⟩
          · have hcr := crc_burst x.data.toList L f (bn % 2 ^ k) (by rw [bytes_len, hL]) (Nat.lt_of_le_of_lt (Nat.mod_le _ _) (by omega)) (by rw [bytes_len]; omega) hv
            have htr : Tab wr := ht.below bw
            have hcv : ∀ q, (convert 38 9 (.slice (some ⟨B, 0, none⟩) x.size cap)).run Tryd.prog (wr.drewN q) = .ok (.string ⟨L.toArray⟩) (wr.drewN q) := by
              intro q
              have := run_convert_bytes_back (P := Tryd.prog) (wr.drewN q) 38 9 5 ⟨B, 0, none⟩ cap L Tryd.underlying38 Tryd.underlying5 Tryd.underlying9 (fun j hj => by
                have h := Joins.cell_of_block (show (wr.drewN q).heap[B]? = some (.cells (enc8 (L ++ Z)) 5 (x.size + Z.length, x.size + Z.length + 1)) from hb) j
                rw [enc8_at (L ++ Z) j (by rw [List.length_append]; omega), List.getElem_append_left hj] at h
                rw [addr_add]; exact h)
              rw [hL] at this
              exact this
            have s0 := fun q => sum_quiet ⟨L.toArray⟩ wr q (by rw [mk_size]; unfold maxLen; omega) htr
            have s1 : ∀ q, Calls Tryd.prog 21 #[.string (s.extract 0 x.size)] (wr.drewN q) fun e w'' => e = .returned (.int .i64 ((crc x.data.toList : Nat) : Int)) ∧ ∃ m, w'' = wr.drewN m := fun q => by
              have h := sum_quiet (s.extract 0 x.size) wr q (by rw [HB.out]; unfold maxLen; omega) htr
              have e : (s.extract 0 x.size).data.toList = x.data.toList := by rw [HB.out]
              rw [e] at h
              exact h
            have S0 := Lib.hid s0
            have S1 := Lib.hid s1
            have HCR := Lib.hid hcr
            clear s0 s1 hcr hv
            go_wp2_with fail
            go_quiet ((first | (go_at_call_of 21 (Value.string ⟨L.toArray⟩); exact S0.out _) | (go_at_call_of 21 (Value.string (s.extract 0 x.size)); exact S1.out _)))
            go_wp2
            go_ret
            refine ⟨ret_bool ?_, below_drewN bw _⟩
            exact burst_end HCR.out
        · have hcr := crc_burst x.data.toList L f (bn % 2 ^ k) (by rw [bytes_len, hL]) (Nat.lt_of_le_of_lt (Nat.mod_le _ _) (by omega)) (by rw [bytes_len]; omega) hv
          have htr : Tab wr := ht.below bw
          have hcv : ∀ q, (convert 38 9 (.slice (some ⟨B, 0, none⟩) x.size cap)).run Tryd.prog (wr.drewN q) = .ok (.string ⟨L.toArray⟩) (wr.drewN q) := by
            intro q
            have := run_convert_bytes_back (P := Tryd.prog) (wr.drewN q) 38 9 5 ⟨B, 0, none⟩ cap L Tryd.underlying38 Tryd.underlying5 Tryd.underlying9 (fun j hj => by
              have h := Joins.cell_of_block (show (wr.drewN q).heap[B]? = some (.cells (enc8 (L ++ Z)) 5 (x.size + Z.length, x.size + Z.length + 1)) from hb) j
              rw [enc8_at (L ++ Z) j (by rw [List.length_append]; omega), List.getElem_append_left hj] at h
              rw [addr_add]; exact h)
            rw [hL] at this
            exact this
          have s0 := fun q => sum_quiet ⟨L.toArray⟩ wr q (by rw [mk_size]; unfold maxLen; omega) htr
          have s1 : ∀ q, Calls Tryd.prog 21 #[.string (s.extract 0 x.size)] (wr.drewN q) fun e w'' => e = .returned (.int .i64 ((crc x.data.toList : Nat) : Int)) ∧ ∃ m, w'' = wr.drewN m := fun q => by
            have h := sum_quiet (s.extract 0 x.size) wr q (by rw [HB.out]; unfold maxLen; omega) htr
            have e : (s.extract 0 x.size).data.toList = x.data.toList := by rw [HB.out]
            rw [e] at h
            exact h
          have S0 := Lib.hid s0
          have S1 := Lib.hid s1
          have HCR := Lib.hid hcr
          clear s0 s1 hcr hv
          go_wp2_with fail
          go_quiet ((first | (go_at_call_of 21 (Value.string ⟨L.toArray⟩); exact S0.out _) | (go_at_call_of 21 (Value.string (s.extract 0 x.size)); exact S1.out _)))
          go_wp2
          go_ret
          refine ⟨ret_bool ?_, below_drewN bw _⟩
          exact burst_end HCR.out
end Go.Proofs.YtpondhlijlbmfaaDoor
