/- Facts as plain data: how reading goes on, step by step. Facts as plain data: spoiled fields, what the law keeps of a fact, how it picks. Package fact: the reader. Package fact: the reader's methods. Package fact: the reader reads blocks. Package fact: what codes lists, by a reader. Package fact: a reader reads lists. Package fact: a reader reads topics and labels. -/
import Derived.Test.YtlhcckjfgpcohaaGreatDoorBlkO
import Derived.Test.YtlhcckjfgpcohaaGreatDoorBlkD1
import Derived.Maps.AppendAt
import Derived.Test.YtlhcckjfgpcohaaGreatDoorFactQ
import Derived.Test.YtlhcckjfgpcohaaGreatDoorFctJ
import Derived.Deep.RegionHeld3
import Derived.WalkLawsBesides
import Derived.Deep.OwnRows
namespace Go.Proofs.YtlhcckjfgpcohaaGreatDoor
open Go.RowKit Go.MapKept
set_option maxRecDepth 100000
set_option linter.unusedSimpArgs false
set_option linter.unusedVariables false
theorem intInfo : (Tryz.prog.info? 3).map (fun i => (i.zero, i.size, i.bytes)) = some (some (.int .i64 0), 1, 8) := by kernel_rfl
theorem own_keeps {R : Nat} {w w' : World} {base : Nat} {e : TypeId} {size : Nat} {v : Value} {n : Nat} {xs : List Value} (h : w.ownsRow base e size v n xs) (hR : R < base) (k : Keeps R w w') : w'.ownsRow base e size v n xs :=
  ⟨h.1, h.2.imp id (fun ⟨g, cap, cur, h1, h2, h3, h4⟩ => ⟨g, cap, cur, h1, h2, k.heap h3 (by omega), h4⟩)⟩
theorem own_later {R : Nat} {w w' : World} {base : Nat} {e : TypeId} {size : Nat} {v : Value} {n : Nat} {xs : List Value} (h : w.ownsRow base e size v n xs) (hR : ∀ g, v.ownBlock = some g → g ≠ R) (k : Keeps R w w') : w'.ownsRow base e size v n xs := by
  refine ⟨h.1, h.2.imp id ?_⟩
  rintro ⟨g, cap, cur, h1, h2, h3, h4⟩
  exact ⟨g, cap, cur, h1, h2, k.heap h3 (hR g (by rw [h1]; rfl)), h4⟩
theorem intAt_bd (s : List UInt8) (a : Int) : Bd (intAt s a).1 := by
  by_cases h : (intAt s a).2.2 = 0
  · have := (okInt_iff _).1 (intAt_ok s a h).2.2.1
    unfold Bd; omega
  · unfold intAt at h ⊢
    split
    · unfold Bd; omega
    · rename_i h1
      rw [if_neg h1] at h
      split
      · rename_i h2; rw [if_pos h2] at h; exact absurd rfl h
      · unfold Bd; omega
theorem rdI_bd (s : List UInt8) (σ : Int × Int) : Bd (rdI s σ).1 := by
  unfold rdI
  split
  · exact intAt_bd _ _
  · unfold Bd; omega
theorem rdNI_bd (s : List UInt8) : ∀ (n : Nat) (σ : Int × Int), ∀ z ∈ (rdN (rdI s) n σ).1, Bd z
  | 0, σ => by simp [rdN]
  | n + 1, σ => by
    intro z hz
    rw [rdN] at hz
    rcases List.mem_cons.1 hz with rfl | hz
    · exact rdI_bd _ _
    · exact rdNI_bd s n _ z hz
theorem rdLI_bd (s : List UInt8) (most : Int) (σ : Int × Int) : ∀ z ∈ (rdL s most (rdI s) σ).1, Bd z := by
  unfold rdL
  split
  · exact rdNI_bd _ _ _
  · simp
def LiGot (R : Nat) (s : ByteArray) (r : List Int × (Int × Int)) (w : World) (e : Ending) (w' : World) : Prop :=
  ∃ a c, e = .returned (.slice a r.1.length c) ∧ w'.ownsRow w.heap.size 3 1 (.slice a r.1.length c) r.1.length (r.1.map (Value.int .i64)) ∧ RdAt w' R s r.2 ∧ Keeps R w w'
set_option maxHeartbeats 4000000 in
theorem readLi_any (R : Nat) (s : ByteArray) (most : Int) (σ : Int × Int) (w : World) (hs : s.size ≤ maxLen) (hm : 0 ≤ most ∧ most ≤ 1000) (h : RdAt w R s σ) :
    Calls Tryz.prog 199 #[.pointer (some ⟨R, 0, none⟩), .int .i64 most, .func (.func 197) #[] #[]] w (LiGot R s (rdL s.data.toList most (rdI s.data.toList) σ) w) := by
  have hRw : R < w.heap.size := (Array.getElem?_eq_some_iff.1 h).1
  have K := Lib.hid (readI_any R s σ w hs h)
  have KW := Lib.hid (fun W => binside_any (rdI s.data.toList σ).1 0 most W)
  have HS := Lib.hid hs
  clear h hs
  cases hb : inB (rdI s.data.toList σ).1 0 most
  · have HR : Hid (rdL s.data.toList most (rdI s.data.toList) σ = ([], ((rdI s.data.toList σ).2.1, 30))) := Lib.hid (by unfold rdL; rw [if_neg (by simp [hb])])
    rw [hb] at KW
    clear hb
    rw [HR.out]
    clear HR
    generalize rdI s.data.toList σ = r at *
    obtain ⟨n, a, e⟩ := r
    go_enter Tryz.func199, Tryz.ntmps199
    go_wp2_with fail
    refine K.out.mono ?_
    rintro x w1 ⟨rfl, h1, k1⟩
    go_wp2_with fail
    refine (KW.out _).mono ?_
    rintro x w2 ⟨rfl, rfl⟩
    obtain ⟨d0, d1, d2⟩ := rd_cells h1
    have f2 := Joins.unfrozen_of_block h1 2
    have H3 := Lib.hid (show RdAt (w1.setCell ⟨R, 2, none⟩ (.int .i64 30)) R s (a, 30) from Joins.block_setCell h1 (.int .i64 30))
    have K3 := Lib.hid (k1.setCell 2 (.int .i64 30))
    clear h1 k1
    go_wp2
    go_ret
    exact ⟨none, 0, rfl, World.ownsRow_nil _ _ _ _, H3.out, K3.out⟩
  · have HR : Hid (rdL s.data.toList most (rdI s.data.toList) σ = rdN (rdI s.data.toList) (rdI s.data.toList σ).1.toNat (rdI s.data.toList σ).2) := Lib.hid (by unfold rdL; rw [if_pos hb])
    rw [hb] at KW
    simp only [inB, decide_eq_true_eq] at hb
    rw [HR.out]
    clear HR
    generalize rdI s.data.toList σ = r at *
    obtain ⟨n, σ1⟩ := r
    simp only at K KW hb ⊢
    obtain ⟨N, rfl⟩ := Int.eq_ofNat_of_zero_le hb.1
    simp only [Int.toNat_natCast]
    have hN : N ≤ 1000 := by omega
    clear hb
    obtain ⟨i0, hi, hz0, hz1, hz2⟩ := info_parts intInfo
    go_enter Tryz.func199, Tryz.ntmps199
    go_wp2_with fail
    refine K.out.mono ?_
    rintro x w1 ⟨rfl, h1, k1⟩
    go_wp2_with fail
    refine (KW.out _).mono ?_
    rintro x w2 ⟨rfl, rfl⟩
    have HD1 := Lib.hid h1
    have HK1 := Lib.hid k1
    clear h1 k1 K KW
    go_wp2_with fail
    go_loopw [19, 8] (fun i v wr => ∃ k : Nat, k ≤ N ∧ i = .int .i64 k ∧ Hid (wr.ownsRow w.heap.size 3 1 v k ((rdN (rdI s.data.toList) k σ1).1.map (Value.int .i64))) ∧ Hid (RdAt wr R s (rdN (rdI s.data.toList) k σ1).2) ∧ Hid (Keeps R w wr)) (fun i _ _ => N - (intOf i).toNat)
    case atStart => exact ⟨0, Nat.zero_le _, rfl, Lib.hid (World.ownsRow_nil _ _ _ _), HD1, HK1⟩
    case round =>
      obtain ⟨k, hk, rfl, hown, hd, hkp⟩ := hrel
      by_cases hlt : k < N
      · have HSN := Lib.hid (rdN_snoc (rdI s.data.toList) k σ1)
        have KI := Lib.hid (readInt_any R s (rdN (rdI s.data.toList) k σ1).2 wr HS.out hd.out)
        generalize rdI s.data.toList (rdN (rdI s.data.toList) k σ1).2 = q at *
        obtain ⟨z, σ2⟩ := q
        simp only at KI HSN
        obtain ⟨va, vc, rfl⟩ := own_slice hown.out
        have hltn : (k : Int) < N := by omega
        go_wp2_with fail
        refine KI.out.mono ?_
        rintro x w2 ⟨rfl, h2, k2⟩
        have OWN := Lib.hid (own_keeps hown.out hRw k2)
        have K2 := Lib.hid (hkp.out.trans k2)
        have D2 := Lib.hid h2
        clear h2 k2 hown hkp KI hd
        have hb0 : w.heap.size ≤ (w2.alloc (.cells #[.int .i64 z] 3)).heap.size := by have := K2.out.size; simp; omega
        go_wp2_with (at_builtin; refine wpList_append_own _ rfl (.tmp 21) (.tmp 25) 24 rfl w.heap.size 3 i0 (.int .i64 0) 1 8 Tryz.underlying24 hi hz0 hz1 hz2 rfl (by decide) _ k _ rfl (OWN.out.alloc _) ⟨w2.heap.size, 0, none⟩ 1 1 [.int .i64 z] rfl rfl (cell_one_new _ _ _) (by simp [Value.oneCell']) (by unfold maxLen; omega) (by omega) hb0 ?_; intro v' w3 hown1 hg _; obtain ⟨a', c', rfl⟩ := own_slice hown1)
        have hRr : ∀ q, Value.ownBlock (.slice va k vc) = some q → w.heap.size ≤ q := fun q hq => (OWN.out.lt _ hq).1
        have D3 := Lib.hid (show RdAt w3 R s σ2 from (hg.block _ (by have := K2.out.size; simp; omega) (fun e => by have := hRr _ e.symm; omega)).trans ((Below.heap_alloc _ _ _ (by have := K2.out.size; omega)).trans D2.out))
        have K3 := Lib.hid ((K2.out.alloc (.cells #[.int .i64 z] 3)).grown hg hRr)
        have OWN3 := Lib.hid hown1
        clear hown1 hg hRr hb0 D2 K2 OWN
        go_wp2
        go_roundw
        case rel =>
          refine ⟨k + 1, by omega, by go_num, Lib.hid ?_, Lib.hid ?_, K3⟩
          · rw [HSN.out, List.map_append]; exact OWN3.out
          · rw [HSN.out]; exact D3.out
        case measure => simp [intOf]; omega
      · obtain rfl : k = N := by omega
        obtain ⟨va, vc, rfl⟩ := own_slice hown.out
        have hlen := rdN_len (rdI s.data.toList) k σ1
        go_wp2
        go_ret
        refine ⟨va, vc, by rw [hlen]; rfl, by rw [hlen]; exact hown.out, hd.out, hkp.out⟩
end Go.Proofs.YtlhcckjfgpcohaaGreatDoor
namespace Go.Proofs.YtlhcckjfgpcohaaGreatDoor
open Go.RowKit Go.MapKept
set_option maxRecDepth 100000
set_option linter.unusedSimpArgs false
set_option linter.unusedVariables false
theorem Keeps.setNew {R g : Nat} {a w : World} (h : Keeps R a w) (hg : a.heap.size ≤ g) (o : Nat) (v : Value) : Keeps R a (w.setCell ⟨g, o, none⟩ v) := by
  have hb : Below g w (w.setCell ⟨g, o, none⟩ v) := (Below.refl g w).setCell (p := ⟨g, o, none⟩) (Nat.le_refl _) v
  exact ⟨hb.os.trans h.os, hb.tape.trans h.tape, hb.output.trans h.output, Nat.le_trans h.size hb.size, fun k hk hR => (Below.heap_setCell w ⟨g, o, none⟩ v k (by show k ≠ g; omega)).trans (h.block k hk hR)⟩
theorem rd_setNew {R g : Nat} {w : World} {s : ByteArray} {σ : Int × Int} (h : RdAt w R s σ) (hg : R ≠ g) (o : Nat) (v : Value) : RdAt (w.setCell ⟨g, o, none⟩ v) R s σ :=
  (Below.heap_setCell w ⟨g, o, none⟩ v R hg).trans h
theorem rdI_over {W W' : World} {g : Nat} {ob : Obj} {R : Nat} (k : Keeps R W W') (hg : W.heap[g]? = some ob) (hR : g ≠ R) : W'.heap[g]? = some ob := k.heap hg hR
theorem nine_any {W : World} {g : Nat} {a0 a1 a2 a3 a4 a5 a6 a7 a8 : Value} {t : TypeId} {fr : Nat × Nat} (h : W.heap[g]? = some (.cells #[a0, a1, a2, a3, a4, a5, a6, a7, a8] t fr)) : W.cell? ⟨g, 0, none⟩ = some a0 ∧ W.cell? ⟨g, 1, none⟩ = some a1 ∧ W.cell? ⟨g, 2, none⟩ = some a2 ∧ W.cell? ⟨g, 3, none⟩ = some a3 ∧ W.cell? ⟨g, 4, none⟩ = some a4 ∧ W.cell? ⟨g, 5, none⟩ = some a5 ∧ W.cell? ⟨g, 6, none⟩ = some a6 ∧ W.cell? ⟨g, 7, none⟩ = some a7 ∧ W.cell? ⟨g, 8, none⟩ = some a8 :=
  ⟨by rw [Joins.cell_of_block h]; rfl, by rw [Joins.cell_of_block h]; rfl, by rw [Joins.cell_of_block h]; rfl, by rw [Joins.cell_of_block h]; rfl, by rw [Joins.cell_of_block h]; rfl, by rw [Joins.cell_of_block h]; rfl, by rw [Joins.cell_of_block h]; rfl, by rw [Joins.cell_of_block h]; rfl, by rw [Joins.cell_of_block h]; rfl⟩
def BlkGot (R : Nat) (s : ByteArray) (r : Blk × (Int × Int)) (w : World) (e : Ending) (w' : World) : Prop :=
  ∃ a c, e = .returned (blkV r.1 a r.1.lb.af.length c) ∧ w'.ownsRow w.heap.size 3 1 (.slice a r.1.lb.af.length c) r.1.lb.af.length (r.1.lb.af.map (Value.int .i64)) ∧ RdAt w' R s r.2 ∧ Keeps R w w'
set_option maxHeartbeats 8000000 in
theorem readBlk_walk (R : Nat) (s : ByteArray) (w : World) (hRw : R < w.heap.size) (x0 x1 x3 x4 x5 x7 x8 : Int) (x2 : List UInt8) (x6 : List Int) (σ0 σ1 σ2 σ3 σ4 σ5 σ6 σ7 σ8 σ9 : Int × Int) (h : RdAt w R s σ0)
    (K0 : Hid (∀ W, RdAt W R s σ0 → Calls Tryz.prog 197 #[.pointer (some ⟨R, 0, none⟩)] W fun e w' => e = .returned (.int .i64 x0) ∧ RdAt w' R s σ1 ∧ Keeps R W w'))
    (K1 : Hid (∀ W, RdAt W R s σ1 → Calls Tryz.prog 197 #[.pointer (some ⟨R, 0, none⟩)] W fun e w' => e = .returned (.int .i64 x1) ∧ RdAt w' R s σ2 ∧ Keeps R W w'))
    (K2 : Hid (∀ W, RdAt W R s σ2 → Calls Tryz.prog 198 #[.pointer (some ⟨R, 0, none⟩), .func (.func 188) #[] #[]] W fun e w' => e = .returned (.string ⟨x2.toArray⟩) ∧ RdAt w' R s σ3 ∧ Keeps R W w'))
    (K3 : Hid (∀ W, RdAt W R s σ3 → Calls Tryz.prog 197 #[.pointer (some ⟨R, 0, none⟩)] W fun e w' => e = .returned (.int .i64 x3) ∧ RdAt w' R s σ4 ∧ Keeps R W w'))
    (K4 : Hid (∀ W, RdAt W R s σ4 → Calls Tryz.prog 197 #[.pointer (some ⟨R, 0, none⟩)] W fun e w' => e = .returned (.int .i64 x4) ∧ RdAt w' R s σ5 ∧ Keeps R W w'))
    (K5 : Hid (∀ W, RdAt W R s σ5 → Calls Tryz.prog 197 #[.pointer (some ⟨R, 0, none⟩)] W fun e w' => e = .returned (.int .i64 x5) ∧ RdAt w' R s σ6 ∧ Keeps R W w'))
    (K6 : Hid (∀ W, RdAt W R s σ6 → Calls Tryz.prog 199 #[.pointer (some ⟨R, 0, none⟩), .int .i64 64, .func (.func 197) #[] #[]] W (LiGot R s (x6, σ7) W)))
    (K7 : Hid (∀ W, RdAt W R s σ7 → Calls Tryz.prog 197 #[.pointer (some ⟨R, 0, none⟩)] W fun e w' => e = .returned (.int .i64 x7) ∧ RdAt w' R s σ8 ∧ Keeps R W w'))
    (K8 : Hid (∀ W, RdAt W R s σ8 → Calls Tryz.prog 197 #[.pointer (some ⟨R, 0, none⟩)] W fun e w' => e = .returned (.int .i64 x8) ∧ RdAt w' R s σ9 ∧ Keeps R W w')) :
    Calls Tryz.prog 192 #[.pointer (some ⟨R, 0, none⟩)] w (BlkGot R s (⟨x0, x1, x2, x3, x4, ⟨x5, x6, x7, x8⟩⟩, σ9) w) := by
  have D0 := Lib.hid (rd_over (below_alloc w (.cells #[.int .i64 0, .int .i64 0, .string ⟨#[]⟩, .int .i64 0, .int .i64 0, .int .i64 0, .slice none 0 0, .int .i64 0, .int .i64 0] 49)) h)
  have HB0 := Lib.hid (heap_alloc_new w (.cells #[.int .i64 0, .int .i64 0, .string ⟨#[]⟩, .int .i64 0, .int .i64 0, .int .i64 0, .slice none 0 0, .int .i64 0, .int .i64 0] 49))
  have P0 := Lib.hid ((Keeps.refl R w).alloc (.cells #[.int .i64 0, .int .i64 0, .string ⟨#[]⟩, .int .i64 0, .int .i64 0, .int .i64 0, .slice none 0 0, .int .i64 0, .int .i64 0] 49))
  have hne : w.heap.size ≠ R := by omega
  have S0 := Lib.hid (show w.heap.size < (w.alloc (.cells #[.int .i64 0, .int .i64 0, .string ⟨#[]⟩, .int .i64 0, .int .i64 0, .int .i64 0, .slice none 0 0, .int .i64 0, .int .i64 0] 49)).heap.size by simp)
  clear h
  go_enter Tryz.func192, Tryz.ntmps192
  go_wp2_with fail
  refine (K0.out _ D0.out).mono ?_
  rintro e w1 ⟨rfl, d, kp⟩
  have D1 := Lib.hid d
  have HB1 := Lib.hid (kp.heap HB0.out hne)
  have P1 := Lib.hid (P0.out.trans kp)
  have S1 := Lib.hid (Nat.lt_of_lt_of_le S0.out kp.size)
  clear d kp D0 HB0 P0 S0 K0
  go_wp2_with fail
  refine (K1.out _ D1.out).mono ?_
  rintro e w2 ⟨rfl, d, kp⟩
  have D2 := Lib.hid d
  have HB2 := Lib.hid (kp.heap HB1.out hne)
  have P2 := Lib.hid (P1.out.trans kp)
  have S2 := Lib.hid (Nat.lt_of_lt_of_le S1.out kp.size)
  clear d kp D1 HB1 P1 S1 K1
  go_wp2_with fail
  refine (K2.out _ D2.out).mono ?_
  rintro e w3 ⟨rfl, d, kp⟩
  have D3 := Lib.hid d
  have HB3 := Lib.hid (kp.heap HB2.out hne)
  have P3 := Lib.hid (P2.out.trans kp)
  have S3 := Lib.hid (Nat.lt_of_lt_of_le S2.out kp.size)
  clear d kp D2 HB2 P2 S2 K2
  go_wp2_with fail
  refine (K3.out _ D3.out).mono ?_
  rintro e w4 ⟨rfl, d, kp⟩
  have D4 := Lib.hid d
  have HB4 := Lib.hid (kp.heap HB3.out hne)
  have P4 := Lib.hid (P3.out.trans kp)
  have S4 := Lib.hid (Nat.lt_of_lt_of_le S3.out kp.size)
  clear d kp D3 HB3 P3 S3 K3
  go_wp2_with fail
  refine (K4.out _ D4.out).mono ?_
  rintro e w5 ⟨rfl, d, kp⟩
  have D5 := Lib.hid d
  have HB5 := Lib.hid (kp.heap HB4.out hne)
  have P5 := Lib.hid (P4.out.trans kp)
  have S5 := Lib.hid (Nat.lt_of_lt_of_le S4.out kp.size)
  clear d kp D4 HB4 P4 S4 K4
  go_wp2_with fail
  refine (K5.out _ D5.out).mono ?_
  rintro e w6 ⟨rfl, d, kp⟩
  have D6 := Lib.hid d
  have HB6 := Lib.hid (kp.heap HB5.out hne)
  have P6 := Lib.hid (P5.out.trans kp)
  have S6 := Lib.hid (Nat.lt_of_lt_of_le S5.out kp.size)
  clear d kp D5 HB5 P5 S5 K5
  go_wp2_with fail
  refine (K6.out _ D6.out).mono ?_
  rintro e w7 ⟨la, lc, rfl, ow, d, kp⟩
  have D7 := Lib.hid d
  have HB7 := Lib.hid (kp.heap HB6.out hne)
  have P7 := Lib.hid (P6.out.trans kp)
  have S7 := Lib.hid (Nat.lt_of_lt_of_le S6.out kp.size)
  have OWN7 := Lib.hid (show w7.ownsRow (w.heap.size + 1) 3 1 (.slice la x6.length lc) x6.length (x6.map (Value.int .i64)) from own_mono ow S6.out)
  clear ow
  clear d kp D6 HB6 P6 S6 K6
  simp only
  go_wp2_with fail
  refine (K7.out _ D7.out).mono ?_
  rintro e w8 ⟨rfl, d, kp⟩
  have D8 := Lib.hid d
  have HB8 := Lib.hid (kp.heap HB7.out hne)
  have P8 := Lib.hid (P7.out.trans kp)
  have S8 := Lib.hid (Nat.lt_of_lt_of_le S7.out kp.size)
  have OWN8 := Lib.hid (own_keeps OWN7.out (by omega) kp)
  clear OWN7
  clear d kp D7 HB7 P7 S7 K7
  go_wp2_with fail
  refine (K8.out _ D8.out).mono ?_
  rintro e w9 ⟨rfl, d, kp⟩
  have D9 := Lib.hid d
  have HB9 := Lib.hid (kp.heap HB8.out hne)
  have P9 := Lib.hid (P8.out.trans kp)
  have S9 := Lib.hid (Nat.lt_of_lt_of_le S8.out kp.size)
  have OWN9 := Lib.hid (own_keeps OWN8.out (by omega) kp)
  clear OWN8
  clear d kp D8 HB8 P8 S8 K8
  obtain ⟨r0, r1, r2, r3, r4, r5, r6, r7, r8⟩ := nine_any HB9.out
  have f0 := Joins.unfrozen_of_block HB9.out 0
  have f1 := Joins.unfrozen_of_block HB9.out 1
  have f2 := Joins.unfrozen_of_block HB9.out 2
  have f3 := Joins.unfrozen_of_block HB9.out 3
  have f4 := Joins.unfrozen_of_block HB9.out 4
  have f5 := Joins.unfrozen_of_block HB9.out 5
  have f6 := Joins.unfrozen_of_block HB9.out 6
  have f7 := Joins.unfrozen_of_block HB9.out 7
  have f8 := Joins.unfrozen_of_block HB9.out 8
  have DZ0 := Lib.hid (rd_setNew D9.out hne.symm 0 (.int .i64 x0))
  have PZ0 := Lib.hid (P9.out.setNew (Nat.le_refl _) 0 (.int .i64 x0))
  have OZ0 := Lib.hid (ownsRow_setCell_below (a := ⟨w.heap.size, 0, none⟩) OWN9.out (Nat.lt_succ_self w.heap.size) (.int .i64 x0))
  have BZ0 := Lib.hid (show (w9.setCell ⟨w.heap.size, 0, none⟩ (.int .i64 x0)).heap[w.heap.size]? = some (.cells #[.int .i64 x0, .int .i64 0, .string ⟨#[]⟩, .int .i64 0, .int .i64 0, .int .i64 0, .slice none 0 0, .int .i64 0, .int .i64 0] 49 (0, 0)) from Joins.block_setCell HB9.out (.int .i64 x0))
  have DZ1 := Lib.hid (rd_setNew DZ0.out hne.symm 1 (.int .i64 x1))
  have PZ1 := Lib.hid (PZ0.out.setNew (Nat.le_refl _) 1 (.int .i64 x1))
  have OZ1 := Lib.hid (ownsRow_setCell_below (a := ⟨w.heap.size, 1, none⟩) OZ0.out (Nat.lt_succ_self w.heap.size) (.int .i64 x1))
  have BZ1 := Lib.hid (show ((w9.setCell ⟨w.heap.size, 0, none⟩ (.int .i64 x0)).setCell ⟨w.heap.size, 1, none⟩ (.int .i64 x1)).heap[w.heap.size]? = some (.cells #[.int .i64 x0, .int .i64 x1, .string ⟨#[]⟩, .int .i64 0, .int .i64 0, .int .i64 0, .slice none 0 0, .int .i64 0, .int .i64 0] 49 (0, 0)) from Joins.block_setCell BZ0.out (.int .i64 x1))
  clear DZ0 PZ0 OZ0 BZ0
  have DZ2 := Lib.hid (rd_setNew DZ1.out hne.symm 2 (.string ⟨x2.toArray⟩))
  have PZ2 := Lib.hid (PZ1.out.setNew (Nat.le_refl _) 2 (.string ⟨x2.toArray⟩))
  have OZ2 := Lib.hid (ownsRow_setCell_below (a := ⟨w.heap.size, 2, none⟩) OZ1.out (Nat.lt_succ_self w.heap.size) (.string ⟨x2.toArray⟩))
  have BZ2 := Lib.hid (show (((w9.setCell ⟨w.heap.size, 0, none⟩ (.int .i64 x0)).setCell ⟨w.heap.size, 1, none⟩ (.int .i64 x1)).setCell ⟨w.heap.size, 2, none⟩ (.string ⟨x2.toArray⟩)).heap[w.heap.size]? = some (.cells #[.int .i64 x0, .int .i64 x1, .string ⟨x2.toArray⟩, .int .i64 0, .int .i64 0, .int .i64 0, .slice none 0 0, .int .i64 0, .int .i64 0] 49 (0, 0)) from Joins.block_setCell BZ1.out (.string ⟨x2.toArray⟩))
  clear DZ1 PZ1 OZ1 BZ1
  have DZ3 := Lib.hid (rd_setNew DZ2.out hne.symm 3 (.int .i64 x3))
  have PZ3 := Lib.hid (PZ2.out.setNew (Nat.le_refl _) 3 (.int .i64 x3))
  have OZ3 := Lib.hid (ownsRow_setCell_below (a := ⟨w.heap.size, 3, none⟩) OZ2.out (Nat.lt_succ_self w.heap.size) (.int .i64 x3))
  have BZ3 := Lib.hid (show ((((w9.setCell ⟨w.heap.size, 0, none⟩ (.int .i64 x0)).setCell ⟨w.heap.size, 1, none⟩ (.int .i64 x1)).setCell ⟨w.heap.size, 2, none⟩ (.string ⟨x2.toArray⟩)).setCell ⟨w.heap.size, 3, none⟩ (.int .i64 x3)).heap[w.heap.size]? = some (.cells #[.int .i64 x0, .int .i64 x1, .string ⟨x2.toArray⟩, .int .i64 x3, .int .i64 0, .int .i64 0, .slice none 0 0, .int .i64 0, .int .i64 0] 49 (0, 0)) from Joins.block_setCell BZ2.out (.int .i64 x3))
  clear DZ2 PZ2 OZ2 BZ2
  have DZ4 := Lib.hid (rd_setNew DZ3.out hne.symm 4 (.int .i64 x4))
  have PZ4 := Lib.hid (PZ3.out.setNew (Nat.le_refl _) 4 (.int .i64 x4))
  have OZ4 := Lib.hid (ownsRow_setCell_below (a := ⟨w.heap.size, 4, none⟩) OZ3.out (Nat.lt_succ_self w.heap.size) (.int .i64 x4))
  have BZ4 := Lib.hid (show (((((w9.setCell ⟨w.heap.size, 0, none⟩ (.int .i64 x0)).setCell ⟨w.heap.size, 1, none⟩ (.int .i64 x1)).setCell ⟨w.heap.size, 2, none⟩ (.string ⟨x2.toArray⟩)).setCell ⟨w.heap.size, 3, none⟩ (.int .i64 x3)).setCell ⟨w.heap.size, 4, none⟩ (.int .i64 x4)).heap[w.heap.size]? = some (.cells #[.int .i64 x0, .int .i64 x1, .string ⟨x2.toArray⟩, .int .i64 x3, .int .i64 x4, .int .i64 0, .slice none 0 0, .int .i64 0, .int .i64 0] 49 (0, 0)) from Joins.block_setCell BZ3.out (.int .i64 x4))
  clear DZ3 PZ3 OZ3 BZ3
  have DZ5 := Lib.hid (rd_setNew DZ4.out hne.symm 5 (.int .i64 x5))
  have PZ5 := Lib.hid (PZ4.out.setNew (Nat.le_refl _) 5 (.int .i64 x5))
  have OZ5 := Lib.hid (ownsRow_setCell_below (a := ⟨w.heap.size, 5, none⟩) OZ4.out (Nat.lt_succ_self w.heap.size) (.int .i64 x5))
  have BZ5 := Lib.hid (show ((((((w9.setCell ⟨w.heap.size, 0, none⟩ (.int .i64 x0)).setCell ⟨w.heap.size, 1, none⟩ (.int .i64 x1)).setCell ⟨w.heap.size, 2, none⟩ (.string ⟨x2.toArray⟩)).setCell ⟨w.heap.size, 3, none⟩ (.int .i64 x3)).setCell ⟨w.heap.size, 4, none⟩ (.int .i64 x4)).setCell ⟨w.heap.size, 5, none⟩ (.int .i64 x5)).heap[w.heap.size]? = some (.cells #[.int .i64 x0, .int .i64 x1, .string ⟨x2.toArray⟩, .int .i64 x3, .int .i64 x4, .int .i64 x5, .slice none 0 0, .int .i64 0, .int .i64 0] 49 (0, 0)) from Joins.block_setCell BZ4.out (.int .i64 x5))
  clear DZ4 PZ4 OZ4 BZ4
  have DZ6 := Lib.hid (rd_setNew DZ5.out hne.symm 6 (.slice la x6.length lc))
  have PZ6 := Lib.hid (PZ5.out.setNew (Nat.le_refl _) 6 (.slice la x6.length lc))
  have OZ6 := Lib.hid (ownsRow_setCell_below (a := ⟨w.heap.size, 6, none⟩) OZ5.out (Nat.lt_succ_self w.heap.size) (.slice la x6.length lc))
  have BZ6 := Lib.hid (show (((((((w9.setCell ⟨w.heap.size, 0, none⟩ (.int .i64 x0)).setCell ⟨w.heap.size, 1, none⟩ (.int .i64 x1)).setCell ⟨w.heap.size, 2, none⟩ (.string ⟨x2.toArray⟩)).setCell ⟨w.heap.size, 3, none⟩ (.int .i64 x3)).setCell ⟨w.heap.size, 4, none⟩ (.int .i64 x4)).setCell ⟨w.heap.size, 5, none⟩ (.int .i64 x5)).setCell ⟨w.heap.size, 6, none⟩ (.slice la x6.length lc)).heap[w.heap.size]? = some (.cells #[.int .i64 x0, .int .i64 x1, .string ⟨x2.toArray⟩, .int .i64 x3, .int .i64 x4, .int .i64 x5, .slice la x6.length lc, .int .i64 0, .int .i64 0] 49 (0, 0)) from Joins.block_setCell BZ5.out (.slice la x6.length lc))
  clear DZ5 PZ5 OZ5 BZ5
  have DZ7 := Lib.hid (rd_setNew DZ6.out hne.symm 7 (.int .i64 x7))
  have PZ7 := Lib.hid (PZ6.out.setNew (Nat.le_refl _) 7 (.int .i64 x7))
  have OZ7 := Lib.hid (ownsRow_setCell_below (a := ⟨w.heap.size, 7, none⟩) OZ6.out (Nat.lt_succ_self w.heap.size) (.int .i64 x7))
  have BZ7 := Lib.hid (show ((((((((w9.setCell ⟨w.heap.size, 0, none⟩ (.int .i64 x0)).setCell ⟨w.heap.size, 1, none⟩ (.int .i64 x1)).setCell ⟨w.heap.size, 2, none⟩ (.string ⟨x2.toArray⟩)).setCell ⟨w.heap.size, 3, none⟩ (.int .i64 x3)).setCell ⟨w.heap.size, 4, none⟩ (.int .i64 x4)).setCell ⟨w.heap.size, 5, none⟩ (.int .i64 x5)).setCell ⟨w.heap.size, 6, none⟩ (.slice la x6.length lc)).setCell ⟨w.heap.size, 7, none⟩ (.int .i64 x7)).heap[w.heap.size]? = some (.cells #[.int .i64 x0, .int .i64 x1, .string ⟨x2.toArray⟩, .int .i64 x3, .int .i64 x4, .int .i64 x5, .slice la x6.length lc, .int .i64 x7, .int .i64 0] 49 (0, 0)) from Joins.block_setCell BZ6.out (.int .i64 x7))
  clear DZ6 PZ6 OZ6 BZ6
  have DZ8 := Lib.hid (rd_setNew DZ7.out hne.symm 8 (.int .i64 x8))
  have PZ8 := Lib.hid (PZ7.out.setNew (Nat.le_refl _) 8 (.int .i64 x8))
  have OZ8 := Lib.hid (ownsRow_setCell_below (a := ⟨w.heap.size, 8, none⟩) OZ7.out (Nat.lt_succ_self w.heap.size) (.int .i64 x8))
  have BZ8 := Lib.hid (show (((((((((w9.setCell ⟨w.heap.size, 0, none⟩ (.int .i64 x0)).setCell ⟨w.heap.size, 1, none⟩ (.int .i64 x1)).setCell ⟨w.heap.size, 2, none⟩ (.string ⟨x2.toArray⟩)).setCell ⟨w.heap.size, 3, none⟩ (.int .i64 x3)).setCell ⟨w.heap.size, 4, none⟩ (.int .i64 x4)).setCell ⟨w.heap.size, 5, none⟩ (.int .i64 x5)).setCell ⟨w.heap.size, 6, none⟩ (.slice la x6.length lc)).setCell ⟨w.heap.size, 7, none⟩ (.int .i64 x7)).setCell ⟨w.heap.size, 8, none⟩ (.int .i64 x8)).heap[w.heap.size]? = some (.cells #[.int .i64 x0, .int .i64 x1, .string ⟨x2.toArray⟩, .int .i64 x3, .int .i64 x4, .int .i64 x5, .slice la x6.length lc, .int .i64 x7, .int .i64 x8] 49 (0, 0)) from Joins.block_setCell BZ7.out (.int .i64 x8))
  clear DZ7 PZ7 OZ7 BZ7
  have DF := DZ8
  have PF := PZ8
  have OF : Hid ((((((((((w9.setCell ⟨w.heap.size, 0, none⟩ (.int .i64 x0)).setCell ⟨w.heap.size, 1, none⟩ (.int .i64 x1)).setCell ⟨w.heap.size, 2, none⟩ (.string ⟨x2.toArray⟩)).setCell ⟨w.heap.size, 3, none⟩ (.int .i64 x3)).setCell ⟨w.heap.size, 4, none⟩ (.int .i64 x4)).setCell ⟨w.heap.size, 5, none⟩ (.int .i64 x5)).setCell ⟨w.heap.size, 6, none⟩ (.slice la x6.length lc)).setCell ⟨w.heap.size, 7, none⟩ (.int .i64 x7)).setCell ⟨w.heap.size, 8, none⟩ (.int .i64 x8)).ownsRow w.heap.size 3 1 (.slice la x6.length lc) x6.length (x6.map (Value.int .i64))) := Lib.hid (own_mono OZ8.out (Nat.le_succ _))
  have BF := BZ8
  clear DZ8 PZ8 OZ8 BZ8
  clear HB9 D9 P9 OWN9
  go_wp2
  generalize ((((((((((w9.setCell ⟨w.heap.size, 0, none⟩ (.int .i64 x0)).setCell ⟨w.heap.size, 1, none⟩ (.int .i64 x1)).setCell ⟨w.heap.size, 2, none⟩ (.string ⟨x2.toArray⟩)).setCell ⟨w.heap.size, 3, none⟩ (.int .i64 x3)).setCell ⟨w.heap.size, 4, none⟩ (.int .i64 x4)).setCell ⟨w.heap.size, 5, none⟩ (.int .i64 x5)).setCell ⟨w.heap.size, 6, none⟩ (.slice la x6.length lc)).setCell ⟨w.heap.size, 7, none⟩ (.int .i64 x7)).setCell ⟨w.heap.size, 8, none⟩ (.int .i64 x8))) = WF at BF OF DF PF ⊢
  obtain ⟨e0, e1, e2, e3, e4, e5, e6, e7, e8⟩ := nine_any BF.out
  refine bodyPost_ret (v := .agg #[.int .i64 x0, .int .i64 x1, .string ⟨x2.toArray⟩, .int .i64 x3, .int .i64 x4, .int .i64 x5, .slice la x6.length lc, .int .i64 x7, .int .i64 x8]) (by simp [results, Tryz.results192, go_sem, e0, e1, e2, e3, e4, e5, e6, e7, e8]) rfl ⟨la, lc, rfl, OF.out, DF.out, PF.out⟩
end Go.Proofs.YtlhcckjfgpcohaaGreatDoor
namespace Go.Proofs.YtlhcckjfgpcohaaGreatDoor
open Go.RowKit Go.MapKept
set_option maxRecDepth 100000
set_option linter.unusedSimpArgs false
set_option linter.unusedVariables false
theorem readBlk_any (R : Nat) (s : ByteArray) (σ : Int × Int) (w : World) (hs : s.size ≤ maxLen) (h : RdAt w R s σ) :
    Calls Tryz.prog 192 #[.pointer (some ⟨R, 0, none⟩)] w (BlkGot R s (rdB s.data.toList σ) w) := by
  have hRw : R < w.heap.size := (Array.getElem?_eq_some_iff.1 h).1
  exact readBlk_walk R s w hRw _ _ _ _ _ _ _ _ _ σ _ _ _ _ _ _ _ _ _ h
    (Lib.hid fun W hW => readInt_any R s _ W hs hW) (Lib.hid fun W hW => readInt_any R s _ W hs hW) (Lib.hid fun W hW => readS_any R s _ W hs hW)
    (Lib.hid fun W hW => readInt_any R s _ W hs hW) (Lib.hid fun W hW => readInt_any R s _ W hs hW) (Lib.hid fun W hW => readInt_any R s _ W hs hW)
    (Lib.hid fun W hW => readLi_any R s 64 _ W hs (by decide) hW) (Lib.hid fun W hW => readInt_any R s _ W hs hW) (Lib.hid fun W hW => readInt_any R s _ W hs hW)
theorem strAt_len (s : List UInt8) (a : Int) : (strAt s a).1.length ≤ 65536 := by
  unfold strAt
  simp only
  split
  · split
    · simp
    · rename_i h
      simp only [List.length_take]
      omega
  · simp
theorem rdS_len (s : List UInt8) (σ : Int × Int) : (rdS s σ).1.length ≤ 65536 := by
  unfold rdS
  split
  · exact strAt_len _ _
  · simp
/-- The numbers of a block are machine integers. -/
theorem rdB_bd (s : List UInt8) (σ : Int × Int) : BlkBd (rdB s σ).1 :=
  ⟨rdI_bd _ _, rdI_bd _ _, rdI_bd _ _, rdI_bd _ _, rdI_bd _ _, rdI_bd _ _, rdI_bd _ _, rdS_len _ _, rdLI_bd _ _ _⟩
def BsGot (R : Nat) (s : ByteArray) (r : List Blk × (Int × Int)) (w : World) (e : Ending) (w' : World) : Prop :=
  ∃ a c es, e = .returned (.slice a r.1.length c) ∧ blks es = r.1 ∧ IsBlks w' a r.1.length c es ∧ RdAt w' R s r.2 ∧ Keeps R w w'
/-- .. and the list is the call's own. -/
def BsOwn (R : Nat) (s : ByteArray) (r : List Blk × (Int × Int)) (w : World) (e : Ending) (w' : World) : Prop :=
  ∃ a c es, e = .returned (.slice a r.1.length c) ∧ blks es = r.1 ∧ w'.ownsRow w.heap.size 49 9 (.slice a r.1.length c) r.1.length (es.flatMap elB) ∧ (∀ e ∈ es, BeIn w.heap.size w' e) ∧ RdAt w' R s r.2 ∧ Keeps R w w'
set_option maxHeartbeats 4000000 in
theorem readBs_own (R : Nat) (s : ByteArray) (w : World) (σ : Int × Int) (hs : s.size ≤ maxLen) (h : RdAt w R s σ) :
    Calls Tryz.prog 191 #[.pointer (some ⟨R, 0, none⟩), .int .i64 24, .func (.func 192) #[] #[]] w (BsOwn R s (rdL s.data.toList 24 (rdB s.data.toList) σ) w) := by
  have hRw : R < w.heap.size := (Array.getElem?_eq_some_iff.1 h).1
  have K := Lib.hid (readI_any R s σ w hs h)
  have KW := Lib.hid (fun W => binside_any (rdI s.data.toList σ).1 0 24 W)
  have HS := Lib.hid hs
  clear h hs
  cases hb : inB (rdI s.data.toList σ).1 0 24
  · have HR : Hid (rdL s.data.toList 24 (rdB s.data.toList) σ = ([], ((rdI s.data.toList σ).2.1, 30))) := Lib.hid (by unfold rdL; rw [if_neg (by simp [hb])])
    rw [hb] at KW
    clear hb
    rw [HR.out]
    clear HR
    generalize rdI s.data.toList σ = r at *
    obtain ⟨n, a, e⟩ := r
    go_enter Tryz.func191, Tryz.ntmps191
    go_wp2_with fail
    refine K.out.mono ?_
    rintro x w1 ⟨rfl, h1, k1⟩
    go_wp2_with fail
    refine (KW.out _).mono ?_
    rintro x w2 ⟨rfl, rfl⟩
    obtain ⟨d0, d1, d2⟩ := rd_cells h1
    have f2 := Joins.unfrozen_of_block h1 2
    have H3 := Lib.hid (show RdAt (w1.setCell ⟨R, 2, none⟩ (.int .i64 30)) R s (a, 30) from Joins.block_setCell h1 (.int .i64 30))
    have K3 := Lib.hid (k1.setCell 2 (.int .i64 30))
    clear h1 k1
    go_wp2
    go_ret
    exact ⟨none, 0, [], rfl, rfl, World.ownsRow_nil _ _ _ _, by simp, H3.out, K3.out⟩
  · have HR : Hid (rdL s.data.toList 24 (rdB s.data.toList) σ = rdN (rdB s.data.toList) (rdI s.data.toList σ).1.toNat (rdI s.data.toList σ).2) := Lib.hid (by unfold rdL; rw [if_pos hb])
    rw [hb] at KW
    simp only [inB, decide_eq_true_eq] at hb
    rw [HR.out]
    clear HR
    generalize rdI s.data.toList σ = r at *
    obtain ⟨n, σ1⟩ := r
    simp only at K KW hb ⊢
    obtain ⟨N, rfl⟩ := Int.eq_ofNat_of_zero_le hb.1
    simp only [Int.toNat_natCast]
    have hN : N ≤ 24 := by omega
    clear hb
    obtain ⟨i0, hi, hz0, hz1, hz2⟩ := info_parts blkInfo
    go_enter Tryz.func191, Tryz.ntmps191
    go_wp2_with fail
    refine K.out.mono ?_
    rintro x w1 ⟨rfl, h1, k1⟩
    go_wp2_with fail
    refine (KW.out _).mono ?_
    rintro x w2 ⟨rfl, rfl⟩
    have HD1 := Lib.hid h1
    have HK1 := Lib.hid k1
    clear h1 k1 K KW
    go_wp2_with fail
    go_loopw [19, 8] (fun i v wr => ∃ (k : Nat) (es : List BE), k ≤ N ∧ i = .int .i64 k ∧ Hid (blks es = (rdN (rdB s.data.toList) k σ1).1) ∧ Hid (wr.ownsRow w.heap.size 49 9 v k (es.flatMap elB)) ∧ Hid (∀ e ∈ es, BeIn w.heap.size wr e) ∧ Hid (RdAt wr R s (rdN (rdB s.data.toList) k σ1).2) ∧ Hid (Keeps R w wr)) (fun i _ _ => N - (intOf i).toNat)
    case atStart => exact ⟨0, [], Nat.zero_le _, rfl, Lib.hid rfl, Lib.hid (World.ownsRow_nil _ _ _ _), Lib.hid (by simp), HD1, HK1⟩
    case round =>
      obtain ⟨k, es, hk, rfl, hes, hown, hin, hd, hkp⟩ := hrel
      by_cases hlt : k < N
      · have HSN := Lib.hid (rdN_snoc (rdB s.data.toList) k σ1)
        have KI := Lib.hid (readBlk_any R s (rdN (rdB s.data.toList) k σ1).2 wr HS.out hd.out)
        have HBD := Lib.hid (rdB_bd s.data.toList (rdN (rdB s.data.toList) k σ1).2)
        generalize rdB s.data.toList (rdN (rdB s.data.toList) k σ1).2 = q at *
        obtain ⟨b, σ2⟩ := q
        simp only at KI HSN HBD
        obtain ⟨va, vc, rfl⟩ := own_slice hown.out
        have hltn : (k : Int) < N := by omega
        go_wp2_with fail
        refine KI.out.mono ?_
        rintro x w2 ⟨la, lc, rfl, ow, h2, k2⟩
        obtain ⟨e, he⟩ : ∃ e : BE, e = (b, la, b.lb.af.length, lc) := ⟨_, rfl⟩
        have hsz : w.heap.size ≤ wr.heap.size := hkp.out.size
        have NEW := Lib.hid (show BeIn w.heap.size w2 e by rw [he]; exact ⟨HBD.out, own_mono ow hsz⟩)
        have OLD : Hid (∀ e ∈ es, BeIn w.heap.size w2 e) := Lib.hid (fun e' h' => ⟨(hin.out e' h').1, own_keeps (hin.out e' h').2 hRw k2⟩)
        have OWN := Lib.hid (own_keeps hown.out hRw k2)
        have K2 := Lib.hid (hkp.out.trans k2)
        have D2 := Lib.hid h2
        have hbe : e.1 = b := by rw [he]
        have HBE := Lib.hid hbe
        have HEE := Lib.hid he
        obtain ⟨L, hL⟩ : ∃ L, L = b.lb.af.length := ⟨_, rfl⟩
        simp only [blkV]
        rw [← hL]
        rw [← hL] at HEE
        clear h2 k2 hown hkp KI hd hin ow he hbe HBD hsz hL
        have hb0 : w.heap.size ≤ (w2.alloc (.cells #[.int .i64 b.id, .int .i64 b.kd, .string ⟨b.tx.toArray⟩, .int .i64 b.st, .int .i64 b.rf, .int .i64 b.lb.u, .slice la L lc, .int .i64 b.lb.ap, .int .i64 b.lb.d] 49)).heap.size := by have := K2.out.size; simp; omega
        have hnews := Lib.hid (elB_news w2 (b, la, L, lc))
        go_wp2_with (at_builtin; refine wpList_append_own _ rfl (.tmp 21) (.tmp 25) 23 rfl w.heap.size 49 i0 _ 9 96 Tryz.underlying23 hi hz0 hz1 hz2 rfl (by decide) _ k _ rfl (OWN.out.alloc _) ⟨w2.heap.size, 0, none⟩ 1 1 (elB (b, la, L, lc)) rfl rfl hnews.out (elB_cell _) (by unfold maxLen; omega) (by omega) hb0 ?_; intro v' w3 hown1 hg _; obtain ⟨a', c', rfl⟩ := own_slice hown1)
        have hRr : ∀ q, Value.ownBlock (.slice va k vc) = some q → w.heap.size ≤ q := fun q hq => (OWN.out.lt _ hq).1
        have D3 := Lib.hid (show RdAt w3 R s σ2 from (hg.block _ (by have := K2.out.size; simp; omega) (fun e => by have := hRr _ e.symm; omega)).trans ((Below.heap_alloc _ _ _ (by have := K2.out.size; omega)).trans D2.out))
        have K3 := Lib.hid ((K2.out.alloc (.cells #[.int .i64 b.id, .int .i64 b.kd, .string ⟨b.tx.toArray⟩, .int .i64 b.st, .int .i64 b.rf, .int .i64 b.lb.u, .slice la L lc, .int .i64 b.lb.ap, .int .i64 b.lb.d] 49)).grown hg hRr)
        have IN3 : Hid (∀ e' ∈ es ++ [e], BeIn w.heap.size w3 e') := Lib.hid (fun e' h' => by
          have h2 : BeIn w.heap.size w2 e' := by
            rcases List.mem_append.1 h' with h' | h'
            · exact OLD.out e' h'
            · rw [List.mem_singleton] at h'; rw [h']; exact NEW.out
          exact ⟨h2.1, own_grown (h2.2.alloc _) (OWN.out.alloc _) (by decide) hg⟩)
        have OWN3 := Lib.hid hown1
        clear hown1 hg hRr hb0 D2 K2 OWN hnews NEW OLD
        go_wp2
        go_roundw
        case rel =>
          refine ⟨k + 1, es ++ [e], by omega, by go_num, Lib.hid ?_, Lib.hid ?_, IN3, Lib.hid ?_, K3⟩
          · rw [HSN.out, ← hes.out]; simp [blks, HBE.out]
          · have h9 := OWN3.out
            rw [HEE.out, List.flatMap_append]
            simpa using h9
          · rw [HSN.out]; exact D3.out
        case measure => simp [intOf]; omega
      · obtain rfl : k = N := by omega
        obtain ⟨va, vc, rfl⟩ := own_slice hown.out
        have hlen := rdN_len (rdB s.data.toList) k σ1
        have HI := Lib.hid (And.intro hown.out hin.out)
        go_wp2
        go_ret
        refine ⟨va, vc, es, by rw [hlen]; rfl, hes.out, by rw [hlen]; exact HI.out.1, HI.out.2, hd.out, hkp.out⟩
theorem readBs_any (R : Nat) (s : ByteArray) (w : World) (σ : Int × Int) (hs : s.size ≤ maxLen) (h : RdAt w R s σ) :
    Calls Tryz.prog 191 #[.pointer (some ⟨R, 0, none⟩), .int .i64 24, .func (.func 192) #[] #[]] w (BsGot R s (rdL s.data.toList 24 (rdB s.data.toList) σ) w) :=
  (readBs_own R s w σ hs h).mono (fun _ _ ⟨a, c, es, h1, h2, h3, h4, h5, h6⟩ => ⟨a, c, es, h1, h2, blks_of_own h3 (fun e he => (h4 e he).ok), h5, h6⟩)
end Go.Proofs.YtlhcckjfgpcohaaGreatDoor
namespace Go.Proofs.YtlhcckjfgpcohaaGreatDoor
open Go.RowKit Go.MapKept
set_option maxRecDepth 100000
set_option linter.unusedSimpArgs false
set_option linter.unusedVariables false
def DecGot (r : List Blk × Int) (w : World) (x : Ending) (w' : World) : Prop :=
  ∃ a c es, x = .returned (.tuple #[.slice a r.1.length c, .int .i64 r.2]) ∧ blks es = r.1 ∧ IsBlks w' a r.1.length c es ∧ Below w.heap.size w w'
/-- .. and the list is the call's own. -/
def DecOwn (r : List Blk × Int) (w : World) (x : Ending) (w' : World) : Prop :=
  ∃ a c es, x = .returned (.tuple #[.slice a r.1.length c, .int .i64 r.2]) ∧ blks es = r.1 ∧ w'.ownsRow w.heap.size 49 9 (.slice a r.1.length c) r.1.length (es.flatMap elB) ∧ (∀ e ∈ es, BeIn w.heap.size w' e) ∧ Below w.heap.size w w'
theorem nil_blks (w : World) : IsBlks w none 0 0 [] := ⟨rfl, Nat.le_refl _, by unfold maxLen; omega, by simp, .inl rfl⟩
set_option maxHeartbeats 4000000 in
theorem decode_own (s : ByteArray) (w : World) (hs : s.size ≤ maxLen) : Calls Tryz.prog 186 #[.string s] w (DecOwn (decP s.data.toList) w) := by
  have D0 : RdAt (w.alloc (.cells #[.string s, .int .i64 0, .int .i64 0] 205)) w.heap.size s (0, 0) := heap_alloc_new w _
  have K := Lib.hid (readBs_own w.heap.size s (w.alloc (.cells #[.string s, .int .i64 0, .int .i64 0] 205)) (0, 0) hs D0)
  have HP := Lib.hid (show decP s.data.toList = (let l := rdL s.data.toList 24 (rdB s.data.toList) (0, 0); if l.2.2 ≠ 0 then ([], l.2.2) else if l.2.1 < s.size then ([], 10) else if vL l.1 = false then ([], 30) else (l.1, 0)) by unfold decP; rw [slen])
  have hsm : s.size ≤ maxLen := hs
  unfold maxLen at hsm
  clear D0 hs
  generalize decP s.data.toList = r at *
  generalize rdL s.data.toList 24 (rdB s.data.toList) (0, 0) = q at *
  obtain ⟨l, at', err⟩ := q
  simp only at HP
  go_enter Tryz.func186, Tryz.ntmps186
  go_wp2_with fail
  refine K.out.mono ?_
  rintro x w1 ⟨a, c, es, rfl, hes, ho, hin, hd, hk⟩
  have hb : IsBlks w1 a l.length c es := blks_of_own ho (fun e he => (hin e he).ok)
  have HOW := Lib.hid (show w1.ownsRow w.heap.size 49 9 (.slice a l.length c) l.length (es.flatMap elB) from own_mono ho (by simp))
  have HIN : Hid (∀ e ∈ es, BeIn w.heap.size w1 e) := Lib.hid (fun e he => ⟨(hin e he).1, own_mono (hin e he).2 (by simp)⟩)
  clear ho hin
  simp only at hes hd ⊢
  obtain ⟨d0, d1, d2⟩ := rd_cells hd
  simp only at d0 d1 d2
  have BW := Lib.hid ((hk.below (B := w.heap.size) (by simp) (Nat.le_refl _)))
  have BW2 : Hid (Below w.heap.size w w1) := Lib.hid ((below_alloc w (.cells #[.string s, .int .i64 0, .int .i64 0] 205)).trans BW.out)
  have KV := Lib.hid (vlist_any a l.length c es w1 hb)
  have HES := Lib.hid hes
  have HB := Lib.hid hb
  rw [hes] at KV
  clear hk hd hes hb K BW
  by_cases h0 : err = 0
  · subst h0
    have HP2 := HP.out
    rw [if_neg (by simp)] at HP2
    by_cases h1 : at' < s.size
    · rw [if_pos h1] at HP2
      have HR := Lib.hid HP2
      clear HP2 HP KV
      go_wp2
      go_ret2
      rw [HR.out]
      exact ⟨none, 0, [], rfl, rfl, World.ownsRow_nil _ _ _ _, by simp, BW2.out⟩
    · rw [if_neg h1] at HP2
      cases hv : vL l
      · rw [if_pos hv] at HP2
        rw [hv] at KV
        have HR := Lib.hid HP2
        clear HP2 HP hv
        go_wp2_with fail
        refine KV.out.mono ?_
        rintro x w2 ⟨rfl, b2⟩
        have B2 := Lib.hid (bel2 BW2.out b2)
        clear b2
        go_wp2
        go_ret2
        rw [HR.out]
        exact ⟨none, 0, [], rfl, rfl, World.ownsRow_nil _ _ _ _, by simp, B2.out⟩
      · rw [if_neg (by simp [hv])] at HP2
        rw [hv] at KV
        have HR := Lib.hid HP2
        clear HP2 HP hv
        go_wp2_with fail
        refine KV.out.mono ?_
        rintro x w2 ⟨rfl, b2⟩
        have B2 := Lib.hid (bel2 BW2.out b2)
        have HB2 := Lib.hid (own_over HOW.out b2)
        have HI2 : Hid (∀ e ∈ es, BeIn w.heap.size w2 e) := Lib.hid (fun e he => ⟨(HIN.out e he).1, own_over (HIN.out e he).2 b2⟩)
        clear b2
        go_wp2
        go_ret2
        rw [HR.out]
        exact ⟨a, c, es, rfl, HES.out, HB2.out, HI2.out, B2.out⟩
  · have HR := Lib.hid (show r = ([], err) by rw [HP.out]; rw [if_pos h0])
    have g1 : (err != 0) = true := by simp [h0]
    clear HP KV h0
    go_wp2_with fail
    go_quiet (fail)
    go_wp2
    go_ret2
    rw [HR.out]
    exact ⟨none, 0, [], rfl, rfl, World.ownsRow_nil _ _ _ _, by simp, below_drewN BW2.out _⟩
theorem decode_any (s : ByteArray) (w : World) (hs : s.size ≤ maxLen) : Calls Tryz.prog 186 #[.string s] w (DecGot (decP s.data.toList) w) :=
  (decode_own s w hs).mono (fun _ _ ⟨a, c, es, h1, h2, h3, h4, h5⟩ => ⟨a, c, es, h1, h2, blks_of_own h3 (fun e he => (h4 e he).ok), h5⟩)
end Go.Proofs.YtlhcckjfgpcohaaGreatDoor
namespace Go.Proofs.YtlhcckjfgpcohaaGreatDoor
set_option linter.unusedSimpArgs false
set_option linter.unusedVariables false
theorem pair_eta {σ : Int × Int} (h : σ.2 = 0) : σ = (σ.1, 0) := by rw [← h]
theorem rdI_at (s : List UInt8) (p : Int) : rdI s (p, 0) = intAt s p := by unfold rdI; rw [if_pos rfl]
theorem rdS_at (s : List UInt8) (p : Int) : rdS s (p, 0) = strAt s p := by unfold rdS; rw [if_pos rfl]
theorem rdI_keep (s : List UInt8) {σ : Int × Int} (h : σ.2 ≠ 0) : (rdI s σ).2 = σ := (rdI_ok.err s s σ h).2
theorem rdS_keep (s : List UInt8) {σ : Int × Int} (h : σ.2 ≠ 0) : (rdS s σ).2 = σ := (rdS_ok.err s s σ h).2
theorem rdN_keep {α : Type} {f : Int × Int → α × (Int × Int)} (hf : ∀ σ, σ.2 ≠ 0 → (f σ).2 = σ) : ∀ (n : Nat) (σ : Int × Int), σ.2 ≠ 0 → (rdN f n σ).2 = σ
  | 0, σ, _ => rfl
  | n + 1, σ, h => by
    rw [rdN]
    simp only
    rw [hf σ h]
    exact rdN_keep hf n σ h
theorem rdN_add {α : Type} (f : Int × Int → α × (Int × Int)) : ∀ (a b : Nat) (σ : Int × Int), (rdN f (a + b) σ).2 = (rdN f b (rdN f a σ).2).2
  | 0, b, σ => by rw [Nat.zero_add]; rfl
  | a + 1, b, σ => by
    rw [Nat.add_right_comm, rdN, rdN]
    exact rdN_add f a b (f σ).2
/-- The first failure is the whole's. -/
theorem rdN_cut {α : Type} {f : Int × Int → α × (Int × Int)} (hf : ∀ σ, σ.2 ≠ 0 → (f σ).2 = σ) {n k : Nat} (hk : k < n) {σ : Int × Int} (h : (f (rdN f k σ).2).2.2 ≠ 0) : (rdN f n σ).2 = (f (rdN f k σ).2).2 := by
  obtain ⟨m, rfl⟩ : ∃ m, n = (k + 1) + m := ⟨n - (k + 1), by omega⟩
  rw [rdN_add, rdN_snoc]
  exact rdN_keep hf m _ h
theorem rdLE_keep {α : Type} (s : List UInt8) (most : Int) {f : Int × Int → α × (Int × Int)} {σ : Int × Int} (h : σ.2 ≠ 0) : (rdLE 50 s most f σ).2 = σ := by unfold rdLE; rw [if_pos h]
theorem rdLE_err {α : Type} {s : List UInt8} {most : Int} {f : Int × Int → α × (Int × Int)} {p : Int} (h : (intAt s p).2.2 ≠ 0) : (rdLE 50 s most f (p, 0)).2 = (intAt s p).2 := by
  unfold rdLE; rw [if_neg (by simp), rdI_at, if_pos h]
theorem rdLE_bad {α : Type} {s : List UInt8} {most : Int} {f : Int × Int → α × (Int × Int)} {p : Int} (h : (intAt s p).2.2 = 0) (h2 : inB (intAt s p).1 0 most = false) : (rdLE 50 s most f (p, 0)).2 = ((intAt s p).2.1, 50) := by
  unfold rdLE; rw [if_neg (by simp), rdI_at, if_neg (by simp [h]), if_neg (by simp [h2])]
theorem rdLE_some {α : Type} {s : List UInt8} {most : Int} {f : Int × Int → α × (Int × Int)} {p : Int} {n : Nat} {a : Int} (h : intAt s p = ((n : Int), a, 0)) (h2 : inB (n : Int) 0 most = true) : rdLE 50 s most f (p, 0) = rdN f n (a, 0) := by
  unfold rdLE; rw [if_neg (by simp), rdI_at, h, if_neg (by simp), if_pos h2, Int.toNat_natCast]
/-- A row of n values of which the first are there. -/
def rowV {α : Type} (val : α → Value) (zero : Value) (l : List α) (n : Nat) : Array Value := (l.map val ++ List.replicate (n - l.length) zero).toArray
theorem rowV_size {α : Type} (val : α → Value) (zero : Value) (l : List α) (n : Nat) (h : l.length ≤ n) : (rowV val zero l n).size = n := by
  simp [rowV]; omega
theorem rowV_set {α : Type} (val : α → Value) (zero : Value) (l : List α) (n : Nat) (x : α) (h : l.length < n) : (rowV val zero l n).setIfInBounds l.length (val x) = rowV val zero (l ++ [x]) n := by
  unfold rowV
  obtain ⟨m, hm⟩ : ∃ m, n - l.length = m + 1 := ⟨n - l.length - 1, by omega⟩
  have hm2 : n - (l ++ [x]).length = m := by simp; omega
  rw [hm, hm2, List.setIfInBounds_toArray, List.set_append_right _ _ (by simp)]
  simp [List.replicate_succ]
theorem rowV_full {α : Type} (val : α → Value) (zero : Value) (l : List α) (n : Nat) (h : l.length = n) : (rowV val zero l n).toList = l.map val := by
  simp [rowV, h]
theorem rowV_none {α : Type} (val : α → Value) (zero : Value) (n : Nat) : rowV val zero ([] : List α) n = Array.replicate n zero := by simp [rowV]
/-! ### A label, read -/
theorem rdA_1 {s : List UInt8} {p : Int} (h : (intAt s p).2.2 ≠ 0) : (rdA s (p, 0)).2 = (intAt s p).2 := by
  have h1 : (rdI s (p, 0)).2 = (intAt s p).2 := by rw [rdI_at]
  unfold rdA
  simp only
  rw [h1, rdLE_keep s 64 h, rdI_keep s h, rdI_keep s h]
theorem rdA_2 {s : List UInt8} {p a u : Int} (h1 : intAt s p = (u, a, 0)) (h : (rdLE 50 s 64 (rdI s) (a, 0)).2.2 ≠ 0) : (rdA s (p, 0)).2 = (rdLE 50 s 64 (rdI s) (a, 0)).2 := by
  unfold rdA
  simp only
  rw [rdI_at, h1, rdI_keep s h, rdI_keep s h]
theorem rdA_3 {s : List UInt8} {p a u b : Int} (h1 : intAt s p = (u, a, 0)) (h2 : (rdLE 50 s 64 (rdI s) (a, 0)).2 = (b, 0)) (h : (intAt s b).2.2 ≠ 0) : (rdA s (p, 0)).2 = (intAt s b).2 := by
  unfold rdA
  simp only
  rw [rdI_at, h1]
  simp only
  rw [h2, rdI_at, rdI_keep s h]
theorem rdA_4 {s : List UInt8} {p a u b c v : Int} (h1 : intAt s p = (u, a, 0)) (h2 : (rdLE 50 s 64 (rdI s) (a, 0)).2 = (b, 0)) (h3 : intAt s b = (v, c, 0)) : rdA s (p, 0) = (⟨u, (rdLE 50 s 64 (rdI s) (a, 0)).1, v, (intAt s c).1⟩, (intAt s c).2) := by
  unfold rdA
  simp only
  rw [rdI_at, h1]
  simp only
  rw [h2, rdI_at, h3]
  simp only
  rw [rdI_at]
/-! ### A fact, read -/
def preF (s : List UInt8) : Fct × (Int × Int) :=
  let a := seqF hdF s zF (0, 0)
  if a.2.2 ≠ 0 then (zF, a.2) else
  match ownF a.1.kd with
  | none => (zF, (a.2.1, 50))
  | some l => seqF l s a.1 a.2
theorem preF_hd {s : List UInt8} (h : (seqF hdF s zF (0, 0)).2.2 ≠ 0) : (preF s).2 = (seqF hdF s zF (0, 0)).2 := by unfold preF; simp only; rw [if_pos h]
theorem preF_no {s : List UInt8} (h : (seqF hdF s zF (0, 0)).2.2 = 0) (h2 : ownF (seqF hdF s zF (0, 0)).1.kd = none) : (preF s).2.2 = 50 := by unfold preF; simp only; rw [if_neg (by simp [h]), h2]
theorem preF_some {s : List UInt8} {l : List Fld} {p : Int} (h : (seqF hdF s zF (0, 0)).2 = (p, 0)) (h2 : ownF (seqF hdF s zF (0, 0)).1.kd = some l) : preF s = seqF l s (seqF hdF s zF (0, 0)).1 (p, 0) := by
  unfold preF; simp only; rw [if_neg (by simp [h]), h2]; simp only; rw [h]
theorem decF_pre (s : List UInt8) : decF s = if (preF s).2.2 ≠ 0 then (zF, (preF s).2.2) else if (preF s).2.1 < s.length then (zF, 10) else if vF (preF s).1 = false then (zF, 50) else ((preF s).1, 0) := by
  by_cases h : (seqF hdF s zF (0, 0)).2.2 = 0
  · cases ho : ownF (seqF hdF s zF (0, 0)).1.kd with
    | none =>
      have h50 := preF_no h ho
      rw [if_pos (by rw [h50]; decide), h50]
      unfold decF
      simp only
      rw [if_neg (by simp [h]), ho]
    | some l =>
      rw [preF_some (s := s) (l := l) (p := (seqF hdF s zF (0, 0)).2.1) (pair_eta h) ho]
      unfold decF
      simp only
      rw [if_neg (by simp [h]), ho]
      simp only
      rw [show (seqF hdF s zF (0, 0)).2 = ((seqF hdF s zF (0, 0)).2.1, 0) from pair_eta h]
  · have h1 := preF_hd h
    rw [h1, if_pos h]
    unfold decF
    simp only
    rw [if_pos h]
theorem seqF_cut : ∀ (l : List Fld) (s : List UInt8) (f : Fct) (σ : Int × Int), σ.2 ≠ 0 → (seqF l s f σ).2 = σ := fun l s f σ h => (seqF_err l s s f σ h).2
theorem seqF_app : ∀ (l m : List Fld) (s : List UInt8) (f : Fct) (σ : Int × Int), seqF (l ++ m) s f σ = seqF m s (seqF l s f σ).1 (seqF l s f σ).2
  | [], m, s, f, σ => rfl
  | x :: l, m, s, f, σ => by
    simp only [List.cons_append, seqF]
    exact seqF_app l m s _ _
theorem seqF_take_succ {l : List Fld} {k : Nat} {x : Fld} (h : l[k]? = some x) (s : List UInt8) (f : Fct) (σ : Int × Int) :
    seqF (l.take (k + 1)) s f σ = (setF x (rdV x s (seqF (l.take k) s f σ).2).1 (seqF (l.take k) s f σ).1, (rdV x s (seqF (l.take k) s f σ).2).2) := by
  obtain ⟨hk, rfl⟩ := List.getElem?_eq_some_iff.1 h
  rw [List.take_succ_eq_append_getElem hk, seqF_app]
  rfl
theorem seqF_stop {l : List Fld} {k : Nat} {x : Fld} (h : l[k]? = some x) (s : List UInt8) (f : Fct) (σ : Int × Int) (he : (rdV x s (seqF (l.take k) s f σ).2).2.2 ≠ 0) :
    (seqF l s f σ).2 = (rdV x s (seqF (l.take k) s f σ).2).2 := by
  have e : l = l.take (k + 1) ++ l.drop (k + 1) := (List.take_append_drop _ _).symm
  rw [e, seqF_app, List.take_append_drop, seqF_take_succ h]
  exact seqF_cut _ s _ _ he
end Go.Proofs.YtlhcckjfgpcohaaGreatDoor
namespace Go.Proofs.YtlhcckjfgpcohaaGreatDoor
set_option linter.unusedSimpArgs false
set_option linter.unusedVariables false
/-- The field that is spoiled is zero. -/
def spoilZ (i : Int) (f : Fct) : Prop :=
  if i = 0 then f.ed = 0 else if i = 1 then f.nm = [] else if i = 2 then f.pt = 0 else if i = 3 then f.cl = 0 else if i = 4 then f.lg = [] else if i = 5 then f.rv = 0 else if i = 6 then f.lb.ap = 0 else if i = 7 then f.tp = [] else f.bk = 0
theorem spoil_zero {f : Fct} {l : List Fld} {i : Int} (ho : ownF f.kd = some l) (hz : setL (hdF ++ l) zF f = zF) (hi : 0 ≤ i ∧ i ≤ 8) (hu : usesB f.kd i = false) : spoilZ i f := by
  obtain ⟨n, tm, kd, st, lg, rv, bs, ti, au, tp, bl, lb, ed, bk, se, tx, nm, pt, cl, un⟩ := f
  have hi2 : i = 0 ∨ i = 1 ∨ i = 2 ∨ i = 3 ∨ i = 4 ∨ i = 5 ∨ i = 6 ∨ i = 7 ∨ i = 8 := by omega
  rcases own_cases ho with ⟨hk, rfl⟩ | ⟨hk, rfl⟩ | ⟨hk, rfl⟩ | ⟨hk, rfl⟩ | ⟨hk, rfl⟩ | ⟨hk, rfl⟩ | ⟨hk, rfl⟩ | ⟨hk, rfl⟩ | ⟨hk, rfl⟩ | ⟨hk, rfl⟩ <;>
  · simp only at hk
    subst hk
    simp only [setL, hdF, List.cons_append, List.nil_append, List.foldl_cons, List.foldl_nil, setF, zF, zeroL, Fct.mk.injEq] at hz
    rcases hi2 with rfl | rfl | rfl | rfl | rfl | rfl | rfl | rfl | rfl <;> first
      | (simp [usesB] at hu; done)
      | (simp [spoilZ, hz]; done)
theorem spoil_same {f : Fct} {i : Int} : (spoilF i f).kd = f.kd := by
  unfold spoilF
  repeat' split
  all_goals rfl
theorem spoil_bad {f : Fct} {i : Int} (h : vF f = true) (hi : 0 ≤ i ∧ i ≤ 8) (hu : usesB f.kd i = false) : vF (spoilF i f) = false ∧ sF f (spoilF i f) = false ∧ spoilZ i f := by
  obtain ⟨l, ho, hv, hz⟩ := vF_some h
  have z := spoil_zero ho hz hi hu
  have hi2 : i = 0 ∨ i = 1 ∨ i = 2 ∨ i = 3 ∨ i = 4 ∨ i = 5 ∨ i = 6 ∨ i = 7 ∨ i = 8 := by omega
  have hne : ∀ g : Fct, spoilZ i g → ¬ spoilZ i (spoilF i g) := by
    intro g hg
    rcases hi2 with rfl | rfl | rfl | rfl | rfl | rfl | rfl | rfl | rfl <;> (simp [spoilZ, spoilF] at hg ⊢; try omega)
  have n1 := hne f z
  refine ⟨?_, ?_, z⟩
  · cases hb : vF (spoilF i f)
    · rfl
    · exfalso
      obtain ⟨l2, ho2, hv2, hz2⟩ := vF_some hb
      exact n1 (spoil_zero ho2 hz2 hi (by rw [spoil_same]; exact hu))
  · cases hb : sF f (spoilF i f)
    · rfl
    · exfalso
      have e := (sF_iff _ _).1 hb
      rw [← e] at n1
      exact n1 z
/-! ### What the law keeps -/
def cutT (n : Nat) (t : List UInt8) : List UInt8 := t.take n
def fewL (l : Lab) : Lab := ⟨l.u, l.af.take 70, l.ap, l.d⟩
def fewB (b : Blk) : Blk := { b with tx := b.tx.take 400, lb := fewL b.lb }
def fewF (f : Fct) : Fct := { f with tp := f.tp.take 6, bl := (f.bl.take 26).map fewB, lb := fewL f.lb, ti := f.ti.take 400, tx := f.tx.take 1200 }
end Go.Proofs.YtlhcckjfgpcohaaGreatDoor
namespace Go.Proofs.YtlhcckjfgpcohaaGreatDoor
open Go.RowKit
set_option maxRecDepth 100000
set_option linter.unusedSimpArgs false
set_option linter.unusedVariables false
/-- A reader in block R: what it reads, and where it is. -/
def Rd5 (w : World) (R : Nat) (s : ByteArray) (p : Int) : Prop := w.heap[R]? = some (.cells #[.string s, .int .i64 p] 72 (0, 0))
theorem Rd5.over {w w' : World} {R : Nat} {s : ByteArray} {p : Int} (hb : Below w.heap.size w w') (h : Rd5 w R s p) : Rd5 w' R s p := blockOver hb h
theorem cells2 {W : World} {g : Nat} {a b : Value} {t : TypeId} {fr : Nat × Nat} (h : W.heap[g]? = some (.cells #[a, b] t fr)) : W.cell? ⟨g, 0, none⟩ = some a ∧ W.cell? ⟨g, 1, none⟩ = some b := by
  constructor <;> (rw [Joins.cell_of_block h]; rfl)
/-- How a failure is told. -/
def failed (n : Int) : Ending := .panicked [{ v := .iface 31 (.int .i64 n), recovered := false }]
set_option maxHeartbeats 4000000 in
theorem readI5_ok (R : Nat) (s : ByteArray) (at0 at2 : Int)  (v : Int) (w : World) (h : Rd5 w R s at0)
    (KD : Hid (∀ W : World, Calls Tryz.prog 190 #[.string s, .int .i64 at0] W fun e w' => e = .returned (.tuple #[.int .i64 v, .int .i64 at2, .int .i64 0]) ∧ Below W.heap.size W w')) :
    Calls Tryz.prog 189 #[.pointer (some ⟨R, 0, none⟩), .func (.func 190) #[] #[]] w fun e w' => e = .returned (.int .i64 v) ∧ Rd5 w' R s at2 ∧ Keeps R w w' := by
  obtain ⟨c0, c1⟩ := cells2 h
  have H := Lib.hid h
  clear h
  go_enter Tryz.func189, Tryz.ntmps189
  go_wp2_with fail
  refine wp_region_held_drew (S := fun w' => w'.cell? ⟨R, 0, none⟩ = some (.string s) ∧ w'.cell? ⟨R, 1, none⟩ = some (.int .i64 at0)) (by kernel_rfl) ?_ (fun h0 => ?_)
  · exact ⟨c0, c1⟩
  refine wpAnyH_take (i := 0) (v := ?_) rfl (by kernel_rfl) (by kernel_rfl) (by kernel_rfl) (fun _ _ _ h => h) (Or.inl ⟨by rfl, ?_⟩) h0 ?_
  rotate_left
  · (intro w hSw; (try dsimp only at hSw); go_simp); all_goals (with_reducible rfl)
  try simp only [List.getElem_toArray, List.getElem_cons_succ, List.getElem_cons_zero, Act.put, List.setIfInBounds_toArray, List.set_cons_zero, List.set_cons_succ]
  refine wpAnyH_take (i := 1) (v := ?_) rfl (by kernel_rfl) (by kernel_rfl) (by kernel_rfl) (fun _ _ _ h => h) (Or.inl ⟨by rfl, ?_⟩) h0 ?_
  rotate_left
  · (intro w hSw; (try dsimp only at hSw); go_simp); all_goals (with_reducible rfl)
  try simp only [List.getElem_toArray, List.getElem_cons_succ, List.getElem_cons_zero, Act.put, List.setIfInBounds_toArray, List.set_cons_zero, List.set_cons_succ]
  refine wpAnyH_take (i := 2) (v := ?_) rfl (by kernel_rfl) (by kernel_rfl) (by kernel_rfl) (fun _ _ _ h => h) (Or.inl ⟨by rfl, ?_⟩) h0 ?_
  rotate_left
  · (intro w hSw; (try dsimp only at hSw); go_simp); all_goals (with_reducible rfl)
  try simp only [List.getElem_toArray, List.getElem_cons_succ, List.getElem_cons_zero, Act.put, List.setIfInBounds_toArray, List.set_cons_zero, List.set_cons_succ]
  refine wpAnyH_take (i := 3) (v := ?_) rfl (by kernel_rfl) (by kernel_rfl) (by kernel_rfl) (fun _ _ _ h => h) (Or.inl ⟨by rfl, ?_⟩) h0 ?_
  rotate_left
  · (intro w hSw; (try dsimp only at hSw); go_simp); all_goals (with_reducible rfl)
  try simp only [List.getElem_toArray, List.getElem_cons_succ, List.getElem_cons_zero, Act.put, List.setIfInBounds_toArray, List.set_cons_zero, List.set_cons_succ]
  refine wpAnyH_take (i := 4) (v := ?_) rfl (by kernel_rfl) (by kernel_rfl) (by kernel_rfl) (fun _ _ _ h => h) (Or.inl ⟨by rfl, ?_⟩) h0 ?_
  rotate_left
  · (intro w hSw; (try dsimp only at hSw); go_simp); all_goals (with_reducible rfl)
  try simp only [List.getElem_toArray, List.getElem_cons_succ, List.getElem_cons_zero, Act.put, List.setIfInBounds_toArray, List.set_cons_zero, List.set_cons_succ]
  refine wpAnyH_take (i := 5) (v := ?_) rfl (by kernel_rfl) (by kernel_rfl) (by kernel_rfl) (fun _ _ _ h => h) (Or.inl ⟨by rfl, ?_⟩) h0 ?_
  rotate_left
  · (intro w hSw; (try dsimp only at hSw); go_simp); all_goals (with_reducible rfl)
  try simp only [List.getElem_toArray, List.getElem_cons_succ, List.getElem_cons_zero, Act.put, List.setIfInBounds_toArray, List.set_cons_zero, List.set_cons_succ]
  refine wpAnyH_take (i := 6) (v := ?_) rfl (by kernel_rfl) (by kernel_rfl) (by kernel_rfl) (fun _ _ _ h => h) (Or.inl ⟨by rfl, ?_⟩) h0 ?_
  rotate_left
  · (intro w hSw; (try dsimp only at hSw); go_simp); all_goals (with_reducible rfl)
  try simp only [List.getElem_toArray, List.getElem_cons_succ, List.getElem_cons_zero, Act.put, List.setIfInBounds_toArray, List.set_cons_zero, List.set_cons_succ]
  refine wpAnyH_take (i := 7) (v := ?_) rfl (by kernel_rfl) (by kernel_rfl) (by kernel_rfl) (fun _ _ _ h => h) (Or.inl ⟨by rfl, ?_⟩) h0 ?_
  rotate_left
  · (intro w hSw; (try dsimp only at hSw); go_simp); all_goals (with_reducible rfl)
  try simp only [List.getElem_toArray, List.getElem_cons_succ, List.getElem_cons_zero, Act.put, List.setIfInBounds_toArray, List.set_cons_zero, List.set_cons_succ]
  refine wpAnyH_take (i := 8) (v := ?_) rfl (by kernel_rfl) (by kernel_rfl) (by kernel_rfl) (fun _ _ _ h => h) (Or.inl ⟨by rfl, ?_⟩) h0 ?_
  rotate_left
  · (intro w hSw; (try dsimp only at hSw); go_simp); all_goals (with_reducible rfl)
  try simp only [List.getElem_toArray, List.getElem_cons_succ, List.getElem_cons_zero, Act.put, List.setIfInBounds_toArray, List.set_cons_zero, List.set_cons_succ]
  refine wpAnyH_ready (rs := [9]) (by kernel_rfl) (by simp) ?_
  refine AllReadyH.cons rfl (fun K hK => ?_) AllReadyH.nil
  go_simp
  refine (KD.out _).mono ?_
  rintro e w1 ⟨rfl, b1⟩
  go_wp2_with fail
  have BW := Lib.hid (bel2 (below_drew w) b1)
  have HR := Lib.hid (H.out.over BW.out)
  have c0 := (cells2 HR.out).1
  have c1 := (cells2 HR.out).2
  have f1 := Joins.unfrozen_of_block HR.out 1
  have bS := cells2 HR.out
  refine hK.out _ _ ?_ (fun h1 => ?_)
  · exact bS
  clear hK K h0 bS
  try simp only [List.getElem_toArray, List.getElem_cons_succ, List.getElem_cons_zero, Act.put, List.setIfInBounds_toArray, List.set_cons_zero, List.set_cons_succ]
  refine wpAnyH_take (i := 10) (v := ?_) rfl (by kernel_rfl) (by kernel_rfl) (by kernel_rfl) (fun _ _ _ h => h) (Or.inl ⟨by rfl, ?_⟩) h1 ?_
  rotate_left
  · (intro w hSw; (try dsimp only at hSw); go_simp); all_goals (with_reducible rfl)
  try simp only [List.getElem_toArray, List.getElem_cons_succ, List.getElem_cons_zero, Act.put, List.setIfInBounds_toArray, List.set_cons_zero, List.set_cons_succ]
  refine wpAnyH_take (i := 11) (v := ?_) rfl (by kernel_rfl) (by kernel_rfl) (by kernel_rfl) (fun _ _ _ h => h) (Or.inl ⟨by rfl, ?_⟩) h1 ?_
  rotate_left
  · (intro w hSw; (try dsimp only at hSw); go_simp); all_goals (with_reducible rfl)
  try simp only [List.getElem_toArray, List.getElem_cons_succ, List.getElem_cons_zero, Act.put, List.setIfInBounds_toArray, List.set_cons_zero, List.set_cons_succ]
  refine wpAnyH_take (i := 12) (v := ?_) rfl (by kernel_rfl) (by kernel_rfl) (by kernel_rfl) (fun _ _ _ h => h) (Or.inl ⟨by rfl, ?_⟩) h1 ?_
  rotate_left
  · (intro w hSw; (try dsimp only at hSw); go_simp); all_goals (with_reducible rfl)
  try simp only [List.getElem_toArray, List.getElem_cons_succ, List.getElem_cons_zero, Act.put, List.setIfInBounds_toArray, List.set_cons_zero, List.set_cons_succ]
  refine wpAnyH_take (i := 13) (v := ?_) rfl (by kernel_rfl) (by kernel_rfl) (by kernel_rfl) (fun _ _ _ h => h) (Or.inl ⟨by rfl, ?_⟩) h1 ?_
  rotate_left
  · (intro w hSw; (try dsimp only at hSw); go_simp); all_goals (with_reducible rfl)
  try simp only [List.getElem_toArray, List.getElem_cons_succ, List.getElem_cons_zero, Act.put, List.setIfInBounds_toArray, List.set_cons_zero, List.set_cons_succ]
  refine wpAnyH_take (i := 14) (v := ?_) rfl (by kernel_rfl) (by kernel_rfl) (by kernel_rfl) (fun _ _ _ h => h) (Or.inl ⟨by rfl, ?_⟩) h1 ?_
  rotate_left
  · (intro w hSw; (try dsimp only at hSw); go_simp); all_goals (with_reducible rfl)
  try simp only [List.getElem_toArray, List.getElem_cons_succ, List.getElem_cons_zero, Act.put, List.setIfInBounds_toArray, List.set_cons_zero, List.set_cons_succ]
  refine wpAnyH_take (i := 15) (v := ?_) rfl (by kernel_rfl) (by kernel_rfl) (by kernel_rfl) (fun _ _ _ h => h) (Or.inl ⟨by rfl, ?_⟩) h1 ?_
  rotate_left
  · (intro w hSw; (try dsimp only at hSw); go_simp); all_goals (with_reducible rfl)
  try simp only [List.getElem_toArray, List.getElem_cons_succ, List.getElem_cons_zero, Act.put, List.setIfInBounds_toArray, List.set_cons_zero, List.set_cons_succ]
  refine wpAnyH_take (i := 16) (v := ?_) rfl (by kernel_rfl) (by kernel_rfl) (by kernel_rfl) (fun _ _ _ h => h) (Or.inl ⟨by rfl, ?_⟩) h1 ?_
  rotate_left
  · (intro w hSw; (try dsimp only at hSw); go_simp); all_goals (with_reducible rfl)
  try simp only [List.getElem_toArray, List.getElem_cons_succ, List.getElem_cons_zero, Act.put, List.setIfInBounds_toArray, List.set_cons_zero, List.set_cons_succ]
  refine wpAnyH_done (by kernel_rfl) ?_ _
  clear h1
  have HK := Lib.hid ((Keeps.of_below (R := R) BW.out).setCell 1 (.int .i64 at2))
  have H2 : Hid (Rd5 (w1.setCell ⟨R, 1, none⟩ (.int .i64 at2)) R s at2) := Lib.hid (Joins.block_setCell HR.out (.int .i64 at2))
  clear BW HR H KD
  go_wp2
  go_ret
  exact ⟨rfl, H2.out, HK.out⟩
set_option maxHeartbeats 4000000 in
theorem readI5_err (R : Nat) (s : ByteArray) (at0 at2 : Int) (err2 : Int) (he : err2 ≠ 0) (v : Int) (w : World) (h : Rd5 w R s at0)
    (KD : Hid (∀ W : World, Calls Tryz.prog 190 #[.string s, .int .i64 at0] W fun e w' => e = .returned (.tuple #[.int .i64 v, .int .i64 at2, .int .i64 err2]) ∧ Below W.heap.size W w')) :
    Calls Tryz.prog 189 #[.pointer (some ⟨R, 0, none⟩), .func (.func 190) #[] #[]] w fun e w' => e = failed err2 ∧ Keeps R w w' := by
  obtain ⟨c0, c1⟩ := cells2 h
  have H := Lib.hid h
  clear h
  go_enter Tryz.func189, Tryz.ntmps189
  go_wp2_with fail
  refine wp_region_held_drew (S := fun w' => w'.cell? ⟨R, 0, none⟩ = some (.string s) ∧ w'.cell? ⟨R, 1, none⟩ = some (.int .i64 at0)) (by kernel_rfl) ?_ (fun h0 => ?_)
  · exact ⟨c0, c1⟩
  refine wpAnyH_take (i := 0) (v := ?_) rfl (by kernel_rfl) (by kernel_rfl) (by kernel_rfl) (fun _ _ _ h => h) (Or.inl ⟨by rfl, ?_⟩) h0 ?_
  rotate_left
  · (intro w hSw; (try dsimp only at hSw); go_simp); all_goals (with_reducible rfl)
  try simp only [List.getElem_toArray, List.getElem_cons_succ, List.getElem_cons_zero, Act.put, List.setIfInBounds_toArray, List.set_cons_zero, List.set_cons_succ]
  refine wpAnyH_take (i := 1) (v := ?_) rfl (by kernel_rfl) (by kernel_rfl) (by kernel_rfl) (fun _ _ _ h => h) (Or.inl ⟨by rfl, ?_⟩) h0 ?_
  rotate_left
  · (intro w hSw; (try dsimp only at hSw); go_simp); all_goals (with_reducible rfl)
  try simp only [List.getElem_toArray, List.getElem_cons_succ, List.getElem_cons_zero, Act.put, List.setIfInBounds_toArray, List.set_cons_zero, List.set_cons_succ]
  refine wpAnyH_take (i := 2) (v := ?_) rfl (by kernel_rfl) (by kernel_rfl) (by kernel_rfl) (fun _ _ _ h => h) (Or.inl ⟨by rfl, ?_⟩) h0 ?_
  rotate_left
  · (intro w hSw; (try dsimp only at hSw); go_simp); all_goals (with_reducible rfl)
  try simp only [List.getElem_toArray, List.getElem_cons_succ, List.getElem_cons_zero, Act.put, List.setIfInBounds_toArray, List.set_cons_zero, List.set_cons_succ]
  refine wpAnyH_take (i := 3) (v := ?_) rfl (by kernel_rfl) (by kernel_rfl) (by kernel_rfl) (fun _ _ _ h => h) (Or.inl ⟨by rfl, ?_⟩) h0 ?_
  rotate_left
  · (intro w hSw; (try dsimp only at hSw); go_simp); all_goals (with_reducible rfl)
  try simp only [List.getElem_toArray, List.getElem_cons_succ, List.getElem_cons_zero, Act.put, List.setIfInBounds_toArray, List.set_cons_zero, List.set_cons_succ]
  refine wpAnyH_take (i := 4) (v := ?_) rfl (by kernel_rfl) (by kernel_rfl) (by kernel_rfl) (fun _ _ _ h => h) (Or.inl ⟨by rfl, ?_⟩) h0 ?_
  rotate_left
  · (intro w hSw; (try dsimp only at hSw); go_simp); all_goals (with_reducible rfl)
  try simp only [List.getElem_toArray, List.getElem_cons_succ, List.getElem_cons_zero, Act.put, List.setIfInBounds_toArray, List.set_cons_zero, List.set_cons_succ]
  refine wpAnyH_take (i := 5) (v := ?_) rfl (by kernel_rfl) (by kernel_rfl) (by kernel_rfl) (fun _ _ _ h => h) (Or.inl ⟨by rfl, ?_⟩) h0 ?_
  rotate_left
  · (intro w hSw; (try dsimp only at hSw); go_simp); all_goals (with_reducible rfl)
  try simp only [List.getElem_toArray, List.getElem_cons_succ, List.getElem_cons_zero, Act.put, List.setIfInBounds_toArray, List.set_cons_zero, List.set_cons_succ]
  refine wpAnyH_take (i := 6) (v := ?_) rfl (by kernel_rfl) (by kernel_rfl) (by kernel_rfl) (fun _ _ _ h => h) (Or.inl ⟨by rfl, ?_⟩) h0 ?_
  rotate_left
  · (intro w hSw; (try dsimp only at hSw); go_simp); all_goals (with_reducible rfl)
  try simp only [List.getElem_toArray, List.getElem_cons_succ, List.getElem_cons_zero, Act.put, List.setIfInBounds_toArray, List.set_cons_zero, List.set_cons_succ]
  refine wpAnyH_take (i := 7) (v := ?_) rfl (by kernel_rfl) (by kernel_rfl) (by kernel_rfl) (fun _ _ _ h => h) (Or.inl ⟨by rfl, ?_⟩) h0 ?_
  rotate_left
  · (intro w hSw; (try dsimp only at hSw); go_simp); all_goals (with_reducible rfl)
  try simp only [List.getElem_toArray, List.getElem_cons_succ, List.getElem_cons_zero, Act.put, List.setIfInBounds_toArray, List.set_cons_zero, List.set_cons_succ]
  refine wpAnyH_take (i := 8) (v := ?_) rfl (by kernel_rfl) (by kernel_rfl) (by kernel_rfl) (fun _ _ _ h => h) (Or.inl ⟨by rfl, ?_⟩) h0 ?_
  rotate_left
  · (intro w hSw; (try dsimp only at hSw); go_simp); all_goals (with_reducible rfl)
  try simp only [List.getElem_toArray, List.getElem_cons_succ, List.getElem_cons_zero, Act.put, List.setIfInBounds_toArray, List.set_cons_zero, List.set_cons_succ]
  refine wpAnyH_ready (rs := [9]) (by kernel_rfl) (by simp) ?_
  refine AllReadyH.cons rfl (fun K hK => ?_) AllReadyH.nil
  go_simp
  refine (KD.out _).mono ?_
  rintro e w1 ⟨rfl, b1⟩
  go_wp2_with fail
  have BW := Lib.hid (bel2 (below_drew w) b1)
  have HR := Lib.hid (H.out.over BW.out)
  have c0 := (cells2 HR.out).1
  have c1 := (cells2 HR.out).2
  have f1 := Joins.unfrozen_of_block HR.out 1
  have bS := cells2 HR.out
  refine hK.out _ _ ?_ (fun h1 => ?_)
  · exact bS
  clear hK K h0 bS
  try simp only [List.getElem_toArray, List.getElem_cons_succ, List.getElem_cons_zero, Act.put, List.setIfInBounds_toArray, List.set_cons_zero, List.set_cons_succ]
  refine wpAnyH_take (i := 10) (v := ?_) rfl (by kernel_rfl) (by kernel_rfl) (by kernel_rfl) (fun _ _ _ h => h) (Or.inl ⟨by rfl, ?_⟩) h1 ?_
  rotate_left
  · (intro w hSw; (try dsimp only at hSw); go_simp); all_goals (with_reducible rfl)
  try simp only [List.getElem_toArray, List.getElem_cons_succ, List.getElem_cons_zero, Act.put, List.setIfInBounds_toArray, List.set_cons_zero, List.set_cons_succ]
  refine wpAnyH_take (i := 11) (v := ?_) rfl (by kernel_rfl) (by kernel_rfl) (by kernel_rfl) (fun _ _ _ h => h) (Or.inl ⟨by rfl, ?_⟩) h1 ?_
  rotate_left
  · (intro w hSw; (try dsimp only at hSw); go_simp); all_goals (with_reducible rfl)
  try simp only [List.getElem_toArray, List.getElem_cons_succ, List.getElem_cons_zero, Act.put, List.setIfInBounds_toArray, List.set_cons_zero, List.set_cons_succ]
  refine wpAnyH_take (i := 12) (v := ?_) rfl (by kernel_rfl) (by kernel_rfl) (by kernel_rfl) (fun _ _ _ h => h) (Or.inl ⟨by rfl, ?_⟩) h1 ?_
  rotate_left
  · (intro w hSw; (try dsimp only at hSw); go_simp); all_goals (with_reducible rfl)
  try simp only [List.getElem_toArray, List.getElem_cons_succ, List.getElem_cons_zero, Act.put, List.setIfInBounds_toArray, List.set_cons_zero, List.set_cons_succ]
  refine wpAnyH_take (i := 13) (v := ?_) rfl (by kernel_rfl) (by kernel_rfl) (by kernel_rfl) (fun _ _ _ h => h) (Or.inl ⟨by rfl, ?_⟩) h1 ?_
  rotate_left
  · (intro w hSw; (try dsimp only at hSw); go_simp); all_goals (with_reducible rfl)
  try simp only [List.getElem_toArray, List.getElem_cons_succ, List.getElem_cons_zero, Act.put, List.setIfInBounds_toArray, List.set_cons_zero, List.set_cons_succ]
  refine wpAnyH_take (i := 14) (v := ?_) rfl (by kernel_rfl) (by kernel_rfl) (by kernel_rfl) (fun _ _ _ h => h) (Or.inl ⟨by rfl, ?_⟩) h1 ?_
  rotate_left
  · (intro w hSw; (try dsimp only at hSw); go_simp); all_goals (with_reducible rfl)
  try simp only [List.getElem_toArray, List.getElem_cons_succ, List.getElem_cons_zero, Act.put, List.setIfInBounds_toArray, List.set_cons_zero, List.set_cons_succ]
  refine wpAnyH_take (i := 15) (v := ?_) rfl (by kernel_rfl) (by kernel_rfl) (by kernel_rfl) (fun _ _ _ h => h) (Or.inl ⟨by rfl, ?_⟩) h1 ?_
  rotate_left
  · (intro w hSw; (try dsimp only at hSw); go_simp); all_goals (with_reducible rfl)
  try simp only [List.getElem_toArray, List.getElem_cons_succ, List.getElem_cons_zero, Act.put, List.setIfInBounds_toArray, List.set_cons_zero, List.set_cons_succ]
  refine wpAnyH_take (i := 16) (v := ?_) rfl (by kernel_rfl) (by kernel_rfl) (by kernel_rfl) (fun _ _ _ h => h) (Or.inl ⟨by rfl, ?_⟩) h1 ?_
  rotate_left
  · (intro w hSw; (try dsimp only at hSw); go_simp); all_goals (with_reducible rfl)
  try simp only [List.getElem_toArray, List.getElem_cons_succ, List.getElem_cons_zero, Act.put, List.setIfInBounds_toArray, List.set_cons_zero, List.set_cons_succ]
  refine wpAnyH_done (by kernel_rfl) ?_ _
  clear h1
  have HK := Lib.hid (Keeps.of_below (R := R) BW.out)
  clear BW HR H KD
  go_wp2
  exact ⟨rfl, rfl, HK.out⟩
set_option maxHeartbeats 4000000 in
theorem readS5_ok (R : Nat) (s : ByteArray) (at0 at2 : Int)  (v : List UInt8) (w : World) (h : Rd5 w R s at0)
    (KD : Hid (∀ W : World, Calls Tryz.prog 188 #[.string s, .int .i64 at0] W fun e w' => e = .returned (.tuple #[.string ⟨v.toArray⟩, .int .i64 at2, .int .i64 0]) ∧ Below W.heap.size W w')) :
    Calls Tryz.prog 187 #[.pointer (some ⟨R, 0, none⟩), .func (.func 188) #[] #[]] w fun e w' => e = .returned (.string ⟨v.toArray⟩) ∧ Rd5 w' R s at2 ∧ Keeps R w w' := by
  obtain ⟨c0, c1⟩ := cells2 h
  have H := Lib.hid h
  clear h
  go_enter Tryz.func187, Tryz.ntmps187
  go_wp2_with fail
  refine wp_region_held_drew (S := fun w' => w'.cell? ⟨R, 0, none⟩ = some (.string s) ∧ w'.cell? ⟨R, 1, none⟩ = some (.int .i64 at0)) (by kernel_rfl) ?_ (fun h0 => ?_)
  · exact ⟨c0, c1⟩
  refine wpAnyH_take (i := 0) (v := ?_) rfl (by kernel_rfl) (by kernel_rfl) (by kernel_rfl) (fun _ _ _ h => h) (Or.inl ⟨by rfl, ?_⟩) h0 ?_
  rotate_left
  · (intro w hSw; (try dsimp only at hSw); go_simp); all_goals (with_reducible rfl)
  try simp only [List.getElem_toArray, List.getElem_cons_succ, List.getElem_cons_zero, Act.put, List.setIfInBounds_toArray, List.set_cons_zero, List.set_cons_succ]
  refine wpAnyH_take (i := 1) (v := ?_) rfl (by kernel_rfl) (by kernel_rfl) (by kernel_rfl) (fun _ _ _ h => h) (Or.inl ⟨by rfl, ?_⟩) h0 ?_
  rotate_left
  · (intro w hSw; (try dsimp only at hSw); go_simp); all_goals (with_reducible rfl)
  try simp only [List.getElem_toArray, List.getElem_cons_succ, List.getElem_cons_zero, Act.put, List.setIfInBounds_toArray, List.set_cons_zero, List.set_cons_succ]
  refine wpAnyH_take (i := 2) (v := ?_) rfl (by kernel_rfl) (by kernel_rfl) (by kernel_rfl) (fun _ _ _ h => h) (Or.inl ⟨by rfl, ?_⟩) h0 ?_
  rotate_left
  · (intro w hSw; (try dsimp only at hSw); go_simp); all_goals (with_reducible rfl)
  try simp only [List.getElem_toArray, List.getElem_cons_succ, List.getElem_cons_zero, Act.put, List.setIfInBounds_toArray, List.set_cons_zero, List.set_cons_succ]
  refine wpAnyH_take (i := 3) (v := ?_) rfl (by kernel_rfl) (by kernel_rfl) (by kernel_rfl) (fun _ _ _ h => h) (Or.inl ⟨by rfl, ?_⟩) h0 ?_
  rotate_left
  · (intro w hSw; (try dsimp only at hSw); go_simp); all_goals (with_reducible rfl)
  try simp only [List.getElem_toArray, List.getElem_cons_succ, List.getElem_cons_zero, Act.put, List.setIfInBounds_toArray, List.set_cons_zero, List.set_cons_succ]
  refine wpAnyH_take (i := 4) (v := ?_) rfl (by kernel_rfl) (by kernel_rfl) (by kernel_rfl) (fun _ _ _ h => h) (Or.inl ⟨by rfl, ?_⟩) h0 ?_
  rotate_left
  · (intro w hSw; (try dsimp only at hSw); go_simp); all_goals (with_reducible rfl)
  try simp only [List.getElem_toArray, List.getElem_cons_succ, List.getElem_cons_zero, Act.put, List.setIfInBounds_toArray, List.set_cons_zero, List.set_cons_succ]
  refine wpAnyH_take (i := 5) (v := ?_) rfl (by kernel_rfl) (by kernel_rfl) (by kernel_rfl) (fun _ _ _ h => h) (Or.inl ⟨by rfl, ?_⟩) h0 ?_
  rotate_left
  · (intro w hSw; (try dsimp only at hSw); go_simp); all_goals (with_reducible rfl)
  try simp only [List.getElem_toArray, List.getElem_cons_succ, List.getElem_cons_zero, Act.put, List.setIfInBounds_toArray, List.set_cons_zero, List.set_cons_succ]
  refine wpAnyH_take (i := 6) (v := ?_) rfl (by kernel_rfl) (by kernel_rfl) (by kernel_rfl) (fun _ _ _ h => h) (Or.inl ⟨by rfl, ?_⟩) h0 ?_
  rotate_left
  · (intro w hSw; (try dsimp only at hSw); go_simp); all_goals (with_reducible rfl)
  try simp only [List.getElem_toArray, List.getElem_cons_succ, List.getElem_cons_zero, Act.put, List.setIfInBounds_toArray, List.set_cons_zero, List.set_cons_succ]
  refine wpAnyH_take (i := 7) (v := ?_) rfl (by kernel_rfl) (by kernel_rfl) (by kernel_rfl) (fun _ _ _ h => h) (Or.inl ⟨by rfl, ?_⟩) h0 ?_
  rotate_left
  · (intro w hSw; (try dsimp only at hSw); go_simp); all_goals (with_reducible rfl)
  try simp only [List.getElem_toArray, List.getElem_cons_succ, List.getElem_cons_zero, Act.put, List.setIfInBounds_toArray, List.set_cons_zero, List.set_cons_succ]
  refine wpAnyH_take (i := 8) (v := ?_) rfl (by kernel_rfl) (by kernel_rfl) (by kernel_rfl) (fun _ _ _ h => h) (Or.inl ⟨by rfl, ?_⟩) h0 ?_
  rotate_left
  · (intro w hSw; (try dsimp only at hSw); go_simp); all_goals (with_reducible rfl)
  try simp only [List.getElem_toArray, List.getElem_cons_succ, List.getElem_cons_zero, Act.put, List.setIfInBounds_toArray, List.set_cons_zero, List.set_cons_succ]
  refine wpAnyH_ready (rs := [9]) (by kernel_rfl) (by simp) ?_
  refine AllReadyH.cons rfl (fun K hK => ?_) AllReadyH.nil
  go_simp
  refine (KD.out _).mono ?_
  rintro e w1 ⟨rfl, b1⟩
  go_wp2_with fail
  have BW := Lib.hid (bel2 (below_drew w) b1)
  have HR := Lib.hid (H.out.over BW.out)
  have c0 := (cells2 HR.out).1
  have c1 := (cells2 HR.out).2
  have f1 := Joins.unfrozen_of_block HR.out 1
  have bS := cells2 HR.out
  refine hK.out _ _ ?_ (fun h1 => ?_)
  · exact bS
  clear hK K h0 bS
  try simp only [List.getElem_toArray, List.getElem_cons_succ, List.getElem_cons_zero, Act.put, List.setIfInBounds_toArray, List.set_cons_zero, List.set_cons_succ]
  refine wpAnyH_take (i := 10) (v := ?_) rfl (by kernel_rfl) (by kernel_rfl) (by kernel_rfl) (fun _ _ _ h => h) (Or.inl ⟨by rfl, ?_⟩) h1 ?_
  rotate_left
  · (intro w hSw; (try dsimp only at hSw); go_simp); all_goals (with_reducible rfl)
  try simp only [List.getElem_toArray, List.getElem_cons_succ, List.getElem_cons_zero, Act.put, List.setIfInBounds_toArray, List.set_cons_zero, List.set_cons_succ]
  refine wpAnyH_take (i := 11) (v := ?_) rfl (by kernel_rfl) (by kernel_rfl) (by kernel_rfl) (fun _ _ _ h => h) (Or.inl ⟨by rfl, ?_⟩) h1 ?_
  rotate_left
  · (intro w hSw; (try dsimp only at hSw); go_simp); all_goals (with_reducible rfl)
  try simp only [List.getElem_toArray, List.getElem_cons_succ, List.getElem_cons_zero, Act.put, List.setIfInBounds_toArray, List.set_cons_zero, List.set_cons_succ]
  refine wpAnyH_take (i := 12) (v := ?_) rfl (by kernel_rfl) (by kernel_rfl) (by kernel_rfl) (fun _ _ _ h => h) (Or.inl ⟨by rfl, ?_⟩) h1 ?_
  rotate_left
  · (intro w hSw; (try dsimp only at hSw); go_simp); all_goals (with_reducible rfl)
  try simp only [List.getElem_toArray, List.getElem_cons_succ, List.getElem_cons_zero, Act.put, List.setIfInBounds_toArray, List.set_cons_zero, List.set_cons_succ]
  refine wpAnyH_take (i := 13) (v := ?_) rfl (by kernel_rfl) (by kernel_rfl) (by kernel_rfl) (fun _ _ _ h => h) (Or.inl ⟨by rfl, ?_⟩) h1 ?_
  rotate_left
  · (intro w hSw; (try dsimp only at hSw); go_simp); all_goals (with_reducible rfl)
  try simp only [List.getElem_toArray, List.getElem_cons_succ, List.getElem_cons_zero, Act.put, List.setIfInBounds_toArray, List.set_cons_zero, List.set_cons_succ]
  refine wpAnyH_take (i := 14) (v := ?_) rfl (by kernel_rfl) (by kernel_rfl) (by kernel_rfl) (fun _ _ _ h => h) (Or.inl ⟨by rfl, ?_⟩) h1 ?_
  rotate_left
  · (intro w hSw; (try dsimp only at hSw); go_simp); all_goals (with_reducible rfl)
  try simp only [List.getElem_toArray, List.getElem_cons_succ, List.getElem_cons_zero, Act.put, List.setIfInBounds_toArray, List.set_cons_zero, List.set_cons_succ]
  refine wpAnyH_take (i := 15) (v := ?_) rfl (by kernel_rfl) (by kernel_rfl) (by kernel_rfl) (fun _ _ _ h => h) (Or.inl ⟨by rfl, ?_⟩) h1 ?_
  rotate_left
  · (intro w hSw; (try dsimp only at hSw); go_simp); all_goals (with_reducible rfl)
  try simp only [List.getElem_toArray, List.getElem_cons_succ, List.getElem_cons_zero, Act.put, List.setIfInBounds_toArray, List.set_cons_zero, List.set_cons_succ]
  refine wpAnyH_take (i := 16) (v := ?_) rfl (by kernel_rfl) (by kernel_rfl) (by kernel_rfl) (fun _ _ _ h => h) (Or.inl ⟨by rfl, ?_⟩) h1 ?_
  rotate_left
  · (intro w hSw; (try dsimp only at hSw); go_simp); all_goals (with_reducible rfl)
  try simp only [List.getElem_toArray, List.getElem_cons_succ, List.getElem_cons_zero, Act.put, List.setIfInBounds_toArray, List.set_cons_zero, List.set_cons_succ]
  refine wpAnyH_done (by kernel_rfl) ?_ _
  clear h1
  have HK := Lib.hid ((Keeps.of_below (R := R) BW.out).setCell 1 (.int .i64 at2))
  have H2 : Hid (Rd5 (w1.setCell ⟨R, 1, none⟩ (.int .i64 at2)) R s at2) := Lib.hid (Joins.block_setCell HR.out (.int .i64 at2))
  clear BW HR H KD
  go_wp2
  go_ret
  exact ⟨rfl, H2.out, HK.out⟩
set_option maxHeartbeats 4000000 in
theorem readS5_err (R : Nat) (s : ByteArray) (at0 at2 : Int) (err2 : Int) (he : err2 ≠ 0) (v : List UInt8) (w : World) (h : Rd5 w R s at0)
    (KD : Hid (∀ W : World, Calls Tryz.prog 188 #[.string s, .int .i64 at0] W fun e w' => e = .returned (.tuple #[.string ⟨v.toArray⟩, .int .i64 at2, .int .i64 err2]) ∧ Below W.heap.size W w')) :
    Calls Tryz.prog 187 #[.pointer (some ⟨R, 0, none⟩), .func (.func 188) #[] #[]] w fun e w' => e = failed err2 ∧ Keeps R w w' := by
  obtain ⟨c0, c1⟩ := cells2 h
  have H := Lib.hid h
  clear h
  go_enter Tryz.func187, Tryz.ntmps187
  go_wp2_with fail
  refine wp_region_held_drew (S := fun w' => w'.cell? ⟨R, 0, none⟩ = some (.string s) ∧ w'.cell? ⟨R, 1, none⟩ = some (.int .i64 at0)) (by kernel_rfl) ?_ (fun h0 => ?_)
  · exact ⟨c0, c1⟩
  refine wpAnyH_take (i := 0) (v := ?_) rfl (by kernel_rfl) (by kernel_rfl) (by kernel_rfl) (fun _ _ _ h => h) (Or.inl ⟨by rfl, ?_⟩) h0 ?_
  rotate_left
  · (intro w hSw; (try dsimp only at hSw); go_simp); all_goals (with_reducible rfl)
  try simp only [List.getElem_toArray, List.getElem_cons_succ, List.getElem_cons_zero, Act.put, List.setIfInBounds_toArray, List.set_cons_zero, List.set_cons_succ]
  refine wpAnyH_take (i := 1) (v := ?_) rfl (by kernel_rfl) (by kernel_rfl) (by kernel_rfl) (fun _ _ _ h => h) (Or.inl ⟨by rfl, ?_⟩) h0 ?_
  rotate_left
  · (intro w hSw; (try dsimp only at hSw); go_simp); all_goals (with_reducible rfl)
  try simp only [List.getElem_toArray, List.getElem_cons_succ, List.getElem_cons_zero, Act.put, List.setIfInBounds_toArray, List.set_cons_zero, List.set_cons_succ]
  refine wpAnyH_take (i := 2) (v := ?_) rfl (by kernel_rfl) (by kernel_rfl) (by kernel_rfl) (fun _ _ _ h => h) (Or.inl ⟨by rfl, ?_⟩) h0 ?_
  rotate_left
  · (intro w hSw; (try dsimp only at hSw); go_simp); all_goals (with_reducible rfl)
  try simp only [List.getElem_toArray, List.getElem_cons_succ, List.getElem_cons_zero, Act.put, List.setIfInBounds_toArray, List.set_cons_zero, List.set_cons_succ]
  refine wpAnyH_take (i := 3) (v := ?_) rfl (by kernel_rfl) (by kernel_rfl) (by kernel_rfl) (fun _ _ _ h => h) (Or.inl ⟨by rfl, ?_⟩) h0 ?_
  rotate_left
  · (intro w hSw; (try dsimp only at hSw); go_simp); all_goals (with_reducible rfl)
  try simp only [List.getElem_toArray, List.getElem_cons_succ, List.getElem_cons_zero, Act.put, List.setIfInBounds_toArray, List.set_cons_zero, List.set_cons_succ]
  refine wpAnyH_take (i := 4) (v := ?_) rfl (by kernel_rfl) (by kernel_rfl) (by kernel_rfl) (fun _ _ _ h => h) (Or.inl ⟨by rfl, ?_⟩) h0 ?_
  rotate_left
  · (intro w hSw; (try dsimp only at hSw); go_simp); all_goals (with_reducible rfl)
  try simp only [List.getElem_toArray, List.getElem_cons_succ, List.getElem_cons_zero, Act.put, List.setIfInBounds_toArray, List.set_cons_zero, List.set_cons_succ]
  refine wpAnyH_take (i := 5) (v := ?_) rfl (by kernel_rfl) (by kernel_rfl) (by kernel_rfl) (fun _ _ _ h => h) (Or.inl ⟨by rfl, ?_⟩) h0 ?_
  rotate_left
  · (intro w hSw; (try dsimp only at hSw); go_simp); all_goals (with_reducible rfl)
  try simp only [List.getElem_toArray, List.getElem_cons_succ, List.getElem_cons_zero, Act.put, List.setIfInBounds_toArray, List.set_cons_zero, List.set_cons_succ]
  refine wpAnyH_take (i := 6) (v := ?_) rfl (by kernel_rfl) (by kernel_rfl) (by kernel_rfl) (fun _ _ _ h => h) (Or.inl ⟨by rfl, ?_⟩) h0 ?_
  rotate_left
  · (intro w hSw; (try dsimp only at hSw); go_simp); all_goals (with_reducible rfl)
  try simp only [List.getElem_toArray, List.getElem_cons_succ, List.getElem_cons_zero, Act.put, List.setIfInBounds_toArray, List.set_cons_zero, List.set_cons_succ]
  refine wpAnyH_take (i := 7) (v := ?_) rfl (by kernel_rfl) (by kernel_rfl) (by kernel_rfl) (fun _ _ _ h => h) (Or.inl ⟨by rfl, ?_⟩) h0 ?_
  rotate_left
  · (intro w hSw; (try dsimp only at hSw); go_simp); all_goals (with_reducible rfl)
  try simp only [List.getElem_toArray, List.getElem_cons_succ, List.getElem_cons_zero, Act.put, List.setIfInBounds_toArray, List.set_cons_zero, List.set_cons_succ]
  refine wpAnyH_take (i := 8) (v := ?_) rfl (by kernel_rfl) (by kernel_rfl) (by kernel_rfl) (fun _ _ _ h => h) (Or.inl ⟨by rfl, ?_⟩) h0 ?_
  rotate_left
  · (intro w hSw; (try dsimp only at hSw); go_simp); all_goals (with_reducible rfl)
  try simp only [List.getElem_toArray, List.getElem_cons_succ, List.getElem_cons_zero, Act.put, List.setIfInBounds_toArray, List.set_cons_zero, List.set_cons_succ]
  refine wpAnyH_ready (rs := [9]) (by kernel_rfl) (by simp) ?_
  refine AllReadyH.cons rfl (fun K hK => ?_) AllReadyH.nil
  go_simp
  refine (KD.out _).mono ?_
  rintro e w1 ⟨rfl, b1⟩
  go_wp2_with fail
  have BW := Lib.hid (bel2 (below_drew w) b1)
  have HR := Lib.hid (H.out.over BW.out)
  have c0 := (cells2 HR.out).1
  have c1 := (cells2 HR.out).2
  have f1 := Joins.unfrozen_of_block HR.out 1
  have bS := cells2 HR.out
  refine hK.out _ _ ?_ (fun h1 => ?_)
  · exact bS
  clear hK K h0 bS
  try simp only [List.getElem_toArray, List.getElem_cons_succ, List.getElem_cons_zero, Act.put, List.setIfInBounds_toArray, List.set_cons_zero, List.set_cons_succ]
  refine wpAnyH_take (i := 10) (v := ?_) rfl (by kernel_rfl) (by kernel_rfl) (by kernel_rfl) (fun _ _ _ h => h) (Or.inl ⟨by rfl, ?_⟩) h1 ?_
  rotate_left
  · (intro w hSw; (try dsimp only at hSw); go_simp); all_goals (with_reducible rfl)
  try simp only [List.getElem_toArray, List.getElem_cons_succ, List.getElem_cons_zero, Act.put, List.setIfInBounds_toArray, List.set_cons_zero, List.set_cons_succ]
  refine wpAnyH_take (i := 11) (v := ?_) rfl (by kernel_rfl) (by kernel_rfl) (by kernel_rfl) (fun _ _ _ h => h) (Or.inl ⟨by rfl, ?_⟩) h1 ?_
  rotate_left
  · (intro w hSw; (try dsimp only at hSw); go_simp); all_goals (with_reducible rfl)
  try simp only [List.getElem_toArray, List.getElem_cons_succ, List.getElem_cons_zero, Act.put, List.setIfInBounds_toArray, List.set_cons_zero, List.set_cons_succ]
  refine wpAnyH_take (i := 12) (v := ?_) rfl (by kernel_rfl) (by kernel_rfl) (by kernel_rfl) (fun _ _ _ h => h) (Or.inl ⟨by rfl, ?_⟩) h1 ?_
  rotate_left
  · (intro w hSw; (try dsimp only at hSw); go_simp); all_goals (with_reducible rfl)
  try simp only [List.getElem_toArray, List.getElem_cons_succ, List.getElem_cons_zero, Act.put, List.setIfInBounds_toArray, List.set_cons_zero, List.set_cons_succ]
  refine wpAnyH_take (i := 13) (v := ?_) rfl (by kernel_rfl) (by kernel_rfl) (by kernel_rfl) (fun _ _ _ h => h) (Or.inl ⟨by rfl, ?_⟩) h1 ?_
  rotate_left
  · (intro w hSw; (try dsimp only at hSw); go_simp); all_goals (with_reducible rfl)
  try simp only [List.getElem_toArray, List.getElem_cons_succ, List.getElem_cons_zero, Act.put, List.setIfInBounds_toArray, List.set_cons_zero, List.set_cons_succ]
  refine wpAnyH_take (i := 14) (v := ?_) rfl (by kernel_rfl) (by kernel_rfl) (by kernel_rfl) (fun _ _ _ h => h) (Or.inl ⟨by rfl, ?_⟩) h1 ?_
  rotate_left
  · (intro w hSw; (try dsimp only at hSw); go_simp); all_goals (with_reducible rfl)
  try simp only [List.getElem_toArray, List.getElem_cons_succ, List.getElem_cons_zero, Act.put, List.setIfInBounds_toArray, List.set_cons_zero, List.set_cons_succ]
  refine wpAnyH_take (i := 15) (v := ?_) rfl (by kernel_rfl) (by kernel_rfl) (by kernel_rfl) (fun _ _ _ h => h) (Or.inl ⟨by rfl, ?_⟩) h1 ?_
  rotate_left
  · (intro w hSw; (try dsimp only at hSw); go_simp); all_goals (with_reducible rfl)
  try simp only [List.getElem_toArray, List.getElem_cons_succ, List.getElem_cons_zero, Act.put, List.setIfInBounds_toArray, List.set_cons_zero, List.set_cons_succ]
  refine wpAnyH_take (i := 16) (v := ?_) rfl (by kernel_rfl) (by kernel_rfl) (by kernel_rfl) (fun _ _ _ h => h) (Or.inl ⟨by rfl, ?_⟩) h1 ?_
  rotate_left
  · (intro w hSw; (try dsimp only at hSw); go_simp); all_goals (with_reducible rfl)
  try simp only [List.getElem_toArray, List.getElem_cons_succ, List.getElem_cons_zero, Act.put, List.setIfInBounds_toArray, List.set_cons_zero, List.set_cons_succ]
  refine wpAnyH_done (by kernel_rfl) ?_ _
  clear h1
  have HK := Lib.hid (Keeps.of_below (R := R) BW.out)
  clear BW HR H KD
  go_wp2
  exact ⟨rfl, rfl, HK.out⟩
end Go.Proofs.YtlhcckjfgpcohaaGreatDoor
namespace Go.Proofs.YtlhcckjfgpcohaaGreatDoor
open Go.RowKit
set_option maxRecDepth 100000
set_option linter.unusedSimpArgs false
set_option linter.unusedVariables false
/-- No old block but those of S has changed. -/
structure Kp (S : Nat → Prop) (a w : World) : Prop where
  os : w.os = a.os
  tape : w.tape = a.tape
  output : w.output = a.output
  size : a.heap.size ≤ w.heap.size
  block : ∀ k, k < a.heap.size → ¬ S k → w.heap[k]? = a.heap[k]?
  kept : ∀ (k : Nat) (cs : Array Value) (fr : Nat × Nat), a.heap[k]? = some (Obj.cells cs 28 fr) → ∃ cs' : Array Value, cs'.size = cs.size ∧ w.heap[k]? = some (.cells cs' 28 fr)
theorem Kp.refl (S : Nat → Prop) (w : World) : Kp S w w := ⟨rfl, rfl, rfl, Nat.le_refl _, fun _ _ _ => rfl, fun _ cs _ h => ⟨cs, rfl, h⟩⟩
theorem Kp.trans {S : Nat → Prop} {a b c : World} (h : Kp S a b) (k : Kp S b c) : Kp S a c :=
  ⟨k.os.trans h.os, k.tape.trans h.tape, k.output.trans h.output, Nat.le_trans h.size k.size, fun i hi hs => (k.block i (Nat.lt_of_lt_of_le hi h.size) hs).trans (h.block i hi hs),
   fun i cs fr hi => by
    obtain ⟨c1, h1, h2⟩ := h.kept i cs fr hi
    obtain ⟨c2, h3, h4⟩ := k.kept i c1 fr h2
    exact ⟨c2, h3.trans h1, h4⟩⟩
theorem Kp.of_keeps {S : Nat → Prop} {R : Nat} {a w : World} (h : Keeps R a w) (hR : S R) (hr : ∃ s p, Rd5 a R s p) : Kp S a w :=
  ⟨h.os, h.tape, h.output, h.size, fun k hk hs => h.block k hk (fun e => hs (e ▸ hR)), fun k cs fr hk => by
    have hne : k ≠ R := by
      rintro rfl
      obtain ⟨s, p, hr⟩ := hr
      unfold Rd5 at hr
      rw [hr] at hk
      exact absurd (Obj.cells.inj (Option.some.inj hk)).2.1 (by decide)
    exact ⟨cs, rfl, (h.block k (Array.getElem?_eq_some_iff.1 hk).1 hne).trans hk⟩⟩
theorem Kp.of_below {S : Nat → Prop} {a w : World} (h : Below a.heap.size a w) : Kp S a w := ⟨h.os, h.tape, h.output, h.size, fun k hk _ => h.block k hk, fun k cs fr hk => ⟨cs, rfl, (h.block k (Array.getElem?_eq_some_iff.1 hk).1).trans hk⟩⟩
theorem Kp.mono {S S' : Nat → Prop} {a w : World} (h : Kp S a w) (hs : ∀ k, k < a.heap.size → S k → S' k) : Kp S' a w := ⟨h.os, h.tape, h.output, h.size, fun k hk hn => h.block k hk (fun q => hn (hs k hk q)), h.kept⟩
theorem Kp.setCell {S : Nat → Prop} {a w : World} {g : Nat} (h : Kp S a w) (hg : S g) (o : Nat) (v : Value) : Kp S a (w.setCell ⟨g, o, none⟩ v) := by
  have k := (Keeps.refl g w).setCell o v
  refine h.trans ⟨k.os, k.tape, k.output, k.size, fun i hi hs => k.block i hi (fun e => hs (e ▸ hg)), fun i cs fr hi => ?_⟩
  by_cases e : i = g
  · subst e
    exact ⟨cs.setIfInBounds o v, by simp, Joins.block_setCell hi v⟩
  · exact ⟨cs, rfl, (k.block i (Array.getElem?_eq_some_iff.1 hi).1 e).trans hi⟩
theorem Kp.heap {S : Nat → Prop} {a w : World} (h : Kp S a w) {g : Nat} {o : Obj} (hg : a.heap[g]? = some o) (hs : ¬ S g) : w.heap[g]? = some o := (h.block g (Array.getElem?_eq_some_iff.1 hg).1 hs).trans hg
theorem Kp.below {S : Nat → Prop} {a w : World} (h : Kp S a w) {B : Nat} (hB : B ≤ a.heap.size) (hs : ∀ k, S k → B ≤ k) : Below B a w := ⟨h.os, h.tape, h.output, h.size, fun k hk => h.block k (by omega) (fun q => by have := hs k q; omega)⟩
/-- What a read leaves: it has gone well, or it has failed. -/
def RdOut (R : Nat) (S : Nat → Prop) (s : ByteArray) (p : Int × Int) (Q : World → Prop) (w : World) (e : Ending) (w' : World) : Prop :=
  (p.2 = 0 ∧ e = .returned (.tuple #[]) ∧ Rd5 w' R s p.1 ∧ Q w' ∧ Kp S w w') ∨ (p.2 ≠ 0 ∧ e = failed p.2 ∧ Kp S w w')
def RG (R g : Nat) (k : Nat) : Prop := k = R ∨ k = g
set_option maxHeartbeats 2000000 in
theorem rnumber (R g o : Nat) (s : ByteArray) (p : Int) (cs : Array Value) (t : TypeId) (w : World) (hs : s.size ≤ maxLen) (h : Rd5 w R s p) (hne : g ≠ R) (hg : w.heap[g]? = some (.cells cs t (0, 0))) (ho : o < cs.size) :
    Calls Tryz.prog 184 #[.pointer (some ⟨R, 0, none⟩), .pointer (some ⟨g, o, none⟩)] w (RdOut R (RG R g) s (intAt s.data.toList p).2 (fun w' => w'.heap[g]? = some (.cells (cs.setIfInBounds o (.int .i64 (intAt s.data.toList p).1)) t (0, 0))) w) := by
  have KD := Lib.hid (fun W => int_any s p W hs)
  generalize intAt s.data.toList p = r at *
  obtain ⟨v, at2, er⟩ := r
  by_cases he : er = 0
  · subst he
    have K := Lib.hid (readI5_ok R s p at2 v w h (Lib.hid (fun W => (KD.out W).mono (fun x w' q => ⟨q.1, q.2 ▸ Below.refl _ _⟩))))
    have HG := Lib.hid hg
    have HR0 := Lib.hid h
    clear h hg KD
    go_enter Tryz.func184, Tryz.ntmps184
    go_wp2_with fail
    refine K.out.mono ?_
    rintro e w1 ⟨rfl, h1, hk⟩
    have g1 := hk.heap HG.out hne
    have HR := Lib.hid h1
    have HK := Lib.hid (Kp.of_keeps (S := RG R g) hk (.inl rfl) ⟨_, _, HR0.out⟩)
    have HG1 := Lib.hid g1
    have f1 := Joins.unfrozen_of_block g1 o
    have c1 : w1.cell? ⟨g, o, none⟩ = some (cs[o]'ho) := by rw [Joins.cell_of_block g1]; exact Array.getElem?_eq_getElem ho
    clear h1 hk K HG g1
    go_wp2
    go_end0
    refine .inl ⟨rfl, rfl, ?_, Joins.block_setCell HG1.out _, HK.out.setCell (.inr rfl) o _⟩
    unfold Rd5
    rw [Below.heap_setCell _ _ _ _ (fun q => hne q.symm)]
    exact HR.out
  · have K := Lib.hid (readI5_err R s p at2 er he v w h (Lib.hid (fun W => (KD.out W).mono (fun x w' q => ⟨q.1, q.2 ▸ Below.refl _ _⟩))))
    have HE := Lib.hid he
    have HR0 := Lib.hid h
    clear h hg KD he
    go_enter Tryz.func184, Tryz.ntmps184
    go_wp2_with fail
    refine K.out.mono ?_
    rintro e w1 ⟨rfl, hk⟩
    have HK := Lib.hid (Kp.of_keeps (S := RG R g) hk (.inl rfl) ⟨_, _, HR0.out⟩)
    clear hk K
    exact ⟨rfl, .inr ⟨HE.out, rfl, HK.out⟩⟩
set_option maxHeartbeats 2000000 in
theorem rtext (R g o : Nat) (s : ByteArray) (p : Int) (cs : Array Value) (t : TypeId) (w : World) (hs : s.size ≤ maxLen) (h : Rd5 w R s p) (hne : g ≠ R) (hg : w.heap[g]? = some (.cells cs t (0, 0))) (ho : o < cs.size) :
    Calls Tryz.prog 185 #[.pointer (some ⟨R, 0, none⟩), .pointer (some ⟨g, o, none⟩)] w (RdOut R (RG R g) s (strAt s.data.toList p).2 (fun w' => w'.heap[g]? = some (.cells (cs.setIfInBounds o (.string ⟨((strAt s.data.toList p).1).toArray⟩)) t (0, 0))) w) := by
  have KD := Lib.hid (fun W => string_any s p W hs)
  generalize strAt s.data.toList p = r at *
  obtain ⟨v, at2, er⟩ := r
  by_cases he : er = 0
  · subst he
    have K := Lib.hid (readS5_ok R s p at2 v w h (Lib.hid (fun W => (KD.out W).mono (fun x w' q => q))))
    have HG := Lib.hid hg
    have HR0 := Lib.hid h
    clear h hg KD
    go_enter Tryz.func185, Tryz.ntmps185
    go_wp2_with fail
    refine K.out.mono ?_
    rintro e w1 ⟨rfl, h1, hk⟩
    have g1 := hk.heap HG.out hne
    have HR := Lib.hid h1
    have HK := Lib.hid (Kp.of_keeps (S := RG R g) hk (.inl rfl) ⟨_, _, HR0.out⟩)
    have HG1 := Lib.hid g1
    have f1 := Joins.unfrozen_of_block g1 o
    have c1 : w1.cell? ⟨g, o, none⟩ = some (cs[o]'ho) := by rw [Joins.cell_of_block g1]; exact Array.getElem?_eq_getElem ho
    clear h1 hk K HG g1
    go_wp2
    go_end0
    refine .inl ⟨rfl, rfl, ?_, Joins.block_setCell HG1.out _, HK.out.setCell (.inr rfl) o _⟩
    unfold Rd5
    rw [Below.heap_setCell _ _ _ _ (fun q => hne q.symm)]
    exact HR.out
  · have K := Lib.hid (readS5_err R s p at2 er he v w h (Lib.hid (fun W => (KD.out W).mono (fun x w' q => q))))
    have HE := Lib.hid he
    have HR0 := Lib.hid h
    clear h hg KD he
    go_enter Tryz.func185, Tryz.ntmps185
    go_wp2_with fail
    refine K.out.mono ?_
    rintro e w1 ⟨rfl, hk⟩
    have HK := Lib.hid (Kp.of_keeps (S := RG R g) hk (.inl rfl) ⟨_, _, HR0.out⟩)
    clear hk K
    exact ⟨rfl, .inr ⟨HE.out, rfl, HK.out⟩⟩
end Go.Proofs.YtlhcckjfgpcohaaGreatDoor
namespace Go.Proofs.YtlhcckjfgpcohaaGreatDoor
open Go.RowKit
set_option maxRecDepth 100000
set_option linter.unusedSimpArgs false
set_option linter.unusedVariables false
theorem setNe {a w : World} {g o : Nat} {v : Value} {base : Nat} {e : TypeId} {size : Nat} {x : Value} {n : Nat} {xs : List Value} (h : w.ownsRow base e size x n xs) (hg : g < base) : (w.setCell ⟨g, o, none⟩ v).ownsRow base e size x n xs :=
  ownsRow_setCell_other h (a := ⟨g, o, none⟩) (fun q => by have := (h.lt g q).1; omega) v
/-- The blocks that a cell got. -/
def BlAt (g o : Nat) (cs : Array Value) (t : TypeId) (base : Nat) (l : List Blk) (w' : World) : Prop :=
  ∃ a c es, w'.heap[g]? = some (.cells (cs.setIfInBounds o (.slice a l.length c)) t (0, 0)) ∧ blks es = l ∧ w'.ownsRow base 49 9 (.slice a l.length c) l.length (es.flatMap elB) ∧ (∀ e ∈ es, BeIn base w' e)
set_option maxHeartbeats 4000000 in
theorem rblocks (R g o : Nat) (s : ByteArray) (p : Int) (cs : Array Value) (t : TypeId) (w : World) (hs : s.size ≤ maxLen) (h : Rd5 w R s p) (hne : g ≠ R) (hg : w.heap[g]? = some (.cells cs t (0, 0))) (ho : o < cs.size) :
    Calls Tryz.prog 183 #[.pointer (some ⟨R, 0, none⟩), .pointer (some ⟨g, o, none⟩)] w (RdOut R (RG R g) s (rdBl s.data.toList (p, 0)).2 (BlAt g o cs t w.heap.size (rdBl s.data.toList (p, 0)).1) w) := by
  have HR0 := Lib.hid h
  have KD := Lib.hid (fun W => string_any s p W hs)
  have HB := Lib.hid (show rdBl s.data.toList (p, 0) = if (strAt s.data.toList p).2.2 ≠ 0 then ([], (strAt s.data.toList p).2) else if (decP (strAt s.data.toList p).1).2 ≠ 0 then ([], ((strAt s.data.toList p).2.1, 50)) else ((decP (strAt s.data.toList p).1).1, (strAt s.data.toList p).2) by unfold rdBl rdS; rfl)
  have HSL := Lib.hid (strAt_len s.data.toList p)
  generalize strAt s.data.toList p = r at *
  obtain ⟨v, at2, er⟩ := r
  simp only at HB HSL KD
  by_cases he : er = 0
  · subst he
    have K := Lib.hid (readS5_ok R s p at2 v w h (Lib.hid (fun W => (KD.out W).mono (fun x w' q => q))))
    have KB := Lib.hid (fun W => decode_own ⟨v.toArray⟩ W (by rw [mk_size']; have := HSL.out; unfold maxLen; omega))
    have HG := Lib.hid hg
    have hgw : g < w.heap.size := (Array.getElem?_eq_some_iff.1 hg).1
    have HB2 := HB.out
    rw [if_neg (by simp)] at HB2
    have e1 : (⟨v.toArray⟩ : ByteArray).data.toList = v := by simp
    rw [e1] at KB
    clear h hg KD HB e1
    by_cases hd : (decP v).2 = 0
    · rw [if_neg (by simp [hd])] at HB2
      rw [HB2]
      have HD := Lib.hid hd
      clear hd HB2
      generalize decP v = q at *
      obtain ⟨bl, er⟩ := q
      simp only at HD KB
      obtain rfl : er = 0 := HD.out
      go_enter Tryz.func183, Tryz.ntmps183
      go_wp2_with fail
      refine K.out.mono ?_
      rintro e w1 ⟨rfl, h1, hk⟩
      have hw1 : w.heap.size ≤ w1.heap.size := hk.size
      have H1 := Lib.hid h1
      have HK1 := Lib.hid hk
      have g1 := Lib.hid (hk.heap HG.out hne)
      clear h1 hk K HG
      go_wp2_with fail
      refine (KB.out _).mono ?_
      rintro e w2 ⟨a, c, es, rfl, hes, how, hin, b2⟩
      have g2 := blockOver b2 g1.out
      have H2 := Lib.hid (H1.out.over b2)
      have HK := Lib.hid ((Kp.of_keeps (S := RG R g) HK1.out (.inl rfl) ⟨_, _, HR0.out⟩).trans (Kp.of_below b2))
      have HES := Lib.hid hes
      have HOW := Lib.hid (own_mono how hw1)
      have HIN : Hid (∀ e ∈ es, BeIn w.heap.size w2 e) := Lib.hid (fun e he => ⟨(hin e he).1, own_mono (hin e he).2 hw1⟩)
      have HG2 := Lib.hid g2
      have f1 := Joins.unfrozen_of_block g2 o
      have c1 : w2.cell? ⟨g, o, none⟩ = some (cs[o]'ho) := by rw [Joins.cell_of_block g2]; exact Array.getElem?_eq_getElem ho
      clear hes how hin b2 g2 g1 H1 HK1 KB hw1
      go_wp2
      go_end0
      refine .inl ⟨rfl, rfl, ?_, ⟨a, c, es, Joins.block_setCell HG2.out _, HES.out, setNe (a := w) HOW.out hgw, fun e he => ⟨(HIN.out e he).1, setNe (a := w) (HIN.out e he).2 hgw⟩⟩, HK.out.setCell (.inr rfl) o _⟩
      unfold Rd5
      rw [Below.heap_setCell _ _ _ _ (fun q => hne q.symm)]
      exact H2.out
    · rw [if_pos hd] at HB2
      rw [HB2]
      have HD := Lib.hid hd
      have g3 : ((decP v).2 != 0) = true := by simp [hd]
      clear hd HB2
      go_enter Tryz.func183, Tryz.ntmps183
      go_wp2_with fail
      refine K.out.mono ?_
      rintro e w1 ⟨rfl, h1, hk⟩
      have HK1 := Lib.hid hk
      clear h1 hk K HG
      go_wp2_with fail
      refine (KB.out _).mono ?_
      rintro e w2 ⟨a, c, es, rfl, hes, how, hin, b2⟩
      have HK := Lib.hid ((Kp.of_keeps (S := RG R g) HK1.out (.inl rfl) ⟨_, _, HR0.out⟩).trans (Kp.of_below b2))
      clear hes how hin b2 HK1 KB
      go_wp2
      exact ⟨rfl, .inr ⟨by simp, rfl, HK.out⟩⟩
  · have HB2 := HB.out
    rw [if_pos he] at HB2
    rw [HB2]
    have K := Lib.hid (readS5_err R s p at2 er he v w h (Lib.hid (fun W => (KD.out W).mono (fun x w' q => q))))
    have HE := Lib.hid he
    clear h hg KD he HB HB2
    go_enter Tryz.func183, Tryz.ntmps183
    go_wp2_with fail
    refine K.out.mono ?_
    rintro e w1 ⟨rfl, hk⟩
    have HK := Lib.hid (Kp.of_keeps (S := RG R g) hk (.inl rfl) ⟨_, _, HR0.out⟩)
    clear hk K
    exact ⟨rfl, .inr ⟨HE.out, rfl, HK.out⟩⟩
end Go.Proofs.YtlhcckjfgpcohaaGreatDoor
namespace Go.Proofs.YtlhcckjfgpcohaaGreatDoor
open Go.RowKit
set_option maxRecDepth 100000
set_option linter.unusedSimpArgs false
set_option linter.unusedVariables false
theorem mR_number (a : Addr) (w : World) : (method 316 70 (.pointer (some a)) "copydesk/fact.number").run Tryz.prog w = .ok (184, .pointer (some a)) w := by kernel_rfl
theorem mR_text (a : Addr) (w : World) : (method 316 70 (.pointer (some a)) "copydesk/fact.text").run Tryz.prog w = .ok (185, .pointer (some a)) w := by kernel_rfl
theorem mR_blocks (a : Addr) (w : World) : (method 316 70 (.pointer (some a)) "copydesk/fact.blocks").run Tryz.prog w = .ok (183, .pointer (some a)) w := by kernel_rfl
theorem aR_number (a : Addr) (w : World) : (nilAhead 316 70 (.pointer (some a)) "copydesk/fact.number").run Tryz.prog w = .ok (some false) w := by kernel_rfl
def cvR (R : Nat) : Value := .iface 70 (.pointer (some ⟨R, 0, none⟩))
theorem Kp.alloc {S : Nat → Prop} {a w : World} (h : Kp S a w) (o : Obj) : Kp S a (w.alloc o) := h.trans (Kp.of_below (below_alloc w o))
theorem Kp.keptT {S S' : Nat → Prop} {a b c : World} (h : Kp S a b) (k : Kp S' b c) : ∀ (i : Nat) (cs : Array Value) (fr : Nat × Nat), a.heap[i]? = some (Obj.cells cs 28 fr) → ∃ cs' : Array Value, cs'.size = cs.size ∧ c.heap[i]? = some (.cells cs' 28 fr) := fun i cs fr hi => by
  obtain ⟨c1, h1, h2⟩ := h.kept i cs fr hi
  obtain ⟨c2, h3, h4⟩ := k.kept i c1 fr h2
  exact ⟨c2, h3.trans h1, h4⟩
theorem Kp.drop {S : Nat → Prop} {R g : Nat} {a b w : World} (h : Kp (RG R g) b w) (hb : Below a.heap.size a b) (hR : S R) (hg : a.heap.size ≤ g) : Kp S a w :=
  ⟨h.os.trans hb.os, h.tape.trans hb.tape, h.output.trans hb.output, Nat.le_trans hb.size h.size, fun k hk hs => by
    refine (h.block k (Nat.lt_of_lt_of_le hk hb.size) (fun q => ?_)).trans (hb.block k hk)
    rcases q with rfl | rfl
    · exact hs hR
    · omega, fun k cs fr hk => h.kept k cs fr ((hb.block k (Array.getElem?_eq_some_iff.1 hk).1).trans hk)⟩
set_option maxHeartbeats 4000000 in
theorem rlistI_bad (R g o : Nat) (s : ByteArray) (p : Int) (cs : Array Value) (t : TypeId) (most : Int) (w : World) (hs : s.size ≤ maxLen) (h : Rd5 w R s p) (hne : g ≠ R) (hg : w.heap[g]? = some (.cells cs t (0, 0))) (ho : cs[o]? = some (.slice none 0 0))
    (er : Int) (he : (er = (intAt s.data.toList p).2.2 ∧ er ≠ 0) ∨ ((intAt s.data.toList p).2.2 = 0 ∧ inB (intAt s.data.toList p).1 0 most = false ∧ er = 50)) :
    Calls Tryz.prog 72 #[cvR R, .pointer (some ⟨g, o, none⟩), .int .i64 most, .func (.methodOf 79 "copydesk/fact.number") #[] #[]] w fun e w' => e = failed er ∧ Kp (RG R g) w w' := by
  have hc0 : w.cell? ⟨g, o, none⟩ = some (.slice none 0 0) := by rw [Joins.cell_of_block hg]; exact ho
  have hRw : R < w.heap.size := (Array.getElem?_eq_some_iff.1 h).1
  have KN := Lib.hid (rnumber R w.heap.size 0 s p #[.int .i64 0] 3 (w.alloc (.cells #[.int .i64 0] 3)) hs (h.over (below_alloc w _)) (by omega) (heap_alloc_new w _) (by simp))
  have hm1 := fun w => mR_number ⟨R, 0, none⟩ w
  have B0 := Lib.hid (below_alloc w (.cells #[.int .i64 0] 3))
  have KI := Lib.hid (fun W => (inside5 (intAt s.data.toList p).1 0 most W))
  generalize intAt s.data.toList p = r at *
  obtain ⟨v, at2, e2⟩ := r
  simp only at KN KI he
  have HE := Lib.hid he
  clear h hg he
  unfold cvR
  go_enter Tryz.func72, Tryz.ntmps72
  go_wp2_with fail
  refine KN.out.mono ?_
  rintro e w1 (⟨h0, rfl, -, hg1, hk⟩ | ⟨h0, rfl, hk⟩)
  · obtain ⟨h1, h2, rfl⟩ : e2 = 0 ∧ inB v 0 most = false ∧ er = 50 := by
      rcases HE.out with ⟨q1, q2⟩ | q
      · exact absurd (q1.trans h0) q2
      · exact q
    have HK := Lib.hid (Kp.drop (S := RG R g) hk B0.out (.inl rfl) (Nat.le_refl _))
    have cN : w1.cell? ⟨w.heap.size, 0, none⟩ = some (.int .i64 v) := by rw [Joins.cell_of_block hg1]; rfl
    rw [h2] at KI
    clear hk hg1 KN HE h0 h2 hc0
    go_wp2_with fail
    refine (KI.out _).mono ?_
    rintro e w2 ⟨rfl, rfl⟩
    clear cN
    go_wp2
    exact ⟨rfl, rfl, HK.out⟩
  · have HK := Lib.hid (Kp.drop (S := RG R g) hk B0.out (.inl rfl) (Nat.le_refl _))
    have hr : e2 = er := by
      rcases HE.out with ⟨q1, _⟩ | ⟨q, _⟩
      · exact q1.symm
      · exact absurd q h0
    clear hk KN HE h0
    exact ⟨rfl, by rw [← hr]; rfl, HK.out⟩
set_option maxHeartbeats 4000000 in
theorem rlistS_bad (R g o : Nat) (s : ByteArray) (p : Int) (cs : Array Value) (t : TypeId) (most : Int) (w : World) (hs : s.size ≤ maxLen) (h : Rd5 w R s p) (hne : g ≠ R) (hg : w.heap[g]? = some (.cells cs t (0, 0))) (ho : cs[o]? = some (.slice none 0 0))
    (er : Int) (he : (er = (intAt s.data.toList p).2.2 ∧ er ≠ 0) ∨ ((intAt s.data.toList p).2.2 = 0 ∧ inB (intAt s.data.toList p).1 0 most = false ∧ er = 50)) :
    Calls Tryz.prog 98 #[cvR R, .pointer (some ⟨g, o, none⟩), .int .i64 most, .func (.methodOf 79 "copydesk/fact.text") #[] #[]] w fun e w' => e = failed er ∧ Kp (RG R g) w w' := by
  have hc0 : w.cell? ⟨g, o, none⟩ = some (.slice none 0 0) := by rw [Joins.cell_of_block hg]; exact ho
  have hRw : R < w.heap.size := (Array.getElem?_eq_some_iff.1 h).1
  have KN := Lib.hid (rnumber R w.heap.size 0 s p #[.int .i64 0] 3 (w.alloc (.cells #[.int .i64 0] 3)) hs (h.over (below_alloc w _)) (by omega) (heap_alloc_new w _) (by simp))
  have hm1 := fun w => mR_number ⟨R, 0, none⟩ w
  have B0 := Lib.hid (below_alloc w (.cells #[.int .i64 0] 3))
  have KI := Lib.hid (fun W => (inside5 (intAt s.data.toList p).1 0 most W))
  generalize intAt s.data.toList p = r at *
  obtain ⟨v, at2, e2⟩ := r
  simp only at KN KI he
  have HE := Lib.hid he
  clear h hg he
  unfold cvR
  go_enter Tryz.func98, Tryz.ntmps98
  go_wp2_with fail
  refine KN.out.mono ?_
  rintro e w1 (⟨h0, rfl, -, hg1, hk⟩ | ⟨h0, rfl, hk⟩)
  · obtain ⟨h1, h2, rfl⟩ : e2 = 0 ∧ inB v 0 most = false ∧ er = 50 := by
      rcases HE.out with ⟨q1, q2⟩ | q
      · exact absurd (q1.trans h0) q2
      · exact q
    have HK := Lib.hid (Kp.drop (S := RG R g) hk B0.out (.inl rfl) (Nat.le_refl _))
    have cN : w1.cell? ⟨w.heap.size, 0, none⟩ = some (.int .i64 v) := by rw [Joins.cell_of_block hg1]; rfl
    rw [h2] at KI
    clear hk hg1 KN HE h0 h2 hc0
    go_wp2_with fail
    refine (KI.out _).mono ?_
    rintro e w2 ⟨rfl, rfl⟩
    clear cN
    go_wp2
    exact ⟨rfl, rfl, HK.out⟩
  · have HK := Lib.hid (Kp.drop (S := RG R g) hk B0.out (.inl rfl) (Nat.le_refl _))
    have hr : e2 = er := by
      rcases HE.out with ⟨q1, _⟩ | ⟨q, _⟩
      · exact q1.symm
      · exact absurd q h0
    clear hk KN HE h0
    exact ⟨rfl, by rw [← hr]; rfl, HK.out⟩
set_option maxHeartbeats 4000000 in
theorem rlistI_zero (R g o : Nat) (s : ByteArray) (p : Int) (cs : Array Value) (t : TypeId) (most at2 : Int) (w : World) (hs : s.size ≤ maxLen) (h : Rd5 w R s p) (hne : g ≠ R) (hg : w.heap[g]? = some (.cells cs t (0, 0))) (ho : cs[o]? = some (.slice none 0 0))
    (he : intAt s.data.toList p = (0, at2, 0)) (hm : 0 ≤ most) :
    Calls Tryz.prog 72 #[cvR R, .pointer (some ⟨g, o, none⟩), .int .i64 most, .func (.methodOf 79 "copydesk/fact.number") #[] #[]] w fun e w' => e = .returned (.tuple #[]) ∧ Rd5 w' R s at2 ∧ w'.heap[g]? = some (.cells cs t (0, 0)) ∧ Kp (RG R g) w w' := by
  have hc0 : w.cell? ⟨g, o, none⟩ = some (.slice none 0 0) := by rw [Joins.cell_of_block hg]; exact ho
  have hRw : R < w.heap.size := (Array.getElem?_eq_some_iff.1 h).1
  have hgw : g < w.heap.size := (Array.getElem?_eq_some_iff.1 hg).1
  have KN := Lib.hid (rnumber R w.heap.size 0 s p #[.int .i64 0] 3 (w.alloc (.cells #[.int .i64 0] 3)) hs (h.over (below_alloc w _)) (by omega) (heap_alloc_new w _) (by simp))
  have hm1 := fun w => mR_number ⟨R, 0, none⟩ w
  have B0 := Lib.hid (below_alloc w (.cells #[.int .i64 0] 3))
  have HG := Lib.hid (blockOver B0.out hg)
  have KI := Lib.hid (fun W => (inside5 0 0 most W))
  rw [show inB 0 0 most = true by simp [inB]; exact hm] at KI
  rw [he] at KN
  have HO := Lib.hid ho
  clear h hg he ho
  unfold cvR
  go_enter Tryz.func72, Tryz.ntmps72
  go_wp2_with fail
  refine KN.out.mono ?_
  rintro e w1 (⟨h0, rfl, h1, hg1, hk⟩ | ⟨h0, rfl, hk⟩)
  · have HK := Lib.hid (Kp.drop (S := RG R g) hk B0.out (.inl rfl) (Nat.le_refl _))
    have cN : w1.cell? ⟨w.heap.size, 0, none⟩ = some (.int .i64 0) := by rw [Joins.cell_of_block hg1]; rfl
    have hg2 := hk.heap HG.out (fun q => by rcases q with q | q; exact hne q; omega)
    have HG2 := Lib.hid hg2
    have HR := Lib.hid h1
    have c1 : w1.cell? ⟨g, o, none⟩ = some (.slice none 0 0) := by rw [Joins.cell_of_block hg2]; exact HO.out
    clear hk hg1 KN h0 hc0 hg2 h1 HG
    go_wp2_with fail
    refine (KI.out _).mono ?_
    rintro e w2 ⟨rfl, rfl⟩
    go_wp2_with fail
    go_quiet (fail)
    rename_i nq
    have c2 : (w1.drewN nq).cell? ⟨g, o, none⟩ = some (.slice none 0 0) := c1
    have HR2 : Hid (Rd5 (w1.drewN nq) R s at2) := Lib.hid HR.out
    have HG3 : Hid ((w1.drewN nq).heap[g]? = some (.cells cs t (0, 0))) := Lib.hid HG2.out
    have HK2 : Hid (Kp (RG R g) w (w1.drewN nq)) := Lib.hid (HK.out.trans (Kp.of_below (below_drewN (Below.refl _ _) nq)))
    generalize w1.drewN nq = W2 at c2 HR2 HG3 HK2 ⊢
    clear c1 cN HR HG2 HK KI
    go_wp2_with fail
    go_loopw [35, 9] (fun i _ wr => i = .int .i64 0 ∧ wr = W2) (fun _ _ _ => 0)
    case atStart => exact ⟨rfl, rfl⟩
    case round =>
      obtain ⟨rfl, rfl⟩ := hrel
      go_wp2
      go_end0
      exact ⟨rfl, HR2.out, HG3.out, HK2.out⟩
  · exact absurd rfl h0
set_option maxHeartbeats 4000000 in
theorem rlistS_zero (R g o : Nat) (s : ByteArray) (p : Int) (cs : Array Value) (t : TypeId) (most at2 : Int) (w : World) (hs : s.size ≤ maxLen) (h : Rd5 w R s p) (hne : g ≠ R) (hg : w.heap[g]? = some (.cells cs t (0, 0))) (ho : cs[o]? = some (.slice none 0 0))
    (he : intAt s.data.toList p = (0, at2, 0)) (hm : 0 ≤ most) :
    Calls Tryz.prog 98 #[cvR R, .pointer (some ⟨g, o, none⟩), .int .i64 most, .func (.methodOf 79 "copydesk/fact.text") #[] #[]] w fun e w' => e = .returned (.tuple #[]) ∧ Rd5 w' R s at2 ∧ w'.heap[g]? = some (.cells cs t (0, 0)) ∧ Kp (RG R g) w w' := by
  have hc0 : w.cell? ⟨g, o, none⟩ = some (.slice none 0 0) := by rw [Joins.cell_of_block hg]; exact ho
  have hRw : R < w.heap.size := (Array.getElem?_eq_some_iff.1 h).1
  have hgw : g < w.heap.size := (Array.getElem?_eq_some_iff.1 hg).1
  have KN := Lib.hid (rnumber R w.heap.size 0 s p #[.int .i64 0] 3 (w.alloc (.cells #[.int .i64 0] 3)) hs (h.over (below_alloc w _)) (by omega) (heap_alloc_new w _) (by simp))
  have hm1 := fun w => mR_number ⟨R, 0, none⟩ w
  have B0 := Lib.hid (below_alloc w (.cells #[.int .i64 0] 3))
  have HG := Lib.hid (blockOver B0.out hg)
  have KI := Lib.hid (fun W => (inside5 0 0 most W))
  rw [show inB 0 0 most = true by simp [inB]; exact hm] at KI
  rw [he] at KN
  have HO := Lib.hid ho
  clear h hg he ho
  unfold cvR
  go_enter Tryz.func98, Tryz.ntmps98
  go_wp2_with fail
  refine KN.out.mono ?_
  rintro e w1 (⟨h0, rfl, h1, hg1, hk⟩ | ⟨h0, rfl, hk⟩)
  · have HK := Lib.hid (Kp.drop (S := RG R g) hk B0.out (.inl rfl) (Nat.le_refl _))
    have cN : w1.cell? ⟨w.heap.size, 0, none⟩ = some (.int .i64 0) := by rw [Joins.cell_of_block hg1]; rfl
    have hg2 := hk.heap HG.out (fun q => by rcases q with q | q; exact hne q; omega)
    have HG2 := Lib.hid hg2
    have HR := Lib.hid h1
    have c1 : w1.cell? ⟨g, o, none⟩ = some (.slice none 0 0) := by rw [Joins.cell_of_block hg2]; exact HO.out
    clear hk hg1 KN h0 hc0 hg2 h1 HG
    go_wp2_with fail
    refine (KI.out _).mono ?_
    rintro e w2 ⟨rfl, rfl⟩
    go_wp2_with fail
    go_quiet (fail)
    rename_i nq
    have c2 : (w1.drewN nq).cell? ⟨g, o, none⟩ = some (.slice none 0 0) := c1
    have HR2 : Hid (Rd5 (w1.drewN nq) R s at2) := Lib.hid HR.out
    have HG3 : Hid ((w1.drewN nq).heap[g]? = some (.cells cs t (0, 0))) := Lib.hid HG2.out
    have HK2 : Hid (Kp (RG R g) w (w1.drewN nq)) := Lib.hid (HK.out.trans (Kp.of_below (below_drewN (Below.refl _ _) nq)))
    generalize w1.drewN nq = W2 at c2 HR2 HG3 HK2 ⊢
    clear c1 cN HR HG2 HK KI
    go_wp2_with fail
    go_loopw [35, 9] (fun i _ wr => i = .int .i64 0 ∧ wr = W2) (fun _ _ _ => 0)
    case atStart => exact ⟨rfl, rfl⟩
    case round =>
      obtain ⟨rfl, rfl⟩ := hrel
      go_wp2
      go_end0
      exact ⟨rfl, HR2.out, HG3.out, HK2.out⟩
  · exact absurd rfl h0
end Go.Proofs.YtlhcckjfgpcohaaGreatDoor
namespace Go.Proofs.YtlhcckjfgpcohaaGreatDoor
open Go.RowKit
set_option maxRecDepth 100000
set_option linter.unusedSimpArgs false
set_option linter.unusedVariables false
theorem intInfo6 : (Tryz.prog.info? 3).map (fun i => (i.zero, i.size, i.bytes)) = some (some (.int .i64 0), 1, 8) := by kernel_rfl
theorem strInfo6 : (Tryz.prog.info? 9).map (fun i => (i.zero, i.size, i.bytes)) = some (some (.string ⟨#[]⟩), 1, 16) := by kernel_rfl
theorem setZero {cs : Array Value} {o : Nat} {v : Value} (h : cs[o]? = some v) : cs.setIfInBounds o v = cs := by
  obtain ⟨hk, rfl⟩ := Array.getElem?_eq_some_iff.1 h
  apply Array.ext_getElem?
  intro i
  rw [Array.getElem?_setIfInBounds]
  split
  · rename_i e; subst e; simp [hk]
  · rfl
/-- The list that a cell got: a row of the call's own. -/
def LsAt {α : Type} (val : α → Value) (ty : TypeId) (g o : Nat) (cs : Array Value) (t : TypeId) (base : Nat) (l : List α) (w' : World) : Prop :=
  ∃ a c, w'.heap[g]? = some (.cells (cs.setIfInBounds o (.slice a l.length c)) t (0, 0)) ∧ w'.ownsRow base ty 1 (.slice a l.length c) l.length (l.map val)
abbrev valI : Int → Value := Value.int .i64
abbrev valS : List UInt8 → Value := fun z => .string ⟨z.toArray⟩
theorem made_row {α : Type} (val : α → Value) (z : Value) (n : Nat) : madeCells #[z] n = rowV val z ([] : List α) n := by
  rw [rowV_none]
  apply Array.ext_getElem?
  intro i
  by_cases h : i < n
  · simp [madeCells, h, Nat.mod_one]
  · simp [madeCells, h]
set_option maxHeartbeats 4000000 in
theorem rlistI_pos (R g o : Nat) (s : ByteArray) (p : Int) (cs : Array Value) (t : TypeId) (most at2 : Int) (n : Nat) (w : World) (hs : s.size ≤ maxLen) (h : Rd5 w R s p) (hne : g ≠ R) (hg : w.heap[g]? = some (.cells cs t (0, 0))) (ho : cs[o]? = some (.slice none 0 0))
    (he : intAt s.data.toList p = ((n : Int), at2, 0)) (hn : 0 < n) (hnm : (n : Int) ≤ most) (hm : most ≤ 1000) :
    Calls Tryz.prog 72 #[cvR R, .pointer (some ⟨g, o, none⟩), .int .i64 most, .func (.methodOf 79 "copydesk/fact.number") #[] #[]] w
      (RdOut R (RG R g) s (rdN (rdI s.data.toList) n (at2, 0)).2 (LsAt valI 3 g o cs t w.heap.size (rdN (rdI s.data.toList) n (at2, 0)).1) w) := by
  have hc0 : w.cell? ⟨g, o, none⟩ = some (.slice none 0 0) := by rw [Joins.cell_of_block hg]; exact ho
  have hRw : R < w.heap.size := (Array.getElem?_eq_some_iff.1 h).1
  have hgw : g < w.heap.size := (Array.getElem?_eq_some_iff.1 hg).1
  have KN := Lib.hid (rnumber R w.heap.size 0 s p #[.int .i64 0] 3 (w.alloc (.cells #[.int .i64 0] 3)) hs (h.over (below_alloc w _)) (by omega) (heap_alloc_new w _) (by simp))
  have hm1 := fun w => mR_number ⟨R, 0, none⟩ w
  have hm2 := fun w => mR_number ⟨R, 0, none⟩ w
  have B0 := Lib.hid (below_alloc w (.cells #[.int .i64 0] 3))
  have HG := Lib.hid (blockOver B0.out hg)
  have KI := Lib.hid (fun W => (inside5 n 0 most W))
  rw [show inB (n : Int) 0 most = true by simp [inB]; omega] at KI
  rw [he] at KN
  have HO := Lib.hid ho
  obtain ⟨i0, hi, hz0, hz1, hz2⟩ := info_parts intInfo6
  have hn1000 : n ≤ 1000 := by omega
  have hbyt : i0.bytes * n ≤ 281474976710656 := by rw [hz2]; omega
  have HI := Lib.hid (And.intro hi (And.intro hz0 (And.intro hz1 hbyt)))
  have S0 := Lib.hid (show rdN (rdI s.data.toList) 0 (at2, 0) = ([], (at2, 0)) from rfl)
  have S1 := Lib.hid (fun k : Nat => rdN_snoc (rdI s.data.toList) k (at2, 0))
  have SL := Lib.hid (fun k : Nat => rdN_len (rdI s.data.toList) k (at2, 0))
  have SC := Lib.hid (fun (k : Nat) (hk : k < n) h => rdN_cut (f := rdI s.data.toList) (fun σ hσ => rdI_keep s.data.toList hσ) hk (σ := (at2, 0)) h)
  have HS := Lib.hid hs
  clear h hg he ho hi hz0 hz1 hz2 hs hbyt
  obtain ⟨Z, hZ⟩ : ∃ Z : Nat → List Int × (Int × Int), Z = fun k => rdN (rdI s.data.toList) k (at2, 0) := ⟨_, rfl⟩
  have e0 : rdN (rdI s.data.toList) n (at2, 0) = Z n := by rw [hZ]
  rw [e0]
  replace S0 : Hid (Z 0 = ([], (at2, 0))) := by rw [hZ]; exact S0
  replace S1 : Hid (∀ k, Z (k + 1) = ((Z k).1 ++ [(rdI s.data.toList (Z k).2).1], (rdI s.data.toList (Z k).2).2)) := by rw [hZ]; exact S1
  replace SL : Hid (∀ k, (Z k).1.length = k) := by rw [hZ]; exact SL
  replace SC : Hid (∀ k, k < n → (rdI s.data.toList (Z k).2).2.2 ≠ 0 → (Z n).2 = (rdI s.data.toList (Z k).2).2) := by rw [hZ]; exact SC
  clear hZ e0
  unfold cvR
  go_enter Tryz.func72, Tryz.ntmps72
  go_wp2_with fail
  refine KN.out.mono ?_
  rintro e w1 (⟨h0, rfl, h1, hg1, hk⟩ | ⟨h0, rfl, hk⟩)
  · have HK := Lib.hid (Kp.drop (S := RG R g) hk B0.out (.inl rfl) (Nat.le_refl _))
    have cN : w1.cell? ⟨w.heap.size, 0, none⟩ = some (.int .i64 n) := by rw [Joins.cell_of_block hg1]; rfl
    have hg2 := hk.heap HG.out (fun q => by rcases q with q | q; exact hne q; omega)
    have HG2 := Lib.hid hg2
    have HR := Lib.hid h1
    have c1 : w1.cell? ⟨g, o, none⟩ = some (.slice none 0 0) := by rw [Joins.cell_of_block hg2]; exact HO.out
    clear hk hg1 KN h0 hc0 hg2 h1 HG
    go_wp2_with fail
    refine (KI.out _).mono ?_
    rintro e w2 ⟨rfl, rfl⟩
    have hnz : ((n : Int) == 0) = false := by simp; omega
    have hnz2 : ((n : Int) != 0) = true := by simp; omega
    go_wp2_with fail
    go_quiet (fail)
    rename_i nq
    have c2 : (w1.drewN nq).cell? ⟨g, o, none⟩ = some (.slice none 0 0) := c1
    have cN2 : (w1.drewN nq).cell? ⟨w.heap.size, 0, none⟩ = some (.int .i64 n) := cN
    have HR2 : Hid (Rd5 (w1.drewN nq) R s at2) := Lib.hid HR.out
    have HG3 : Hid ((w1.drewN nq).heap[g]? = some (.cells cs t (0, 0))) := Lib.hid HG2.out
    have HK2 : Hid (Kp (RG R g) w (w1.drewN nq)) := Lib.hid (HK.out.trans (Kp.of_below (below_drewN (Below.refl _ _) nq)))
    generalize w1.drewN nq = W2 at c2 cN2 HR2 HG3 HK2 ⊢
    clear c1 cN HR HG2 HK KI
    have f2 := Joins.unfrozen_of_block HG3.out o
    obtain ⟨G, hG⟩ : ∃ G, W2.heap.size = G := ⟨_, rfl⟩
    have HGw : Hid (w.heap.size ≤ G) := Lib.hid (by rw [← hG]; exact HK2.out.size)
    have HG4 : Hid (((W2.alloc (.cells (madeCells #[(.int .i64 0)] n) 3)).setCell ⟨g, o, none⟩ (.slice (some ⟨G, 0, none⟩) n n)).heap[g]? = some (.cells (cs.setIfInBounds o (.slice (some ⟨G, 0, none⟩) n n)) t (0, 0))) := Lib.hid (Joins.block_setCell (blockOver (below_alloc _ _) HG3.out) _)
    have HR4 : Hid (Rd5 ((W2.alloc (.cells (madeCells #[(.int .i64 0)] n) 3)).setCell ⟨g, o, none⟩ (.slice (some ⟨G, 0, none⟩) n n)) R s at2) := Lib.hid (by
      unfold Rd5
      rw [Below.heap_setCell _ _ _ _ (fun q => hne q.symm)]
      exact HR2.out.over (below_alloc _ _))
    have HW4 : Hid (((W2.alloc (.cells (madeCells #[(.int .i64 0)] n) 3)).setCell ⟨g, o, none⟩ (.slice (some ⟨G, 0, none⟩) n n)).heap[G]? = some (.cells (rowV valI (.int .i64 0) [] n) 3 (0, 0))) := Lib.hid (by
      rw [Below.heap_setCell _ _ _ _ (fun (q : G = g) => by have := HGw.out; omega), ← made_row valI, ← hG]
      exact heap_alloc_new W2 _)
    have HK4 : Hid (Kp (RG R g) w ((W2.alloc (.cells (madeCells #[(.int .i64 0)] n) 3)).setCell ⟨g, o, none⟩ (.slice (some ⟨G, 0, none⟩) n n))) := Lib.hid ((HK2.out.alloc _).setCell (.inr rfl) o _)
    have cA : (W2.alloc (.cells (madeCells #[(.int .i64 0)] n) 3)).cell? ⟨g, o, none⟩ = some (.slice none 0 0) := by
      rw [Joins.cell_of_block (blockOver (below_alloc W2 _) HG3.out)]; exact HO.out
    have fA := Joins.unfrozen_of_block (blockOver (below_alloc W2 (.cells (madeCells #[(.int .i64 0)] n) 3)) HG3.out) o
    obtain ⟨WA, hWA⟩ : ∃ WA, WA = W2.alloc (.cells (madeCells #[(.int .i64 0)] n) 3) := ⟨_, rfl⟩
    rw [← hWA] at HG4 HR4 HW4 HK4 cA fA
    have HWA := Lib.hid hWA
    clear HR2 HG3 HK2 hWA
    go_wp2_with (refine wpList_make_row _ rfl _ _ 24 rfl 3 i0 (.int .i64 0) Tryz.underlying24 HI.out.1 HI.out.2.1 HI.out.2.2.1 rfl .i64 .i64 n rfl rfl HI.out.2.2.2 (by omega) ?_; rw [← HWA.out, hG])
    generalize WA.setCell ⟨g, o, none⟩ (.slice (some ⟨G, 0, none⟩) n n) = W3 at HG4 HR4 HW4 HK4 ⊢
    clear c2 cN2 f2 hG hnz hnz2 cA fA HWA HI
    go_loopw [35, 9] (fun i _ wr => ∃ k : Nat, k ≤ n ∧ i = .int .i64 k ∧ Hid ((Z k).2.2 = 0) ∧ Hid (Rd5 wr R s (Z k).2.1) ∧ Hid (wr.heap[g]? = some (.cells (cs.setIfInBounds o (.slice (some ⟨G, 0, none⟩) n n)) t (0, 0))) ∧ Hid (wr.heap[G]? = some (.cells (rowV valI (.int .i64 0) (Z k).1 n) 3 (0, 0))) ∧ Hid (Kp (RG R g) w wr)) (fun i _ _ => n - (intOf i).toNat)
    case atStart => exact ⟨0, Nat.zero_le _, rfl, Lib.hid (by rw [S0.out]), Lib.hid (by rw [S0.out]; exact HR4.out), HG4, Lib.hid (by rw [S0.out]; exact HW4.out), HK4⟩
    case round =>
      clear HG4 HR4 HW4 HK4 S0
      obtain ⟨k, hk, rfl, z1, z2, z3, z4, z5⟩ := hrel
      have cr : wr.cell? ⟨g, o, none⟩ = some (.slice (some ⟨G, 0, none⟩) n n) := by
        rw [Joins.cell_of_block z3.out]
        have := (Array.getElem?_eq_some_iff.1 HO.out).1
        simp [this]
      by_cases hlt : k < n
      · have KE := Lib.hid (rnumber R G k s (Z k).2.1 (rowV valI (.int .i64 0) (Z k).1 n) 3 wr HS.out z2.out (by have := HGw.out; omega) z4.out (by rw [rowV_size _ _ _ _ (by rw [SL.out]; omega)]; exact hlt))
        have HSZ : Hid (Z (k + 1) = ((Z k).1 ++ [(intAt s.data.toList (Z k).2.1).1], (intAt s.data.toList (Z k).2.1).2)) := Lib.hid (by
          rw [S1.out k, pair_eta z1.out, rdI_at])
        have HSC : Hid ((intAt s.data.toList (Z k).2.1).2.2 ≠ 0 → (Z n).2 = (intAt s.data.toList (Z k).2.1).2) := Lib.hid (fun h => by
          have h2 := SC.out k hlt
          rw [pair_eta z1.out, rdI_at] at h2
          exact h2 h)
        generalize intAt s.data.toList (Z k).2.1 = r at *
        obtain ⟨x, a3, e3⟩ := r
        have hltn : (k : Int) < n := by omega
        go_wp2_with fail
        refine KE.out.mono ?_
        rintro e w3 (⟨h0, rfl, h1, h2, h3⟩ | ⟨h0, rfl, hk3⟩)
        · have q1 : Hid ((Z (k + 1)).2.2 = 0) := Lib.hid (by rw [HSZ.out]; exact h0)
          have q2 : Hid (Rd5 w3 R s (Z (k + 1)).2.1) := Lib.hid (by rw [HSZ.out]; exact h1)
          have q4 : Hid (w3.heap[G]? = some (.cells (rowV valI (.int .i64 0) (Z (k + 1)).1 n) 3 (0, 0))) := Lib.hid (by
            have h4 := rowV_set valI (.int .i64 0) (Z k).1 n x (by rw [SL.out]; exact hlt)
            rw [SL.out] at h4
            rw [HSZ.out]
            rw [← h4]
            exact h2)
          have q3 := Lib.hid (h3.heap z3.out (by rintro (q | q); exact hne q; have := HGw.out; omega))
          have q5 : Hid (Kp (RG R g) w w3) := Lib.hid ⟨h3.os.trans z5.out.os, h3.tape.trans z5.out.tape, h3.output.trans z5.out.output, Nat.le_trans z5.out.size h3.size, fun j hj hs => by
            refine (h3.block j (Nat.lt_of_lt_of_le hj z5.out.size) (fun q => ?_)).trans (z5.out.block j hj hs)
            rcases q with q | q
            · exact hs (.inl q)
            · have := HGw.out; omega, (z5.out.keptT h3)⟩
          clear h0 h1 h2 h3 z1 z2 z3 z4 z5 cr KE HSZ HSC
          go_wp2_with fail
          go_roundw
          case rel => exact ⟨k + 1, by omega, by go_num, q1, q2, q3, q4, q5⟩
          case measure => simp [intOf]; omega
        · have q1 : Hid ((Z n).2 = (a3, e3)) := Lib.hid (HSC.out h0)
          have q2 := Lib.hid h0
          have q5 : Hid (Kp (RG R g) w w3) := Lib.hid ⟨hk3.os.trans z5.out.os, hk3.tape.trans z5.out.tape, hk3.output.trans z5.out.output, Nat.le_trans z5.out.size hk3.size, fun j hj hs => by
            refine (hk3.block j (Nat.lt_of_lt_of_le hj z5.out.size) (fun q => ?_)).trans (z5.out.block j hj hs)
            rcases q with q | q
            · exact hs (.inl q)
            · have := HGw.out; omega, (z5.out.keptT hk3)⟩
          clear h0 hk3 z1 z2 z3 z4 z5 cr KE HSZ HSC
          exact ⟨rfl, .inr ⟨by rw [q1.out]; exact q2.out, by rw [q1.out]; rfl, q5.out⟩⟩
      · obtain rfl : n = k := by omega
        have how : Hid (wr.ownsRow w.heap.size 3 1 (.slice (some ⟨G, 0, none⟩) (Z n).1.length n) (Z n).1.length ((Z n).1.map valI)) := Lib.hid (by
          have hl := SL.out n
          refine ⟨by simp, .inr ⟨G, n, _, rfl, HGw.out, z4.out, by omega, by unfold maxLen; omega, by rw [rowV_size _ _ _ _ (by omega)]; omega, ?_⟩⟩
          rw [rowV_full _ _ _ _ hl, List.take_of_length_le (by simp)])
        have hg5 : Hid (wr.heap[g]? = some (.cells (cs.setIfInBounds o (.slice (some ⟨G, 0, none⟩) (Z n).1.length n)) t (0, 0))) := Lib.hid (by rw [SL.out n]; exact z3.out)
        clear z3 z4 cr
        go_wp2
        go_end0
        exact .inl ⟨z1.out, rfl, z2.out, ⟨_, _, hg5.out, how.out⟩, z5.out⟩
  · exact absurd rfl h0
set_option maxHeartbeats 2000000 in
/-- A list, read. -/
theorem rlistI (R g o : Nat) (s : ByteArray) (p : Int) (cs : Array Value) (t : TypeId) (most : Int) (w : World) (hs : s.size ≤ maxLen) (h : Rd5 w R s p) (hne : g ≠ R) (hg : w.heap[g]? = some (.cells cs t (0, 0))) (ho : cs[o]? = some (.slice none 0 0)) (hm0 : 0 ≤ most) (hm : most ≤ 1000) :
    Calls Tryz.prog 72 #[cvR R, .pointer (some ⟨g, o, none⟩), .int .i64 most, .func (.methodOf 79 "copydesk/fact.number") #[] #[]] w
      (RdOut R (RG R g) s (rdLE 50 s.data.toList most (rdI s.data.toList) (p, 0)).2 (LsAt valI 3 g o cs t w.heap.size (rdLE 50 s.data.toList most (rdI s.data.toList) (p, 0)).1) w) := by
  by_cases h1 : (intAt s.data.toList p).2.2 = 0
  · cases h2 : inB (intAt s.data.toList p).1 0 most
    · refine (rlistI_bad R g o s p cs t most w hs h hne hg ho 50 (.inr ⟨h1, h2, rfl⟩)).mono (fun e w' hr => ?_)
      rw [RdOut, rdLE_bad h1 h2]
      exact .inr ⟨by simp, hr.1, hr.2⟩
    · have h3 := h2
      simp only [inB, decide_eq_true_eq] at h3
      obtain ⟨n, hn⟩ : ∃ n : Nat, (intAt s.data.toList p).1 = n := ⟨_, (Int.toNat_of_nonneg h3.1).symm⟩
      have he : intAt s.data.toList p = ((n : Int), (intAt s.data.toList p).2.1, 0) := by rw [← hn, ← h1]
      rw [hn] at h2 h3
      rw [rdLE_some he h2]
      by_cases h0 : n = 0
      · subst h0
        refine (rlistI_zero R g o s p cs t most _ w hs h hne hg ho he hm0).mono (fun e w' hr => .inl ⟨rfl, hr.1, hr.2.1, ⟨none, 0, ?_, ?_⟩, hr.2.2.2⟩)
        · show w'.heap[g]? = some (.cells (cs.setIfInBounds o (.slice none 0 0)) t (0, 0))
          rw [setZero ho]; exact hr.2.2.1
        · exact World.ownsRow_nil _ _ _ _
      · exact rlistI_pos R g o s p cs t most _ n w hs h hne hg ho he (by omega) h3.2 hm
  · refine (rlistI_bad R g o s p cs t most w hs h hne hg ho _ (.inl ⟨rfl, h1⟩)).mono (fun e w' hr => ?_)
    rw [RdOut, rdLE_err h1]
    exact .inr ⟨h1, hr.1, hr.2⟩
set_option maxHeartbeats 4000000 in
theorem rlistS_pos (R g o : Nat) (s : ByteArray) (p : Int) (cs : Array Value) (t : TypeId) (most at2 : Int) (n : Nat) (w : World) (hs : s.size ≤ maxLen) (h : Rd5 w R s p) (hne : g ≠ R) (hg : w.heap[g]? = some (.cells cs t (0, 0))) (ho : cs[o]? = some (.slice none 0 0))
    (he : intAt s.data.toList p = ((n : Int), at2, 0)) (hn : 0 < n) (hnm : (n : Int) ≤ most) (hm : most ≤ 1000) :
    Calls Tryz.prog 98 #[cvR R, .pointer (some ⟨g, o, none⟩), .int .i64 most, .func (.methodOf 79 "copydesk/fact.text") #[] #[]] w
      (RdOut R (RG R g) s (rdN (rdS s.data.toList) n (at2, 0)).2 (LsAt valS 9 g o cs t w.heap.size (rdN (rdS s.data.toList) n (at2, 0)).1) w) := by
  have hc0 : w.cell? ⟨g, o, none⟩ = some (.slice none 0 0) := by rw [Joins.cell_of_block hg]; exact ho
  have hRw : R < w.heap.size := (Array.getElem?_eq_some_iff.1 h).1
  have hgw : g < w.heap.size := (Array.getElem?_eq_some_iff.1 hg).1
  have KN := Lib.hid (rnumber R w.heap.size 0 s p #[.int .i64 0] 3 (w.alloc (.cells #[.int .i64 0] 3)) hs (h.over (below_alloc w _)) (by omega) (heap_alloc_new w _) (by simp))
  have hm1 := fun w => mR_text ⟨R, 0, none⟩ w
  have hm2 := fun w => mR_number ⟨R, 0, none⟩ w
  have B0 := Lib.hid (below_alloc w (.cells #[.int .i64 0] 3))
  have HG := Lib.hid (blockOver B0.out hg)
  have KI := Lib.hid (fun W => (inside5 n 0 most W))
  rw [show inB (n : Int) 0 most = true by simp [inB]; omega] at KI
  rw [he] at KN
  have HO := Lib.hid ho
  obtain ⟨i0, hi, hz0, hz1, hz2⟩ := info_parts strInfo6
  have hn1000 : n ≤ 1000 := by omega
  have hbyt : i0.bytes * n ≤ 281474976710656 := by rw [hz2]; omega
  have HI := Lib.hid (And.intro hi (And.intro hz0 (And.intro hz1 hbyt)))
  have S0 := Lib.hid (show rdN (rdS s.data.toList) 0 (at2, 0) = ([], (at2, 0)) from rfl)
  have S1 := Lib.hid (fun k : Nat => rdN_snoc (rdS s.data.toList) k (at2, 0))
  have SL := Lib.hid (fun k : Nat => rdN_len (rdS s.data.toList) k (at2, 0))
  have SC := Lib.hid (fun (k : Nat) (hk : k < n) h => rdN_cut (f := rdS s.data.toList) (fun σ hσ => rdS_keep s.data.toList hσ) hk (σ := (at2, 0)) h)
  have HS := Lib.hid hs
  clear h hg he ho hi hz0 hz1 hz2 hs hbyt
  obtain ⟨Z, hZ⟩ : ∃ Z : Nat → List (List UInt8) × (Int × Int), Z = fun k => rdN (rdS s.data.toList) k (at2, 0) := ⟨_, rfl⟩
  have e0 : rdN (rdS s.data.toList) n (at2, 0) = Z n := by rw [hZ]
  rw [e0]
  replace S0 : Hid (Z 0 = ([], (at2, 0))) := by rw [hZ]; exact S0
  replace S1 : Hid (∀ k, Z (k + 1) = ((Z k).1 ++ [(rdS s.data.toList (Z k).2).1], (rdS s.data.toList (Z k).2).2)) := by rw [hZ]; exact S1
  replace SL : Hid (∀ k, (Z k).1.length = k) := by rw [hZ]; exact SL
  replace SC : Hid (∀ k, k < n → (rdS s.data.toList (Z k).2).2.2 ≠ 0 → (Z n).2 = (rdS s.data.toList (Z k).2).2) := by rw [hZ]; exact SC
  clear hZ e0
  unfold cvR
  go_enter Tryz.func98, Tryz.ntmps98
  go_wp2_with fail
  refine KN.out.mono ?_
  rintro e w1 (⟨h0, rfl, h1, hg1, hk⟩ | ⟨h0, rfl, hk⟩)
  · have HK := Lib.hid (Kp.drop (S := RG R g) hk B0.out (.inl rfl) (Nat.le_refl _))
    have cN : w1.cell? ⟨w.heap.size, 0, none⟩ = some (.int .i64 n) := by rw [Joins.cell_of_block hg1]; rfl
    have hg2 := hk.heap HG.out (fun q => by rcases q with q | q; exact hne q; omega)
    have HG2 := Lib.hid hg2
    have HR := Lib.hid h1
    have c1 : w1.cell? ⟨g, o, none⟩ = some (.slice none 0 0) := by rw [Joins.cell_of_block hg2]; exact HO.out
    clear hk hg1 KN h0 hc0 hg2 h1 HG
    go_wp2_with fail
    refine (KI.out _).mono ?_
    rintro e w2 ⟨rfl, rfl⟩
    have hnz : ((n : Int) == 0) = false := by simp; omega
    have hnz2 : ((n : Int) != 0) = true := by simp; omega
    go_wp2_with fail
    go_quiet (fail)
    rename_i nq
    have c2 : (w1.drewN nq).cell? ⟨g, o, none⟩ = some (.slice none 0 0) := c1
    have cN2 : (w1.drewN nq).cell? ⟨w.heap.size, 0, none⟩ = some (.int .i64 n) := cN
    have HR2 : Hid (Rd5 (w1.drewN nq) R s at2) := Lib.hid HR.out
    have HG3 : Hid ((w1.drewN nq).heap[g]? = some (.cells cs t (0, 0))) := Lib.hid HG2.out
    have HK2 : Hid (Kp (RG R g) w (w1.drewN nq)) := Lib.hid (HK.out.trans (Kp.of_below (below_drewN (Below.refl _ _) nq)))
    generalize w1.drewN nq = W2 at c2 cN2 HR2 HG3 HK2 ⊢
    clear c1 cN HR HG2 HK KI
    have f2 := Joins.unfrozen_of_block HG3.out o
    obtain ⟨G, hG⟩ : ∃ G, W2.heap.size = G := ⟨_, rfl⟩
    have HGw : Hid (w.heap.size ≤ G) := Lib.hid (by rw [← hG]; exact HK2.out.size)
    have HG4 : Hid (((W2.alloc (.cells (madeCells #[(.string ⟨#[]⟩)] n) 9)).setCell ⟨g, o, none⟩ (.slice (some ⟨G, 0, none⟩) n n)).heap[g]? = some (.cells (cs.setIfInBounds o (.slice (some ⟨G, 0, none⟩) n n)) t (0, 0))) := Lib.hid (Joins.block_setCell (blockOver (below_alloc _ _) HG3.out) _)
    have HR4 : Hid (Rd5 ((W2.alloc (.cells (madeCells #[(.string ⟨#[]⟩)] n) 9)).setCell ⟨g, o, none⟩ (.slice (some ⟨G, 0, none⟩) n n)) R s at2) := Lib.hid (by
      unfold Rd5
      rw [Below.heap_setCell _ _ _ _ (fun q => hne q.symm)]
      exact HR2.out.over (below_alloc _ _))
    have HW4 : Hid (((W2.alloc (.cells (madeCells #[(.string ⟨#[]⟩)] n) 9)).setCell ⟨g, o, none⟩ (.slice (some ⟨G, 0, none⟩) n n)).heap[G]? = some (.cells (rowV valS (.string ⟨#[]⟩) [] n) 9 (0, 0))) := Lib.hid (by
      rw [Below.heap_setCell _ _ _ _ (fun (q : G = g) => by have := HGw.out; omega), ← made_row valS, ← hG]
      exact heap_alloc_new W2 _)
    have HK4 : Hid (Kp (RG R g) w ((W2.alloc (.cells (madeCells #[(.string ⟨#[]⟩)] n) 9)).setCell ⟨g, o, none⟩ (.slice (some ⟨G, 0, none⟩) n n))) := Lib.hid ((HK2.out.alloc _).setCell (.inr rfl) o _)
    have cA : (W2.alloc (.cells (madeCells #[(.string ⟨#[]⟩)] n) 9)).cell? ⟨g, o, none⟩ = some (.slice none 0 0) := by
      rw [Joins.cell_of_block (blockOver (below_alloc W2 _) HG3.out)]; exact HO.out
    have fA := Joins.unfrozen_of_block (blockOver (below_alloc W2 (.cells (madeCells #[(.string ⟨#[]⟩)] n) 9)) HG3.out) o
    obtain ⟨WA, hWA⟩ : ∃ WA, WA = W2.alloc (.cells (madeCells #[(.string ⟨#[]⟩)] n) 9) := ⟨_, rfl⟩
    rw [← hWA] at HG4 HR4 HW4 HK4 cA fA
    have HWA := Lib.hid hWA
    clear HR2 HG3 HK2 hWA
    go_wp2_with (refine wpList_make_row _ rfl _ _ 22 rfl 9 i0 (.string ⟨#[]⟩) Tryz.underlying22 HI.out.1 HI.out.2.1 HI.out.2.2.1 rfl .i64 .i64 n rfl rfl HI.out.2.2.2 (by omega) ?_; rw [← HWA.out, hG])
    generalize WA.setCell ⟨g, o, none⟩ (.slice (some ⟨G, 0, none⟩) n n) = W3 at HG4 HR4 HW4 HK4 ⊢
    clear c2 cN2 f2 hG hnz hnz2 cA fA HWA HI
    go_loopw [35, 9] (fun i _ wr => ∃ k : Nat, k ≤ n ∧ i = .int .i64 k ∧ Hid ((Z k).2.2 = 0) ∧ Hid (Rd5 wr R s (Z k).2.1) ∧ Hid (wr.heap[g]? = some (.cells (cs.setIfInBounds o (.slice (some ⟨G, 0, none⟩) n n)) t (0, 0))) ∧ Hid (wr.heap[G]? = some (.cells (rowV valS (.string ⟨#[]⟩) (Z k).1 n) 9 (0, 0))) ∧ Hid (Kp (RG R g) w wr)) (fun i _ _ => n - (intOf i).toNat)
    case atStart => exact ⟨0, Nat.zero_le _, rfl, Lib.hid (by rw [S0.out]), Lib.hid (by rw [S0.out]; exact HR4.out), HG4, Lib.hid (by rw [S0.out]; exact HW4.out), HK4⟩
    case round =>
      clear HG4 HR4 HW4 HK4 S0
      obtain ⟨k, hk, rfl, z1, z2, z3, z4, z5⟩ := hrel
      have cr : wr.cell? ⟨g, o, none⟩ = some (.slice (some ⟨G, 0, none⟩) n n) := by
        rw [Joins.cell_of_block z3.out]
        have := (Array.getElem?_eq_some_iff.1 HO.out).1
        simp [this]
      by_cases hlt : k < n
      · have KE := Lib.hid (rtext R G k s (Z k).2.1 (rowV valS (.string ⟨#[]⟩) (Z k).1 n) 9 wr HS.out z2.out (by have := HGw.out; omega) z4.out (by rw [rowV_size _ _ _ _ (by rw [SL.out]; omega)]; exact hlt))
        have HSZ : Hid (Z (k + 1) = ((Z k).1 ++ [(strAt s.data.toList (Z k).2.1).1], (strAt s.data.toList (Z k).2.1).2)) := Lib.hid (by
          rw [S1.out k, pair_eta z1.out, rdS_at])
        have HSC : Hid ((strAt s.data.toList (Z k).2.1).2.2 ≠ 0 → (Z n).2 = (strAt s.data.toList (Z k).2.1).2) := Lib.hid (fun h => by
          have h2 := SC.out k hlt
          rw [pair_eta z1.out, rdS_at] at h2
          exact h2 h)
        generalize strAt s.data.toList (Z k).2.1 = r at *
        obtain ⟨x, a3, e3⟩ := r
        have hltn : (k : Int) < n := by omega
        go_wp2_with fail
        refine KE.out.mono ?_
        rintro e w3 (⟨h0, rfl, h1, h2, h3⟩ | ⟨h0, rfl, hk3⟩)
        · have q1 : Hid ((Z (k + 1)).2.2 = 0) := Lib.hid (by rw [HSZ.out]; exact h0)
          have q2 : Hid (Rd5 w3 R s (Z (k + 1)).2.1) := Lib.hid (by rw [HSZ.out]; exact h1)
          have q4 : Hid (w3.heap[G]? = some (.cells (rowV valS (.string ⟨#[]⟩) (Z (k + 1)).1 n) 9 (0, 0))) := Lib.hid (by
            have h4 := rowV_set valS (.string ⟨#[]⟩) (Z k).1 n x (by rw [SL.out]; exact hlt)
            rw [SL.out] at h4
            rw [HSZ.out]
            rw [← h4]
            exact h2)
          have q3 := Lib.hid (h3.heap z3.out (by rintro (q | q); exact hne q; have := HGw.out; omega))
          have q5 : Hid (Kp (RG R g) w w3) := Lib.hid ⟨h3.os.trans z5.out.os, h3.tape.trans z5.out.tape, h3.output.trans z5.out.output, Nat.le_trans z5.out.size h3.size, fun j hj hs => by
            refine (h3.block j (Nat.lt_of_lt_of_le hj z5.out.size) (fun q => ?_)).trans (z5.out.block j hj hs)
            rcases q with q | q
            · exact hs (.inl q)
            · have := HGw.out; omega, (z5.out.keptT h3)⟩
          clear h0 h1 h2 h3 z1 z2 z3 z4 z5 cr KE HSZ HSC
          go_wp2_with fail
          go_roundw
          case rel => exact ⟨k + 1, by omega, by go_num, q1, q2, q3, q4, q5⟩
          case measure => simp [intOf]; omega
        · have q1 : Hid ((Z n).2 = (a3, e3)) := Lib.hid (HSC.out h0)
          have q2 := Lib.hid h0
          have q5 : Hid (Kp (RG R g) w w3) := Lib.hid ⟨hk3.os.trans z5.out.os, hk3.tape.trans z5.out.tape, hk3.output.trans z5.out.output, Nat.le_trans z5.out.size hk3.size, fun j hj hs => by
            refine (hk3.block j (Nat.lt_of_lt_of_le hj z5.out.size) (fun q => ?_)).trans (z5.out.block j hj hs)
            rcases q with q | q
            · exact hs (.inl q)
            · have := HGw.out; omega, (z5.out.keptT hk3)⟩
          clear h0 hk3 z1 z2 z3 z4 z5 cr KE HSZ HSC
          exact ⟨rfl, .inr ⟨by rw [q1.out]; exact q2.out, by rw [q1.out]; rfl, q5.out⟩⟩
      · obtain rfl : n = k := by omega
        have how : Hid (wr.ownsRow w.heap.size 9 1 (.slice (some ⟨G, 0, none⟩) (Z n).1.length n) (Z n).1.length ((Z n).1.map valS)) := Lib.hid (by
          have hl := SL.out n
          refine ⟨by simp, .inr ⟨G, n, _, rfl, HGw.out, z4.out, by omega, by unfold maxLen; omega, by rw [rowV_size _ _ _ _ (by omega)]; omega, ?_⟩⟩
          rw [rowV_full _ _ _ _ hl, List.take_of_length_le (by simp)])
        have hg5 : Hid (wr.heap[g]? = some (.cells (cs.setIfInBounds o (.slice (some ⟨G, 0, none⟩) (Z n).1.length n)) t (0, 0))) := Lib.hid (by rw [SL.out n]; exact z3.out)
        clear z3 z4 cr
        go_wp2
        go_end0
        exact .inl ⟨z1.out, rfl, z2.out, ⟨_, _, hg5.out, how.out⟩, z5.out⟩
  · exact absurd rfl h0
set_option maxHeartbeats 2000000 in
/-- A list, read. -/
theorem rlistS (R g o : Nat) (s : ByteArray) (p : Int) (cs : Array Value) (t : TypeId) (most : Int) (w : World) (hs : s.size ≤ maxLen) (h : Rd5 w R s p) (hne : g ≠ R) (hg : w.heap[g]? = some (.cells cs t (0, 0))) (ho : cs[o]? = some (.slice none 0 0)) (hm0 : 0 ≤ most) (hm : most ≤ 1000) :
    Calls Tryz.prog 98 #[cvR R, .pointer (some ⟨g, o, none⟩), .int .i64 most, .func (.methodOf 79 "copydesk/fact.text") #[] #[]] w
      (RdOut R (RG R g) s (rdLE 50 s.data.toList most (rdS s.data.toList) (p, 0)).2 (LsAt valS 9 g o cs t w.heap.size (rdLE 50 s.data.toList most (rdS s.data.toList) (p, 0)).1) w) := by
  by_cases h1 : (intAt s.data.toList p).2.2 = 0
  · cases h2 : inB (intAt s.data.toList p).1 0 most
    · refine (rlistS_bad R g o s p cs t most w hs h hne hg ho 50 (.inr ⟨h1, h2, rfl⟩)).mono (fun e w' hr => ?_)
      rw [RdOut, rdLE_bad h1 h2]
      exact .inr ⟨by simp, hr.1, hr.2⟩
    · have h3 := h2
      simp only [inB, decide_eq_true_eq] at h3
      obtain ⟨n, hn⟩ : ∃ n : Nat, (intAt s.data.toList p).1 = n := ⟨_, (Int.toNat_of_nonneg h3.1).symm⟩
      have he : intAt s.data.toList p = ((n : Int), (intAt s.data.toList p).2.1, 0) := by rw [← hn, ← h1]
      rw [hn] at h2 h3
      rw [rdLE_some he h2]
      by_cases h0 : n = 0
      · subst h0
        refine (rlistS_zero R g o s p cs t most _ w hs h hne hg ho he hm0).mono (fun e w' hr => .inl ⟨rfl, hr.1, hr.2.1, ⟨none, 0, ?_, ?_⟩, hr.2.2.2⟩)
        · show w'.heap[g]? = some (.cells (cs.setIfInBounds o (.slice none 0 0)) t (0, 0))
          rw [setZero ho]; exact hr.2.2.1
        · exact World.ownsRow_nil _ _ _ _
      · exact rlistS_pos R g o s p cs t most _ n w hs h hne hg ho he (by omega) h3.2 hm
  · refine (rlistS_bad R g o s p cs t most w hs h hne hg ho _ (.inl ⟨rfl, h1⟩)).mono (fun e w' hr => ?_)
    rw [RdOut, rdLE_err h1]
    exact .inr ⟨h1, hr.1, hr.2⟩
end Go.Proofs.YtlhcckjfgpcohaaGreatDoor
namespace Go.Proofs.YtlhcckjfgpcohaaGreatDoor
open Go.RowKit
set_option maxRecDepth 100000
set_option linter.unusedSimpArgs false
set_option linter.unusedVariables false
theorem Kp.own {S : Nat → Prop} {a w : World} {base : Nat} {e : TypeId} {size : Nat} {v : Value} {n : Nat} {xs : List Value} (h : Kp S a w) (hs : ∀ k, S k → k < base) (ho : a.ownsRow base e size v n xs) : w.ownsRow base e size v n xs := by
  refine ⟨ho.1, ho.2.imp id ?_⟩
  rintro ⟨g, cap, cur, h1, h2, h3, h4⟩
  exact ⟨g, cap, cur, h1, h2, h.heap h3 (fun q => by have := hs g q; omega), h4⟩
set_option maxHeartbeats 2000000 in
theorem rtopics (R g o : Nat) (s : ByteArray) (p : Int) (cs : Array Value) (t : TypeId) (w : World) (hs : s.size ≤ maxLen) (h : Rd5 w R s p) (hne : g ≠ R) (hg : w.heap[g]? = some (.cells cs t (0, 0))) (ho : cs[o]? = some (.slice none 0 0)) :
    Calls Tryz.prog 82 #[cvR R, .pointer (some ⟨g, o, none⟩)] w (RdOut R (RG R g) s (rdLE 50 s.data.toList 4 (rdS s.data.toList) (p, 0)).2 (LsAt valS 9 g o cs t w.heap.size (rdLE 50 s.data.toList 4 (rdS s.data.toList) (p, 0)).1) w) := by
  have K := Lib.hid (rlistS R g o s p cs t 4 w hs h hne hg ho (by omega) (by omega))
  generalize rdLE 50 s.data.toList 4 (rdS s.data.toList) (p, 0) = r at *
  clear h hg ho hs
  unfold cvR at *
  go_enter Tryz.func82, Tryz.ntmps82
  go_wp2_with fail
  refine K.out.mono ?_
  rintro e w1 (⟨h0, rfl, h1, h2, h3⟩ | ⟨h0, rfl, hk⟩)
  · have H0 := Lib.hid h0
    have H1 := Lib.hid h1
    have H2 := Lib.hid h2
    have H3 := Lib.hid h3
    clear h0 h1 h2 h3 K
    go_wp2
    go_end0
    exact .inl ⟨H0.out, rfl, H1.out, H2.out, H3.out⟩
  · have H0 := Lib.hid h0
    have HK := Lib.hid hk
    clear h0 hk K
    exact ⟨rfl, .inr ⟨H0.out, rfl, HK.out⟩⟩
/-- The label that a variable got. -/
def LbAt (g o : Nat) (cs : Array Value) (t : TypeId) (base : Nat) (l : Lab) (w' : World) : Prop :=
  ∃ a c, w'.heap[g]? = some (.cells ((((cs.setIfInBounds o (.int .i64 l.u)).setIfInBounds (o + 1) (.slice a l.af.length c)).setIfInBounds (o + 2) (.int .i64 l.ap)).setIfInBounds (o + 3) (.int .i64 l.d)) t (0, 0)) ∧ w'.ownsRow base 3 1 (.slice a l.af.length c) l.af.length (l.af.map valI)
set_option maxHeartbeats 4000000 in
theorem rlabel (R g o : Nat) (s : ByteArray) (p : Int) (cs : Array Value) (t : TypeId) (w : World) (hs : s.size ≤ maxLen) (h : Rd5 w R s p) (hne : g ≠ R) (hg : w.heap[g]? = some (.cells cs t (0, 0))) (ho3 : o + 3 < cs.size) (ho : cs[o + 1]? = some (.slice none 0 0)) :
    Calls Tryz.prog 40 #[cvR R, .pointer (some ⟨g, o, none⟩)] w (RdOut R (RG R g) s (rdA s.data.toList (p, 0)).2 (LbAt g o cs t w.heap.size (rdA s.data.toList (p, 0)).1) w) := by
  have H : Hid (Rd5 w.drew R s p ∧ w.drew.heap[g]? = some (.cells cs t (0, 0))) := Lib.hid ⟨h, hg⟩
  have HS := Lib.hid hs
  have HO := Lib.hid ho
  have HGW := Lib.hid (And.intro (Array.getElem?_eq_some_iff.1 hg).1 (Array.getElem?_eq_some_iff.1 h).1)
  have HO3 := Lib.hid ho3
  have hm1 := fun w => mR_number ⟨R, 0, none⟩ w
  have ha1 := fun w => aR_number ⟨R, 0, none⟩ w
  clear h hg hs ho
  unfold cvR
  go_enter Tryz.func40, Tryz.ntmps40
  go_wp2_with fail
  refine wp_region_held_drew (S := fun w' => 0 ≤ w'.heap.size) (by kernel_rfl) ?_ (fun h0 => ?_)
  · exact Nat.zero_le _
  refine wpAnyH_take (i := 0) (v := ?_) rfl (by kernel_rfl) (by kernel_rfl) (by kernel_rfl) (fun _ _ _ h => h) (Or.inl ⟨by rfl, ?_⟩) h0 ?_
  rotate_left
  · (intro w hSw; (try dsimp only at hSw); go_simp); all_goals (with_reducible rfl)
  try simp only [List.getElem_toArray, List.getElem_cons_succ, List.getElem_cons_zero, Act.put, List.setIfInBounds_toArray, List.set_cons_zero, List.set_cons_succ]
  refine wpAnyH_take (i := 1) (v := ?_) rfl (by kernel_rfl) (by kernel_rfl) (by kernel_rfl) (fun _ _ _ h => h) (Or.inl ⟨by rfl, ?_⟩) h0 ?_
  rotate_left
  · (intro w hSw; (try dsimp only at hSw); go_simp); all_goals (with_reducible rfl)
  try simp only [List.getElem_toArray, List.getElem_cons_succ, List.getElem_cons_zero, Act.put, List.setIfInBounds_toArray, List.set_cons_zero, List.set_cons_succ]
  refine wpAnyH_take (i := 2) (v := ?_) rfl (by kernel_rfl) (by kernel_rfl) (by kernel_rfl) (fun _ _ _ h => h) (Or.inl ⟨by rfl, ?_⟩) h0 ?_
  rotate_left
  · (intro w hSw; (try dsimp only at hSw); go_simp); all_goals (with_reducible rfl)
  try simp only [List.getElem_toArray, List.getElem_cons_succ, List.getElem_cons_zero, Act.put, List.setIfInBounds_toArray, List.set_cons_zero, List.set_cons_succ]
  refine wpAnyH_take (i := 3) (v := ?_) rfl (by kernel_rfl) (by kernel_rfl) (by kernel_rfl) (fun _ _ _ h => h) (Or.inl ⟨by rfl, ?_⟩) h0 ?_
  rotate_left
  · (intro w hSw; (try dsimp only at hSw); go_simp); all_goals (with_reducible rfl)
  try simp only [List.getElem_toArray, List.getElem_cons_succ, List.getElem_cons_zero, Act.put, List.setIfInBounds_toArray, List.set_cons_zero, List.set_cons_succ]
  refine wpAnyH_take (i := 4) (v := ?_) rfl (by kernel_rfl) (by kernel_rfl) (by kernel_rfl) (fun _ _ _ h => h) (Or.inl ⟨by rfl, ?_⟩) h0 ?_
  rotate_left
  · (intro w hSw; (try dsimp only at hSw); go_simp); all_goals (with_reducible rfl)
  try simp only [List.getElem_toArray, List.getElem_cons_succ, List.getElem_cons_zero, Act.put, List.setIfInBounds_toArray, List.set_cons_zero, List.set_cons_succ]
  refine wpAnyH_take (i := 5) (v := ?_) rfl (by kernel_rfl) (by kernel_rfl) (by kernel_rfl) (fun _ _ _ h => h) (Or.inl ⟨by rfl, ?_⟩) h0 ?_
  rotate_left
  · (intro w hSw; (try dsimp only at hSw); go_simp); all_goals (with_reducible rfl)
  try simp only [List.getElem_toArray, List.getElem_cons_succ, List.getElem_cons_zero, Act.put, List.setIfInBounds_toArray, List.set_cons_zero, List.set_cons_succ]
  refine wpAnyH_take (i := 6) (v := ?_) rfl (by kernel_rfl) (by kernel_rfl) (by kernel_rfl) (fun _ _ _ h => h) (Or.inl ⟨by rfl, ?_⟩) h0 ?_
  rotate_left
  · (intro w hSw; (try dsimp only at hSw); go_simp); all_goals (with_reducible rfl)
  try simp only [List.getElem_toArray, List.getElem_cons_succ, List.getElem_cons_zero, Act.put, List.setIfInBounds_toArray, List.set_cons_zero, List.set_cons_succ]
  refine wpAnyH_ready (rs := [7]) (by kernel_rfl) (by simp) ?_
  refine AllReadyH.cons rfl (fun K hK => ?_) AllReadyH.nil
  go_simp
  refine (rnumber R g o s p cs t w.drew HS.out H.out.1 hne H.out.2 (by omega)).mono ?_
  rintro e w1 (⟨h1, rfl, h2, h3, h4⟩ | ⟨h1, rfl, hk⟩)
  rotate_left
  · have H0 := Lib.hid h1
    have HK := Lib.hid (show Kp (RG R g) w w1 from (Kp.of_below (below_drew w)).trans hk)
    clear h1 hk
    exact ⟨rfl, .inr (by rw [rdA_1 H0.out]; exact ⟨H0.out, rfl, HK.out⟩)⟩
  obtain ⟨u, a1, e1, HA1⟩ : ∃ u a1 e1, Hid (intAt s.data.toList p = (u, a1, e1)) := ⟨_, _, _, Lib.hid rfl⟩
  rw [HA1.out] at h1 h2 h3
  obtain rfl : e1 = 0 := h1
  have R1 := Lib.hid h2
  have G1 := Lib.hid h3
  have K1 := Lib.hid (show Kp (RG R g) w w1 from (Kp.of_below (below_drew w)).trans h4)
  clear h2 h3 h4 H
  go_wp2_with fail
  have bS := Nat.zero_le w1.heap.size
  refine hK.out _ _ ?_ (fun h1 => ?_)
  · exact bS
  clear hK K h0 bS
  try simp only [List.getElem_toArray, List.getElem_cons_succ, List.getElem_cons_zero, Act.put, List.setIfInBounds_toArray, List.set_cons_zero, List.set_cons_succ]
  refine wpAnyH_done (by kernel_rfl) ?_ _
  clear h1
  go_wp2_with fail
  refine (show Calls _ _ #[.iface 70 (.pointer (some ⟨R, 0, none⟩)), _, _, _] _ _ from rlistI R g (o + 1) s a1 (cs.setIfInBounds o (.int .i64 u)) t 64 w1 HS.out R1.out hne G1.out (by rw [Array.getElem?_setIfInBounds]; rw [if_neg (by omega)]; exact HO.out) (by omega) (by omega)).mono ?_
  rintro e w2 (⟨h1, rfl, h2, h3, h4⟩ | ⟨h1, rfl, hk⟩)
  rotate_left
  · have H0 := Lib.hid h1
    have HK := Lib.hid (K1.out.trans hk)
    clear h1 hk
    exact ⟨rfl, .inr (by rw [rdA_2 HA1.out H0.out]; exact ⟨H0.out, rfl, HK.out⟩)⟩
  obtain ⟨af, b1, e1, HA2⟩ : ∃ af b1 e1, Hid (rdLE 50 s.data.toList 64 (rdI s.data.toList) (a1, 0) = (af, b1, e1)) := ⟨_, _, _, Lib.hid rfl⟩
  rw [HA2.out] at h1 h2 h3
  obtain rfl : e1 = 0 := h1
  obtain ⟨ra, rc, h3, how⟩ := h3
  have R2 := Lib.hid h2
  have G2 := Lib.hid h3
  have O2 := Lib.hid (own_mono how K1.out.size)
  have K2 := Lib.hid (K1.out.trans h4)
  have HA2' : Hid ((rdLE 50 s.data.toList 64 (rdI s.data.toList) (a1, 0)).2 = (b1, 0)) := Lib.hid (by rw [HA2.out])
  have HA2'' : Hid ((rdLE 50 s.data.toList 64 (rdI s.data.toList) (a1, 0)).1 = af) := Lib.hid (by rw [HA2.out])
  clear h2 h3 h4 how K1 R1 G1 HA2 HO
  simp only at G2 O2
  go_wp2_with fail
  refine wp_region_held_drew (S := fun w' => 0 ≤ w'.heap.size) (by kernel_rfl) ?_ (fun h0 => ?_)
  · exact Nat.zero_le _
  refine wpAnyH_take (i := 0) (v := ?_) rfl (by kernel_rfl) (by kernel_rfl) (by kernel_rfl) (fun _ _ _ h => h) (Or.inl ⟨by rfl, ?_⟩) h0 ?_
  rotate_left
  · (intro w hSw; (try dsimp only at hSw); go_simp); all_goals (with_reducible rfl)
  try simp only [List.getElem_toArray, List.getElem_cons_succ, List.getElem_cons_zero, Act.put, List.setIfInBounds_toArray, List.set_cons_zero, List.set_cons_succ]
  refine wpAnyH_take (i := 1) (v := ?_) rfl (by kernel_rfl) (by kernel_rfl) (by kernel_rfl) (fun _ _ _ h => h) (Or.inl ⟨by rfl, ?_⟩) h0 ?_
  rotate_left
  · (intro w hSw; (try dsimp only at hSw); go_simp); all_goals (with_reducible rfl)
  try simp only [List.getElem_toArray, List.getElem_cons_succ, List.getElem_cons_zero, Act.put, List.setIfInBounds_toArray, List.set_cons_zero, List.set_cons_succ]
  refine wpAnyH_take (i := 2) (v := ?_) rfl (by kernel_rfl) (by kernel_rfl) (by kernel_rfl) (fun _ _ _ h => h) (Or.inl ⟨by rfl, ?_⟩) h0 ?_
  rotate_left
  · (intro w hSw; (try dsimp only at hSw); go_simp); all_goals (with_reducible rfl)
  try simp only [List.getElem_toArray, List.getElem_cons_succ, List.getElem_cons_zero, Act.put, List.setIfInBounds_toArray, List.set_cons_zero, List.set_cons_succ]
  refine wpAnyH_take (i := 3) (v := ?_) rfl (by kernel_rfl) (by kernel_rfl) (by kernel_rfl) (fun _ _ _ h => h) (Or.inl ⟨by rfl, ?_⟩) h0 ?_
  rotate_left
  · (intro w hSw; (try dsimp only at hSw); go_simp); all_goals (with_reducible rfl)
  try simp only [List.getElem_toArray, List.getElem_cons_succ, List.getElem_cons_zero, Act.put, List.setIfInBounds_toArray, List.set_cons_zero, List.set_cons_succ]
  refine wpAnyH_take (i := 4) (v := ?_) rfl (by kernel_rfl) (by kernel_rfl) (by kernel_rfl) (fun _ _ _ h => h) (Or.inl ⟨by rfl, ?_⟩) h0 ?_
  rotate_left
  · (intro w hSw; (try dsimp only at hSw); go_simp); all_goals (with_reducible rfl)
  try simp only [List.getElem_toArray, List.getElem_cons_succ, List.getElem_cons_zero, Act.put, List.setIfInBounds_toArray, List.set_cons_zero, List.set_cons_succ]
  refine wpAnyH_take (i := 5) (v := ?_) rfl (by kernel_rfl) (by kernel_rfl) (by kernel_rfl) (fun _ _ _ h => h) (Or.inl ⟨by rfl, ?_⟩) h0 ?_
  rotate_left
  · (intro w hSw; (try dsimp only at hSw); go_simp); all_goals (with_reducible rfl)
  try simp only [List.getElem_toArray, List.getElem_cons_succ, List.getElem_cons_zero, Act.put, List.setIfInBounds_toArray, List.set_cons_zero, List.set_cons_succ]
  refine wpAnyH_take (i := 6) (v := ?_) rfl (by kernel_rfl) (by kernel_rfl) (by kernel_rfl) (fun _ _ _ h => h) (Or.inl ⟨by rfl, ?_⟩) h0 ?_
  rotate_left
  · (intro w hSw; (try dsimp only at hSw); go_simp); all_goals (with_reducible rfl)
  try simp only [List.getElem_toArray, List.getElem_cons_succ, List.getElem_cons_zero, Act.put, List.setIfInBounds_toArray, List.set_cons_zero, List.set_cons_succ]
  refine wpAnyH_ready (rs := [7]) (by kernel_rfl) (by simp) ?_
  refine AllReadyH.cons rfl (fun K hK => ?_) AllReadyH.nil
  go_simp
  refine (rnumber R g (o + 2) s b1 _ t w2.drew HS.out (show Rd5 w2.drew R s b1 from R2.out) hne (show w2.drew.heap[g]? = _ from G2.out) (by simp; have := HO3.out; omega)).mono ?_
  rintro e w3 (⟨h1, rfl, h2, h3, h4⟩ | ⟨h1, rfl, hk⟩)
  rotate_left
  · have H0 := Lib.hid h1
    have HK := Lib.hid (K2.out.trans ((Kp.of_below (below_drew w2)).trans hk))
    clear h1 hk
    exact ⟨rfl, .inr (by rw [rdA_3 HA1.out HA2'.out H0.out]; exact ⟨H0.out, rfl, HK.out⟩)⟩
  obtain ⟨v, c1, e1, HA3⟩ : ∃ v c1 e1, Hid (intAt s.data.toList b1 = (v, c1, e1)) := ⟨_, _, _, Lib.hid rfl⟩
  rw [HA3.out] at h1 h2 h3
  obtain rfl : e1 = 0 := h1
  have h4' := (Kp.of_below (S := RG R g) (below_drew w2)).trans h4
  have R3 := Lib.hid h2
  have G3 := Lib.hid h3
  have O3 := Lib.hid (h4'.own (by have := HGW.out; rintro k (rfl | rfl) <;> omega) O2.out)
  have K3 := Lib.hid (K2.out.trans h4')
  clear h2 h3 h4 h4' K2 R2 G2 O2
  simp only at G3
  go_wp2_with fail
  have bS := Nat.zero_le w3.heap.size
  refine hK.out _ _ ?_ (fun h1 => ?_)
  · exact bS
  clear hK K h0 bS
  try simp only [List.getElem_toArray, List.getElem_cons_succ, List.getElem_cons_zero, Act.put, List.setIfInBounds_toArray, List.set_cons_zero, List.set_cons_succ]
  refine wpAnyH_done (by kernel_rfl) ?_ _
  clear h1
  go_wp2_with fail
  refine wp_region_held_drew (S := fun w' => 0 ≤ w'.heap.size) (by kernel_rfl) ?_ (fun h0 => ?_)
  · exact Nat.zero_le _
  refine wpAnyH_take (i := 0) (v := ?_) rfl (by kernel_rfl) (by kernel_rfl) (by kernel_rfl) (fun _ _ _ h => h) (Or.inl ⟨by rfl, ?_⟩) h0 ?_
  rotate_left
  · (intro w hSw; (try dsimp only at hSw); go_simp); all_goals (with_reducible rfl)
  try simp only [List.getElem_toArray, List.getElem_cons_succ, List.getElem_cons_zero, Act.put, List.setIfInBounds_toArray, List.set_cons_zero, List.set_cons_succ]
  refine wpAnyH_take (i := 1) (v := ?_) rfl (by kernel_rfl) (by kernel_rfl) (by kernel_rfl) (fun _ _ _ h => h) (Or.inl ⟨by rfl, ?_⟩) h0 ?_
  rotate_left
  · (intro w hSw; (try dsimp only at hSw); go_simp); all_goals (with_reducible rfl)
  try simp only [List.getElem_toArray, List.getElem_cons_succ, List.getElem_cons_zero, Act.put, List.setIfInBounds_toArray, List.set_cons_zero, List.set_cons_succ]
  refine wpAnyH_take (i := 2) (v := ?_) rfl (by kernel_rfl) (by kernel_rfl) (by kernel_rfl) (fun _ _ _ h => h) (Or.inl ⟨by rfl, ?_⟩) h0 ?_
  rotate_left
  · (intro w hSw; (try dsimp only at hSw); go_simp); all_goals (with_reducible rfl)
  try simp only [List.getElem_toArray, List.getElem_cons_succ, List.getElem_cons_zero, Act.put, List.setIfInBounds_toArray, List.set_cons_zero, List.set_cons_succ]
  refine wpAnyH_take (i := 3) (v := ?_) rfl (by kernel_rfl) (by kernel_rfl) (by kernel_rfl) (fun _ _ _ h => h) (Or.inl ⟨by rfl, ?_⟩) h0 ?_
  rotate_left
  · (intro w hSw; (try dsimp only at hSw); go_simp); all_goals (with_reducible rfl)
  try simp only [List.getElem_toArray, List.getElem_cons_succ, List.getElem_cons_zero, Act.put, List.setIfInBounds_toArray, List.set_cons_zero, List.set_cons_succ]
  refine wpAnyH_take (i := 4) (v := ?_) rfl (by kernel_rfl) (by kernel_rfl) (by kernel_rfl) (fun _ _ _ h => h) (Or.inl ⟨by rfl, ?_⟩) h0 ?_
  rotate_left
  · (intro w hSw; (try dsimp only at hSw); go_simp); all_goals (with_reducible rfl)
  try simp only [List.getElem_toArray, List.getElem_cons_succ, List.getElem_cons_zero, Act.put, List.setIfInBounds_toArray, List.set_cons_zero, List.set_cons_succ]
  refine wpAnyH_take (i := 5) (v := ?_) rfl (by kernel_rfl) (by kernel_rfl) (by kernel_rfl) (fun _ _ _ h => h) (Or.inl ⟨by rfl, ?_⟩) h0 ?_
  rotate_left
  · (intro w hSw; (try dsimp only at hSw); go_simp); all_goals (with_reducible rfl)
  try simp only [List.getElem_toArray, List.getElem_cons_succ, List.getElem_cons_zero, Act.put, List.setIfInBounds_toArray, List.set_cons_zero, List.set_cons_succ]
  refine wpAnyH_take (i := 6) (v := ?_) rfl (by kernel_rfl) (by kernel_rfl) (by kernel_rfl) (fun _ _ _ h => h) (Or.inl ⟨by rfl, ?_⟩) h0 ?_
  rotate_left
  · (intro w hSw; (try dsimp only at hSw); go_simp); all_goals (with_reducible rfl)
  try simp only [List.getElem_toArray, List.getElem_cons_succ, List.getElem_cons_zero, Act.put, List.setIfInBounds_toArray, List.set_cons_zero, List.set_cons_succ]
  refine wpAnyH_ready (rs := [7]) (by kernel_rfl) (by simp) ?_
  refine AllReadyH.cons rfl (fun K hK => ?_) AllReadyH.nil
  go_simp
  refine (rnumber R g (o + 3) s c1 _ t w3.drew HS.out (show Rd5 w3.drew R s c1 from R3.out) hne (show w3.drew.heap[g]? = _ from G3.out) (by simp; exact HO3.out)).mono ?_
  rintro e w4 (⟨h1, rfl, h2, h3, h4⟩ | ⟨h1, rfl, hk⟩)
  rotate_left
  · have H0 := Lib.hid h1
    have HK := Lib.hid (K3.out.trans ((Kp.of_below (below_drew w3)).trans hk))
    clear h1 hk
    exact ⟨rfl, .inr (by rw [rdA_4 HA1.out HA2'.out HA3.out]; exact ⟨H0.out, rfl, HK.out⟩)⟩
  have h4' := (Kp.of_below (S := RG R g) (below_drew w3)).trans h4
  have E4 := Lib.hid h1
  have R4 := Lib.hid h2
  have G4 := Lib.hid h3
  have O4 := Lib.hid (h4'.own (by have := HGW.out; rintro k (rfl | rfl) <;> omega) O3.out)
  have K4 := Lib.hid (K3.out.trans h4')
  clear h1 h2 h3 h4 h4' K3 R3 G3 O3
  go_wp2_with fail
  have bS := Nat.zero_le w4.heap.size
  refine hK.out _ _ ?_ (fun h1 => ?_)
  · exact bS
  clear hK K h0 bS
  try simp only [List.getElem_toArray, List.getElem_cons_succ, List.getElem_cons_zero, Act.put, List.setIfInBounds_toArray, List.set_cons_zero, List.set_cons_succ]
  refine wpAnyH_done (by kernel_rfl) ?_ _
  clear h1
  have HF := Lib.hid (rdA_4 HA1.out HA2'.out HA3.out)
  rw [HF.out, HA2''.out]
  clear HF HA1 HA2' HA2'' HA3 HO3 HGW HS
  go_wp2
  go_end0
  exact .inl ⟨E4.out, rfl, R4.out, ⟨ra, rc, G4.out, O4.out⟩, K4.out⟩
end Go.Proofs.YtlhcckjfgpcohaaGreatDoor
