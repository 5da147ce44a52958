import Derived.Test.YtdhioalfgogcdaaGreatDoorBlkO
import Derived.Test.YtdhioalfgogcdaaGreatDoorBlkD1
import Derived.Maps.AppendAt
namespace Go.Proofs.YtdhioalfgogcdaaGreatDoor
open Go.RowKit Go.MapKept
set_option maxRecDepth 100000
set_option linter.unusedSimpArgs false
set_option linter.unusedVariables false
theorem intInfo : (Tryz.prog.info? 3).map (fun i => (i.zero, i.size, i.bytes)) = some (some (.int .i64 0), 1, 8) := by kernel_rfl
theorem own_keeps {R : Nat} {w w' : World} {base : Nat} {e : TypeId} {size : Nat} {v : Value} {n : Nat} {xs : List Value} (h : w.ownsRow base e size v n xs) (hR : R < base) (k : Keeps R w w') : w'.ownsRow base e size v n xs :=
  ⟨h.1, h.2.imp id (fun ⟨g, cap, cur, h1, h2, h3, h4⟩ => ⟨g, cap, cur, h1, h2, k.heap h3 (by omega), h4⟩)⟩
theorem own_later {R : Nat} {w w' : World} {base : Nat} {e : TypeId} {size : Nat} {v : Value} {n : Nat} {xs : List Value} (h : w.ownsRow base e size v n xs) (hR : ∀ g, v.ownBlock = some g → g ≠ R) (k : Keeps R w w') : w'.ownsRow base e size v n xs := by
  refine ⟨h.1, h.2.imp id ?_⟩
  rintro ⟨g, cap, cur, h1, h2, h3, h4⟩
  exact ⟨g, cap, cur, h1, h2, k.heap h3 (hR g (by rw [h1]; rfl)), h4⟩
theorem intAt_bd (s : List UInt8) (a : Int) : Bd (intAt s a).1 := by
  by_cases h : (intAt s a).2.2 = 0
  · have := (okInt_iff _).1 (intAt_ok s a h).2.2.1
    unfold Bd; omega
  · unfold intAt at h ⊢
    split
    · unfold Bd; omega
    · rename_i h1
      rw [if_neg h1] at h
      split
      · rename_i h2; rw [if_pos h2] at h; exact absurd rfl h
      · unfold Bd; omega
theorem rdI_bd (s : List UInt8) (σ : Int × Int) : Bd (rdI s σ).1 := by
  unfold rdI
  split
  · exact intAt_bd _ _
  · unfold Bd; omega
theorem rdNI_bd (s : List UInt8) : ∀ (n : Nat) (σ : Int × Int), ∀ z ∈ (rdN (rdI s) n σ).1, Bd z
  | 0, σ => by simp [rdN]
  | n + 1, σ => by
    intro z hz
    rw [rdN] at hz
    rcases List.mem_cons.1 hz with rfl | hz
    · exact rdI_bd _ _
    · exact rdNI_bd s n _ z hz
theorem rdLI_bd (s : List UInt8) (most : Int) (σ : Int × Int) : ∀ z ∈ (rdL s most (rdI s) σ).1, Bd z := by
  unfold rdL
  split
  · exact rdNI_bd _ _ _
  · simp
def LiGot (R : Nat) (s : ByteArray) (r : List Int × (Int × Int)) (w : World) (e : Ending) (w' : World) : Prop :=
  ∃ a c, e = .returned (.slice a r.1.length c) ∧ w'.ownsRow w.heap.size 3 1 (.slice a r.1.length c) r.1.length (r.1.map (Value.int .i64)) ∧ RdAt w' R s r.2 ∧ Keeps R w w'
set_option maxHeartbeats 4000000 in
theorem readLi_any (R : Nat) (s : ByteArray) (most : Int) (σ : Int × Int) (w : World) (hs : s.size ≤ maxLen) (hm : 0 ≤ most ∧ most ≤ 1000) (h : RdAt w R s σ) :
    Calls Tryz.prog 38 #[.pointer (some ⟨R, 0, none⟩), .int .i64 most, .func (.func 35) #[] #[]] w (LiGot R s (rdL s.data.toList most (rdI s.data.toList) σ) w) := by
  have hRw : R < w.heap.size := (Array.getElem?_eq_some_iff.1 h).1
  have K := Lib.hid (readI_any R s σ w hs h)
  have KW := Lib.hid (fun W => binside_any (rdI s.data.toList σ).1 0 most W)
  have HS := Lib.hid hs
  clear h hs
  cases hb : inB (rdI s.data.toList σ).1 0 most
  · have HR : Hid (rdL s.data.toList most (rdI s.data.toList) σ = ([], ((rdI s.data.toList σ).2.1, 30))) := Lib.hid (by unfold rdL; rw [if_neg (by simp [hb])])
    rw [hb] at KW
    clear hb
    rw [HR.out]
    clear HR
    generalize rdI s.data.toList σ = r at *
    obtain ⟨n, a, e⟩ := r
    go_enter Tryz.func38, Tryz.ntmps38
    go_wp2_with fail
    refine K.out.mono ?_
    rintro x w1 ⟨rfl, h1, k1⟩
    go_wp2_with fail
    refine (KW.out _).mono ?_
    rintro x w2 ⟨rfl, rfl⟩
    obtain ⟨d0, d1, d2⟩ := rd_cells h1
    have f2 := Joins.unfrozen_of_block h1 2
    have H3 := Lib.hid (show RdAt (w1.setCell ⟨R, 2, none⟩ (.int .i64 30)) R s (a, 30) from Joins.block_setCell h1 (.int .i64 30))
    have K3 := Lib.hid (k1.setCell 2 (.int .i64 30))
    clear h1 k1
    go_wp2
    go_ret
    exact ⟨none, 0, rfl, World.ownsRow_nil _ _ _ _, H3.out, K3.out⟩
  · have HR : Hid (rdL s.data.toList most (rdI s.data.toList) σ = rdN (rdI s.data.toList) (rdI s.data.toList σ).1.toNat (rdI s.data.toList σ).2) := Lib.hid (by unfold rdL; rw [if_pos hb])
    rw [hb] at KW
    simp only [inB, decide_eq_true_eq] at hb
    rw [HR.out]
    clear HR
    generalize rdI s.data.toList σ = r at *
    obtain ⟨n, σ1⟩ := r
    simp only at K KW hb ⊢
    obtain ⟨N, rfl⟩ := Int.eq_ofNat_of_zero_le hb.1
    simp only [Int.toNat_natCast]
    have hN : N ≤ 1000 := by omega
    clear hb
    obtain ⟨i0, hi, hz0, hz1, hz2⟩ := info_parts intInfo
    go_enter Tryz.func38, Tryz.ntmps38
    go_wp2_with fail
    refine K.out.mono ?_
    rintro x w1 ⟨rfl, h1, k1⟩
    go_wp2_with fail
    refine (KW.out _).mono ?_
    rintro x w2 ⟨rfl, rfl⟩
    have HD1 := Lib.hid h1
    have HK1 := Lib.hid k1
    clear h1 k1 K KW
    go_wp2_with fail
    go_loopw [19, 8] (fun i v wr => ∃ k : Nat, k ≤ N ∧ i = .int .i64 k ∧ Hid (wr.ownsRow w.heap.size 3 1 v k ((rdN (rdI s.data.toList) k σ1).1.map (Value.int .i64))) ∧ Hid (RdAt wr R s (rdN (rdI s.data.toList) k σ1).2) ∧ Hid (Keeps R w wr)) (fun i _ _ => N - (intOf i).toNat)
    case atStart => exact ⟨0, Nat.zero_le _, rfl, Lib.hid (World.ownsRow_nil _ _ _ _), HD1, HK1⟩
    case round =>
      obtain ⟨k, hk, rfl, hown, hd, hkp⟩ := hrel
      by_cases hlt : k < N
      · have HSN := Lib.hid (rdN_snoc (rdI s.data.toList) k σ1)
        have KI := Lib.hid (readInt_any R s (rdN (rdI s.data.toList) k σ1).2 wr HS.out hd.out)
        generalize rdI s.data.toList (rdN (rdI s.data.toList) k σ1).2 = q at *
        obtain ⟨z, σ2⟩ := q
        simp only at KI HSN
        obtain ⟨va, vc, rfl⟩ := own_slice hown.out
        have hltn : (k : Int) < N := by omega
        go_wp2_with fail
        refine KI.out.mono ?_
        rintro x w2 ⟨rfl, h2, k2⟩
        have OWN := Lib.hid (own_keeps hown.out hRw k2)
        have K2 := Lib.hid (hkp.out.trans k2)
        have D2 := Lib.hid h2
        clear h2 k2 hown hkp KI hd
        have hb0 : w.heap.size ≤ (w2.alloc (.cells #[.int .i64 z] 3)).heap.size := by have := K2.out.size; simp; omega
        go_wp2_with (at_builtin; refine wpList_append_own _ rfl (.tmp 21) (.tmp 25) 29 rfl w.heap.size 3 i0 (.int .i64 0) 1 8 Tryz.underlying29 hi hz0 hz1 hz2 rfl (by decide) _ k _ rfl (OWN.out.alloc _) ⟨w2.heap.size, 0, none⟩ 1 1 [.int .i64 z] rfl rfl (cell_one_new _ _ _) (by simp [Value.oneCell']) (by unfold maxLen; omega) (by omega) hb0 ?_; intro v' w3 hown1 hg _; obtain ⟨a', c', rfl⟩ := own_slice hown1)
        have hRr : ∀ q, Value.ownBlock (.slice va k vc) = some q → w.heap.size ≤ q := fun q hq => (OWN.out.lt _ hq).1
        have D3 := Lib.hid (show RdAt w3 R s σ2 from (hg.block _ (by have := K2.out.size; simp; omega) (fun e => by have := hRr _ e.symm; omega)).trans ((Below.heap_alloc _ _ _ (by have := K2.out.size; omega)).trans D2.out))
        have K3 := Lib.hid ((K2.out.alloc (.cells #[.int .i64 z] 3)).grown hg hRr)
        have OWN3 := Lib.hid hown1
        clear hown1 hg hRr hb0 D2 K2 OWN
        go_wp2
        go_roundw
        case rel =>
          refine ⟨k + 1, by omega, by go_num, Lib.hid ?_, Lib.hid ?_, K3⟩
          · rw [HSN.out, List.map_append]; exact OWN3.out
          · rw [HSN.out]; exact D3.out
        case measure => simp [intOf]; omega
      · obtain rfl : k = N := by omega
        obtain ⟨va, vc, rfl⟩ := own_slice hown.out
        have hlen := rdN_len (rdI s.data.toList) k σ1
        go_wp2
        go_ret
        refine ⟨va, vc, by rw [hlen]; rfl, by rw [hlen]; exact hown.out, hd.out, hkp.out⟩
end Go.Proofs.YtdhioalfgogcdaaGreatDoor
