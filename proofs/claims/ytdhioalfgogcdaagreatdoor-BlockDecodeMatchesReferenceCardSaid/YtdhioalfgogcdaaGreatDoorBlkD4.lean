import Derived.Test.YtdhioalfgogcdaaGreatDoorBlkD3
import Derived.Maps.AppendAt
namespace Go.Proofs.YtdhioalfgogcdaaGreatDoor
open Go.RowKit Go.MapKept
set_option maxRecDepth 100000
set_option linter.unusedSimpArgs false
set_option linter.unusedVariables false
theorem readBlk_any (R : Nat) (s : ByteArray) (σ : Int × Int) (w : World) (hs : s.size ≤ maxLen) (h : RdAt w R s σ) :
    Calls Tryz.prog 14 #[.pointer (some ⟨R, 0, none⟩)] w (BlkGot R s (rdB s.data.toList σ) w) := by
  have hRw : R < w.heap.size := (Array.getElem?_eq_some_iff.1 h).1
  exact readBlk_walk R s w hRw _ _ _ _ _ _ _ _ _ σ _ _ _ _ _ _ _ _ _ h
    (Lib.hid fun W hW => readInt_any R s _ W hs hW) (Lib.hid fun W hW => readInt_any R s _ W hs hW) (Lib.hid fun W hW => readS_any R s _ W hs hW)
    (Lib.hid fun W hW => readInt_any R s _ W hs hW) (Lib.hid fun W hW => readInt_any R s _ W hs hW) (Lib.hid fun W hW => readInt_any R s _ W hs hW)
    (Lib.hid fun W hW => readLi_any R s 64 _ W hs (by decide) hW) (Lib.hid fun W hW => readInt_any R s _ W hs hW) (Lib.hid fun W hW => readInt_any R s _ W hs hW)
theorem strAt_len (s : List UInt8) (a : Int) : (strAt s a).1.length ≤ 65536 := by
  unfold strAt
  simp only
  split
  · split
    · simp
    · rename_i h
      simp only [List.length_take]
      omega
  · simp
theorem rdS_len (s : List UInt8) (σ : Int × Int) : (rdS s σ).1.length ≤ 65536 := by
  unfold rdS
  split
  · exact strAt_len _ _
  · simp
/-- The numbers of a block are machine integers. -/
theorem rdB_bd (s : List UInt8) (σ : Int × Int) : BlkBd (rdB s σ).1 :=
  ⟨rdI_bd _ _, rdI_bd _ _, rdI_bd _ _, rdI_bd _ _, rdI_bd _ _, rdI_bd _ _, rdI_bd _ _, rdS_len _ _, rdLI_bd _ _ _⟩
def BsGot (R : Nat) (s : ByteArray) (r : List Blk × (Int × Int)) (w : World) (e : Ending) (w' : World) : Prop :=
  ∃ a c es, e = .returned (.slice a r.1.length c) ∧ blks es = r.1 ∧ IsBlks w' a r.1.length c es ∧ RdAt w' R s r.2 ∧ Keeps R w w'
set_option maxHeartbeats 4000000 in
theorem readBs_any (R : Nat) (s : ByteArray) (w : World) (σ : Int × Int) (hs : s.size ≤ maxLen) (h : RdAt w R s σ) :
    Calls Tryz.prog 13 #[.pointer (some ⟨R, 0, none⟩), .int .i64 24, .func (.func 14) #[] #[]] w (BsGot R s (rdL s.data.toList 24 (rdB s.data.toList) σ) w) := by
  have hRw : R < w.heap.size := (Array.getElem?_eq_some_iff.1 h).1
  have K := Lib.hid (readI_any R s σ w hs h)
  have KW := Lib.hid (fun W => binside_any (rdI s.data.toList σ).1 0 24 W)
  have HS := Lib.hid hs
  clear h hs
  cases hb : inB (rdI s.data.toList σ).1 0 24
  · have HR : Hid (rdL s.data.toList 24 (rdB s.data.toList) σ = ([], ((rdI s.data.toList σ).2.1, 30))) := Lib.hid (by unfold rdL; rw [if_neg (by simp [hb])])
    rw [hb] at KW
    clear hb
    rw [HR.out]
    clear HR
    generalize rdI s.data.toList σ = r at *
    obtain ⟨n, a, e⟩ := r
    go_enter Tryz.func13, Tryz.ntmps13
    go_wp2_with fail
    refine K.out.mono ?_
    rintro x w1 ⟨rfl, h1, k1⟩
    go_wp2_with fail
    refine (KW.out _).mono ?_
    rintro x w2 ⟨rfl, rfl⟩
    obtain ⟨d0, d1, d2⟩ := rd_cells h1
    have f2 := Joins.unfrozen_of_block h1 2
    have H3 := Lib.hid (show RdAt (w1.setCell ⟨R, 2, none⟩ (.int .i64 30)) R s (a, 30) from Joins.block_setCell h1 (.int .i64 30))
    have K3 := Lib.hid (k1.setCell 2 (.int .i64 30))
    clear h1 k1
    go_wp2
    go_ret
    exact ⟨none, 0, [], rfl, rfl, ⟨rfl, Nat.le_refl _, by unfold maxLen; omega, by simp, .inl rfl⟩, H3.out, K3.out⟩
  · have HR : Hid (rdL s.data.toList 24 (rdB s.data.toList) σ = rdN (rdB s.data.toList) (rdI s.data.toList σ).1.toNat (rdI s.data.toList σ).2) := Lib.hid (by unfold rdL; rw [if_pos hb])
    rw [hb] at KW
    simp only [inB, decide_eq_true_eq] at hb
    rw [HR.out]
    clear HR
    generalize rdI s.data.toList σ = r at *
    obtain ⟨n, σ1⟩ := r
    simp only at K KW hb ⊢
    obtain ⟨N, rfl⟩ := Int.eq_ofNat_of_zero_le hb.1
    simp only [Int.toNat_natCast]
    have hN : N ≤ 24 := by omega
    clear hb
    obtain ⟨i0, hi, hz0, hz1, hz2⟩ := info_parts blkInfo
    go_enter Tryz.func13, Tryz.ntmps13
    go_wp2_with fail
    refine K.out.mono ?_
    rintro x w1 ⟨rfl, h1, k1⟩
    go_wp2_with fail
    refine (KW.out _).mono ?_
    rintro x w2 ⟨rfl, rfl⟩
    have HD1 := Lib.hid h1
    have HK1 := Lib.hid k1
    clear h1 k1 K KW
    go_wp2_with fail
    go_loopw [19, 8] (fun i v wr => ∃ (k : Nat) (es : List BE), k ≤ N ∧ i = .int .i64 k ∧ Hid (blks es = (rdN (rdB s.data.toList) k σ1).1) ∧ Hid (wr.ownsRow w.heap.size 33 9 v k (es.flatMap elB)) ∧ Hid (∀ e ∈ es, BeIn w.heap.size wr e) ∧ Hid (RdAt wr R s (rdN (rdB s.data.toList) k σ1).2) ∧ Hid (Keeps R w wr)) (fun i _ _ => N - (intOf i).toNat)
    case atStart => exact ⟨0, [], Nat.zero_le _, rfl, Lib.hid rfl, Lib.hid (World.ownsRow_nil _ _ _ _), Lib.hid (by simp), HD1, HK1⟩
    case round =>
      obtain ⟨k, es, hk, rfl, hes, hown, hin, hd, hkp⟩ := hrel
      by_cases hlt : k < N
      · have HSN := Lib.hid (rdN_snoc (rdB s.data.toList) k σ1)
        have KI := Lib.hid (readBlk_any R s (rdN (rdB s.data.toList) k σ1).2 wr HS.out hd.out)
        have HBD := Lib.hid (rdB_bd s.data.toList (rdN (rdB s.data.toList) k σ1).2)
        generalize rdB s.data.toList (rdN (rdB s.data.toList) k σ1).2 = q at *
        obtain ⟨b, σ2⟩ := q
        simp only at KI HSN HBD
        obtain ⟨va, vc, rfl⟩ := own_slice hown.out
        have hltn : (k : Int) < N := by omega
        go_wp2_with fail
        refine KI.out.mono ?_
        rintro x w2 ⟨la, lc, rfl, ow, h2, k2⟩
        obtain ⟨e, he⟩ : ∃ e : BE, e = (b, la, b.lb.af.length, lc) := ⟨_, rfl⟩
        have hsz : w.heap.size ≤ wr.heap.size := hkp.out.size
        have NEW := Lib.hid (show BeIn w.heap.size w2 e by rw [he]; exact ⟨HBD.out, own_mono ow hsz⟩)
        have OLD : Hid (∀ e ∈ es, BeIn w.heap.size w2 e) := Lib.hid (fun e' h' => ⟨(hin.out e' h').1, own_keeps (hin.out e' h').2 hRw k2⟩)
        have OWN := Lib.hid (own_keeps hown.out hRw k2)
        have K2 := Lib.hid (hkp.out.trans k2)
        have D2 := Lib.hid h2
        have hbe : e.1 = b := by rw [he]
        have HBE := Lib.hid hbe
        have HEE := Lib.hid he
        obtain ⟨L, hL⟩ : ∃ L, L = b.lb.af.length := ⟨_, rfl⟩
        simp only [blkV]
        rw [← hL]
        rw [← hL] at HEE
        clear h2 k2 hown hkp KI hd hin ow he hbe HBD hsz hL
        have hb0 : w.heap.size ≤ (w2.alloc (.cells #[.int .i64 b.id, .int .i64 b.kd, .string ⟨b.tx.toArray⟩, .int .i64 b.st, .int .i64 b.rf, .int .i64 b.lb.u, .slice la L lc, .int .i64 b.lb.ap, .int .i64 b.lb.d] 33)).heap.size := by have := K2.out.size; simp; omega
        have hnews := Lib.hid (elB_news w2 (b, la, L, lc))
        go_wp2_with (at_builtin; refine wpList_append_own _ rfl (.tmp 21) (.tmp 25) 23 rfl w.heap.size 33 i0 _ 9 96 Tryz.underlying23 hi hz0 hz1 hz2 rfl (by decide) _ k _ rfl (OWN.out.alloc _) ⟨w2.heap.size, 0, none⟩ 1 1 (elB (b, la, L, lc)) rfl rfl hnews.out (elB_cell _) (by unfold maxLen; omega) (by omega) hb0 ?_; intro v' w3 hown1 hg _; obtain ⟨a', c', rfl⟩ := own_slice hown1)
        have hRr : ∀ q, Value.ownBlock (.slice va k vc) = some q → w.heap.size ≤ q := fun q hq => (OWN.out.lt _ hq).1
        have D3 := Lib.hid (show RdAt w3 R s σ2 from (hg.block _ (by have := K2.out.size; simp; omega) (fun e => by have := hRr _ e.symm; omega)).trans ((Below.heap_alloc _ _ _ (by have := K2.out.size; omega)).trans D2.out))
        have K3 := Lib.hid ((K2.out.alloc (.cells #[.int .i64 b.id, .int .i64 b.kd, .string ⟨b.tx.toArray⟩, .int .i64 b.st, .int .i64 b.rf, .int .i64 b.lb.u, .slice la L lc, .int .i64 b.lb.ap, .int .i64 b.lb.d] 33)).grown hg hRr)
        have IN3 : Hid (∀ e' ∈ es ++ [e], BeIn w.heap.size w3 e') := Lib.hid (fun e' h' => by
          have h2 : BeIn w.heap.size w2 e' := by
            rcases List.mem_append.1 h' with h' | h'
            · exact OLD.out e' h'
            · rw [List.mem_singleton] at h'; rw [h']; exact NEW.out
          exact ⟨h2.1, own_grown (h2.2.alloc _) (OWN.out.alloc _) (by decide) hg⟩)
        have OWN3 := Lib.hid hown1
        clear hown1 hg hRr hb0 D2 K2 OWN hnews NEW OLD
        go_wp2
        go_roundw
        case rel =>
          refine ⟨k + 1, es ++ [e], by omega, by go_num, Lib.hid ?_, Lib.hid ?_, IN3, Lib.hid ?_, K3⟩
          · rw [HSN.out, ← hes.out]; simp [blks, HBE.out]
          · have h9 := OWN3.out
            rw [HEE.out, List.flatMap_append]
            simpa using h9
          · rw [HSN.out]; exact D3.out
        case measure => simp [intOf]; omega
      · obtain rfl : k = N := by omega
        obtain ⟨va, vc, rfl⟩ := own_slice hown.out
        have hlen := rdN_len (rdB s.data.toList) k σ1
        have HI := Lib.hid (blks_of_own hown.out (fun e he => (hin.out e he).ok))
        go_wp2
        go_ret
        refine ⟨va, vc, es, by rw [hlen]; rfl, hes.out, by rw [hlen]; exact HI.out, hd.out, hkp.out⟩
end Go.Proofs.YtdhioalfgogcdaaGreatDoor
