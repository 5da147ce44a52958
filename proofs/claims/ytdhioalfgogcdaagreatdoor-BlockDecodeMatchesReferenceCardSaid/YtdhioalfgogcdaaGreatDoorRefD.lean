/- The reference's Decode: what it returns, for all strings. -/
import Derived.Test.YtdhioalfgogcdaaGreatDoorRefBlk
import Derived.Test.YtdhioalfgogcdaaGreatDoorRefVList
import Derived.Test.YtdhioalfgogcdaaGreatDoorRefSame
import Derived.Test.YtdhioalfgogcdaaGreatDoorBlkSane
namespace Go.Proofs.YtdhioalfgogcdaaGreatDoor
open Go.RowKit Go.MapKept
set_option maxRecDepth 100000
set_option linter.unusedSimpArgs false
set_option linter.unusedVariables false
theorem rfblk_any (R : Nat) (s : ByteArray) (σ : Int × Int) (w : World) (hs : s.size ≤ maxLen) (h : RfAt w R s σ) :
    Calls Tryz.prog 17 #[.pointer (some ⟨R, 0, none⟩)] w (RfBlk R s (rfB s.data.toList σ) w) := by
  have hRw : R < w.heap.size := (Array.getElem?_eq_some_iff.1 h).1
  have hc := fun τ => rfC_nat s.data.toList 64 (by decide) τ
  refine rfblk_walk R s w hs hRw _ _ _ _ _ (rfC s.data.toList 64 (rfI s.data.toList (rfI s.data.toList (rfI s.data.toList (rfS s.data.toList (rfI s.data.toList (rfI s.data.toList σ).2).2).2).2).2).2).1.toNat ?_ _ σ _ _ _ _ _ _ _ (rfB s.data.toList σ) h
    (Lib.hid fun W hW => rfnum_any R s _ W hs hW) (Lib.hid fun W hW => rfnum_any R s _ W hs hW) (Lib.hid fun W hW => rftxt_any R s _ W hs hW)
    (Lib.hid fun W hW => rfnum_any R s _ W hs hW) (Lib.hid fun W hW => rfnum_any R s _ W hs hW) (Lib.hid fun W hW => rfnum_any R s _ W hs hW)
    (Lib.hid fun W hW => ?_) (Lib.hid rfl)
  · have := hc (rfI s.data.toList (rfI s.data.toList (rfI s.data.toList (rfS s.data.toList (rfI s.data.toList (rfI s.data.toList σ).2).2).2).2).2).2
    omega
  · rw [Int.toNat_of_nonneg (hc _).1]
    exact rfcount_any R s 64 _ W hs hW
theorem rfS_len (s : List UInt8) (σ : Int × Int) : (rfS s σ).1.length ≤ 65536 := by
  unfold rfS
  split
  · simp
  · split
    · simp
    · exact strAt_len _ _
theorem rfB_bd (s : List UInt8) (σ : Int × Int) : BlkBd (rfB s σ).1 :=
  ⟨rfI_bd _ _, rfI_bd _ _, rfI_bd _ _, rfI_bd _ _, rfI_bd _ _, rfI_bd _ _, rfI_bd _ _, rfS_len _ _, rfNI_bd _ _ _⟩
set_option maxHeartbeats 8000000 in
theorem rfdecode_any (s : ByteArray) (w : World) (hs : s.size ≤ maxLen) : Calls Tryz.prog 6 #[.string s] w (DecGot (rfD s.data.toList) w) := by
  have D0 : RfAt (w.alloc (.cells #[.string s, .int .i64 0, .int .i64 0] 48)) w.heap.size s (0, 0) := heap_alloc_new w _
  have BA := Lib.hid (below_alloc w (.cells #[.string s, .int .i64 0, .int .i64 0] 48))
  have K := Lib.hid (rfcount_any w.heap.size s 24 (0, 0) (w.alloc (.cells #[.string s, .int .i64 0, .int .i64 0] 48)) hs D0)
  have hc := rfC_nat s.data.toList 24 (by decide) (0, 0)
  have HP := Lib.hid (show rfD s.data.toList = (let l := rfN (rfB s.data.toList) (rfC s.data.toList 24 (0, 0)).1.toNat (rfC s.data.toList 24 (0, 0)).2; if l.2.2 ≠ 0 then ([], l.2.2) else if l.2.1 ≠ s.size then ([], 10) else if vL l.1 = false then ([], 30) else (l.1, 0)) by unfold rfD rfL; rw [slen])
  have HS := Lib.hid hs
  have hsm : s.size ≤ maxLen := hs
  unfold maxLen at hsm
  have hW0 : w.heap.size < (w.alloc (.cells #[.string s, .int .i64 0, .int .i64 0] 48)).heap.size := by simp
  clear D0 hs
  generalize rfD s.data.toList = r at *
  generalize rfC s.data.toList 24 (0, 0) = q at *
  obtain ⟨nn, σ1⟩ := q
  simp only at HP K hc
  obtain ⟨N, rfl⟩ := Int.eq_ofNat_of_zero_le hc.1
  have hN : N ≤ 24 := by omega
  simp only [Int.toNat_natCast] at HP
  clear hc
  obtain ⟨i0, hi, hz0, hz1, hz2⟩ := info_parts blkInfo
  go_enter Tryz.func6, Tryz.ntmps6
  go_wp2_with fail
  refine K.out.mono ?_
  rintro x w1 ⟨rfl, h1, k1⟩
  have HD1 := Lib.hid h1
  have HK1 := Lib.hid k1
  obtain ⟨W0, hW⟩ : ∃ W0, w.alloc (.cells #[.string s, .int .i64 0, .int .i64 0] 48) = W0 := ⟨_, rfl⟩
  rw [hW] at BA HK1 hW0
  clear h1 k1 K hW
  go_wp2_with fail
  go_loopw [7, 5] (fun i v wr => ∃ (k : Nat) (es : List BE) (L : List Blk) (σ : Int × Int), k ≤ N ∧ i = .int .i64 k ∧ Hid (L.length = k) ∧ Hid (blks es = L) ∧ Hid (rfN (rfB s.data.toList) N σ1 = (L ++ (rfN (rfB s.data.toList) (N - k) σ).1, (rfN (rfB s.data.toList) (N - k) σ).2)) ∧ Hid (wr.ownsRow W0.heap.size 33 9 v k (es.flatMap elB)) ∧ Hid (∀ e ∈ es, BeIn W0.heap.size wr e) ∧ Hid (RfAt wr w.heap.size s σ) ∧ Hid (Keeps w.heap.size W0 wr)) (fun i _ _ => N - (intOf i).toNat)
  case atStart => exact ⟨0, [], [], σ1, Nat.zero_le _, rfl, Lib.hid rfl, Lib.hid rfl, Lib.hid rfl, Lib.hid (World.ownsRow_nil _ _ _ _), Lib.hid (by simp), HD1, HK1⟩
  case round =>
    obtain ⟨k, es, L, σ, hk, rfl, HL, hes, HST0, hown, hin, hd, hkp⟩ := hrel
    obtain ⟨va, vc, rfl⟩ := own_slice hown.out
    obtain ⟨d0, d1, d2⟩ := rf_cells hd.out
    clear d0
    by_cases hgo : k < N ∧ σ.2 = 0
    · obtain ⟨hlt, he⟩ := hgo
      clear d1
      have HST := Lib.hid (rfN_step hlt he HST0.out)
      have KI := Lib.hid (rfblk_any w.heap.size s σ wr HS.out hd.out)
      have HBD := Lib.hid (rfB_bd s.data.toList σ)
      have q1 : (k : Int) < N := by omega
      have q2 : (σ.2 == 0) = true := by simp [he]
      clear he
      generalize rfB s.data.toList σ = q at *
      obtain ⟨b, σz⟩ := q
      simp only at KI HST HBD
      go_wp2_with fail
      refine KI.out.mono ?_
      rintro x w2 ⟨la, lc, rfl, ow, h2, k2⟩
      clear d2 q2
      obtain ⟨e, he⟩ : ∃ e : BE, e = (b, la, b.lb.af.length, lc) := ⟨_, rfl⟩
      have hsz : W0.heap.size ≤ wr.heap.size := hkp.out.size
      have NEW := Lib.hid (show BeIn W0.heap.size w2 e by rw [he]; exact ⟨HBD.out, own_mono ow hsz⟩)
      have OLD : Hid (∀ e ∈ es, BeIn W0.heap.size w2 e) := Lib.hid (fun e' h' => ⟨(hin.out e' h').1, own_keeps (hin.out e' h').2 hW0 k2⟩)
      have OWN := Lib.hid (own_keeps hown.out hW0 k2)
      have K2 := Lib.hid (hkp.out.trans k2)
      have D2 := Lib.hid h2
      have hbe : e.1 = b := by rw [he]
      have HBE := Lib.hid hbe
      have HEE := Lib.hid he
      obtain ⟨LL, hL⟩ : ∃ LL, LL = b.lb.af.length := ⟨_, rfl⟩
      simp only [blkV]
      rw [← hL]
      rw [← hL] at HEE
      clear h2 k2 hown hkp KI hd hin ow he hbe HBD hsz hL HST0
      have hb0 : W0.heap.size ≤ (w2.alloc (.cells #[.int .i64 b.id, .int .i64 b.kd, .string ⟨b.tx.toArray⟩, .int .i64 b.st, .int .i64 b.rf, .int .i64 b.lb.u, .slice la LL lc, .int .i64 b.lb.ap, .int .i64 b.lb.d] 33)).heap.size := by have := K2.out.size; simp; omega
      have hnews := Lib.hid (elB_news w2 (b, la, LL, lc))
      go_wp2_with (at_builtin; refine wpList_append_own _ rfl (.tmp 26) (.tmp 29) 23 rfl W0.heap.size 33 i0 _ 9 96 Tryz.underlying23 hi hz0 hz1 hz2 rfl (by decide) _ k _ rfl (OWN.out.alloc _) ⟨w2.heap.size, 0, none⟩ 1 1 (elB (b, la, LL, lc)) rfl rfl hnews.out (elB_cell _) (by unfold maxLen; omega) (by omega) hb0 ?_; intro v' w3 hown1 hg _; obtain ⟨a', c', rfl⟩ := own_slice hown1)
      have hRr : ∀ q, Value.ownBlock (.slice va k vc) = some q → W0.heap.size ≤ q := fun q hq => (OWN.out.lt _ hq).1
      have D3 := Lib.hid (show RfAt w3 w.heap.size s σz from (hg.block _ (by have := K2.out.size; simp; omega) (fun e => by have := hRr _ e.symm; omega)).trans ((Below.heap_alloc _ _ _ (by have := K2.out.size; omega)).trans D2.out))
      have K3 := Lib.hid ((K2.out.alloc (.cells #[.int .i64 b.id, .int .i64 b.kd, .string ⟨b.tx.toArray⟩, .int .i64 b.st, .int .i64 b.rf, .int .i64 b.lb.u, .slice la LL lc, .int .i64 b.lb.ap, .int .i64 b.lb.d] 33)).grown hg hRr)
      have IN3 : Hid (∀ e' ∈ es ++ [e], BeIn W0.heap.size w3 e') := Lib.hid (fun e' h' => by
        have h2 : BeIn W0.heap.size w2 e' := by
          rcases List.mem_append.1 h' with h' | h'
          · exact OLD.out e' h'
          · rw [List.mem_singleton] at h'; rw [h']; exact NEW.out
        exact ⟨h2.1, own_grown (h2.2.alloc _) (OWN.out.alloc _) (by decide) hg⟩)
      have OWN3 := Lib.hid hown1
      clear hown1 hg hRr hb0 D2 K2 OWN hnews NEW OLD
      go_wp2
      go_roundw
      case rel =>
        refine ⟨k + 1, es ++ [e], L ++ [b], σz, by omega, by go_num, Lib.hid (by rw [List.length_append, HL.out]; rfl), Lib.hid ?_, HST, Lib.hid ?_, IN3, D3, K3⟩
        · rw [← hes.out]; simp [blks, HBE.out]
        · have h9 := OWN3.out
          rw [HEE.out, List.flatMap_append]
          simpa using h9
      case measure => simp [intOf]; omega
    · have HE := Lib.hid (rfN_end (by by_cases hlt : k < N; exact .inr (fun h => hgo ⟨hlt, h⟩); exact .inl (by omega)) HST0.out)
      have HP2 := Lib.hid (show r = (if σ.2 ≠ 0 then ([], σ.2) else if σ.1 ≠ s.size then ([], 10) else if vL L = false then ([], 30) else (L, 0)) by have h := HP.out; rw [HE.out] at h; exact h)
      have BL := Lib.hid (blks_of_own hown.out (fun e he => (hin.out e he).ok))
      have KV := Lib.hid (refvlist_any va k vc es wr BL.out)
      rw [hes.out] at KV
      have BW := Lib.hid (show Below w.heap.size w wr from BA.out.trans (hkp.out.below (Nat.le_of_lt hW0) (Nat.le_refl _)))
      have HG := Lib.hid hgo
      clear HE HST0 HP hown hin hd hkp hgo
      obtain ⟨p, er⟩ := σ
      simp only at d1 d2 HP2 HG
      by_cases he : er = 0
      · subst he
        have hlt : ¬ k < N := fun h => HG.out ⟨h, rfl⟩
        have q1 : ¬ (k : Int) < N := by omega
        clear HG
        by_cases hp : p = s.size
        · subst hp
          cases hv : vL L
          · have HR := Lib.hid (show r = ([], 30) by rw [HP2.out, if_neg (by simp), if_neg (by simp), if_pos hv])
            rw [hv] at KV
            clear HP2 hv
            go_wp2_with fail
            refine KV.out.mono ?_
            rintro x w2 ⟨rfl, b2⟩
            have B2 := Lib.hid (bel2 BW.out b2)
            clear b2
            go_wp2
            go_ret2
            rw [HR.out]
            exact ⟨none, 0, [], rfl, rfl, nil_blks _, B2.out⟩
          · have HR := Lib.hid (show r = (L, 0) by rw [HP2.out, if_neg (by simp), if_neg (by simp), if_neg (by simp [hv])])
            rw [hv] at KV
            clear HP2 hv
            go_wp2_with fail
            refine KV.out.mono ?_
            rintro x w2 ⟨rfl, b2⟩
            have B2 := Lib.hid (bel2 BW.out b2)
            have BL2 := Lib.hid (BL.out.over b2)
            clear b2
            have hkk := HL.out
            subst hkk
            go_wp2
            go_ret2
            rw [HR.out]
            exact ⟨va, vc, es, rfl, hes.out, BL2.out, B2.out⟩
        · have HR := Lib.hid (show r = ([], 10) by rw [HP2.out, if_neg (by simp), if_pos hp])
          have q3 : (p == (s.size : Int)) = false := by simp [hp]
          have q4 : (p != (s.size : Int)) = true := by simp [hp]
          clear HP2 hp KV
          go_wp2
          go_ret2
          rw [HR.out]
          exact ⟨none, 0, [], rfl, rfl, nil_blks _, BW.out⟩
      · have HR := Lib.hid (show r = ([], er) by rw [HP2.out, if_pos he])
        have g1 : (er == 0) = false := by simp [he]
        have g2 : (er != 0) = true := by simp [he]
        clear HP2 he KV HG
        by_cases hlt : k < N
        · have q1 : (k : Int) < N := by omega
          go_wp2_with fail
          go_quiet (fail)
          go_wp2
          go_ret2
          rw [HR.out]
          exact ⟨none, 0, [], rfl, rfl, nil_blks _, below_drewN BW.out _⟩
        · have q1 : ¬ (k : Int) < N := by omega
          go_wp2_with fail
          go_quiet (fail)
          go_wp2
          go_ret2
          rw [HR.out]
          exact ⟨none, 0, [], rfl, rfl, nil_blks _, below_drewN BW.out _⟩
set_option maxHeartbeats 4000000 in
/-- BlockDecodeMatchesReference: the walk of the statement's text. -/
theorem decodeRef6 (s : ByteArray) (w : World) (hs : s.size ≤ maxLen) :
    Calls Tryz.prog 3 #[.string s] w fun x w' => x = .returned (.bool true) ∧ Below w.heap.size w w' := by
  have hsm := hs
  unfold maxLen at hsm
  go_enter Tryz.func3, Tryz.ntmps3
  go_wp2_with fail
  refine (sane_any w).mono ?_
  rintro x w1 ⟨rfl, b1⟩
  have B1 := Lib.hid b1
  clear b1
  go_wp2_with fail
  have hc : (s.extract 0 (min (s.size : Int) 20000).toNat).size ≤ 20000 := by simp; omega
  generalize s.extract 0 (min (s.size : Int) 20000).toNat = t at *
  have KR := Lib.hid (fun W => rfdecode_any t W (by unfold maxLen; omega))
  rw [rfD_eq] at KR
  refine (decode_any t w1 (by unfold maxLen; omega)).mono ?_
  rintro x w2 ⟨ad, cd, ds, rfl, hd, hi, b2⟩
  have B2 := Lib.hid (bel2 B1.out b2)
  have D1 := Lib.hid hi
  have HD := Lib.hid hd
  clear b2 hi hd B1 hc hsm
  go_wp2_with fail
  refine (KR.out _).mono ?_
  rintro x w3 ⟨ae, ce, fs, rfl, hd, hi, b3⟩
  have B3 := Lib.hid (bel2 B2.out b3)
  have D2 := Lib.hid (D1.out.over b3)
  have E2 := Lib.hid hi
  have HE := Lib.hid hd
  clear b3 hi hd B2 D1 KR
  generalize decP t.data.toList = r at *
  go_wp2_with fail
  refine (refsamel_any _ _ _ ds _ _ _ fs _ D2.out E2.out).mono ?_
  rintro x w4 ⟨rfl, b4⟩
  rw [show sL (blks ds) (blks fs) = true by rw [HD.out, HE.out]; exact sL_self _]
  have B4 := Lib.hid (bel2 B3.out b4)
  clear b4
  go_wp2
  go_ret
  exact ⟨rfl, B4.out⟩
end Go.Proofs.YtdhioalfgogcdaaGreatDoor
