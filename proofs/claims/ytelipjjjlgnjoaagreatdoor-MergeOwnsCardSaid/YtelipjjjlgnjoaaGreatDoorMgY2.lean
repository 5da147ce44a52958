import Derived.Test.YtelipjjjlgnjoaaGreatDoorMgY
namespace Go.Proofs.YtelipjjjlgnjoaaGreatDoor
open Go.RowKit Go.MapKept Go.Shelf
attribute [local go_sem] Oper.semAt_some
set_option maxRecDepth 100000
set_option linter.unusedSimpArgs false
set_option linter.unusedVariables false
def FromTwo (q r rs : List BE) : Prop := ∀ e ∈ rs, e ∈ q ∨ e ∈ r
set_option maxHeartbeats 32000000 in
theorem refmerge_own (a1 : Option Addr) (n1 c1 : Nat) (p : List BE) (a2 : Option Addr) (n2 c2 : Nat) (q : List BE) (a3 : Option Addr) (n3 c3 : Nat) (r : List BE) (w : World) (h1 : IsBlks w a1 n1 c1 p) (h2 : IsBlks w a2 n2 c2 q) (h3 : IsBlks w a3 n3 c3 r) :
    Calls Tryz.prog 15 #[.slice a1 n1 c1, .slice a2 n2 c2, .slice a3 n3 c3] w fun x w' => ∃ b1 d1 rs b2 m2 d2, x = .returned (.tuple #[.slice b1 rs.length d1, .slice b2 m2 d2, .int .i64 (mergeR (blks p) (blks q) (blks r)).2.2]) ∧ blks rs = (mergeR (blks p) (blks q) (blks r)).1 ∧ IsBlks w' b1 rs.length d1 rs ∧ w'.ownsRow w.heap.size 39 9 (.slice b1 rs.length d1) rs.length (rs.flatMap elB) ∧ FromTwo q r rs ∧ IsInts .i64 w' b2 m2 d2 (mergeR (blks p) (blks q) (blks r)).2.1 ∧ Below w.heap.size w w' := by
  have H1 := Lib.hid h1
  have H2 := Lib.hid h2
  have H3 := Lib.hid h3
  clear h1 h2 h3
  generalize hMR : mergeR (blks p) (blks q) (blks r) = MR
  have HMR := Lib.hid hMR
  clear hMR
  have NB : Hid (∀ W, IsBlks W none 0 0 []) := Lib.hid (fun W => ⟨rfl, Nat.le_refl _, Nat.zero_le _, by simp, .inl rfl⟩)
  have NI : Hid (∀ W, IsInts .i64 W none 0 0 []) := Lib.hid (fun W => ⟨rfl, Nat.le_refl _, Nat.zero_le _, by simp, .inl rfl⟩)
  go_enter Tryz.func15, Tryz.ntmps15
  go_wp2_with fail
  refine (refvlist_any a1 n1 c1 p w H1.out).mono ?_
  rintro x u1 ⟨rfl, b⟩
  have U1 := Lib.hid b
  clear b
  go_wp2_with fail
  refine (refvlist_any a2 n2 c2 q u1 (H2.out.over U1.out)).mono ?_
  rintro x u2 ⟨rfl, b⟩
  have U2 := Lib.hid (bel2 U1.out b)
  clear b
  go_wp2_with fail
  refine (refvlist_any a3 n3 c3 r u2 (H3.out.over U2.out)).mono ?_
  rintro x u3 ⟨rfl, b⟩
  have U3 := Lib.hid (bel2 U2.out b)
  clear b U1 U2
  cases hv : v3 (blks p) (blks q) (blks r)
  · have HR := Lib.hid (show MR = ([], [], 40) by rw [← HMR.out]; exact mergeR_none hv)
    unfold v3 at hv
    generalize vL (blks p) = z1 at *
    generalize vL (blks q) = z2 at *
    generalize vL (blks r) = z3 at *
    have HH : (z1 = false) ∨ (z1 = true ∧ z2 = false) ∨ (z1 = true ∧ z2 = true ∧ z3 = false) := by
      revert hv; cases z1 <;> cases z2 <;> cases z3 <;> simp
    clear hv
    rcases HH with rfl | ⟨rfl, rfl⟩ | ⟨rfl, rfl, rfl⟩
    all_goals
      go_wp2
      go_ret3
      rw [HR.out]
      exact ⟨none, 0, [], none, 0, 0, rfl, rfl, NB.out _, World.ownsRow_nil _ _ _ _, (fun e he => by cases he), NI.out _, U3.out⟩
  · have HV := Lib.hid hv
    obtain ⟨v1, v2, v3'⟩ := v3_iff.1 hv
    rw [v1, v2, v3']
    clear v1 v2 v3' hv
    go_wp2_with fail
    refine (refids_any a1 n1 c1 p a2 n2 c2 q a3 n3 c3 r u3 (H1.out.over U3.out) (H2.out.over U3.out) (H3.out.over U3.out)).mono ?_
    rintro x u4 ⟨ai, ci, rfl, hio, b⟩
    have U4 := Lib.hid (bel2 U3.out b)
    have I1 := Lib.hid (H1.out.over U4.out)
    have I2 := Lib.hid (H2.out.over U4.out)
    have I3 := Lib.hid (H3.out.over U4.out)
    have LM := Lib.hid (occ_has (blks p) (blks q) (blks r))
    have LC := Lib.hid (occ_cfl (blks p) (blks q) (blks r))
    have LB := Lib.hid (show ∀ z ∈ iota.filter (occI (blks p) (blks q) (blks r)), Bd z from fun z hz => by have := mem_iota.1 (List.mem_filter.1 hz).1; unfold Bd; omega)
    have LL : (iota.filter (occI (blks p) (blks q) (blks r))).length ≤ 1000 := by
      have h := List.length_filter_le (occI (blks p) (blks q) (blks r)) iota
      have h2 : iota.length = 1000 := by simp [iota]
      omega
    have II := Lib.hid (ints_of_own hio LB.out)
    clear b hio U3 H1 H2 H3
    generalize iota.filter (occI (blks p) (blks q) (blks r)) = l at *
    obtain ⟨ln, hln⟩ : ∃ ln, l.length = ln := ⟨_, rfl⟩
    rw [hln] at II LL
    rw [hln]
    have HLN := Lib.hid hln
    have hci := II.out.2.2.1
    have hni := II.out.2.1
    unfold maxLen at hci
    clear hln
    obtain ⟨i0, hi, hz0, hz1, hz2⟩ := info_parts intInfo'
    go_wp2
    go_loopw [15, 16, 17, 18, 14, 13] (fun i _ _ _ cnt v wr => ∃ (k L nn : Nat), k ≤ ln ∧ L ≤ k ∧ nn ≤ k ∧ i = .int .i64 k ∧ cnt = .int .i64 nn ∧ Hid (((l.take k).filter (hasM (blks p) (blks q) (blks r))).length = nn) ∧ Hid (wr.ownsRow u4.heap.size 3 1 v L (intsV ((l.take k).filter (cfl (blks p) (blks q) (blks r))))) ∧ Hid (Below u4.heap.size u4 wr)) (fun i _ _ _ _ _ _ => ln - (intOf i).toNat)
    case atStart => exact ⟨0, 0, 0, Nat.zero_le _, Nat.le_refl _, Nat.le_refl _, rfl, rfl, Lib.hid (by simp), Lib.hid (by simpa [intsV] using World.ownsRow_nil _ _ _ _), Lib.hid (Below.refl _ _)⟩
    case round =>
      obtain ⟨k, L, nn, hk, hLk, hnk, rfl, rfl, hcnt, hown, hb⟩ := hrel
      obtain ⟨va, vc, rfl⟩ := own_slice hown.out
      by_cases hlt : k < ln
      · obtain ⟨bi, offi, rfl, hcell⟩ := (II.out.over hb.out).cell_at hlt
        have g1 : (k : Int) < ln := by omega
        obtain ⟨z, hz⟩ : ∃ z, l.getD k 0 = z := ⟨_, rfl⟩
        rw [hz] at hcell
        have HZ := Lib.hid (show l[k]? = some z by rw [List.getD_eq_getElem?_getD] at hz; have hl : k < l.length := by rw [HLN.out]; exact hlt
                                                   rw [List.getElem?_eq_getElem hl] at hz ⊢; rw [← hz]; rfl)
        clear hz
        go_wp2_with fail
        refine (chosen_any a1 n1 c1 p a2 n2 c2 q a3 n3 c3 r z wr (I1.out.over hb.out) (I2.out.over hb.out) (I3.out.over hb.out)).mono ?_
        rintro x u5 ⟨e, rfl, hch, hok, b⟩
        have U5 := Lib.hid (bel2 (bel2 hb.out b) (below_alloc u5 (.cells (elB e).toArray 39)))
        have O5 := Lib.hid ((own_over hown.out b).alloc (.cells (elB e).toArray 39))
        have hb5 := b.size
        have hb6 := hb.out.size
        have hcell5 : (u5.alloc (.cells (elB e).toArray 39)).cell? ⟨bi, offi + k, none⟩ = some (.int .i64 z) := cellOver (below_alloc u5 _) (cellOver b hcell)
        clear b hch hok hcell
        have hs5 : u4.heap.size ≤ u5.heap.size := by have := U5.out.size; have hq := hb5; omega
        have HCE := Lib.hid (show ∀ (j : Nat) (u : Value), [Value.int .i64 z][j]? = some u → ((u5.alloc (.cells (elB e).toArray 39)).alloc (.cells #[.int .i64 z] 3)).cell? ((⟨u5.heap.size + 1, 0, none⟩ : Addr).add j) = some u by
          have h := cell_one_new (u5.alloc (.cells (elB e).toArray 39)) (.int .i64 z) 3
          rwa [show (u5.alloc (.cells (elB e).toArray 39)).heap.size = u5.heap.size + 1 by simp] at h)
        unfold bv blkV
        unfold elB at HCE hcell5 U5 O5
        cases hm : hasM (blks p) (blks q) (blks r) z
        · have MN := Lib.hid (take_no HZ.out hm)
          clear hm
          cases hc : cfl (blks p) (blks q) (blks r) z
          · have CN := Lib.hid (take_no HZ.out hc)
            clear hc
            go_wp2
            go_roundw
            case rel => exact ⟨k + 1, L, nn, by omega, by omega, by omega, by go_num, rfl, Lib.hid (by rw [MN.out]; exact hcnt.out), Lib.hid (by rw [CN.out]; exact O5.out), U5⟩
            case measure => simp [intOf]; omega
          · have CN := Lib.hid (take_yes HZ.out hc)
            clear hc
            go_wp2_with (at_builtin; refine wpList_append_own _ rfl _ _ 25 rfl u4.heap.size 3 i0 (.int .i64 0) 1 8 Tryz.underlying25 hi hz0 hz1 hz2 rfl (by decide) (.slice va L vc) _ _ rfl (O5.out.alloc _) ⟨u5.heap.size + 1, 0, none⟩ 1 1 [.int .i64 z] rfl rfl HCE.out (by simp [Value.oneCell']) (by unfold maxLen; omega) (by omega) (by simp; omega) ?_; intro v' w3 hown1 hg _; obtain ⟨a', c', rfl⟩ := own_slice hown1)
            have B3 := Lib.hid ((U5.out.alloc (by simp; omega) (.cells #[.int .i64 z] 3)).grown hg (by simp; omega) (fun q hq => (O5.out.lt q hq).1))
            have O3 := Lib.hid hown1
            clear hown1 hg
            go_wp2
            go_roundw
            case rel => exact ⟨k + 1, L + 1, nn, by omega, by omega, by omega, by go_num, rfl, Lib.hid (by rw [MN.out]; exact hcnt.out), Lib.hid (by rw [CN.out, intsV, List.map_append]; exact O3.out), B3⟩
            case measure => simp [intOf]; omega
        · have MN := Lib.hid (take_yes HZ.out hm)
          clear hm
          cases hc : cfl (blks p) (blks q) (blks r) z
          · have CN := Lib.hid (take_no HZ.out hc)
            clear hc
            go_wp2
            go_roundw
            case rel => exact ⟨k + 1, L, nn + 1, by omega, by omega, by omega, by go_num, by go_num, Lib.hid (by rw [MN.out, List.length_append, hcnt.out]; rfl), Lib.hid (by rw [CN.out]; exact O5.out), U5⟩
            case measure => simp [intOf]; omega
          · have CN := Lib.hid (take_yes HZ.out hc)
            clear hc
            go_wp2_with (at_builtin; refine wpList_append_own _ rfl _ _ 25 rfl u4.heap.size 3 i0 (.int .i64 0) 1 8 Tryz.underlying25 hi hz0 hz1 hz2 rfl (by decide) (.slice va L vc) _ _ rfl (O5.out.alloc _) ⟨u5.heap.size + 1, 0, none⟩ 1 1 [.int .i64 z] rfl rfl HCE.out (by simp [Value.oneCell']) (by unfold maxLen; omega) (by omega) (by simp; omega) ?_; intro v' w3 hown1 hg _; obtain ⟨a', c', rfl⟩ := own_slice hown1)
            have B3 := Lib.hid ((U5.out.alloc (by simp; omega) (.cells #[.int .i64 z] 3)).grown hg (by simp; omega) (fun q hq => (O5.out.lt q hq).1))
            have O3 := Lib.hid hown1
            clear hown1 hg
            go_wp2
            go_roundw
            case rel => exact ⟨k + 1, L + 1, nn + 1, by omega, by omega, by omega, by go_num, by go_num, Lib.hid (by rw [MN.out, List.length_append, hcnt.out]; rfl), Lib.hid (by rw [CN.out, intsV, List.map_append]; exact O3.out), B3⟩
            case measure => simp [intOf]; omega
      · obtain rfl : k = ln := by omega
        have htl : l.take k = l := List.take_of_length_le (by rw [HLN.out]; exact Nat.le_refl _)
        rw [htl, LM.out] at hcnt
        rw [htl, LC.out] at hown
        have CF := Lib.hid (ints_of_own hown.out (fun z hz => by have := mem_iota.1 (List.mem_filter.1 hz).1; unfold Bd; omega))
        clear htl hown HLN LM LC LB II
        by_cases h24 : 24 < nn
        · have HR := Lib.hid (show MR = ([], [], 40) by rw [← HMR.out]; unfold mergeR; rw [if_pos HV.out, if_pos (by unfold mcount; rw [hcnt.out]; exact h24)])
          have g24 : (24 : Int) < nn := by omega
          go_wp2
          go_ret3
          rw [HR.out]
          exact ⟨none, 0, [], none, 0, 0, rfl, rfl, NB.out _, World.ownsRow_nil _ _ _ _, (fun e he => by cases he), NI.out _, bel2 U4.out hb.out⟩
        · have HR := Lib.hid (show MR = (mres (blks p) (blks q) (blks r), mconf (blks p) (blks q) (blks r), 0) by rw [← HMR.out]; unfold mergeR; rw [if_pos HV.out, if_neg (by unfold mcount; rw [hcnt.out]; exact h24)])
          have g24 : ¬ (24 : Int) < nn := by omega
          obtain ⟨vp, vq, vr⟩ := v3_iff.1 HV.out
          have NQ := Lib.hid (vL_nodup vq)
          have NR := Lib.hid (vL_nodup vr)
          have GQ := Lib.hid (show ∀ i ∈ bids (blks q), 1 ≤ i from fun i hi => (ids_bd vq hi).1)
          have GR := Lib.hid (show ∀ i ∈ bids (blks r), 1 ≤ i from fun i hi => (ids_bd vr hi).1)
          have mq : n2 ≤ 24 := by have := vL_len vq; have h := I2.out.1; simp [blks] at this; omega
          have mr : n3 ≤ 24 := by have := vL_len vr; have h := I3.out.1; simp [blks] at this; omega
          clear vp vq vr hcnt
          go_wp2_with fail
          refine (refmoved_any a3 n3 c3 r a1 n1 c1 p wr (I3.out.over hb.out) (I1.out.over hb.out)).mono ?_
          rintro x u6 ⟨rfl, b⟩
          have D6 := Lib.hid (bel2 hb.out b)
          have U6 := Lib.hid (bel2 U4.out D6.out)
          have J1 := Lib.hid (I1.out.over D6.out)
          have J2 := Lib.hid (I2.out.over D6.out)
          have J3 := Lib.hid (I3.out.over D6.out)
          have CG := Lib.hid (CF.out.over b)
          clear b CF I1 I2 I3 D6 hb U4
          obtain ⟨j0, hj, hy0, hy1, hy2⟩ := info_parts blkInfo
          cases hmv : movI (bids (blks p)) (bids (blks r))
          · have HO := Lib.hid (show mord (blks p) (blks q) (blks r) = ordL (hasM (blks p) (blks q) (blks r)) (bids (blks q)) (bids (blks r)) by unfold mord; rw [hmv]; rfl)
            clear hmv
            have hcl := J2.out.2.2.1
            have hnl := J2.out.2.1
            have hcf := J3.out.2.2.1
            have hnf := J3.out.2.1
            have HLL := Lib.hid J2.out.1
            have HLF := Lib.hid J3.out.1
            unfold maxLen at hcl hcf
            go_wp2_with fail
            go_loopw [23, 24, 25, 26, 22] (fun i _ _ _ v wr => ∃ (k : Nat) (rs : List BE), k ≤ n2 ∧ rs.length ≤ k ∧ i = .int .i64 k ∧ Hid (blks rs = ((bids (blks (q.take k))).filter (hasM (blks p) (blks q) (blks r))).filterMap (mrg (blks p) (blks q) (blks r))) ∧ Hid (wr.ownsRow u6.heap.size 39 9 v rs.length (rs.flatMap elB)) ∧ Hid (∀ e ∈ rs, e ∈ q ∨ e ∈ r) ∧ Hid (Below u6.heap.size u6 wr)) (fun i _ _ _ _ _ => n2 - (intOf i).toNat)
            case atStart => exact ⟨0, [], Nat.zero_le _, Nat.le_refl _, rfl, Lib.hid (by simp [blks, bids]), Lib.hid (World.ownsRow_nil _ _ _ _), Lib.hid (by simp), Lib.hid (Below.refl _ _)⟩
            case round =>
              obtain ⟨k, rs, hk, hrk, rfl, hrs, hown, hin, hb⟩ := hrel
              obtain ⟨va, vc, rfl⟩ := own_slice hown.out
              by_cases hlt : k < n2
              · obtain ⟨bl, offl, d, hae, hd, hokd, h9⟩ := (J2.out.over hb.out).at_ hlt
                have HD := Lib.hid (bids_take_succ hd)
                obtain ⟨p0, p1, p2, p3, p4, p5, p6, p7, p8⟩ := h9
                have g1 : (k : Int) < n2 := by omega
                have K := Lib.hid (chosen_any a1 n1 c1 p a2 n2 c2 q a3 n3 c3 r d.1.id wr (J1.out.over hb.out) (J2.out.over hb.out) (J3.out.over hb.out))
                subst hae
                clear hd hokd p1 p2 p3 p4 p5 p6 p7 p8
                go_wp2_with fail
                refine K.out.mono ?_
                rintro x u7 ⟨e, rfl, hch, hok, b⟩
                have hb7 := b.size
                have hb8 := hb.out.size
                have U7 := Lib.hid (bel2 (bel2 hb.out b) (below_alloc u7 (.cells #[.int .i64 e.1.id, .int .i64 e.1.kd, .string ⟨e.1.tx.toArray⟩, .int .i64 e.1.st, .int .i64 e.1.rf, .int .i64 e.1.lb.u, .slice e.2.1 e.2.2.1 e.2.2.2, .int .i64 e.1.lb.ap, .int .i64 e.1.lb.d] 39)))
                have O7 := Lib.hid ((own_over hown.out b).alloc (.cells #[.int .i64 e.1.id, .int .i64 e.1.kd, .string ⟨e.1.tx.toArray⟩, .int .i64 e.1.st, .int .i64 e.1.rf, .int .i64 e.1.lb.u, .slice e.2.1 e.2.2.1 e.2.2.2, .int .i64 e.1.lb.ap, .int .i64 e.1.lb.d] 39))
                have HCH := Lib.hid hch
                clear b K p0 hch hok
                generalize cfl (blks p) (blks q) (blks r) d.1.id = cz at *
                unfold bv blkV
                cases hm : hasM (blks p) (blks q) (blks r) d.1.id
                · have MN := Lib.hid (show ((bids (blks (q.take (k + 1)))).filter (hasM (blks p) (blks q) (blks r))) = ((bids (blks (q.take k))).filter (hasM (blks p) (blks q) (blks r))) by rw [HD.out, List.filter_append]; simp [hm])
                  clear hm
                  go_wp2
                  go_roundw
                  case rel => exact ⟨k + 1, rs, by omega, by omega, by go_num, Lib.hid (by rw [MN.out]; exact hrs.out), O7, hin, U7⟩
                  case measure => simp [intOf]; omega
                · have MN := Lib.hid (show blks (rs ++ [e]) = ((bids (blks (q.take (k + 1)))).filter (hasM (blks p) (blks q) (blks r))).filterMap (mrg (blks p) (blks q) (blks r)) by
                    rw [HD.out, List.filter_append, List.filterMap_append, ← hrs.out, show [d.1.id].filter (hasM (blks p) (blks q) (blks r)) = [d.1.id] by simp [hm], show [d.1.id].filterMap (mrg (blks p) (blks q) (blks r)) = [e.1] by simp [(HCH.out hm).1]]
                    simp [blks])
                  have HME := Lib.hid ((HCH.out hm).2.2)
                  clear hm
                  have hnews := Lib.hid (new_news (u7.alloc (.cells #[.int .i64 e.1.id, .int .i64 e.1.kd, .string ⟨e.1.tx.toArray⟩, .int .i64 e.1.st, .int .i64 e.1.rf, .int .i64 e.1.lb.u, .slice e.2.1 e.2.2.1 e.2.2.2, .int .i64 e.1.lb.ap, .int .i64 e.1.lb.d] 39)) (u7.heap.size + 1) (by simp) (elB e) 39)
                  go_wp2_with (at_builtin; refine wpList_append_own _ rfl _ _ 22 rfl u6.heap.size 39 j0 _ 9 96 Tryz.underlying22 hj hy0 hy1 hy2 rfl (by decide) (.slice va rs.length vc) rs.length _ rfl (O7.out.alloc _) ⟨u7.heap.size + 1, 0, none⟩ 1 1 (elB e) rfl rfl hnews.out (elB_cell _) (by unfold maxLen; omega) (by omega) (by simp; omega) ?_; intro v' w3 hown1 hg _; obtain ⟨a', c', rfl⟩ := own_slice hown1)
                  have B3 := Lib.hid ((U7.out.alloc (by simp; omega) (.cells (elB e).toArray 39)).grown hg (by simp; omega) (fun q hq => (O7.out.lt q hq).1))
                  have IN3 : Hid (∀ e' ∈ rs ++ [e], e' ∈ q ∨ e' ∈ r) := Lib.hid (fun e' h' => by
                    rcases List.mem_append.1 h' with h' | h'
                    · exact hin.out e' h'
                    · rw [List.mem_singleton] at h'; rw [h']; exact HME.out)
                  have OWN3 := Lib.hid hown1
                  clear hown1 hg hnews
                  go_wp2
                  go_roundw
                  case rel => exact ⟨k + 1, rs ++ [e], by omega, by simp; omega, by go_num, MN, Lib.hid (by rw [List.length_append, List.flatMap_append]; simpa using OWN3.out), IN3, B3⟩
                  case measure => simp [intOf]; omega
              · obtain rfl : n2 = k := by omega
                have htl : q.take n2 = q := List.take_of_length_le (by rw [HLL.out]; exact Nat.le_refl _)
                rw [htl] at hrs
                have P0 := Lib.hid (p3_start GQ.out hrs.out)
                clear htl hrs
                go_wp2
                go_loopw [28, 29, 30, 31, 32, 33, 27, 22] (fun i _ _ _ _ _ l v wr => ∃ (j : Nat) (rs : List BE) (last : Int) (n : Nat), j ≤ n3 ∧ rs.length ≤ n2 + j ∧ i = .int .i64 j ∧ l = .int .i64 last ∧ Hid (P3 (blks p) (blks q) (blks r) (bids (blks q)) (bids (blks (r.take j))) rs last n) ∧ Hid (wr.ownsRow u6.heap.size 39 9 v rs.length (rs.flatMap elB)) ∧ Hid (∀ e ∈ rs, e ∈ q ∨ e ∈ r) ∧ Hid (Below u6.heap.size u6 wr)) (fun i _ _ _ _ _ _ _ _ => n3 - (intOf i).toNat)
                case atStart => exact ⟨0, rs, -1, 0, Nat.zero_le _, by omega, rfl, rfl, P0, hown, hin, hb⟩
                case round =>
                  clear hb hown hin P0 hrk
                  obtain ⟨j, rs, last, n, hjk, hrk, rfl, rfl, hp3, hown, hin, hb⟩ := hrel
                  obtain ⟨va, vc, rfl⟩ := own_slice hown.out
                  by_cases hlt : j < n3
                  · obtain ⟨bl, offl, d, hae, hd, hokd, h9⟩ := (J3.out.over hb.out).at_ hlt
                    have HD := Lib.hid (bids_take_succ hd)
                    have HDF := Lib.hid (show d.1.id ∉ bids (blks (r.take j)) from not_earlier NR.out hd)
                    obtain ⟨p0, p1, p2, p3, p4, p5, p6, p7, p8⟩ := h9
                    have g1 : (j : Int) < n3 := by omega
                    have K := Lib.hid (chosen_any a1 n1 c1 p a2 n2 c2 q a3 n3 c3 r d.1.id wr (J1.out.over hb.out) (J2.out.over hb.out) (J3.out.over hb.out))
                    subst hae
                    clear hd hokd p1 p2 p3 p4 p5 p6 p7 p8
                    go_wp2_with fail
                    refine K.out.mono ?_
                    rintro x u7 ⟨e, rfl, hch, hok, b⟩
                    have hb7 := b.size
                    have hb8 := hb.out.size
                    have U7 := Lib.hid (bel2 (bel2 hb.out b) (below_alloc u7 (.cells #[.int .i64 e.1.id, .int .i64 e.1.kd, .string ⟨e.1.tx.toArray⟩, .int .i64 e.1.st, .int .i64 e.1.rf, .int .i64 e.1.lb.u, .slice e.2.1 e.2.2.1 e.2.2.2, .int .i64 e.1.lb.ap, .int .i64 e.1.lb.d] 39)))
                    have O7 := Lib.hid ((own_over hown.out b).alloc (.cells #[.int .i64 e.1.id, .int .i64 e.1.kd, .string ⟨e.1.tx.toArray⟩, .int .i64 e.1.st, .int .i64 e.1.rf, .int .i64 e.1.lb.u, .slice e.2.1 e.2.2.1 e.2.2.2, .int .i64 e.1.lb.ap, .int .i64 e.1.lb.d] 39))
                    have G7 := Lib.hid (heap_alloc_new u7 (.cells #[.int .i64 e.1.id, .int .i64 e.1.kd, .string ⟨e.1.tx.toArray⟩, .int .i64 e.1.st, .int .i64 e.1.rf, .int .i64 e.1.lb.u, .slice e.2.1 e.2.2.1 e.2.2.2, .int .i64 e.1.lb.ap, .int .i64 e.1.lb.d] 39))
                    have HCH := Lib.hid hch
                    clear b K p0 hch hok
                    generalize cfl (blks p) (blks q) (blks r) d.1.id = cz at *
                    unfold bv blkV
                    cases hm : hasM (blks p) (blks q) (blks r) d.1.id
                    · have PN := Lib.hid (p3_no NQ.out hp3.out hm)
                      rw [← HD.out] at PN
                      clear hm
                      go_wp2
                      go_roundw
                      case rel => exact ⟨j + 1, rs, last, n, by omega, by omega, by go_num, rfl, PN, O7, hin, U7⟩
                      case measure => simp [intOf]; omega
                    · obtain ⟨hmr, hid, hme⟩ := HCH.out hm
                      have HM := Lib.hid hm
                      have HMR2 := Lib.hid hmr
                      have HID := Lib.hid hid
                      have HME := Lib.hid hme
                      clear HCH hm hmr hid hme
                      go_wp2_with fail
                      refine (refat_any _ _ _ q e.1.id _ (J2.out.over U7.out)).mono ?_
                      rintro x u8 ⟨rfl, b⟩
                      have U8 := Lib.hid (bel2 U7.out b)
                      have O8 := Lib.hid (own_over O7.out b)
                      have G8 := Lib.hid (blockOver b G7.out)
                      have hb9 := b.size
                      have hx7 : u7.heap.size + 1 ≤ u8.heap.size := by simpa using hb9
                      clear b
                      cases hf : idxI (bids (blks q)) e.1.id with
                      | some k2 =>
                        rw [atV_some hf]
                        have hmem : d.1.id ∈ bids (blks q) := by rw [← HID.out]; exact idxI_mem hf
                        obtain ⟨n2', PI⟩ := p3_in NQ.out hp3.out HM.out hmem
                        have PI := Lib.hid PI
                        rw [← HD.out] at PI
                        obtain ⟨q0, q1, q2, q3, q4, q5, q6, q7, q8⟩ := nine_of (e := e) G8.out
                        clear hf hmem q1 q2 q3 q4 q5 q6 q7 q8
                        go_wp2
                        go_roundw
                        case rel => exact ⟨j + 1, rs, d.1.id, n2', by omega, by omega, by go_num, by rw [← HID.out], PI, O8, hin, U8⟩
                        case measure => simp [intOf]; omega
                      | none =>
                        rw [atV_none hf]
                        have hmem : d.1.id ∉ bids (blks q) := by rw [← HID.out]; exact idxI_none.1 hf
                        have PN := Lib.hid (p3_new NQ.out hp3.out HM.out hmem HDF.out HMR2.out)
                        rw [← HD.out] at PN
                        obtain ⟨hat, hnl⟩ := p3_len hp3.out
                        have IB := Lib.hid (blks_of_own O8.out (fun e he => by
                          rcases hin.out e he with h | h
                          · exact (J2.out.2.2.2.1 e h).over U8.out
                          · exact (J3.out.2.2.2.1 e h).over U8.out))
                        clear hf hmem
                        go_wp2_with fail
                        refine (refat_any va _ vc rs last u8 IB.out).mono ?_
                        rintro x u9 ⟨rfl, b⟩
                        have U9 := Lib.hid (bel2 U8.out b)
                        have O9 := Lib.hid (own_over O8.out b)
                        have G9 := Lib.hid (blockOver b G8.out)
                        have hb10 := b.size
                        clear b IB
                        rcases own_what O9.out with ⟨hnil, h0, -⟩ | ⟨g, cap, hgs⟩
                        · have hrs0 : rs = [] := List.length_eq_zero_iff.1 h0
                          subst hrs0
                          have hn0 : n = 0 := by simp at hnl; exact hnl
                          subst hn0
                          injection hnil with hna hnb hnc
                          subst hna hnc
                          rw [show atV (bids (blks [])) last = -1 by omega]
                          clear hat h0 hnb
                          have HN := Lib.hid (elB_news u9 e)
                          obtain ⟨q0, q1, q2, q3, q4, q5, q6, q7, q8⟩ := nine_of (e := e) G9.out
                          go_wp2_with (first | (at_builtin; refine wpList_append_own _ rfl (.tmp 153) (.tmp 155) 22 rfl u9.heap.size 39 j0 _ 9 96 Tryz.underlying22 hj hy0 hy1 hy2 rfl (by decide) (.slice none 0 0) 0 [] rfl (World.ownsRow_nil _ _ _ _) ⟨u9.heap.size, 0, none⟩ 1 1 (elB e) rfl rfl HN.out (elB_cell _) (by unfold maxLen; omega) (by omega) (by simp) ?_; intro v' u11 hown1 hg _; rw [Nat.zero_add, List.nil_append] at hown1; obtain ⟨aB, cB, rfl⟩ := own_slice hown1; have G11 := Lib.hid ((hg.block u7.heap.size (by simp; omega) (fun e => by simp [Value.ownBlock] at e)).trans (blockOver (below_alloc u9 (.cells #[.int .i64 e.1.id, .int .i64 e.1.kd, .string ⟨e.1.tx.toArray⟩, .int .i64 e.1.st, .int .i64 e.1.rf, .int .i64 e.1.lb.u, .slice e.2.1 e.2.2.1 e.2.2.2, .int .i64 e.1.lb.ap, .int .i64 e.1.lb.d] 39)) G9.out)); have U11 := Lib.hid ((U9.out.alloc (by have := U9.out.size; omega) (.cells #[.int .i64 e.1.id, .int .i64 e.1.kd, .string ⟨e.1.tx.toArray⟩, .int .i64 e.1.st, .int .i64 e.1.rf, .int .i64 e.1.lb.u, .slice e.2.1 e.2.2.1 e.2.2.2, .int .i64 e.1.lb.ap, .int .i64 e.1.lb.d] 39)).grown hg (by have := U9.out.size; simp; omega) (fun q hq => by simp [Value.ownBlock] at hq)); have R11 := Lib.hid hown1; have hb12 : u9.heap.size + 1 ≤ u11.heap.size := (by have hq := hg.size; simpa using hq); clear hown1 hg; obtain ⟨q0, q1, q2, q3, q4, q5, q6, q7, q8⟩ := nine_of (e := e) G11.out) | (at_builtin; refine wpList_append_own_none rfl (.tmp 157) (.tmp 160) 22 rfl u9.heap.size 39 j0 9 Tryz.underlying22 hj (.slice aB 1 cB) _ _ rfl R11.out rfl ?_))
                          go_roundw
                          case rel => exact ⟨j + 1, [].take 0 ++ e :: [].drop 0, d.1.id, 0 + 1, by omega, by simp; omega, by go_num, by rw [← HID.out], PN, Lib.hid (by
                            have h := own_mono R11.out (show u6.heap.size ≤ u9.heap.size from U9.out.size)
                            simpa using h), Lib.hid (fun e' h' => by
                            simp at h'
                            rw [h']; exact HME.out), U11⟩
                          case measure => simp [intOf]; omega
                        · injection hgs with hga hgb hgc
                          subst hga hgc
                          have hvl : rs.length ≤ vc := own_cap O9.out
                          have hvc : vc ≤ 2 ^ 63 - 1 := by have h := own_capmax O9.out; unfold maxLen at h; exact h
                          have hgl := (O9.out.lt g rfl).2
                          cases n with
                          | zero =>
                            rw [show atV (bids (blks rs)) last = -1 by omega]
                            clear hat
                            have HN := Lib.hid (elB_news u9 e)
                            obtain ⟨q0, q1, q2, q3, q4, q5, q6, q7, q8⟩ := nine_of (e := e) G9.out
                            go_wp2_with (first | (at_builtin; refine wpList_append_own _ rfl (.tmp 153) (.tmp 155) 22 rfl u9.heap.size 39 j0 _ 9 96 Tryz.underlying22 hj hy0 hy1 hy2 rfl (by decide) (.slice none 0 0) 0 [] rfl (World.ownsRow_nil _ _ _ _) ⟨u9.heap.size, 0, none⟩ 1 1 (elB e) rfl rfl HN.out (elB_cell _) (by unfold maxLen; omega) (by omega) (by simp) ?_; intro v' u11 hown1 hg _; rw [Nat.zero_add, List.nil_append] at hown1; obtain ⟨aB, cB, rfl⟩ := own_slice hown1; have O11 := Lib.hid ((O9.out.alloc (.cells #[.int .i64 e.1.id, .int .i64 e.1.kd, .string ⟨e.1.tx.toArray⟩, .int .i64 e.1.st, .int .i64 e.1.rf, .int .i64 e.1.lb.u, .slice e.2.1 e.2.2.1 e.2.2.2, .int .i64 e.1.lb.ap, .int .i64 e.1.lb.d] 39)).kept hg (.inr (fun e => by simp [Value.ownBlock] at e))); have C11 := Lib.hid (own_cells O11.out); have G11 := Lib.hid ((hg.block u7.heap.size (by simp; omega) (fun e => by simp [Value.ownBlock] at e)).trans (blockOver (below_alloc u9 (.cells #[.int .i64 e.1.id, .int .i64 e.1.kd, .string ⟨e.1.tx.toArray⟩, .int .i64 e.1.st, .int .i64 e.1.rf, .int .i64 e.1.lb.u, .slice e.2.1 e.2.2.1 e.2.2.2, .int .i64 e.1.lb.ap, .int .i64 e.1.lb.d] 39)) G9.out)); have U11 := Lib.hid ((U9.out.alloc (by have := U9.out.size; omega) (.cells #[.int .i64 e.1.id, .int .i64 e.1.kd, .string ⟨e.1.tx.toArray⟩, .int .i64 e.1.st, .int .i64 e.1.rf, .int .i64 e.1.lb.u, .slice e.2.1 e.2.2.1 e.2.2.2, .int .i64 e.1.lb.ap, .int .i64 e.1.lb.d] 39)).grown hg (by have := U9.out.size; simp; omega) (fun q hq => by simp [Value.ownBlock] at hq)); have R11 := Lib.hid hown1; have hb12 : u9.heap.size + 1 ≤ u11.heap.size := (by have hq := hg.size; simpa using hq); clear hown1 hg; obtain ⟨q0, q1, q2, q3, q4, q5, q6, q7, q8⟩ := nine_of (e := e) G11.out) | (at_builtin; refine wpList_append_own _ rfl (.tmp 157) (.tmp 160) 22 rfl u9.heap.size 39 j0 _ 9 96 Tryz.underlying22 hj hy0 hy1 hy2 rfl (by decide) (.slice aB 1 cB) 1 _ rfl R11.out ⟨g, 0, none⟩ rs.length _ (rs.flatMap elB) rfl (by rw [flat9_len]) C11.out (elBs_cell _) (by unfold maxLen; omega) (by omega) (by omega) ?_; intro v' u12 hown1 hg _; obtain ⟨LN, hLN⟩ : ∃ LN, (rs.take 0 ++ e :: rs.drop 0).length = LN := ⟨_, rfl⟩; have HLN2 := Lib.hid hLN; rw [show 1 + rs.length = LN from (by rw [← hLN]; simp; omega)] at hown1; clear hLN; obtain ⟨aC, cC, rfl⟩ := own_slice hown1; have G12 := Lib.hid ((hg.block u7.heap.size (by omega) (fun e => by have := (R11.out.lt _ e.symm).1; omega)).trans G11.out); have U12 := Lib.hid (U11.out.grown hg (by have := U11.out.size; omega) (fun q hq => by have := (R11.out.lt q hq).1; omega)); have R12 := Lib.hid hown1; clear hown1 hg q0 q1 q2 q3 q4 q5 q6 q7 q8; obtain ⟨q0, q1, q2, q3, q4, q5, q6, q7, q8⟩ := nine_of (e := e) G12.out))
                            go_roundw
                            case rel => exact ⟨j + 1, rs.take 0 ++ e :: rs.drop 0, d.1.id, 0 + 1, by omega, by simp; omega, by go_num, by rw [← HID.out], PN, Lib.hid (by
                              have h := own_mono R12.out (show u6.heap.size ≤ u9.heap.size from U9.out.size)
                              rw [HLN2.out]
                              simpa using h), Lib.hid (fun e' h' => by
                              rcases List.mem_append.1 h' with h' | h'
                              · exact hin.out e' (List.mem_of_mem_take h')
                              · rcases List.mem_cons.1 h' with rfl | h'
                                · exact HME.out
                                · exact hin.out e' (List.mem_of_mem_drop h')), U12⟩
                            case measure => simp [intOf]; omega
                          | succ n =>
                            rw [show atV (bids (blks rs)) last = (n : Int) by omega]
                            clear hat
                            have CT := Lib.hid (cells_take O9.out hnl)
                            by_cases hvq : vc = n + 1
                            · have HDN := Lib.hid (show rs.drop (n + 1) = [] from List.drop_eq_nil_of_le (by omega))
                              subst hvq
                              clear hvl
                              go_wp2_with (first | (at_builtin; refine wpList_append_own _ rfl (.tmp 148) (.tmp 151) 22 rfl u9.heap.size 39 j0 _ 9 96 Tryz.underlying22 hj hy0 hy1 hy2 rfl (by decide) (.slice none 0 0) 0 [] rfl (World.ownsRow_nil _ _ _ _) ⟨g, 0, none⟩ (n + 1) (n + 1) ((rs.take (n + 1)).flatMap elB) rfl (by rw [flat9_len, List.length_take, Nat.min_eq_left hnl]) CT.out (elBs_cell _) (by unfold maxLen; omega) (by omega) (Nat.le_refl _) ?_; intro v' u10 hown1 hg _; rw [Nat.zero_add, List.nil_append] at hown1; obtain ⟨aA, cA, rfl⟩ := own_slice hown1; have b10 := grown_none hg; have O10 := Lib.hid (own_over O9.out b10); have G10 := Lib.hid (blockOver b10 G9.out); have U10 := Lib.hid (bel2 U9.out b10); have hb11 := b10.size; have R10 := Lib.hid hown1; have HN := Lib.hid (elB_news u10 e); clear hown1 hg b10; obtain ⟨q0, q1, q2, q3, q4, q5, q6, q7, q8⟩ := nine_of (e := e) G10.out) | (at_builtin; refine wpList_append_own _ rfl (.tmp 153) (.tmp 155) 22 rfl u9.heap.size 39 j0 _ 9 96 Tryz.underlying22 hj hy0 hy1 hy2 rfl (by decide) (.slice aA (n + 1) cA) (n + 1) _ rfl (R10.out.alloc _) ⟨u10.heap.size, 0, none⟩ 1 1 (elB e) rfl rfl HN.out (elB_cell _) (by unfold maxLen; omega) (by omega) (by simp; omega) ?_; intro v' u11 hown1 hg _; obtain ⟨aB, cB, rfl⟩ := own_slice hown1; have O11 := Lib.hid ((O10.out.alloc (.cells #[.int .i64 e.1.id, .int .i64 e.1.kd, .string ⟨e.1.tx.toArray⟩, .int .i64 e.1.st, .int .i64 e.1.rf, .int .i64 e.1.lb.u, .slice e.2.1 e.2.2.1 e.2.2.2, .int .i64 e.1.lb.ap, .int .i64 e.1.lb.d] 39)).kept hg (.inr (fun e => by have := (R10.out.lt g e.symm).1; omega))); have C11 := Lib.hid (show ∀ (j : Nat) (u : Value), ((rs.drop (n + 1)).flatMap elB)[j]? = some u → u11.cell? ((⟨g, 0, none⟩ : Addr).add j) = some u by rw [HDN.out]; intro j u h; cases h); have G11 := Lib.hid ((hg.block u7.heap.size (by simp; omega) (fun e => by have := (R10.out.lt _ e.symm).1; omega)).trans (blockOver (below_alloc u10 (.cells #[.int .i64 e.1.id, .int .i64 e.1.kd, .string ⟨e.1.tx.toArray⟩, .int .i64 e.1.st, .int .i64 e.1.rf, .int .i64 e.1.lb.u, .slice e.2.1 e.2.2.1 e.2.2.2, .int .i64 e.1.lb.ap, .int .i64 e.1.lb.d] 39)) G10.out)); have U11 := Lib.hid ((U10.out.alloc (by have := U10.out.size; omega) (.cells #[.int .i64 e.1.id, .int .i64 e.1.kd, .string ⟨e.1.tx.toArray⟩, .int .i64 e.1.st, .int .i64 e.1.rf, .int .i64 e.1.lb.u, .slice e.2.1 e.2.2.1 e.2.2.2, .int .i64 e.1.lb.ap, .int .i64 e.1.lb.d] 39)).grown hg (by have := U10.out.size; simp; omega) (fun q hq => by have := (R10.out.lt q hq).1; omega)); have R11 := Lib.hid hown1; have hb12 : u10.heap.size + 1 ≤ u11.heap.size := (by have hq := hg.size; simpa using hq); clear hown1 hg) | (at_builtin; refine wpList_append_own _ rfl (.tmp 157) (.tmp 160) 22 rfl u9.heap.size 39 j0 _ 9 96 Tryz.underlying22 hj hy0 hy1 hy2 rfl (by decide) (.slice aB (n + 1 + 1) cB) (n + 1 + 1) _ rfl R11.out ⟨g, 0, none⟩ _ _ ((rs.drop (n + 1)).flatMap elB) rfl (by rw [flat9_len, List.length_drop]) C11.out (elBs_cell _) (by unfold maxLen; omega) (by omega) (by omega) ?_; intro v' u12 hown1 hg _; obtain ⟨LN, hLN⟩ : ∃ LN, (rs.take (n + 1) ++ e :: rs.drop (n + 1)).length = LN := ⟨_, rfl⟩; have HLN2 := Lib.hid hLN; rw [show n + 1 + 1 + (rs.length - (n + 1)) = LN from (by rw [← hLN]; simp; omega)] at hown1; clear hLN; obtain ⟨aC, cC, rfl⟩ := own_slice hown1; have G12 := Lib.hid ((hg.block u7.heap.size (by omega) (fun e => by have := (R11.out.lt _ e.symm).1; omega)).trans G11.out); have U12 := Lib.hid (U11.out.grown hg (by have := U11.out.size; omega) (fun q hq => by have := (R11.out.lt q hq).1; omega)); have R12 := Lib.hid hown1; clear hown1 hg; obtain ⟨q0, q1, q2, q3, q4, q5, q6, q7, q8⟩ := nine_of (e := e) G12.out))
                              go_roundw
                              case rel => exact ⟨j + 1, rs.take (n + 1) ++ e :: rs.drop (n + 1), d.1.id, n + 1 + 1, by omega, by simp; omega, by go_num, by rw [← HID.out], PN, Lib.hid (by
                                have h := own_mono R12.out (show u6.heap.size ≤ u9.heap.size from U9.out.size)
                                rw [List.flatMap_append, List.flatMap_cons, ← List.append_assoc, HLN2.out]
                                exact h), Lib.hid (fun e' h' => by
                                rcases List.mem_append.1 h' with h' | h'
                                · exact hin.out e' (List.mem_of_mem_take h')
                                · rcases List.mem_cons.1 h' with rfl | h'
                                  · exact HME.out
                                  · exact hin.out e' (List.mem_of_mem_drop h')), U12⟩
                              case measure => simp [intOf]; omega
                            · go_wp2_with (first | (at_builtin; refine wpList_append_own _ rfl (.tmp 148) (.tmp 151) 22 rfl u9.heap.size 39 j0 _ 9 96 Tryz.underlying22 hj hy0 hy1 hy2 rfl (by decide) (.slice none 0 0) 0 [] rfl (World.ownsRow_nil _ _ _ _) ⟨g, 0, none⟩ (n + 1) vc ((rs.take (n + 1)).flatMap elB) rfl (by rw [flat9_len, List.length_take, Nat.min_eq_left hnl]) CT.out (elBs_cell _) (by unfold maxLen; omega) (by omega) (Nat.le_refl _) ?_; intro v' u10 hown1 hg _; rw [Nat.zero_add, List.nil_append] at hown1; obtain ⟨aA, cA, rfl⟩ := own_slice hown1; have b10 := grown_none hg; have O10 := Lib.hid (own_over O9.out b10); have G10 := Lib.hid (blockOver b10 G9.out); have U10 := Lib.hid (bel2 U9.out b10); have hb11 := b10.size; have R10 := Lib.hid hown1; have HN := Lib.hid (elB_news u10 e); clear hown1 hg b10; obtain ⟨q0, q1, q2, q3, q4, q5, q6, q7, q8⟩ := nine_of (e := e) G10.out) | (at_builtin; refine wpList_append_own _ rfl (.tmp 153) (.tmp 155) 22 rfl u9.heap.size 39 j0 _ 9 96 Tryz.underlying22 hj hy0 hy1 hy2 rfl (by decide) (.slice aA (n + 1) cA) (n + 1) _ rfl (R10.out.alloc _) ⟨u10.heap.size, 0, none⟩ 1 1 (elB e) rfl rfl HN.out (elB_cell _) (by unfold maxLen; omega) (by omega) (by simp; omega) ?_; intro v' u11 hown1 hg _; obtain ⟨aB, cB, rfl⟩ := own_slice hown1; have O11 := Lib.hid ((O10.out.alloc (.cells #[.int .i64 e.1.id, .int .i64 e.1.kd, .string ⟨e.1.tx.toArray⟩, .int .i64 e.1.st, .int .i64 e.1.rf, .int .i64 e.1.lb.u, .slice e.2.1 e.2.2.1 e.2.2.2, .int .i64 e.1.lb.ap, .int .i64 e.1.lb.d] 39)).kept hg (.inr (fun e => by have := (R10.out.lt g e.symm).1; omega))); have C11 := Lib.hid (cells_drop O11.out hnl); have G11 := Lib.hid ((hg.block u7.heap.size (by simp; omega) (fun e => by have := (R10.out.lt _ e.symm).1; omega)).trans (blockOver (below_alloc u10 (.cells #[.int .i64 e.1.id, .int .i64 e.1.kd, .string ⟨e.1.tx.toArray⟩, .int .i64 e.1.st, .int .i64 e.1.rf, .int .i64 e.1.lb.u, .slice e.2.1 e.2.2.1 e.2.2.2, .int .i64 e.1.lb.ap, .int .i64 e.1.lb.d] 39)) G10.out)); have U11 := Lib.hid ((U10.out.alloc (by have := U10.out.size; omega) (.cells #[.int .i64 e.1.id, .int .i64 e.1.kd, .string ⟨e.1.tx.toArray⟩, .int .i64 e.1.st, .int .i64 e.1.rf, .int .i64 e.1.lb.u, .slice e.2.1 e.2.2.1 e.2.2.2, .int .i64 e.1.lb.ap, .int .i64 e.1.lb.d] 39)).grown hg (by have := U10.out.size; simp; omega) (fun q hq => by have := (R10.out.lt q hq).1; omega)); have R11 := Lib.hid hown1; have hb12 : u10.heap.size + 1 ≤ u11.heap.size := (by have hq := hg.size; simpa using hq); clear hown1 hg) | (at_builtin; refine wpList_append_own _ rfl (.tmp 157) (.tmp 160) 22 rfl u9.heap.size 39 j0 _ 9 96 Tryz.underlying22 hj hy0 hy1 hy2 rfl (by decide) (.slice aB (n + 1 + 1) cB) (n + 1 + 1) _ rfl R11.out ⟨g, (n + 1) * 9, none⟩ _ _ ((rs.drop (n + 1)).flatMap elB) rfl (by rw [flat9_len, List.length_drop]) C11.out (elBs_cell _) (by unfold maxLen; omega) (by omega) (by omega) ?_; intro v' u12 hown1 hg _; obtain ⟨LN, hLN⟩ : ∃ LN, (rs.take (n + 1) ++ e :: rs.drop (n + 1)).length = LN := ⟨_, rfl⟩; have HLN2 := Lib.hid hLN; rw [show n + 1 + 1 + (rs.length - (n + 1)) = LN from (by rw [← hLN]; simp; omega)] at hown1; clear hLN; obtain ⟨aC, cC, rfl⟩ := own_slice hown1; have G12 := Lib.hid ((hg.block u7.heap.size (by omega) (fun e => by have := (R11.out.lt _ e.symm).1; omega)).trans G11.out); have U12 := Lib.hid (U11.out.grown hg (by have := U11.out.size; omega) (fun q hq => by have := (R11.out.lt q hq).1; omega)); have R12 := Lib.hid hown1; clear hown1 hg; obtain ⟨q0, q1, q2, q3, q4, q5, q6, q7, q8⟩ := nine_of (e := e) G12.out))
                              go_roundw
                              case rel => exact ⟨j + 1, rs.take (n + 1) ++ e :: rs.drop (n + 1), d.1.id, n + 1 + 1, by omega, by simp; omega, by go_num, by rw [← HID.out], PN, Lib.hid (by
                                have h := own_mono R12.out (show u6.heap.size ≤ u9.heap.size from U9.out.size)
                                rw [List.flatMap_append, List.flatMap_cons, ← List.append_assoc, HLN2.out]
                                exact h), Lib.hid (fun e' h' => by
                                rcases List.mem_append.1 h' with h' | h'
                                · exact hin.out e' (List.mem_of_mem_take h')
                                · rcases List.mem_cons.1 h' with rfl | h'
                                  · exact HME.out
                                  · exact hin.out e' (List.mem_of_mem_drop h')), U12⟩
                              case measure => simp [intOf]; omega
                  · obtain rfl : n3 = j := by omega
                    have htl : r.take n3 = r := List.take_of_length_le (by rw [HLF.out]; exact Nat.le_refl _)
                    rw [htl] at hp3
                    have HBL := Lib.hid (show blks rs = mres (blks p) (blks q) (blks r) by
                      obtain ⟨o, o1, o2, o3, o4, o5⟩ := hp3.out
                      unfold mres
                      rw [o2, HO.out]
                      unfold ordL
                      rw [o1])
                    have IB := Lib.hid (blks_of_own hown.out (fun e he => by
                      rcases hin.out e he with h | h
                      · exact (J2.out.2.2.2.1 e h).over hb.out
                      · exact (J3.out.2.2.2.1 e h).over hb.out))
                    have CI := Lib.hid (CG.out.over hb.out)
                    have UF := Lib.hid (bel2 U6.out hb.out)
                    have OWF := Lib.hid (own_mono hown.out (show w.heap.size ≤ u6.heap.size from U6.out.size))
                    have INF : Hid (FromTwo q r rs) := Lib.hid hin.out
                    clear htl hp3 hown hin hb
                    go_wp2
                    go_ret3
                    rw [HR.out]
                    exact ⟨_, _, rs, _, _, _, rfl, HBL.out, IB.out, OWF.out, INF.out, CI.out, UF.out⟩
          · have HO := Lib.hid (show mord (blks p) (blks q) (blks r) = ordL (hasM (blks p) (blks q) (blks r)) (bids (blks r)) (bids (blks q)) by unfold mord; rw [hmv]; rfl)
            clear hmv
            have hcl := J3.out.2.2.1
            have hnl := J3.out.2.1
            have hcf := J2.out.2.2.1
            have hnf := J2.out.2.1
            have HLL := Lib.hid J3.out.1
            have HLF := Lib.hid J2.out.1
            unfold maxLen at hcl hcf
            go_wp2_with fail
            go_loopw [23, 24, 25, 26, 22] (fun i _ _ _ v wr => ∃ (k : Nat) (rs : List BE), k ≤ n3 ∧ rs.length ≤ k ∧ i = .int .i64 k ∧ Hid (blks rs = ((bids (blks (r.take k))).filter (hasM (blks p) (blks q) (blks r))).filterMap (mrg (blks p) (blks q) (blks r))) ∧ Hid (wr.ownsRow u6.heap.size 39 9 v rs.length (rs.flatMap elB)) ∧ Hid (∀ e ∈ rs, e ∈ q ∨ e ∈ r) ∧ Hid (Below u6.heap.size u6 wr)) (fun i _ _ _ _ _ => n3 - (intOf i).toNat)
            case atStart => exact ⟨0, [], Nat.zero_le _, Nat.le_refl _, rfl, Lib.hid (by simp [blks, bids]), Lib.hid (World.ownsRow_nil _ _ _ _), Lib.hid (by simp), Lib.hid (Below.refl _ _)⟩
            case round =>
              obtain ⟨k, rs, hk, hrk, rfl, hrs, hown, hin, hb⟩ := hrel
              obtain ⟨va, vc, rfl⟩ := own_slice hown.out
              by_cases hlt : k < n3
              · obtain ⟨bl, offl, d, hae, hd, hokd, h9⟩ := (J3.out.over hb.out).at_ hlt
                have HD := Lib.hid (bids_take_succ hd)
                obtain ⟨p0, p1, p2, p3, p4, p5, p6, p7, p8⟩ := h9
                have g1 : (k : Int) < n3 := by omega
                have K := Lib.hid (chosen_any a1 n1 c1 p a2 n2 c2 q a3 n3 c3 r d.1.id wr (J1.out.over hb.out) (J2.out.over hb.out) (J3.out.over hb.out))
                subst hae
                clear hd hokd p1 p2 p3 p4 p5 p6 p7 p8
                go_wp2_with fail
                refine K.out.mono ?_
                rintro x u7 ⟨e, rfl, hch, hok, b⟩
                have hb7 := b.size
                have hb8 := hb.out.size
                have U7 := Lib.hid (bel2 (bel2 hb.out b) (below_alloc u7 (.cells #[.int .i64 e.1.id, .int .i64 e.1.kd, .string ⟨e.1.tx.toArray⟩, .int .i64 e.1.st, .int .i64 e.1.rf, .int .i64 e.1.lb.u, .slice e.2.1 e.2.2.1 e.2.2.2, .int .i64 e.1.lb.ap, .int .i64 e.1.lb.d] 39)))
                have O7 := Lib.hid ((own_over hown.out b).alloc (.cells #[.int .i64 e.1.id, .int .i64 e.1.kd, .string ⟨e.1.tx.toArray⟩, .int .i64 e.1.st, .int .i64 e.1.rf, .int .i64 e.1.lb.u, .slice e.2.1 e.2.2.1 e.2.2.2, .int .i64 e.1.lb.ap, .int .i64 e.1.lb.d] 39))
                have HCH := Lib.hid hch
                clear b K p0 hch hok
                generalize cfl (blks p) (blks q) (blks r) d.1.id = cz at *
                unfold bv blkV
                cases hm : hasM (blks p) (blks q) (blks r) d.1.id
                · have MN := Lib.hid (show ((bids (blks (r.take (k + 1)))).filter (hasM (blks p) (blks q) (blks r))) = ((bids (blks (r.take k))).filter (hasM (blks p) (blks q) (blks r))) by rw [HD.out, List.filter_append]; simp [hm])
                  clear hm
                  go_wp2
                  go_roundw
                  case rel => exact ⟨k + 1, rs, by omega, by omega, by go_num, Lib.hid (by rw [MN.out]; exact hrs.out), O7, hin, U7⟩
                  case measure => simp [intOf]; omega
                · have MN := Lib.hid (show blks (rs ++ [e]) = ((bids (blks (r.take (k + 1)))).filter (hasM (blks p) (blks q) (blks r))).filterMap (mrg (blks p) (blks q) (blks r)) by
                    rw [HD.out, List.filter_append, List.filterMap_append, ← hrs.out, show [d.1.id].filter (hasM (blks p) (blks q) (blks r)) = [d.1.id] by simp [hm], show [d.1.id].filterMap (mrg (blks p) (blks q) (blks r)) = [e.1] by simp [(HCH.out hm).1]]
                    simp [blks])
                  have HME := Lib.hid ((HCH.out hm).2.2)
                  clear hm
                  have hnews := Lib.hid (new_news (u7.alloc (.cells #[.int .i64 e.1.id, .int .i64 e.1.kd, .string ⟨e.1.tx.toArray⟩, .int .i64 e.1.st, .int .i64 e.1.rf, .int .i64 e.1.lb.u, .slice e.2.1 e.2.2.1 e.2.2.2, .int .i64 e.1.lb.ap, .int .i64 e.1.lb.d] 39)) (u7.heap.size + 1) (by simp) (elB e) 39)
                  go_wp2_with (at_builtin; refine wpList_append_own _ rfl _ _ 22 rfl u6.heap.size 39 j0 _ 9 96 Tryz.underlying22 hj hy0 hy1 hy2 rfl (by decide) (.slice va rs.length vc) rs.length _ rfl (O7.out.alloc _) ⟨u7.heap.size + 1, 0, none⟩ 1 1 (elB e) rfl rfl hnews.out (elB_cell _) (by unfold maxLen; omega) (by omega) (by simp; omega) ?_; intro v' w3 hown1 hg _; obtain ⟨a', c', rfl⟩ := own_slice hown1)
                  have B3 := Lib.hid ((U7.out.alloc (by simp; omega) (.cells (elB e).toArray 39)).grown hg (by simp; omega) (fun q hq => (O7.out.lt q hq).1))
                  have IN3 : Hid (∀ e' ∈ rs ++ [e], e' ∈ q ∨ e' ∈ r) := Lib.hid (fun e' h' => by
                    rcases List.mem_append.1 h' with h' | h'
                    · exact hin.out e' h'
                    · rw [List.mem_singleton] at h'; rw [h']; exact HME.out)
                  have OWN3 := Lib.hid hown1
                  clear hown1 hg hnews
                  go_wp2
                  go_roundw
                  case rel => exact ⟨k + 1, rs ++ [e], by omega, by simp; omega, by go_num, MN, Lib.hid (by rw [List.length_append, List.flatMap_append]; simpa using OWN3.out), IN3, B3⟩
                  case measure => simp [intOf]; omega
              · obtain rfl : n3 = k := by omega
                have htl : r.take n3 = r := List.take_of_length_le (by rw [HLL.out]; exact Nat.le_refl _)
                rw [htl] at hrs
                have P0 := Lib.hid (p3_start GR.out hrs.out)
                clear htl hrs
                go_wp2
                go_loopw [28, 29, 30, 31, 32, 33, 27, 22] (fun i _ _ _ _ _ l v wr => ∃ (j : Nat) (rs : List BE) (last : Int) (n : Nat), j ≤ n2 ∧ rs.length ≤ n3 + j ∧ i = .int .i64 j ∧ l = .int .i64 last ∧ Hid (P3 (blks p) (blks q) (blks r) (bids (blks r)) (bids (blks (q.take j))) rs last n) ∧ Hid (wr.ownsRow u6.heap.size 39 9 v rs.length (rs.flatMap elB)) ∧ Hid (∀ e ∈ rs, e ∈ q ∨ e ∈ r) ∧ Hid (Below u6.heap.size u6 wr)) (fun i _ _ _ _ _ _ _ _ => n2 - (intOf i).toNat)
                case atStart => exact ⟨0, rs, -1, 0, Nat.zero_le _, by omega, rfl, rfl, P0, hown, hin, hb⟩
                case round =>
                  clear hb hown hin P0 hrk
                  obtain ⟨j, rs, last, n, hjk, hrk, rfl, rfl, hp3, hown, hin, hb⟩ := hrel
                  obtain ⟨va, vc, rfl⟩ := own_slice hown.out
                  by_cases hlt : j < n2
                  · obtain ⟨bl, offl, d, hae, hd, hokd, h9⟩ := (J2.out.over hb.out).at_ hlt
                    have HD := Lib.hid (bids_take_succ hd)
                    have HDF := Lib.hid (show d.1.id ∉ bids (blks (q.take j)) from not_earlier NQ.out hd)
                    obtain ⟨p0, p1, p2, p3, p4, p5, p6, p7, p8⟩ := h9
                    have g1 : (j : Int) < n2 := by omega
                    have K := Lib.hid (chosen_any a1 n1 c1 p a2 n2 c2 q a3 n3 c3 r d.1.id wr (J1.out.over hb.out) (J2.out.over hb.out) (J3.out.over hb.out))
                    subst hae
                    clear hd hokd p1 p2 p3 p4 p5 p6 p7 p8
                    go_wp2_with fail
                    refine K.out.mono ?_
                    rintro x u7 ⟨e, rfl, hch, hok, b⟩
                    have hb7 := b.size
                    have hb8 := hb.out.size
                    have U7 := Lib.hid (bel2 (bel2 hb.out b) (below_alloc u7 (.cells #[.int .i64 e.1.id, .int .i64 e.1.kd, .string ⟨e.1.tx.toArray⟩, .int .i64 e.1.st, .int .i64 e.1.rf, .int .i64 e.1.lb.u, .slice e.2.1 e.2.2.1 e.2.2.2, .int .i64 e.1.lb.ap, .int .i64 e.1.lb.d] 39)))
                    have O7 := Lib.hid ((own_over hown.out b).alloc (.cells #[.int .i64 e.1.id, .int .i64 e.1.kd, .string ⟨e.1.tx.toArray⟩, .int .i64 e.1.st, .int .i64 e.1.rf, .int .i64 e.1.lb.u, .slice e.2.1 e.2.2.1 e.2.2.2, .int .i64 e.1.lb.ap, .int .i64 e.1.lb.d] 39))
                    have G7 := Lib.hid (heap_alloc_new u7 (.cells #[.int .i64 e.1.id, .int .i64 e.1.kd, .string ⟨e.1.tx.toArray⟩, .int .i64 e.1.st, .int .i64 e.1.rf, .int .i64 e.1.lb.u, .slice e.2.1 e.2.2.1 e.2.2.2, .int .i64 e.1.lb.ap, .int .i64 e.1.lb.d] 39))
                    have HCH := Lib.hid hch
                    clear b K p0 hch hok
                    generalize cfl (blks p) (blks q) (blks r) d.1.id = cz at *
                    unfold bv blkV
                    cases hm : hasM (blks p) (blks q) (blks r) d.1.id
                    · have PN := Lib.hid (p3_no NR.out hp3.out hm)
                      rw [← HD.out] at PN
                      clear hm
                      go_wp2
                      go_roundw
                      case rel => exact ⟨j + 1, rs, last, n, by omega, by omega, by go_num, rfl, PN, O7, hin, U7⟩
                      case measure => simp [intOf]; omega
                    · obtain ⟨hmr, hid, hme⟩ := HCH.out hm
                      have HM := Lib.hid hm
                      have HMR2 := Lib.hid hmr
                      have HID := Lib.hid hid
                      have HME := Lib.hid hme
                      clear HCH hm hmr hid hme
                      go_wp2_with fail
                      refine (refat_any _ _ _ r e.1.id _ (J3.out.over U7.out)).mono ?_
                      rintro x u8 ⟨rfl, b⟩
                      have U8 := Lib.hid (bel2 U7.out b)
                      have O8 := Lib.hid (own_over O7.out b)
                      have G8 := Lib.hid (blockOver b G7.out)
                      have hb9 := b.size
                      have hx7 : u7.heap.size + 1 ≤ u8.heap.size := by simpa using hb9
                      clear b
                      cases hf : idxI (bids (blks r)) e.1.id with
                      | some k2 =>
                        rw [atV_some hf]
                        have hmem : d.1.id ∈ bids (blks r) := by rw [← HID.out]; exact idxI_mem hf
                        obtain ⟨n2', PI⟩ := p3_in NR.out hp3.out HM.out hmem
                        have PI := Lib.hid PI
                        rw [← HD.out] at PI
                        obtain ⟨q0, q1, q2, q3, q4, q5, q6, q7, q8⟩ := nine_of (e := e) G8.out
                        clear hf hmem q1 q2 q3 q4 q5 q6 q7 q8
                        go_wp2
                        go_roundw
                        case rel => exact ⟨j + 1, rs, d.1.id, n2', by omega, by omega, by go_num, by rw [← HID.out], PI, O8, hin, U8⟩
                        case measure => simp [intOf]; omega
                      | none =>
                        rw [atV_none hf]
                        have hmem : d.1.id ∉ bids (blks r) := by rw [← HID.out]; exact idxI_none.1 hf
                        have PN := Lib.hid (p3_new NR.out hp3.out HM.out hmem HDF.out HMR2.out)
                        rw [← HD.out] at PN
                        obtain ⟨hat, hnl⟩ := p3_len hp3.out
                        have IB := Lib.hid (blks_of_own O8.out (fun e he => by
                          rcases hin.out e he with h | h
                          · exact (J2.out.2.2.2.1 e h).over U8.out
                          · exact (J3.out.2.2.2.1 e h).over U8.out))
                        clear hf hmem
                        go_wp2_with fail
                        refine (refat_any va _ vc rs last u8 IB.out).mono ?_
                        rintro x u9 ⟨rfl, b⟩
                        have U9 := Lib.hid (bel2 U8.out b)
                        have O9 := Lib.hid (own_over O8.out b)
                        have G9 := Lib.hid (blockOver b G8.out)
                        have hb10 := b.size
                        clear b IB
                        rcases own_what O9.out with ⟨hnil, h0, -⟩ | ⟨g, cap, hgs⟩
                        · have hrs0 : rs = [] := List.length_eq_zero_iff.1 h0
                          subst hrs0
                          have hn0 : n = 0 := by simp at hnl; exact hnl
                          subst hn0
                          injection hnil with hna hnb hnc
                          subst hna hnc
                          rw [show atV (bids (blks [])) last = -1 by omega]
                          clear hat h0 hnb
                          have HN := Lib.hid (elB_news u9 e)
                          obtain ⟨q0, q1, q2, q3, q4, q5, q6, q7, q8⟩ := nine_of (e := e) G9.out
                          go_wp2_with (first | (at_builtin; refine wpList_append_own _ rfl (.tmp 153) (.tmp 155) 22 rfl u9.heap.size 39 j0 _ 9 96 Tryz.underlying22 hj hy0 hy1 hy2 rfl (by decide) (.slice none 0 0) 0 [] rfl (World.ownsRow_nil _ _ _ _) ⟨u9.heap.size, 0, none⟩ 1 1 (elB e) rfl rfl HN.out (elB_cell _) (by unfold maxLen; omega) (by omega) (by simp) ?_; intro v' u11 hown1 hg _; rw [Nat.zero_add, List.nil_append] at hown1; obtain ⟨aB, cB, rfl⟩ := own_slice hown1; have G11 := Lib.hid ((hg.block u7.heap.size (by simp; omega) (fun e => by simp [Value.ownBlock] at e)).trans (blockOver (below_alloc u9 (.cells #[.int .i64 e.1.id, .int .i64 e.1.kd, .string ⟨e.1.tx.toArray⟩, .int .i64 e.1.st, .int .i64 e.1.rf, .int .i64 e.1.lb.u, .slice e.2.1 e.2.2.1 e.2.2.2, .int .i64 e.1.lb.ap, .int .i64 e.1.lb.d] 39)) G9.out)); have U11 := Lib.hid ((U9.out.alloc (by have := U9.out.size; omega) (.cells #[.int .i64 e.1.id, .int .i64 e.1.kd, .string ⟨e.1.tx.toArray⟩, .int .i64 e.1.st, .int .i64 e.1.rf, .int .i64 e.1.lb.u, .slice e.2.1 e.2.2.1 e.2.2.2, .int .i64 e.1.lb.ap, .int .i64 e.1.lb.d] 39)).grown hg (by have := U9.out.size; simp; omega) (fun q hq => by simp [Value.ownBlock] at hq)); have R11 := Lib.hid hown1; have hb12 : u9.heap.size + 1 ≤ u11.heap.size := (by have hq := hg.size; simpa using hq); clear hown1 hg; obtain ⟨q0, q1, q2, q3, q4, q5, q6, q7, q8⟩ := nine_of (e := e) G11.out) | (at_builtin; refine wpList_append_own_none rfl (.tmp 157) (.tmp 160) 22 rfl u9.heap.size 39 j0 9 Tryz.underlying22 hj (.slice aB 1 cB) _ _ rfl R11.out rfl ?_))
                          go_roundw
                          case rel => exact ⟨j + 1, [].take 0 ++ e :: [].drop 0, d.1.id, 0 + 1, by omega, by simp; omega, by go_num, by rw [← HID.out], PN, Lib.hid (by
                            have h := own_mono R11.out (show u6.heap.size ≤ u9.heap.size from U9.out.size)
                            simpa using h), Lib.hid (fun e' h' => by
                            simp at h'
                            rw [h']; exact HME.out), U11⟩
                          case measure => simp [intOf]; omega
                        · injection hgs with hga hgb hgc
                          subst hga hgc
                          have hvl : rs.length ≤ vc := own_cap O9.out
                          have hvc : vc ≤ 2 ^ 63 - 1 := by have h := own_capmax O9.out; unfold maxLen at h; exact h
                          have hgl := (O9.out.lt g rfl).2
                          cases n with
                          | zero =>
                            rw [show atV (bids (blks rs)) last = -1 by omega]
                            clear hat
                            have HN := Lib.hid (elB_news u9 e)
                            obtain ⟨q0, q1, q2, q3, q4, q5, q6, q7, q8⟩ := nine_of (e := e) G9.out
                            go_wp2_with (first | (at_builtin; refine wpList_append_own _ rfl (.tmp 153) (.tmp 155) 22 rfl u9.heap.size 39 j0 _ 9 96 Tryz.underlying22 hj hy0 hy1 hy2 rfl (by decide) (.slice none 0 0) 0 [] rfl (World.ownsRow_nil _ _ _ _) ⟨u9.heap.size, 0, none⟩ 1 1 (elB e) rfl rfl HN.out (elB_cell _) (by unfold maxLen; omega) (by omega) (by simp) ?_; intro v' u11 hown1 hg _; rw [Nat.zero_add, List.nil_append] at hown1; obtain ⟨aB, cB, rfl⟩ := own_slice hown1; have O11 := Lib.hid ((O9.out.alloc (.cells #[.int .i64 e.1.id, .int .i64 e.1.kd, .string ⟨e.1.tx.toArray⟩, .int .i64 e.1.st, .int .i64 e.1.rf, .int .i64 e.1.lb.u, .slice e.2.1 e.2.2.1 e.2.2.2, .int .i64 e.1.lb.ap, .int .i64 e.1.lb.d] 39)).kept hg (.inr (fun e => by simp [Value.ownBlock] at e))); have C11 := Lib.hid (own_cells O11.out); have G11 := Lib.hid ((hg.block u7.heap.size (by simp; omega) (fun e => by simp [Value.ownBlock] at e)).trans (blockOver (below_alloc u9 (.cells #[.int .i64 e.1.id, .int .i64 e.1.kd, .string ⟨e.1.tx.toArray⟩, .int .i64 e.1.st, .int .i64 e.1.rf, .int .i64 e.1.lb.u, .slice e.2.1 e.2.2.1 e.2.2.2, .int .i64 e.1.lb.ap, .int .i64 e.1.lb.d] 39)) G9.out)); have U11 := Lib.hid ((U9.out.alloc (by have := U9.out.size; omega) (.cells #[.int .i64 e.1.id, .int .i64 e.1.kd, .string ⟨e.1.tx.toArray⟩, .int .i64 e.1.st, .int .i64 e.1.rf, .int .i64 e.1.lb.u, .slice e.2.1 e.2.2.1 e.2.2.2, .int .i64 e.1.lb.ap, .int .i64 e.1.lb.d] 39)).grown hg (by have := U9.out.size; simp; omega) (fun q hq => by simp [Value.ownBlock] at hq)); have R11 := Lib.hid hown1; have hb12 : u9.heap.size + 1 ≤ u11.heap.size := (by have hq := hg.size; simpa using hq); clear hown1 hg; obtain ⟨q0, q1, q2, q3, q4, q5, q6, q7, q8⟩ := nine_of (e := e) G11.out) | (at_builtin; refine wpList_append_own _ rfl (.tmp 157) (.tmp 160) 22 rfl u9.heap.size 39 j0 _ 9 96 Tryz.underlying22 hj hy0 hy1 hy2 rfl (by decide) (.slice aB 1 cB) 1 _ rfl R11.out ⟨g, 0, none⟩ rs.length _ (rs.flatMap elB) rfl (by rw [flat9_len]) C11.out (elBs_cell _) (by unfold maxLen; omega) (by omega) (by omega) ?_; intro v' u12 hown1 hg _; obtain ⟨LN, hLN⟩ : ∃ LN, (rs.take 0 ++ e :: rs.drop 0).length = LN := ⟨_, rfl⟩; have HLN2 := Lib.hid hLN; rw [show 1 + rs.length = LN from (by rw [← hLN]; simp; omega)] at hown1; clear hLN; obtain ⟨aC, cC, rfl⟩ := own_slice hown1; have G12 := Lib.hid ((hg.block u7.heap.size (by omega) (fun e => by have := (R11.out.lt _ e.symm).1; omega)).trans G11.out); have U12 := Lib.hid (U11.out.grown hg (by have := U11.out.size; omega) (fun q hq => by have := (R11.out.lt q hq).1; omega)); have R12 := Lib.hid hown1; clear hown1 hg q0 q1 q2 q3 q4 q5 q6 q7 q8; obtain ⟨q0, q1, q2, q3, q4, q5, q6, q7, q8⟩ := nine_of (e := e) G12.out))
                            go_roundw
                            case rel => exact ⟨j + 1, rs.take 0 ++ e :: rs.drop 0, d.1.id, 0 + 1, by omega, by simp; omega, by go_num, by rw [← HID.out], PN, Lib.hid (by
                              have h := own_mono R12.out (show u6.heap.size ≤ u9.heap.size from U9.out.size)
                              rw [HLN2.out]
                              simpa using h), Lib.hid (fun e' h' => by
                              rcases List.mem_append.1 h' with h' | h'
                              · exact hin.out e' (List.mem_of_mem_take h')
                              · rcases List.mem_cons.1 h' with rfl | h'
                                · exact HME.out
                                · exact hin.out e' (List.mem_of_mem_drop h')), U12⟩
                            case measure => simp [intOf]; omega
                          | succ n =>
                            rw [show atV (bids (blks rs)) last = (n : Int) by omega]
                            clear hat
                            have CT := Lib.hid (cells_take O9.out hnl)
                            by_cases hvq : vc = n + 1
                            · have HDN := Lib.hid (show rs.drop (n + 1) = [] from List.drop_eq_nil_of_le (by omega))
                              subst hvq
                              clear hvl
                              go_wp2_with (first | (at_builtin; refine wpList_append_own _ rfl (.tmp 148) (.tmp 151) 22 rfl u9.heap.size 39 j0 _ 9 96 Tryz.underlying22 hj hy0 hy1 hy2 rfl (by decide) (.slice none 0 0) 0 [] rfl (World.ownsRow_nil _ _ _ _) ⟨g, 0, none⟩ (n + 1) (n + 1) ((rs.take (n + 1)).flatMap elB) rfl (by rw [flat9_len, List.length_take, Nat.min_eq_left hnl]) CT.out (elBs_cell _) (by unfold maxLen; omega) (by omega) (Nat.le_refl _) ?_; intro v' u10 hown1 hg _; rw [Nat.zero_add, List.nil_append] at hown1; obtain ⟨aA, cA, rfl⟩ := own_slice hown1; have b10 := grown_none hg; have O10 := Lib.hid (own_over O9.out b10); have G10 := Lib.hid (blockOver b10 G9.out); have U10 := Lib.hid (bel2 U9.out b10); have hb11 := b10.size; have R10 := Lib.hid hown1; have HN := Lib.hid (elB_news u10 e); clear hown1 hg b10; obtain ⟨q0, q1, q2, q3, q4, q5, q6, q7, q8⟩ := nine_of (e := e) G10.out) | (at_builtin; refine wpList_append_own _ rfl (.tmp 153) (.tmp 155) 22 rfl u9.heap.size 39 j0 _ 9 96 Tryz.underlying22 hj hy0 hy1 hy2 rfl (by decide) (.slice aA (n + 1) cA) (n + 1) _ rfl (R10.out.alloc _) ⟨u10.heap.size, 0, none⟩ 1 1 (elB e) rfl rfl HN.out (elB_cell _) (by unfold maxLen; omega) (by omega) (by simp; omega) ?_; intro v' u11 hown1 hg _; obtain ⟨aB, cB, rfl⟩ := own_slice hown1; have O11 := Lib.hid ((O10.out.alloc (.cells #[.int .i64 e.1.id, .int .i64 e.1.kd, .string ⟨e.1.tx.toArray⟩, .int .i64 e.1.st, .int .i64 e.1.rf, .int .i64 e.1.lb.u, .slice e.2.1 e.2.2.1 e.2.2.2, .int .i64 e.1.lb.ap, .int .i64 e.1.lb.d] 39)).kept hg (.inr (fun e => by have := (R10.out.lt g e.symm).1; omega))); have C11 := Lib.hid (show ∀ (j : Nat) (u : Value), ((rs.drop (n + 1)).flatMap elB)[j]? = some u → u11.cell? ((⟨g, 0, none⟩ : Addr).add j) = some u by rw [HDN.out]; intro j u h; cases h); have G11 := Lib.hid ((hg.block u7.heap.size (by simp; omega) (fun e => by have := (R10.out.lt _ e.symm).1; omega)).trans (blockOver (below_alloc u10 (.cells #[.int .i64 e.1.id, .int .i64 e.1.kd, .string ⟨e.1.tx.toArray⟩, .int .i64 e.1.st, .int .i64 e.1.rf, .int .i64 e.1.lb.u, .slice e.2.1 e.2.2.1 e.2.2.2, .int .i64 e.1.lb.ap, .int .i64 e.1.lb.d] 39)) G10.out)); have U11 := Lib.hid ((U10.out.alloc (by have := U10.out.size; omega) (.cells #[.int .i64 e.1.id, .int .i64 e.1.kd, .string ⟨e.1.tx.toArray⟩, .int .i64 e.1.st, .int .i64 e.1.rf, .int .i64 e.1.lb.u, .slice e.2.1 e.2.2.1 e.2.2.2, .int .i64 e.1.lb.ap, .int .i64 e.1.lb.d] 39)).grown hg (by have := U10.out.size; simp; omega) (fun q hq => by have := (R10.out.lt q hq).1; omega)); have R11 := Lib.hid hown1; have hb12 : u10.heap.size + 1 ≤ u11.heap.size := (by have hq := hg.size; simpa using hq); clear hown1 hg) | (at_builtin; refine wpList_append_own _ rfl (.tmp 157) (.tmp 160) 22 rfl u9.heap.size 39 j0 _ 9 96 Tryz.underlying22 hj hy0 hy1 hy2 rfl (by decide) (.slice aB (n + 1 + 1) cB) (n + 1 + 1) _ rfl R11.out ⟨g, 0, none⟩ _ _ ((rs.drop (n + 1)).flatMap elB) rfl (by rw [flat9_len, List.length_drop]) C11.out (elBs_cell _) (by unfold maxLen; omega) (by omega) (by omega) ?_; intro v' u12 hown1 hg _; obtain ⟨LN, hLN⟩ : ∃ LN, (rs.take (n + 1) ++ e :: rs.drop (n + 1)).length = LN := ⟨_, rfl⟩; have HLN2 := Lib.hid hLN; rw [show n + 1 + 1 + (rs.length - (n + 1)) = LN from (by rw [← hLN]; simp; omega)] at hown1; clear hLN; obtain ⟨aC, cC, rfl⟩ := own_slice hown1; have G12 := Lib.hid ((hg.block u7.heap.size (by omega) (fun e => by have := (R11.out.lt _ e.symm).1; omega)).trans G11.out); have U12 := Lib.hid (U11.out.grown hg (by have := U11.out.size; omega) (fun q hq => by have := (R11.out.lt q hq).1; omega)); have R12 := Lib.hid hown1; clear hown1 hg; obtain ⟨q0, q1, q2, q3, q4, q5, q6, q7, q8⟩ := nine_of (e := e) G12.out))
                              go_roundw
                              case rel => exact ⟨j + 1, rs.take (n + 1) ++ e :: rs.drop (n + 1), d.1.id, n + 1 + 1, by omega, by simp; omega, by go_num, by rw [← HID.out], PN, Lib.hid (by
                                have h := own_mono R12.out (show u6.heap.size ≤ u9.heap.size from U9.out.size)
                                rw [List.flatMap_append, List.flatMap_cons, ← List.append_assoc, HLN2.out]
                                exact h), Lib.hid (fun e' h' => by
                                rcases List.mem_append.1 h' with h' | h'
                                · exact hin.out e' (List.mem_of_mem_take h')
                                · rcases List.mem_cons.1 h' with rfl | h'
                                  · exact HME.out
                                  · exact hin.out e' (List.mem_of_mem_drop h')), U12⟩
                              case measure => simp [intOf]; omega
                            · go_wp2_with (first | (at_builtin; refine wpList_append_own _ rfl (.tmp 148) (.tmp 151) 22 rfl u9.heap.size 39 j0 _ 9 96 Tryz.underlying22 hj hy0 hy1 hy2 rfl (by decide) (.slice none 0 0) 0 [] rfl (World.ownsRow_nil _ _ _ _) ⟨g, 0, none⟩ (n + 1) vc ((rs.take (n + 1)).flatMap elB) rfl (by rw [flat9_len, List.length_take, Nat.min_eq_left hnl]) CT.out (elBs_cell _) (by unfold maxLen; omega) (by omega) (Nat.le_refl _) ?_; intro v' u10 hown1 hg _; rw [Nat.zero_add, List.nil_append] at hown1; obtain ⟨aA, cA, rfl⟩ := own_slice hown1; have b10 := grown_none hg; have O10 := Lib.hid (own_over O9.out b10); have G10 := Lib.hid (blockOver b10 G9.out); have U10 := Lib.hid (bel2 U9.out b10); have hb11 := b10.size; have R10 := Lib.hid hown1; have HN := Lib.hid (elB_news u10 e); clear hown1 hg b10; obtain ⟨q0, q1, q2, q3, q4, q5, q6, q7, q8⟩ := nine_of (e := e) G10.out) | (at_builtin; refine wpList_append_own _ rfl (.tmp 153) (.tmp 155) 22 rfl u9.heap.size 39 j0 _ 9 96 Tryz.underlying22 hj hy0 hy1 hy2 rfl (by decide) (.slice aA (n + 1) cA) (n + 1) _ rfl (R10.out.alloc _) ⟨u10.heap.size, 0, none⟩ 1 1 (elB e) rfl rfl HN.out (elB_cell _) (by unfold maxLen; omega) (by omega) (by simp; omega) ?_; intro v' u11 hown1 hg _; obtain ⟨aB, cB, rfl⟩ := own_slice hown1; have O11 := Lib.hid ((O10.out.alloc (.cells #[.int .i64 e.1.id, .int .i64 e.1.kd, .string ⟨e.1.tx.toArray⟩, .int .i64 e.1.st, .int .i64 e.1.rf, .int .i64 e.1.lb.u, .slice e.2.1 e.2.2.1 e.2.2.2, .int .i64 e.1.lb.ap, .int .i64 e.1.lb.d] 39)).kept hg (.inr (fun e => by have := (R10.out.lt g e.symm).1; omega))); have C11 := Lib.hid (cells_drop O11.out hnl); have G11 := Lib.hid ((hg.block u7.heap.size (by simp; omega) (fun e => by have := (R10.out.lt _ e.symm).1; omega)).trans (blockOver (below_alloc u10 (.cells #[.int .i64 e.1.id, .int .i64 e.1.kd, .string ⟨e.1.tx.toArray⟩, .int .i64 e.1.st, .int .i64 e.1.rf, .int .i64 e.1.lb.u, .slice e.2.1 e.2.2.1 e.2.2.2, .int .i64 e.1.lb.ap, .int .i64 e.1.lb.d] 39)) G10.out)); have U11 := Lib.hid ((U10.out.alloc (by have := U10.out.size; omega) (.cells #[.int .i64 e.1.id, .int .i64 e.1.kd, .string ⟨e.1.tx.toArray⟩, .int .i64 e.1.st, .int .i64 e.1.rf, .int .i64 e.1.lb.u, .slice e.2.1 e.2.2.1 e.2.2.2, .int .i64 e.1.lb.ap, .int .i64 e.1.lb.d] 39)).grown hg (by have := U10.out.size; simp; omega) (fun q hq => by have := (R10.out.lt q hq).1; omega)); have R11 := Lib.hid hown1; have hb12 : u10.heap.size + 1 ≤ u11.heap.size := (by have hq := hg.size; simpa using hq); clear hown1 hg) | (at_builtin; refine wpList_append_own _ rfl (.tmp 157) (.tmp 160) 22 rfl u9.heap.size 39 j0 _ 9 96 Tryz.underlying22 hj hy0 hy1 hy2 rfl (by decide) (.slice aB (n + 1 + 1) cB) (n + 1 + 1) _ rfl R11.out ⟨g, (n + 1) * 9, none⟩ _ _ ((rs.drop (n + 1)).flatMap elB) rfl (by rw [flat9_len, List.length_drop]) C11.out (elBs_cell _) (by unfold maxLen; omega) (by omega) (by omega) ?_; intro v' u12 hown1 hg _; obtain ⟨LN, hLN⟩ : ∃ LN, (rs.take (n + 1) ++ e :: rs.drop (n + 1)).length = LN := ⟨_, rfl⟩; have HLN2 := Lib.hid hLN; rw [show n + 1 + 1 + (rs.length - (n + 1)) = LN from (by rw [← hLN]; simp; omega)] at hown1; clear hLN; obtain ⟨aC, cC, rfl⟩ := own_slice hown1; have G12 := Lib.hid ((hg.block u7.heap.size (by omega) (fun e => by have := (R11.out.lt _ e.symm).1; omega)).trans G11.out); have U12 := Lib.hid (U11.out.grown hg (by have := U11.out.size; omega) (fun q hq => by have := (R11.out.lt q hq).1; omega)); have R12 := Lib.hid hown1; clear hown1 hg; obtain ⟨q0, q1, q2, q3, q4, q5, q6, q7, q8⟩ := nine_of (e := e) G12.out))
                              go_roundw
                              case rel => exact ⟨j + 1, rs.take (n + 1) ++ e :: rs.drop (n + 1), d.1.id, n + 1 + 1, by omega, by simp; omega, by go_num, by rw [← HID.out], PN, Lib.hid (by
                                have h := own_mono R12.out (show u6.heap.size ≤ u9.heap.size from U9.out.size)
                                rw [List.flatMap_append, List.flatMap_cons, ← List.append_assoc, HLN2.out]
                                exact h), Lib.hid (fun e' h' => by
                                rcases List.mem_append.1 h' with h' | h'
                                · exact hin.out e' (List.mem_of_mem_take h')
                                · rcases List.mem_cons.1 h' with rfl | h'
                                  · exact HME.out
                                  · exact hin.out e' (List.mem_of_mem_drop h')), U12⟩
                              case measure => simp [intOf]; omega
                  · obtain rfl : n2 = j := by omega
                    have htl : q.take n2 = q := List.take_of_length_le (by rw [HLF.out]; exact Nat.le_refl _)
                    rw [htl] at hp3
                    have HBL := Lib.hid (show blks rs = mres (blks p) (blks q) (blks r) by
                      obtain ⟨o, o1, o2, o3, o4, o5⟩ := hp3.out
                      unfold mres
                      rw [o2, HO.out]
                      unfold ordL
                      rw [o1])
                    have IB := Lib.hid (blks_of_own hown.out (fun e he => by
                      rcases hin.out e he with h | h
                      · exact (J2.out.2.2.2.1 e h).over hb.out
                      · exact (J3.out.2.2.2.1 e h).over hb.out))
                    have CI := Lib.hid (CG.out.over hb.out)
                    have UF := Lib.hid (bel2 U6.out hb.out)
                    have OWF := Lib.hid (own_mono hown.out (show w.heap.size ≤ u6.heap.size from U6.out.size))
                    have INF : Hid (FromTwo q r rs) := Lib.hid hin.out
                    clear htl hp3 hown hin hb
                    go_wp2
                    go_ret3
                    rw [HR.out]
                    exact ⟨_, _, rs, _, _, _, rfl, HBL.out, IB.out, OWF.out, INF.out, CI.out, UF.out⟩
end Go.Proofs.YtelipjjjlgnjoaaGreatDoor
