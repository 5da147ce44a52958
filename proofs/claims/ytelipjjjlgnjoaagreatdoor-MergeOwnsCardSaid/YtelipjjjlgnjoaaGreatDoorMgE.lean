import Derived.Test.YtelipjjjlgnjoaaGreatDoorMgC
namespace Go.Proofs.YtelipjjjlgnjoaaGreatDoor
open Go.RowKit Go.MapKept Go.Shelf
set_option maxRecDepth 100000
set_option linter.unusedSimpArgs false
set_option linter.unusedVariables false
theorem bids_take_succ {es : List BE} {k : Nat} {e : BE} (he : es[k]? = some e) : bids (blks (es.take (k + 1))) = bids (blks (es.take k)) ++ [e.1.id] := by rw [take_snoc he]; simp [bids, blks]
theorem bids_take {es : List BE} {k : Nat} (h : es.length ≤ k) : es.take k = es := List.take_of_length_le h
theorem mv_now {o X : List Int} {x : Int} {s : Bool × Int} (hp : X.foldl (mvS o) (false, 0) = s) : (X ++ [x]).foldl (mvS o) (false, 0) = mvS o s x := by
  rw [List.foldl_append, hp]; rfl
theorem mv_ends {o X Y : List Int} (h : (X.foldl (mvS o) (false, 0)).1 = true) : movI o (X ++ Y) = true := by
  unfold movI
  rw [List.foldl_append, mvS_true _ _ _ h, h]
set_option maxHeartbeats 4000000 in
theorem hasMoved_any (a : Option Addr) (n c : Nat) (es : List BE) (a2 : Option Addr) (n2 c2 : Nat) (fs : List BE) (w : World) (h : IsBlks w a n c es) (h2 : IsBlks w a2 n2 c2 fs) (hnd : (bids (blks fs)).Nodup) (hn : n2 ≤ 1000) :
    Calls Tryz.prog 29 #[.slice a n c, .slice a2 n2 c2] w fun x w' => x = .returned (.bool (movI (bids (blks fs)) (bids (blks es)))) ∧ Below w.heap.size w w' := by
  have hcm := h.2.2.1
  have hnc := h.2.1
  have HL := Lib.hid h.1
  have H := Lib.hid h
  have K := Lib.hid (byIDi_any a2 n2 c2 fs w h2 hnd hn)
  unfold maxLen at hcm
  clear h h2 hnd
  go_enter Tryz.func29, Tryz.ntmps29
  go_wp2_with fail
  refine K.out.mono ?_
  rintro x w1 ⟨g, rfl, hg, hm, b1⟩
  have HM := Lib.hid hm
  have B1 := Lib.hid b1
  clear hm b1 K
  go_wp2
  go_loopw [15, 8, 9, 10, 6] (fun i _ _ _ l wr => ∃ (k : Nat) (last : Int), k ≤ n ∧ i = .int .i64 k ∧ l = .int .i64 last ∧ Hid ((bids (blks (es.take k))).foldl (mvS (bids (blks fs))) (false, 0) = (false, last)) ∧ Hid (Below w1.heap.size w1 wr)) (fun i _ _ _ _ _ => n - (intOf i).toNat)
  case atStart => exact ⟨0, 0, Nat.zero_le _, rfl, rfl, Lib.hid rfl, Lib.hid (Below.refl _ _)⟩
  case round =>
    obtain ⟨k, last, hk, rfl, rfl, hst, bw⟩ := hrel
    by_cases hlt : k < n
    · obtain ⟨b, off, e, rfl, he, hok, h9⟩ := ((H.out.over B1.out).over bw.out).at_ hlt
      have HE := Lib.hid he
      have HO := Lib.hid hok
      obtain ⟨p0, p1, p2, p3, p4, p5, p6, p7, p8⟩ := h9
      clear he hok
      have hltn : (k : Int) < n := by omega
      have B2 := Lib.hid (below_alloc wr (.cells (elB e).toArray 39))
      have HM2 := Lib.hid ((IsMapV.over HM.out bw.out).over B2.out)
      have BX := Lib.hid (bel2 bw.out B2.out)
      have hkey := key_of HO.out.2.2.1
      have HT := Lib.hid (bids_take_succ HE.out)
      cases hf : idxI (bids (blks fs)) e.1.id with
      | none =>
        have hv : mapI fs e.1.id = none := by unfold mapI; rw [hf]; rfl
        have HS := Lib.hid (show mvS (bids (blks fs)) (false, last) e.1.id = (false, last) by unfold mvS; rw [hf]; simp)
        clear hf
        go_wp2_with (at_lookup; refine wpList_look_V_ok _ rfl _ _ 63 rfl 3 3 keyI Tryz.underlying63 (.int .i64 0) (Tryz.zeroValue3 _) g n2 (mapI fs) rfl HM2.out _ rfl hkey ?_)
        go_roundw
        case rel => exact ⟨k + 1, last, by omega, by go_num, rfl, Lib.hid (by rw [HT.out, mv_now hst.out, HS.out]), BX⟩
        case measure => simp [intOf]; omega
      | some m =>
        have hv : mapI fs e.1.id = some (.int .i64 m) := by unfold mapI; rw [hf]; rfl
        by_cases hm : (m : Int) < last
        · have HS := Lib.hid (show mvS (bids (blks fs)) (false, last) e.1.id = (true, last) by unfold mvS; rw [hf]; simp [hm])
          have HR := Lib.hid (show movI (bids (blks fs)) (bids (blks es)) = true by
            have h1 : ((bids (blks (es.take (k + 1)))).foldl (mvS (bids (blks fs))) (false, 0)).1 = true := by rw [HT.out, mv_now hst.out, HS.out]
            have h2 : bids (blks es) = bids (blks (es.take (k + 1))) ++ bids (blks (es.drop (k + 1))) := by
              conv => lhs; rw [← List.take_append_drop (k + 1) es]
              simp [bids, blks]
            rw [h2]; exact mv_ends h1)
          clear hf
          go_wp2_with (at_lookup; refine wpList_look_V_ok _ rfl _ _ 63 rfl 3 3 keyI Tryz.underlying63 (.int .i64 0) (Tryz.zeroValue3 _) g n2 (mapI fs) rfl HM2.out _ rfl hkey ?_)
          go_ret
          exact ⟨ret_bool HR.out.symm, bel2 B1.out BX.out⟩
        · have HS := Lib.hid (show mvS (bids (blks fs)) (false, last) e.1.id = (false, (m : Int)) by unfold mvS; rw [hf]; simp [hm])
          clear hf
          go_wp2_with (at_lookup; refine wpList_look_V_ok _ rfl _ _ 63 rfl 3 3 keyI Tryz.underlying63 (.int .i64 0) (Tryz.zeroValue3 _) g n2 (mapI fs) rfl HM2.out _ rfl hkey ?_)
          go_roundw
          case rel => exact ⟨k + 1, m, by omega, by go_num, rfl, Lib.hid (by rw [HT.out, mv_now hst.out, HS.out]), BX⟩
          case measure => simp [intOf]; omega
    · obtain rfl : k = n := by omega
      rw [bids_take (by rw [HL.out]; exact Nat.le_refl _)] at hst
      have HR := Lib.hid (show movI (bids (blks fs)) (bids (blks es)) = false by unfold movI; rw [hst.out])
      go_wp2
      go_ret
      exact ⟨ret_bool HR.out.symm, bel2 B1.out bw.out⟩
end Go.Proofs.YtelipjjjlgnjoaaGreatDoor
