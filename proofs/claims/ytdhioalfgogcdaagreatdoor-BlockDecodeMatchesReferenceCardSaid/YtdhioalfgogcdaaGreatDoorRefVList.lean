/- The reference's test of a list of blocks. -/
import Derived.Test.YtdhioalfgogcdaaGreatDoorRefValid
import Derived.BigQuiet
namespace Go.Proofs.YtdhioalfgogcdaaGreatDoor
open Go.RowKit Go.MapKept
set_option maxRecDepth 100000
set_option linter.unusedSimpArgs false
set_option linter.unusedVariables false
theorem vL_no_len {l : List Blk} (h : 24 < l.length) : vL l = false := by
  simp only [vL]; rw [decide_eq_false (by omega), Bool.false_and]
theorem vL_no_blk {es : List BE} {k : Nat} {e : BE} (he : es[k]? = some e) (h : vB e.1 = false) : vL (blks es) = false := by
  cases hv : vL (blks es)
  · rfl
  · simp only [vL, Bool.and_eq_true, List.all_eq_true] at hv
    rw [hv.2.1 e.1 (List.mem_map.2 ⟨e, List.mem_of_getElem? he, rfl⟩)] at h
    cases h
theorem vL_no_dup {es : List BE} {j k : Nat} {d e : BE} (hjk : j < k) (hd : es[j]? = some d) (he : es[k]? = some e) (h : d.1.id = e.1.id) : vL (blks es) = false := by
  cases hv : vL (blks es)
  · rfl
  · exfalso
    simp only [vL, Bool.and_eq_true, decide_eq_true_eq] at hv
    have hn := hv.2.2
    have h1 : ((blks es).map Blk.id)[j]? = some d.1.id := by simp [blks, hd]
    have h2 : ((blks es).map Blk.id)[k]? = some e.1.id := by simp [blks, he]
    have := (List.getElem?_inj (l := (blks es).map Blk.id) (i := j) (j := k) (List.getElem?_eq_some_iff.1 h1).1 hn).1 (by rw [h1, h2, h])
    omega
theorem vL_yes2 {es : List BE} (hl : es.length ≤ 24) (hb : ∀ (k : Nat) (e : BE), es[k]? = some e → vB e.1 = true) (hd : ∀ (j k : Nat) (d e : BE), j < k → es[j]? = some d → es[k]? = some e → d.1.id ≠ e.1.id) : vL (blks es) = true := by
  simp only [vL, Bool.and_eq_true, decide_eq_true_eq, List.all_eq_true]
  refine ⟨by simpa [blks] using hl, fun x hx => ?_, ?_⟩
  · obtain ⟨e, he, rfl⟩ := List.mem_map.1 hx
    obtain ⟨k, hk, rfl⟩ := List.getElem_of_mem he
    exact hb k _ (List.getElem?_eq_getElem hk)
  · rw [List.nodup_iff_pairwise_ne, List.pairwise_iff_getElem]
    intro j k hj hk hjk
    simp only [blks, List.map_map, List.length_map] at hj hk
    simp only [blks, List.map_map, List.getElem_map, Function.comp]
    exact hd j k _ _ hjk (List.getElem?_eq_getElem hj) (List.getElem?_eq_getElem hk)
set_option maxHeartbeats 8000000 in
theorem refvlist_any (a : Option Addr) (n c : Nat) (es : List BE) (w : World) (h : IsBlks w a n c es) :
    Calls Tryz.prog 18 #[.slice a n c] w fun x w' => x = .returned (.bool (vL (blks es))) ∧ Below w.heap.size w w' := by
  have hcm := h.2.2.1
  have hnc := h.2.1
  have HL := Lib.hid h.1
  have H := Lib.hid h
  unfold maxLen at hcm
  clear h
  go_enter Tryz.func18, Tryz.ntmps18
  by_cases h24 : n ≤ 24
  rotate_left
  · have h24' : (24 : Int) < n := by omega
    have HN := Lib.hid (vL_no_len (l := blks es) (by simp [blks, HL.out]; omega))
    clear h24
    go_wp2
    go_ret
    exact ⟨ret_bool HN.out.symm, Below.refl _ _⟩
  have h24' : ¬ (24 : Int) < n := by omega
  go_wp2
  go_loopw [3] (fun i wr => ∃ k : Nat, k ≤ n ∧ i = .int .i64 k ∧ Hid (∀ j e, j < k → es[j]? = some e → vB e.1 = true) ∧ Hid (∀ i j d e, i < j → j < k → es[i]? = some d → es[j]? = some e → d.1.id ≠ e.1.id) ∧ Hid (Below w.heap.size w wr)) (fun i _ => n - (intOf i).toNat)
  case atStart => exact ⟨0, Nat.zero_le _, rfl, Lib.hid (fun j e hj => by omega), Lib.hid (fun i j d e _ hj => by omega), Lib.hid (Below.refl _ _)⟩
  case round =>
    obtain ⟨k, hk, rfl, hv, hu, hb⟩ := hrel
    by_cases hlt : k < n
    · obtain ⟨b, off, e, rfl, he, hok, h9⟩ := (H.out.over hb.out).at_ hlt
      have HE := Lib.hid he
      have K := Lib.hid (refvalid_any e.1 e.2.1 e.2.2.1 e.2.2.2 wr hok.1 hok.2.1)
      unfold blkV at K
      have g1 : (k : Int) < n := by omega
      have H9 := Lib.hid h9
      obtain ⟨p0, p1, p2, p3, p4, p5, p6, p7, p8⟩ := h9
      have NB := Lib.hid (fun h => vL_no_blk (es := es) (k := k) (e := e) HE.out h)
      clear he hok
      cases hvb : vB e.1
      · have HN := Lib.hid (NB.out hvb)
        rw [hvb] at K
        clear hvb
        go_wp2_with fail
        refine K.out.mono ?_
        rintro x w1 ⟨rfl, b1⟩
        have B1 := Lib.hid (bel2 hb.out b1)
        clear b1 p0 p1 p2 p3 p4 p5 p6 p7 p8
        go_wp2
        go_ret
        exact ⟨ret_bool HN.out.symm, B1.out⟩
      · have HVB := Lib.hid hvb
        rw [hvb] at K
        clear hvb
        go_wp2_with fail
        refine K.out.mono ?_
        rintro x w1 ⟨rfl, b1⟩
        have B1 := Lib.hid (bel2 hb.out b1)
        have N9 := Lib.hid (H9.out.over b1)
        clear b1 p0 p1 p2 p3 p4 p5 p6 p7 p8 K H9
        go_wp2
        go_loopw [5] (fun i wz => ∃ j : Nat, j ≤ k ∧ i = .int .i64 j ∧ Hid (∀ i d, i < j → es[i]? = some d → d.1.id ≠ e.1.id) ∧ Hid (Below w1.heap.size w1 wz)) (fun i _ => k - (intOf i).toNat)
        case atStart => exact ⟨0, Nat.zero_le _, rfl, Lib.hid (fun i d hi => by omega), Lib.hid (Below.refl _ _)⟩
        case round =>
          obtain ⟨j, hj, rfl, hne, hbz⟩ := hrel
          by_cases hjlt : j < k
          · have g2 : (j : Int) < k := by omega
            have g3 : (j : Int) < n := by omega
            have BZ := Lib.hid (bel2 B1.out hbz.out)
            obtain ⟨b', off', d, hbb, hd, _, d9⟩ := (H.out.over BZ.out).at_ (show j < n by omega)
            cases hbb
            have e9 := (N9.out.over hbz.out).c0
            have d0 := d9.c0
            have HD := Lib.hid hd
            clear d9 hd
            by_cases hid : d.1.id = e.1.id
            · have HN := Lib.hid (vL_no_dup hjlt HD.out HE.out hid)
              have hq : (d.1.id == e.1.id) = true := by simpa using hid
              clear hid
              go_wp2
              go_quiet (fail)
              go_wp2
              go_ret
              exact ⟨ret_bool HN.out.symm, below_drewN BZ.out _⟩
            · have hq : (d.1.id == e.1.id) = false := by simpa using hid
              have HI := Lib.hid hid
              clear hid
              go_wp2
              go_quiet (fail)
              go_wp2
              go_roundw
              case rel => exact ⟨j + 1, by omega, by go_num, Lib.hid (fun i d' hi hd' => by
                by_cases q : i = j
                · subst q; rw [HD.out] at hd'; cases hd'; exact HI.out
                · exact hne.out i d' (by omega) hd'), Lib.hid (below_drewN hbz.out _)⟩
              case measure => simp [intOf]; omega
          · obtain rfl : j = k := by omega
            have BZ := Lib.hid (bel2 B1.out hbz.out)
            go_wp2
            go_roundw
            case rel => exact ⟨j + 1, by omega, by go_num, Lib.hid (fun i d hi hd => by
              by_cases q : i = j
              · subst q; rw [HE.out] at hd; cases hd; exact HVB.out
              · exact hv.out i d (by omega) hd), Lib.hid (fun i i2 d d2 h1 h2 hd hd2 => by
              by_cases q : i2 = j
              · subst q; rw [HE.out] at hd2; cases hd2; exact hne.out i d h1 hd
              · exact hu.out i i2 d d2 h1 (by omega) hd hd2), BZ⟩
            case measure => simp [intOf]; omega
    · obtain rfl : k = n := by omega
      have HY := Lib.hid (vL_yes2 (es := es) (by rw [HL.out]; exact h24) (fun j e he => hv.out j e (by have := (List.getElem?_eq_some_iff.1 he).1; rw [HL.out] at this; exact this) he) (fun i j d e h1 hd he => hu.out i j d e h1 (by have := (List.getElem?_eq_some_iff.1 he).1; rw [HL.out] at this; exact this) hd he))
      go_wp2
      go_ret
      exact ⟨ret_bool HY.out.symm, hb.out⟩
end Go.Proofs.YtdhioalfgogcdaaGreatDoor
