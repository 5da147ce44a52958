import Derived.Test.YtelipjjjlgnjoaaGreatDoorMgV
import Derived.Test.YtelipjjjlgnjoaaGreatDoorMgU
namespace Go.Proofs.YtelipjjjlgnjoaaGreatDoor
open Go.RowKit Go.MapKept Go.Shelf
attribute [local go_sem] Oper.semAt_some
set_option maxRecDepth 100000
set_option linter.unusedSimpArgs false
set_option linter.unusedVariables false
def occI (p a b : List Blk) (i : Int) : Bool := (bids p).contains i || ((bids a).contains i || (bids b).contains i)
theorem idx_yes {l : List Int} {i : Int} {k : Nat} (h : idxI l i = some k) : l.contains i = true := by rw [List.contains_iff_mem]; exact idxI_mem h
theorem idx_no {l : List Int} {i : Int} (h : idxI l i = none) : l.contains i = false := by
  cases hc : l.contains i
  · rfl
  · rw [List.contains_iff_mem] at hc; exact absurd hc (idxI_none.1 h)
theorem iota_yes {f : Int → Bool} {k : Nat} (h : k < 1000) (hf : f ((k : Int) + 1) = true) : (iota.take (k + 1)).filter f = (iota.take k).filter f ++ [(k : Int) + 1] := by
  rw [iota_take_succ h, List.filter_append]; simp [hf]
theorem iota_no {f : Int → Bool} {k : Nat} (h : k < 1000) (hf : f ((k : Int) + 1) = false) : (iota.take (k + 1)).filter f = (iota.take k).filter f := by
  rw [iota_take_succ h, List.filter_append]; simp [hf]
theorem iota_part_len (f : Int → Bool) (k : Nat) : ((iota.take k).filter f).length ≤ k := by
  refine Nat.le_trans (List.length_filter_le _ _) ?_
  rw [List.length_take]; omega
set_option maxHeartbeats 8000000 in
theorem refids_any (a1 : Option Addr) (n1 c1 : Nat) (p : List BE) (a2 : Option Addr) (n2 c2 : Nat) (q : List BE) (a3 : Option Addr) (n3 c3 : Nat) (r : List BE) (w : World) (h1 : IsBlks w a1 n1 c1 p) (h2 : IsBlks w a2 n2 c2 q) (h3 : IsBlks w a3 n3 c3 r) :
    Calls Tryz.prog 32 #[.slice a1 n1 c1, .slice a2 n2 c2, .slice a3 n3 c3] w fun x w' => ∃ a' c', x = .returned (.slice a' (iota.filter (occI (blks p) (blks q) (blks r))).length c') ∧ w'.ownsRow w.heap.size 3 1 (.slice a' (iota.filter (occI (blks p) (blks q) (blks r))).length c') (iota.filter (occI (blks p) (blks q) (blks r))).length (intsV (iota.filter (occI (blks p) (blks q) (blks r)))) ∧ Below w.heap.size w w' := by
  have H1 := Lib.hid h1
  have H2 := Lib.hid h2
  have H3 := Lib.hid h3
  clear h1 h2 h3
  have HOC := Lib.hid (show ∀ i, occI (blks p) (blks q) (blks r) i = ((bids (blks p)).contains i || ((bids (blks q)).contains i || (bids (blks r)).contains i)) from fun _ => rfl)
  generalize occI (blks p) (blks q) (blks r) = oc at *
  obtain ⟨i0, hi, hz0, hz1, hz2⟩ := info_parts intInfo'
  go_enter Tryz.func32, Tryz.ntmps32
  go_wp2
  go_loopw [8, 7] (fun i v wr => ∃ (k L : Nat), k ≤ 1000 ∧ L ≤ k ∧ i = .int .i64 ((k : Int) + 1) ∧ Hid (((iota.take k).filter oc).length = L) ∧ Hid (wr.ownsRow w.heap.size 3 1 v L (intsV ((iota.take k).filter oc))) ∧ Hid (Below w.heap.size w wr)) (fun i _ _ => 1001 - (intOf i).toNat)
  case atStart => exact ⟨0, 0, by omega, Nat.le_refl _, rfl, Lib.hid (by simp), Lib.hid (by simpa [intsV] using World.ownsRow_nil _ _ _ _), Lib.hid (Below.refl _ _)⟩
  case round =>
    obtain ⟨k, L, hk, hLk, rfl, hLen, hown, hb⟩ := hrel
    obtain ⟨va, vc, rfl⟩ := own_slice hown.out
    by_cases hlt : k < 1000
    · have hl2 : (k : Int) + 1 ≤ 1000 := by omega
      go_wp2_with fail
      refine (refat_any a1 n1 c1 p ((k : Int) + 1) wr (H1.out.over hb.out)).mono ?_
      rintro x u1 ⟨rfl, b⟩
      have U1 := Lib.hid (bel2 hb.out b)
      have O1 := Lib.hid (own_over hown.out b)
      clear b
      cases h1 : idxI (bids (blks p)) ((k : Int) + 1) with
      | some j =>
        rw [atV_some h1]
        have YY := Lib.hid (show oc ((k : Int) + 1) = true by rw [HOC.out, idx_yes h1]; rfl)
        clear h1
        have HY := Lib.hid (iota_yes (f := oc) hlt YY.out)
        have hb0 := U1.out.size
        go_wp2_with (at_builtin; refine wpList_append_own _ rfl _ _ 25 rfl w.heap.size 3 i0 (.int .i64 0) 1 8 Tryz.underlying25 hi hz0 hz1 hz2 rfl (by decide) (.slice va L vc) _ _ rfl (O1.out.alloc _) ⟨u1.heap.size, 0, none⟩ 1 1 [.int .i64 ((k : Int) + 1)] rfl rfl (cell_one_new _ _ _) (by simp [Value.oneCell']) (by unfold maxLen; omega) (by omega) (by simp; omega) ?_; intro v' w3 hown1 hg _; obtain ⟨a', c', rfl⟩ := own_slice hown1)
        have B3 := Lib.hid ((U1.out.alloc U1.out.size (.cells #[.int .i64 ((k : Int) + 1)] 3)).grown hg (by simp; omega) (fun q hq => (O1.out.lt q hq).1))
        have O3 := Lib.hid hown1
        clear hown1 hg hb0
        go_wp2
        go_roundw
        case rel => exact ⟨k + 1, L + 1, by omega, by omega, by go_num, Lib.hid (by rw [HY.out, List.length_append, hLen.out]; rfl), Lib.hid (by rw [HY.out, intsV, List.map_append]; exact O3.out), B3⟩
        case measure => simp [intOf]; omega
      | none =>
        rw [atV_none h1]
        have P1 := Lib.hid (idx_no h1)
        clear h1
        go_wp2_with fail
        refine (refat_any a2 n2 c2 q ((k : Int) + 1) u1 (H2.out.over U1.out)).mono ?_
        rintro x u2 ⟨rfl, b⟩
        have U2 := Lib.hid (bel2 U1.out b)
        have O2 := Lib.hid (own_over O1.out b)
        clear b
        cases h1 : idxI (bids (blks q)) ((k : Int) + 1) with
        | some j =>
          rw [atV_some h1]
          have YY := Lib.hid (show oc ((k : Int) + 1) = true by rw [HOC.out, P1.out, idx_yes h1]; rfl)
          clear h1
          have HY := Lib.hid (iota_yes (f := oc) hlt YY.out)
          have hb0 := U2.out.size
          go_wp2_with (at_builtin; refine wpList_append_own _ rfl _ _ 25 rfl w.heap.size 3 i0 (.int .i64 0) 1 8 Tryz.underlying25 hi hz0 hz1 hz2 rfl (by decide) (.slice va L vc) _ _ rfl (O2.out.alloc _) ⟨u2.heap.size, 0, none⟩ 1 1 [.int .i64 ((k : Int) + 1)] rfl rfl (cell_one_new _ _ _) (by simp [Value.oneCell']) (by unfold maxLen; omega) (by omega) (by simp; omega) ?_; intro v' w3 hown1 hg _; obtain ⟨a', c', rfl⟩ := own_slice hown1)
          have B3 := Lib.hid ((U2.out.alloc U2.out.size (.cells #[.int .i64 ((k : Int) + 1)] 3)).grown hg (by simp; omega) (fun q hq => (O2.out.lt q hq).1))
          have O3 := Lib.hid hown1
          clear hown1 hg hb0
          go_wp2
          go_roundw
          case rel => exact ⟨k + 1, L + 1, by omega, by omega, by go_num, Lib.hid (by rw [HY.out, List.length_append, hLen.out]; rfl), Lib.hid (by rw [HY.out, intsV, List.map_append]; exact O3.out), B3⟩
          case measure => simp [intOf]; omega
        | none =>
          rw [atV_none h1]
          have P2 := Lib.hid (idx_no h1)
          clear h1
          go_wp2_with fail
          refine (refat_any a3 n3 c3 r ((k : Int) + 1) u2 (H3.out.over U2.out)).mono ?_
          rintro x u3 ⟨rfl, b⟩
          have U3 := Lib.hid (bel2 U2.out b)
          have O3 := Lib.hid (own_over O2.out b)
          clear b
          cases h1 : idxI (bids (blks r)) ((k : Int) + 1) with
          | some j =>
            rw [atV_some h1]
            have YY := Lib.hid (show oc ((k : Int) + 1) = true by rw [HOC.out, P1.out, P2.out, idx_yes h1]; rfl)
            clear h1
            have HY := Lib.hid (iota_yes (f := oc) hlt YY.out)
            have hb0 := U3.out.size
            go_wp2_with (at_builtin; refine wpList_append_own _ rfl _ _ 25 rfl w.heap.size 3 i0 (.int .i64 0) 1 8 Tryz.underlying25 hi hz0 hz1 hz2 rfl (by decide) (.slice va L vc) _ _ rfl (O3.out.alloc _) ⟨u3.heap.size, 0, none⟩ 1 1 [.int .i64 ((k : Int) + 1)] rfl rfl (cell_one_new _ _ _) (by simp [Value.oneCell']) (by unfold maxLen; omega) (by omega) (by simp; omega) ?_; intro v' w3 hown1 hg _; obtain ⟨a', c', rfl⟩ := own_slice hown1)
            have B3 := Lib.hid ((U3.out.alloc U3.out.size (.cells #[.int .i64 ((k : Int) + 1)] 3)).grown hg (by simp; omega) (fun q hq => (O3.out.lt q hq).1))
            have O9 := Lib.hid hown1
            clear hown1 hg hb0
            go_wp2
            go_roundw
            case rel => exact ⟨k + 1, L + 1, by omega, by omega, by go_num, Lib.hid (by rw [HY.out, List.length_append, hLen.out]; rfl), Lib.hid (by rw [HY.out, intsV, List.map_append]; exact O9.out), B3⟩
            case measure => simp [intOf]; omega
          | none =>
            rw [atV_none h1]
            have HN := Lib.hid (iota_no (f := oc) hlt (by rw [HOC.out, P1.out, P2.out, idx_no h1]; rfl))
            clear h1
            go_wp2
            go_roundw
            case rel => exact ⟨k + 1, L, by omega, by omega, by go_num, Lib.hid (by rw [HN.out, hLen.out]), Lib.hid (by rw [HN.out]; exact O3.out), U3⟩
            case measure => simp [intOf]; omega
    · obtain rfl : k = 1000 := by omega
      have hall : iota.take 1000 = iota := List.take_of_length_le (by simp [iota])
      rw [hall] at hLen hown
      go_wp2
      go_ret
      exact ⟨va, vc, by rw [hLen.out]; rfl, by rw [hLen.out]; exact hown.out, hb.out⟩
end Go.Proofs.YtelipjjjlgnjoaaGreatDoor
