import Derived.Test.YtelipjjjlgnjoaaGreatDoorMgB
import Derived.Deep.RegionWith
namespace Go.Proofs.YtelipjjjlgnjoaaGreatDoor
open Go.RowKit Go.MapKept Go.Shelf
open Go.Maps (Keyed)
set_option maxRecDepth 100000
set_option linter.unusedSimpArgs false
set_option linter.unusedVariables false
def fndE (es : List BE) (i : Int) : Option BE := es.find? (fun e => e.1.id == i)
def mapB (es : List BE) (i : Int) : Option Value := (fndE es i).map bv
theorem fndE_none {es : List BE} {i : Int} : fndE es i = none ↔ i ∉ bids (blks es) := by
  unfold fndE bids blks
  rw [List.find?_eq_none]
  simp
theorem take_nodup {es : List BE} {k : Nat} {e : BE} (hn : (bids (blks es)).Nodup) (he : es[k]? = some e) : e.1.id ∉ bids (blks (es.take k)) := by
  intro h
  obtain ⟨hk, rfl⟩ := List.getElem?_eq_some_iff.1 he
  have e1 : es = es.take k ++ es[k] :: es.drop (k + 1) := by rw [← List.drop_eq_getElem_cons hk, List.take_append_drop]
  rw [e1] at hn
  unfold bids blks at hn h
  rw [List.map_append, List.map_append, List.nodup_append] at hn
  exact hn.2.2 _ h _ List.mem_cons_self rfl
theorem mapB_succ {es : List BE} {k : Nat} {e : BE} (hn : (bids (blks es)).Nodup) (he : es[k]? = some e) : putV (mapB (es.take k)) e.1.id (bv e) = mapB (es.take (k + 1)) := by
  funext i
  have h0 := fndE_none.2 (take_nodup hn he)
  rw [take_snoc he]
  unfold putV mapB fndE at *
  rw [List.find?_append]
  by_cases hi : i = e.1.id
  · subst hi
    rw [if_pos rfl, h0]
    simp
  · rw [if_neg hi]
    cases List.find? (fun e => e.1.id == i) (es.take k) with
    | none => simp; exact fun h => absurd h.symm hi
    | some f => simp
theorem mapB_new {es : List BE} {k : Nat} {e : BE} (hn : (bids (blks es)).Nodup) (he : es[k]? = some e) : mapB (es.take k) e.1.id = none := by
  unfold mapB; rw [fndE_none.2 (take_nodup hn he)]; rfl
theorem IsMapV.over {W W' : World} {b n : Nat} {f : Int → Option Value} {P : Program} {k : TypeId} (h : IsMapV W P k b n f) (hb : Below W.heap.size W W') : IsMapV W' P k b n f := h.block (hb.block b h.lt)
theorem below_drew {B : Nat} {a w : World} (h : Below B a w) : Below B a w.drew := ⟨h.os, h.tape, h.output, h.size, h.block⟩
theorem keyI : Keyed Tryz.prog 3 := Maps.int_keyed Tryz.underlying3
theorem key_of {i : Int} (h : Bd i) : keyOf Tryz.prog 3 (.int .i64 i) = some (.int .i64 i) := Maps.keyOf_int_mk Tryz.underlying3 (of_wf64 h)
set_option maxHeartbeats 4000000 in
theorem byIDb_any (a : Option Addr) (n c : Nat) (es : List BE) (w : World) (h : IsBlks w a n c es) (hnd : (bids (blks es)).Nodup) (hn : n ≤ 1000) :
    Calls Tryz.prog 44 #[.slice a n c, .func (.func 45) #[] #[]] w fun x w' => ∃ g, x = .returned (.map (some g)) ∧ w.heap.size ≤ g ∧ IsMapV w' Tryz.prog 3 g n (mapB es) ∧ Below w.heap.size w w' := by
  have hcm := h.2.2.1
  have hnc := h.2.1
  have HL := Lib.hid h.1
  have H := Lib.hid h
  have HND := Lib.hid hnd
  unfold maxLen at hcm
  have hmm := @run_makeMap Tryz.prog
  clear h hnd
  go_enter Tryz.func44, Tryz.ntmps44
  go_wp2_with fail
  clear hmm
  go_loopw [11, 6, 7] (fun i _ _ wr => ∃ k : Nat, k ≤ n ∧ i = .int .i64 k ∧ Hid (IsMapV wr Tryz.prog 3 w.heap.size k (mapB (es.take k))) ∧ Hid (Below w.heap.size w wr)) (fun i _ _ _ => n - (intOf i).toNat)
  case atStart => exact ⟨0, Nat.zero_le _, rfl, Lib.hid (IsMapV.made w Tryz.prog 3), Lib.hid (below_alloc _ _)⟩
  case round =>
    obtain ⟨k, hk, rfl, hm, bw⟩ := hrel
    by_cases hlt : k < n
    · obtain ⟨b, off, e, rfl, he, hok, h9⟩ := (H.out.over bw.out).at_ hlt
      have HE := Lib.hid he
      have HO := Lib.hid hok
      obtain ⟨p0, p1, p2, p3, p4, p5, p6, p7, p8⟩ := h9
      clear he hok
      have hltn : (k : Int) < n := by omega
      go_wp2_with fail
      have HB := Lib.hid (heap_alloc_new wr (.cells (elB e).toArray 39))
      have B2 := below_alloc wr (.cells (elB e).toArray 39)
      obtain ⟨W1, hW1⟩ : ∃ W1, wr.alloc (.cells #[.int .i64 e.1.id, .int .i64 e.1.kd, .string ⟨e.1.tx.toArray⟩, .int .i64 e.1.st, .int .i64 e.1.rf, .int .i64 e.1.lb.u, .slice e.2.1 e.2.2.1 e.2.2.2, .int .i64 e.1.lb.ap, .int .i64 e.1.lb.d] 39) = W1 := ⟨_, rfl⟩
      rw [hW1]
      rw [show wr.alloc (.cells (elB e).toArray 39) = W1 from hW1] at HB B2
      obtain ⟨g0, hg0⟩ : ∃ g0, g0 = wr.heap.size := ⟨_, rfl⟩
      rw [← hg0] at HB ⊢
      clear hW1 hg0
      obtain ⟨r0, r1, r2, r3, r4, r5, r6, r7, r8⟩ := nine_of HB.out
      have HM := Lib.hid (IsMapV.over hm.out B2)
      have BW := Lib.hid (bel2 bw.out B2)
      clear B2 p0 p1 p2 p3 p4 p5 p6 p7 p8 bw hm
      go_region_with ((go_at_call 45; refine (itself_any _ e _).mono ?_; rintro x w1 ⟨rfl, b1⟩; obtain ⟨w2, hrun, hm2, hg2⟩ := (IsMapV.over HM.out.drew b1).store keyI Tryz.underlying42 (by unfold maxLen; omega) (bv e) (key_of HO.out.2.2.1); have q0 := cellOver b1 r0; have HM2 := Lib.hid hm2; have HG2 := Lib.hid hg2; have B1 := Lib.hid b1; clear hm2 hg2 b1; go_wp2_with fail))
      all_goals
        rw [mapB_new HND.out HE.out, mapB_succ HND.out HE.out] at HM2
        have BX := Lib.hid ((belowOver (below_drew BW.out) (Nat.le_refl _) B1.out).grown HG2.out (by have := BW.out.size; have := B1.out.size; exact Nat.le_trans ‹_› ‹_›) (fun q hq => by cases hq; exact Nat.le_refl _))
        go_wp2
        go_roundw
        case rel => exact ⟨k + 1, by omega, by go_num, Lib.hid HM2.out, BX⟩
        case measure => simp [intOf]; omega
    · obtain rfl : k = n := by omega
      have hall : es.take k = es := List.take_of_length_le (by rw [HL.out]; exact Nat.le_refl _)
      rw [hall] at hm
      go_wp2
      go_ret
      exact ⟨_, rfl, Nat.le_refl _, hm.out, bw.out⟩
theorem idxI_snoc (l : List Int) (x i : Int) : idxI (l ++ [x]) i = match idxI l i with | some k => some k | none => if x = i then some l.length else none := by
  induction l with
  | nil => simp [idxI]
  | cons y l ih =>
    rw [List.cons_append]
    unfold idxI
    by_cases h : y = i
    · simp [h]
    · rw [if_neg h, if_neg h, ih]
      cases idxI l i with
      | none => by_cases h2 : x = i <;> simp [h2]
      | some k => simp
def mapI (es : List BE) (i : Int) : Option Value := (idxI (bids (blks es)) i).map (fun k : Nat => Value.int .i64 (k : Int))
theorem mapI_succ {es : List BE} {k : Nat} {e : BE} (hn : (bids (blks es)).Nodup) (he : es[k]? = some e) : putV (mapI (es.take k)) e.1.id (.int .i64 (k : Int)) = mapI (es.take (k + 1)) := by
  funext i
  have hk := (List.getElem?_eq_some_iff.1 he).1
  have h0 := idxI_none.2 (take_nodup hn he)
  have e1 : bids (blks (es.take (k + 1))) = bids (blks (es.take k)) ++ [e.1.id] := by rw [take_snoc he]; simp [bids, blks]
  have e2 : (bids (blks (es.take k))).length = k := by simp [bids, blks]; omega
  unfold putV mapI
  rw [e1, idxI_snoc]
  by_cases hi : i = e.1.id
  · subst hi
    rw [if_pos rfl, h0]
    simp [e2]
  · rw [if_neg hi]
    cases idxI (bids (blks (es.take k))) i with
    | none => simp; exact fun h => absurd h.symm hi
    | some f => simp
theorem mapI_new {es : List BE} {k : Nat} {e : BE} (hn : (bids (blks es)).Nodup) (he : es[k]? = some e) : mapI (es.take k) e.1.id = none := by
  unfold mapI; rw [idxI_none.2 (take_nodup hn he)]; rfl
set_option maxHeartbeats 4000000 in
theorem byIDi_any (a : Option Addr) (n c : Nat) (es : List BE) (w : World) (h : IsBlks w a n c es) (hnd : (bids (blks es)).Nodup) (hn : n ≤ 1000) :
    Calls Tryz.prog 50 #[.slice a n c, .func (.func 51) #[] #[]] w fun x w' => ∃ g, x = .returned (.map (some g)) ∧ w.heap.size ≤ g ∧ IsMapV w' Tryz.prog 3 g n (mapI es) ∧ Below w.heap.size w w' := by
  have hcm := h.2.2.1
  have hnc := h.2.1
  have HL := Lib.hid h.1
  have H := Lib.hid h
  have HND := Lib.hid hnd
  unfold maxLen at hcm
  have hmm := @run_makeMap Tryz.prog
  clear h hnd
  go_enter Tryz.func50, Tryz.ntmps50
  go_wp2_with fail
  clear hmm
  go_loopw [11, 6, 7] (fun i _ _ wr => ∃ k : Nat, k ≤ n ∧ i = .int .i64 k ∧ Hid (IsMapV wr Tryz.prog 3 w.heap.size k (mapI (es.take k))) ∧ Hid (Below w.heap.size w wr)) (fun i _ _ _ => n - (intOf i).toNat)
  case atStart => exact ⟨0, Nat.zero_le _, rfl, Lib.hid (IsMapV.made w Tryz.prog 3), Lib.hid (below_alloc _ _)⟩
  case round =>
    obtain ⟨k, hk, rfl, hm, bw⟩ := hrel
    by_cases hlt : k < n
    · obtain ⟨b, off, e, rfl, he, hok, h9⟩ := (H.out.over bw.out).at_ hlt
      have HE := Lib.hid he
      have HO := Lib.hid hok
      obtain ⟨p0, p1, p2, p3, p4, p5, p6, p7, p8⟩ := h9
      clear he hok
      have hltn : (k : Int) < n := by omega
      go_wp2_with fail
      have HB := Lib.hid (heap_alloc_new wr (.cells (elB e).toArray 39))
      have B2 := below_alloc wr (.cells (elB e).toArray 39)
      obtain ⟨W1, hW1⟩ : ∃ W1, wr.alloc (.cells #[.int .i64 e.1.id, .int .i64 e.1.kd, .string ⟨e.1.tx.toArray⟩, .int .i64 e.1.st, .int .i64 e.1.rf, .int .i64 e.1.lb.u, .slice e.2.1 e.2.2.1 e.2.2.2, .int .i64 e.1.lb.ap, .int .i64 e.1.lb.d] 39) = W1 := ⟨_, rfl⟩
      rw [hW1]
      rw [show wr.alloc (.cells (elB e).toArray 39) = W1 from hW1] at HB B2
      obtain ⟨g0, hg0⟩ : ∃ g0, g0 = wr.heap.size := ⟨_, rfl⟩
      rw [← hg0] at HB ⊢
      clear hW1 hg0
      obtain ⟨r0, r1, r2, r3, r4, r5, r6, r7, r8⟩ := nine_of HB.out
      have HM := Lib.hid (IsMapV.over hm.out B2)
      have BW := Lib.hid (bel2 bw.out B2)
      clear B2 p0 p1 p2 p3 p4 p5 p6 p7 p8 bw hm
      go_region_with ((go_at_call 51; refine (place_any _ e _).mono ?_; rintro x w1 ⟨rfl, b1⟩; obtain ⟨w2, hrun, hm2, hg2⟩ := (IsMapV.over HM.out.drew b1).store keyI Tryz.underlying63 (by unfold maxLen; omega) (.int .i64 k) (key_of HO.out.2.2.1); have q0 := cellOver b1 r0; have HM2 := Lib.hid hm2; have HG2 := Lib.hid hg2; have B1 := Lib.hid b1; clear hm2 hg2 b1; go_wp2_with fail))
      all_goals
        rw [mapI_new HND.out HE.out, mapI_succ HND.out HE.out] at HM2
        have BX := Lib.hid ((belowOver (below_drew BW.out) (Nat.le_refl _) B1.out).grown HG2.out (by have := BW.out.size; have := B1.out.size; exact Nat.le_trans ‹_› ‹_›) (fun q hq => by cases hq; exact Nat.le_refl _))
        go_wp2
        go_roundw
        case rel => exact ⟨k + 1, by omega, by go_num, Lib.hid HM2.out, BX⟩
        case measure => simp [intOf]; omega
    · obtain rfl : k = n := by omega
      have hall : es.take k = es := List.take_of_length_le (by rw [HL.out]; exact Nat.le_refl _)
      rw [hall] at hm
      go_wp2
      go_ret
      exact ⟨_, rfl, Nat.le_refl _, hm.out, bw.out⟩
end Go.Proofs.YtelipjjjlgnjoaaGreatDoor
