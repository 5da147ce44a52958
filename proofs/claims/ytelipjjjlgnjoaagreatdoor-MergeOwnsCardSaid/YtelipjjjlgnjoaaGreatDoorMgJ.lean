import Derived.Test.YtelipjjjlgnjoaaGreatDoorMgI
import Derived.BigRegionIn
namespace Go.Proofs.YtelipjjjlgnjoaaGreatDoor
open Go.RowKit Go.MapKept Go.Shelf
attribute [local go_sem] Oper.semAt_some
set_option maxRecDepth 100000
set_option linter.unusedSimpArgs false
set_option linter.unusedVariables false
theorem block_step {W w1 : World} {tmp : Obj} {k B : Nat} {v' : Value} {ob : Option Nat} (hg : (W.alloc tmp).grownBy w1 ob) (hk : k < W.heap.size) (hne : ∀ j, ob = some j → j ≠ k) (hB : k ≠ B) : (w1.setCell ⟨B, 0, none⟩ v').heap[k]? = W.heap[k]? := by
  rw [Below.heap_setCell _ _ _ k hB, hg.block k (by simp; omega) (fun e => hne k e.symm rfl)]
  exact Below.heap_alloc _ _ _ hk
theorem cf_eq {p q r : List BE} (h : v3 (blks p) (blks q) (blks r) = true) : (idsA (blks p) (blks q) (blks r)).filter (cfE p q r) = (idsA (blks p) (blks q) (blks r)).filter (cfl (blks p) (blks q) (blks r)) := by
  refine List.filter_congr (fun i _ => ?_)
  obtain ⟨o, _, _, _, h4, _⟩ := chE_rel h i
  exact h4
theorem map_all {p q r : List BE} (h : v3 (blks p) (blks q) (blks r) = true) : mgP (mgE p q r) (idsA (blks p) (blks q) (blks r)) = mgE p q r := by
  funext i
  unfold mgP
  by_cases hi : i ∈ idsA (blks p) (blks q) (blks r)
  · simp [hi]
  · have hn : mgE p q r i = none := by
      cases he : mgE p q r i with
      | none => rfl
      | some e =>
        exfalso
        obtain ⟨h1, h2⟩ := mgE_from h he
        refine hi ((idsA_mem i).2 ?_)
        rcases h1 with h1 | h1
        · exact .inr (.inl (List.mem_map.2 ⟨e.1, List.mem_map.2 ⟨e, h1, rfl⟩, h2⟩))
        · exact .inr (.inr (List.mem_map.2 ⟨e.1, List.mem_map.2 ⟨e, h1, rfl⟩, h2⟩))
    simp [hi, hn]
theorem cnt_all {p q r : List BE} (h : v3 (blks p) (blks q) (blks r) = true) : cntS (mB (mgE p q r)) (idsA (blks p) (blks q) (blks r)) = mcount (blks p) (blks q) (blks r) := by
  unfold cntS
  rw [cntS_nodup _ _ [] 0 (by simpa using idsA_nodup h), Nat.zero_add, ← count_ids h]
  congr 1
  exact List.filter_congr (fun i _ => mB_has h i)
set_option maxHeartbeats 16000000 in
theorem contents_any (a1 : Option Addr) (n1 c1 : Nat) (p : List BE) (a2 : Option Addr) (n2 c2 : Nat) (q : List BE) (a3 : Option Addr) (n3 c3 : Nat) (r : List BE) (w : World) (h1 : IsBlks w a1 n1 c1 p) (h2 : IsBlks w a2 n2 c2 q) (h3 : IsBlks w a3 n3 c3 r) (hv : v3 (blks p) (blks q) (blks r) = true) :
    Calls Tryz.prog 28 #[.slice a1 n1 c1, .slice a2 n2 c2, .slice a3 n3 c3] w fun x w' => ∃ G ac nc cc, x = .returned (.tuple #[.map (some G), .slice ac nc cc]) ∧ IsMapV w' Tryz.prog 3 G (mcount (blks p) (blks q) (blks r)) (mapE (mgE p q r)) ∧ w'.ownsRow w.heap.size 3 1 (.slice ac nc cc) nc (intsV (mconf (blks p) (blks q) (blks r))) ∧ Below w.heap.size w w' := by
  obtain ⟨vp, vq, vr⟩ := v3_iff.1 hv
  have m1 : n1 ≤ 1000 := by have := vL_len vp; have := h1.1; simp [blks] at this ⊢; rw [← h1.1]; have := vL_len vp; simp [blks] at this; omega
  have m2 : n2 ≤ 1000 := by rw [← h2.1]; have := vL_len vq; simp [blks] at this; omega
  have m3 : n3 ≤ 1000 := by rw [← h3.1]; have := vL_len vr; simp [blks] at this; omega
  have hmm := @run_makeMap Tryz.prog
  have K1 := Lib.hid (byIDb_any a1 n1 c1 p w h1 (vL_nodup vp) m1)
  have K2 := Lib.hid (fun W (hW : Below w.heap.size w W) => byIDb_any a2 n2 c2 q W (h2.over hW) (vL_nodup vq) m2)
  have K3 := Lib.hid (fun W (hW : Below w.heap.size w W) => byIDb_any a3 n3 c3 r W (h3.over hW) (vL_nodup vr) m3)
  have H1 := Lib.hid h1
  have H2 := Lib.hid h2
  have H3 := Lib.hid h3
  have HV := Lib.hid hv
  have HV3 := Lib.hid hv
  clear h1 h2 h3 hv vp vq vr
  refine (callsIn_wide (n := 8)).1 ?_
  refine callsIn_of_wp_marks Tryz.func28 rfl trivial ?_ rfl
  simp only [Tryz.ntmps28, List.size_toArray, List.length_cons, List.length_nil, Nat.reduceAdd, Nat.reduceSub, Array.replicate_succ, Array.replicate_zero, List.push_toArray, List.append_toArray, List.nil_append, List.cons_append]
  gi_wp2
  refine ⟨trivial, ?_⟩
  refine (callsIn_wide.2 K1.out).mono ?_
  rintro e w1 ⟨g1, rfl, hg1, hm1, b1⟩
  have B1 := Lib.hid b1
  have M1 := Lib.hid hm1
  clear b1 hm1 K1
  gi_wp2
  refine ⟨trivial, ?_⟩
  refine (callsIn_wide.2 (K2.out _ B1.out)).mono ?_
  rintro e w2 ⟨g2, rfl, hg2, hm2, b2⟩
  have B2 := Lib.hid (bel2 B1.out b2)
  have M1' := Lib.hid (IsMapV.over M1.out b2)
  have M2 := Lib.hid hm2
  have hs1 := B1.out.size
  clear b2 hm2 K2 M1 B1
  gi_wp2
  refine ⟨trivial, ?_⟩
  refine (callsIn_wide.2 (K3.out _ B2.out)).mono ?_
  rintro e w3 ⟨g3, rfl, hg3, hm3, b3⟩
  have B3 := Lib.hid (bel2 B2.out b3)
  have M1 := Lib.hid (IsMapV.over M1'.out b3)
  have M2' := Lib.hid (IsMapV.over M2.out b3)
  have M3 := Lib.hid hm3
  have hs2 := B2.out.size
  clear b3 hm3 K3 M1' M2 B2
  gi_wp2_with (refine ⟨trivial, ?_⟩; gi_at_call 46; refine (callsIn_wide.2 (ids_any _ _)).mono ?_; rintro e w' ⟨rfl, rfl⟩)
  clear hmm
  have hget := allocs_get w3 [.cells #[.map (some g1)] 42 (0, 0), .cells #[.map (some g2)] 42 (0, 0), .cells #[.map (some g3)] 42 (0, 0), .map #[] 0, .cells #[.map (some (w3.heap.size + 1 + 1 + 1))] 42 (0, 0), .cells #[.slice none 0 0] 25 (0, 0), .cells #[.slice a1 n1 c1, .slice a2 n2 c2, .slice a3 n3 c3] 22 (0, 0), .cells #[.slice (some ⟨w3.heap.size + 1 + 1 + 1 + 1 + 1 + 1, 0, none⟩) 3 3] 53 (0, 0)]
  have hbw := allocs_below w3 [.cells #[.map (some g1)] 42 (0, 0), .cells #[.map (some g2)] 42 (0, 0), .cells #[.map (some g3)] 42 (0, 0), .map #[] 0, .cells #[.map (some (w3.heap.size + 1 + 1 + 1))] 42 (0, 0), .cells #[.slice none 0 0] 25 (0, 0), .cells #[.slice a1 n1 c1, .slice a2 n2 c2, .slice a3 n3 c3] 22 (0, 0), .cells #[.slice (some ⟨w3.heap.size + 1 + 1 + 1 + 1 + 1 + 1, 0, none⟩) 3 3] 53 (0, 0)] w3 (Below.refl _ _)
  have hsz : (allocs w3 [.cells #[.map (some g1)] 42 (0, 0), .cells #[.map (some g2)] 42 (0, 0), .cells #[.map (some g3)] 42 (0, 0), .map #[] 0, .cells #[.map (some (w3.heap.size + 1 + 1 + 1))] 42 (0, 0), .cells #[.slice none 0 0] 25 (0, 0), .cells #[.slice a1 n1 c1, .slice a2 n2 c2, .slice a3 n3 c3] 22 (0, 0), .cells #[.slice (some ⟨w3.heap.size + 1 + 1 + 1 + 1 + 1 + 1, 0, none⟩) 3 3] 53 (0, 0)]).heap.size = w3.heap.size + 1 + 1 + 1 + 1 + 1 + 1 + 1 + 1 := by simp [allocs]
  obtain ⟨W0, hW0⟩ : ∃ W0, allocs w3 [.cells #[.map (some g1)] 42 (0, 0), .cells #[.map (some g2)] 42 (0, 0), .cells #[.map (some g3)] 42 (0, 0), .map #[] 0, .cells #[.map (some (w3.heap.size + 1 + 1 + 1))] 42 (0, 0), .cells #[.slice none 0 0] 25 (0, 0), .cells #[.slice a1 n1 c1, .slice a2 n2 c2, .slice a3 n3 c3] 22 (0, 0), .cells #[.slice (some ⟨w3.heap.size + 1 + 1 + 1 + 1 + 1 + 1, 0, none⟩) 3 3] 53 (0, 0)] = W0 := ⟨_, rfl⟩
  rw [hW0] at hget hbw hsz
  have G8 := Lib.hid (show W0.heap[w3.heap.size]? = some (.cells #[.map (some g1)] 42 (0, 0)) from hget 0)
  have G9 := Lib.hid (show W0.heap[w3.heap.size + 1]? = some (.cells #[.map (some g2)] 42 (0, 0)) from hget 1)
  have G10 := Lib.hid (show W0.heap[w3.heap.size + 1 + 1]? = some (.cells #[.map (some g3)] 42 (0, 0)) from hget 2)
  have GM := Lib.hid (show W0.heap[w3.heap.size + 1 + 1 + 1]? = some (.map #[] 0) from hget 3)
  have G11 := Lib.hid (show W0.heap[w3.heap.size + 1 + 1 + 1 + 1]? = some (.cells #[.map (some (w3.heap.size + 1 + 1 + 1))] 42 (0, 0)) from hget 4)
  have G12 := Lib.hid (show Boxed W0 (w3.heap.size + 1 + 1 + 1 + 1 + 1) 25 (.slice none 0 0) from hget 5)
  have GT := Lib.hid (show W0.heap[w3.heap.size + 1 + 1 + 1 + 1 + 1 + 1]? = some (.cells #[.slice a1 n1 c1, .slice a2 n2 c2, .slice a3 n3 c3] 22 (0, 0)) from hget 6)
  have GS := Lib.hid (show W0.heap[w3.heap.size + 1 + 1 + 1 + 1 + 1 + 1 + 1]? = some (.cells #[.slice (some ⟨w3.heap.size + 1 + 1 + 1 + 1 + 1 + 1, 0, none⟩) 3 3] 53 (0, 0)) from hget 7)
  have BW0 := Lib.hid (bel2 B3.out hbw)
  have N1 := Lib.hid (IsMapV.over M1.out hbw)
  have N2 := Lib.hid (IsMapV.over M2'.out hbw)
  have N3 := Lib.hid (IsMapV.over M3.out hbw)
  have l1 := M1.out.lt
  have l2 := M2'.out.lt
  have l3 := M3.out.lt
  have HSZ := Lib.hid hsz
  have hs3 := B3.out.size
  have NM := Lib.hid (show IsMapV W0 Tryz.prog 3 (w3.heap.size + 1 + 1 + 1) 0 (mapE (mgP (mgE p q r) [])) from (by
    have h := IsMapV.made w3 Tryz.prog 3
    have hd : mapE (mgP (mgE p q r) []) = fun _ => none := by funext i; simp [mapE, mgP]
    rw [hd]
    obtain ⟨D, ho, hrest⟩ := IsMapV.made w3 Tryz.prog 3
    obtain ⟨es, ck, hb, F, hle, hD⟩ := ho
    refine ⟨D, ⟨es, ck, ?_, F, hle, hD⟩, hrest⟩
    rw [heap_alloc_new] at hb
    rw [GM.out]; exact hb))
  simp only [allocs, List.foldl_cons, List.foldl_nil] at hW0
  rw [hW0]
  clear hW0 hget hsz M1 M2' M3 hbw
  have hLs : IsLs w W0 (w3.heap.size + 1 + 1 + 1 + 1 + 1 + 1) [(a1, n1, c1, p), (a2, n2, c2, q), (a3, n3, c3, r)] := by
    refine ⟨fun k t ht => ?_, fun t ht => ?_, by simp, fun t ht => ?_⟩
    · rw [Joins.cell_of_block GT.out]
      rcases k with _ | _ | _ | k <;> simp at ht <;> subst ht <;> rfl
    · simp only [List.mem_cons, List.not_mem_nil, or_false] at ht
      rcases ht with rfl | rfl | rfl
      · exact H1.out
      · exact H2.out
      · exact H3.out
    · simp only [List.mem_cons, List.not_mem_nil, or_false] at ht
      rcases ht with rfl | rfl | rfl
      · exact m1
      · exact m2
      · exact m3
  obtain ⟨i0, hi, hz0, hz1, hz2⟩ := info_parts intInfo'
  have hsw : w.heap.size ≤ W0.heap.size := BW0.out.size
  have hG0 : w3.heap.size + 1 + 1 + 1 < W0.heap.size := by rw [HSZ.out]; omega
  refine wpIn_rangeFunc_ownG rfl (by omega) (gf := 65) (lb := #[.pointer (some ⟨w3.heap.size + 1 + 1 + 1 + 1 + 1 + 1 + 1, 0, none⟩)]) rfl trivial (enters_of Tryz.func65 (by kernel_rfl) rfl)
    (ids_stops 7 (by omega) (w3.heap.size + 1 + 1 + 1 + 1 + 1 + 1 + 1) (w3.heap.size + 1 + 1 + 1 + 1 + 1 + 1) [(a1, n1, c1, p), (a2, n2, c2, q), (a3, n3, c3, r)] w W0 BW0.out hLs GS.out) kpI_t (kpI_b hsw (by rw [HSZ.out]; omega) (by rw [HSZ.out]; omega)) (Below.refl _ _) (fun _ => rfl)
    (fun pre W => Inv W0 (w3.heap.size + 1 + 1 + 1) (w3.heap.size + 1 + 1 + 1 + 1 + 1) (mgE p q r) (cfE p q r) (ints pre) W)
    (fun _ _ _ => False)
    (inv_own W0 _ _ _ _ hG0)
    (fun _ _ _ _ _ hs _ _ => hs)
    ⟨⟨Kb.refl _ _ _, NM.out⟩, .slice none 0 0, G12.out, World.ownsRow_nil _ _ _ _, trivial⟩
    (fun x => { tmps := #[Value.slice a1 n1 c1, Value.slice a2 n2 c2, Value.slice a3 n3 c3, undef, undef, undef, Value.map none, Value.slice none 0 0, Value.pointer (some ⟨w3.heap.size, 0, none⟩), Value.pointer (some ⟨w3.heap.size + 1, 0, none⟩), Value.pointer (some ⟨w3.heap.size + 1 + 1, 0, none⟩), Value.pointer (some ⟨w3.heap.size + 1 + 1 + 1 + 1, 0, none⟩), Value.pointer (some ⟨w3.heap.size + 1 + 1 + 1 + 1 + 1, 0, none⟩), Value.int .i64 x.1, undef, undef, Value.slice a1 n1 c1, Value.map (some g1), Value.slice a2 n2 c2, Value.map (some g2), Value.slice a3 n3 c3, Value.map (some g3), Value.map (some (w3.heap.size + 1 + 1 + 1)), Value.slice a1 n1 c1, Value.slice a2 n2 c2, Value.slice a3 n3 c3, Value.slice (some ⟨w3.heap.size + 1 + 1 + 1 + 1 + 1 + 1, 0, none⟩) 3 3, Value.func (Fn.func 65) #[] #[Value.pointer (some ⟨w3.heap.size + 1 + 1 + 1 + 1 + 1 + 1 + 1, 0, none⟩)], Value.int .i64 x.1, undef, undef, undef, undef, undef, undef, undef, undef, undef, undef, undef, undef, undef, undef, undef, undef, undef, undef, undef, undef, undef, undef, undef, undef, undef, undef, undef, undef], defers := [] }) ?assign ?body ?done ?stop
  case assign =>
    intro l x W K hK
    gi_wp2
    exact hK
  case body =>
    rintro l pre ⟨x, hx⟩ W ⟨⟨hkb, hm⟩, v, hv, hrow, -⟩ hlt
    obtain ⟨va, vc, rfl⟩ := own_slice hrow
    have HBW := Lib.hid (hkb.below BW0.out (by omega) (by omega))
    have hXo := (beO_ok H1.out.2.2.2.1 x).over HBW.out
    have hYo := (beO_ok H2.out.2.2.2.1 x).over HBW.out
    have hZo := (beO_ok H3.out.2.2.2.1 x).over HBW.out
    obtain ⟨X, hXe⟩ : ∃ X, beO (fndE p x) = X := ⟨_, rfl⟩
    obtain ⟨Y, hYe⟩ : ∃ Y, beO (fndE q x) = Y := ⟨_, rfl⟩
    obtain ⟨Z, hZe⟩ : ∃ Z, beO (fndE r x) = Z := ⟨_, rfl⟩
    rw [hXe] at hXo
    rw [hYe] at hYo
    rw [hZe] at hZo
    have KC := choose_any X Y Z W hXo hYo hZo
    have HCH : chE p q r x = chsE X Y Z := by unfold chE; rw [hXe, hYe, hZe]
    generalize chsE X Y Z = RC at *
    obtain ⟨R, cc⟩ := RC
    have L1 := Lib.hid (look_beO (p := p) hXe (.agg #[.int .i64 0, .int .i64 0, .string ⟨#[]⟩, .int .i64 0, .int .i64 0, .int .i64 0, .slice none 0 0, .int .i64 0, .int .i64 0]) rfl)
    have L2 := Lib.hid (look_beO (p := q) hYe (.agg #[.int .i64 0, .int .i64 0, .string ⟨#[]⟩, .int .i64 0, .int .i64 0, .int .i64 0, .slice none 0 0, .int .i64 0, .int .i64 0]) rfl)
    have L3 := Lib.hid (look_beO (p := r) hZe (.agg #[.int .i64 0, .int .i64 0, .string ⟨#[]⟩, .int .i64 0, .int .i64 0, .int .i64 0, .slice none 0 0, .int .i64 0, .int .i64 0]) rfl)
    have T1 := Lib.hid (hkb.map N1.out (by omega) (by omega))
    have T2 := Lib.hid (hkb.map N2.out (by omega) (by omega))
    have T3 := Lib.hid (hkb.map N3.out (by omega) (by omega))
    have HCF := Lib.hid (show cfE p q r x = cc by unfold cfE; rw [HCH])
    have HMG := Lib.hid (show mgE p q r x = if (R.1.id == 0) = true then none else some R by unfold mgE; rw [HCH])
    have hkey := key_of hx
    have c8 := cellB (hkb.at_ G8.out (by omega) (by omega))
    have c9 := cellB (hkb.at_ G9.out (by omega) (by omega))
    have c10 := cellB (hkb.at_ G10.out (by omega) (by omega))
    have G11W := Lib.hid (hkb.at_ G11.out (by omega) (by omega))
    unfold bv blkV at KC
    simp only at KC
    have HKC := Lib.hid KC
    have HKB := Lib.hid hkb
    have HM := Lib.hid hm
    have HV := Lib.hid hv
    have HRW := Lib.hid hrow
    clear hXo hYo hZo hXe hYe hZe KC HCH hkb hm hv hrow
    have hsW := HKB.out.size
    cases cc
    · gi_wp2_with (first | (gi_at_lookup; refine wpListIn_look_V _ rfl (.tmp 30) (.tmp 31) 42 rfl 3 39 keyI Tryz.underlying42 _ (Tryz.zeroValue39 _) g1 n1 (mapB p) rfl T1.out _ rfl hkey ?_; rw [L1.out]) | (gi_at_lookup; refine wpListIn_look_V _ rfl (.tmp 33) (.tmp 34) 42 rfl 3 39 keyI Tryz.underlying42 _ (Tryz.zeroValue39 _) g2 n2 (mapB q) rfl T2.out _ rfl hkey ?_; rw [L2.out]) | (gi_at_lookup; refine wpListIn_look_V _ rfl (.tmp 36) (.tmp 37) 42 rfl 3 39 keyI Tryz.underlying42 _ (Tryz.zeroValue39 _) g3 n3 (mapB r) rfl T3.out _ rfl hkey ?_; rw [L3.out]))
      refine ⟨trivial, ?_⟩
      refine (CallsIn.inRound l (callsIn_wide.2 HKC.out)).mono ?_
      rintro e w4 ⟨rfl, b4⟩
      clear c8 c9 c10
      have B5 : Below W.heap.size W (w4.alloc (.cells #[.int .i64 R.1.id, .int .i64 R.1.kd, .string ⟨R.1.tx.toArray⟩, .int .i64 R.1.st, .int .i64 R.1.rf, .int .i64 R.1.lb.u, .slice R.2.1 R.2.2.1 R.2.2.2, .int .i64 R.1.lb.ap, .int .i64 R.1.lb.d] 39)) := bel2 b4 (below_alloc _ _)
      have hs4 := b4.size
      have HFN := Lib.hid (show (ints pre ++ [x]).filter (cfE p q r) = (ints pre).filter (cfE p q r) by rw [List.filter_append]; simp [HCF.out])
      have HKB5 := Lib.hid (HKB.out.over B5)
      have HM5 := Lib.hid (IsMapV.over HM.out B5)
      have HV5 := Lib.hid (boxed_over HV.out B5)
      have HRW5 : Hid ((w4.alloc (.cells #[.int .i64 R.1.id, .int .i64 R.1.kd, .string ⟨R.1.tx.toArray⟩, .int .i64 R.1.st, .int .i64 R.1.rf, .int .i64 R.1.lb.u, .slice R.2.1 R.2.2.1 R.2.2.2, .int .i64 R.1.lb.ap, .int .i64 R.1.lb.d] 39)).ownsRow W0.heap.size 3 1 (.slice va ((ints pre).filter (cfE p q r)).length vc) ((ints pre ++ [x]).filter (cfE p q r)).length (intsV ((ints pre ++ [x]).filter (cfE p q r)))) := Lib.hid (by rw [HFN.out]; exact own_over HRW.out B5)
      have HK5 := Lib.hid ((keepsOthers_below B5).from W0.heap.size)
      have G11_5 := Lib.hid (blockOver B5 G11W.out)
      have NB := Lib.hid (heap_alloc_new w4 (.cells #[.int .i64 R.1.id, .int .i64 R.1.kd, .string ⟨R.1.tx.toArray⟩, .int .i64 R.1.st, .int .i64 R.1.rf, .int .i64 R.1.lb.u, .slice R.2.1 R.2.2.1 R.2.2.2, .int .i64 R.1.lb.ap, .int .i64 R.1.lb.d] 39))
      clear B5 b4
      obtain ⟨hq0, hq1, hq2, hq3, hq4, hq5, hq6, hq7, hq8⟩ := nine_of (e := R) NB.out
      gi_wp2
      refine ⟨trivial, ?_⟩
      refine (CallsIn.inRound l (callsIn_wide.2 (isNone_any R _))).mono ?_
      rintro e w6 ⟨rfl, b6⟩
      have HKB6 := Lib.hid (HKB5.out.over b6)
      have HM6 := Lib.hid (IsMapV.over HM5.out b6)
      have HV6 := Lib.hid (boxed_over HV5.out b6)
      have HR6 := Lib.hid (own_over HRW5.out b6)
      have HK6 := Lib.hid (HK5.out.trans ((keepsOthers_below b6).from _))
      have HG6 := Lib.hid (cellB (blockOver b6 G11_5.out))
      have HN6 := Lib.hid (nine_of (e := R) (blockOver b6 NB.out))
      clear b6 HKB5 HM5 HV5 HRW5 HK5 G11_5 NB hq0 hq1 hq2 hq3 hq4 hq5 hq6 hq7 hq8
      have hpl : (ints pre).length = pre.length := by simp [ints]
      have HC6 : Hid (cntS (mB (mgE p q r)) (ints pre) < maxLen) := Lib.hid (by
        have h9 := cntS_len (mB (mgE p q r)) (ints pre) [] 0
        unfold cntS maxLen
        omega)
      cases hz : (R.1.id == 0)
      · have HMN := Lib.hid (show mgE p q r x = some R by rw [HMG.out, hz]; rfl)
        have HZ := Lib.hid hz
        have hg6 := HG6.out
        obtain ⟨q0, q1, q2, q3, q4, q5, q6, q7, q8⟩ := HN6.out
        clear hz
        gi_wp2_with (gi_at_mapUpdate; refine wpListIn_store_V _ rfl _ _ _ 42 rfl 3 39 keyI Tryz.underlying42 (w3.heap.size + 1 + 1 + 1) _ _ rfl HM6.out HC6.out x (.agg #[.int .i64 R.1.id, .int .i64 R.1.kd, .string ⟨R.1.tx.toArray⟩, .int .i64 R.1.st, .int .i64 R.1.rf, .int .i64 R.1.lb.u, .slice R.2.1 R.2.2.1 R.2.2.2, .int .i64 R.1.lb.ap, .int .i64 R.1.lb.d]) rfl rfl hkey ?_; intro w7 hm7 hg7; have HM7 := Lib.hid hm7; have HG7 := Lib.hid hg7; clear hm7 hg7)
        refine ⟨HK6.out.trans (KeepsFrom.of_grownBy HG7.out (fun j e => by cases e; exact hG0)), HKB.out.kp (HKB6.out.grown HG7.out (fun k e => by cases e; exact .inl rfl)) BW0.out (by omega) (by omega) (by rw [HSZ.out]; omega) (by rw [HSZ.out]; omega) (by omega) (by omega) (by omega) (by omega), ⟨HKB6.out.grown HG7.out (fun k e => by cases e; exact .inl rfl), ?_⟩, _, HG7.out.block _ (Array.getElem?_eq_some_iff.1 HV6.out).1 (by simp; omega) |>.trans HV6.out, ?_, trivial⟩
        · rw [ints_snoc, cnt_some HMN.out, ← mgP_snoc_some HMN.out]; exact HM7.out
        · rw [ints_snoc]
          exact HR6.out.kept HG7.out (.inr (fun e => by have := (HR6.out.lt _ e).1; omega))
      · have HMN := Lib.hid (show mgE p q r x = none by rw [HMG.out, hz]; rfl)
        have HZ := Lib.hid hz
        clear hz
        gi_wp2
        refine ⟨HK6.out, HKB.out.kp HKB6.out BW0.out (by omega) (by omega) (by rw [HSZ.out]; omega) (by rw [HSZ.out]; omega) (by omega) (by omega) (by omega) (by omega), ⟨HKB6.out, ?_⟩, _, HV6.out, ?_, trivial⟩
        · rw [ints_snoc, cnt_none HMN.out, mgP_snoc_none HMN.out]; exact HM6.out
        · rw [ints_snoc]; exact HR6.out
    · gi_wp2_with (first | (gi_at_lookup; refine wpListIn_look_V _ rfl (.tmp 30) (.tmp 31) 42 rfl 3 39 keyI Tryz.underlying42 _ (Tryz.zeroValue39 _) g1 n1 (mapB p) rfl T1.out _ rfl hkey ?_; rw [L1.out]) | (gi_at_lookup; refine wpListIn_look_V _ rfl (.tmp 33) (.tmp 34) 42 rfl 3 39 keyI Tryz.underlying42 _ (Tryz.zeroValue39 _) g2 n2 (mapB q) rfl T2.out _ rfl hkey ?_; rw [L2.out]) | (gi_at_lookup; refine wpListIn_look_V _ rfl (.tmp 36) (.tmp 37) 42 rfl 3 39 keyI Tryz.underlying42 _ (Tryz.zeroValue39 _) g3 n3 (mapB r) rfl T3.out _ rfl hkey ?_; rw [L3.out]))
      refine ⟨trivial, ?_⟩
      refine (CallsIn.inRound l (callsIn_wide.2 HKC.out)).mono ?_
      rintro e w4 ⟨rfl, b4⟩
      clear c8 c9 c10
      have B5 : Below W.heap.size W (w4.alloc (.cells #[.int .i64 R.1.id, .int .i64 R.1.kd, .string ⟨R.1.tx.toArray⟩, .int .i64 R.1.st, .int .i64 R.1.rf, .int .i64 R.1.lb.u, .slice R.2.1 R.2.2.1 R.2.2.2, .int .i64 R.1.lb.ap, .int .i64 R.1.lb.d] 39)) := bel2 b4 (below_alloc _ _)
      have hs4 := b4.size
      have HFN := Lib.hid (show (ints pre ++ [x]).filter (cfE p q r) = (ints pre).filter (cfE p q r) ++ [x] by rw [List.filter_append]; simp [HCF.out])
      have HKB4 := Lib.hid (HKB.out.over B5)
      have HM4 := Lib.hid (IsMapV.over HM.out B5)
      have HV4 := Lib.hid (boxed_over HV.out B5)
      have HRW4 := Lib.hid (own_over HRW.out B5)
      have HK4 := Lib.hid ((keepsOthers_below B5).from W0.heap.size)
      have G11_4 := Lib.hid (blockOver B5 G11W.out)
      have NB4 := Lib.hid (heap_alloc_new w4 (.cells #[.int .i64 R.1.id, .int .i64 R.1.kd, .string ⟨R.1.tx.toArray⟩, .int .i64 R.1.st, .int .i64 R.1.rf, .int .i64 R.1.lb.u, .slice R.2.1 R.2.2.1 R.2.2.2, .int .i64 R.1.lb.ap, .int .i64 R.1.lb.d] 39))
      clear B5 b4
      have hc4 := HV4.out.cell
      have HLF := Lib.hid (show ((ints pre).filter (cfE p q r)).length ≤ 200000 by
        have h8 := List.length_filter_le (cfE p q r) (ints pre)
        have h9 : (ints pre).length = pre.length := by simp [ints]
        omega)
      have HRL := Lib.hid (fun j (e : Value.ownBlock (.slice va ((ints pre).filter (cfE p q r)).length vc) = some j) => HRW.out.lt j e)
      have HCE := Lib.hid (show ∀ (j : Nat) (u : Value), [Value.int .i64 x][j]? = some u → ((w4.alloc (.cells #[.int .i64 R.1.id, .int .i64 R.1.kd, .string ⟨R.1.tx.toArray⟩, .int .i64 R.1.st, .int .i64 R.1.rf, .int .i64 R.1.lb.u, .slice R.2.1 R.2.2.1 R.2.2.2, .int .i64 R.1.lb.ap, .int .i64 R.1.lb.d] 39)).alloc (.cells #[.int .i64 x] 3)).cell? ((⟨w4.heap.size + 1, 0, none⟩ : Addr).add j) = some u by
        have h := cell_one_new (w4.alloc (.cells #[.int .i64 R.1.id, .int .i64 R.1.kd, .string ⟨R.1.tx.toArray⟩, .int .i64 R.1.st, .int .i64 R.1.rf, .int .i64 R.1.lb.u, .slice R.2.1 R.2.2.1 R.2.2.2, .int .i64 R.1.lb.ap, .int .i64 R.1.lb.d] 39)) (.int .i64 x) 3
        rwa [show (w4.alloc (.cells #[.int .i64 R.1.id, .int .i64 R.1.kd, .string ⟨R.1.tx.toArray⟩, .int .i64 R.1.st, .int .i64 R.1.rf, .int .i64 R.1.lb.u, .slice R.2.1 R.2.2.1 R.2.2.2, .int .i64 R.1.lb.ap, .int .i64 R.1.lb.d] 39)).heap.size = w4.heap.size + 1 by simp] at h)
      gi_wp2_with (gi_at_builtin; refine wpListIn_append_own _ rfl _ _ 25 rfl W0.heap.size 3 i0 (.int .i64 0) 1 8 Tryz.underlying25 hi hz0 hz1 hz2 rfl (by decide) (.slice va ((ints pre).filter (cfE p q r)).length vc) _ _ rfl (HRW4.out.alloc _) ⟨w4.heap.size + 1, 0, none⟩ 1 1 [.int .i64 x] rfl rfl HCE.out (by simp [Value.oneCell']) (by have := HLF.out; unfold maxLen; omega) (by have := HLF.out; omega) (by simp; omega) ?_; intro v' w2 hown' hgrow _; obtain ⟨g', cap', rfl⟩ := ownsRow_succ hown'; obtain ⟨hv2, hv3, hr3, hk3, hb3⟩ := HV4.out.appended (n₀ := w3.heap.size) (by decide) (own_mono HRW4.out (by omega)) (by simp; omega) (by omega) (own_mono hown' (by omega)) hgrow; have hc2 := hv2.cell; have hf2 := hv2.frozen; have HV5 := Lib.hid hv3; have HK5 := Lib.hid (HK4.out.trans (hk3.from W0.heap.size)); have HKB5 := Lib.hid (((HKB4.out.alloc _).grown hgrow (fun k e => .inr (.inr (HRW4.out.lt k e).1))).setB (.slice (some ⟨g', 0, none⟩) (((ints pre).filter (cfE p q r)).length + 1) cap')); have HM5 := Lib.hid (HM4.out.block (block_step (B := w3.heap.size + 1 + 1 + 1 + 1 + 1) (v' := .slice (some ⟨g', 0, none⟩) (((ints pre).filter (cfE p q r)).length + 1) cap') hgrow (by simp; omega) (fun j e => by have := (HRL.out j e).1; omega) (by omega))); have G11_5 := Lib.hid ((block_step (B := w3.heap.size + 1 + 1 + 1 + 1 + 1) (v' := .slice (some ⟨g', 0, none⟩) (((ints pre).filter (cfE p q r)).length + 1) cap') hgrow (by have := HSZ.out; simp; omega) (fun j e => by have := (HRL.out j e).1; have := HSZ.out; omega) (by omega)).trans G11_4.out); have NB := Lib.hid ((block_step (B := w3.heap.size + 1 + 1 + 1 + 1 + 1) (v' := .slice (some ⟨g', 0, none⟩) (((ints pre).filter (cfE p q r)).length + 1) cap') hgrow (by simp) (fun j e => by have := (HRL.out j e).2; omega) (by have := HSZ.out; omega)).trans NB4.out); have HRW5 : Hid ((w2.setCell ⟨w3.heap.size + 1 + 1 + 1 + 1 + 1, 0, none⟩ (.slice (some ⟨g', 0, none⟩) (((ints pre).filter (cfE p q r)).length + 1) cap')).ownsRow W0.heap.size 3 1 (.slice (some ⟨g', 0, none⟩) (((ints pre).filter (cfE p q r)).length + 1) cap') ((ints pre ++ [x]).filter (cfE p q r)).length (intsV ((ints pre ++ [x]).filter (cfE p q r)))) := Lib.hid (by rw [HFN.out, List.length_append, intsV, List.map_append]; exact hown'.kept (grownBy_setCell' w2 _ _) (.inr (hv2.not_row (by decide) hown').symm)); obtain ⟨hq0, hq1, hq2, hq3, hq4, hq5, hq6, hq7, hq8⟩ := nine_of (e := R) NB.out; clear hown' hgrow hv2 hv3 hr3 hk3 hb3)
      refine ⟨trivial, ?_⟩
      refine (CallsIn.inRound l (callsIn_wide.2 (isNone_any R _))).mono ?_
      rintro e w6 ⟨rfl, b6⟩
      have HKB6 := Lib.hid (HKB5.out.over b6)
      have HM6 := Lib.hid (IsMapV.over HM5.out b6)
      have HV6 := Lib.hid (boxed_over HV5.out b6)
      have HR6 := Lib.hid (own_over HRW5.out b6)
      have HK6 := Lib.hid (HK5.out.trans ((keepsOthers_below b6).from _))
      have HG6 := Lib.hid (cellB (blockOver b6 G11_5.out))
      have HN6 := Lib.hid (nine_of (e := R) (blockOver b6 NB.out))
      clear b6 HKB5 HM5 HV5 HRW5 HK5 G11_5 NB hq0 hq1 hq2 hq3 hq4 hq5 hq6 hq7 hq8
      have hpl : (ints pre).length = pre.length := by simp [ints]
      have HC6 : Hid (cntS (mB (mgE p q r)) (ints pre) < maxLen) := Lib.hid (by
        have h9 := cntS_len (mB (mgE p q r)) (ints pre) [] 0
        unfold cntS maxLen
        omega)
      cases hz : (R.1.id == 0)
      · have HMN := Lib.hid (show mgE p q r x = some R by rw [HMG.out, hz]; rfl)
        have HZ := Lib.hid hz
        have hg6 := HG6.out
        obtain ⟨q0, q1, q2, q3, q4, q5, q6, q7, q8⟩ := HN6.out
        clear hz
        gi_wp2_with (gi_at_mapUpdate; refine wpListIn_store_V _ rfl _ _ _ 42 rfl 3 39 keyI Tryz.underlying42 (w3.heap.size + 1 + 1 + 1) _ _ rfl HM6.out HC6.out x (.agg #[.int .i64 R.1.id, .int .i64 R.1.kd, .string ⟨R.1.tx.toArray⟩, .int .i64 R.1.st, .int .i64 R.1.rf, .int .i64 R.1.lb.u, .slice R.2.1 R.2.2.1 R.2.2.2, .int .i64 R.1.lb.ap, .int .i64 R.1.lb.d]) rfl rfl hkey ?_; intro w7 hm7 hg7; have HM7 := Lib.hid hm7; have HG7 := Lib.hid hg7; clear hm7 hg7)
        refine ⟨HK6.out.trans (KeepsFrom.of_grownBy HG7.out (fun j e => by cases e; exact hG0)), HKB.out.kp (HKB6.out.grown HG7.out (fun k e => by cases e; exact .inl rfl)) BW0.out (by omega) (by omega) (by rw [HSZ.out]; omega) (by rw [HSZ.out]; omega) (by omega) (by omega) (by omega) (by omega), ⟨HKB6.out.grown HG7.out (fun k e => by cases e; exact .inl rfl), ?_⟩, _, HG7.out.block _ (Array.getElem?_eq_some_iff.1 HV6.out).1 (by simp; omega) |>.trans HV6.out, ?_, trivial⟩
        · rw [ints_snoc, cnt_some HMN.out, ← mgP_snoc_some HMN.out]; exact HM7.out
        · rw [ints_snoc]
          exact HR6.out.kept HG7.out (.inr (fun e => by have := (HR6.out.lt _ e).1; omega))
      · have HMN := Lib.hid (show mgE p q r x = none by rw [HMG.out, hz]; rfl)
        have HZ := Lib.hid hz
        clear hz
        gi_wp2
        refine ⟨HK6.out, HKB.out.kp HKB6.out BW0.out (by omega) (by omega) (by rw [HSZ.out]; omega) (by rw [HSZ.out]; omega) (by omega) (by omega) (by omega) (by omega), ⟨HKB6.out, ?_⟩, _, HV6.out, ?_, trivial⟩
        · rw [ints_snoc, cnt_none HMN.out, mgP_snoc_none HMN.out]; exact HM6.out
        · rw [ints_snoc]; exact HR6.out
  case done =>
    rintro D ys W hD hys ⟨⟨hkb, hm⟩, v, hv, hrow, -⟩ hK
    have hE : ints ys = idsA (blks p) (blks q) (blks r) := by rw [hys]; rfl
    rw [hE] at hrow hm
    rw [cf_eq HV3.out] at hrow
    obtain ⟨va, vc, rfl⟩ := own_slice hrow
    rw [map_all HV3.out, cnt_all HV3.out] at hm
    have hln : ((idsA (blks p) (blks q) (blks r)).filter (cfl (blks p) (blks q) (blks r))).length ≤ 100000 := by
      have h8 := List.length_filter_le (cfl (blks p) (blks q) (blks r)) (idsA (blks p) (blks q) (blks r))
      have h9 := idsA_len HV3.out
      omega
    have KS := Lib.hid (sort_any W W0.heap.size _ _ _ _ hrow hln)
    have hc := hv.cell
    have h11 := hkb.at_ G11.out (by omega) (by omega)
    have HNE : Hid (some D ≠ (Value.slice va ((idsA (blks p) (blks q) (blks r)).filter (cfl (blks p) (blks q) (blks r))).length vc).ownBlock) := Lib.hid (by
      intro e
      rcases hrow.2 with ⟨h0, _⟩ | ⟨g, cap, cur, h0, _, hgb, _⟩
      · rw [h0] at e; simp [Value.ownBlock] at e
      · rw [h0] at e
        obtain rfl : D = g := by simpa [Value.ownBlock] using e
        rw [hgb] at hK; cases hK)
    have HRL := Lib.hid (fun j (e : Value.ownBlock (.slice va ((idsA (blks p) (blks q) (blks r)).filter (cfl (blks p) (blks q) (blks r))).length vc) = some j) => hrow.lt j e)
    have HKB := Lib.hid hkb
    have HM := Lib.hid hm
    have HV := Lib.hid hv
    have HK := Lib.hid hK
    have h11 := Lib.hid h11
    clear hrow hkb hm hv hys hK
    have hl0 := hln
    obtain ⟨L, hL⟩ : ∃ L, L = ((idsA (blks p) (blks q) (blks r)).filter (cfl (blks p) (blks q) (blks r))).length := ⟨_, rfl⟩
    rw [← hL] at KS hc HRL HV HNE
    have HL := Lib.hid hL
    clear hL
    gi_wp2
    refine ⟨trivial, ?_⟩
    refine (callsIn_wide.2 KS.out).mono ?_
    rintro e w5 ⟨rfl, hr5, hg5⟩
    rw [sort_conf HV3.out] at hr5
    have hL2 : L = (mconf (blks p) (blks q) (blks r)).length := by have h := own_len hr5; simpa [intsV] using h.symm
    have hv5 : Boxed w5 (w3.heap.size + 1 + 1 + 1 + 1 + 1) 25 (.slice va L vc) := (hg5.block _ (Array.getElem?_eq_some_iff.1 HV.out).1 (fun e => by have := (HRL.out _ e.symm).1; have := HSZ.out; omega)).trans HV.out
    have hc5 := hv5.cell
    have hm5 : w5.cell? ⟨w3.heap.size + 1 + 1 + 1 + 1, 0, none⟩ = some (.map (some (w3.heap.size + 1 + 1 + 1))) := cellB ((hg5.block _ (Array.getElem?_eq_some_iff.1 h11.out).1 (fun e => by have := (HRL.out _ e.symm).1; have := HSZ.out; omega)).trans h11.out)
    have HV5 := Lib.hid hv5
    have HK5 := Lib.hid ((hg5.block D (Array.getElem?_eq_some_iff.1 HK.out).1 HNE.out).trans HK.out)
    have HR5 := Lib.hid hr5
    have HG5 := Lib.hid hg5
    clear hv5 hr5 hg5
    gi_wp2
    gi_region
    gi_wp2
    have hKd : w5.drew.heap[D]? = some _ := HK5.out
    refine ⟨by simp, .inl ⟨_, _, rfl, run_takeDeferred hKd, ?_⟩⟩
    refine ⟨_, results_tmp2 rfl _ _ _, w3.heap.size + 1 + 1 + 1, va, _, vc, rfl, ?_, ?_, ?_⟩
    · exact ((HM.out.kept HG5.out (fun e => by have := (HRL.out _ e.symm).1; omega)).drew).kept (grownBy_putObj' _ D _) (fun e => by cases e; omega)
    · have hr := HR5.out
      rw [hL2] at hr
      exact ownsRow_putObj (own_mono hr (by omega)).drew _ hKd rfl
    · have hb : Below w.heap.size w w5 := (HKB.out.grown HG5.out (fun k e => .inr (.inr (HRL.out k e).1))).below BW0.out (by omega) (by omega)
      exact (hb.trans (below_drew (Below.refl _ _))).trans (belowK_b (w := W0) hsw _ D _ _ (by omega) hKd rfl rfl)
  case stop =>
    rintro D c pre W _ _ h _
    exact h.elim
end Go.Proofs.YtelipjjjlgnjoaaGreatDoor
