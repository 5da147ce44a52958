import Derived.Test.YtelipjjjlgnjoaaGreatDoorMgR
namespace Go.Proofs.YtelipjjjlgnjoaaGreatDoor
open Go.RowKit Go.MapKept Go.Shelf
attribute [local go_sem] Oper.semAt_some
set_option maxRecDepth 100000
set_option linter.unusedSimpArgs false
set_option linter.unusedVariables false
theorem eqO_swap (x y : Option Blk) : eqO x y = eqO y x := by
  rw [Bool.eq_iff_iff, eqO_iff, eqO_iff]; exact eq_comm
theorem fnd_at_none {es : List BE} {i : Int} (h : idxI (bids (blks es)) i = none) : fnd (blks es) i = none := by rw [fnd_idx, h]; rfl
theorem fnd_at_some {es : List BE} {i : Int} {k : Nat} {e : BE} (h : idxI (bids (blks es)) i = some k) (he : es[k]? = some e) : fnd (blks es) i = some e.1 := by
  rw [fnd_idx, h]; show (blks es)[k]? = _; unfold blks; rw [List.getElem?_map, he]; rfl
theorem idx_lt {es : List BE} {i : Int} {k n : Nat} (h : idxI (bids (blks es)) i = some k) (hn : es.length = n) : k < n := by have := idxI_lt h; rw [bids_len] at this; omega
set_option maxHeartbeats 16000000 in
/-- What the reference chooses. -/
theorem chosen_any (a1 : Option Addr) (n1 c1 : Nat) (p : List BE) (a2 : Option Addr) (n2 c2 : Nat) (q : List BE) (a3 : Option Addr) (n3 c3 : Nat) (r : List BE) (i : Int) (w : World) (h1 : IsBlks w a1 n1 c1 p) (h2 : IsBlks w a2 n2 c2 q) (h3 : IsBlks w a3 n3 c3 r) :
    Calls Tryz.prog 33 #[.slice a1 n1 c1, .slice a2 n2 c2, .slice a3 n3 c3, .int .i64 i] w fun x w' => ∃ e : BE, x = .returned (.tuple #[bv e, .bool (hasM (blks p) (blks q) (blks r) i), .bool (cfl (blks p) (blks q) (blks r) i)]) ∧ (hasM (blks p) (blks q) (blks r) i = true → mrg (blks p) (blks q) (blks r) i = some e.1 ∧ e.1.id = i ∧ (e ∈ q ∨ e ∈ r)) ∧ BeOk w' e ∧ Below w.heap.size w w' := by
  have hcq := h2.2.2.1
  have hnq := h2.2.1
  have hcr := h3.2.2.1
  have hnr := h3.2.1
  unfold maxLen at hcq hcr
  have H1 := Lib.hid h1
  have H2 := Lib.hid h2
  have H3 := Lib.hid h3
  have G0 := Lib.hid (heap_alloc_new w (.cells (elB beZ).toArray 39))
  have B0 := Lib.hid (below_alloc w (.cells (elB beZ).toArray 39))
  have CH := Lib.hid (show chs (fnd (blks p) i) (fnd (blks q) i) (fnd (blks r) i) = if eqO (fnd (blks q) i) (fnd (blks p) i) = true then (fnd (blks r) i, false) else if (eqO (fnd (blks r) i) (fnd (blks p) i) || eqO (fnd (blks r) i) (fnd (blks q) i)) = true then (fnd (blks q) i, false) else if (fnd (blks r) i).isNone = true then (fnd (blks q) i, true) else (fnd (blks r) i, true) from rfl)
  clear h1 h2 h3
  obtain ⟨W1, hW1⟩ : ∃ W1, w.alloc (.cells (elB beZ).toArray 39) = W1 := ⟨_, rfl⟩
  rw [hW1] at G0 B0
  go_enter Tryz.func33, Tryz.ntmps33
  go_wp2_with fail
  simp only [elB, beZ] at hW1
  rw [hW1]
  clear hW1
  refine (refat_any a2 n2 c2 q i W1 (H2.out.over B0.out)).mono ?_
  rintro x u1 ⟨rfl, b⟩
  have U1 := Lib.hid (bel2 B0.out b)
  have V1 := Lib.hid (blockOver b G0.out)
  clear b G0 B0
  go_wp2_with fail
  refine (refat_any a3 n3 c3 r i u1 (H3.out.over U1.out)).mono ?_
  rintro x u2 ⟨rfl, b⟩
  have U2 := Lib.hid (bel2 U1.out b)
  have V2 := Lib.hid (blockOver b V1.out)
  clear b V1 U1
  go_wp2_with fail
  refine (refequal_any a1 n1 c1 p a2 n2 c2 q i u2 (H1.out.over U2.out) (H2.out.over U2.out)).mono ?_
  rintro x u3 ⟨rfl, b⟩
  have U3 := Lib.hid (bel2 U2.out b)
  have V3 := Lib.hid (blockOver b V2.out)
  clear b V2 U2
  rw [eqO_swap]
  cases e1 : eqO (fnd (blks q) i) (fnd (blks p) i)
  · have E1 := Lib.hid (show ¬ (eqO (fnd (blks q) i) (fnd (blks p) i) = true) by rw [e1]; simp)
    clear e1
    go_wp2_with fail
    refine (refequal_any a1 n1 c1 p a3 n3 c3 r i u3 (H1.out.over U3.out) (H3.out.over U3.out)).mono ?_
    rintro x u4 ⟨rfl, b⟩
    have U4 := Lib.hid (bel2 U3.out b)
    have V4 := Lib.hid (blockOver b V3.out)
    clear b V3 U3
    rw [eqO_swap]
    go_wp2_with fail
    refine (refequal_any a2 n2 c2 q a3 n3 c3 r i u4 (H2.out.over U4.out) (H3.out.over U4.out)).mono ?_
    rintro x u5 ⟨rfl, b⟩
    have U5 := Lib.hid (bel2 U4.out b)
    have V5 := Lib.hid (blockOver b V4.out)
    clear b V4 U4
    rw [eqO_swap (fnd (blks q) i) (fnd (blks r) i)]
    cases e2 : eqO (fnd (blks r) i) (fnd (blks p) i)
    · cases e3 : eqO (fnd (blks r) i) (fnd (blks q) i)
      · cases hr : idxI (bids (blks r)) i with
        | none =>
          rw [atV_none hr]
          have HC := Lib.hid (show chs (fnd (blks p) i) (fnd (blks q) i) (fnd (blks r) i) = (fnd (blks q) i, true) by rw [CH.out, if_neg E1.out, e2, e3, if_neg (by simp), fnd_at_none hr, if_pos (show (none : Option Blk).isNone = true from rfl)])
          clear e2 e3 hr
          cases hi : idxI (bids (blks q)) i with
          | none =>
            rw [atV_none hi]
            have HCH := Lib.hid (show chs (fnd (blks p) i) (fnd (blks q) i) (fnd (blks r) i) = (none, true) by rw [HC.out, fnd_at_none hi])
            clear hi
            obtain ⟨r0, r1, r2, r3, r4, r5, r6, r7, r8⟩ := nine_of V5.out
            have f0 := Joins.unfrozen_of_block V5.out 0
            have f1 := Joins.unfrozen_of_block V5.out 1
            have f2 := Joins.unfrozen_of_block V5.out 2
            have f3 := Joins.unfrozen_of_block V5.out 3
            have f4 := Joins.unfrozen_of_block V5.out 4
            have f5 := Joins.unfrozen_of_block V5.out 5
            have f6 := Joins.unfrozen_of_block V5.out 6
            have f7 := Joins.unfrozen_of_block V5.out 7
            have f8 := Joins.unfrozen_of_block V5.out 8
            go_wp2
            clear r0 r1 r2 r3 r4 r5 r6 r7 r8 f0 f1 f2 f3 f4 f5 f6 f7 f8
            obtain ⟨p0, p1, p2, p3, p4, p5, p6, p7, p8⟩ := nine_of (Lib.hid (put9_block (e := beZ) V5.out)).out
            refine (?_ : bodyPost _ _ _ _ _ (put9 u5 w.heap.size beZ))
            have HB := Lib.hid (put9_below beZ U5.out (Nat.le_refl _))
            refine bodyPost_ret (v := .tuple #[bv beZ, .bool false, .bool true]) (by simp [results, Tryz.results33, go_sem, bv, blkV, p0, p1, p2, p3, p4, p5, p6, p7, p8]) rfl ⟨beZ, ?_, ?_, beZ_ok _, HB.out⟩
            · unfold hasM mrg cfl; rw [HCH.out]; rfl
            · intro h; unfold hasM mrg at h; rw [HCH.out] at h; cases h
          | some k =>
            rw [atV_some hi]
            have hk := idx_lt hi H2.out.1
            obtain ⟨b, off, e, rfl, he, hok, h9⟩ := (H2.out.over U5.out).at_ hk
            have HOK := Lib.hid (H2.out.2.2.2.1 e (List.mem_of_getElem? he))
            have HME := Lib.hid (show e ∈ q ∨ e ∈ r from .inl (List.mem_of_getElem? he))
            have HCH := Lib.hid (show chs (fnd (blks p) i) (fnd (blks q) i) (fnd (blks r) i) = (some e.1, true) by rw [HC.out, fnd_at_some hi he])
            obtain ⟨s0, s1, s2, s3, s4, s5, s6, s7, s8⟩ := h9
            obtain ⟨r0, r1, r2, r3, r4, r5, r6, r7, r8⟩ := nine_of V5.out
            have f0 := Joins.unfrozen_of_block V5.out 0
            have f1 := Joins.unfrozen_of_block V5.out 1
            have f2 := Joins.unfrozen_of_block V5.out 2
            have f3 := Joins.unfrozen_of_block V5.out 3
            have f4 := Joins.unfrozen_of_block V5.out 4
            have f5 := Joins.unfrozen_of_block V5.out 5
            have f6 := Joins.unfrozen_of_block V5.out 6
            have f7 := Joins.unfrozen_of_block V5.out 7
            have f8 := Joins.unfrozen_of_block V5.out 8
            have hki : (k : Int) < _ := Int.ofNat_lt.2 hk
            clear he hok hi
            go_wp2
            clear s0 s1 s2 s3 s4 s5 s6 s7 s8 r0 r1 r2 r3 r4 r5 r6 r7 r8 f0 f1 f2 f3 f4 f5 f6 f7 f8
            obtain ⟨p0, p1, p2, p3, p4, p5, p6, p7, p8⟩ := nine_of (Lib.hid (put9_block (e := e) V5.out)).out
            refine (?_ : bodyPost _ _ _ _ _ (put9 u5 w.heap.size e))
            have HB := Lib.hid (put9_below e U5.out (Nat.le_refl _))
            refine bodyPost_ret (v := .tuple #[bv e, .bool true, .bool true]) (by simp [results, Tryz.results33, go_sem, bv, blkV, p0, p1, p2, p3, p4, p5, p6, p7, p8]) rfl ⟨e, ?_, ?_, HOK.out.over HB.out, HB.out⟩
            · unfold hasM mrg cfl; rw [HCH.out]; rfl
            · intro _
              have hm : mrg (blks p) (blks q) (blks r) i = some e.1 := by unfold mrg; rw [HCH.out]
              exact ⟨hm, mrg_id hm, HME.out⟩
        | some k =>
          rw [atV_some hr]
          have HC := Lib.hid (show chs (fnd (blks p) i) (fnd (blks q) i) (fnd (blks r) i) = (fnd (blks r) i, true) by
            have hk := idx_lt hr H3.out.1
            have hs : fnd (blks r) i = some (r[k]'(by rw [H3.out.1]; exact hk)).1 := fnd_at_some hr (List.getElem?_eq_getElem _)
            rw [CH.out, if_neg E1.out, e2, e3, if_neg (by simp), hs, if_neg (by simp)])
          have hi := hr
          clear e2 e3 hr
          have hk := idx_lt hi H3.out.1
          obtain ⟨b, off, e, rfl, he, hok, h9⟩ := (H3.out.over U5.out).at_ hk
          have HOK := Lib.hid (H3.out.2.2.2.1 e (List.mem_of_getElem? he))
          have HME := Lib.hid (show e ∈ q ∨ e ∈ r from .inr (List.mem_of_getElem? he))
          have HCH := Lib.hid (show chs (fnd (blks p) i) (fnd (blks q) i) (fnd (blks r) i) = (some e.1, true) by rw [HC.out, fnd_at_some hi he])
          obtain ⟨s0, s1, s2, s3, s4, s5, s6, s7, s8⟩ := h9
          obtain ⟨r0, r1, r2, r3, r4, r5, r6, r7, r8⟩ := nine_of V5.out
          have f0 := Joins.unfrozen_of_block V5.out 0
          have f1 := Joins.unfrozen_of_block V5.out 1
          have f2 := Joins.unfrozen_of_block V5.out 2
          have f3 := Joins.unfrozen_of_block V5.out 3
          have f4 := Joins.unfrozen_of_block V5.out 4
          have f5 := Joins.unfrozen_of_block V5.out 5
          have f6 := Joins.unfrozen_of_block V5.out 6
          have f7 := Joins.unfrozen_of_block V5.out 7
          have f8 := Joins.unfrozen_of_block V5.out 8
          have hki : (k : Int) < _ := Int.ofNat_lt.2 hk
          clear he hok hi
          go_wp2
          clear s0 s1 s2 s3 s4 s5 s6 s7 s8 r0 r1 r2 r3 r4 r5 r6 r7 r8 f0 f1 f2 f3 f4 f5 f6 f7 f8
          obtain ⟨p0, p1, p2, p3, p4, p5, p6, p7, p8⟩ := nine_of (Lib.hid (put9_block (e := e) V5.out)).out
          refine (?_ : bodyPost _ _ _ _ _ (put9 u5 w.heap.size e))
          have HB := Lib.hid (put9_below e U5.out (Nat.le_refl _))
          refine bodyPost_ret (v := .tuple #[bv e, .bool true, .bool true]) (by simp [results, Tryz.results33, go_sem, bv, blkV, p0, p1, p2, p3, p4, p5, p6, p7, p8]) rfl ⟨e, ?_, ?_, HOK.out.over HB.out, HB.out⟩
          · unfold hasM mrg cfl; rw [HCH.out]; rfl
          · intro _
            have hm : mrg (blks p) (blks q) (blks r) i = some e.1 := by unfold mrg; rw [HCH.out]
            exact ⟨hm, mrg_id hm, HME.out⟩
      · have HC := Lib.hid (show chs (fnd (blks p) i) (fnd (blks q) i) (fnd (blks r) i) = (fnd (blks q) i, false) by rw [CH.out, if_neg E1.out, e2, e3, if_pos (by simp)])
        clear e2 e3
        generalize atV (bids (blks r)) i = zr at *
        cases hi : idxI (bids (blks q)) i with
        | none =>
          rw [atV_none hi]
          have HCH := Lib.hid (show chs (fnd (blks p) i) (fnd (blks q) i) (fnd (blks r) i) = (none, false) by rw [HC.out, fnd_at_none hi])
          clear hi
          obtain ⟨r0, r1, r2, r3, r4, r5, r6, r7, r8⟩ := nine_of V5.out
          have f0 := Joins.unfrozen_of_block V5.out 0
          have f1 := Joins.unfrozen_of_block V5.out 1
          have f2 := Joins.unfrozen_of_block V5.out 2
          have f3 := Joins.unfrozen_of_block V5.out 3
          have f4 := Joins.unfrozen_of_block V5.out 4
          have f5 := Joins.unfrozen_of_block V5.out 5
          have f6 := Joins.unfrozen_of_block V5.out 6
          have f7 := Joins.unfrozen_of_block V5.out 7
          have f8 := Joins.unfrozen_of_block V5.out 8
          go_wp2
          clear r0 r1 r2 r3 r4 r5 r6 r7 r8 f0 f1 f2 f3 f4 f5 f6 f7 f8
          obtain ⟨p0, p1, p2, p3, p4, p5, p6, p7, p8⟩ := nine_of (Lib.hid (put9_block (e := beZ) V5.out)).out
          refine (?_ : bodyPost _ _ _ _ _ (put9 u5 w.heap.size beZ))
          have HB := Lib.hid (put9_below beZ U5.out (Nat.le_refl _))
          refine bodyPost_ret (v := .tuple #[bv beZ, .bool false, .bool false]) (by simp [results, Tryz.results33, go_sem, bv, blkV, p0, p1, p2, p3, p4, p5, p6, p7, p8]) rfl ⟨beZ, ?_, ?_, beZ_ok _, HB.out⟩
          · unfold hasM mrg cfl; rw [HCH.out]; rfl
          · intro h; unfold hasM mrg at h; rw [HCH.out] at h; cases h
        | some k =>
          rw [atV_some hi]
          have hk := idx_lt hi H2.out.1
          obtain ⟨b, off, e, rfl, he, hok, h9⟩ := (H2.out.over U5.out).at_ hk
          have HOK := Lib.hid (H2.out.2.2.2.1 e (List.mem_of_getElem? he))
          have HME := Lib.hid (show e ∈ q ∨ e ∈ r from .inl (List.mem_of_getElem? he))
          have HCH := Lib.hid (show chs (fnd (blks p) i) (fnd (blks q) i) (fnd (blks r) i) = (some e.1, false) by rw [HC.out, fnd_at_some hi he])
          obtain ⟨s0, s1, s2, s3, s4, s5, s6, s7, s8⟩ := h9
          obtain ⟨r0, r1, r2, r3, r4, r5, r6, r7, r8⟩ := nine_of V5.out
          have f0 := Joins.unfrozen_of_block V5.out 0
          have f1 := Joins.unfrozen_of_block V5.out 1
          have f2 := Joins.unfrozen_of_block V5.out 2
          have f3 := Joins.unfrozen_of_block V5.out 3
          have f4 := Joins.unfrozen_of_block V5.out 4
          have f5 := Joins.unfrozen_of_block V5.out 5
          have f6 := Joins.unfrozen_of_block V5.out 6
          have f7 := Joins.unfrozen_of_block V5.out 7
          have f8 := Joins.unfrozen_of_block V5.out 8
          have hki : (k : Int) < _ := Int.ofNat_lt.2 hk
          clear he hok hi
          go_wp2
          clear s0 s1 s2 s3 s4 s5 s6 s7 s8 r0 r1 r2 r3 r4 r5 r6 r7 r8 f0 f1 f2 f3 f4 f5 f6 f7 f8
          obtain ⟨p0, p1, p2, p3, p4, p5, p6, p7, p8⟩ := nine_of (Lib.hid (put9_block (e := e) V5.out)).out
          refine (?_ : bodyPost _ _ _ _ _ (put9 u5 w.heap.size e))
          have HB := Lib.hid (put9_below e U5.out (Nat.le_refl _))
          refine bodyPost_ret (v := .tuple #[bv e, .bool true, .bool false]) (by simp [results, Tryz.results33, go_sem, bv, blkV, p0, p1, p2, p3, p4, p5, p6, p7, p8]) rfl ⟨e, ?_, ?_, HOK.out.over HB.out, HB.out⟩
          · unfold hasM mrg cfl; rw [HCH.out]; rfl
          · intro _
            have hm : mrg (blks p) (blks q) (blks r) i = some e.1 := by unfold mrg; rw [HCH.out]
            exact ⟨hm, mrg_id hm, HME.out⟩
    · have HC := Lib.hid (show chs (fnd (blks p) i) (fnd (blks q) i) (fnd (blks r) i) = (fnd (blks q) i, false) by rw [CH.out, if_neg E1.out, e2, if_pos (by simp)])
      clear e2
      generalize eqO (fnd (blks r) i) (fnd (blks q) i) = c9 at *
      generalize atV (bids (blks r)) i = zr at *
      cases hi : idxI (bids (blks q)) i with
      | none =>
        rw [atV_none hi]
        have HCH := Lib.hid (show chs (fnd (blks p) i) (fnd (blks q) i) (fnd (blks r) i) = (none, false) by rw [HC.out, fnd_at_none hi])
        clear hi
        obtain ⟨r0, r1, r2, r3, r4, r5, r6, r7, r8⟩ := nine_of V5.out
        have f0 := Joins.unfrozen_of_block V5.out 0
        have f1 := Joins.unfrozen_of_block V5.out 1
        have f2 := Joins.unfrozen_of_block V5.out 2
        have f3 := Joins.unfrozen_of_block V5.out 3
        have f4 := Joins.unfrozen_of_block V5.out 4
        have f5 := Joins.unfrozen_of_block V5.out 5
        have f6 := Joins.unfrozen_of_block V5.out 6
        have f7 := Joins.unfrozen_of_block V5.out 7
        have f8 := Joins.unfrozen_of_block V5.out 8
        go_wp2
        clear r0 r1 r2 r3 r4 r5 r6 r7 r8 f0 f1 f2 f3 f4 f5 f6 f7 f8
        obtain ⟨p0, p1, p2, p3, p4, p5, p6, p7, p8⟩ := nine_of (Lib.hid (put9_block (e := beZ) V5.out)).out
        refine (?_ : bodyPost _ _ _ _ _ (put9 u5 w.heap.size beZ))
        have HB := Lib.hid (put9_below beZ U5.out (Nat.le_refl _))
        refine bodyPost_ret (v := .tuple #[bv beZ, .bool false, .bool false]) (by simp [results, Tryz.results33, go_sem, bv, blkV, p0, p1, p2, p3, p4, p5, p6, p7, p8]) rfl ⟨beZ, ?_, ?_, beZ_ok _, HB.out⟩
        · unfold hasM mrg cfl; rw [HCH.out]; rfl
        · intro h; unfold hasM mrg at h; rw [HCH.out] at h; cases h
      | some k =>
        rw [atV_some hi]
        have hk := idx_lt hi H2.out.1
        obtain ⟨b, off, e, rfl, he, hok, h9⟩ := (H2.out.over U5.out).at_ hk
        have HOK := Lib.hid (H2.out.2.2.2.1 e (List.mem_of_getElem? he))
        have HME := Lib.hid (show e ∈ q ∨ e ∈ r from .inl (List.mem_of_getElem? he))
        have HCH := Lib.hid (show chs (fnd (blks p) i) (fnd (blks q) i) (fnd (blks r) i) = (some e.1, false) by rw [HC.out, fnd_at_some hi he])
        obtain ⟨s0, s1, s2, s3, s4, s5, s6, s7, s8⟩ := h9
        obtain ⟨r0, r1, r2, r3, r4, r5, r6, r7, r8⟩ := nine_of V5.out
        have f0 := Joins.unfrozen_of_block V5.out 0
        have f1 := Joins.unfrozen_of_block V5.out 1
        have f2 := Joins.unfrozen_of_block V5.out 2
        have f3 := Joins.unfrozen_of_block V5.out 3
        have f4 := Joins.unfrozen_of_block V5.out 4
        have f5 := Joins.unfrozen_of_block V5.out 5
        have f6 := Joins.unfrozen_of_block V5.out 6
        have f7 := Joins.unfrozen_of_block V5.out 7
        have f8 := Joins.unfrozen_of_block V5.out 8
        have hki : (k : Int) < _ := Int.ofNat_lt.2 hk
        clear he hok hi
        go_wp2
        clear s0 s1 s2 s3 s4 s5 s6 s7 s8 r0 r1 r2 r3 r4 r5 r6 r7 r8 f0 f1 f2 f3 f4 f5 f6 f7 f8
        obtain ⟨p0, p1, p2, p3, p4, p5, p6, p7, p8⟩ := nine_of (Lib.hid (put9_block (e := e) V5.out)).out
        refine (?_ : bodyPost _ _ _ _ _ (put9 u5 w.heap.size e))
        have HB := Lib.hid (put9_below e U5.out (Nat.le_refl _))
        refine bodyPost_ret (v := .tuple #[bv e, .bool true, .bool false]) (by simp [results, Tryz.results33, go_sem, bv, blkV, p0, p1, p2, p3, p4, p5, p6, p7, p8]) rfl ⟨e, ?_, ?_, HOK.out.over HB.out, HB.out⟩
        · unfold hasM mrg cfl; rw [HCH.out]; rfl
        · intro _
          have hm : mrg (blks p) (blks q) (blks r) i = some e.1 := by unfold mrg; rw [HCH.out]
          exact ⟨hm, mrg_id hm, HME.out⟩
  · have HC := Lib.hid (show chs (fnd (blks p) i) (fnd (blks q) i) (fnd (blks r) i) = (fnd (blks r) i, false) by rw [CH.out, if_pos e1])
    clear e1
    cases hi : idxI (bids (blks r)) i with
    | none =>
      rw [atV_none hi]
      have HCH := Lib.hid (show chs (fnd (blks p) i) (fnd (blks q) i) (fnd (blks r) i) = (none, false) by rw [HC.out, fnd_at_none hi])
      clear hi
      obtain ⟨r0, r1, r2, r3, r4, r5, r6, r7, r8⟩ := nine_of V3.out
      have f0 := Joins.unfrozen_of_block V3.out 0
      have f1 := Joins.unfrozen_of_block V3.out 1
      have f2 := Joins.unfrozen_of_block V3.out 2
      have f3 := Joins.unfrozen_of_block V3.out 3
      have f4 := Joins.unfrozen_of_block V3.out 4
      have f5 := Joins.unfrozen_of_block V3.out 5
      have f6 := Joins.unfrozen_of_block V3.out 6
      have f7 := Joins.unfrozen_of_block V3.out 7
      have f8 := Joins.unfrozen_of_block V3.out 8
      go_wp2
      clear r0 r1 r2 r3 r4 r5 r6 r7 r8 f0 f1 f2 f3 f4 f5 f6 f7 f8
      obtain ⟨p0, p1, p2, p3, p4, p5, p6, p7, p8⟩ := nine_of (Lib.hid (put9_block (e := beZ) V3.out)).out
      refine (?_ : bodyPost _ _ _ _ _ (put9 u3 w.heap.size beZ))
      have HB := Lib.hid (put9_below beZ U3.out (Nat.le_refl _))
      refine bodyPost_ret (v := .tuple #[bv beZ, .bool false, .bool false]) (by simp [results, Tryz.results33, go_sem, bv, blkV, p0, p1, p2, p3, p4, p5, p6, p7, p8]) rfl ⟨beZ, ?_, ?_, beZ_ok _, HB.out⟩
      · unfold hasM mrg cfl; rw [HCH.out]; rfl
      · intro h; unfold hasM mrg at h; rw [HCH.out] at h; cases h
    | some k =>
      rw [atV_some hi]
      have hk := idx_lt hi H3.out.1
      obtain ⟨b, off, e, rfl, he, hok, h9⟩ := (H3.out.over U3.out).at_ hk
      have HOK := Lib.hid (H3.out.2.2.2.1 e (List.mem_of_getElem? he))
      have HME := Lib.hid (show e ∈ q ∨ e ∈ r from .inr (List.mem_of_getElem? he))
      have HCH := Lib.hid (show chs (fnd (blks p) i) (fnd (blks q) i) (fnd (blks r) i) = (some e.1, false) by rw [HC.out, fnd_at_some hi he])
      obtain ⟨s0, s1, s2, s3, s4, s5, s6, s7, s8⟩ := h9
      obtain ⟨r0, r1, r2, r3, r4, r5, r6, r7, r8⟩ := nine_of V3.out
      have f0 := Joins.unfrozen_of_block V3.out 0
      have f1 := Joins.unfrozen_of_block V3.out 1
      have f2 := Joins.unfrozen_of_block V3.out 2
      have f3 := Joins.unfrozen_of_block V3.out 3
      have f4 := Joins.unfrozen_of_block V3.out 4
      have f5 := Joins.unfrozen_of_block V3.out 5
      have f6 := Joins.unfrozen_of_block V3.out 6
      have f7 := Joins.unfrozen_of_block V3.out 7
      have f8 := Joins.unfrozen_of_block V3.out 8
      have hki : (k : Int) < _ := Int.ofNat_lt.2 hk
      clear he hok hi
      go_wp2
      clear s0 s1 s2 s3 s4 s5 s6 s7 s8 r0 r1 r2 r3 r4 r5 r6 r7 r8 f0 f1 f2 f3 f4 f5 f6 f7 f8
      obtain ⟨p0, p1, p2, p3, p4, p5, p6, p7, p8⟩ := nine_of (Lib.hid (put9_block (e := e) V3.out)).out
      refine (?_ : bodyPost _ _ _ _ _ (put9 u3 w.heap.size e))
      have HB := Lib.hid (put9_below e U3.out (Nat.le_refl _))
      refine bodyPost_ret (v := .tuple #[bv e, .bool true, .bool false]) (by simp [results, Tryz.results33, go_sem, bv, blkV, p0, p1, p2, p3, p4, p5, p6, p7, p8]) rfl ⟨e, ?_, ?_, HOK.out.over HB.out, HB.out⟩
      · unfold hasM mrg cfl; rw [HCH.out]; rfl
      · intro _
        have hm : mrg (blks p) (blks q) (blks r) i = some e.1 := by unfold mrg; rw [HCH.out]
        exact ⟨hm, mrg_id hm, HME.out⟩
end Go.Proofs.YtelipjjjlgnjoaaGreatDoor
